/- -/
import Derived.Laws.OwnMore
import Derived.Laws.EntriesVeiled
import Derived.Lib.AppendZeros
import Derived.Test.YtcchjofjpflbhaaGreatDoorPAG8m7
import Derived.Test.YtcchjofjpflbhaaGreatDoorPAG16
import Derived.Test.YtcchjofjpflbhaaGreatDoorPAG14m6
import Derived.Test.YtcchjofjpflbhaaGreatDoorPAG15m14
import Derived.Test.YtcchjofjpflbhaaGreatDoorPAG13m12
import Derived.Test.YtcchjofjpflbhaaGreatDoorPAG13m4
import Derived.Test.YtcchjofjpflbhaaGreatDoorCards
import Derived.Test.YtcchjofjpflbhaaGreatDoorTie
import Derived.SevenTiedAt
set_option linter.unusedVariables false
set_option linter.unusedSimpArgs false
set_option maxRecDepth 100000
set_option maxHeartbeats 400000
namespace Go.Proofs.YtcchjofjpflbhaaGreatDoor.R
open Go.RowKit Go.Shelf Go.Proofs.YtcchjofjpflbhaaGreatDoor.C Go.Proofs.YtcchjofjpflbhaaGreatDoor.E

theorem need_no (w:World):Calls Tryz.prog 269 #[.bool false] w fun e w'=>e = .panicked gaveUp∧w=w':=by
 go_enter Tryz.func269,Tryz.ntmps269
 go_wp2
 exact ⟨rfl,rfl,rfl⟩
end Go.Proofs.YtcchjofjpflbhaaGreatDoor.R

set_option linter.unusedVariables false
set_option linter.unusedSimpArgs false
set_option maxRecDepth 100000
set_option maxHeartbeats 8000000
namespace Go.Proofs.YtcchjofjpflbhaaGreatDoor.T
open Go.RowKit Go.Shelf Go.Maps Go.Proofs.YtcchjofjpflbhaaGreatDoor.C Go.Proofs.YtcchjofjpflbhaaGreatDoor.E Go.Proofs.YtcchjofjpflbhaaGreatDoor.Ch
attribute [local go_sem] Oper.semAt_some

theorem pOf_no {B:Nat} (P Q:Nat) (hQ:P=Q+1) (hp:(P:Int)∈prm) (ls os:List Int) (hls:1≤ls.length∧ls.length≤2) (hos:os.length≤1) (g:Nat) (css:List (List (List UInt8))) (N:Nat) (hcl:css.length=N) (hN0:0<N) (hNl:N≤100) (vA:Option Addr) (vc:Nat) (oA:Option Addr) (oc:Nat) (w:World) (hL:Laid w) (hB:B≤w.heap.size) (hg:g<w.heap.size) (hcell:∀ j,j<ls.length→w.cell? ⟨g,j,none⟩=some (.int .i64 (ls[j]?.getD 0))) (hov:Vals w.heap.size w (.slice oA os.length oc) (os.map (Value.int .i64))) (hC:Cols B w (.slice vA N vc) css) (hsm:∀ j,j<css.length→(css[j]?.getD []).length≤1000) (hno:¬ RightD (P:Int) (kept (ls ++ os) css css.length)) :
 Calls Tryz.prog 62 #[.agg #[.int .i64 2,.int .i64 (P:Int),.slice (some ⟨g,0,none⟩) ls.length ls.length],.slice vA N vc,.slice oA os.length oc] w fun e w'=>e = .panicked (Pr.gave 2)∧Below w.heap.size w w':=by
 have hL1:1≤(ls ++ os).length∧(ls ++ os).length≤3:=by rw [List.length_append];omega
 obtain ⟨L,hLd⟩:∃ L,ls ++ os=L:=⟨_,rfl⟩
 obtain ⟨w0,hw0⟩:∃ x,(w.alloc (.cells #[.int .i64 2,.int .i64 (P:Int),.slice (some ⟨g,0,none⟩) ls.length ls.length] 90)).alloc (.cells #[.int .i64 0,.int .i64 0,.slice none 0 0,.slice none 0 0,.slice none 0 0,.slice none 0 0] 99)=x:=⟨_,rfl⟩
 obtain ⟨g0,hg0⟩:∃ x,w.heap.size=x:=⟨_,rfl⟩
 obtain ⟨g6,hg6⟩:∃ x,g0+1=x:=⟨_,rfl⟩
 have b0:Blk w0 g0 90 #[.int .i64 2,.int .i64 (P:Int),.slice (some ⟨g,0,none⟩) ls.length ls.length]:=by rw [←hw0,←hg0];exact (Blk.new w _ _).alloc _
 have b6:Blk w0 g6 99 #[.int .i64 0,.int .i64 0,.slice none 0 0,.slice none 0 0,.slice none 0 0,.slice none 0 0]:=by rw [←hw0,←hg6,←hg0];exact Blk.second w _ _ _
 have hB0:Below w.heap.size w w0:=by rw [←hw0];exact below_two w _ _
 have HLST:=Lib.hid (fun (V:World) (gb:Nat) (hV:Below w.heap.size w V) (hb:Blk V gb 45 #[.slice (some ⟨g,0,none⟩) ls.length ls.length,.slice oA os.length oc])=>(by
  have h:=concatN_any (B:=w.heap.size) gb 0 2 [ls.map (Value.int .i64),os.map (Value.int .i64)] (by simp) (by simp;omega) (by intro us hus u hu;simp only [List.mem_cons,List.not_mem_nil,or_false] at hus;rcases hus with rfl | rfl <;> (obtain ⟨_,_,rfl⟩:=List.mem_map.1 hu;rfl)) V hV.size hb.lt (fun j hj=>by
   have hj2:j=0∨j=1:=by simp at hj;omega
   rcases hj2 with rfl | rfl
   · refine ⟨_,hb.cell 0,.inr ⟨g,0,ls.length,by simp,by simp,hg,fun j u hu=>?_⟩⟩
     show V.cell? ⟨g,0+j,none⟩=some u
     have hu2:(ls.map (Value.int .i64))[j]?=some u:=hu
     rw [List.getElem?_map] at hu2
     have hj:j<ls.length:=by
      rcases Nat.lt_or_ge j ls.length with h | h
      · exact h
      · rw [List.getElem?_eq_none h] at hu2;cases hu2
     rw [List.getElem?_eq_getElem hj] at hu2
     injection hu2 with hu2
     rw [Nat.zero_add,(hV.cell (p:=⟨g,j,none⟩) hg).trans (hcell j hj),List.getElem?_eq_getElem hj,←hu2]
     rfl
   · exact ⟨_,hb.cell 1,hov.below hV⟩)
  have e:([ls.map (Value.int .i64),os.map (Value.int .i64)]:List (List Value)).flatten=L.map (Value.int .i64):=by rw [←hLd,List.map_append];simp
  rw [e] at h
  exact h:Calls Tryz.prog 112 #[.slice (some ⟨gb,0,none⟩) 2 2] V fun e w'=>∃ v',e = .returned v'∧OwnN w' V.heap.size v' (L.map (Value.int .i64))∧Below V.heap.size V w'))
 have HSS:Hid (∀ V,Below w0.heap.size w0 V→(fun U:World=>U.cell? ⟨g0,0,none⟩=some (.int .i64 2)∧U.cell? ⟨g0,1,none⟩=some (.int .i64 (P:Int))∧U.cell? ⟨g0,2,none⟩=some (.slice (some ⟨g,0,none⟩) ls.length ls.length)) V):=fun V hV=>⟨(b0.below hV b0.lt).cell 0,(b0.below hV b0.lt).cell 1,(b0.below hV b0.lt).cell 2⟩
 rw [hLd] at hno hL1
 have HFI:=Lib.hid (fun (gN cN:Nat) (V:World) (hV:Below w.heap.size w V) (h1:gN<V.heap.size) (h2:∀ j,j<L.length→V.cell? ⟨gN,j,none⟩=some (.int .i64 (L[j]?.getD 0)))=>filled_no (B:=B) (P:Int) (some ⟨g,0,none⟩) ls.length ls.length L hL1 gN cN css (by omega) (by omega) (.slice vA N vc) V (hL.next hV) (Nat.le_trans hB hV.size) h1 h2 (hC.below (hV.mono hB)) hsm hno)
 have HB0:=Lib.hid hB0
 have HL1:=Lib.hid hL1
 have HBB:Hid (B≤w.heap.size∧w.heap.size≤w0.heap.size∧g0<g6∧g6<w0.heap.size∧w.heap.size≤g0):=⟨hB,hB0.size,by omega,b6.lt,by omega⟩
 have HW0:=Lib.hid (And.intro hw0 (And.intro hg0 hg6))
 have H6:=Lib.hid (And.intro b0 b6)
 have HLL:=Lib.hid hL
 clear hLd hov hcell hC hsm hno hL hB0 hw0 hg0 hg6 b0 b6 hL1 hp hg hls hos hcl hN0 hNl hQ hB
 refine (callsIn_wide (n:=9)).1 ?_
 refine callsIn_of_wp_marks Tryz.func62 rfl trivial ?_ rfl
 simp only [Tryz.ntmps62,List.size_toArray,List.length_cons,List.length_nil,Nat.reduceAdd,Nat.reduceSub,Array.replicate_succ,Array.replicate_zero,List.push_toArray,List.append_toArray,List.nil_append,List.cons_append]
 gi_wp2_with fail
 (try rw [HW0.out.2.1]);(try rw [HW0.out.2.2]);(try rw [HW0.out.1])
 have hBx:=(Below.refl w0.heap.size w0).drew
 have hS:=HSS.out _ hBx
 refine wpIn_mono (region_HF (Q:=GaveP 2 w) (S:=(fun U:World=>U.cell? ⟨g0,0,none⟩=some (.int .i64 2)∧U.cell? ⟨g0,1,none⟩=some (.int .i64 (P:Int))∧U.cell? ⟨g0,2,none⟩=some (.slice (some ⟨g,0,none⟩) ls.length ls.length))) (by kernel_rfl) ?_) (fun e a w' h=>by obtain ⟨rfl,hd,hB⟩:=h;obtain ⟨tm,df⟩:=a;have hd':df = []:=hd;subst hd';exact ⟨rfl,hB⟩)
 refine tkF (i:=0) (d:=13) (v:=.agg #[.int .i64 2,.int .i64 (P:Int),.slice (some ⟨g,0,none⟩) ls.length ls.length]) (s:=hS) (c:=?_)
 simp only [ud9]
 refine tkF (i:=1) (d:=14) (v:=.slice vA N vc) (s:=hS) (c:=?_)
 simp only [ud9]
 refine tkF (i:=2) (d:=15) (v:=.pointer (some ⟨g0,2,none⟩)) (s:=hS) (c:=?_)
 simp only [ud9]
 refine tkF (i:=3) (d:=16) (v:=.slice (some ⟨g,0,none⟩) ls.length ls.length) (s:=hS) (c:=?_)
 simp only [ud9]
 refine tkF (i:=4) (d:=17) (v:=.slice oA os.length oc) (s:=hS) (c:=?_)
 simp only [ud9]
 refine Rg.anyHF_both (i:=5) (j:=11) (by kernel_rfl) rfl rfl (by rfl) (by rfl) ?c1a ?c1b
 case c1a =>
  have hB:Below w0.drew.heap.size w0.drew (w0.drew.alloc (.cells #[.slice (some ⟨g,0,none⟩) ls.length ls.length,.slice oA os.length oc] 45)):=below_one w0.drew _
  have bE:Blk (w0.drew.alloc (.cells #[.slice (some ⟨g,0,none⟩) ls.length ls.length,.slice oA os.length oc] 45)) w0.drew.heap.size 45 #[.slice (some ⟨g,0,none⟩) ls.length ls.length,.slice oA os.length oc]:=Blk.new w0.drew _ _
  obtain ⟨v2,he⟩:∃ x,(w0.drew.alloc (.cells #[.slice (some ⟨g,0,none⟩) ls.length ls.length,.slice oA os.length oc] 45))=x:=⟨_,rfl⟩
  obtain ⟨gE,hg⟩:∃ x,w0.drew.heap.size=x:=⟨_,rfl⟩
  rw [he] at hB bE
  rw [hg] at bE
  replace hBx:=below_in hBx hB
  clear hS
  have hS:(fun U:World=>U.cell? ⟨g0,0,none⟩=some (.int .i64 2)∧U.cell? ⟨g0,1,none⟩=some (.int .i64 (P:Int))∧U.cell? ⟨g0,2,none⟩=some (.slice (some ⟨g,0,none⟩) ls.length ls.length)) v2:=HSS.out _ hBx
  gi_wp2
  (try rw [hg]);(try rw [he])
  try (refine ⟨hS,?_⟩)
  clear hB he hg
  refine Rg.anyHF_both (i:=6) (j:=11) (by kernel_rfl) rfl rfl (by rfl) (by rfl) ?c3a ?c3b
  case c3a =>
   gi_wp2_with fail
   refine ⟨trivial,(callsIn_wide.2 (HLST.out _ gE (below_in HB0.out hBx) bE)).mono ?_⟩
   rintro e v4 ⟨lv,rfl,hlv,hB⟩
   obtain ⟨gN,cN,rfl,hgN1,hgN2,hgNc⟩:=own_ints hlv HL1.out.1
   have hBN:=Below.refl v4.heap.size v4
   have HGN:=Lib.hid hgNc
   clear hgNc hlv
   replace bE:=bE.below hB bE.lt
   replace hBx:=below_in hBx hB
   clear hS
   have hS:(fun U:World=>U.cell? ⟨g0,0,none⟩=some (.int .i64 2)∧U.cell? ⟨g0,1,none⟩=some (.int .i64 (P:Int))∧U.cell? ⟨g0,2,none⟩=some (.slice (some ⟨g,0,none⟩) ls.length ls.length)) v4:=HSS.out _ hBx
   clear hB
   gi_wp2
   try (refine ⟨hS,?_⟩)
   refine Rg.anyHF_both (i:=7) (j:=11) (by kernel_rfl) rfl rfl (by rfl) (by rfl) ?c5a ?c5b
   case c5a =>
    gi_wp2_with fail
    refine ⟨trivial,(callsIn_wide.2 (HFI.out gN cN _ (below_in HB0.out hBx) (Nat.lt_of_lt_of_le hgN2 hBN.size) (fun j hj=>(hBN.cell (p:=⟨gN,j,none⟩) hgN2).trans (HGN.out j hj)))).mono ?_⟩
    rintro e v6 ⟨rfl,hB⟩
    exact ⟨rfl,rfl,below_in HB0.out (below_in hBx hB)⟩
   case c5b =>
    have hge_g7:=hBx.size
    (try have hszG_g7:=hBG.size)
    have hB:Below v4.heap.size v4 (v4.alloc (.cells #[.slice none 0 0] 40)):=below_one v4 _
    have b7:Blk (v4.alloc (.cells #[.slice none 0 0] 40)) v4.heap.size 40 #[.slice none 0 0]:=Blk.new v4 _ _
    obtain ⟨a7,he⟩:∃ x,(v4.alloc (.cells #[.slice none 0 0] 40))=x:=⟨_,rfl⟩
    obtain ⟨g7,hg⟩:∃ x,v4.heap.size=x:=⟨_,rfl⟩
    have hsz:a7.heap.size=g7+1:=by rw [←he,←hg];simp
    rw [he] at hB b7
    rw [hg] at b7
    have H_g7:=Lib.hid (And.intro hg hsz)
    have hBA:=Below.refl a7.heap.size a7
    clear hsz
    replace hBN:=below_in hBN hB
    replace hBx:=below_in hBx hB
    clear hS
    have hS:(fun U:World=>U.cell? ⟨g0,0,none⟩=some (.int .i64 2)∧U.cell? ⟨g0,1,none⟩=some (.int .i64 (P:Int))∧U.cell? ⟨g0,2,none⟩=some (.slice (some ⟨g,0,none⟩) ls.length ls.length)) a7:=HSS.out _ hBx
    gi_wp2
    (try rw [hg]);(try rw [he])
    try (refine ⟨hS,?_⟩)
    clear hB he hg
    refine oneF (i:=7) (c:=?_)
    gi_wp2_with fail
    refine ⟨trivial,(callsIn_wide.2 (HFI.out gN cN _ (below_in HB0.out hBx) (Nat.lt_of_lt_of_le hgN2 hBN.size) (fun j hj=>(hBN.cell (p:=⟨gN,j,none⟩) hgN2).trans (HGN.out j hj)))).mono ?_⟩
    rintro e v8 ⟨rfl,hB⟩
    exact ⟨rfl,rfl,below_in HB0.out (below_in hBx hB)⟩
  case c3b =>
   have hge_g7:=hBx.size
   (try have hszG_g7:=hBG.size)
   have hB:Below v2.heap.size v2 (v2.alloc (.cells #[.slice none 0 0] 40)):=below_one v2 _
   have b7:Blk (v2.alloc (.cells #[.slice none 0 0] 40)) v2.heap.size 40 #[.slice none 0 0]:=Blk.new v2 _ _
   obtain ⟨a9,he⟩:∃ x,(v2.alloc (.cells #[.slice none 0 0] 40))=x:=⟨_,rfl⟩
   obtain ⟨g7,hg⟩:∃ x,v2.heap.size=x:=⟨_,rfl⟩
   have hsz:a9.heap.size=g7+1:=by rw [←he,←hg];simp
   rw [he] at hB b7
   rw [hg] at b7
   have H_g7:=Lib.hid (And.intro hg hsz)
   have hBA:=Below.refl a9.heap.size a9
   clear hsz
   replace bE:=bE.below hB bE.lt
   replace hBx:=below_in hBx hB
   clear hS
   have hS:(fun U:World=>U.cell? ⟨g0,0,none⟩=some (.int .i64 2)∧U.cell? ⟨g0,1,none⟩=some (.int .i64 (P:Int))∧U.cell? ⟨g0,2,none⟩=some (.slice (some ⟨g,0,none⟩) ls.length ls.length)) a9:=HSS.out _ hBx
   gi_wp2
   (try rw [hg]);(try rw [he])
   try (refine ⟨hS,?_⟩)
   clear hB he hg
   refine oneF (i:=6) (c:=?_)
   gi_wp2_with fail
   refine ⟨trivial,(callsIn_wide.2 (HLST.out _ gE (below_in HB0.out hBx) bE)).mono ?_⟩
   rintro e v10 ⟨lv,rfl,hlv,hB⟩
   obtain ⟨gN,cN,rfl,hgN1,hgN2,hgNc⟩:=own_ints hlv HL1.out.1
   have hBN:=Below.refl v10.heap.size v10
   have HGN:=Lib.hid hgNc
   clear hgNc hlv
   replace bE:=bE.below hB bE.lt
   replace b7:=b7.below hB b7.lt
   replace hBA:=below_in hBA hB
   replace hBx:=below_in hBx hB
   clear hS
   have hS:(fun U:World=>U.cell? ⟨g0,0,none⟩=some (.int .i64 2)∧U.cell? ⟨g0,1,none⟩=some (.int .i64 (P:Int))∧U.cell? ⟨g0,2,none⟩=some (.slice (some ⟨g,0,none⟩) ls.length ls.length)) v10:=HSS.out _ hBx
   clear hB
   gi_wp2
   try (refine ⟨hS,?_⟩)
   refine oneF (i:=7) (c:=?_)
   gi_wp2_with fail
   refine ⟨trivial,(callsIn_wide.2 (HFI.out gN cN _ (below_in HB0.out hBx) (Nat.lt_of_lt_of_le hgN2 hBN.size) (fun j hj=>(hBN.cell (p:=⟨gN,j,none⟩) hgN2).trans (HGN.out j hj)))).mono ?_⟩
   rintro e v11 ⟨rfl,hB⟩
   exact ⟨rfl,rfl,below_in HB0.out (below_in hBx hB)⟩
 case c1b =>
  have hge_g7:=hBx.size
  (try have hszG_g7:=hBG.size)
  have hB:Below w0.drew.heap.size w0.drew (w0.drew.alloc (.cells #[.slice none 0 0] 40)):=below_one w0.drew _
  have b7:Blk (w0.drew.alloc (.cells #[.slice none 0 0] 40)) w0.drew.heap.size 40 #[.slice none 0 0]:=Blk.new w0.drew _ _
  obtain ⟨a12,he⟩:∃ x,(w0.drew.alloc (.cells #[.slice none 0 0] 40))=x:=⟨_,rfl⟩
  obtain ⟨g7,hg⟩:∃ x,w0.drew.heap.size=x:=⟨_,rfl⟩
  have hsz:a12.heap.size=g7+1:=by rw [←he,←hg];simp
  rw [he] at hB b7
  rw [hg] at b7
  have H_g7:=Lib.hid (And.intro hg hsz)
  have hBA:=Below.refl a12.heap.size a12
  clear hsz
  replace hBx:=below_in hBx hB
  clear hS
  have hS:(fun U:World=>U.cell? ⟨g0,0,none⟩=some (.int .i64 2)∧U.cell? ⟨g0,1,none⟩=some (.int .i64 (P:Int))∧U.cell? ⟨g0,2,none⟩=some (.slice (some ⟨g,0,none⟩) ls.length ls.length)) a12:=HSS.out _ hBx
  gi_wp2
  (try rw [hg]);(try rw [he])
  try (refine ⟨hS,?_⟩)
  clear hB he hg
  refine oneF (i:=5) (c:=?_)
  have hB:Below a12.heap.size a12 (a12.alloc (.cells #[.slice (some ⟨g,0,none⟩) ls.length ls.length,.slice oA os.length oc] 45)):=below_one a12 _
  have bE:Blk (a12.alloc (.cells #[.slice (some ⟨g,0,none⟩) ls.length ls.length,.slice oA os.length oc] 45)) a12.heap.size 45 #[.slice (some ⟨g,0,none⟩) ls.length ls.length,.slice oA os.length oc]:=Blk.new a12 _ _
  obtain ⟨v13,he⟩:∃ x,(a12.alloc (.cells #[.slice (some ⟨g,0,none⟩) ls.length ls.length,.slice oA os.length oc] 45))=x:=⟨_,rfl⟩
  obtain ⟨gE,hg⟩:∃ x,a12.heap.size=x:=⟨_,rfl⟩
  rw [he] at hB bE
  rw [hg] at bE
  replace b7:=b7.below hB b7.lt
  replace hBA:=below_in hBA hB
  replace hBx:=below_in hBx hB
  clear hS
  have hS:(fun U:World=>U.cell? ⟨g0,0,none⟩=some (.int .i64 2)∧U.cell? ⟨g0,1,none⟩=some (.int .i64 (P:Int))∧U.cell? ⟨g0,2,none⟩=some (.slice (some ⟨g,0,none⟩) ls.length ls.length)) v13:=HSS.out _ hBx
  gi_wp2
  (try rw [hg]);(try rw [he])
  try (refine ⟨hS,?_⟩)
  clear hB he hg
  refine oneF (i:=6) (c:=?_)
  gi_wp2_with fail
  refine ⟨trivial,(callsIn_wide.2 (HLST.out _ gE (below_in HB0.out hBx) bE)).mono ?_⟩
  rintro e v14 ⟨lv,rfl,hlv,hB⟩
  obtain ⟨gN,cN,rfl,hgN1,hgN2,hgNc⟩:=own_ints hlv HL1.out.1
  have hBN:=Below.refl v14.heap.size v14
  have HGN:=Lib.hid hgNc
  clear hgNc hlv
  replace b7:=b7.below hB b7.lt
  replace bE:=bE.below hB bE.lt
  replace hBA:=below_in hBA hB
  replace hBx:=below_in hBx hB
  clear hS
  have hS:(fun U:World=>U.cell? ⟨g0,0,none⟩=some (.int .i64 2)∧U.cell? ⟨g0,1,none⟩=some (.int .i64 (P:Int))∧U.cell? ⟨g0,2,none⟩=some (.slice (some ⟨g,0,none⟩) ls.length ls.length)) v14:=HSS.out _ hBx
  clear hB
  gi_wp2
  try (refine ⟨hS,?_⟩)
  refine oneF (i:=7) (c:=?_)
  gi_wp2_with fail
  refine ⟨trivial,(callsIn_wide.2 (HFI.out gN cN _ (below_in HB0.out hBx) (Nat.lt_of_lt_of_le hgN2 hBN.size) (fun j hj=>(hBN.cell (p:=⟨gN,j,none⟩) hgN2).trans (HGN.out j hj)))).mono ?_⟩
  rintro e v15 ⟨rfl,hB⟩
  exact ⟨rfl,rfl,below_in HB0.out (below_in hBx hB)⟩
end Go.Proofs.YtcchjofjpflbhaaGreatDoor.T

set_option linter.unusedVariables false
set_option linter.unusedSimpArgs false
set_option maxRecDepth 100000
set_option maxHeartbeats 8000000
namespace Go.Proofs.YtcchjofjpflbhaaGreatDoor.T
open Go.RowKit Go.Shelf Go.Maps Go.Proofs.YtcchjofjpflbhaaGreatDoor.C Go.Proofs.YtcchjofjpflbhaaGreatDoor.E Go.Proofs.YtcchjofjpflbhaaGreatDoor.Ch
attribute [local go_sem] Oper.semAt_some

theorem enter_of1:∀ args W,(callFunc 119 args).run Tryz.prog W = .ok (.enter 119 args) W:=enters_of Tryz.func119 (by kernel_rfl) rfl
theorem xor_three {n:Nat} {la lb lc:List UInt8} (h1:1≤n) (h64:n≤64) (ha:la.length=n) (hb:lb.length=n) (hc:lc.length=n):XorOk [la,lb,lc]:=by
 refine ⟨by simp,⟨?_,?_⟩,fun j hj=>?_⟩
 · show 1≤la.length;omega
 · show la.length≤64;omega
 · have hj2:j=0∨j=1∨j=2:=by simp at hj;omega
   rcases hj2 with rfl | rfl | rfl
   · rfl
   · show lb.length=la.length;omega
   · show lc.length=la.length;omega
theorem pOf_yes {B:Nat} (P Q:Nat) (hQ:P=Q+1) (hp:(P:Int)∈prm) (ls os:List Int) (hls:1≤ls.length∧ls.length≤2) (hos:os.length≤1) (g:Nat) (css:List (List (List UInt8))) (N:Nat) (hcl:css.length=N) (hN0:0<N) (hNl:N≤100) (vA:Option Addr) (vc:Nat) (oA:Option Addr) (oc:Nat) (w:World) (hL:Laid w) (hB:B≤w.heap.size) (hg:g<w.heap.size) (hcell:∀ j,j<ls.length→w.cell? ⟨g,j,none⟩=some (.int .i64 (ls[j]?.getD 0))) (hov:Vals w.heap.size w (.slice oA os.length oc) (os.map (Value.int .i64))) (hC:Cols B w (.slice vA N vc) css) (n:Nat) (d:Rg.Dims P Q n) (hNP:N=P+1) (hrange:∀ x∈ls ++ os,0≤x∧x<(N:Int)) (hk0:0<(kept (ls ++ os) css css.length).length) (hgood:∀ i,i<css.length→(i:Int)∉ls ++ os→GoodC Q n (css[i]?.getD [])) :
 Calls Tryz.prog 62 #[.agg #[.int .i64 2,.int .i64 (P:Int),.slice (some ⟨g,0,none⟩) ls.length ls.length],.slice vA N vc,.slice oA os.length oc] w fun e w'=>∃ A1 k1 A2 k2 nA nc,e = .returned (.agg #[.int .i64 2,.int .i64 (P:Int),.slice (some ⟨g,0,none⟩) ls.length ls.length,.slice A1 Q k1,.slice A2 Q k2,.slice nA n nc])∧Many w'.heap.size w' (.slice A1 Q k1) (rsP P Q (lostC (ls ++ os) Q n css))∧Many w'.heap.size w' (.slice A2 Q k2) (dsP P Q (lostC (ls ++ os) Q n css))∧Bytes w'.heap.size w' (.slice nA n nc) (List.replicate n 0)∧Below w.heap.size w w':=by
 have hpb:=prm_bounds d.hp
 have hL1:1≤(ls ++ os).length∧(ls ++ os).length≤3:=by rw [List.length_append];omega
 obtain ⟨L,hLd⟩:∃ L,ls ++ os=L:=⟨_,rfl⟩
 obtain ⟨w0,hw0⟩:∃ x,(w.alloc (.cells #[.int .i64 2,.int .i64 (P:Int),.slice (some ⟨g,0,none⟩) ls.length ls.length] 90)).alloc (.cells #[.int .i64 0,.int .i64 0,.slice none 0 0,.slice none 0 0,.slice none 0 0,.slice none 0 0] 99)=x:=⟨_,rfl⟩
 obtain ⟨g0,hg0⟩:∃ x,w.heap.size=x:=⟨_,rfl⟩
 obtain ⟨g6,hg6⟩:∃ x,g0+1=x:=⟨_,rfl⟩
 have b0:Blk w0 g0 90 #[.int .i64 2,.int .i64 (P:Int),.slice (some ⟨g,0,none⟩) ls.length ls.length]:=by rw [←hw0,←hg0];exact (Blk.new w _ _).alloc _
 have b6:Blk w0 g6 99 #[.int .i64 0,.int .i64 0,.slice none 0 0,.slice none 0 0,.slice none 0 0,.slice none 0 0]:=by rw [←hw0,←hg6,←hg0];exact Blk.second w _ _ _
 have hB0:Below w.heap.size w w0:=by rw [←hw0];exact below_two w _ _
 have HLST:=Lib.hid (fun (V:World) (gb:Nat) (hV:Below w.heap.size w V) (hb:Blk V gb 45 #[.slice (some ⟨g,0,none⟩) ls.length ls.length,.slice oA os.length oc])=>(by
  have h:=concatN_any (B:=w.heap.size) gb 0 2 [ls.map (Value.int .i64),os.map (Value.int .i64)] (by simp) (by simp;omega) (by intro us hus u hu;simp only [List.mem_cons,List.not_mem_nil,or_false] at hus;rcases hus with rfl | rfl <;> (obtain ⟨_,_,rfl⟩:=List.mem_map.1 hu;rfl)) V hV.size hb.lt (fun j hj=>by
   have hj2:j=0∨j=1:=by simp at hj;omega
   rcases hj2 with rfl | rfl
   · refine ⟨_,hb.cell 0,.inr ⟨g,0,ls.length,by simp,by simp,hg,fun j u hu=>?_⟩⟩
     show V.cell? ⟨g,0+j,none⟩=some u
     have hu2:(ls.map (Value.int .i64))[j]?=some u:=hu
     rw [List.getElem?_map] at hu2
     have hj:j<ls.length:=by
      rcases Nat.lt_or_ge j ls.length with h | h
      · exact h
      · rw [List.getElem?_eq_none h] at hu2;cases hu2
     rw [List.getElem?_eq_getElem hj] at hu2
     injection hu2 with hu2
     rw [Nat.zero_add,(hV.cell (p:=⟨g,j,none⟩) hg).trans (hcell j hj),List.getElem?_eq_getElem hj,←hu2]
     rfl
   · exact ⟨_,hb.cell 1,hov.below hV⟩)
  have e:([ls.map (Value.int .i64),os.map (Value.int .i64)]:List (List Value)).flatten=L.map (Value.int .i64):=by rw [←hLd,List.map_append];simp
  rw [e] at h
  exact h:Calls Tryz.prog 112 #[.slice (some ⟨gb,0,none⟩) 2 2] V fun e w'=>∃ v',e = .returned v'∧OwnN w' V.heap.size v' (L.map (Value.int .i64))∧Below V.heap.size V w'))
 have HSS:Hid (∀ V,Below w0.heap.size w0 V→(fun U:World=>U.cell? ⟨g0,0,none⟩=some (.int .i64 2)∧U.cell? ⟨g0,1,none⟩=some (.int .i64 (P:Int))∧U.cell? ⟨g0,2,none⟩=some (.slice (some ⟨g,0,none⟩) ls.length ls.length)) V):=fun V hV=>⟨(b0.below hV b0.lt).cell 0,(b0.below hV b0.lt).cell 1,(b0.below hV b0.lt).cell 2⟩
 rw [hLd] at hrange hk0 hgood hL1 ⊢
 have HFI:=Lib.hid (fun (gN cN:Nat) (V:World) (hV:Below w.heap.size w V) (h1:gN<V.heap.size) (h2:∀ j,j<L.length→V.cell? ⟨gN,j,none⟩=some (.int .i64 (L[j]?.getD 0)))=>filled_yes (B:=B) (P:Int) (some ⟨g,0,none⟩) ls.length ls.length L hL1 gN cN css (by omega) (by omega) (.slice vA N vc) V (hL.next hV) (Nat.le_trans hB hV.size) h1 h2 (hC.below (hV.mono hB)) P Q n d rfl (by rw [hcl];exact hrange) hk0 hgood)
 have hgl:=lost_good d hgood
 have hll:(lostC L Q n css).length=N:=by rw [lostC_len,hcl]
 rw [hcl] at HFI hgl
 obtain ⟨hok,hfn⟩:=takeP_ok d (by rw [hll,hNP]) (fun c hc=>hgl c (by omega))
 have hAR:R.AllR (P:Int) (lostC L Q n css):=⟨(Rg.right_of_good d.hQ d.hp (by omega) (fun j hj=>hgl j (by omega))).1,by rw [hll,hNP];push_cast;rfl⟩
 have HK:=Lib.hid (And.intro hok (And.intro hfn (And.intro hAR (And.intro hgl hll))))
 have HD:=Lib.hid d
 have HNP:=Lib.hid hNP
 have HQ2:Hid (2≤Q):=by unfold Hid;have:=d.hQ;omega
 have HB0:=Lib.hid hB0
 have HL1:=Lib.hid hL1
 have HBB:Hid (B≤w.heap.size∧w.heap.size≤w0.heap.size∧g0<g6∧g6<w0.heap.size∧w.heap.size≤g0):=⟨hB,hB0.size,by omega,b6.lt,by omega⟩
 have HW0:=Lib.hid (And.intro hw0 (And.intro hg0 hg6))
 have H6:=Lib.hid (And.intro b0 b6)
 have HLL:=Lib.hid hL
 clear hok hfn hAR hgl hll hrange hk0 hgood d hNP hLd hov hcell hC hL hB0 hw0 hg0 hg6 b0 b6 hL1 hp hg hls hos hcl hN0 hNl hQ hB hpb
 obtain ⟨KK1,hKK1⟩:∃ K:Exit→Act→World→Prop,K=(fun e a Z=>e=Exit.normal∧∃ x12 x13 x14 x15 x16 x17 x18 x19 x20 x21 x22 g7 gC cc nA nc,a=({ tmps:=#[.agg #[.int .i64 2,.int .i64 (P:Int),.slice (some ⟨g,0,none⟩) ls.length ls.length],.slice vA N vc,.slice oA os.length oc,.pointer (some ⟨g0,0,none⟩),undef,undef,.pointer (some ⟨g6,0,none⟩),.pointer (some ⟨g7,0,none⟩),.slice nA n nc,undef,undef,undef,x12,x13,x14,x15,x16,x17,x18,x19,x20,x21,x22,undef,undef,undef,undef,undef,undef,undef,undef,undef,undef,undef,undef,undef,undef,undef,undef,undef,undef,undef,undef,undef,undef,undef,undef,undef,undef,undef,undef,undef,undef,undef,undef,undef],defers:=[] }:Act)∧Blk Z g7 40 #[.slice (some ⟨gC,0,none⟩) N cc]∧Cols Z.heap.size Z (.slice (some ⟨gC,0,none⟩) N cc) (lostC L Q n css)∧Bytes Z.heap.size Z (.slice nA n nc) (List.replicate n 0)∧Below w0.heap.size w0 Z∧w0.heap.size≤g7):=⟨_,rfl⟩
 have HKC1:=Lib.hid hKK1
 clear hKK1
 refine (callsIn_wide (n:=9)).1 ?_
 refine callsIn_of_wp_marks Tryz.func62 rfl trivial ?_ rfl
 simp only [Tryz.ntmps62,List.size_toArray,List.length_cons,List.length_nil,Nat.reduceAdd,Nat.reduceSub,Array.replicate_succ,Array.replicate_zero,List.push_toArray,List.append_toArray,List.nil_append,List.cons_append]
 gi_wp2_with fail
 (try rw [HW0.out.2.1]);(try rw [HW0.out.2.2]);(try rw [HW0.out.1])
 have hBx:=(Below.refl w0.heap.size w0).drew
 have hS:=HSS.out _ hBx
 refine wpIn_mono (Q:=KK1) (wpIn_mono (region_HF (Q:=NoPanic KK1) (S:=(fun U:World=>U.cell? ⟨g0,0,none⟩=some (.int .i64 2)∧U.cell? ⟨g0,1,none⟩=some (.int .i64 (P:Int))∧U.cell? ⟨g0,2,none⟩=some (.slice (some ⟨g,0,none⟩) ls.length ls.length))) (by kernel_rfl) ?reg1) NoPanic.imp) ?cont1
 case reg1 =>
  refine tkF (i:=0) (d:=13) (v:=.agg #[.int .i64 2,.int .i64 (P:Int),.slice (some ⟨g,0,none⟩) ls.length ls.length]) (s:=hS) (c:=?_)
  simp only [ud9]
  refine tkF (i:=1) (d:=14) (v:=.slice vA N vc) (s:=hS) (c:=?_)
  simp only [ud9]
  refine tkF (i:=2) (d:=15) (v:=.pointer (some ⟨g0,2,none⟩)) (s:=hS) (c:=?_)
  simp only [ud9]
  refine tkF (i:=3) (d:=16) (v:=.slice (some ⟨g,0,none⟩) ls.length ls.length) (s:=hS) (c:=?_)
  simp only [ud9]
  refine tkF (i:=4) (d:=17) (v:=.slice oA os.length oc) (s:=hS) (c:=?_)
  simp only [ud9]
  refine Rg.anyHF_both (i:=5) (j:=11) (by kernel_rfl) rfl rfl (by rfl) (by rfl) ?c1a ?c1b
  case c1a =>
   have hB:Below w0.drew.heap.size w0.drew (w0.drew.alloc (.cells #[.slice (some ⟨g,0,none⟩) ls.length ls.length,.slice oA os.length oc] 45)):=below_one w0.drew _
   have bE:Blk (w0.drew.alloc (.cells #[.slice (some ⟨g,0,none⟩) ls.length ls.length,.slice oA os.length oc] 45)) w0.drew.heap.size 45 #[.slice (some ⟨g,0,none⟩) ls.length ls.length,.slice oA os.length oc]:=Blk.new w0.drew _ _
   obtain ⟨v2,he⟩:∃ x,(w0.drew.alloc (.cells #[.slice (some ⟨g,0,none⟩) ls.length ls.length,.slice oA os.length oc] 45))=x:=⟨_,rfl⟩
   obtain ⟨gE,hg⟩:∃ x,w0.drew.heap.size=x:=⟨_,rfl⟩
   rw [he] at hB bE
   rw [hg] at bE
   replace hBx:=below_in hBx hB
   clear hS
   have hS:(fun U:World=>U.cell? ⟨g0,0,none⟩=some (.int .i64 2)∧U.cell? ⟨g0,1,none⟩=some (.int .i64 (P:Int))∧U.cell? ⟨g0,2,none⟩=some (.slice (some ⟨g,0,none⟩) ls.length ls.length)) v2:=HSS.out _ hBx
   gi_wp2
   (try rw [hg]);(try rw [he])
   try (refine ⟨hS,?_⟩)
   clear hB he hg
   refine Rg.anyHF_both (i:=6) (j:=11) (by kernel_rfl) rfl rfl (by rfl) (by rfl) ?c3a ?c3b
   case c3a =>
    gi_wp2_with fail
    refine ⟨trivial,(callsIn_wide.2 (HLST.out _ gE (below_in HB0.out hBx) bE)).mono ?_⟩
    rintro e v4 ⟨lv,rfl,hlv,hB⟩
    obtain ⟨gN,cN,rfl,hgN1,hgN2,hgNc⟩:=own_ints hlv HL1.out.1
    have hBN:=Below.refl v4.heap.size v4
    have HGN:=Lib.hid hgNc
    clear hgNc hlv
    replace bE:=bE.below hB bE.lt
    replace hBx:=below_in hBx hB
    clear hS
    have hS:(fun U:World=>U.cell? ⟨g0,0,none⟩=some (.int .i64 2)∧U.cell? ⟨g0,1,none⟩=some (.int .i64 (P:Int))∧U.cell? ⟨g0,2,none⟩=some (.slice (some ⟨g,0,none⟩) ls.length ls.length)) v4:=HSS.out _ hBx
    clear hB
    gi_wp2
    try (refine ⟨hS,?_⟩)
    refine Rg.anyHF_both (i:=7) (j:=11) (by kernel_rfl) rfl rfl (by rfl) (by rfl) ?c5a ?c5b
    case c5a =>
     have hszF:=hBx.size
     (try have hszF7:=hBA.size)
     gi_wp2_with fail
     refine ⟨trivial,(callsIn_wide.2 (HFI.out gN cN _ (below_in HB0.out hBx) (Nat.lt_of_lt_of_le hgN2 hBN.size) (fun j hj=>(hBN.cell (p:=⟨gN,j,none⟩) hgN2).trans (HGN.out j hj)))).mono ?_⟩
     rintro e v6 ⟨gC,cc,nA,nc,rfl,hcol,hno,hB⟩
     have hszG:=hB.size
     have hBG:=Below.refl v6.heap.size v6
     replace hBN:=below_in hBN hB
     replace hBx:=below_in hBx hB
     clear hS
     have hS:(fun U:World=>U.cell? ⟨g0,0,none⟩=some (.int .i64 2)∧U.cell? ⟨g0,1,none⟩=some (.int .i64 (P:Int))∧U.cell? ⟨g0,2,none⟩=some (.slice (some ⟨g,0,none⟩) ls.length ls.length)) v6:=HSS.out _ hBx
     clear hB
     gi_wp2
     try (refine ⟨hS,?_⟩)
     refine tkF (i:=8) (d:=12) (v:=.tuple #[.slice (some ⟨gC,0,none⟩) N cc,.slice nA n nc]) (s:=hS) (c:=?_)
     simp only [ud9]
     refine tkF (i:=9) (d:=21) (v:=.slice (some ⟨gC,0,none⟩) N cc) (s:=hS) (c:=?_)
     simp only [ud9]
     refine tkF (i:=10) (d:=22) (v:=.slice nA n nc) (s:=hS) (c:=?_)
     simp only [ud9]
     refine oneF (i:=11) (c:=?_)
     have hge_g7:=hBx.size
     (try have hszG_g7:=hBG.size)
     have hB:Below v6.heap.size v6 (v6.alloc (.cells #[.slice none 0 0] 40)):=below_one v6 _
     have b7:Blk (v6.alloc (.cells #[.slice none 0 0] 40)) v6.heap.size 40 #[.slice none 0 0]:=Blk.new v6 _ _
     obtain ⟨a7,he⟩:∃ x,(v6.alloc (.cells #[.slice none 0 0] 40))=x:=⟨_,rfl⟩
     obtain ⟨g7,hg⟩:∃ x,v6.heap.size=x:=⟨_,rfl⟩
     have hsz:a7.heap.size=g7+1:=by rw [←he,←hg];simp
     rw [he] at hB b7
     rw [hg] at b7
     have H_g7:=Lib.hid (And.intro hg hsz)
     have hBA:=Below.refl a7.heap.size a7
     clear hsz
     replace hBN:=below_in hBN hB
     replace hBG:=below_in hBG hB
     replace hBx:=below_in hBx hB
     clear hS
     have hS:(fun U:World=>U.cell? ⟨g0,0,none⟩=some (.int .i64 2)∧U.cell? ⟨g0,1,none⟩=some (.int .i64 (P:Int))∧U.cell? ⟨g0,2,none⟩=some (.slice (some ⟨g,0,none⟩) ls.length ls.length)) a7:=HSS.out _ hBx
     gi_wp2
     (try rw [hg]);(try rw [he])
     try (refine ⟨hS,?_⟩)
     clear hB he hg
     refine oneF (i:=12) (c:=?_)
     have k7:a7.cell? ⟨g7,0,none⟩=some (.slice none 0 0):=b7.one
     have f7:=b7.frozen 0
     have hne7:∀ b,(b<B∨v4.heap.size≤b)∧b<v6.heap.size→b≠g7∧b<a7.heap.size:=fun b hb=>by have h7:=H_g7.out;have h8:=hBG.size;have h9:=HBB.out;have h10:=hb.1;have h11:=hb.2;omega
     obtain ⟨Z,hZ⟩:∃ z,a7.setCell ⟨g7,0,none⟩ (.slice (some ⟨gC,0,none⟩) N cc)=z:=⟨_,rfl⟩
     have hkZ:∀ b,b≠g7→Z.heap[b]?=a7.heap[b]?:=fun b hb=>by rw [←hZ];exact Below.heap_setCell a7 ⟨g7,0,none⟩ _ b hb
     have hzZ:Z.heap.size=a7.heap.size:=by rw [←hZ];simp
     have hCZ:Cols Z.heap.size Z (.slice (some ⟨gC,0,none⟩) N cc) (lostC L Q n css):=colsR.imp (colsR.keep hcol fun b hb=>(hkZ b (hne7 b hb).1).trans (hBG.block b hb.2)) fun b hb=>(show b<Z.heap.size by rw [hzZ];exact (hne7 b hb).2)
     have hNZ:Bytes Z.heap.size Z (.slice nA n nc) (List.replicate n 0):=bytesR.imp (bytesR.keep hno fun b hb=>(hkZ b (hne7 b hb).1).trans (hBG.block b hb.2)) fun b hb=>(show b<Z.heap.size by rw [hzZ];exact (hne7 b hb).2)
     have b7Z:Blk Z g7 40 #[.slice (some ⟨gC,0,none⟩) N cc]:=by rw [←hZ];exact b7.set_ 0 _
     have hBZ:Below w0.heap.size w0 Z:=by rw [←hZ];exact hBx.setCell (by show w0.heap.size≤g7;have:=H_g7.out;omega) _
     have HZZ:=Lib.hid (And.intro hkZ hzZ)
     clear hkZ hzZ hcol hno
     gi_wp2
     (try rw [hZ])
     clear hS k7 f7
     replace hBx:=hBZ
     have hS:(fun U:World=>U.cell? ⟨g0,0,none⟩=some (.int .i64 2)∧U.cell? ⟨g0,1,none⟩=some (.int .i64 (P:Int))∧U.cell? ⟨g0,2,none⟩=some (.slice (some ⟨g,0,none⟩) ls.length ls.length)) Z:=HSS.out _ hBZ
     try (refine ⟨hS,?_⟩)
     clear hZ
     refine oneF (i:=13) (c:=?_)
     gi_wp2
     refine anyHF_done (by kernel_rfl) ?_ _
     refine NoPanic.normal ?_
     rw [HKC1.out]
     exact ⟨rfl,_,_,_,_,_,_,_,_,_,_,_,g7,gC,cc,nA,nc,rfl,b7Z,hCZ,hNZ,hBZ,by have:=H_g7.out;omega⟩
    case c5b =>
     have hge_g7:=hBx.size
     (try have hszG_g7:=hBG.size)
     have hB:Below v4.heap.size v4 (v4.alloc (.cells #[.slice none 0 0] 40)):=below_one v4 _
     have b7:Blk (v4.alloc (.cells #[.slice none 0 0] 40)) v4.heap.size 40 #[.slice none 0 0]:=Blk.new v4 _ _
     obtain ⟨a8,he⟩:∃ x,(v4.alloc (.cells #[.slice none 0 0] 40))=x:=⟨_,rfl⟩
     obtain ⟨g7,hg⟩:∃ x,v4.heap.size=x:=⟨_,rfl⟩
     have hsz:a8.heap.size=g7+1:=by rw [←he,←hg];simp
     rw [he] at hB b7
     rw [hg] at b7
     have H_g7:=Lib.hid (And.intro hg hsz)
     have hBA:=Below.refl a8.heap.size a8
     clear hsz
     replace hBN:=below_in hBN hB
     replace hBx:=below_in hBx hB
     clear hS
     have hS:(fun U:World=>U.cell? ⟨g0,0,none⟩=some (.int .i64 2)∧U.cell? ⟨g0,1,none⟩=some (.int .i64 (P:Int))∧U.cell? ⟨g0,2,none⟩=some (.slice (some ⟨g,0,none⟩) ls.length ls.length)) a8:=HSS.out _ hBx
     gi_wp2
     (try rw [hg]);(try rw [he])
     try (refine ⟨hS,?_⟩)
     clear hB he hg
     refine oneF (i:=7) (c:=?_)
     have hszF:=hBx.size
     (try have hszF7:=hBA.size)
     gi_wp2_with fail
     refine ⟨trivial,(callsIn_wide.2 (HFI.out gN cN _ (below_in HB0.out hBx) (Nat.lt_of_lt_of_le hgN2 hBN.size) (fun j hj=>(hBN.cell (p:=⟨gN,j,none⟩) hgN2).trans (HGN.out j hj)))).mono ?_⟩
     rintro e v9 ⟨gC,cc,nA,nc,rfl,hcol,hno,hB⟩
     have hszG:=hB.size
     have hBG:=Below.refl v9.heap.size v9
     replace b7:=b7.below hB b7.lt
     replace hBN:=below_in hBN hB
     replace hBA:=below_in hBA hB
     replace hBx:=below_in hBx hB
     clear hS
     have hS:(fun U:World=>U.cell? ⟨g0,0,none⟩=some (.int .i64 2)∧U.cell? ⟨g0,1,none⟩=some (.int .i64 (P:Int))∧U.cell? ⟨g0,2,none⟩=some (.slice (some ⟨g,0,none⟩) ls.length ls.length)) v9:=HSS.out _ hBx
     clear hB
     gi_wp2
     try (refine ⟨hS,?_⟩)
     refine tkF (i:=8) (d:=12) (v:=.tuple #[.slice (some ⟨gC,0,none⟩) N cc,.slice nA n nc]) (s:=hS) (c:=?_)
     simp only [ud9]
     refine tkF (i:=9) (d:=21) (v:=.slice (some ⟨gC,0,none⟩) N cc) (s:=hS) (c:=?_)
     simp only [ud9]
     refine tkF (i:=10) (d:=22) (v:=.slice nA n nc) (s:=hS) (c:=?_)
     simp only [ud9]
     refine oneF (i:=12) (c:=?_)
     have k7:v9.cell? ⟨g7,0,none⟩=some (.slice none 0 0):=b7.one
     have f7:=b7.frozen 0
     have hne7:∀ b,(b<B∨a8.heap.size≤b)∧b<v9.heap.size→b≠g7∧b<v9.heap.size:=fun b hb=>by have h7:=H_g7.out;have h8:=hBG.size;have h9:=HBB.out;have h10:=hb.1;have h11:=hb.2;omega
     obtain ⟨Z,hZ⟩:∃ z,v9.setCell ⟨g7,0,none⟩ (.slice (some ⟨gC,0,none⟩) N cc)=z:=⟨_,rfl⟩
     have hkZ:∀ b,b≠g7→Z.heap[b]?=v9.heap[b]?:=fun b hb=>by rw [←hZ];exact Below.heap_setCell v9 ⟨g7,0,none⟩ _ b hb
     have hzZ:Z.heap.size=v9.heap.size:=by rw [←hZ];simp
     have hCZ:Cols Z.heap.size Z (.slice (some ⟨gC,0,none⟩) N cc) (lostC L Q n css):=colsR.imp (colsR.keep hcol fun b hb=>(hkZ b (hne7 b hb).1).trans (hBG.block b hb.2)) fun b hb=>(show b<Z.heap.size by rw [hzZ];exact (hne7 b hb).2)
     have hNZ:Bytes Z.heap.size Z (.slice nA n nc) (List.replicate n 0):=bytesR.imp (bytesR.keep hno fun b hb=>(hkZ b (hne7 b hb).1).trans (hBG.block b hb.2)) fun b hb=>(show b<Z.heap.size by rw [hzZ];exact (hne7 b hb).2)
     have b7Z:Blk Z g7 40 #[.slice (some ⟨gC,0,none⟩) N cc]:=by rw [←hZ];exact b7.set_ 0 _
     have hBZ:Below w0.heap.size w0 Z:=by rw [←hZ];exact hBx.setCell (by show w0.heap.size≤g7;have:=H_g7.out;omega) _
     have HZZ:=Lib.hid (And.intro hkZ hzZ)
     clear hkZ hzZ hcol hno
     gi_wp2
     (try rw [hZ])
     clear hS k7 f7
     replace hBx:=hBZ
     have hS:(fun U:World=>U.cell? ⟨g0,0,none⟩=some (.int .i64 2)∧U.cell? ⟨g0,1,none⟩=some (.int .i64 (P:Int))∧U.cell? ⟨g0,2,none⟩=some (.slice (some ⟨g,0,none⟩) ls.length ls.length)) Z:=HSS.out _ hBZ
     try (refine ⟨hS,?_⟩)
     clear hZ
     refine oneF (i:=13) (c:=?_)
     gi_wp2
     refine anyHF_done (by kernel_rfl) ?_ _
     refine NoPanic.normal ?_
     rw [HKC1.out]
     exact ⟨rfl,_,_,_,_,_,_,_,_,_,_,_,g7,gC,cc,nA,nc,rfl,b7Z,hCZ,hNZ,hBZ,by have:=H_g7.out;omega⟩
   case c3b =>
    have hge_g7:=hBx.size
    (try have hszG_g7:=hBG.size)
    have hB:Below v2.heap.size v2 (v2.alloc (.cells #[.slice none 0 0] 40)):=below_one v2 _
    have b7:Blk (v2.alloc (.cells #[.slice none 0 0] 40)) v2.heap.size 40 #[.slice none 0 0]:=Blk.new v2 _ _
    obtain ⟨a10,he⟩:∃ x,(v2.alloc (.cells #[.slice none 0 0] 40))=x:=⟨_,rfl⟩
    obtain ⟨g7,hg⟩:∃ x,v2.heap.size=x:=⟨_,rfl⟩
    have hsz:a10.heap.size=g7+1:=by rw [←he,←hg];simp
    rw [he] at hB b7
    rw [hg] at b7
    have H_g7:=Lib.hid (And.intro hg hsz)
    have hBA:=Below.refl a10.heap.size a10
    clear hsz
    replace bE:=bE.below hB bE.lt
    replace hBx:=below_in hBx hB
    clear hS
    have hS:(fun U:World=>U.cell? ⟨g0,0,none⟩=some (.int .i64 2)∧U.cell? ⟨g0,1,none⟩=some (.int .i64 (P:Int))∧U.cell? ⟨g0,2,none⟩=some (.slice (some ⟨g,0,none⟩) ls.length ls.length)) a10:=HSS.out _ hBx
    gi_wp2
    (try rw [hg]);(try rw [he])
    try (refine ⟨hS,?_⟩)
    clear hB he hg
    refine oneF (i:=6) (c:=?_)
    gi_wp2_with fail
    refine ⟨trivial,(callsIn_wide.2 (HLST.out _ gE (below_in HB0.out hBx) bE)).mono ?_⟩
    rintro e v11 ⟨lv,rfl,hlv,hB⟩
    obtain ⟨gN,cN,rfl,hgN1,hgN2,hgNc⟩:=own_ints hlv HL1.out.1
    have hBN:=Below.refl v11.heap.size v11
    have HGN:=Lib.hid hgNc
    clear hgNc hlv
    replace bE:=bE.below hB bE.lt
    replace b7:=b7.below hB b7.lt
    replace hBA:=below_in hBA hB
    replace hBx:=below_in hBx hB
    clear hS
    have hS:(fun U:World=>U.cell? ⟨g0,0,none⟩=some (.int .i64 2)∧U.cell? ⟨g0,1,none⟩=some (.int .i64 (P:Int))∧U.cell? ⟨g0,2,none⟩=some (.slice (some ⟨g,0,none⟩) ls.length ls.length)) v11:=HSS.out _ hBx
    clear hB
    gi_wp2
    try (refine ⟨hS,?_⟩)
    refine oneF (i:=7) (c:=?_)
    have hszF:=hBx.size
    (try have hszF7:=hBA.size)
    gi_wp2_with fail
    refine ⟨trivial,(callsIn_wide.2 (HFI.out gN cN _ (below_in HB0.out hBx) (Nat.lt_of_lt_of_le hgN2 hBN.size) (fun j hj=>(hBN.cell (p:=⟨gN,j,none⟩) hgN2).trans (HGN.out j hj)))).mono ?_⟩
    rintro e v12 ⟨gC,cc,nA,nc,rfl,hcol,hno,hB⟩
    have hszG:=hB.size
    have hBG:=Below.refl v12.heap.size v12
    replace b7:=b7.below hB b7.lt
    replace hBA:=below_in hBA hB
    replace hBN:=below_in hBN hB
    replace hBx:=below_in hBx hB
    clear hS
    have hS:(fun U:World=>U.cell? ⟨g0,0,none⟩=some (.int .i64 2)∧U.cell? ⟨g0,1,none⟩=some (.int .i64 (P:Int))∧U.cell? ⟨g0,2,none⟩=some (.slice (some ⟨g,0,none⟩) ls.length ls.length)) v12:=HSS.out _ hBx
    clear hB
    gi_wp2
    try (refine ⟨hS,?_⟩)
    refine tkF (i:=8) (d:=12) (v:=.tuple #[.slice (some ⟨gC,0,none⟩) N cc,.slice nA n nc]) (s:=hS) (c:=?_)
    simp only [ud9]
    refine tkF (i:=9) (d:=21) (v:=.slice (some ⟨gC,0,none⟩) N cc) (s:=hS) (c:=?_)
    simp only [ud9]
    refine tkF (i:=10) (d:=22) (v:=.slice nA n nc) (s:=hS) (c:=?_)
    simp only [ud9]
    refine oneF (i:=12) (c:=?_)
    have k7:v12.cell? ⟨g7,0,none⟩=some (.slice none 0 0):=b7.one
    have f7:=b7.frozen 0
    have hne7:∀ b,(b<B∨v11.heap.size≤b)∧b<v12.heap.size→b≠g7∧b<v12.heap.size:=fun b hb=>by have h7:=H_g7.out;have h8:=hBG.size;have h9:=HBB.out;have h10:=hb.1;have h11:=hb.2;omega
    obtain ⟨Z,hZ⟩:∃ z,v12.setCell ⟨g7,0,none⟩ (.slice (some ⟨gC,0,none⟩) N cc)=z:=⟨_,rfl⟩
    have hkZ:∀ b,b≠g7→Z.heap[b]?=v12.heap[b]?:=fun b hb=>by rw [←hZ];exact Below.heap_setCell v12 ⟨g7,0,none⟩ _ b hb
    have hzZ:Z.heap.size=v12.heap.size:=by rw [←hZ];simp
    have hCZ:Cols Z.heap.size Z (.slice (some ⟨gC,0,none⟩) N cc) (lostC L Q n css):=colsR.imp (colsR.keep hcol fun b hb=>(hkZ b (hne7 b hb).1).trans (hBG.block b hb.2)) fun b hb=>(show b<Z.heap.size by rw [hzZ];exact (hne7 b hb).2)
    have hNZ:Bytes Z.heap.size Z (.slice nA n nc) (List.replicate n 0):=bytesR.imp (bytesR.keep hno fun b hb=>(hkZ b (hne7 b hb).1).trans (hBG.block b hb.2)) fun b hb=>(show b<Z.heap.size by rw [hzZ];exact (hne7 b hb).2)
    have b7Z:Blk Z g7 40 #[.slice (some ⟨gC,0,none⟩) N cc]:=by rw [←hZ];exact b7.set_ 0 _
    have hBZ:Below w0.heap.size w0 Z:=by rw [←hZ];exact hBx.setCell (by show w0.heap.size≤g7;have:=H_g7.out;omega) _
    have HZZ:=Lib.hid (And.intro hkZ hzZ)
    clear hkZ hzZ hcol hno
    gi_wp2
    (try rw [hZ])
    clear hS k7 f7
    replace hBx:=hBZ
    have hS:(fun U:World=>U.cell? ⟨g0,0,none⟩=some (.int .i64 2)∧U.cell? ⟨g0,1,none⟩=some (.int .i64 (P:Int))∧U.cell? ⟨g0,2,none⟩=some (.slice (some ⟨g,0,none⟩) ls.length ls.length)) Z:=HSS.out _ hBZ
    try (refine ⟨hS,?_⟩)
    clear hZ
    refine oneF (i:=13) (c:=?_)
    gi_wp2
    refine anyHF_done (by kernel_rfl) ?_ _
    refine NoPanic.normal ?_
    rw [HKC1.out]
    exact ⟨rfl,_,_,_,_,_,_,_,_,_,_,_,g7,gC,cc,nA,nc,rfl,b7Z,hCZ,hNZ,hBZ,by have:=H_g7.out;omega⟩
  case c1b =>
   have hge_g7:=hBx.size
   (try have hszG_g7:=hBG.size)
   have hB:Below w0.drew.heap.size w0.drew (w0.drew.alloc (.cells #[.slice none 0 0] 40)):=below_one w0.drew _
   have b7:Blk (w0.drew.alloc (.cells #[.slice none 0 0] 40)) w0.drew.heap.size 40 #[.slice none 0 0]:=Blk.new w0.drew _ _
   obtain ⟨a13,he⟩:∃ x,(w0.drew.alloc (.cells #[.slice none 0 0] 40))=x:=⟨_,rfl⟩
   obtain ⟨g7,hg⟩:∃ x,w0.drew.heap.size=x:=⟨_,rfl⟩
   have hsz:a13.heap.size=g7+1:=by rw [←he,←hg];simp
   rw [he] at hB b7
   rw [hg] at b7
   have H_g7:=Lib.hid (And.intro hg hsz)
   have hBA:=Below.refl a13.heap.size a13
   clear hsz
   replace hBx:=below_in hBx hB
   clear hS
   have hS:(fun U:World=>U.cell? ⟨g0,0,none⟩=some (.int .i64 2)∧U.cell? ⟨g0,1,none⟩=some (.int .i64 (P:Int))∧U.cell? ⟨g0,2,none⟩=some (.slice (some ⟨g,0,none⟩) ls.length ls.length)) a13:=HSS.out _ hBx
   gi_wp2
   (try rw [hg]);(try rw [he])
   try (refine ⟨hS,?_⟩)
   clear hB he hg
   refine oneF (i:=5) (c:=?_)
   have hB:Below a13.heap.size a13 (a13.alloc (.cells #[.slice (some ⟨g,0,none⟩) ls.length ls.length,.slice oA os.length oc] 45)):=below_one a13 _
   have bE:Blk (a13.alloc (.cells #[.slice (some ⟨g,0,none⟩) ls.length ls.length,.slice oA os.length oc] 45)) a13.heap.size 45 #[.slice (some ⟨g,0,none⟩) ls.length ls.length,.slice oA os.length oc]:=Blk.new a13 _ _
   obtain ⟨v14,he⟩:∃ x,(a13.alloc (.cells #[.slice (some ⟨g,0,none⟩) ls.length ls.length,.slice oA os.length oc] 45))=x:=⟨_,rfl⟩
   obtain ⟨gE,hg⟩:∃ x,a13.heap.size=x:=⟨_,rfl⟩
   rw [he] at hB bE
   rw [hg] at bE
   replace b7:=b7.below hB b7.lt
   replace hBA:=below_in hBA hB
   replace hBx:=below_in hBx hB
   clear hS
   have hS:(fun U:World=>U.cell? ⟨g0,0,none⟩=some (.int .i64 2)∧U.cell? ⟨g0,1,none⟩=some (.int .i64 (P:Int))∧U.cell? ⟨g0,2,none⟩=some (.slice (some ⟨g,0,none⟩) ls.length ls.length)) v14:=HSS.out _ hBx
   gi_wp2
   (try rw [hg]);(try rw [he])
   try (refine ⟨hS,?_⟩)
   clear hB he hg
   refine oneF (i:=6) (c:=?_)
   gi_wp2_with fail
   refine ⟨trivial,(callsIn_wide.2 (HLST.out _ gE (below_in HB0.out hBx) bE)).mono ?_⟩
   rintro e v15 ⟨lv,rfl,hlv,hB⟩
   obtain ⟨gN,cN,rfl,hgN1,hgN2,hgNc⟩:=own_ints hlv HL1.out.1
   have hBN:=Below.refl v15.heap.size v15
   have HGN:=Lib.hid hgNc
   clear hgNc hlv
   replace b7:=b7.below hB b7.lt
   replace bE:=bE.below hB bE.lt
   replace hBA:=below_in hBA hB
   replace hBx:=below_in hBx hB
   clear hS
   have hS:(fun U:World=>U.cell? ⟨g0,0,none⟩=some (.int .i64 2)∧U.cell? ⟨g0,1,none⟩=some (.int .i64 (P:Int))∧U.cell? ⟨g0,2,none⟩=some (.slice (some ⟨g,0,none⟩) ls.length ls.length)) v15:=HSS.out _ hBx
   clear hB
   gi_wp2
   try (refine ⟨hS,?_⟩)
   refine oneF (i:=7) (c:=?_)
   have hszF:=hBx.size
   (try have hszF7:=hBA.size)
   gi_wp2_with fail
   refine ⟨trivial,(callsIn_wide.2 (HFI.out gN cN _ (below_in HB0.out hBx) (Nat.lt_of_lt_of_le hgN2 hBN.size) (fun j hj=>(hBN.cell (p:=⟨gN,j,none⟩) hgN2).trans (HGN.out j hj)))).mono ?_⟩
   rintro e v16 ⟨gC,cc,nA,nc,rfl,hcol,hno,hB⟩
   have hszG:=hB.size
   have hBG:=Below.refl v16.heap.size v16
   replace b7:=b7.below hB b7.lt
   replace hBA:=below_in hBA hB
   replace hBN:=below_in hBN hB
   replace hBx:=below_in hBx hB
   clear hS
   have hS:(fun U:World=>U.cell? ⟨g0,0,none⟩=some (.int .i64 2)∧U.cell? ⟨g0,1,none⟩=some (.int .i64 (P:Int))∧U.cell? ⟨g0,2,none⟩=some (.slice (some ⟨g,0,none⟩) ls.length ls.length)) v16:=HSS.out _ hBx
   clear hB
   gi_wp2
   try (refine ⟨hS,?_⟩)
   refine tkF (i:=8) (d:=12) (v:=.tuple #[.slice (some ⟨gC,0,none⟩) N cc,.slice nA n nc]) (s:=hS) (c:=?_)
   simp only [ud9]
   refine tkF (i:=9) (d:=21) (v:=.slice (some ⟨gC,0,none⟩) N cc) (s:=hS) (c:=?_)
   simp only [ud9]
   refine tkF (i:=10) (d:=22) (v:=.slice nA n nc) (s:=hS) (c:=?_)
   simp only [ud9]
   refine oneF (i:=12) (c:=?_)
   have k7:v16.cell? ⟨g7,0,none⟩=some (.slice none 0 0):=b7.one
   have f7:=b7.frozen 0
   have hne7:∀ b,(b<B∨v15.heap.size≤b)∧b<v16.heap.size→b≠g7∧b<v16.heap.size:=fun b hb=>by have h7:=H_g7.out;have h8:=hBG.size;have h9:=HBB.out;have h10:=hb.1;have h11:=hb.2;omega
   obtain ⟨Z,hZ⟩:∃ z,v16.setCell ⟨g7,0,none⟩ (.slice (some ⟨gC,0,none⟩) N cc)=z:=⟨_,rfl⟩
   have hkZ:∀ b,b≠g7→Z.heap[b]?=v16.heap[b]?:=fun b hb=>by rw [←hZ];exact Below.heap_setCell v16 ⟨g7,0,none⟩ _ b hb
   have hzZ:Z.heap.size=v16.heap.size:=by rw [←hZ];simp
   have hCZ:Cols Z.heap.size Z (.slice (some ⟨gC,0,none⟩) N cc) (lostC L Q n css):=colsR.imp (colsR.keep hcol fun b hb=>(hkZ b (hne7 b hb).1).trans (hBG.block b hb.2)) fun b hb=>(show b<Z.heap.size by rw [hzZ];exact (hne7 b hb).2)
   have hNZ:Bytes Z.heap.size Z (.slice nA n nc) (List.replicate n 0):=bytesR.imp (bytesR.keep hno fun b hb=>(hkZ b (hne7 b hb).1).trans (hBG.block b hb.2)) fun b hb=>(show b<Z.heap.size by rw [hzZ];exact (hne7 b hb).2)
   have b7Z:Blk Z g7 40 #[.slice (some ⟨gC,0,none⟩) N cc]:=by rw [←hZ];exact b7.set_ 0 _
   have hBZ:Below w0.heap.size w0 Z:=by rw [←hZ];exact hBx.setCell (by show w0.heap.size≤g7;have:=H_g7.out;omega) _
   have HZZ:=Lib.hid (And.intro hkZ hzZ)
   clear hkZ hzZ hcol hno
   gi_wp2
   (try rw [hZ])
   clear hS k7 f7
   replace hBx:=hBZ
   have hS:(fun U:World=>U.cell? ⟨g0,0,none⟩=some (.int .i64 2)∧U.cell? ⟨g0,1,none⟩=some (.int .i64 (P:Int))∧U.cell? ⟨g0,2,none⟩=some (.slice (some ⟨g,0,none⟩) ls.length ls.length)) Z:=HSS.out _ hBZ
   try (refine ⟨hS,?_⟩)
   clear hZ
   refine oneF (i:=13) (c:=?_)
   gi_wp2
   refine anyHF_done (by kernel_rfl) ?_ _
   refine NoPanic.normal ?_
   rw [HKC1.out]
   exact ⟨rfl,_,_,_,_,_,_,_,_,_,_,_,g7,gC,cc,nA,nc,rfl,b7Z,hCZ,hNZ,hBZ,by have:=H_g7.out;omega⟩
 case cont1 =>
  clear hS hBx HSS HLST HFI
  rw [HKC1.out]
  rintro e a Z ⟨rfl,x12,x13,x14,x15,x16,x17,x18,x19,x20,x21,x22,g7,gC,cc,nA,nc,rfl,b7Z,hCZ,hNZ,hBZ,hge7⟩
  have b0Z:=H6.out.1.below hBZ H6.out.1.lt
  have b6Z:=H6.out.2.below hBZ H6.out.2.lt
  have hBz:=below_in HB0.out hBZ
  have HSZ:Hid (∀ V,Below Z.heap.size Z V→(fun U:World=>U.cell? ⟨g0,0,none⟩=some (.int .i64 2)∧U.cell? ⟨g0,1,none⟩=some (.int .i64 (P:Int))∧U.cell? ⟨g0,2,none⟩=some (.slice (some ⟨g,0,none⟩) ls.length ls.length)∧U.cell? ⟨g7,0,none⟩=some (.slice (some ⟨gC,0,none⟩) N cc)) V):=fun V hV=>⟨(b0Z.below hV b0Z.lt).cell 0,(b0Z.below hV b0Z.lt).cell 1,(b0Z.below hV b0Z.lt).cell 2,(b7Z.below hV b7Z.lt).one⟩
  have hcN:N≤cc:=by
   obtain ⟨_,c0,h1,h2,_⟩:=hCZ
   injection h1 with _ _ h3
   rw [HK.out.2.2.2.2] at h2
   omega
  have hPN0:P≤N:=by have:=HNP.out;omega
  have HEN:=Lib.hid (fun (V:World) (hV:Below Z.heap.size Z V)=>encZ HD.out ((lostC L Q n css).take P) HK.out.1 (.slice (some ⟨gC,0,none⟩) P cc) V (HLL.out.next (below_in hBz hV)) (((cols_take hCZ hPN0 HK.out.2.2.2.2).below hV).more hV.size))
  have hccP3:P≤cc:=by omega
  have hccP2:¬ cc<P:=by omega
  have hccP4:(P:Int)≤(cc:Int):=by omega
  have hPN:(P:Int)≤(N:Int):=by omega
  have hP0:(0:Int)≤(P:Int):=by omega
  have HGD:=Lib.hid (And.intro (rowsMade_good HD.out HK.out.1 HK.out.2.1) (And.intro (diagsMade_good HD.out HK.out.1 HK.out.2.1) HD.out.h1))
  have HZ:=Lib.hid (And.intro hCZ (And.intro hNZ (And.intro hBz (And.intro b0Z (And.intro b6Z (And.intro b7Z (And.intro hge7 hBZ)))))))
  have hBx:=(Below.refl Z.heap.size Z).drew
  have hS:(fun U:World=>U.cell? ⟨g0,0,none⟩=some (.int .i64 2)∧U.cell? ⟨g0,1,none⟩=some (.int .i64 (P:Int))∧U.cell? ⟨g0,2,none⟩=some (.slice (some ⟨g,0,none⟩) ls.length ls.length)∧U.cell? ⟨g7,0,none⟩=some (.slice (some ⟨gC,0,none⟩) N cc)) Z.drew:=HSZ.out _ hBx
  clear hCZ hNZ hBz b0Z b6Z b7Z hBZ hcN hPN0
  gi_wp2_with fail
  obtain ⟨KK2,hKK2⟩:∃ K:Exit→Act→World→Prop,K=(fun e a Y=>e=Exit.normal∧∃ x23 x24 x25 x26 x27 x28 x29 x30 x31 x32 x33 g9 gm mo mc a2 c2 a3 c3,a=({ tmps:=#[.agg #[.int .i64 2,.int .i64 (P:Int),.slice (some ⟨g,0,none⟩) ls.length ls.length],.slice vA N vc,.slice oA os.length oc,.pointer (some ⟨g0,0,none⟩),undef,undef,.pointer (some ⟨g6,0,none⟩),.pointer (some ⟨g7,0,none⟩),.slice nA n nc,.pointer (some ⟨g9,0,none⟩),undef,undef,x12,x13,x14,x15,x16,x17,x18,x19,x20,x21,x22,x23,x24,x25,x26,x27,x28,x29,x30,x31,x32,x33,undef,undef,undef,undef,undef,undef,undef,undef,undef,undef,undef,undef,undef,undef,undef,undef,undef,undef,undef,undef,undef,undef],defers:=[] }:Act)∧Blk Y g9 40 #[.slice (some ⟨gm,mo,none⟩) 2 mc]∧Many Y.heap.size Y (.slice a2 Q c2) (rowsMade Q ((lostC L Q n css).take P))∧Many Y.heap.size Y (.slice a3 Q c3) (diagsMade (P:Int) Q ((lostC L Q n css).take P))∧Y.cell? ⟨gm,mo,none⟩=some (.slice a2 Q c2)∧Y.cell? ⟨gm,mo+1,none⟩=some (.slice a3 Q c3)∧gm<Y.heap.size∧Below Z.heap.size Z Y∧Z.heap.size≤g9):=⟨_,rfl⟩
  have HKC2:=Lib.hid hKK2
  clear hKK2
  refine wpIn_mono (Q:=KK2) (wpIn_mono (region_HF (Q:=NoPanic KK2) (S:=(fun U:World=>U.cell? ⟨g0,0,none⟩=some (.int .i64 2)∧U.cell? ⟨g0,1,none⟩=some (.int .i64 (P:Int))∧U.cell? ⟨g0,2,none⟩=some (.slice (some ⟨g,0,none⟩) ls.length ls.length)∧U.cell? ⟨g7,0,none⟩=some (.slice (some ⟨gC,0,none⟩) N cc))) (by kernel_rfl) ?reg2) NoPanic.imp) ?cont2
  case reg2 =>
   refine tkF (i:=0) (d:=23) (v:=.pointer (some ⟨g0,0,none⟩)) (s:=hS) (c:=?_)
   simp only [ud9]
   refine tkF (i:=1) (d:=24) (v:=.pointer (some ⟨g0,1,none⟩)) (s:=hS) (c:=?_)
   simp only [ud9]
   refine tkF (i:=2) (d:=25) (v:=.int .i64 (P:Int)) (s:=hS) (c:=?_)
   simp only [ud9]
   refine tkF (i:=3) (d:=26) (v:=.slice (some ⟨gC,0,none⟩) N cc) (s:=hS) (c:=?_)
   simp only [ud9]
   refine tkF (i:=4) (d:=27) (v:=.agg #[.int .i64 2,.int .i64 (P:Int),.slice (some ⟨g,0,none⟩) ls.length ls.length]) (s:=hS) (c:=?_)
   simp only [ud9]
   refine Rg.anyHF_both (i:=5) (j:=11) (by kernel_rfl) rfl rfl (by rfl) (by rfl) ?c1a ?c1b
   case c1a =>
    gi_wp2_with fail
    refine ⟨trivial,(callsIn_wide.2 (Pr.diagonalsAt_any (P:Int) (some ⟨g,0,none⟩) ls.length ls.length _)).mono ?_⟩
    rintro e v2 ⟨rfl,hB⟩
    replace hBx:=below_in hBx hB
    clear hS
    have hS:(fun U:World=>U.cell? ⟨g0,0,none⟩=some (.int .i64 2)∧U.cell? ⟨g0,1,none⟩=some (.int .i64 (P:Int))∧U.cell? ⟨g0,2,none⟩=some (.slice (some ⟨g,0,none⟩) ls.length ls.length)∧U.cell? ⟨g7,0,none⟩=some (.slice (some ⟨gC,0,none⟩) N cc)) v2:=HSZ.out _ hBx
    clear hB
    gi_wp2
    try (refine ⟨hS,?_⟩)
    refine tkF (i:=6) (d:=29) (v:=.slice (some ⟨gC,0,none⟩) P cc) (s:=hS) (c:=?_)
    simp only [ud9]
    refine Rg.anyHF_both (i:=7) (j:=11) (by kernel_rfl) rfl rfl (by rfl) (by rfl) ?c3a ?c3b
    case c3a =>
     gi_wp2_with fail
     refine ⟨trivial,(callsIn_wide.2 (HEN.out _ hBx)).mono ?_⟩
     rintro e v4 ⟨gm,mo,mc,a2,c2,a3,c3,rfl,hgm,hc2,hc3,hm2,hm3,hmc,hB⟩
     have hBM:=Below.refl v4.heap.size v4
     replace hBx:=below_in hBx hB
     clear hS
     have hS:(fun U:World=>U.cell? ⟨g0,0,none⟩=some (.int .i64 2)∧U.cell? ⟨g0,1,none⟩=some (.int .i64 (P:Int))∧U.cell? ⟨g0,2,none⟩=some (.slice (some ⟨g,0,none⟩) ls.length ls.length)∧U.cell? ⟨g7,0,none⟩=some (.slice (some ⟨gC,0,none⟩) N cc)) v4:=HSZ.out _ hBx
     clear hB
     gi_wp2
     try (refine ⟨hS,?_⟩)
     refine tkF (i:=8) (d:=31) (v:=.slice (some ⟨gm,mo,none⟩) 2 mc) (s:=hS) (c:=?_)
     simp only [ud9]
     refine tkF (i:=9) (d:=32) (v:=.int .i64 0) (s:=hS) (c:=?_)
     simp only [ud9]
     refine Rg.anyHF_both (i:=10) (j:=11) (by kernel_rfl) rfl rfl (by rfl) (by rfl) ?c5a ?c5b
     case c5a =>
      gi_wp2_with fail
      refine ⟨trivial,(callsIn_wide.2 (Pr.sureS _ _)).mono ?_⟩
      rintro e v6 ⟨rfl,rfl⟩
      gi_wp2
      try (refine ⟨hS,?_⟩)
      refine oneF (i:=11) (c:=?_)
      have hge_g9:=hBx.size
      (try have hszG_g9:=hBG.size)
      have hB:Below v4.heap.size v4 (v4.alloc (.cells #[.slice none 0 0] 40)):=below_one v4 _
      have b9:Blk (v4.alloc (.cells #[.slice none 0 0] 40)) v4.heap.size 40 #[.slice none 0 0]:=Blk.new v4 _ _
      obtain ⟨a7,he⟩:∃ x,(v4.alloc (.cells #[.slice none 0 0] 40))=x:=⟨_,rfl⟩
      obtain ⟨g9,hg⟩:∃ x,v4.heap.size=x:=⟨_,rfl⟩
      have hsz:a7.heap.size=g9+1:=by rw [←he,←hg];simp
      rw [he] at hB b9
      rw [hg] at b9
      have H_g9:=Lib.hid (And.intro hg hsz)
      have hBA:=Below.refl a7.heap.size a7
      clear hsz
      replace hBM:=below_in hBM hB
      replace hBx:=below_in hBx hB
      clear hS
      have hS:(fun U:World=>U.cell? ⟨g0,0,none⟩=some (.int .i64 2)∧U.cell? ⟨g0,1,none⟩=some (.int .i64 (P:Int))∧U.cell? ⟨g0,2,none⟩=some (.slice (some ⟨g,0,none⟩) ls.length ls.length)∧U.cell? ⟨g7,0,none⟩=some (.slice (some ⟨gC,0,none⟩) N cc)) a7:=HSZ.out _ hBx
      gi_wp2
      (try rw [hg]);(try rw [he])
      try (refine ⟨hS,?_⟩)
      clear hB he hg
      refine oneF (i:=12) (c:=?_)
      have k9:a7.cell? ⟨g9,0,none⟩=some (.slice none 0 0):=b9.one
      have f9:=b9.frozen 0
      have hbl:Blank g9 a7:=blank_of b9 (by intro u hu;simp at hu;exact .inr hu)
      have hq2:=(hBM.cell (p:=⟨gm,mo,none⟩) hgm).trans hc2
      have hq3:=(hBM.cell (p:=⟨gm,mo+1,none⟩) hgm).trans hc3
      have hgm9:gm≠g9:=fun e=>by subst e;have hq:=HQ2.out;rcases hbl _ _ hq2 with h | h;cases h;injection h with _ h2 _;omega
      have hp2:=many_apart (hm2.below hBM) hbl (goodC_pos HGD.out.1 HGD.out.2.2)
      have hp3:=many_apart (hm3.below hBM) hbl (goodC_pos HGD.out.2.1 HGD.out.2.2)
      obtain ⟨Y,hY⟩:∃ z,a7.setCell ⟨g9,0,none⟩ (.slice (some ⟨gm,mo,none⟩) 2 mc)=z:=⟨_,rfl⟩
      have hkY:∀ b,b≠g9→Y.heap[b]?=a7.heap[b]?:=fun b hb=>by rw [←hY];exact Below.heap_setCell a7 ⟨g9,0,none⟩ _ b hb
      have hzY:Y.heap.size=a7.heap.size:=by rw [←hY];simp
      have hmY2:Many Y.heap.size Y (.slice a2 Q c2) (rowsMade Q ((lostC L Q n css).take P)):=manyR.imp (manyR.keep hp2 fun b hb=>hkY b hb.2) fun b hb=>(show b<Y.heap.size by have h1:=hb.1;have h2:=hBM.size;omega)
      have hmY3:Many Y.heap.size Y (.slice a3 Q c3) (diagsMade (P:Int) Q ((lostC L Q n css).take P)):=manyR.imp (manyR.keep hp3 fun b hb=>hkY b hb.2) fun b hb=>(show b<Y.heap.size by have h1:=hb.1;have h2:=hBM.size;omega)
      have hcY2:Y.cell? ⟨gm,mo,none⟩=some (.slice a2 Q c2):=(World.cell?_of_block (a:=⟨gm,mo,none⟩) (hkY gm hgm9)).trans hq2
      have hcY3:Y.cell? ⟨gm,mo+1,none⟩=some (.slice a3 Q c3):=(World.cell?_of_block (a:=⟨gm,mo+1,none⟩) (hkY gm hgm9)).trans hq3
      have hgmY:gm<Y.heap.size:=by have:=hBM.size;omega
      have b9Y:Blk Y g9 40 #[.slice (some ⟨gm,mo,none⟩) 2 mc]:=by rw [←hY];exact b9.set_ 0 _
      have hBY:Below Z.heap.size Z Y:=by rw [←hY];exact hBx.setCell (by show Z.heap.size≤g9;have:=H_g9.out;omega) _
      clear hkY hzY hp2 hp3 hq2 hq3 hc2 hc3 hm2 hm3
      gi_wp2
      (try rw [hY])
      clear hS k9 f9
      replace hBx:=hBY
      have hS:(fun U:World=>U.cell? ⟨g0,0,none⟩=some (.int .i64 2)∧U.cell? ⟨g0,1,none⟩=some (.int .i64 (P:Int))∧U.cell? ⟨g0,2,none⟩=some (.slice (some ⟨g,0,none⟩) ls.length ls.length)∧U.cell? ⟨g7,0,none⟩=some (.slice (some ⟨gC,0,none⟩) N cc)) Y:=HSZ.out _ hBY
      try (refine ⟨hS,?_⟩)
      clear hY
      refine anyHF_done (by kernel_rfl) ?_ _
      refine NoPanic.normal ?_
      rw [HKC2.out]
      exact ⟨rfl,_,_,_,_,_,_,_,_,_,_,_,g9,gm,mo,mc,a2,c2,a3,c3,rfl,b9Y,hmY2,hmY3,hcY2,hcY3,hgmY,hBY,by have:=H_g9.out;omega⟩
     case c5b =>
      have hge_g9:=hBx.size
      (try have hszG_g9:=hBG.size)
      have hB:Below v4.heap.size v4 (v4.alloc (.cells #[.slice none 0 0] 40)):=below_one v4 _
      have b9:Blk (v4.alloc (.cells #[.slice none 0 0] 40)) v4.heap.size 40 #[.slice none 0 0]:=Blk.new v4 _ _
      obtain ⟨a8,he⟩:∃ x,(v4.alloc (.cells #[.slice none 0 0] 40))=x:=⟨_,rfl⟩
      obtain ⟨g9,hg⟩:∃ x,v4.heap.size=x:=⟨_,rfl⟩
      have hsz:a8.heap.size=g9+1:=by rw [←he,←hg];simp
      rw [he] at hB b9
      rw [hg] at b9
      have H_g9:=Lib.hid (And.intro hg hsz)
      have hBA:=Below.refl a8.heap.size a8
      clear hsz
      replace hBM:=below_in hBM hB
      replace hBx:=below_in hBx hB
      clear hS
      have hS:(fun U:World=>U.cell? ⟨g0,0,none⟩=some (.int .i64 2)∧U.cell? ⟨g0,1,none⟩=some (.int .i64 (P:Int))∧U.cell? ⟨g0,2,none⟩=some (.slice (some ⟨g,0,none⟩) ls.length ls.length)∧U.cell? ⟨g7,0,none⟩=some (.slice (some ⟨gC,0,none⟩) N cc)) a8:=HSZ.out _ hBx
      gi_wp2
      (try rw [hg]);(try rw [he])
      try (refine ⟨hS,?_⟩)
      clear hB he hg
      refine oneF (i:=10) (c:=?_)
      gi_wp2_with fail
      refine ⟨trivial,(callsIn_wide.2 (Pr.sureS _ _)).mono ?_⟩
      rintro e v9 ⟨rfl,rfl⟩
      gi_wp2
      try (refine ⟨hS,?_⟩)
      refine oneF (i:=12) (c:=?_)
      have k9:a8.cell? ⟨g9,0,none⟩=some (.slice none 0 0):=b9.one
      have f9:=b9.frozen 0
      have hbl:Blank g9 a8:=blank_of b9 (by intro u hu;simp at hu;exact .inr hu)
      have hq2:=(hBM.cell (p:=⟨gm,mo,none⟩) hgm).trans hc2
      have hq3:=(hBM.cell (p:=⟨gm,mo+1,none⟩) hgm).trans hc3
      have hgm9:gm≠g9:=fun e=>by subst e;have hq:=HQ2.out;rcases hbl _ _ hq2 with h | h;cases h;injection h with _ h2 _;omega
      have hp2:=many_apart (hm2.below hBM) hbl (goodC_pos HGD.out.1 HGD.out.2.2)
      have hp3:=many_apart (hm3.below hBM) hbl (goodC_pos HGD.out.2.1 HGD.out.2.2)
      obtain ⟨Y,hY⟩:∃ z,a8.setCell ⟨g9,0,none⟩ (.slice (some ⟨gm,mo,none⟩) 2 mc)=z:=⟨_,rfl⟩
      have hkY:∀ b,b≠g9→Y.heap[b]?=a8.heap[b]?:=fun b hb=>by rw [←hY];exact Below.heap_setCell a8 ⟨g9,0,none⟩ _ b hb
      have hzY:Y.heap.size=a8.heap.size:=by rw [←hY];simp
      have hmY2:Many Y.heap.size Y (.slice a2 Q c2) (rowsMade Q ((lostC L Q n css).take P)):=manyR.imp (manyR.keep hp2 fun b hb=>hkY b hb.2) fun b hb=>(show b<Y.heap.size by have h1:=hb.1;have h2:=hBM.size;omega)
      have hmY3:Many Y.heap.size Y (.slice a3 Q c3) (diagsMade (P:Int) Q ((lostC L Q n css).take P)):=manyR.imp (manyR.keep hp3 fun b hb=>hkY b hb.2) fun b hb=>(show b<Y.heap.size by have h1:=hb.1;have h2:=hBM.size;omega)
      have hcY2:Y.cell? ⟨gm,mo,none⟩=some (.slice a2 Q c2):=(World.cell?_of_block (a:=⟨gm,mo,none⟩) (hkY gm hgm9)).trans hq2
      have hcY3:Y.cell? ⟨gm,mo+1,none⟩=some (.slice a3 Q c3):=(World.cell?_of_block (a:=⟨gm,mo+1,none⟩) (hkY gm hgm9)).trans hq3
      have hgmY:gm<Y.heap.size:=by have:=hBM.size;omega
      have b9Y:Blk Y g9 40 #[.slice (some ⟨gm,mo,none⟩) 2 mc]:=by rw [←hY];exact b9.set_ 0 _
      have hBY:Below Z.heap.size Z Y:=by rw [←hY];exact hBx.setCell (by show Z.heap.size≤g9;have:=H_g9.out;omega) _
      clear hkY hzY hp2 hp3 hq2 hq3 hc2 hc3 hm2 hm3
      gi_wp2
      (try rw [hY])
      clear hS k9 f9
      replace hBx:=hBY
      have hS:(fun U:World=>U.cell? ⟨g0,0,none⟩=some (.int .i64 2)∧U.cell? ⟨g0,1,none⟩=some (.int .i64 (P:Int))∧U.cell? ⟨g0,2,none⟩=some (.slice (some ⟨g,0,none⟩) ls.length ls.length)∧U.cell? ⟨g7,0,none⟩=some (.slice (some ⟨gC,0,none⟩) N cc)) Y:=HSZ.out _ hBY
      try (refine ⟨hS,?_⟩)
      clear hY
      refine anyHF_done (by kernel_rfl) ?_ _
      refine NoPanic.normal ?_
      rw [HKC2.out]
      exact ⟨rfl,_,_,_,_,_,_,_,_,_,_,_,g9,gm,mo,mc,a2,c2,a3,c3,rfl,b9Y,hmY2,hmY3,hcY2,hcY3,hgmY,hBY,by have:=H_g9.out;omega⟩
    case c3b =>
     have hge_g9:=hBx.size
     (try have hszG_g9:=hBG.size)
     have hB:Below v2.heap.size v2 (v2.alloc (.cells #[.slice none 0 0] 40)):=below_one v2 _
     have b9:Blk (v2.alloc (.cells #[.slice none 0 0] 40)) v2.heap.size 40 #[.slice none 0 0]:=Blk.new v2 _ _
     obtain ⟨a10,he⟩:∃ x,(v2.alloc (.cells #[.slice none 0 0] 40))=x:=⟨_,rfl⟩
     obtain ⟨g9,hg⟩:∃ x,v2.heap.size=x:=⟨_,rfl⟩
     have hsz:a10.heap.size=g9+1:=by rw [←he,←hg];simp
     rw [he] at hB b9
     rw [hg] at b9
     have H_g9:=Lib.hid (And.intro hg hsz)
     have hBA:=Below.refl a10.heap.size a10
     clear hsz
     replace hBx:=below_in hBx hB
     clear hS
     have hS:(fun U:World=>U.cell? ⟨g0,0,none⟩=some (.int .i64 2)∧U.cell? ⟨g0,1,none⟩=some (.int .i64 (P:Int))∧U.cell? ⟨g0,2,none⟩=some (.slice (some ⟨g,0,none⟩) ls.length ls.length)∧U.cell? ⟨g7,0,none⟩=some (.slice (some ⟨gC,0,none⟩) N cc)) a10:=HSZ.out _ hBx
     gi_wp2
     (try rw [hg]);(try rw [he])
     try (refine ⟨hS,?_⟩)
     clear hB he hg
     refine oneF (i:=7) (c:=?_)
     gi_wp2_with fail
     refine ⟨trivial,(callsIn_wide.2 (HEN.out _ hBx)).mono ?_⟩
     rintro e v11 ⟨gm,mo,mc,a2,c2,a3,c3,rfl,hgm,hc2,hc3,hm2,hm3,hmc,hB⟩
     have hBM:=Below.refl v11.heap.size v11
     replace b9:=b9.below hB b9.lt
     replace hBA:=below_in hBA hB
     replace hBx:=below_in hBx hB
     clear hS
     have hS:(fun U:World=>U.cell? ⟨g0,0,none⟩=some (.int .i64 2)∧U.cell? ⟨g0,1,none⟩=some (.int .i64 (P:Int))∧U.cell? ⟨g0,2,none⟩=some (.slice (some ⟨g,0,none⟩) ls.length ls.length)∧U.cell? ⟨g7,0,none⟩=some (.slice (some ⟨gC,0,none⟩) N cc)) v11:=HSZ.out _ hBx
     clear hB
     gi_wp2
     try (refine ⟨hS,?_⟩)
     refine tkF (i:=8) (d:=31) (v:=.slice (some ⟨gm,mo,none⟩) 2 mc) (s:=hS) (c:=?_)
     simp only [ud9]
     refine tkF (i:=9) (d:=32) (v:=.int .i64 0) (s:=hS) (c:=?_)
     simp only [ud9]
     refine oneF (i:=10) (c:=?_)
     gi_wp2_with fail
     refine ⟨trivial,(callsIn_wide.2 (Pr.sureS _ _)).mono ?_⟩
     rintro e v12 ⟨rfl,rfl⟩
     gi_wp2
     try (refine ⟨hS,?_⟩)
     refine oneF (i:=12) (c:=?_)
     have k9:v11.cell? ⟨g9,0,none⟩=some (.slice none 0 0):=b9.one
     have f9:=b9.frozen 0
     have hbl:Blank g9 v11:=blank_of b9 (by intro u hu;simp at hu;exact .inr hu)
     have hq2:=(hBM.cell (p:=⟨gm,mo,none⟩) hgm).trans hc2
     have hq3:=(hBM.cell (p:=⟨gm,mo+1,none⟩) hgm).trans hc3
     have hgm9:gm≠g9:=fun e=>by subst e;have hq:=HQ2.out;rcases hbl _ _ hq2 with h | h;cases h;injection h with _ h2 _;omega
     have hp2:=many_apart (hm2.below hBM) hbl (goodC_pos HGD.out.1 HGD.out.2.2)
     have hp3:=many_apart (hm3.below hBM) hbl (goodC_pos HGD.out.2.1 HGD.out.2.2)
     obtain ⟨Y,hY⟩:∃ z,v11.setCell ⟨g9,0,none⟩ (.slice (some ⟨gm,mo,none⟩) 2 mc)=z:=⟨_,rfl⟩
     have hkY:∀ b,b≠g9→Y.heap[b]?=v11.heap[b]?:=fun b hb=>by rw [←hY];exact Below.heap_setCell v11 ⟨g9,0,none⟩ _ b hb
     have hzY:Y.heap.size=v11.heap.size:=by rw [←hY];simp
     have hmY2:Many Y.heap.size Y (.slice a2 Q c2) (rowsMade Q ((lostC L Q n css).take P)):=manyR.imp (manyR.keep hp2 fun b hb=>hkY b hb.2) fun b hb=>(show b<Y.heap.size by have h1:=hb.1;have h2:=hBM.size;omega)
     have hmY3:Many Y.heap.size Y (.slice a3 Q c3) (diagsMade (P:Int) Q ((lostC L Q n css).take P)):=manyR.imp (manyR.keep hp3 fun b hb=>hkY b hb.2) fun b hb=>(show b<Y.heap.size by have h1:=hb.1;have h2:=hBM.size;omega)
     have hcY2:Y.cell? ⟨gm,mo,none⟩=some (.slice a2 Q c2):=(World.cell?_of_block (a:=⟨gm,mo,none⟩) (hkY gm hgm9)).trans hq2
     have hcY3:Y.cell? ⟨gm,mo+1,none⟩=some (.slice a3 Q c3):=(World.cell?_of_block (a:=⟨gm,mo+1,none⟩) (hkY gm hgm9)).trans hq3
     have hgmY:gm<Y.heap.size:=by have:=hBM.size;omega
     have b9Y:Blk Y g9 40 #[.slice (some ⟨gm,mo,none⟩) 2 mc]:=by rw [←hY];exact b9.set_ 0 _
     have hBY:Below Z.heap.size Z Y:=by rw [←hY];exact hBx.setCell (by show Z.heap.size≤g9;have:=H_g9.out;omega) _
     clear hkY hzY hp2 hp3 hq2 hq3 hc2 hc3 hm2 hm3
     gi_wp2
     (try rw [hY])
     clear hS k9 f9
     replace hBx:=hBY
     have hS:(fun U:World=>U.cell? ⟨g0,0,none⟩=some (.int .i64 2)∧U.cell? ⟨g0,1,none⟩=some (.int .i64 (P:Int))∧U.cell? ⟨g0,2,none⟩=some (.slice (some ⟨g,0,none⟩) ls.length ls.length)∧U.cell? ⟨g7,0,none⟩=some (.slice (some ⟨gC,0,none⟩) N cc)) Y:=HSZ.out _ hBY
     try (refine ⟨hS,?_⟩)
     clear hY
     refine anyHF_done (by kernel_rfl) ?_ _
     refine NoPanic.normal ?_
     rw [HKC2.out]
     exact ⟨rfl,_,_,_,_,_,_,_,_,_,_,_,g9,gm,mo,mc,a2,c2,a3,c3,rfl,b9Y,hmY2,hmY3,hcY2,hcY3,hgmY,hBY,by have:=H_g9.out;omega⟩
   case c1b =>
    have hge_g9:=hBx.size
    (try have hszG_g9:=hBG.size)
    have hB:Below Z.drew.heap.size Z.drew (Z.drew.alloc (.cells #[.slice none 0 0] 40)):=below_one Z.drew _
    have b9:Blk (Z.drew.alloc (.cells #[.slice none 0 0] 40)) Z.drew.heap.size 40 #[.slice none 0 0]:=Blk.new Z.drew _ _
    obtain ⟨a13,he⟩:∃ x,(Z.drew.alloc (.cells #[.slice none 0 0] 40))=x:=⟨_,rfl⟩
    obtain ⟨g9,hg⟩:∃ x,Z.drew.heap.size=x:=⟨_,rfl⟩
    have hsz:a13.heap.size=g9+1:=by rw [←he,←hg];simp
    rw [he] at hB b9
    rw [hg] at b9
    have H_g9:=Lib.hid (And.intro hg hsz)
    have hBA:=Below.refl a13.heap.size a13
    clear hsz
    replace hBx:=below_in hBx hB
    clear hS
    have hS:(fun U:World=>U.cell? ⟨g0,0,none⟩=some (.int .i64 2)∧U.cell? ⟨g0,1,none⟩=some (.int .i64 (P:Int))∧U.cell? ⟨g0,2,none⟩=some (.slice (some ⟨g,0,none⟩) ls.length ls.length)∧U.cell? ⟨g7,0,none⟩=some (.slice (some ⟨gC,0,none⟩) N cc)) a13:=HSZ.out _ hBx
    gi_wp2
    (try rw [hg]);(try rw [he])
    try (refine ⟨hS,?_⟩)
    clear hB he hg
    refine oneF (i:=5) (c:=?_)
    gi_wp2_with fail
    refine ⟨trivial,(callsIn_wide.2 (Pr.diagonalsAt_any (P:Int) (some ⟨g,0,none⟩) ls.length ls.length _)).mono ?_⟩
    rintro e v14 ⟨rfl,hB⟩
    replace b9:=b9.below hB b9.lt
    replace hBA:=below_in hBA hB
    replace hBx:=below_in hBx hB
    clear hS
    have hS:(fun U:World=>U.cell? ⟨g0,0,none⟩=some (.int .i64 2)∧U.cell? ⟨g0,1,none⟩=some (.int .i64 (P:Int))∧U.cell? ⟨g0,2,none⟩=some (.slice (some ⟨g,0,none⟩) ls.length ls.length)∧U.cell? ⟨g7,0,none⟩=some (.slice (some ⟨gC,0,none⟩) N cc)) v14:=HSZ.out _ hBx
    clear hB
    gi_wp2
    try (refine ⟨hS,?_⟩)
    refine tkF (i:=6) (d:=29) (v:=.slice (some ⟨gC,0,none⟩) P cc) (s:=hS) (c:=?_)
    simp only [ud9]
    refine oneF (i:=7) (c:=?_)
    gi_wp2_with fail
    refine ⟨trivial,(callsIn_wide.2 (HEN.out _ hBx)).mono ?_⟩
    rintro e v15 ⟨gm,mo,mc,a2,c2,a3,c3,rfl,hgm,hc2,hc3,hm2,hm3,hmc,hB⟩
    have hBM:=Below.refl v15.heap.size v15
    replace b9:=b9.below hB b9.lt
    replace hBA:=below_in hBA hB
    replace hBx:=below_in hBx hB
    clear hS
    have hS:(fun U:World=>U.cell? ⟨g0,0,none⟩=some (.int .i64 2)∧U.cell? ⟨g0,1,none⟩=some (.int .i64 (P:Int))∧U.cell? ⟨g0,2,none⟩=some (.slice (some ⟨g,0,none⟩) ls.length ls.length)∧U.cell? ⟨g7,0,none⟩=some (.slice (some ⟨gC,0,none⟩) N cc)) v15:=HSZ.out _ hBx
    clear hB
    gi_wp2
    try (refine ⟨hS,?_⟩)
    refine tkF (i:=8) (d:=31) (v:=.slice (some ⟨gm,mo,none⟩) 2 mc) (s:=hS) (c:=?_)
    simp only [ud9]
    refine tkF (i:=9) (d:=32) (v:=.int .i64 0) (s:=hS) (c:=?_)
    simp only [ud9]
    refine oneF (i:=10) (c:=?_)
    gi_wp2_with fail
    refine ⟨trivial,(callsIn_wide.2 (Pr.sureS _ _)).mono ?_⟩
    rintro e v16 ⟨rfl,rfl⟩
    gi_wp2
    try (refine ⟨hS,?_⟩)
    refine oneF (i:=12) (c:=?_)
    have k9:v15.cell? ⟨g9,0,none⟩=some (.slice none 0 0):=b9.one
    have f9:=b9.frozen 0
    have hbl:Blank g9 v15:=blank_of b9 (by intro u hu;simp at hu;exact .inr hu)
    have hq2:=(hBM.cell (p:=⟨gm,mo,none⟩) hgm).trans hc2
    have hq3:=(hBM.cell (p:=⟨gm,mo+1,none⟩) hgm).trans hc3
    have hgm9:gm≠g9:=fun e=>by subst e;have hq:=HQ2.out;rcases hbl _ _ hq2 with h | h;cases h;injection h with _ h2 _;omega
    have hp2:=many_apart (hm2.below hBM) hbl (goodC_pos HGD.out.1 HGD.out.2.2)
    have hp3:=many_apart (hm3.below hBM) hbl (goodC_pos HGD.out.2.1 HGD.out.2.2)
    obtain ⟨Y,hY⟩:∃ z,v15.setCell ⟨g9,0,none⟩ (.slice (some ⟨gm,mo,none⟩) 2 mc)=z:=⟨_,rfl⟩
    have hkY:∀ b,b≠g9→Y.heap[b]?=v15.heap[b]?:=fun b hb=>by rw [←hY];exact Below.heap_setCell v15 ⟨g9,0,none⟩ _ b hb
    have hzY:Y.heap.size=v15.heap.size:=by rw [←hY];simp
    have hmY2:Many Y.heap.size Y (.slice a2 Q c2) (rowsMade Q ((lostC L Q n css).take P)):=manyR.imp (manyR.keep hp2 fun b hb=>hkY b hb.2) fun b hb=>(show b<Y.heap.size by have h1:=hb.1;have h2:=hBM.size;omega)
    have hmY3:Many Y.heap.size Y (.slice a3 Q c3) (diagsMade (P:Int) Q ((lostC L Q n css).take P)):=manyR.imp (manyR.keep hp3 fun b hb=>hkY b hb.2) fun b hb=>(show b<Y.heap.size by have h1:=hb.1;have h2:=hBM.size;omega)
    have hcY2:Y.cell? ⟨gm,mo,none⟩=some (.slice a2 Q c2):=(World.cell?_of_block (a:=⟨gm,mo,none⟩) (hkY gm hgm9)).trans hq2
    have hcY3:Y.cell? ⟨gm,mo+1,none⟩=some (.slice a3 Q c3):=(World.cell?_of_block (a:=⟨gm,mo+1,none⟩) (hkY gm hgm9)).trans hq3
    have hgmY:gm<Y.heap.size:=by have:=hBM.size;omega
    have b9Y:Blk Y g9 40 #[.slice (some ⟨gm,mo,none⟩) 2 mc]:=by rw [←hY];exact b9.set_ 0 _
    have hBY:Below Z.heap.size Z Y:=by rw [←hY];exact hBx.setCell (by show Z.heap.size≤g9;have:=H_g9.out;omega) _
    clear hkY hzY hp2 hp3 hq2 hq3 hc2 hc3 hm2 hm3
    gi_wp2
    (try rw [hY])
    clear hS k9 f9
    replace hBx:=hBY
    have hS:(fun U:World=>U.cell? ⟨g0,0,none⟩=some (.int .i64 2)∧U.cell? ⟨g0,1,none⟩=some (.int .i64 (P:Int))∧U.cell? ⟨g0,2,none⟩=some (.slice (some ⟨g,0,none⟩) ls.length ls.length)∧U.cell? ⟨g7,0,none⟩=some (.slice (some ⟨gC,0,none⟩) N cc)) Y:=HSZ.out _ hBY
    try (refine ⟨hS,?_⟩)
    clear hY
    refine anyHF_done (by kernel_rfl) ?_ _
    refine NoPanic.normal ?_
    rw [HKC2.out]
    exact ⟨rfl,_,_,_,_,_,_,_,_,_,_,_,g9,gm,mo,mc,a2,c2,a3,c3,rfl,b9Y,hmY2,hmY3,hcY2,hcY3,hgmY,hBY,by have:=H_g9.out;omega⟩
  case cont2 =>
   clear hS hBx HSZ HEN
   rw [HKC2.out]
   rintro e a Y ⟨rfl,x23,x24,x25,x26,x27,x28,x29,x30,x31,x32,x33,g9,gm,mo,mc,a2,c2,a3,c3,rfl,b9Y,hmY2,hmY3,hcY2,hcY3,hgmY,hBY,hge9⟩
   have b0Y:=HZ.out.2.2.2.1.below hBY HZ.out.2.2.2.1.lt
   have b7Y:=HZ.out.2.2.2.2.2.1.below hBY HZ.out.2.2.2.2.2.1.lt
   have hBwY:=below_in HZ.out.2.2.1 hBY
   have hadj:(adjOf (P:Int) ((lostC L Q n css).take P)).length=n:=by rw [adjOf_len HK.out.1,HK.out.2.1]
   have HLE:=Lib.hid ((R.left_yes (B:=Y.heap.size) (P:Int) (.slice (some ⟨gC,0,none⟩) N cc) (lostC L Q n css) HK.out.2.2.1 Y (HLL.out.next hBwY) (Nat.le_refl _) ((HZ.out.1.below hBY).more hBY.size)).mono (R':=fun e w'=>∃ lA lc,e = .returned (.tuple #[.slice lA n lc,.int .i64 0])∧Bytes w'.heap.size w' (.slice lA n lc) (adjOf (P:Int) ((lostC L Q n css).take P))∧Below Y.heap.size Y w') (by
    rintro e w' ⟨u,rfl,hu,hB⟩
    rw [Int.toNat_natCast] at hu
    obtain ⟨lA,lc,rfl,_⟩:=id hu
    rw [hadj] at hu ⊢
    exact ⟨lA,lc,rfl,hu,hB⟩))
   have q0:=b0Y.cell 1
   have q7:=b7Y.one
   simp only [gz9] at q0
   clear hccP3 hccP2 hccP4 hPN hP0
   gi_wp2_with fail
   refine ⟨trivial,(callsIn_wide.2 HLE.out).mono ?_⟩
   rintro e w3 ⟨lA,lc,rfl,hle,hB3⟩
   gi_wp2_with fail
   refine ⟨trivial,(callsIn_wide.2 (Pr.sureB _ _)).mono ?_⟩
   rintro e w3' ⟨rfl,rfl⟩
   obtain ⟨wX,hwX⟩:∃ z,w3.alloc (.cells #[.slice lA n lc] 64)=z:=⟨_,rfl⟩
   obtain ⟨g10,hg10⟩:∃ z,w3.heap.size=z:=⟨_,rfl⟩
   have b10:Blk wX g10 64 #[.slice lA n lc]:=by rw [←hwX,←hg10];exact Blk.new w3 _ _
   have hB10:Below w3.heap.size w3 wX:=by rw [←hwX];exact below_one w3 _
   have hBYX:Below Y.heap.size Y wX:=below_in hB3 hB10
   have hleX:=(hle.below hB10).more hB10.size
   gi_wp2_with fail
   (try rw [hg10]);(try rw [hwX])
   clear q0 q7 hle
   have HYY:=Lib.hid (And.intro b0Y (And.intro b7Y (And.intro b9Y (And.intro hcY2 (And.intro hgmY hBYX)))))
   have HSS:Hid (∀ V,Below wX.heap.size wX V→(fun U:World=>U.cell? ⟨g0,0,none⟩=some (.int .i64 2)∧U.cell? ⟨g0,1,none⟩=some (.int .i64 (P:Int))∧U.cell? ⟨g0,2,none⟩=some (.slice (some ⟨g,0,none⟩) ls.length ls.length)∧U.cell? ⟨g9,0,none⟩=some (.slice (some ⟨gm,mo,none⟩) 2 mc)∧U.cell? ⟨gm,mo,none⟩=some (.slice a2 Q c2)) V):=fun V hV=>by
    have h:=below_in hBYX hV
    exact ⟨(b0Y.below h b0Y.lt).cell 0,(b0Y.below h b0Y.lt).cell 1,(b0Y.below h b0Y.lt).cell 2,(b9Y.below h b9Y.lt).one,(h.cell (p:=⟨gm,mo,none⟩) hgmY).trans hcY2⟩
   have hBwX:=below_in hBwY hBYX
   have HBW:=Lib.hid hBwX
   have H6U:Hid (∀ V,Below wX.heap.size wX V→Blk V g6 99 #[.int .i64 0,.int .i64 0,.slice none 0 0,.slice none 0 0,.slice none 0 0,.slice none 0 0]):=fun V hV=>(HZ.out.2.2.2.2.1.below (below_in hBY (below_in hBYX hV)) HZ.out.2.2.2.2.1.lt)
   have HCE:=Lib.hid (fun (V:World) (hV:Below wX.heap.size wX V)=>(shapeCells_anyO 2 (P:Int) (P:Int) V (HLL.out.next (below_in hBwX hV))).mono (R':=fun e w'=>∃ v,e = .returned v∧PlacesO V.heap.size (P:Int) (rowsL (P:Int)) P v w'∧Below V.heap.size V w') (by
    rintro e w' ⟨v,h1,⟨zs,hcol,hp⟩,h3⟩
    have hz:zs=rowsL (P:Int):=hcol.elim (fun h=>h.2.2) (fun h=>absurd ⟨Pr.rightC2 HD.out.hp,by unfold HasCol;rw [show shortN 2=1 from rfl,show madeN 2=2 from rfl];have:=prm_bounds HD.out.hp;omega⟩ h.1)
    rw [hz,Int.toNat_natCast] at hp
    exact ⟨v,h1,hp,h3⟩))
   obtain ⟨gCx,gox,cax,hvex,_,hgCx,hrowx⟩:=HZ.out.1.at_ (by have:=HNP.out;rw [HK.out.2.2.2.2];omega)
   injection hvex with e1 e2x e3x
   clear e2x e3x
   injection e1 with e1
   injection e1 with e4 e5 _
   subst e4 e5
   obtain ⟨uP,huP,mP⟩:=hrowx P (by rw [HK.out.2.2.2.2];have:=HNP.out;omega)
   have gP:=HK.out.2.2.2.1 P (by have:=HNP.out;omega)
   obtain ⟨aP,cP,hve,_⟩:=id mP
   subst hve
   have hQp:=HQ2.out
   obtain ⟨gePP,oePP,rfl,hgeP,hrP⟩:=many_at mP (by rw [gP.1];omega)
   have gD:=HGD.out.2.1
   have hmY3':Many Y.heap.size Y (.slice a3 (diagsMade (P:Int) Q ((lostC L Q n css).take P)).length c3) (diagsMade (P:Int) Q ((lostC L Q n css).take P)):=by rw [gD.1];exact hmY3
   obtain ⟨gdd,odd,rfl,hgdd,hrD⟩:=many_at hmY3' (by rw [gD.1];omega)
   rw [gP.1] at huP
   have HT:Hid (∀ V,Below wX.heap.size wX V→∀ z∈rowsL (P:Int),Calls Tryz.prog 119 #[.agg #[.int .i64 (P:Int),.int .i64 z],.pointer (some ⟨g9,0,none⟩),.pointer (some ⟨g10,0,none⟩),.pointer (some ⟨g7,0,none⟩)] V fun e w'=>∃ u,e = .returned u∧Fresh V.heap.size w' u (dcP P Q (lostC L Q n css) z.toNat)∧Below V.heap.size V w'):=fun V hV z hz=>by
    unfold rowsL at hz
    obtain ⟨i,hi,rfl⟩:=List.mem_map.1 hz
    have hiQ:i<Q:=by have:=List.mem_range.1 hi;have:=HD.out.hQ;omega
    rw [Int.toNat_natCast]
    have hY:=below_in hBYX hV
    have hZ:=below_in hBY hY
    obtain ⟨A3,c3',hc3,m3⟩:=hrP i (by rw [gP.1];exact hiQ)
    obtain ⟨A1,c1',hc1,m1⟩:=hrD i (by rw [gD.1];exact hiQ)
    rw [(gP.2 i hiQ).2] at hc3 m3
    rw [(gD.2 i hiQ).2] at hc1 m1
    have hl:=dcP_ok HD.out (by rw [HK.out.2.2.2.2,HNP.out]) (fun c hc=>HK.out.2.2.2.1 c (by have:=HNP.out;omega)) hiQ
    exact of1_any (Q:=Q) (N:=N) P i (by have:=HNP.out;omega) hiQ (by have:=HNP.out;have:=prm_bounds HD.out.hp;have:=HD.out.hQ;omega) g9 g10 g7 gm mo mc gdd odd c3 gC 0 cc gePP oePP cP A1 lA A3 n c1' n lc n c3' _ _ _ (xor_three HD.out.h1 HD.out.h64 (hl _ (by simp)) (hl _ (by simp)) (hl _ (by simp))) V (b9Y.below hY b9Y.lt).one (b10.below hV b10.lt).one (b7Y.below hY b7Y.lt).one ((hY.cell (p:=⟨gm,mo+1,none⟩) hgmY).trans hcY3) ((hY.cell (p:=⟨gdd,odd+i,none⟩) hgdd).trans hc1) ((hZ.cell (p:=⟨gC,0+P,none⟩) hgCx).trans huP) ((hZ.cell (p:=⟨gePP,oePP+i,none⟩) hgeP).trans hc3)
     (by have:=hY.size;have:=hZ.size;have:=b9Y.lt;have:=b7Y.lt;have:=b10.lt;have:=hV.size;exact ⟨by omega,by omega,by omega,by omega,by omega,by omega,by omega⟩) ((m1.below hY).more hY.size) ((hleX.below hV).more hV.size) ((m3.below hZ).more hZ.size)
   have HGA:=Lib.hid (fun (V0 V:World) (sv:Value) (hV:Below wX.heap.size wX V) (hs:V0.heap.size≤V.heap.size) (hsv:PlacesO V0.heap.size (P:Int) (rowsL (P:Int)) P sv V)=>(pGathered_any (n:=n) (P:Int) (rowsL (P:Int)) (fun z=>dcP P Q (lostC L Q n css) z.toNat) (fun z hz=>by
    unfold rowsL at hz
    obtain ⟨i,hi,rfl⟩:=List.mem_map.1 hz
    have hiQ:i<Q:=by have:=List.mem_range.1 hi;have:=HD.out.hQ;omega
    rw [Int.toNat_natCast]
    exact xorOf_len_of (by simp) (dcP_ok HD.out (by rw [HK.out.2.2.2.2,HNP.out]) (fun c hc=>HK.out.2.2.2.1 c (by have:=HNP.out;omega)) hiQ)) HD.out.h1 g9 g10 g7 enter_of1 V0.heap.size P (by have:=prm_bounds HD.out.hp;omega) sv V hs hsv (fun V' hV' z hz=>HT.out V' (below_in hV hV') z hz)).mono (R':=fun e w'=>∃ A c,e = .returned (.slice A Q c)∧manyR.R (fun b=>V.heap.size≤b∧b<w'.heap.size) w' (.slice A Q c) (dsP P Q (lostC L Q n css))∧Below V.heap.size V w') (by
     rintro e w' ⟨A,c,h1,h2,h3⟩
     rw [rowsL_cells P Q HD.out.hQ,rowsL_len P Q HD.out.hQ] at h2
     rw [rowsL_len P Q HD.out.hQ] at h1
     exact ⟨A,c,h1,h2,h3⟩))
   have HMR:=Lib.hid (And.intro hmY2 (And.intro hBYX hBY))
   have hBx:=(Below.refl wX.heap.size wX).drew
   have hS:=HSS.out _ hBx
   clear HT hrP hrD hrowx huP mP gP gD hgeP hgdd hgCx hmY2 hmY3 hcY2 hcY3 b0Y b7Y b9Y b10 hleX hBwX hBwY hadj hBYX hBY hB3 hB10 hwX hgmY
   refine wpIn_mono (region_HF (Q:=NoPanic _) (S:=(fun U:World=>U.cell? ⟨g0,0,none⟩=some (.int .i64 2)∧U.cell? ⟨g0,1,none⟩=some (.int .i64 (P:Int))∧U.cell? ⟨g0,2,none⟩=some (.slice (some ⟨g,0,none⟩) ls.length ls.length)∧U.cell? ⟨g9,0,none⟩=some (.slice (some ⟨gm,mo,none⟩) 2 mc)∧U.cell? ⟨gm,mo,none⟩=some (.slice a2 Q c2))) (by kernel_rfl) ?_) NoPanic.imp
   refine tkF (i:=0) (d:=42) (v:=.pointer (some ⟨g0,0,none⟩)) (s:=hS) (c:=?_)
   simp only [ud9]
   refine tkF (i:=1) (d:=43) (v:=.agg #[.int .i64 2,.int .i64 (P:Int)]) (s:=hS) (c:=?_)
   simp only [ud9]
   refine tkF (i:=2) (d:=44) (v:=.agg #[.int .i64 2,.int .i64 (P:Int),.slice (some ⟨g,0,none⟩) ls.length ls.length]) (s:=hS) (c:=?_)
   simp only [ud9]
   refine tkF (i:=5) (d:=47) (v:=.func (.func 119) #[] #[.pointer (some ⟨g9,0,none⟩),.pointer (some ⟨g10,0,none⟩),.pointer (some ⟨g7,0,none⟩)]) (s:=hS) (c:=?_)
   simp only [ud9]
   refine oneF (i:=3) (c:=?_)
   gi_wp2_with fail
   refine ⟨trivial,(callsIn_wide.2 (Pr.diagonalsAt_any (P:Int) (some ⟨g,0,none⟩) ls.length ls.length _)).mono ?_⟩
   rintro e v1 ⟨rfl,hB⟩
   replace hBx:=below_in hBx hB
   clear hS
   have hS:(fun U:World=>U.cell? ⟨g0,0,none⟩=some (.int .i64 2)∧U.cell? ⟨g0,1,none⟩=some (.int .i64 (P:Int))∧U.cell? ⟨g0,2,none⟩=some (.slice (some ⟨g,0,none⟩) ls.length ls.length)∧U.cell? ⟨g9,0,none⟩=some (.slice (some ⟨gm,mo,none⟩) 2 mc)∧U.cell? ⟨gm,mo,none⟩=some (.slice a2 Q c2)) v1:=HSS.out _ hBx
   clear hB
   gi_wp2
   try (refine ⟨hS,?_⟩)
   refine oneF (i:=4) (c:=?_)
   gi_wp2_with fail
   refine ⟨trivial,(callsIn_wide.2 (HCE.out _ hBx)).mono ?_⟩
   rintro e v2 ⟨sv,rfl,hsv,hB⟩
   have hszs:=hB.size
   replace hBx:=below_in hBx hB
   clear hS
   have hS:(fun U:World=>U.cell? ⟨g0,0,none⟩=some (.int .i64 2)∧U.cell? ⟨g0,1,none⟩=some (.int .i64 (P:Int))∧U.cell? ⟨g0,2,none⟩=some (.slice (some ⟨g,0,none⟩) ls.length ls.length)∧U.cell? ⟨g9,0,none⟩=some (.slice (some ⟨gm,mo,none⟩) 2 mc)∧U.cell? ⟨gm,mo,none⟩=some (.slice a2 Q c2)) v2:=HSS.out _ hBx
   clear hB
   gi_wp2
   try (refine ⟨hS,?_⟩)
   refine oneF (i:=6) (c:=?_)
   gi_wp2_with fail
   refine ⟨trivial,(callsIn_wide.2 (HGA.out _ _ sv hBx hszs hsv)).mono ?_⟩
   rintro e v3 ⟨dA,dc,rfl,hman,hB⟩
   have hszV:=hBx.size
   replace hBx:=below_in hBx hB
   clear hS
   have hS:(fun U:World=>U.cell? ⟨g0,0,none⟩=some (.int .i64 2)∧U.cell? ⟨g0,1,none⟩=some (.int .i64 (P:Int))∧U.cell? ⟨g0,2,none⟩=some (.slice (some ⟨g,0,none⟩) ls.length ls.length)∧U.cell? ⟨g9,0,none⟩=some (.slice (some ⟨gm,mo,none⟩) 2 mc)∧U.cell? ⟨gm,mo,none⟩=some (.slice a2 Q c2)) v3:=HSS.out _ hBx
   clear hB
   gi_wp2
   try (refine ⟨hS,?_⟩)
   refine oneF (i:=7) (c:=?_)
   gi_wp2
   refine anyHF_done (by kernel_rfl) ?_ _
   refine NoPanic.normal ?_
   clear hS
   gi_wp2_with fail
   have hS:(fun U:World=>U.cell? ⟨g0,0,none⟩=some (.int .i64 2)∧U.cell? ⟨g0,1,none⟩=some (.int .i64 (P:Int))∧U.cell? ⟨g0,2,none⟩=some (.slice (some ⟨g,0,none⟩) ls.length ls.length)∧U.cell? ⟨g9,0,none⟩=some (.slice (some ⟨gm,mo,none⟩) 2 mc)∧U.cell? ⟨gm,mo,none⟩=some (.slice a2 Q c2)) v3.drew:=HSS.out _ hBx.drew
   have hBU:=hBx
   replace hBx:=hBx.drew
   refine wpIn_mono (region_HG (Q:=NoPanic _) (S:=(fun U:World=>U.cell? ⟨g0,0,none⟩=some (.int .i64 2)∧U.cell? ⟨g0,1,none⟩=some (.int .i64 (P:Int))∧U.cell? ⟨g0,2,none⟩=some (.slice (some ⟨g,0,none⟩) ls.length ls.length)∧U.cell? ⟨g9,0,none⟩=some (.slice (some ⟨gm,mo,none⟩) 2 mc)∧U.cell? ⟨gm,mo,none⟩=some (.slice a2 Q c2))) (m:=7) (by kernel_rfl) ?_) NoPanic.imp
   refine anyHG_take (i:=0) (d:=49) (v:=.agg #[.int .i64 2,.int .i64 (P:Int),.slice (some ⟨g,0,none⟩) ls.length ls.length]) (by kernel_rfl) rfl (by kernel_rfl) (by kernel_rfl) (by kernel_rfl) rfl (by kernel_rfl) (fun _ _ _ h=>h) ⟨Or.inl ⟨by rfl,fun w hS=>by obtain ⟨h0,h1,h2,h3,h4⟩:=hS;go_simp⟩,fun _=>rfl⟩ hS ?_
   simp only [ud9]
   refine anyHG_take (i:=1) (d:=50) (v:=.slice (some ⟨gm,mo,none⟩) 2 mc) (by kernel_rfl) rfl (by kernel_rfl) (by kernel_rfl) (by kernel_rfl) rfl (by kernel_rfl) (fun _ _ _ h=>h) ⟨Or.inl ⟨by rfl,fun w hS=>by obtain ⟨h0,h1,h2,h3,h4⟩:=hS;go_simp⟩,fun _=>rfl⟩ hS ?_
   simp only [ud9]
   refine anyHG_take (i:=2) (d:=51) (v:=.pointer (some ⟨gm,mo,none⟩)) (by kernel_rfl) rfl (by kernel_rfl) (by kernel_rfl) (by kernel_rfl) rfl (by kernel_rfl) (fun _ _ _ h=>h) ⟨Or.inl ⟨by rfl,fun w hS=>by obtain ⟨h0,h1,h2,h3,h4⟩:=hS;go_simp⟩,fun _=>rfl⟩ hS ?_
   simp only [ud9]
   refine anyHG_take (i:=3) (d:=52) (v:=.slice a2 Q c2) (by kernel_rfl) rfl (by kernel_rfl) (by kernel_rfl) (by kernel_rfl) rfl (by kernel_rfl) (fun _ _ _ h=>h) ⟨Or.inl ⟨by rfl,fun w hS=>by obtain ⟨h0,h1,h2,h3,h4⟩:=hS;go_simp⟩,fun _=>rfl⟩ hS ?_
   simp only [ud9]
   refine anyHG_take (i:=4) (d:=53) (v:=.slice dA Q dc) (by kernel_rfl) rfl (by kernel_rfl) (by kernel_rfl) (by kernel_rfl) rfl (by kernel_rfl) (fun _ _ _ h=>h) ⟨Or.inl ⟨by rfl,fun w hS=>by obtain ⟨h0,h1,h2,h3,h4⟩:=hS;go_simp⟩,fun _=>rfl⟩ hS ?_
   simp only [ud9]
   refine anyHG_take (i:=5) (d:=54) (v:=.slice nA n nc) (by kernel_rfl) rfl (by kernel_rfl) (by kernel_rfl) (by kernel_rfl) rfl (by kernel_rfl) (fun _ _ _ h=>h) ⟨Or.inl ⟨by rfl,fun w hS=>by obtain ⟨h0,h1,h2,h3,h4⟩:=hS;go_simp⟩,fun _=>rfl⟩ hS ?_
   simp only [ud9]
   refine anyHG_take (i:=6) (d:=55) (v:=.agg #[.int .i64 2,.int .i64 (P:Int),.slice (some ⟨g,0,none⟩) ls.length ls.length,.slice a2 Q c2,.slice dA Q dc,.slice nA n nc]) (by kernel_rfl) rfl (by kernel_rfl) (by kernel_rfl) (by kernel_rfl) rfl (by kernel_rfl) (fun _ _ _ h=>h) ⟨Or.inl ⟨by rfl,fun w hS=>by obtain ⟨h0,h1,h2,h3,h4⟩:=hS;go_simp⟩,fun _=>rfl⟩ hS ?_
   simp only [ud9]
   refine anyHG_one (i:=7) (by kernel_rfl) rfl (by kernel_rfl) (by rfl) ?_
   have b6U:=H6U.out _ hBU
   have d0:=b6U.cell 0
   have d1:=b6U.cell 1
   have d2:=b6U.cell 2
   have d3:=b6U.cell 3
   have d4:=b6U.cell 4
   have d5:=b6U.cell 5
   have f0:=b6U.frozen 0
   have f1:=b6U.frozen 1
   have f2:=b6U.frozen 2
   have f3:=b6U.frozen 3
   have f4:=b6U.frozen 4
   have f5:=b6U.frozen 5
   simp only [gz9] at d0 d1 d2 d3 d4 d5
   obtain ⟨we,hwe⟩:∃ z,((((((v3).setCell ⟨g6,0,none⟩ (.int .i64 2)).setCell ⟨g6,1,none⟩ (.int .i64 (P:Int))).setCell ⟨g6,2,none⟩ (.slice (some ⟨g,0,none⟩) ls.length ls.length)).setCell ⟨g6,3,none⟩ (.slice a2 Q c2)).setCell ⟨g6,4,none⟩ (.slice dA Q dc)).setCell ⟨g6,5,none⟩ (.slice nA n nc)=z:=⟨_,rfl⟩
   have bf:=(((((b6U.set_ 0 (.int .i64 2)).set_ 1 (.int .i64 (P:Int))).set_ 2 (.slice (some ⟨g,0,none⟩) ls.length ls.length)).set_ 3 (.slice a2 Q c2)).set_ 4 (.slice dA Q dc)).set_ 5 (.slice nA n nc)
   rw [hwe] at bf
   have hkf:∀ b,b≠g6→we.heap[b]?=v3.heap[b]?:=fun b hb=>by rw [←hwe];exact (Below.heap_setCell _ ⟨g6,5,none⟩ _ b hb).trans ((Below.heap_setCell _ ⟨g6,4,none⟩ _ b hb).trans ((Below.heap_setCell _ ⟨g6,3,none⟩ _ b hb).trans ((Below.heap_setCell _ ⟨g6,2,none⟩ _ b hb).trans ((Below.heap_setCell _ ⟨g6,1,none⟩ _ b hb).trans (Below.heap_setCell _ ⟨g6,0,none⟩ _ b hb)))))
   have hzf:we.heap.size=v3.heap.size:=by rw [←hwe];simp
   have hBwf:Below w.heap.size w we:=by rw [←hwe];exact ((((((below_in HBW.out hBU).setCell (by show w.heap.size≤g6;have:=HBB.out;omega) _).setCell (by show w.heap.size≤g6;have:=HBB.out;omega) _).setCell (by show w.heap.size≤g6;have:=HBB.out;omega) _).setCell (by show w.heap.size≤g6;have:=HBB.out;omega) _).setCell (by show w.heap.size≤g6;have:=HBB.out;omega) _).setCell (by show w.heap.size≤g6;have:=HBB.out;omega) _
   have r0:=bf.cell 0
   have r1:=bf.cell 1
   have r2:=bf.cell 2
   have r3:=bf.cell 3
   have r4:=bf.cell 4
   have r5:=bf.cell 5
   simp only [List.setIfInBounds_toArray,List.set_cons_zero,List.set_cons_succ,List.getElem?_toArray,List.getElem?_cons_zero,List.getElem?_cons_succ] at r0 r1 r2 r3 r4 r5
   have HBF:=Lib.hid (And.intro hkf (And.intro hzf (And.intro hBwf b6U)))
   clear hkf hzf hBwf bf b6U hS
   gi_wp2
   (try rw [hwe])
   clear d0 d1 d2 d3 d4 d5 f0 f1 f2 f3 f4 f5
   refine anyHG_done (by kernel_rfl) ?_ _
   refine NoPanic.normal ?_
   gi_wp2_with fail
   have hBY3:=below_in HMR.out.2.1 hBU
   have hbl:=blank_of HBF.out.2.2.2 (by intro u hu;simp at hu;exact hu)
   have hp2:=many_apart (HMR.out.1.below hBY3) hbl (goodC_pos HGD.out.1 HGD.out.2.2)
   have hn2:=bytes_apart (HZ.out.2.1.below (below_in HMR.out.2.2 hBY3)) hbl
   have h6l:=(H6U.out wX (Below.refl _ _)).lt
   have hz3:=hBY3.size
   have hz4:=HMR.out.2.2.size
   refine ⟨.agg #[.int .i64 2,.int .i64 (P:Int),.slice (some ⟨g,0,none⟩) ls.length ls.length,.slice a2 Q c2,.slice dA Q dc,.slice nA n nc],by simp [results,Tryz.results62,go_sem,r0,r1,r2,r3,r4,r5],a2,c2,dA,dc,nA,nc,rfl,?_,?_,?_,HBF.out.2.2.1.drew⟩
   · exact manyR.imp (manyR.keep hp2 fun b hb=>HBF.out.1 b hb.2) fun b hb=>(show b<we.heap.size by have h1:=hb.1;have h2:=HBF.out.2.1;omega)
   · exact manyR.imp (manyR.keep hman fun b hb=>HBF.out.1 b (by have h1:=hb.1;omega)) fun b hb=>(show b<we.heap.size by have h1:=hb.2;have h2:=HBF.out.2.1;omega)
   · exact bytesR.imp (bytesR.keep hn2 fun b hb=>HBF.out.1 b hb.2) fun b hb=>(show b<we.heap.size by have h1:=hb.1;have h2:=HBF.out.2.1;omega)
end Go.Proofs.YtcchjofjpflbhaaGreatDoor.T

set_option linter.unusedVariables false
set_option linter.unusedSimpArgs false
set_option maxRecDepth 100000
set_option maxHeartbeats 8000000
namespace Go.Proofs.YtcchjofjpflbhaaGreatDoor.T
open Go.RowKit Go.Shelf Go.Maps Go.Proofs.YtcchjofjpflbhaaGreatDoor.C Go.Proofs.YtcchjofjpflbhaaGreatDoor.E Go.Proofs.YtcchjofjpflbhaaGreatDoor.Ch
attribute [local go_sem] Oper.semAt_some

section
variable {Q:Nat→Prop} {base:Nat} {v:Value}
theorem opIn_pushCP {F:Fence} {nF:Nat} {T:TypeId} (w:World) {o:Oper} {a:Act} {K:Act→World→Prop} {QQ:Exit→Act→World→Prop} (s x:Operand)
 (ho:o.op = .call { callee:=.builtin .append,args:=#[s,x],argTypes:=#[T,T] }) (hT:Tryz.prog.underlying T=some (.slice 50)) (css:List (List (List UInt8))) (hs:a.eval s=v) (h:RowC Q w base v css)
 (g:Nat) (tg:TypeId) (u:Value) (ls:List (List UInt8)) (hx:a.eval x = .slice (some ⟨g,0,none⟩) 1 1) (hg:Blk w g tg #[u]) (hu:manyR.R (fun b=>b<w.heap.size∧some b≠v.ownBlock∧Q b) w u ls) (hlen:css.length≤100000) (hbase:base≤w.heap.size)
 (hK:∀ v' w',RowC Q w' base v' (css ++ [ls])→w.grownBy w' v.ownBlock→(v'.ownBlock=v.ownBlock∨v'.ownBlock=some w.heap.size)→K (a.put o.dst v') w'):Oper.wpIn F nF Tryz.prog o a w K QQ:=by
 obtain ⟨i,hi,hz0,hz1,hz2⟩:=info_parts Tryz.infoCol
 obtain ⟨v',w',hrun,h1,h2,h3⟩:=RowG.push i hi hz0 hz1 hz2 T o.type hT h g tg u ls hg hu hlen hbase
 unfold Oper.wpIn
 refine ⟨by simp [Oper.about,ho,resolve,Target.leads,Sem.run_pure],?_⟩
 rw [Oper.semAt_plain F _ _ (by rw [ho];intro c hc';cases hc')]
 simp [execOp,ho,resolve,invoke,builtin,hs,hx,hrun,Result.andThen,Oper.uponIn]
 exact hK v' w' h1 h2 h3
end
theorem enter_valI:∀ args W,(callFunc 179 args).run Tryz.prog W = .ok (.enter 179 args) W:=enters_of Tryz.func179 (by kernel_rfl) rfl
theorem valuesT (Bs gl:Nat) (zs:List Int) (hlen:zs.length≤1000) (w:World) (hBs:Bs<w.heap.size) (hgl:gl<w.heap.size) (hc0:w.cell? ⟨Bs,0,none⟩=some (.slice (some ⟨gl,0,none⟩) zs.length zs.length)) (hcj:∀ j,j<zs.length→w.cell? ⟨gl,j,none⟩=some (.int .i64 (zs[j]?.getD 0))) :
 ∀ n,1≤n→SeqT Fence.wide n Tryz.prog 179 #[.pointer (some ⟨Bs,0,none⟩)] (fun x:Int=>#[Value.int .i64 x]) (fun pre x _=>pre ++ [x] <+: zs) (Keep 0 w.heap.size) (fun ys=>ys=zs) (fun pre=>pre <+: zs) 1001 w:=by
 intro n hn l J Jx W o₀ hW ho₀ hJ hJx hr1 hr2 hY h0
 have hBsW:=(hW.cell (p:=⟨Bs,0,none⟩) hBs).trans hc0
 have hcW:Hid (∀ j,j<zs.length→W.cell? ⟨gl,j,none⟩=some (.int .i64 (zs[j]?.getD 0))):=fun j hj=>(hW.cell (p:=⟨gl,j,none⟩) hgl).trans (hcj j hj)
 have hWs:=hW.size
 have HJ:=Lib.hid (And.intro hJ (And.intro hJx (And.intro hr1 (And.intro hr2 hY))))
 clear hJ hJx hr1 hr2 hY hc0 hcj hW
 refine callsIn_of_wp Tryz.func179 rfl trivial ?_ rfl
 simp only [Tryz.ntmps179,List.size_toArray,List.length_cons,List.length_nil,Nat.reduceAdd,Nat.reduceSub,Array.replicate_succ,Array.replicate_zero,List.push_toArray,List.append_toArray,List.nil_append,List.cons_append]
 gi_wp2
 gi_loopw [7] (fun i wr=>∃ (k:Nat) (o:Nat→Prop),k≤zs.length∧i = .int .i64 k∧J (zs.take k) o wr∧FreshO o₀ o W∧Keep 0 w.heap.size W wr∧W.heap.size≤wr.heap.size) (fun i _=>zs.length - (intOf i).toNat)
 case atStart=>exact ⟨0,o₀,Nat.zero_le _,rfl,h0,FreshO.refl _ _,Keep.refl _ _ _,Nat.le_refl _⟩
 case round =>
  obtain ⟨k,o,hk,rfl,hJs,hfr,hkp,hsz⟩:=hrel
  by_cases hlt:k<zs.length
  · have hcx:wr.cell? ⟨gl,k,none⟩=some (.int .i64 (zs[k]?.getD 0)):=(World.cell?_of_block (a:=⟨gl,k,none⟩) (hkp.2 gl (Nat.zero_le _) (by omega))).trans (hcW.out k hlt)
    have HT:=Lib.hid (take_next zs hlt)
    have hpf:zs.take k ++ [zs[k]?.getD 0] <+: zs:=by rw [←HT.out];exact List.take_prefix _ _
    generalize zs[k]?.getD 0=x at hcx HT hpf
    obtain ⟨fn,tmps,assign,body,hy,hR⟩:=HJ.out.2.2.2.2 _ x o wr hJs hpf (by rw [List.length_take];omega) hsz
    gi_wp2
    refine hR.mono ?_
    rintro e W3 ⟨o',hf3,hs3,(⟨rfl,hJ3,hk3⟩ | ⟨rfl,hJ3,hk3⟩)⟩
    · gi_wp2
      go_roundw
      case rel=>exact ⟨k+1,o',by omega,by go_num,by rw [HT.out];exact hJ3,hfr.trans hsz hf3,hkp.trans hk3,Nat.le_trans hsz hs3.1⟩
      case measure=>simp [intOf];omega
    · gi_wp2
      refine bodyPost_ret (results_none rfl _ _ _) rfl ?_
      exact ⟨⟨_,rfl⟩,o',hfr.trans hsz hf3,.inr ⟨_,by rw [←HT.out];exact List.take_prefix _ _,hJ3⟩⟩
  · obtain rfl:k=zs.length:=by omega
    rw [List.take_length] at hJs
    gi_wp2
    go_end0
    exact ⟨⟨_,rfl⟩,o,hfr,.inl ⟨_,rfl,hJs⟩⟩

def colX (a:Int) (A B:List (List UInt8)) (x:Int):List (List UInt8):=if x=a then A else B
def IGath (a b:Int) (A B:List (List UInt8)) (g0 g1:Nat) (TVV:Value) (W0 w7:World) (pre:List Int) (o:Nat→Prop) (X:World):Prop :=
 ∃ v,Blk X g1 40 #[v]∧RowC (·<W0.heap.size) X w7.heap.size v (pre.map (colX a A B))∧(o=fun b=>v.ownBlock=some b)∧Blk X g0 160 #[TVV]∧Below W0.heap.size W0 X∧(∀ x∈pre,x=a∨x=b)∧w7.heap.size≤X.heap.size
theorem pGatherI_any {Q:Nat} (a b:Int) (hab:a≠b) (Bs gl g3 gm ga gb:Nat) (A B:List (List UInt8)) (W:World) (hBs:Bs<W.heap.size) (hgl:gl<W.heap.size) (hc:W.cell? ⟨Bs,0,none⟩=some (.slice (some ⟨gl,0,none⟩) 2 2)) (cA:W.cell? ⟨gl,0,none⟩=some (.int .i64 a)) (cB:W.cell? ⟨gl,1,none⟩=some (.int .i64 b)) (b3:Blk W g3 221 #[.map (some gm)]) (hM:IntMap W gm [(a,.slice (some ⟨ga,0,none⟩) Q Q),(b,.slice (some ⟨gb,0,none⟩) Q Q)]) (mA:Many W.heap.size W (.slice (some ⟨ga,0,none⟩) Q Q) A) (mB:Many W.heap.size W (.slice (some ⟨gb,0,none⟩) Q Q) B) :
 Calls Tryz.prog 124 #[.func (.func 179) #[] #[.pointer (some ⟨Bs,0,none⟩)],.func (.func 178) #[] #[.pointer (some ⟨g3,0,none⟩)]] W fun e w'=>∃ gC kk,e = .returned (.slice (some ⟨gC,0,none⟩) 2 kk)∧Cols w'.heap.size w' (.slice (some ⟨gC,0,none⟩) 2 kk) [A,B]∧Below W.heap.size W w':=by
 obtain ⟨w7,hw7⟩:∃ x,(W.alloc (.cells #[.func (.func 178) #[] #[.pointer (some ⟨g3,0,none⟩)]] 160)).alloc (.cells #[.slice none 0 0] 40)=x:=⟨_,rfl⟩
 obtain ⟨g0,hg0⟩:∃ x,W.heap.size=x:=⟨_,rfl⟩
 obtain ⟨g1,hg1⟩:∃ x,g0+1=x:=⟨_,rfl⟩
 have b0:Blk w7 g0 160 #[.func (.func 178) #[] #[.pointer (some ⟨g3,0,none⟩)]]:=by rw [←hw7,←hg0];exact (Blk.new W _ _).alloc _
 have b1:Blk w7 g1 40 #[.slice none 0 0]:=by rw [←hw7,←hg1,←hg0];exact Blk.second W _ _ _
 have hB7:Below W.heap.size W w7:=by rw [←hw7];exact below_two W _ _
 have s7:w7.heap.size=W.heap.size+2:=by rw [←hw7];simp
 have hgo:=valuesT Bs gl [a,b] (by simp) W hBs hgl hc (fun j hj=>by
  have hj2:j=0∨j=1:=by simp at hj;omega
  rcases hj2 with rfl | rfl
  · exact cA
  · exact cB)
 have HX:=Lib.hid (fun (x:Int) (hx:x=a∨x=b)=>(by
  rcases hx with rfl | rfl
  · exact ⟨ga,fun V (hV:Below W.heap.size W V)=>held_any g3 gm _ x (some ⟨ga,0,none⟩) Q Q (by simp) V (b3.below hV b3.lt) (hM.below hV hM.lt),by unfold colX;rw [if_pos rfl];exact mA⟩
  · exact ⟨gb,fun V (hV:Below W.heap.size W V)=>held_any g3 gm _ x (some ⟨gb,0,none⟩) Q Q (by rw [List.find?_cons_of_neg (by simp;exact hab)];simp) V (b3.below hV b3.lt) (hM.below hV hM.lt),by unfold colX;rw [if_neg (fun e=>hab e.symm)];exact mB⟩:∃ gx,(∀ V,Below W.heap.size W V→Calls Tryz.prog 178 #[.int .i64 x,.pointer (some ⟨g3,0,none⟩)] V fun e w'=>e = .returned (.slice (some ⟨gx,0,none⟩) Q Q)∧w'=V)∧Many W.heap.size W (.slice (some ⟨gx,0,none⟩) Q Q) (colX a A B x)))
 have hI0:IGath a b A B g0 g1 (.func (.func 178) #[] #[.pointer (some ⟨g3,0,none⟩)]) W w7 [] (fun _=>False) w7:=⟨.slice none 0 0,b1,RowG.nil _ _ _ _ _ _,by funext b;simp [Value.ownBlock],b0,hB7,fun x hx=>(by cases hx),Nat.le_refl _⟩
 have S7:=Lib.hid s7
 have HG0:=Lib.hid (And.intro hg0 hg1)
 have HAB:=Lib.hid hab
 have hent:=enter_held
 clear s7 hg0 b0 b1 hc cA cB b3 hM mA mB hBs hgl hab
 refine (callsIn_wide (n:=9)).1 ?_
 refine callsIn_of_wp_marks Tryz.func124 rfl trivial ?_ rfl
 simp only [Tryz.ntmps124,List.size_toArray,List.length_cons,List.length_nil,Nat.reduceAdd,Nat.reduceSub,Array.replicate_succ,Array.replicate_zero,List.push_toArray,List.append_toArray,List.nil_append,List.cons_append]
 gi_wp2_with fail
 (try rw [HG0.out.1]);(try rw [hg1])
 clear hw7 hg1
 refine wpIn_rangeT rfl (by omega) (gf:=179) (lb:=#[.pointer (some ⟨Bs,0,none⟩)]) rfl trivial enter_valI (hgo _ (by omega)) (fun h h'=>h.trans h') (fun X l o hl _ _=>Keep.putFar X (by have:=S7.out;omega) o) hB7 (fun _=>rfl)
  (IGath a b A B g0 g1 (.func (.func 178) #[] #[.pointer (some ⟨g3,0,none⟩)]) W w7) (fun _ _ _ _=>False) ?hI (fun c s o X Y row hs _ _=>hs) (fun _=>False) (fun b e=>e.elim) hI0
  (fun pre x o a' X=>a'=({ tmps:=#[.func (.func 179) #[] #[.pointer (some ⟨Bs,0,none⟩)],.func (.func 178) #[] #[.pointer (some ⟨g3,0,none⟩)],undef,.pointer (some ⟨g0,0,none⟩),.slice none 0 0,.pointer (some ⟨g1,0,none⟩),.int .i64 x,.func (.func 179) #[] #[.pointer (some ⟨Bs,0,none⟩)],.int .i64 x,undef,undef,undef,undef,undef,undef,undef],defers:=[] }:Act)∧pre ++ [x] <+: [a,b])
  (fun pre x o a' X l ob r _ _ _ h=>h) ?assign (fun pre o X h=>?hrow) (fun c pre o X h=>h.elim) ?body ?done (fun D c pre o X _ _ _ h=>h.elim)
 case hI =>
  rintro s o X Y row ⟨v,hb1,ho,rfl,hb0,hBX,hpr,hsz⟩ hgr hr
  have s7:=S7.out
  have hg:=HG0.out
  have hne:∀ g,g<w7.heap.size→some g≠row:=fun g hg e=>by have:=(hr g e.symm).1;omega
  refine ⟨v,hb1.grown hgr (hne _ (by omega)),ho.kept hgr ?_ (fun b hb e=>by have hb':b<W.heap.size:=hb;have:=(hr b e.symm).1;omega),rfl,hb0.grown hgr (hne _ (by omega)),below_grown hBX hgr hBX.size (fun r e=>by have:=(hr r e).1;omega),hpr,Nat.le_trans hsz hgr.size⟩
  cases hrow:row with
  | none=>exact (Option.eq_none_or_eq_some v.ownBlock).imp id (fun ⟨x,hx⟩=>by rw [hx];simp)
  | some r=>exact .inr (fun e=>(hr r hrow).2 e)
 case hrow =>
  obtain ⟨v,_,ho,rfl,_⟩:=h
  intro b hb
  exact T.RowG.ownCells ho hb
 case assign =>
  intro l' pre x o X K hsz' hol hI hok hK
  gi_wp2
  exact hK _ _ (SinceO.refl _ _ _) (Keep.refl _ _ _) hI ⟨rfl,hok⟩
 case body =>
  rintro l' pre x o a' X hsz ⟨v,hb1,ho,rfl,hb0,hBX,hpr,hge⟩ ⟨rfl,hpx⟩ hlz
  obtain ⟨vA,vn,vc,rfl⟩:=T.RowG.formR ho
  have s7:=S7.out
  have hg:=HG0.out
  have hxm:x=a∨x=b:=by
   have h:=hpx.subset (List.mem_append_right pre (List.mem_singleton.2 rfl))
   simpa using h
  obtain ⟨gx,hel,hmx⟩:=HX.out x hxm
  have hB0X:=hBX.size
  have hvn:∀ g,(Value.slice vA vn vc).ownBlock=some g→w7.heap.size≤g:=fun g e=>RowG.own_le ho g e
  have h1l:=hb1.lt
  have h0l:=hb0.lt
  have HEL:=Lib.hid (fun (V:World) (hV:Below X.heap.size X V)=>hel V (below_in hBX hV))
  have HRW:=Lib.hid (fun (V:World) (hV:Below X.heap.size X V)=>RowG.below ho hV)
  have HMX:Hid (∀ V,Below X.heap.size X V→manyR.R (fun b=>b<V.heap.size∧some b≠(Value.slice vA vn vc).ownBlock∧b<W.heap.size) V (.slice (some ⟨gx,0,none⟩) Q Q) (colX a A B x)):=fun V hV=>manyR.imp (show manyR.R (·<W.heap.size) V _ _ from hmx.below (below_in hBX hV)) fun b hb=>⟨by have hb':b<W.heap.size:=hb;have:=hV.size;omega,fun e=>by have hb':b<W.heap.size:=hb;have:=hvn b e.symm;omega,hb⟩
  have HSX:Hid (∀ V,Below X.heap.size X V→(fun U:World=>U.cell? ⟨g1,0,none⟩=some (.slice vA vn vc)∧U.cell? ⟨g0,0,none⟩=some (.func (.func 178) #[] #[.pointer (some ⟨g3,0,none⟩)])) V):=fun V hV=>⟨(hb1.below hV h1l).one,(hb0.below hV h0l).one⟩
  have HBS:Hid (∀ V,Below X.heap.size X V→w7.heap.size≤V.heap.size):=fun V hV=>Nat.le_trans hge hV.size
  have HSG:Hid (∀ wa wb,Below X.heap.size X wa→wa.grownBy wb (Value.slice vA vn vc).ownBlock→(fun U:World=>U.cell? ⟨g1,0,none⟩=some (.slice vA vn vc)∧U.cell? ⟨g0,0,none⟩=some (.func (.func 178) #[] #[.pointer (some ⟨g3,0,none⟩)])) wb∧wb.frozen? ⟨g1,0,none⟩=false):=fun wa wb hwa hgr=>by
   have n1:some g1≠(Value.slice vA vn vc).ownBlock:=fun e=>by have:=hvn g1 e.symm;omega
   have n0:some g0≠(Value.slice vA vn vc).ownBlock:=fun e=>by have:=hvn g0 e.symm;omega
   have y1:=(hb1.below hwa h1l).grown hgr n1
   exact ⟨⟨y1.one,((hb0.below hwa h0l).grown hgr n0).one⟩,y1.frozen 0⟩
  have HLEN:Hid ((pre.map (colX a A B)).length≤100000):=by unfold Hid;rw [List.length_map];omega
  have HFIN:Hid (∀ (wa wb:World) (u:Value),Below X.heap.size X wa→wa.grownBy wb (Value.slice vA vn vc).ownBlock→(u.ownBlock=(Value.slice vA vn vc).ownBlock∨u.ownBlock=some wa.heap.size) →
   RowC (·<W.heap.size) wb (w7.heap.size) u (pre.map (colX a A B) ++ [colX a A B x]) →
   ∃ o',FreshO (fun b=>(Value.slice vA vn vc).ownBlock=some b) o' X∧SinceO w7.heap.size (fun b=>(Value.slice vA vn vc).ownBlock=some b) X (wb.setCell ⟨g1,0,none⟩ u)∧Keep 0 W.heap.size X (wb.setCell ⟨g1,0,none⟩ u)∧IGath a b A B g0 g1 (.func (.func 178) #[] #[.pointer (some ⟨g3,0,none⟩)]) W w7 (pre ++ [x]) o' (wb.setCell ⟨g1,0,none⟩ u)):=fun wa wb u hwa hgr hu hrow=>by
   have hza:=hwa.size
   have hzb:=hgr.size
   have n1:some g1≠(Value.slice vA vn vc).ownBlock:=fun e=>by have:=hvn g1 e.symm;omega
   have n0:some g0≠(Value.slice vA vn vc).ownBlock:=fun e=>by have:=hvn g0 e.symm;omega
   have heqX:∀ b,b<X.heap.size→some b≠(Value.slice vA vn vc).ownBlock→wb.heap[b]?=X.heap[b]?:=fun b h1 h3=>(hgr.block b (by omega) h3).trans (hwa.block b h1)
   have x1:Blk wb g1 40 #[.slice vA vn vc]:=(heqX g1 h1l n1).trans hb1
   have x0:Blk wb g0 160 #[.func (.func 178) #[] #[.pointer (some ⟨g3,0,none⟩)]]:=(heqX g0 h0l n0).trans hb0
   have hBwa:Below W.heap.size W wa:=hBX.trans (hwa.mono hB0X)
   have hBwb:Below W.heap.size W wb:=below_grown hBwa hgr (by omega) (fun k e=>by have:=hvn k e;omega)
   have hzZ:(wb.setCell ⟨g1,0,none⟩ u).heap.size=wb.heap.size:=by simp
   refine ⟨fun b=>u.ownBlock=some b,fun b hb=>?_,⟨by rw [hzZ];omega,fun b h2 h3 h4=>?_⟩,⟨by rw [hzZ];omega,fun b h2 h3=>?_⟩,u,x1.set_ 0 u,?_,rfl,Blk.far x0 (by show g0≠g1;omega) _,hBwb.setCell (by show W.heap.size≤g1;omega) _,?_,by rw [hzZ];omega⟩
   · rcases hu with hu | hu
     · exact .inl (hu.symm.trans hb)
     · rw [hu] at hb;injection hb with hb;exact .inr (by omega)
   · exact (Below.heap_setCell wb ⟨g1,0,none⟩ u b (by show b≠g1;omega)).trans (heqX b h3 (fun e=>h4 e.symm))
   · exact (Below.heap_setCell wb ⟨g1,0,none⟩ u b (by show b≠g1;omega)).trans (heqX b (by omega) (fun e=>by have:=hvn b e.symm;omega))
   · rw [List.map_append,List.map_cons,List.map_nil]
     refine RowG.farR hrow ?_ (fun b hb=>?_) u
     · show some g1≠u.ownBlock
       rcases hu with hu | hu
       · rw [hu];exact n1
       · rw [hu];intro e;injection e with e;omega
     · have hb':b<W.heap.size:=hb
       show b≠g1
       omega
   · intro y hy
     rcases List.mem_append.1 hy with h | h
     · exact hpr y h
     · rw [List.mem_singleton.1 h];exact hxm
  have hS:(fun U:World=>U.cell? ⟨g1,0,none⟩=some (.slice vA vn vc)∧U.cell? ⟨g0,0,none⟩=some (.func (.func 178) #[] #[.pointer (some ⟨g3,0,none⟩)])) X.drew:=HSX.out _ (Below.refl X.heap.size X).drew
  clear hb1 ho hb0 hBX hvn s7 hg hel hmx hpx hxm h1l h0l hB0X hpr
  gi_wp2_with fail
  refine wpIn_mono (region_HG (Q:=NoPanic _) (S:=(fun U:World=>U.cell? ⟨g1,0,none⟩=some (.slice vA vn vc)∧U.cell? ⟨g0,0,none⟩=some (.func (.func 178) #[] #[.pointer (some ⟨g3,0,none⟩)]))) (m:=6) (by kernel_rfl) ?_) NoPanic.imp
  refine anyHG_take (i:=0) (d:=9) (v:=.slice vA vn vc) (by kernel_rfl) rfl (by kernel_rfl) (by kernel_rfl) (by kernel_rfl) rfl (by kernel_rfl) (fun _ _ _ h=>h) ⟨Or.inl ⟨by rfl,fun w hS=>by obtain ⟨h0,h1⟩:=hS;go_simp⟩,fun _=>rfl⟩ hS ?_
  simp only [ud9]
  refine anyHG_take (i:=1) (d:=10) (v:=.func (.func 178) #[] #[.pointer (some ⟨g3,0,none⟩)]) (by kernel_rfl) rfl (by kernel_rfl) (by kernel_rfl) (by kernel_rfl) rfl (by kernel_rfl) (fun _ _ _ h=>h) ⟨Or.inl ⟨by rfl,fun w hS=>by obtain ⟨h0,h1⟩:=hS;go_simp⟩,fun _=>rfl⟩ hS ?_
  simp only [ud9]
  refine anyHG_take (i:=2) (d:=11) (v:=.int .i64 x) (by kernel_rfl) rfl (by kernel_rfl) (by kernel_rfl) (by kernel_rfl) rfl (by kernel_rfl) (fun _ _ _ h=>h) ⟨Or.inl ⟨by rfl,fun w hS=>by obtain ⟨h0,h1⟩:=hS;go_simp⟩,fun _=>rfl⟩ hS ?_
  simp only [ud9]
  refine anyHG_one (i:=3) (by kernel_rfl) rfl (by kernel_rfl) (by rfl) ?_
  gi_wp2_with fail
  refine ⟨trivial,(CallsIn.inRound l' (callsIn_wide.2 (HEL.out X.drew (Below.refl X.heap.size X).drew))).mono ?_⟩
  rintro e w9 ⟨rfl,rfl⟩
  gi_wp2
  try (refine ⟨.inr hS,?_⟩)
  refine anyHG_one (i:=4) (by kernel_rfl) rfl (by kernel_rfl) (by rfl) ?_
  have hBa:Below X.heap.size X (X.drew.alloc (.cells #[.slice (some ⟨gx,0,none⟩) Q Q] 50)):=(Below.refl X.heap.size X).drew.alloc (Nat.le_refl _) _
  have bE:Blk (X.drew.alloc (.cells #[.slice (some ⟨gx,0,none⟩) Q Q] 50)) X.drew.heap.size 50 #[.slice (some ⟨gx,0,none⟩) Q Q]:=Blk.new X.drew _ _
  obtain ⟨wa,hwa⟩:∃ wa,(X.drew.alloc (.cells #[.slice (some ⟨gx,0,none⟩) Q Q] 50))=wa:=⟨_,rfl⟩
  obtain ⟨ge,hge⟩:∃ z,X.drew.heap.size=z:=⟨_,rfl⟩
  have hge2:X.heap.size=ge:=hge
  rw [hwa] at hBa bE
  rw [hge] at bE
  clear hS
  have hS:(fun U:World=>U.cell? ⟨g1,0,none⟩=some (.slice vA vn vc)∧U.cell? ⟨g0,0,none⟩=some (.func (.func 178) #[] #[.pointer (some ⟨g3,0,none⟩)])) wa:=HSX.out _ hBa
  gi_wp2
  (try rw [hge2]);(try rw [hge]);(try rw [hwa])
  try (refine ⟨.inr hS,?_⟩)
  refine anyHG_one (i:=5) (by kernel_rfl) rfl (by kernel_rfl) (by rfl) ?_
  refine opIn_pushCP (T:=40) (v:=.slice vA vn vc) wa _ _ rfl Tryz.underlying40 _ rfl (HRW.out _ hBa) ge _ _ _ rfl bE (HMX.out _ hBa) HLEN.out (HBS.out _ hBa) ?_
  intro v' wb hrow hgr hor
  obtain ⟨vA2,vn2,vc2,rfl⟩:=T.RowG.formR hrow
  clear hS
  have hS:(fun U:World=>U.cell? ⟨g1,0,none⟩=some (.slice vA vn vc)∧U.cell? ⟨g0,0,none⟩=some (.func (.func 178) #[] #[.pointer (some ⟨g3,0,none⟩)])) wb:=(HSG.out wa wb hBa hgr).1
  gi_wp2_with fail
  try (refine ⟨.inr hS,?_⟩)
  refine anyHG_one (i:=6) (by kernel_rfl) rfl (by kernel_rfl) (by rfl) ?_
  have f0:=(HSG.out wa wb hBa hgr).2
  obtain ⟨h0,h1⟩:=hS
  gi_wp2
  refine anyHG_done (by kernel_rfl) ?_ _
  refine NoPanic.normal ?_
  clear h0 h1 f0
  gi_wp2_with fail
  exact HFIN.out wa wb _ hBa hgr hor hrow
 case done =>
  rintro D0 xs oX X hD0 _ hxz ⟨v,hb1,ho,rfl,hb0,hBX,hpr,hge⟩ hKD hne
  rw [show xs = [a,b] from hxz] at ho
  obtain ⟨vA,vn,vc,rfl⟩:=T.RowG.formR ho
  have c1:=hb1.one
  have s7:=S7.out
  have HO:=Lib.hid (And.intro ho hBX)
  have HN:=Lib.hid hne
  have hXs:=hBX.size
  clear ho hb0 hBX hb1
  gi_wp2_with fail
  (try rw [Exit.noGoto_normal])
  refine ⟨by simp,.inl ⟨_,_,rfl,run_takeDeferred hKD,?_⟩⟩
  have hrow:∀ ob,RowC (·<W.heap.size) (X.putObj D0 ob) (w7.heap.size) (.slice vA vn vc) ([a,b].map (colX a A B)):=fun ob=>RowG.kept HO.out.1 (grownBy_putObj' X D0 ob) (.inr fun e=>HN.out e) (fun b hb e=>by injection e with e;have hb':b<W.heap.size:=hb;omega)
  have e2:[a,b].map (colX a A B) = [A,B]:=by
   have h1:colX a A B a=A:=if_pos rfl
   have h2:colX a A B b=B:=if_neg fun e=>HAB.out e.symm
   simp [h1,h2]
  rw [e2] at hrow
  obtain ⟨gC,kk,cur,hve,_⟩:=rowC_blk (hrow (.deferred none)) (by simp)
  have hve2:Value.slice vA vn vc = .slice (some ⟨gC,0,none⟩) 2 kk:=hve
  injection hve2 with q1 q2 q3
  subst q1 q2 q3
  refine ⟨.slice (some ⟨gC,0,none⟩) 2 vc,by simp [results,Tryz.results124,go_sem],gC,vc,rfl,RowC.cols (hrow _),?_⟩
  exact below_grown HO.out.2 (grownBy_putObj' X D0 _) HO.out.2.size (fun r e=>by injection e with e;omega)
end Go.Proofs.YtcchjofjpflbhaaGreatDoor.T

namespace Go.Proofs.YtcchjofjpflbhaaGreatDoor.T
open Go.RowKit Go.Shelf Go.Maps Go.Proofs.YtcchjofjpflbhaaGreatDoor.C Go.Proofs.YtcchjofjpflbhaaGreatDoor.E Go.Proofs.YtcchjofjpflbhaaGreatDoor.Ch Go.Proofs.YtcchjofjpflbhaaGreatDoor.Rg

def chkA (p:Int) (a b:Nat):Bool:=(List.range (p - 1).toNat).all fun r=>(armP p (a:Int) (b:Int) ++ armP p (b:Int) (a:Int)).contains ((a:Int),(r:Int))
theorem cover_arms:∀ p∈prm,∀ a∈List.range 17,∀ b∈List.range 17,(a:Int)<p→(b:Int)<p→a≠b→chkA p a b=true:=by decide +kernel
theorem cover_a {p a b:Int} (hp:p∈prm) (ha:0≤a∧a<p) (hb:0≤b∧b<p) (hab:a≠b) {r:Nat} (hr:(r:Int)<p - 1):(a,(r:Int))∈armP p a b ++ armP p b a:=by
 have hpb:=prm_bounds hp
 obtain ⟨an,rfl⟩:∃ n:Nat,a=(n:Int):=⟨a.toNat,by omega⟩
 obtain ⟨bn,rfl⟩:∃ n:Nat,b=(n:Int):=⟨b.toNat,by omega⟩
 have h:=cover_arms p hp an (List.mem_range.2 (by omega)) bn (List.mem_range.2 (by omega)) ha.2 hb.2 (by omega)
 unfold chkA at h
 rw [List.all_eq_true] at h
 have h2:=h r (List.mem_range.2 (by omega))
 exact List.contains_iff_mem.1 h2
def FillG (Q:Nat) (a b:Int) (A B:List (List UInt8)) (ga gb base:Nat) (done:List (Int×Int)) (X:World):Prop :=
 ∃ ca cb:Array Value,Blk X ga 64 ca∧ca.size=Q∧Blk X gb 64 cb∧cb.size=Q∧∀ r:Nat,r<Q →
  ((a,(r:Int))∈done→∃ u,ca[r]?=some u∧BytesP (fun k=>base≤k∧k<X.heap.size) X u (A[r]?.getD [])) ∧
  ((b,(r:Int))∈done→∃ u,cb[r]?=some u∧BytesP (fun k=>base≤k∧k<X.heap.size) X u (B[r]?.getD []))
section
variable {Q:Nat} {a b:Int} {A B:List (List UInt8)} {ga gb base:Nat} {done:List (Int×Int)} {X Y:World}
theorem FillG.below (h:FillG Q a b A B ga gb base done X) (hB:Below X.heap.size X Y):FillG Q a b A B ga gb base done Y:=by
 obtain ⟨ca,cb,h1,h2,h3,h4,h5⟩:=h
 have key:∀ {u:Value} {l:List UInt8},BytesP (fun k=>base≤k∧k<X.heap.size) X u l→BytesP (fun k=>base≤k∧k<Y.heap.size) Y u l:=fun {u l} hu=>bytesR.imp (bytesR.keep hu fun k hk=>hB.block k hk.2) fun k hk=>⟨hk.1,Nat.lt_of_lt_of_le hk.2 hB.size⟩
 refine ⟨ca,cb,h1.below hB h1.lt,h2,h3.below hB h3.lt,h4,fun r hr=>⟨fun hm=>?_,fun hm=>?_⟩⟩
 · obtain ⟨u,hu,hb⟩:=(h5 r hr).1 hm
   exact ⟨u,hu,key hb⟩
 · obtain ⟨u,hu,hb⟩:=(h5 r hr).2 hm
   exact ⟨u,hu,key hb⟩
theorem FillG.lt (h:FillG Q a b A B ga gb base done X):ga<X.heap.size∧gb<X.heap.size:=by
 obtain ⟨ca,cb,h1,h2,h3,h4,h5⟩:=h
 exact ⟨h1.lt,h3.lt⟩
theorem FillG.old (h:FillG Q a b A B ga gb base done X) {gq r:Nat} (hq:gq=ga∨gq=gb) (hr:r<Q):(∃ old,X.cell? ⟨gq,r,none⟩=some old)∧X.frozen? ⟨gq,r,none⟩=false:=by
 obtain ⟨ca,cb,h1,h2,h3,h4,h5⟩:=h
 rcases hq with rfl | rfl
 · exact ⟨⟨_,by rw [h1.cell r,Array.getElem?_eq_getElem (by omega)]⟩,h1.frozen r⟩
 · exact ⟨⟨_,by rw [h3.cell r,Array.getElem?_eq_getElem (by omega)]⟩,h3.frozen r⟩
theorem FillG.put (h:FillG Q a b A B ga gb base done X) (hab:a≠b) (hg:ga≠gb) (hga:ga<base) (hgb:gb<base) {c:Int} {r gq:Nat} (hq:(c=a∧gq=ga)∨(c=b∧gq=gb)) (hr:r<Q) {u:Value}
 (hu:BytesP (fun k=>base≤k∧k<X.heap.size) X u (cellF a A B (c,(r:Int)))):FillG Q a b A B ga gb base (done ++ [(c,(r:Int))]) (X.setCell ⟨gq,r,none⟩ u):=by
 obtain ⟨ca,cb,h1,h2,h3,h4,h5⟩:=h
 have hne:∀ k,base≤k∧k<X.heap.size→k≠gq:=fun k hk=>by rcases hq with ⟨_,e⟩ | ⟨_,e⟩ <;> omega
 have key:∀ {v:Value} {l:List UInt8},BytesP (fun k=>base≤k∧k<X.heap.size) X v l→BytesP (fun k=>base≤k∧k<(X.setCell ⟨gq,r,none⟩ u).heap.size) (X.setCell ⟨gq,r,none⟩ u) v l:=fun {v l} hv=>bytesR.imp (bytesR.keep hv fun k hk=>Below.heap_setCell X ⟨gq,r,none⟩ u k (hne k hk)) fun k hk=>⟨hk.1,by simpa using hk.2⟩
 rcases hq with ⟨rfl,rfl⟩ | ⟨rfl,rfl⟩
 · have e1:cellF c A B (c,(r:Int))=A[r]?.getD []:=by unfold cellF;rw [if_pos rfl];simp
   rw [e1] at hu
   refine ⟨_,cb,h1.set_ r u,by rw [Array.size_setIfInBounds];exact h2,h3.far (fun e=>hg e.symm) _,h4,fun s hs=>⟨fun hm=>?_,fun hm=>?_⟩⟩
   · by_cases e:s=r
     · subst e
       exact ⟨u,Array.getElem?_setIfInBounds_self_of_lt (by omega),key hu⟩
     · rcases List.mem_append.1 hm with h | h
       · obtain ⟨v,hv,hb⟩:=(h5 s hs).1 h
         exact ⟨v,by rw [Array.getElem?_setIfInBounds_ne (fun e2=>e e2.symm)];exact hv,key hb⟩
       · have:=List.mem_singleton.1 h
         injection this with _ h3
         omega
   · rcases List.mem_append.1 hm with h | h
     · obtain ⟨v,hv,hb⟩:=(h5 s hs).2 h
       exact ⟨v,hv,key hb⟩
     · have:=List.mem_singleton.1 h
       injection this with h3 _
       exact absurd h3.symm hab
 · have e1:cellF a A B (c,(r:Int))=B[r]?.getD []:=by unfold cellF;rw [if_neg (fun e=>hab e.symm)];simp
   rw [e1] at hu
   refine ⟨ca,_,h1.far hg _,h2,h3.set_ r u,by rw [Array.size_setIfInBounds];exact h4,fun s hs=>⟨fun hm=>?_,fun hm=>?_⟩⟩
   · rcases List.mem_append.1 hm with h | h
     · obtain ⟨v,hv,hb⟩:=(h5 s hs).1 h
       exact ⟨v,hv,key hb⟩
     · have:=List.mem_singleton.1 h
       injection this with h3 _
       exact absurd h3 hab
   · by_cases e:s=r
     · subst e
       exact ⟨u,Array.getElem?_setIfInBounds_self_of_lt (by omega),key hu⟩
     · rcases List.mem_append.1 hm with h | h
       · obtain ⟨v,hv,hb⟩:=(h5 s hs).2 h
         exact ⟨v,by rw [Array.getElem?_setIfInBounds_ne (fun e2=>e e2.symm)];exact hv,key hb⟩
       · have:=List.mem_singleton.1 h
         injection this with _ h3
         omega
theorem FillG.many (h:FillG Q a b A B ga gb base done X) (hA:A.length=Q) (hB:B.length=Q) (hc:∀ r:Nat,r<Q→(a,(r:Int))∈done∧(b,(r:Int))∈done):Many X.heap.size X (.slice (some ⟨ga,0,none⟩) Q Q) A∧Many X.heap.size X (.slice (some ⟨gb,0,none⟩) Q Q) B:=by
 obtain ⟨ca,cb,h1,h2,h3,h4,h5⟩:=h
 refine ⟨⟨_,Q,by rw [hA],by omega,fun _=>⟨ga,0,rfl,h1.lt,fun j hj=>?_⟩⟩,⟨_,Q,by rw [hB],by omega,fun _=>⟨gb,0,rfl,h3.lt,fun j hj=>?_⟩⟩⟩
 · obtain ⟨u,hu,hb⟩:=(h5 j (by omega)).1 (hc j (by omega)).1
   exact ⟨u,by rw [Nat.zero_add,h1.cell j];exact hu,bytesR.imp hb fun k hk=>hk.2⟩
 · obtain ⟨u,hu,hb⟩:=(h5 j (by omega)).2 (hc j (by omega)).2
   exact ⟨u,by rw [Nat.zero_add,h3.cell j];exact hu,bytesR.imp hb fun k hk=>hk.2⟩
theorem FillG.nil (h1:Blk X ga 64 (Array.replicate Q (.slice none 0 0))) (h2:Blk X gb 64 (Array.replicate Q (.slice none 0 0))):FillG Q a b A B ga gb base [] X :=
 ⟨_,_,h1,by simp,h2,by simp,fun r hr=>⟨fun h=>(by cases h),fun h=>(by cases h)⟩⟩
end
theorem cc_at:∀ (l:List (Int×Int)) (j:Nat) (e:Int×Int),l[j]?=some e→(codeCells l)[j * 2]?=some (.int .i64 e.1)∧(codeCells l)[j * 2+1]?=some (.int .i64 e.2)
 | [],j,e,h=>by cases h
 | x :: l,0,e,h=>by
   injection h with h
   subst h
   exact ⟨rfl,rfl⟩
 | x :: l,j+1,e,h=>by
   have h2:=cc_at l j e h
   have e1:codeCells (x :: l) = .int .i64 x.1 :: .int .i64 x.2 :: codeCells l:=rfl
   rw [e1,show (j+1) * 2=j * 2+1+1 by omega,show j * 2+1+1+1=(j * 2+1)+1+1 by omega]
   simp only [List.getElem?_cons_succ]
   exact h2
def dn (l m:List (Int×Int)):Nat→List (Int×Int)
 | 0=>[]
 | 1=>l
 | _=>l ++ m
theorem cellF_swap {a b:Int} (hab:a≠b) (A B:List (List UInt8)) (e:Int×Int) (he:e.1=b∨e.1=a):cellF b B A e=cellF a A B e:=by
 unfold cellF
 rcases he with h | h
 · rw [if_pos h,if_neg (fun e2=>hab (by rw [←e2,h]))]
 · rw [if_neg (fun e2=>hab (by rw [←e2,h])),if_pos h]
def KeepF (W2:World) (ga gb:Nat) (X:World):Prop:=W2.heap.size≤X.heap.size∧∀ k,k<W2.heap.size→k≠ga→k≠gb→X.heap[k]?=W2.heap[k]?
theorem KeepF.below {W2 X Y:World} {ga gb:Nat} (h:KeepF W2 ga gb X) (hB:Below X.heap.size X Y):KeepF W2 ga gb Y:=⟨Nat.le_trans h.1 hB.size,fun k h1 h2 h3=>(hB.block k (by have:=h.1;omega)).trans (h.2 k h1 h2 h3)⟩
theorem KeepF.put {W2 X:World} {ga gb gq r:Nat} {u:Value} (h:KeepF W2 ga gb X) (hq:gq=ga∨gq=gb):KeepF W2 ga gb (X.setCell ⟨gq,r,none⟩ u):=⟨by simpa using h.1,fun k h1 h2 h3=>(Below.heap_setCell X ⟨gq,r,none⟩ u k (by rcases hq with e | e <;> (show k≠gq;omega))).trans (h.2 k h1 h2 h3)⟩
end Go.Proofs.YtcchjofjpflbhaaGreatDoor.T

set_option linter.unusedVariables false
set_option linter.unusedSimpArgs false
set_option maxRecDepth 100000
set_option maxHeartbeats 8000000
namespace Go.Proofs.YtcchjofjpflbhaaGreatDoor.T
open Go.RowKit Go.Shelf Go.Maps Go.Proofs.YtcchjofjpflbhaaGreatDoor.C Go.Proofs.YtcchjofjpflbhaaGreatDoor.E Go.Proofs.YtcchjofjpflbhaaGreatDoor.Ch
attribute [local go_sem] Oper.semAt_some

theorem enter_OD:∀ args W,(callFunc 122 args).run Tryz.prog W = .ok (.enter 122 args) W:=enters_of Tryz.func122 (by kernel_rfl) rfl
theorem enter_IR:∀ args W,(callFunc 123 args).run Tryz.prog W = .ok (.enter 123 args) W:=enters_of Tryz.func123 (by kernel_rfl) rfl
theorem pRecovered_any {P Q n:Nat} (d:Rg.Dims P Q n) (a b:Int) (ha:0≤a) (hab:a<b) (hb:b<(P:Int)) (gl:Nat) (R D A Bc:List (List UInt8)) (gR:GoodC Q n R) (gD:GoodC Q n D) (hsol:SolvesP P Q n R D A Bc a b) (A1 A2 nA:Option Addr) (k1 k2 nc:Nat) (w:World) (hL:Laid w) (hgl:gl<w.heap.size) (cA:w.cell? ⟨gl,0,none⟩=some (.int .i64 a)) (cB:w.cell? ⟨gl,1,none⟩=some (.int .i64 b)) (hR:Many w.heap.size w (.slice A1 Q k1) R) (hD:Many w.heap.size w (.slice A2 Q k2) D) (hno:Bytes w.heap.size w (.slice nA n nc) (List.replicate n 0)) :
 Calls Tryz.prog 63 #[.agg #[.int .i64 2,.int .i64 (P:Int),.slice (some ⟨gl,0,none⟩) 2 2,.slice A1 Q k1,.slice A2 Q k2,.slice nA n nc]] w fun e w'=>∃ gC kk,e = .returned (.slice (some ⟨gC,0,none⟩) 2 kk)∧Cols w'.heap.size w' (.slice (some ⟨gC,0,none⟩) 2 kk) [A,Bc]∧Below w.heap.size w w':=by
 have hpb:=prm_bounds d.hp
 have hQ:=d.hQ
 have hQ2:2≤Q:=by omega
 have hR':Many w.heap.size w (.slice A1 R.length k1) R:=by rw [gR.1];exact hR
 have hD':Many w.heap.size w (.slice A2 D.length k2) D:=by rw [gD.1];exact hD
 obtain ⟨gr,orr,rfl,hgr,hrR⟩:=many_at hR' (by rw [gR.1];omega)
 obtain ⟨gd,od,rfl,hgd,hrD⟩:=many_at hD' (by rw [gD.1];omega)
 obtain ⟨w0,hw0⟩:∃ x,w.alloc (.cells #[.int .i64 2,.int .i64 (P:Int),.slice (some ⟨gl,0,none⟩) 2 2,.slice (some ⟨gr,orr,none⟩) Q k1,.slice (some ⟨gd,od,none⟩) Q k2,.slice nA n nc] 99)=x:=⟨_,rfl⟩
 obtain ⟨g1,hg1⟩:∃ x,w.heap.size=x:=⟨_,rfl⟩
 have b1:Blk w0 g1 99 #[.int .i64 2,.int .i64 (P:Int),.slice (some ⟨gl,0,none⟩) 2 2,.slice (some ⟨gr,orr,none⟩) Q k1,.slice (some ⟨gd,od,none⟩) Q k2,.slice nA n nc]:=by rw [←hw0,←hg1];exact Blk.new w _ _
 have hB0:Below w.heap.size w w0:=by rw [←hw0];exact below_one w _
 have HDC:Hid (∀ i,i<Q→∃ uA uc,gd<w0.heap.size∧w0.cell? ⟨gd,od+i,none⟩=some (.slice uA n uc)∧Bytes w0.heap.size w0 (.slice uA n uc) (D[i]?.getD [])):=fun i hi=>by
  obtain ⟨uA,uc,h1,h2⟩:=hrD i (by rw [gD.1];exact hi)
  rw [(gD.2 i hi).2] at h1 h2
  exact ⟨uA,uc,Nat.lt_of_lt_of_le hgd hB0.size,(hB0.cell (p:=⟨gd,od+i,none⟩) hgd).trans h1,(h2.below hB0).more hB0.size⟩
 have HRC:Hid (∀ i,i<Q→∃ uA uc,gr<w0.heap.size∧w0.cell? ⟨gr,orr+i,none⟩=some (.slice uA n uc)∧Bytes w0.heap.size w0 (.slice uA n uc) (R[i]?.getD [])):=fun i hi=>by
  obtain ⟨uA,uc,h1,h2⟩:=hrR i (by rw [gR.1];exact hi)
  rw [(gR.2 i hi).2] at h1 h2
  exact ⟨uA,uc,Nat.lt_of_lt_of_le hgr hB0.size,(hB0.cell (p:=⟨gr,orr+i,none⟩) hgr).trans h1,(h2.below hB0).more hB0.size⟩
 have HNO:=Lib.hid ((hno.below hB0).more hB0.size)
 have HSS:Hid (∀ V,Below w0.heap.size w0 V→(fun U:World=>U.cell? ⟨g1,0,none⟩=some (.int .i64 2)∧U.cell? ⟨g1,1,none⟩=some (.int .i64 (P:Int))∧U.cell? ⟨g1,2,none⟩=some (.slice (some ⟨gl,0,none⟩) 2 2)∧U.cell? ⟨g1,3,none⟩=some (.slice (some ⟨gr,orr,none⟩) Q k1)∧U.cell? ⟨g1,4,none⟩=some (.slice (some ⟨gd,od,none⟩) Q k2)∧U.cell? ⟨g1,5,none⟩=some (.slice nA n nc)) V):=fun V hV=>⟨(b1.below hV b1.lt).cell 0,(b1.below hV b1.lt).cell 1,(b1.below hV b1.lt).cell 2,(b1.below hV b1.lt).cell 3,(b1.below hV b1.lt).cell 4,(b1.below hV b1.lt).cell 5⟩
 have HLAID:=Lib.hid (fun (V:World) (hV:Below w0.heap.size w0 V)=>hL.next (below_in hB0 hV))
 have HGL:=Lib.hid (And.intro (Nat.lt_of_lt_of_le hgl hB0.size) (And.intro ((hB0.cell (p:=⟨gl,0,none⟩) hgl).trans cA) ((hB0.cell (p:=⟨gl,1,none⟩) hgl).trans cB)))
 have HCO:=Lib.hid (fun (V:World) (hV:Below w0.heap.size w0 V)=>pColumns_any P Q hQ d.hp a b (by omega) gl V (Nat.lt_of_lt_of_le HGL.out.1 hV.size) ((hV.cell (p:=⟨gl,0,none⟩) HGL.out.1).trans HGL.out.2.1) ((hV.cell (p:=⟨gl,1,none⟩) HGL.out.1).trans HGL.out.2.2))
 have HAR:=Lib.hid (fun (V:World) (hV:Below w0.heap.size w0 V)=>arms_any (P:Int) a b d.hp ⟨ha,by omega⟩ ⟨by omega,hb⟩ gl V (HLAID.out V hV) (Nat.lt_of_lt_of_le HGL.out.1 hV.size) ((hV.cell (p:=⟨gl,0,none⟩) HGL.out.1).trans HGL.out.2.1) ((hV.cell (p:=⟨gl,1,none⟩) HGL.out.1).trans HGL.out.2.2))
 have HT0:Hid (∀ j,j<(armP (P:Int) a b).length→∀ e,(armP (P:Int) a b)[j]?=some e→((e.1=a∨e.1=b)∧0≤e.2∧e.2<(P:Int) - 1∧(j % 2=0→(e.1+e.2) % (P:Int)<(P:Int) - 1))∧(shareF P Q n R D j e).length=n∧(aheadP n a A Bc (armP (P:Int) a b) j).length=n∧xorOf [aheadP n a A Bc (armP (P:Int) a b) j,shareF P Q n R D j e]=cellF a A Bc e):=fun j hj e he=>arm_told d gR gD hsol ⟨ha,by omega⟩ ⟨by omega,hb⟩ (by omega) hj he
 have HT1:Hid (∀ j,j<(armP (P:Int) b a).length→∀ e,(armP (P:Int) b a)[j]?=some e→((e.1=b∨e.1=a)∧0≤e.2∧e.2<(P:Int) - 1∧(j % 2=0→(e.1+e.2) % (P:Int)<(P:Int) - 1))∧(shareF P Q n R D j e).length=n∧(aheadP n b Bc A (armP (P:Int) b a) j).length=n∧xorOf [aheadP n b Bc A (armP (P:Int) b a) j,shareF P Q n R D j e]=cellF b Bc A e):=fun j hj e he=>arm_told d gR gD hsol.swap ⟨by omega,hb⟩ ⟨ha,by omega⟩ (by omega) hj he
 have HCV:Hid (∀ r:Nat,r<Q→(a,(r:Int))∈armP (P:Int) a b ++ armP (P:Int) b a∧(b,(r:Int))∈armP (P:Int) a b ++ armP (P:Int) b a):=fun r hr=>by
  have h1:=cover_a d.hp (a:=a) (b:=b) ⟨ha,by omega⟩ ⟨by omega,hb⟩ (by omega) (r:=r) (by omega)
  have h2:=cover_a d.hp (a:=b) (b:=a) ⟨by omega,hb⟩ ⟨ha,by omega⟩ (by omega) (r:=r) (by omega)
  exact ⟨h1,(List.mem_append.1 h2).elim (fun h=>List.mem_append_right _ h) (fun h=>List.mem_append_left _ h)⟩
 have HL100:Hid ((armP (P:Int) a b).length≤100∧(armP (P:Int) b a).length≤100):=⟨armP_len d.hp,armP_len d.hp⟩
 have HAB0:a≠b:=by omega
 have HAB:=Lib.hid HAB0
 have HN1:=Lib.hid (And.intro d.h1 d.h64)
 have HQP:Hid (P=Q+1∧(3≤P∧P≤17∧2≤Q)∧(P:Int)∈prm):=⟨hQ,by omega,d.hp⟩
 have HQP2:=Lib.hid (And.intro hsol.gA.1 hsol.gB.1)
 have HB0:=Lib.hid hB0
 have HW0:=Lib.hid (And.intro hw0 hg1)
 have HCB:Hid (0≤a∧a<(P:Int)∧0≤b∧b<(P:Int)):=⟨ha,by omega,by omega,hb⟩
 obtain ⟨La,hLa⟩:∃ l,armP (P:Int) a b=l:=⟨_,rfl⟩
 obtain ⟨Lb,hLb⟩:∃ l,armP (P:Int) b a=l:=⟨_,rfl⟩
 rw [hLa] at HAR HT0 HCV HL100
 rw [hLb] at HAR HT1 HCV HL100
 obtain ⟨KK1,hKK1⟩:∃ K:Exit→Act→World→Prop,K=(fun e aa Z=>e=Exit.normal∧∃ x10 x11 x12 x13 x14 x15 x16 x17 g3 gm ga gb g4,aa=({ tmps:=#[.agg #[.int .i64 2,.int .i64 (P:Int),.slice (some ⟨gl,0,none⟩) 2 2,.slice (some ⟨gr,orr,none⟩) Q k1,.slice (some ⟨gd,od,none⟩) Q k2,.slice nA n nc],.pointer (some ⟨g1,0,none⟩),.slice none 0 0,.func (.func 178) #[] #[.pointer (some ⟨g3,0,none⟩)],.pointer (some ⟨g4,0,none⟩),undef,undef,undef,undef,undef,x10,x11,x12,x13,x14,x15,x16,x17,undef,undef,undef,undef,undef,undef,undef,undef,undef,undef,undef,undef,undef,undef,undef,undef,undef,undef,undef,undef,undef,undef,undef,undef,undef,undef,undef,undef,undef,undef,undef,undef,undef,undef,undef,undef,undef,undef,undef,undef],defers:=[] }:Act)∧Blk Z g4 162 #[.func (.func 122) #[.agg #[.int .i64 2,.int .i64 (P:Int),.slice (some ⟨gl,0,none⟩) 2 2,.slice (some ⟨gr,orr,none⟩) Q k1,.slice (some ⟨gd,od,none⟩) Q k2,.slice nA n nc]] #[],.func (.func 123) #[.agg #[.int .i64 2,.int .i64 (P:Int),.slice (some ⟨gl,0,none⟩) 2 2,.slice (some ⟨gr,orr,none⟩) Q k1,.slice (some ⟨gd,od,none⟩) Q k2,.slice nA n nc]] #[]]∧Blk Z g3 221 #[.map (some gm)]∧IntMap Z gm [(a,.slice (some ⟨ga,0,none⟩) Q Q),(b,.slice (some ⟨gb,0,none⟩) Q Q)]∧Blk Z ga 64 (Array.replicate Q (.slice none 0 0))∧Blk Z gb 64 (Array.replicate Q (.slice none 0 0))∧Below w0.heap.size w0 Z∧((g4≠g3∧g4≠gm∧g4≠ga∧g4≠gb)∧w0.heap.size≤g4∧w0.heap.size≤g3∧w0.heap.size≤gm∧w0.heap.size≤ga∧w0.heap.size≤gb∧ga≠gb)∧g3≠ga∧g3≠gb∧gm≠ga∧gm≠gb):=⟨_,rfl⟩
 have HKC1:=Lib.hid hKK1
 clear hKK1 hLa hLb HAB0 hw0 hg1 hB0 b1 hL hgl cA cB hR hD hno hR' hD' hgr hgd hrR hrD hsol gR gD d hpb hQ hQ2 ha hab hb
 go_enter Tryz.func63,Tryz.ntmps63
 go_wp2_with fail
 (try rw [HW0.out.2]);(try rw [HW0.out.1])
 have hBx:=(Below.refl w0.heap.size w0).drew
 have hS:=HSS.out _ hBx
 refine (wpIn_wide (n:=9)).1 ?_
 refine wpIn_mono (Q:=KK1) (wpIn_mono (region_HF (Q:=NoPanic KK1) (S:=(fun U:World=>U.cell? ⟨g1,0,none⟩=some (.int .i64 2)∧U.cell? ⟨g1,1,none⟩=some (.int .i64 (P:Int))∧U.cell? ⟨g1,2,none⟩=some (.slice (some ⟨gl,0,none⟩) 2 2)∧U.cell? ⟨g1,3,none⟩=some (.slice (some ⟨gr,orr,none⟩) Q k1)∧U.cell? ⟨g1,4,none⟩=some (.slice (some ⟨gd,od,none⟩) Q k2)∧U.cell? ⟨g1,5,none⟩=some (.slice nA n nc))) (by kernel_rfl) ?reg1) NoPanic.imp) ?cont1
 case reg1 =>
  refine tkF (i:=0) (d:=10) (v:=.pointer (some ⟨g1,0,none⟩)) (s:=hS) (c:=?_)
  simp only [ud9]
  refine tkF (i:=1) (d:=11) (v:=.agg #[.int .i64 2,.int .i64 (P:Int),.slice (some ⟨gl,0,none⟩) 2 2]) (s:=hS) (c:=?_)
  simp only [ud9]
  refine tkF (i:=3) (d:=13) (v:=.agg #[.int .i64 2,.int .i64 (P:Int),.slice (some ⟨gl,0,none⟩) 2 2,.slice (some ⟨gr,orr,none⟩) Q k1,.slice (some ⟨gd,od,none⟩) Q k2,.slice nA n nc]) (s:=hS) (c:=?_)
  simp only [ud9]
  refine tkF (i:=4) (d:=14) (v:=.func (.func 122) #[.agg #[.int .i64 2,.int .i64 (P:Int),.slice (some ⟨gl,0,none⟩) 2 2,.slice (some ⟨gr,orr,none⟩) Q k1,.slice (some ⟨gd,od,none⟩) Q k2,.slice nA n nc]] #[]) (s:=hS) (c:=?_)
  simp only [ud9]
  refine tkF (i:=5) (d:=15) (v:=.agg #[.int .i64 2,.int .i64 (P:Int),.slice (some ⟨gl,0,none⟩) 2 2,.slice (some ⟨gr,orr,none⟩) Q k1,.slice (some ⟨gd,od,none⟩) Q k2,.slice nA n nc]) (s:=hS) (c:=?_)
  simp only [ud9]
  refine tkF (i:=6) (d:=16) (v:=.func (.func 123) #[.agg #[.int .i64 2,.int .i64 (P:Int),.slice (some ⟨gl,0,none⟩) 2 2,.slice (some ⟨gr,orr,none⟩) Q k1,.slice (some ⟨gd,od,none⟩) Q k2,.slice nA n nc]] #[]) (s:=hS) (c:=?_)
  simp only [ud9]
  refine tkF (i:=7) (d:=17) (v:=.agg #[.func (.func 122) #[.agg #[.int .i64 2,.int .i64 (P:Int),.slice (some ⟨gl,0,none⟩) 2 2,.slice (some ⟨gr,orr,none⟩) Q k1,.slice (some ⟨gd,od,none⟩) Q k2,.slice nA n nc]] #[],.func (.func 123) #[.agg #[.int .i64 2,.int .i64 (P:Int),.slice (some ⟨gl,0,none⟩) 2 2,.slice (some ⟨gr,orr,none⟩) Q k1,.slice (some ⟨gd,od,none⟩) Q k2,.slice nA n nc]] #[]]) (s:=hS) (c:=?_)
  simp only [ud9]
  refine Rg.anyHF_both (i:=2) (j:=8) (by kernel_rfl) rfl rfl (by rfl) (by rfl) ?c1a ?c1b
  case c1a =>
   have hszB:=hBx.size
   (try have hszc:=hBA.size)
   gi_wp2_with fail
   refine ⟨trivial,(callsIn_wide.2 (HCO.out _ hBx)).mono ?_⟩
   rintro e v2 ⟨g3,gm,ga,gb,rfl,q3,qM,qa,qb,hord,hB⟩
   replace hBx:=below_in hBx hB
   clear hS
   have hS:(fun U:World=>U.cell? ⟨g1,0,none⟩=some (.int .i64 2)∧U.cell? ⟨g1,1,none⟩=some (.int .i64 (P:Int))∧U.cell? ⟨g1,2,none⟩=some (.slice (some ⟨gl,0,none⟩) 2 2)∧U.cell? ⟨g1,3,none⟩=some (.slice (some ⟨gr,orr,none⟩) Q k1)∧U.cell? ⟨g1,4,none⟩=some (.slice (some ⟨gd,od,none⟩) Q k2)∧U.cell? ⟨g1,5,none⟩=some (.slice nA n nc)) v2:=HSS.out _ hBx
   clear hB
   gi_wp2
   try (refine ⟨hS,?_⟩)
   refine oneF (i:=8) (c:=?_)
   have hge4:=hBx.size
   (try have hszG:=qb.lt)
   have hB:Below v2.heap.size v2 (v2.alloc (.cells #[.nilFunc,.nilFunc] 162)):=below_one v2 _
   have q4:Blk (v2.alloc (.cells #[.nilFunc,.nilFunc] 162)) v2.heap.size 162 #[.nilFunc,.nilFunc]:=Blk.new v2 _ _
   obtain ⟨a3,he⟩:∃ x,(v2.alloc (.cells #[.nilFunc,.nilFunc] 162))=x:=⟨_,rfl⟩
   obtain ⟨g4,hg⟩:∃ x,v2.heap.size=x:=⟨_,rfl⟩
   have hsz:a3.heap.size=g4+1:=by rw [←he,←hg];simp
   rw [he] at hB q4
   rw [hg] at q4
   have H4:=Lib.hid (And.intro hg hsz)
   have hBA:=Below.refl a3.heap.size a3
   clear hsz
   replace q3:=q3.below hB q3.lt
   replace qM:=qM.below hB qM.lt
   replace qa:=qa.below hB qa.lt
   replace qb:=qb.below hB qb.lt
   replace hBx:=below_in hBx hB
   clear hS
   have hS:(fun U:World=>U.cell? ⟨g1,0,none⟩=some (.int .i64 2)∧U.cell? ⟨g1,1,none⟩=some (.int .i64 (P:Int))∧U.cell? ⟨g1,2,none⟩=some (.slice (some ⟨gl,0,none⟩) 2 2)∧U.cell? ⟨g1,3,none⟩=some (.slice (some ⟨gr,orr,none⟩) Q k1)∧U.cell? ⟨g1,4,none⟩=some (.slice (some ⟨gd,od,none⟩) Q k2)∧U.cell? ⟨g1,5,none⟩=some (.slice nA n nc)) a3:=HSS.out _ hBx
   gi_wp2
   (try rw [hg]);(try rw [he])
   try (refine ⟨hS,?_⟩)
   clear hB he hg
   refine oneF (i:=9) (c:=?_)
   gi_wp2
   refine oneF (i:=10) (c:=?_)
   have kk0:a3.cell? ⟨g4,0,none⟩=some .nilFunc:=q4.cell 0
   have kk1:a3.cell? ⟨g4,1,none⟩=some .nilFunc:=q4.cell 1
   have f0:=q4.frozen 0
   have f1:=q4.frozen 1
   have hne4:(g4≠g3∧g4≠gm∧g4≠ga∧g4≠gb)∧w0.heap.size≤g4∧w0.heap.size≤g3∧w0.heap.size≤gm∧w0.heap.size≤ga∧w0.heap.size≤gb∧ga≠gb:=by have:=H4.out;omega
   obtain ⟨Z,hZ⟩:∃ z,(a3.setCell ⟨g4,0,none⟩ (.func (.func 122) #[.agg #[.int .i64 2,.int .i64 (P:Int),.slice (some ⟨gl,0,none⟩) 2 2,.slice (some ⟨gr,orr,none⟩) Q k1,.slice (some ⟨gd,od,none⟩) Q k2,.slice nA n nc]] #[])).setCell ⟨g4,1,none⟩ (.func (.func 123) #[.agg #[.int .i64 2,.int .i64 (P:Int),.slice (some ⟨gl,0,none⟩) 2 2,.slice (some ⟨gr,orr,none⟩) Q k1,.slice (some ⟨gd,od,none⟩) Q k2,.slice nA n nc]] #[])=z:=⟨_,rfl⟩
   have hkZ:∀ b,b≠g4→Z.heap[b]?=a3.heap[b]?:=fun b hb=>by rw [←hZ];exact (Below.heap_setCell _ ⟨g4,1,none⟩ _ b hb).trans (Below.heap_setCell _ ⟨g4,0,none⟩ _ b hb)
   have y4:Blk Z g4 162 #[.func (.func 122) #[.agg #[.int .i64 2,.int .i64 (P:Int),.slice (some ⟨gl,0,none⟩) 2 2,.slice (some ⟨gr,orr,none⟩) Q k1,.slice (some ⟨gd,od,none⟩) Q k2,.slice nA n nc]] #[],.func (.func 123) #[.agg #[.int .i64 2,.int .i64 (P:Int),.slice (some ⟨gl,0,none⟩) 2 2,.slice (some ⟨gr,orr,none⟩) Q k1,.slice (some ⟨gd,od,none⟩) Q k2,.slice nA n nc]] #[]]:=by rw [←hZ];exact (q4.set_ 0 _).set_ 1 _
   have y3:Blk Z g3 221 #[.map (some gm)]:=(hkZ g3 (fun e=>hne4.1.1 e.symm)).trans q3
   have yM:IntMap Z gm [(a,.slice (some ⟨ga,0,none⟩) Q Q),(b,.slice (some ⟨gb,0,none⟩) Q Q)]:=qM.keep (hkZ gm (fun e=>hne4.1.2.1 e.symm))
   have ya:Blk Z ga 64 (Array.replicate Q (.slice none 0 0)):=(hkZ ga (fun e=>hne4.1.2.2.1 e.symm)).trans qa
   have yb:Blk Z gb 64 (Array.replicate Q (.slice none 0 0)):=(hkZ gb (fun e=>hne4.1.2.2.2 e.symm)).trans qb
   have hBZ:Below w0.heap.size w0 Z:=by rw [←hZ];exact (hBx.setCell (by show w0.heap.size≤g4;omega) _).setCell (by show w0.heap.size≤g4;omega) _
   clear hkZ q3 qM qa qb q4
   gi_wp2
   (try rw [hZ])
   clear hS kk0 kk1 f0 f1
   replace hBx:=hBZ
   have hS:(fun U:World=>U.cell? ⟨g1,0,none⟩=some (.int .i64 2)∧U.cell? ⟨g1,1,none⟩=some (.int .i64 (P:Int))∧U.cell? ⟨g1,2,none⟩=some (.slice (some ⟨gl,0,none⟩) 2 2)∧U.cell? ⟨g1,3,none⟩=some (.slice (some ⟨gr,orr,none⟩) Q k1)∧U.cell? ⟨g1,4,none⟩=some (.slice (some ⟨gd,od,none⟩) Q k2)∧U.cell? ⟨g1,5,none⟩=some (.slice nA n nc)) Z:=HSS.out _ hBZ
   try (refine ⟨hS,?_⟩)
   clear hZ
   refine anyHF_done (by kernel_rfl) ?_ _
   refine NoPanic.normal ?_
   rw [HKC1.out]
   exact ⟨rfl,_,_,_,_,_,_,_,_,g3,gm,ga,gb,g4,rfl,y4,y3,yM,ya,yb,hBZ,hne4,by omega,by omega,by omega,by omega⟩
  case c1b =>
   have hge4:=hBx.size
   (try have hszG:=qb.lt)
   have hB:Below w0.drew.heap.size w0.drew (w0.drew.alloc (.cells #[.nilFunc,.nilFunc] 162)):=below_one w0.drew _
   have q4:Blk (w0.drew.alloc (.cells #[.nilFunc,.nilFunc] 162)) w0.drew.heap.size 162 #[.nilFunc,.nilFunc]:=Blk.new w0.drew _ _
   obtain ⟨a4,he⟩:∃ x,(w0.drew.alloc (.cells #[.nilFunc,.nilFunc] 162))=x:=⟨_,rfl⟩
   obtain ⟨g4,hg⟩:∃ x,w0.drew.heap.size=x:=⟨_,rfl⟩
   have hsz:a4.heap.size=g4+1:=by rw [←he,←hg];simp
   rw [he] at hB q4
   rw [hg] at q4
   have H4:=Lib.hid (And.intro hg hsz)
   have hBA:=Below.refl a4.heap.size a4
   clear hsz
   replace hBx:=below_in hBx hB
   clear hS
   have hS:(fun U:World=>U.cell? ⟨g1,0,none⟩=some (.int .i64 2)∧U.cell? ⟨g1,1,none⟩=some (.int .i64 (P:Int))∧U.cell? ⟨g1,2,none⟩=some (.slice (some ⟨gl,0,none⟩) 2 2)∧U.cell? ⟨g1,3,none⟩=some (.slice (some ⟨gr,orr,none⟩) Q k1)∧U.cell? ⟨g1,4,none⟩=some (.slice (some ⟨gd,od,none⟩) Q k2)∧U.cell? ⟨g1,5,none⟩=some (.slice nA n nc)) a4:=HSS.out _ hBx
   gi_wp2
   (try rw [hg]);(try rw [he])
   try (refine ⟨hS,?_⟩)
   clear hB he hg
   refine oneF (i:=2) (c:=?_)
   have hszB:=hBx.size
   (try have hszc:=hBA.size)
   gi_wp2_with fail
   refine ⟨trivial,(callsIn_wide.2 (HCO.out _ hBx)).mono ?_⟩
   rintro e v5 ⟨g3,gm,ga,gb,rfl,q3,qM,qa,qb,hord,hB⟩
   replace q4:=q4.below hB q4.lt
   replace hBA:=below_in hBA hB
   replace hBx:=below_in hBx hB
   clear hS
   have hS:(fun U:World=>U.cell? ⟨g1,0,none⟩=some (.int .i64 2)∧U.cell? ⟨g1,1,none⟩=some (.int .i64 (P:Int))∧U.cell? ⟨g1,2,none⟩=some (.slice (some ⟨gl,0,none⟩) 2 2)∧U.cell? ⟨g1,3,none⟩=some (.slice (some ⟨gr,orr,none⟩) Q k1)∧U.cell? ⟨g1,4,none⟩=some (.slice (some ⟨gd,od,none⟩) Q k2)∧U.cell? ⟨g1,5,none⟩=some (.slice nA n nc)) v5:=HSS.out _ hBx
   clear hB
   gi_wp2
   try (refine ⟨hS,?_⟩)
   refine oneF (i:=9) (c:=?_)
   gi_wp2
   refine oneF (i:=10) (c:=?_)
   have kk0:v5.cell? ⟨g4,0,none⟩=some .nilFunc:=q4.cell 0
   have kk1:v5.cell? ⟨g4,1,none⟩=some .nilFunc:=q4.cell 1
   have f0:=q4.frozen 0
   have f1:=q4.frozen 1
   have hne4:(g4≠g3∧g4≠gm∧g4≠ga∧g4≠gb)∧w0.heap.size≤g4∧w0.heap.size≤g3∧w0.heap.size≤gm∧w0.heap.size≤ga∧w0.heap.size≤gb∧ga≠gb:=by have:=H4.out;omega
   obtain ⟨Z,hZ⟩:∃ z,(v5.setCell ⟨g4,0,none⟩ (.func (.func 122) #[.agg #[.int .i64 2,.int .i64 (P:Int),.slice (some ⟨gl,0,none⟩) 2 2,.slice (some ⟨gr,orr,none⟩) Q k1,.slice (some ⟨gd,od,none⟩) Q k2,.slice nA n nc]] #[])).setCell ⟨g4,1,none⟩ (.func (.func 123) #[.agg #[.int .i64 2,.int .i64 (P:Int),.slice (some ⟨gl,0,none⟩) 2 2,.slice (some ⟨gr,orr,none⟩) Q k1,.slice (some ⟨gd,od,none⟩) Q k2,.slice nA n nc]] #[])=z:=⟨_,rfl⟩
   have hkZ:∀ b,b≠g4→Z.heap[b]?=v5.heap[b]?:=fun b hb=>by rw [←hZ];exact (Below.heap_setCell _ ⟨g4,1,none⟩ _ b hb).trans (Below.heap_setCell _ ⟨g4,0,none⟩ _ b hb)
   have y4:Blk Z g4 162 #[.func (.func 122) #[.agg #[.int .i64 2,.int .i64 (P:Int),.slice (some ⟨gl,0,none⟩) 2 2,.slice (some ⟨gr,orr,none⟩) Q k1,.slice (some ⟨gd,od,none⟩) Q k2,.slice nA n nc]] #[],.func (.func 123) #[.agg #[.int .i64 2,.int .i64 (P:Int),.slice (some ⟨gl,0,none⟩) 2 2,.slice (some ⟨gr,orr,none⟩) Q k1,.slice (some ⟨gd,od,none⟩) Q k2,.slice nA n nc]] #[]]:=by rw [←hZ];exact (q4.set_ 0 _).set_ 1 _
   have y3:Blk Z g3 221 #[.map (some gm)]:=(hkZ g3 (fun e=>hne4.1.1 e.symm)).trans q3
   have yM:IntMap Z gm [(a,.slice (some ⟨ga,0,none⟩) Q Q),(b,.slice (some ⟨gb,0,none⟩) Q Q)]:=qM.keep (hkZ gm (fun e=>hne4.1.2.1 e.symm))
   have ya:Blk Z ga 64 (Array.replicate Q (.slice none 0 0)):=(hkZ ga (fun e=>hne4.1.2.2.1 e.symm)).trans qa
   have yb:Blk Z gb 64 (Array.replicate Q (.slice none 0 0)):=(hkZ gb (fun e=>hne4.1.2.2.2 e.symm)).trans qb
   have hBZ:Below w0.heap.size w0 Z:=by rw [←hZ];exact (hBx.setCell (by show w0.heap.size≤g4;omega) _).setCell (by show w0.heap.size≤g4;omega) _
   clear hkZ q3 qM qa qb q4
   gi_wp2
   (try rw [hZ])
   clear hS kk0 kk1 f0 f1
   replace hBx:=hBZ
   have hS:(fun U:World=>U.cell? ⟨g1,0,none⟩=some (.int .i64 2)∧U.cell? ⟨g1,1,none⟩=some (.int .i64 (P:Int))∧U.cell? ⟨g1,2,none⟩=some (.slice (some ⟨gl,0,none⟩) 2 2)∧U.cell? ⟨g1,3,none⟩=some (.slice (some ⟨gr,orr,none⟩) Q k1)∧U.cell? ⟨g1,4,none⟩=some (.slice (some ⟨gd,od,none⟩) Q k2)∧U.cell? ⟨g1,5,none⟩=some (.slice nA n nc)) Z:=HSS.out _ hBZ
   try (refine ⟨hS,?_⟩)
   clear hZ
   refine anyHF_done (by kernel_rfl) ?_ _
   refine NoPanic.normal ?_
   rw [HKC1.out]
   exact ⟨rfl,_,_,_,_,_,_,_,_,g3,gm,ga,gb,g4,rfl,y4,y3,yM,ya,yb,hBZ,hne4,by omega,by omega,by omega,by omega⟩
 case cont1 =>
  clear hS hBx HCO
  rw [HKC1.out]
  rintro e aa Z ⟨rfl,x10,x11,x12,x13,x14,x15,x16,x17,g3,gm,ga,gb,g4,rfl,y4,y3,yM,ya,yb,hBZ,hne4,hx1,hx2,hx3,hx4⟩
  have hS:=HSS.out _ hBZ
  obtain ⟨h0,h1,h2,h3,h4,h5⟩:=hS
  clear HKC1
  go_wp2_with fail
  refine (HAR.out _ hBZ).mono ?_
  rintro e W2 ⟨B1,n1,m1,B2,n2,m2,rfl,hu1,hu2,hB2⟩
  have HLN0:Hid (La.length=n1):=by unfold Hid;obtain ⟨_,_,e,_⟩:=OwnA.reads hu1;injection e with _ e2 _;exact e2.symm
  have HLN1:Hid (Lb.length=n2):=by unfold Hid;obtain ⟨_,_,e,_⟩:=OwnA.reads hu2;injection e with _ e2 _;exact e2.symm
  have HOW0:=Lib.hid hu1
  have HOW1:=Lib.hid hu2
  have hlg:=y4.lt
  have hl3:=y3.lt
  have hla:=ya.lt
  have hlb:=yb.lt
  have hlm:=yM.lt
  have hz2:=hB2.size
  have HG4:Hid (Blk W2 g4 162 #[.func (.func 122) #[.agg #[.int .i64 2,.int .i64 (P:Int),.slice (some ⟨gl,0,none⟩) 2 2,.slice (some ⟨gr,orr,none⟩) Q k1,.slice (some ⟨gd,od,none⟩) Q k2,.slice nA n nc]] #[],.func (.func 123) #[.agg #[.int .i64 2,.int .i64 (P:Int),.slice (some ⟨gl,0,none⟩) 2 2,.slice (some ⟨gr,orr,none⟩) Q k1,.slice (some ⟨gd,od,none⟩) Q k2,.slice nA n nc]] #[]]∧g4<W2.heap.size∧g4≠ga∧g4≠gb):=⟨y4.below hB2 y4.lt,by omega,hne4.1.2.2.1,hne4.1.2.2.2⟩
  have HG7:Hid (ga≠gb∧ga<W2.heap.size∧gb<W2.heap.size):=⟨hne4.2.2.2.2.2.2,by omega,by omega⟩
  have HG0W:Hid (w0.heap.size≤ga∧w0.heap.size≤gb):=⟨hne4.2.2.2.2.1,hne4.2.2.2.2.2.1⟩
  have HZS:Hid (ga<Z.heap.size∧gb<Z.heap.size):=⟨hla,hlb⟩
  have HM3:Hid (∀ V,KeepF W2 ga gb V→Blk V g3 221 #[.map (some gm)]∧IntMap V gm [(a,.slice (some ⟨ga,0,none⟩) Q Q),(b,.slice (some ⟨gb,0,none⟩) Q Q)]):=fun V hV=>⟨(hV.2 g3 (by omega) hx1 hx2).trans (y3.below hB2 y3.lt),(yM.below hB2 yM.lt).keep (hV.2 gm (by omega) hx3 hx4)⟩
  have HEL:Hid (∀ (c:Int) (gq:Nat),(c=a∧gq=ga)∨(c=b∧gq=gb)→∀ V,KeepF W2 ga gb V→Calls Tryz.prog 178 #[.int .i64 c,.pointer (some ⟨g3,0,none⟩)] V fun e w'=>e = .returned (.slice (some ⟨gq,0,none⟩) Q Q)∧w'=V):=fun c gq hq V hV=>by
   obtain ⟨m3,mM⟩:=HM3.out V hV
   refine held_any g3 gm _ c (some ⟨gq,0,none⟩) Q Q ?_ V m3 mM
   rcases hq with ⟨rfl,rfl⟩ | ⟨rfl,rfl⟩
   · simp
   · rw [List.find?_cons_of_neg (by simp;exact HAB.out)];simp
  have HCR:Hid (∀ (c:Int) (gq:Nat),(c=a∧gq=ga)∨(c=b∧gq=gb)→0≤c∧c<(P:Int)):=fun c gq hq=>by
   have h:=HCB.out
   rcases hq with ⟨rfl,_⟩ | ⟨rfl,_⟩ <;> omega
  have hfl0:FillG Q a b A Bc ga gb W2.heap.size (dn La Lb 0) W2:=FillG.nil (ya.below hB2 ya.lt) (yb.below hB2 yb.lt)
  have hbw0:Below w0.heap.size w0 W2:=below_in hBZ hB2
  have HN100:Hid (n1≤100∧n2≤100):=by have h:=HL100.out;rw [HLN0.out,HLN1.out] at h;exact h
  clear y4 y3 yM ya yb hBZ hne4 hx1 hx2 hx3 hx4 hu1 hu2 hB2 hlg hl3 hla hlb hlm hz2 h0 h1 h2 h3 h4 h5 HAR
  go_wp2_with fail
  have hix0:∀ W:World,(Instr.index 142 (.agg #[.slice B1 n1 m1,.slice B2 n2 m2]) (.int .i64 0)).run Tryz.prog W = .ok (.slice B1 n1 m1) W:=fun _=>by kernel_rfl
  have hix1:∀ W:World,(Instr.index 142 (.agg #[.slice B1 n1 m1,.slice B2 n2 m2]) (.int .i64 1)).run Tryz.prog W = .ok (.slice B2 n2 m2) W:=fun _=>by kernel_rfl
  go_loopw [21] (fun i wr=>∃ k:Nat,((k=0∧i = .int .i64 0)∨(k=1∧i = .int .i64 1)∨(k=2∧i = .int .i64 2))∧FillG Q a b A Bc ga gb W2.heap.size (dn La Lb k) wr∧KeepF W2 ga gb wr∧Below w0.heap.size w0 wr) (fun i _=>2 - (intOf i).toNat)
  case atStart=>exact ⟨0,.inl ⟨rfl,rfl⟩,hfl0,⟨Nat.le_refl _,fun _ _ _ _=>rfl⟩,hbw0⟩
  case round =>
   clear hfl0 hbw0
   obtain ⟨k,hk3,hfl,hkp,hbw⟩:=hrel
   rcases hk3 with ⟨rfl,rfl⟩ | ⟨rfl,rfl⟩ | ⟨rfl,rfl⟩
   · have hS:=HSS.out _ hbw
     obtain ⟨h0,h1,h2,h3,h4,h5⟩:=hS
     obtain ⟨wz,hwz⟩:∃ x,x=wr:=⟨_,rfl⟩
     subst hwz
     go_wp2_with fail
     go_loopw [7,28] (fun v i wx=>∃ j:Nat,j≤n1∧i = .int .i64 j∧(∃ tA tc,v = .slice tA n tc∧BytesP (fun q=>(q<w0.heap.size∨W2.heap.size≤q)∧q<wx.heap.size) wx v (aheadP n a A Bc La j))∧FillG Q a b A Bc ga gb W2.heap.size ([] ++ La.take j) wx∧KeepF W2 ga gb wx∧Below w0.heap.size w0 wx) (fun _ i _=>n1 - (intOf i).toNat)
     case atStart =>
      refine ⟨0,Nat.zero_le _,rfl,⟨nA,nc,rfl,?_⟩,by rw [List.take_zero,List.append_nil];exact hfl,hkp,hbw⟩
      exact bytesR.imp (show BytesP (·<w0.heap.size) wz _ _ from HNO.out.below hbw) fun q hq=>⟨.inl hq,by have hq':q<w0.heap.size:=hq;have:=hbw.size;omega⟩
     case round =>
      clear hfl hkp hbw
      obtain ⟨j,hj,rfl,⟨tA,tc,rfl,hbt⟩,hfl,hkp,hbw⟩:=hrel
      by_cases hlj:j<n1
      · have hdec:decide ((j:Int)<(n1:Int))=true:=by simp;omega
        obtain ⟨⟨c,r⟩,he⟩:∃ e,La[j]?=some e:=⟨_,List.getElem?_eq_getElem (by rw [HLN0.out];exact hlj)⟩
        have hLe:La.length=n1:=HLN0.out
        obtain ⟨⟨hcx,hr0,hr1,hev⟩,hsl,hal,hxo⟩:=HT0.out j (by rw [hLe];exact hlj) (c,r) he
        obtain ⟨rn,rfl⟩:∃ m:Nat,r=(m:Int):=⟨r.toNat,by have:(0:Int)≤r:=hr0;omega⟩
        have hrQ:rn<Q:=by have h1:(rn:Int)<(P:Int) - 1:=hr1;have:=HQP.out;omega
        obtain ⟨q0,q1⟩:=cc_at _ _ _ he
        obtain ⟨gq,hgq⟩:∃ gq,(c=a∧gq=ga)∨(c=b∧gq=gb):=by
         have hcx':c=a∨c=b:=hcx
         rcases hcx' with e | e
         · exact ⟨ga,by simp [e]⟩
         · exact ⟨gb,by simp [e]⟩
        have hq01:gq=ga∨gq=gb:=hgq.imp And.right And.right
        obtain ⟨gA0,hAe,hgA01,hgA02,hce⟩:=own_cells HOW0.out (by rw [hLe];omega)
        subst hAe
        have hgA0a:gA0≠ga∧gA0≠gb:=by have:=HZS.out;omega
        have p0:=(World.cell?_of_block (a:=⟨gA0,j * 2,none⟩) (hkp.2 gA0 hgA02 hgA0a.1 hgA0a.2)).trans (hce _ _ q0)
        have p1:=(World.cell?_of_block (a:=⟨gA0,j * 2+1,none⟩) (hkp.2 gA0 hgA02 hgA0a.1 hgA0a.2)).trans (hce _ _ q1)
        have HNX:Hid ([] ++ La.take (j+1) = [] ++ La.take j ++ [(c,(rn:Int))]):=by
         unfold Hid
         rw [List.take_succ_eq_append_getElem (by rw [hLe];exact hlj),List.append_assoc]
         congr 2
         rw [List.getElem?_eq_getElem (by rw [hLe];exact hlj)] at he
         injection he with he
         rw [he]
        have HAH:Hid (aheadP n a A Bc La (j+1)=cellF a A Bc (c,(rn:Int))):=by
         show cellF a A Bc (La[j]?.getD (0,0)) = _
         rw [he]
         exact rfl
        replace hxo:=hxo.trans (show cellF a A Bc (c,(rn:Int))=cellF a A Bc (c,(rn:Int)) from rfl)
        obtain ⟨W8,hW8⟩:∃ z,wr.alloc (.cells #[.int .i64 c,.int .i64 (rn:Int)] 31)=z:=⟨_,rfl⟩
        obtain ⟨g9,hg9⟩:∃ z,wr.heap.size=z:=⟨_,rfl⟩
        have b9:Blk W8 g9 31 #[.int .i64 c,.int .i64 (rn:Int)]:=by rw [←hW8,←hg9];exact Blk.new wr _ _
        have hB8:Below wr.heap.size wr W8:=by rw [←hW8];exact below_one wr _
        have i0:(0:Int)≤(j:Int):=by omega
        have i1:(j:Int)<(n1:Int):=by omega
        have i2:(0:Int)≤(rn:Int):=by omega
        have i3:(rn:Int)<(Q:Int):=by omega
        have i4:n1≤100:=HN100.out.1
        have HST:=Lib.hid (And.intro hfl (And.intro hkp (And.intro hbw (And.intro hbt (And.intro hgq (And.intro hq01 hrQ))))))
        have HX8:=Lib.hid (And.intro hsl (And.intro hal (And.intro hxo (And.intro hev hB8))))
        have H9:=Lib.hid hg9
        clear hfl hkp hbw hbt hgq hq01 hcx hr0 hr1 q0 q1 he hsl hal hxo hev hrQ hLe
        go_wp2_with fail
        (try rw [H9.out]);(try rw [hW8])
        clear p0 p1 hg9 hW8 hce hgA01 hgA02 hgA0a
        have hBx0:=Below.refl W8.heap.size W8
        rcases Nat.mod_two_eq_zero_or_one j with hpar | hpar
        · have hrem:Int.tmod (j:Int) 2=0:=by rw [Int.tmod_eq_emod_of_nonneg (by omega)];omega
          have hdl:=HX8.out.2.2.2.1 hpar
          obtain ⟨dgn,hdgn⟩:∃ d:Nat,(c+(rn:Int)) % (P:Int)=(d:Int):=⟨((c+(rn:Int)) % (P:Int)).toNat,by have:=Int.emod_nonneg (c+(rn:Int)) (show (P:Int)≠0 by have:=HQP.out;omega);omega⟩
          have hdQ:dgn<Q:=by have h1:(c+(rn:Int)) % (P:Int)<(P:Int) - 1:=hdl;have:=HQP.out;omega
          have hsf:shareF P Q n R D j (c,(rn:Int))=D[dgn]?.getD []:=by unfold shareF;rw [if_pos hpar];show D[((c+(rn:Int)) % (P:Int)).toNat]?.getD [] = _;rw [hdgn,Int.toNat_natCast]
          obtain ⟨uA,uc,hgd,hud,hmu⟩:=HDC.out dgn hdQ
          have HSH:=Lib.hid (fun (V:World) (hV:Below W8.heap.size W8 V)=>onDiagonal_any (.slice (some ⟨gr,orr,none⟩) Q k1) (.slice nA n nc) P HQP.out.2.2 (some ⟨gl,0,none⟩) 2 2 gd od Q k2 c (rn:Int) (by have:=HCR.out c gq HST.out.2.2.2.2.1;have:=HQP.out;have:=HST.out.2.2.2.2.2.2;omega) dgn hdgn hdQ (by have:=HQP.out;omega) V (HLAID.out V (below_in HST.out.2.2.1 (below_in HX8.out.2.2.2.2 hV))) (by have h1:=(below_in HST.out.2.2.1 (below_in HX8.out.2.2.2.2 hV)).size;omega) uA n uc ((below_in HST.out.2.2.1 (below_in HX8.out.2.2.2.2 hV)).cell (p:=⟨gd,od+dgn,none⟩) hgd |>.trans hud))
          have hent:=enter_OD
          rw [hsf] at HX8
          have HJL:Hid ((xorOf [aheadP n a A Bc La j,D[dgn]?.getD []]).length=n):=by unfold Hid;rw [xorOf_len];exact HX8.out.2.1
          have hbt8:Bytes W8.heap.size W8 (.slice tA n tc) (aheadP n a A Bc La j):=bytesR.imp (bytesR.keep HST.out.2.2.2.1 fun q hq=>HX8.out.2.2.2.2.block q hq.2) fun q hq=>(show q<W8.heap.size by have:=HX8.out.2.2.2.2.size;have:=hq.2;omega)
          have hus8:Bytes W8.heap.size W8 (.slice uA n uc) (D[dgn]?.getD []):=(hmu.below (below_in HST.out.2.2.1 HX8.out.2.2.2.2)).more (by have:=(below_in HST.out.2.2.1 HX8.out.2.2.2.2).size;exact this)
          have HUP:=Lib.hid (fun (g:Nat) (V:World) (hV:Below W8.heap.size W8 V) (bE:Blk V g 64 #[.slice tA n tc,.slice uA n uc])=>pUpon_any (B:=V.heap.size) (.slice (some ⟨g,0,none⟩) 2 2) [aheadP n a A Bc La j,D[dgn]?.getD []] V (Nat.le_refl _) (many2 bE ((hbt8.below hV).more hV.size) ((hus8.below hV).more hV.size) bE.lt) (by simp) (xor_two HN1.out.1 HN1.out.2 HX8.out.2.1 HX8.out.1))
          have HSS:Hid (∀ V,Below W8.heap.size W8 V→(fun U:World=>U.cell? ⟨g4,0,none⟩=some (.func (.func 122) #[.agg #[.int .i64 2,.int .i64 (P:Int),.slice (some ⟨gl,0,none⟩) 2 2,.slice (some ⟨gr,orr,none⟩) Q k1,.slice (some ⟨gd,od,none⟩) Q k2,.slice nA n nc]] #[])∧U.cell? ⟨g9,0,none⟩=some (.int .i64 c)∧U.cell? ⟨g9,1,none⟩=some (.int .i64 (rn:Int))) V):=fun V hV=>by
           have hV2:=below_in HX8.out.2.2.2.2 hV
           have hk4:V.heap[g4]?=W2.heap[g4]?:=(hV2.block g4 (by have:=HST.out.2.1.1;have:=HG4.out.2.1;omega)).trans (HST.out.2.1.2 g4 HG4.out.2.1 HG4.out.2.2.1 HG4.out.2.2.2)
           have b4:Blk V g4 162 #[.func (.func 122) #[.agg #[.int .i64 2,.int .i64 (P:Int),.slice (some ⟨gl,0,none⟩) 2 2,.slice (some ⟨gr,orr,none⟩) Q k1,.slice (some ⟨gd,od,none⟩) Q k2,.slice nA n nc]] #[],.func (.func 123) #[.agg #[.int .i64 2,.int .i64 (P:Int),.slice (some ⟨gl,0,none⟩) 2 2,.slice (some ⟨gr,orr,none⟩) Q k1,.slice (some ⟨gd,od,none⟩) Q k2,.slice nA n nc]] #[]]:=hk4.trans HG4.out.1
           exact ⟨b4.cell 0,(b9.below hV b9.lt).cell 0,(b9.below hV b9.lt).cell 1⟩
          have hBx:=hBx0.drew
          have hS:(fun U:World=>U.cell? ⟨g4,0,none⟩=some (.func (.func 122) #[.agg #[.int .i64 2,.int .i64 (P:Int),.slice (some ⟨gl,0,none⟩) 2 2,.slice (some ⟨gr,orr,none⟩) Q k1,.slice (some ⟨gd,od,none⟩) Q k2,.slice nA n nc]] #[])∧U.cell? ⟨g9,0,none⟩=some (.int .i64 c)∧U.cell? ⟨g9,1,none⟩=some (.int .i64 (rn:Int))) W8.drew:=HSS.out _ hBx
          clear hbt8 hus8 hmu hud hgd hsf hBx0
          refine (wpIn_wide (n:=9)).1 ?_
          refine wpIn_mono (region_HF (Q:=NoPanic _) (S:=(fun U:World=>U.cell? ⟨g4,0,none⟩=some (.func (.func 122) #[.agg #[.int .i64 2,.int .i64 (P:Int),.slice (some ⟨gl,0,none⟩) 2 2,.slice (some ⟨gr,orr,none⟩) Q k1,.slice (some ⟨gd,od,none⟩) Q k2,.slice nA n nc]] #[])∧U.cell? ⟨g9,0,none⟩=some (.int .i64 c)∧U.cell? ⟨g9,1,none⟩=some (.int .i64 (rn:Int)))) (by kernel_rfl) ?_) NoPanic.imp
          refine tkF (i:=0) (d:=33) (v:=.slice tA n tc) (s:=hS) (c:=?_)
          simp only [ud9]
          refine tkF (i:=1) (d:=34) (v:=.int .i64 (j:Int)) (s:=hS) (c:=?_)
          simp only [ud9]
          refine tkF (i:=2) (d:=35) (v:=.int .i64 0) (s:=hS) (c:=?_)
          simp only [ud9]
          refine tkF (i:=3) (d:=36) (v:=.pointer (some ⟨g4,0,none⟩)) (s:=hS) (c:=?_)
          simp only [ud9]
          refine tkF (i:=4) (d:=37) (v:=.func (.func 122) #[.agg #[.int .i64 2,.int .i64 (P:Int),.slice (some ⟨gl,0,none⟩) 2 2,.slice (some ⟨gr,orr,none⟩) Q k1,.slice (some ⟨gd,od,none⟩) Q k2,.slice nA n nc]] #[]) (s:=hS) (c:=?_)
          simp only [ud9]
          refine tkF (i:=5) (d:=38) (v:=.agg #[.int .i64 c,.int .i64 (rn:Int)]) (s:=hS) (c:=?_)
          simp only [ud9]
          refine oneF (i:=6) (c:=?_)
          gi_wp2_with fail
          refine ⟨trivial,(callsIn_wide.2 (HSH.out _ hBx)).mono ?_⟩
          rintro e v21 ⟨rfl,hB⟩
          replace hBx:=below_in hBx hB
          clear hS
          have hS:(fun U:World=>U.cell? ⟨g4,0,none⟩=some (.func (.func 122) #[.agg #[.int .i64 2,.int .i64 (P:Int),.slice (some ⟨gl,0,none⟩) 2 2,.slice (some ⟨gr,orr,none⟩) Q k1,.slice (some ⟨gd,od,none⟩) Q k2,.slice nA n nc]] #[])∧U.cell? ⟨g9,0,none⟩=some (.int .i64 c)∧U.cell? ⟨g9,1,none⟩=some (.int .i64 (rn:Int))) v21:=HSS.out _ hBx
          clear hB
          gi_wp2
          try (refine ⟨hS,?_⟩)
          refine oneF (i:=7) (c:=?_)
          have hgl_g23:=hBx.size
          have hB:Below v21.heap.size v21 (v21.alloc (.cells #[.slice tA n tc,.slice uA n uc] 64)):=below_one v21 _
          have bE:Blk (v21.alloc (.cells #[.slice tA n tc,.slice uA n uc] 64)) v21.heap.size 64 #[.slice tA n tc,.slice uA n uc]:=Blk.new v21 _ _
          obtain ⟨v22,he_v22⟩:∃ x,(v21.alloc (.cells #[.slice tA n tc,.slice uA n uc] 64))=x:=⟨_,rfl⟩
          obtain ⟨g23,hg_g23⟩:∃ x,v21.heap.size=x:=⟨_,rfl⟩
          rw [he_v22] at hB bE
          rw [hg_g23] at bE
          replace hBx:=below_in hBx hB
          clear hS
          have hS:(fun U:World=>U.cell? ⟨g4,0,none⟩=some (.func (.func 122) #[.agg #[.int .i64 2,.int .i64 (P:Int),.slice (some ⟨gl,0,none⟩) 2 2,.slice (some ⟨gr,orr,none⟩) Q k1,.slice (some ⟨gd,od,none⟩) Q k2,.slice nA n nc]] #[])∧U.cell? ⟨g9,0,none⟩=some (.int .i64 c)∧U.cell? ⟨g9,1,none⟩=some (.int .i64 (rn:Int))) v22:=HSS.out _ hBx
          gi_wp2
          (try rw [hg_g23]);(try rw [he_v22])
          try (refine ⟨hS,?_⟩)
          clear hB he_v22 hg_g23
          refine oneF (i:=8) (c:=?_)
          have HZE:=Lib.hid hBx.size
          gi_wp2_with fail
          refine ⟨trivial,(callsIn_wide.2 (HUP.out g23 _ hBx bE)).mono ?_⟩
          rintro e v24 ⟨uj,rfl,hFu,hB⟩
          obtain ⟨aJ,cJ,rfl,_⟩:=id hFu
          rw [HJL.out] at hFu ⊢
          replace bE:=bE.below hB bE.lt
          replace hBx:=below_in hBx hB
          clear hS
          have hS:(fun U:World=>U.cell? ⟨g4,0,none⟩=some (.func (.func 122) #[.agg #[.int .i64 2,.int .i64 (P:Int),.slice (some ⟨gl,0,none⟩) 2 2,.slice (some ⟨gr,orr,none⟩) Q k1,.slice (some ⟨gd,od,none⟩) Q k2,.slice nA n nc]] #[])∧U.cell? ⟨g9,0,none⟩=some (.int .i64 c)∧U.cell? ⟨g9,1,none⟩=some (.int .i64 (rn:Int))) v24:=HSS.out _ hBx
          clear hB
          gi_wp2
          try (refine ⟨hS,?_⟩)
          refine oneF (i:=9) (c:=?_)
          gi_wp2
          refine anyHF_done (by kernel_rfl) ?_ _
          refine NoPanic.normal ?_
          clear hS
          have hBw:=below_in HX8.out.2.2.2.2 hBx
          have hflV:=HST.out.1.below hBw
          have hkpV:=HST.out.2.1.below hBw
          have hbwV:=below_in HST.out.2.2.1 hBw
          obtain ⟨⟨old,hold⟩,hfz⟩:=hflV.old HST.out.2.2.2.2.2.1 HST.out.2.2.2.2.2.2
          have z9:=b9.below hBx b9.lt
          have hFb:BytesP (fun q=>W2.heap.size≤q∧q<v24.heap.size) v24 (.slice aJ n cJ) (cellF a A Bc (c,(rn:Int))):=by
           have h1:=Fresh.toP2 (B:=0) hFu
           rw [HX8.out.2.2.1] at h1
           exact bytesR.imp h1 fun q hq=>⟨by have:=hq.1;have:=HST.out.2.1.1;have:=HX8.out.2.2.2.2.size;have:=HZE.out;omega,hq.2⟩
          have HHE:=Lib.hid (fun (V:World) (hV:Below v24.heap.size v24 V)=>HEL.out c gq HST.out.2.2.2.2.1 V (hkpV.below hV))
          have hent2:=enter_held
          have hBy:=Below.refl v24.heap.size v24
          have hS:(fun U:World=>U.cell? ⟨g9,0,none⟩=some (.int .i64 c)∧U.cell? ⟨g9,1,none⟩=some (.int .i64 (rn:Int))) v24.drew:=⟨(z9.below hBy.drew z9.lt).cell 0,(z9.below hBy.drew z9.lt).cell 1⟩
          have HFL:=Lib.hid (And.intro hflV (And.intro hkpV (And.intro hbwV hFb)))
          clear hflV hkpV hbwV hFb hBx hBw z9 hFu
          go_wp2_with fail
          refine (wpIn_wide (n:=9)).1 ?_
          refine wpIn_mono (region_HG (Q:=NoPanic _) (S:=(fun U:World=>U.cell? ⟨g9,0,none⟩=some (.int .i64 c)∧U.cell? ⟨g9,1,none⟩=some (.int .i64 (rn:Int)))) (m:=8) (by kernel_rfl) ?_) NoPanic.imp
          refine anyHG_take (i:=0) (d:=42) (v:=.func (.func 178) #[] #[.pointer (some ⟨g3,0,none⟩)]) (by kernel_rfl) rfl (by kernel_rfl) (by kernel_rfl) (by kernel_rfl) rfl (by kernel_rfl) (fun _ _ _ h=>h) ⟨Or.inl ⟨by rfl,fun w hS=>by obtain ⟨h0,h1⟩:=hS;go_simp⟩,fun _=>rfl⟩ hS ?_
          simp only [ud9]
          refine anyHG_take (i:=1) (d:=43) (v:=.pointer (some ⟨g9,0,none⟩)) (by kernel_rfl) rfl (by kernel_rfl) (by kernel_rfl) (by kernel_rfl) rfl (by kernel_rfl) (fun _ _ _ h=>h) ⟨Or.inl ⟨by rfl,fun w hS=>by obtain ⟨h0,h1⟩:=hS;go_simp⟩,fun _=>rfl⟩ hS ?_
          simp only [ud9]
          refine anyHG_take (i:=2) (d:=44) (v:=.int .i64 c) (by kernel_rfl) rfl (by kernel_rfl) (by kernel_rfl) (by kernel_rfl) rfl (by kernel_rfl) (fun _ _ _ h=>h) ⟨Or.inl ⟨by rfl,fun w hS=>by obtain ⟨h0,h1⟩:=hS;go_simp⟩,fun _=>rfl⟩ hS ?_
          simp only [ud9]
          refine anyHG_take (i:=4) (d:=46) (v:=.pointer (some ⟨g9,1,none⟩)) (by kernel_rfl) rfl (by kernel_rfl) (by kernel_rfl) (by kernel_rfl) rfl (by kernel_rfl) (fun _ _ _ h=>h) ⟨Or.inl ⟨by rfl,fun w hS=>by obtain ⟨h0,h1⟩:=hS;go_simp⟩,fun _=>rfl⟩ hS ?_
          simp only [ud9]
          refine anyHG_take (i:=5) (d:=47) (v:=.int .i64 (rn:Int)) (by kernel_rfl) rfl (by kernel_rfl) (by kernel_rfl) (by kernel_rfl) rfl (by kernel_rfl) (fun _ _ _ h=>h) ⟨Or.inl ⟨by rfl,fun w hS=>by obtain ⟨h0,h1⟩:=hS;go_simp⟩,fun _=>rfl⟩ hS ?_
          simp only [ud9]
          refine anyHG_take (i:=6) (d:=48) (v:=.slice aJ n cJ) (by kernel_rfl) rfl (by kernel_rfl) (by kernel_rfl) (by kernel_rfl) rfl (by kernel_rfl) (fun _ _ _ h=>h) ⟨Or.inl ⟨by rfl,fun w hS=>by obtain ⟨h0,h1⟩:=hS;go_simp⟩,fun _=>rfl⟩ hS ?_
          simp only [ud9]
          refine anyHG_one (i:=3) (by kernel_rfl) rfl (by kernel_rfl) (by rfl) ?_
          gi_wp2_with fail
          refine ⟨trivial,(callsIn_wide.2 (HHE.out _ hBy.drew)).mono ?_⟩
          rintro e w7' ⟨rfl,rfl⟩
          gi_wp2
          try (refine ⟨.inr hS,?_⟩)
          refine anyHG_take (i:=7) (d:=49) (v:=.pointer (some ⟨gq,rn,none⟩)) (by kernel_rfl) rfl (by kernel_rfl) (by kernel_rfl) (by kernel_rfl) rfl (by kernel_rfl) (fun _ _ _ h=>h) ⟨Or.inl ⟨by rfl,fun w hS=>by obtain ⟨h0,h1⟩:=hS;go_simp⟩,fun _=>rfl⟩ hS ?_
          simp only [ud9]
          refine anyHG_one (i:=8) (by kernel_rfl) rfl (by kernel_rfl) (by rfl) ?_
          obtain ⟨h0,h1⟩:=hS
          gi_wp2
          refine anyHG_done (by kernel_rfl) ?_ _
          refine NoPanic.normal ?_
          clear h0 h1
          go_wp2_with fail
          go_roundw
          case rel =>
           have hP:=FillG.put HFL.out.1 HAB.out HG7.out.1 HG7.out.2.1 HG7.out.2.2 HST.out.2.2.2.2.1 HST.out.2.2.2.2.2.2 HFL.out.2.2.2
           have hqW:gq<W2.heap.size:=by have h1:=HG7.out.2;rcases HST.out.2.2.2.2.2.1 with e | e <;> omega
           have hqw0:w0.heap.size≤gq:=by have h1:=HG0W.out;rcases HST.out.2.2.2.2.2.1 with e | e <;> omega
           have hDr:=(Below.refl (v24.setCell ⟨gq,rn,none⟩ (.slice aJ n cJ)).heap.size (v24.setCell ⟨gq,rn,none⟩ (.slice aJ n cJ))).drew
           refine ⟨j+1,by omega,by go_num,⟨aJ,cJ,rfl,?_⟩,by rw [HNX.out];exact hP.below hDr,(HFL.out.2.1.put HST.out.2.2.2.2.2.1).below hDr,(HFL.out.2.2.1.setCell (p:=⟨gq,rn,none⟩) hqw0 _).drew⟩
           rw [HAH.out]
           exact bytesR.imp (bytesR.keep HFL.out.2.2.2 fun q hq=>Below.heap_setCell v24 ⟨gq,rn,none⟩ _ q (by show q≠gq;have:=hq.1;omega)) fun q hq=>⟨.inr hq.1,by simpa using hq.2⟩
          case measure=>simp [intOf];omega
        · have hrem:Int.tmod (j:Int) 2=1:=by rw [Int.tmod_eq_emod_of_nonneg (by omega)];omega
          have hsf:shareF P Q n R D j (c,(rn:Int))=R[rn]?.getD []:=by unfold shareF;rw [if_neg (by omega)];simp
          obtain ⟨uA,uc,hgd,hud,hmu⟩:=HRC.out rn HST.out.2.2.2.2.2.2
          have HSH:=Lib.hid (fun (V:World) (hV:Below W8.heap.size W8 V)=>inRow_any (.slice (some ⟨gd,od,none⟩) Q k2) (.slice nA n nc) (P:Int) (some ⟨gl,0,none⟩) 2 2 gr orr Q k1 c rn HST.out.2.2.2.2.2.2 (by have:=HQP.out;omega) V (by have h1:=(below_in HST.out.2.2.1 (below_in HX8.out.2.2.2.2 hV)).size;omega) uA n uc ((below_in HST.out.2.2.1 (below_in HX8.out.2.2.2.2 hV)).cell (p:=⟨gr,orr+rn,none⟩) hgd |>.trans hud))
          have hent:=enter_IR
          rw [hsf] at HX8
          have HJL:Hid ((xorOf [aheadP n a A Bc La j,R[rn]?.getD []]).length=n):=by unfold Hid;rw [xorOf_len];exact HX8.out.2.1
          have hbt8:Bytes W8.heap.size W8 (.slice tA n tc) (aheadP n a A Bc La j):=bytesR.imp (bytesR.keep HST.out.2.2.2.1 fun q hq=>HX8.out.2.2.2.2.block q hq.2) fun q hq=>(show q<W8.heap.size by have:=HX8.out.2.2.2.2.size;have:=hq.2;omega)
          have hus8:Bytes W8.heap.size W8 (.slice uA n uc) (R[rn]?.getD []):=(hmu.below (below_in HST.out.2.2.1 HX8.out.2.2.2.2)).more (by have:=(below_in HST.out.2.2.1 HX8.out.2.2.2.2).size;exact this)
          have HUP:=Lib.hid (fun (g:Nat) (V:World) (hV:Below W8.heap.size W8 V) (bE:Blk V g 64 #[.slice tA n tc,.slice uA n uc])=>pUpon_any (B:=V.heap.size) (.slice (some ⟨g,0,none⟩) 2 2) [aheadP n a A Bc La j,R[rn]?.getD []] V (Nat.le_refl _) (many2 bE ((hbt8.below hV).more hV.size) ((hus8.below hV).more hV.size) bE.lt) (by simp) (xor_two HN1.out.1 HN1.out.2 HX8.out.2.1 HX8.out.1))
          have HSS:Hid (∀ V,Below W8.heap.size W8 V→(fun U:World=>U.cell? ⟨g4,1,none⟩=some (.func (.func 123) #[.agg #[.int .i64 2,.int .i64 (P:Int),.slice (some ⟨gl,0,none⟩) 2 2,.slice (some ⟨gr,orr,none⟩) Q k1,.slice (some ⟨gd,od,none⟩) Q k2,.slice nA n nc]] #[])∧U.cell? ⟨g9,0,none⟩=some (.int .i64 c)∧U.cell? ⟨g9,1,none⟩=some (.int .i64 (rn:Int))) V):=fun V hV=>by
           have hV2:=below_in HX8.out.2.2.2.2 hV
           have hk4:V.heap[g4]?=W2.heap[g4]?:=(hV2.block g4 (by have:=HST.out.2.1.1;have:=HG4.out.2.1;omega)).trans (HST.out.2.1.2 g4 HG4.out.2.1 HG4.out.2.2.1 HG4.out.2.2.2)
           have b4:Blk V g4 162 #[.func (.func 122) #[.agg #[.int .i64 2,.int .i64 (P:Int),.slice (some ⟨gl,0,none⟩) 2 2,.slice (some ⟨gr,orr,none⟩) Q k1,.slice (some ⟨gd,od,none⟩) Q k2,.slice nA n nc]] #[],.func (.func 123) #[.agg #[.int .i64 2,.int .i64 (P:Int),.slice (some ⟨gl,0,none⟩) 2 2,.slice (some ⟨gr,orr,none⟩) Q k1,.slice (some ⟨gd,od,none⟩) Q k2,.slice nA n nc]] #[]]:=hk4.trans HG4.out.1
           exact ⟨b4.cell 1,(b9.below hV b9.lt).cell 0,(b9.below hV b9.lt).cell 1⟩
          have hBx:=hBx0.drew
          have hS:(fun U:World=>U.cell? ⟨g4,1,none⟩=some (.func (.func 123) #[.agg #[.int .i64 2,.int .i64 (P:Int),.slice (some ⟨gl,0,none⟩) 2 2,.slice (some ⟨gr,orr,none⟩) Q k1,.slice (some ⟨gd,od,none⟩) Q k2,.slice nA n nc]] #[])∧U.cell? ⟨g9,0,none⟩=some (.int .i64 c)∧U.cell? ⟨g9,1,none⟩=some (.int .i64 (rn:Int))) W8.drew:=HSS.out _ hBx
          clear hbt8 hus8 hmu hud hgd hsf hBx0
          refine (wpIn_wide (n:=9)).1 ?_
          refine wpIn_mono (region_HF (Q:=NoPanic _) (S:=(fun U:World=>U.cell? ⟨g4,1,none⟩=some (.func (.func 123) #[.agg #[.int .i64 2,.int .i64 (P:Int),.slice (some ⟨gl,0,none⟩) 2 2,.slice (some ⟨gr,orr,none⟩) Q k1,.slice (some ⟨gd,od,none⟩) Q k2,.slice nA n nc]] #[])∧U.cell? ⟨g9,0,none⟩=some (.int .i64 c)∧U.cell? ⟨g9,1,none⟩=some (.int .i64 (rn:Int)))) (by kernel_rfl) ?_) NoPanic.imp
          refine tkF (i:=0) (d:=33) (v:=.slice tA n tc) (s:=hS) (c:=?_)
          simp only [ud9]
          refine tkF (i:=1) (d:=34) (v:=.int .i64 (j:Int)) (s:=hS) (c:=?_)
          simp only [ud9]
          refine tkF (i:=2) (d:=35) (v:=.int .i64 1) (s:=hS) (c:=?_)
          simp only [ud9]
          refine tkF (i:=3) (d:=36) (v:=.pointer (some ⟨g4,1,none⟩)) (s:=hS) (c:=?_)
          simp only [ud9]
          refine tkF (i:=4) (d:=37) (v:=.func (.func 123) #[.agg #[.int .i64 2,.int .i64 (P:Int),.slice (some ⟨gl,0,none⟩) 2 2,.slice (some ⟨gr,orr,none⟩) Q k1,.slice (some ⟨gd,od,none⟩) Q k2,.slice nA n nc]] #[]) (s:=hS) (c:=?_)
          simp only [ud9]
          refine tkF (i:=5) (d:=38) (v:=.agg #[.int .i64 c,.int .i64 (rn:Int)]) (s:=hS) (c:=?_)
          simp only [ud9]
          refine oneF (i:=6) (c:=?_)
          gi_wp2_with fail
          refine ⟨trivial,(callsIn_wide.2 (HSH.out _ hBx)).mono ?_⟩
          rintro e v21 ⟨rfl,hB⟩
          replace hBx:=below_in hBx hB
          clear hS
          have hS:(fun U:World=>U.cell? ⟨g4,1,none⟩=some (.func (.func 123) #[.agg #[.int .i64 2,.int .i64 (P:Int),.slice (some ⟨gl,0,none⟩) 2 2,.slice (some ⟨gr,orr,none⟩) Q k1,.slice (some ⟨gd,od,none⟩) Q k2,.slice nA n nc]] #[])∧U.cell? ⟨g9,0,none⟩=some (.int .i64 c)∧U.cell? ⟨g9,1,none⟩=some (.int .i64 (rn:Int))) v21:=HSS.out _ hBx
          clear hB
          gi_wp2
          try (refine ⟨hS,?_⟩)
          refine oneF (i:=7) (c:=?_)
          have hgl_g23:=hBx.size
          have hB:Below v21.heap.size v21 (v21.alloc (.cells #[.slice tA n tc,.slice uA n uc] 64)):=below_one v21 _
          have bE:Blk (v21.alloc (.cells #[.slice tA n tc,.slice uA n uc] 64)) v21.heap.size 64 #[.slice tA n tc,.slice uA n uc]:=Blk.new v21 _ _
          obtain ⟨v22,he_v22⟩:∃ x,(v21.alloc (.cells #[.slice tA n tc,.slice uA n uc] 64))=x:=⟨_,rfl⟩
          obtain ⟨g23,hg_g23⟩:∃ x,v21.heap.size=x:=⟨_,rfl⟩
          rw [he_v22] at hB bE
          rw [hg_g23] at bE
          replace hBx:=below_in hBx hB
          clear hS
          have hS:(fun U:World=>U.cell? ⟨g4,1,none⟩=some (.func (.func 123) #[.agg #[.int .i64 2,.int .i64 (P:Int),.slice (some ⟨gl,0,none⟩) 2 2,.slice (some ⟨gr,orr,none⟩) Q k1,.slice (some ⟨gd,od,none⟩) Q k2,.slice nA n nc]] #[])∧U.cell? ⟨g9,0,none⟩=some (.int .i64 c)∧U.cell? ⟨g9,1,none⟩=some (.int .i64 (rn:Int))) v22:=HSS.out _ hBx
          gi_wp2
          (try rw [hg_g23]);(try rw [he_v22])
          try (refine ⟨hS,?_⟩)
          clear hB he_v22 hg_g23
          refine oneF (i:=8) (c:=?_)
          have HZE:=Lib.hid hBx.size
          gi_wp2_with fail
          refine ⟨trivial,(callsIn_wide.2 (HUP.out g23 _ hBx bE)).mono ?_⟩
          rintro e v24 ⟨uj,rfl,hFu,hB⟩
          obtain ⟨aJ,cJ,rfl,_⟩:=id hFu
          rw [HJL.out] at hFu ⊢
          replace bE:=bE.below hB bE.lt
          replace hBx:=below_in hBx hB
          clear hS
          have hS:(fun U:World=>U.cell? ⟨g4,1,none⟩=some (.func (.func 123) #[.agg #[.int .i64 2,.int .i64 (P:Int),.slice (some ⟨gl,0,none⟩) 2 2,.slice (some ⟨gr,orr,none⟩) Q k1,.slice (some ⟨gd,od,none⟩) Q k2,.slice nA n nc]] #[])∧U.cell? ⟨g9,0,none⟩=some (.int .i64 c)∧U.cell? ⟨g9,1,none⟩=some (.int .i64 (rn:Int))) v24:=HSS.out _ hBx
          clear hB
          gi_wp2
          try (refine ⟨hS,?_⟩)
          refine oneF (i:=9) (c:=?_)
          gi_wp2
          refine anyHF_done (by kernel_rfl) ?_ _
          refine NoPanic.normal ?_
          clear hS
          have hBw:=below_in HX8.out.2.2.2.2 hBx
          have hflV:=HST.out.1.below hBw
          have hkpV:=HST.out.2.1.below hBw
          have hbwV:=below_in HST.out.2.2.1 hBw
          obtain ⟨⟨old,hold⟩,hfz⟩:=hflV.old HST.out.2.2.2.2.2.1 HST.out.2.2.2.2.2.2
          have z9:=b9.below hBx b9.lt
          have hFb:BytesP (fun q=>W2.heap.size≤q∧q<v24.heap.size) v24 (.slice aJ n cJ) (cellF a A Bc (c,(rn:Int))):=by
           have h1:=Fresh.toP2 (B:=0) hFu
           rw [HX8.out.2.2.1] at h1
           exact bytesR.imp h1 fun q hq=>⟨by have:=hq.1;have:=HST.out.2.1.1;have:=HX8.out.2.2.2.2.size;have:=HZE.out;omega,hq.2⟩
          have HHE:=Lib.hid (fun (V:World) (hV:Below v24.heap.size v24 V)=>HEL.out c gq HST.out.2.2.2.2.1 V (hkpV.below hV))
          have hent2:=enter_held
          have hBy:=Below.refl v24.heap.size v24
          have hS:(fun U:World=>U.cell? ⟨g9,0,none⟩=some (.int .i64 c)∧U.cell? ⟨g9,1,none⟩=some (.int .i64 (rn:Int))) v24.drew:=⟨(z9.below hBy.drew z9.lt).cell 0,(z9.below hBy.drew z9.lt).cell 1⟩
          have HFL:=Lib.hid (And.intro hflV (And.intro hkpV (And.intro hbwV hFb)))
          clear hflV hkpV hbwV hFb hBx hBw z9 hFu
          go_wp2_with fail
          refine (wpIn_wide (n:=9)).1 ?_
          refine wpIn_mono (region_HG (Q:=NoPanic _) (S:=(fun U:World=>U.cell? ⟨g9,0,none⟩=some (.int .i64 c)∧U.cell? ⟨g9,1,none⟩=some (.int .i64 (rn:Int)))) (m:=8) (by kernel_rfl) ?_) NoPanic.imp
          refine anyHG_take (i:=0) (d:=42) (v:=.func (.func 178) #[] #[.pointer (some ⟨g3,0,none⟩)]) (by kernel_rfl) rfl (by kernel_rfl) (by kernel_rfl) (by kernel_rfl) rfl (by kernel_rfl) (fun _ _ _ h=>h) ⟨Or.inl ⟨by rfl,fun w hS=>by obtain ⟨h0,h1⟩:=hS;go_simp⟩,fun _=>rfl⟩ hS ?_
          simp only [ud9]
          refine anyHG_take (i:=1) (d:=43) (v:=.pointer (some ⟨g9,0,none⟩)) (by kernel_rfl) rfl (by kernel_rfl) (by kernel_rfl) (by kernel_rfl) rfl (by kernel_rfl) (fun _ _ _ h=>h) ⟨Or.inl ⟨by rfl,fun w hS=>by obtain ⟨h0,h1⟩:=hS;go_simp⟩,fun _=>rfl⟩ hS ?_
          simp only [ud9]
          refine anyHG_take (i:=2) (d:=44) (v:=.int .i64 c) (by kernel_rfl) rfl (by kernel_rfl) (by kernel_rfl) (by kernel_rfl) rfl (by kernel_rfl) (fun _ _ _ h=>h) ⟨Or.inl ⟨by rfl,fun w hS=>by obtain ⟨h0,h1⟩:=hS;go_simp⟩,fun _=>rfl⟩ hS ?_
          simp only [ud9]
          refine anyHG_take (i:=4) (d:=46) (v:=.pointer (some ⟨g9,1,none⟩)) (by kernel_rfl) rfl (by kernel_rfl) (by kernel_rfl) (by kernel_rfl) rfl (by kernel_rfl) (fun _ _ _ h=>h) ⟨Or.inl ⟨by rfl,fun w hS=>by obtain ⟨h0,h1⟩:=hS;go_simp⟩,fun _=>rfl⟩ hS ?_
          simp only [ud9]
          refine anyHG_take (i:=5) (d:=47) (v:=.int .i64 (rn:Int)) (by kernel_rfl) rfl (by kernel_rfl) (by kernel_rfl) (by kernel_rfl) rfl (by kernel_rfl) (fun _ _ _ h=>h) ⟨Or.inl ⟨by rfl,fun w hS=>by obtain ⟨h0,h1⟩:=hS;go_simp⟩,fun _=>rfl⟩ hS ?_
          simp only [ud9]
          refine anyHG_take (i:=6) (d:=48) (v:=.slice aJ n cJ) (by kernel_rfl) rfl (by kernel_rfl) (by kernel_rfl) (by kernel_rfl) rfl (by kernel_rfl) (fun _ _ _ h=>h) ⟨Or.inl ⟨by rfl,fun w hS=>by obtain ⟨h0,h1⟩:=hS;go_simp⟩,fun _=>rfl⟩ hS ?_
          simp only [ud9]
          refine anyHG_one (i:=3) (by kernel_rfl) rfl (by kernel_rfl) (by rfl) ?_
          gi_wp2_with fail
          refine ⟨trivial,(callsIn_wide.2 (HHE.out _ hBy.drew)).mono ?_⟩
          rintro e w7' ⟨rfl,rfl⟩
          gi_wp2
          try (refine ⟨.inr hS,?_⟩)
          refine anyHG_take (i:=7) (d:=49) (v:=.pointer (some ⟨gq,rn,none⟩)) (by kernel_rfl) rfl (by kernel_rfl) (by kernel_rfl) (by kernel_rfl) rfl (by kernel_rfl) (fun _ _ _ h=>h) ⟨Or.inl ⟨by rfl,fun w hS=>by obtain ⟨h0,h1⟩:=hS;go_simp⟩,fun _=>rfl⟩ hS ?_
          simp only [ud9]
          refine anyHG_one (i:=8) (by kernel_rfl) rfl (by kernel_rfl) (by rfl) ?_
          obtain ⟨h0,h1⟩:=hS
          gi_wp2
          refine anyHG_done (by kernel_rfl) ?_ _
          refine NoPanic.normal ?_
          clear h0 h1
          go_wp2_with fail
          go_roundw
          case rel =>
           have hP:=FillG.put HFL.out.1 HAB.out HG7.out.1 HG7.out.2.1 HG7.out.2.2 HST.out.2.2.2.2.1 HST.out.2.2.2.2.2.2 HFL.out.2.2.2
           have hqW:gq<W2.heap.size:=by have h1:=HG7.out.2;rcases HST.out.2.2.2.2.2.1 with e | e <;> omega
           have hqw0:w0.heap.size≤gq:=by have h1:=HG0W.out;rcases HST.out.2.2.2.2.2.1 with e | e <;> omega
           have hDr:=(Below.refl (v24.setCell ⟨gq,rn,none⟩ (.slice aJ n cJ)).heap.size (v24.setCell ⟨gq,rn,none⟩ (.slice aJ n cJ))).drew
           refine ⟨j+1,by omega,by go_num,⟨aJ,cJ,rfl,?_⟩,by rw [HNX.out];exact hP.below hDr,(HFL.out.2.1.put HST.out.2.2.2.2.2.1).below hDr,(HFL.out.2.2.1.setCell (p:=⟨gq,rn,none⟩) hqw0 _).drew⟩
           rw [HAH.out]
           exact bytesR.imp (bytesR.keep HFL.out.2.2.2 fun q hq=>Below.heap_setCell v24 ⟨gq,rn,none⟩ _ q (by show q≠gq;have:=hq.1;omega)) fun q hq=>⟨.inr hq.1,by simpa using hq.2⟩
          case measure=>simp [intOf];omega
      · obtain rfl:j=n1:=by omega
        have hdec:decide ((j:Int)<(j:Int))=false:=by simp
        rw [show La.take j=La from List.take_of_length_le (by rw [HLN0.out];exact Nat.le_refl _)] at hfl
        clear hbt
        go_wp2_with fail
        go_roundw
        case rel=>exact ⟨1,.inr (.inl ⟨rfl,by go_num⟩),by exact hfl,hkp,hbw⟩
        case measure=>simp [intOf]
   · have hS:=HSS.out _ hbw
     obtain ⟨h0,h1,h2,h3,h4,h5⟩:=hS
     obtain ⟨wz,hwz⟩:∃ x,x=wr:=⟨_,rfl⟩
     subst hwz
     go_wp2_with fail
     go_loopw [7,28] (fun v i wx=>∃ j:Nat,j≤n2∧i = .int .i64 j∧(∃ tA tc,v = .slice tA n tc∧BytesP (fun q=>(q<w0.heap.size∨W2.heap.size≤q)∧q<wx.heap.size) wx v (aheadP n b Bc A Lb j))∧FillG Q a b A Bc ga gb W2.heap.size (La ++ Lb.take j) wx∧KeepF W2 ga gb wx∧Below w0.heap.size w0 wx) (fun _ i _=>n2 - (intOf i).toNat)
     case atStart =>
      refine ⟨0,Nat.zero_le _,rfl,⟨nA,nc,rfl,?_⟩,by rw [List.take_zero,List.append_nil];exact hfl,hkp,hbw⟩
      exact bytesR.imp (show BytesP (·<w0.heap.size) wz _ _ from HNO.out.below hbw) fun q hq=>⟨.inl hq,by have hq':q<w0.heap.size:=hq;have:=hbw.size;omega⟩
     case round =>
      clear hfl hkp hbw
      obtain ⟨j,hj,rfl,⟨tA,tc,rfl,hbt⟩,hfl,hkp,hbw⟩:=hrel
      by_cases hlj:j<n2
      · have hdec:decide ((j:Int)<(n2:Int))=true:=by simp;omega
        obtain ⟨⟨c,r⟩,he⟩:∃ e,Lb[j]?=some e:=⟨_,List.getElem?_eq_getElem (by rw [HLN1.out];exact hlj)⟩
        have hLe:Lb.length=n2:=HLN1.out
        obtain ⟨⟨hcx,hr0,hr1,hev⟩,hsl,hal,hxo⟩:=HT1.out j (by rw [hLe];exact hlj) (c,r) he
        obtain ⟨rn,rfl⟩:∃ m:Nat,r=(m:Int):=⟨r.toNat,by have:(0:Int)≤r:=hr0;omega⟩
        have hrQ:rn<Q:=by have h1:(rn:Int)<(P:Int) - 1:=hr1;have:=HQP.out;omega
        obtain ⟨q0,q1⟩:=cc_at _ _ _ he
        obtain ⟨gq,hgq⟩:∃ gq,(c=a∧gq=ga)∨(c=b∧gq=gb):=by
         have hcx':c=b∨c=a:=hcx
         rcases hcx' with e | e
         · exact ⟨gb,by simp [e]⟩
         · exact ⟨ga,by simp [e]⟩
        have hq01:gq=ga∨gq=gb:=hgq.imp And.right And.right
        obtain ⟨gA1,hAe,hgA11,hgA12,hce⟩:=own_cells HOW1.out (by rw [hLe];omega)
        subst hAe
        have hgA1a:gA1≠ga∧gA1≠gb:=by have:=HZS.out;omega
        have p0:=(World.cell?_of_block (a:=⟨gA1,j * 2,none⟩) (hkp.2 gA1 hgA12 hgA1a.1 hgA1a.2)).trans (hce _ _ q0)
        have p1:=(World.cell?_of_block (a:=⟨gA1,j * 2+1,none⟩) (hkp.2 gA1 hgA12 hgA1a.1 hgA1a.2)).trans (hce _ _ q1)
        have HNX:Hid (La ++ Lb.take (j+1)=La ++ Lb.take j ++ [(c,(rn:Int))]):=by
         unfold Hid
         rw [List.take_succ_eq_append_getElem (by rw [hLe];exact hlj),List.append_assoc]
         congr 2
         rw [List.getElem?_eq_getElem (by rw [hLe];exact hlj)] at he
         injection he with he
         rw [he]
        have HAH:Hid (aheadP n b Bc A Lb (j+1)=cellF a A Bc (c,(rn:Int))):=by
         show cellF b Bc A (Lb[j]?.getD (0,0)) = _
         rw [he]
         exact cellF_swap HAB.out A Bc (c,(rn:Int)) (by have h:c=b∨c=a:=hcx;exact h)
        replace hxo:=hxo.trans (show cellF b Bc A (c,(rn:Int))=cellF a A Bc (c,(rn:Int)) from cellF_swap HAB.out A Bc (c,(rn:Int)) (by have h:c=b∨c=a:=hcx;exact h))
        obtain ⟨W8,hW8⟩:∃ z,wr.alloc (.cells #[.int .i64 c,.int .i64 (rn:Int)] 31)=z:=⟨_,rfl⟩
        obtain ⟨g9,hg9⟩:∃ z,wr.heap.size=z:=⟨_,rfl⟩
        have b9:Blk W8 g9 31 #[.int .i64 c,.int .i64 (rn:Int)]:=by rw [←hW8,←hg9];exact Blk.new wr _ _
        have hB8:Below wr.heap.size wr W8:=by rw [←hW8];exact below_one wr _
        have i0:(0:Int)≤(j:Int):=by omega
        have i1:(j:Int)<(n2:Int):=by omega
        have i2:(0:Int)≤(rn:Int):=by omega
        have i3:(rn:Int)<(Q:Int):=by omega
        have i4:n2≤100:=HN100.out.2
        have HST:=Lib.hid (And.intro hfl (And.intro hkp (And.intro hbw (And.intro hbt (And.intro hgq (And.intro hq01 hrQ))))))
        have HX8:=Lib.hid (And.intro hsl (And.intro hal (And.intro hxo (And.intro hev hB8))))
        have H9:=Lib.hid hg9
        clear hfl hkp hbw hbt hgq hq01 hcx hr0 hr1 q0 q1 he hsl hal hxo hev hrQ hLe
        go_wp2_with fail
        (try rw [H9.out]);(try rw [hW8])
        clear p0 p1 hg9 hW8 hce hgA11 hgA12 hgA1a
        have hBx0:=Below.refl W8.heap.size W8
        rcases Nat.mod_two_eq_zero_or_one j with hpar | hpar
        · have hrem:Int.tmod (j:Int) 2=0:=by rw [Int.tmod_eq_emod_of_nonneg (by omega)];omega
          have hdl:=HX8.out.2.2.2.1 hpar
          obtain ⟨dgn,hdgn⟩:∃ d:Nat,(c+(rn:Int)) % (P:Int)=(d:Int):=⟨((c+(rn:Int)) % (P:Int)).toNat,by have:=Int.emod_nonneg (c+(rn:Int)) (show (P:Int)≠0 by have:=HQP.out;omega);omega⟩
          have hdQ:dgn<Q:=by have h1:(c+(rn:Int)) % (P:Int)<(P:Int) - 1:=hdl;have:=HQP.out;omega
          have hsf:shareF P Q n R D j (c,(rn:Int))=D[dgn]?.getD []:=by unfold shareF;rw [if_pos hpar];show D[((c+(rn:Int)) % (P:Int)).toNat]?.getD [] = _;rw [hdgn,Int.toNat_natCast]
          obtain ⟨uA,uc,hgd,hud,hmu⟩:=HDC.out dgn hdQ
          have HSH:=Lib.hid (fun (V:World) (hV:Below W8.heap.size W8 V)=>onDiagonal_any (.slice (some ⟨gr,orr,none⟩) Q k1) (.slice nA n nc) P HQP.out.2.2 (some ⟨gl,0,none⟩) 2 2 gd od Q k2 c (rn:Int) (by have:=HCR.out c gq HST.out.2.2.2.2.1;have:=HQP.out;have:=HST.out.2.2.2.2.2.2;omega) dgn hdgn hdQ (by have:=HQP.out;omega) V (HLAID.out V (below_in HST.out.2.2.1 (below_in HX8.out.2.2.2.2 hV))) (by have h1:=(below_in HST.out.2.2.1 (below_in HX8.out.2.2.2.2 hV)).size;omega) uA n uc ((below_in HST.out.2.2.1 (below_in HX8.out.2.2.2.2 hV)).cell (p:=⟨gd,od+dgn,none⟩) hgd |>.trans hud))
          have hent:=enter_OD
          rw [hsf] at HX8
          have HJL:Hid ((xorOf [aheadP n b Bc A Lb j,D[dgn]?.getD []]).length=n):=by unfold Hid;rw [xorOf_len];exact HX8.out.2.1
          have hbt8:Bytes W8.heap.size W8 (.slice tA n tc) (aheadP n b Bc A Lb j):=bytesR.imp (bytesR.keep HST.out.2.2.2.1 fun q hq=>HX8.out.2.2.2.2.block q hq.2) fun q hq=>(show q<W8.heap.size by have:=HX8.out.2.2.2.2.size;have:=hq.2;omega)
          have hus8:Bytes W8.heap.size W8 (.slice uA n uc) (D[dgn]?.getD []):=(hmu.below (below_in HST.out.2.2.1 HX8.out.2.2.2.2)).more (by have:=(below_in HST.out.2.2.1 HX8.out.2.2.2.2).size;exact this)
          have HUP:=Lib.hid (fun (g:Nat) (V:World) (hV:Below W8.heap.size W8 V) (bE:Blk V g 64 #[.slice tA n tc,.slice uA n uc])=>pUpon_any (B:=V.heap.size) (.slice (some ⟨g,0,none⟩) 2 2) [aheadP n b Bc A Lb j,D[dgn]?.getD []] V (Nat.le_refl _) (many2 bE ((hbt8.below hV).more hV.size) ((hus8.below hV).more hV.size) bE.lt) (by simp) (xor_two HN1.out.1 HN1.out.2 HX8.out.2.1 HX8.out.1))
          have HSS:Hid (∀ V,Below W8.heap.size W8 V→(fun U:World=>U.cell? ⟨g4,0,none⟩=some (.func (.func 122) #[.agg #[.int .i64 2,.int .i64 (P:Int),.slice (some ⟨gl,0,none⟩) 2 2,.slice (some ⟨gr,orr,none⟩) Q k1,.slice (some ⟨gd,od,none⟩) Q k2,.slice nA n nc]] #[])∧U.cell? ⟨g9,0,none⟩=some (.int .i64 c)∧U.cell? ⟨g9,1,none⟩=some (.int .i64 (rn:Int))) V):=fun V hV=>by
           have hV2:=below_in HX8.out.2.2.2.2 hV
           have hk4:V.heap[g4]?=W2.heap[g4]?:=(hV2.block g4 (by have:=HST.out.2.1.1;have:=HG4.out.2.1;omega)).trans (HST.out.2.1.2 g4 HG4.out.2.1 HG4.out.2.2.1 HG4.out.2.2.2)
           have b4:Blk V g4 162 #[.func (.func 122) #[.agg #[.int .i64 2,.int .i64 (P:Int),.slice (some ⟨gl,0,none⟩) 2 2,.slice (some ⟨gr,orr,none⟩) Q k1,.slice (some ⟨gd,od,none⟩) Q k2,.slice nA n nc]] #[],.func (.func 123) #[.agg #[.int .i64 2,.int .i64 (P:Int),.slice (some ⟨gl,0,none⟩) 2 2,.slice (some ⟨gr,orr,none⟩) Q k1,.slice (some ⟨gd,od,none⟩) Q k2,.slice nA n nc]] #[]]:=hk4.trans HG4.out.1
           exact ⟨b4.cell 0,(b9.below hV b9.lt).cell 0,(b9.below hV b9.lt).cell 1⟩
          have hBx:=hBx0.drew
          have hS:(fun U:World=>U.cell? ⟨g4,0,none⟩=some (.func (.func 122) #[.agg #[.int .i64 2,.int .i64 (P:Int),.slice (some ⟨gl,0,none⟩) 2 2,.slice (some ⟨gr,orr,none⟩) Q k1,.slice (some ⟨gd,od,none⟩) Q k2,.slice nA n nc]] #[])∧U.cell? ⟨g9,0,none⟩=some (.int .i64 c)∧U.cell? ⟨g9,1,none⟩=some (.int .i64 (rn:Int))) W8.drew:=HSS.out _ hBx
          clear hbt8 hus8 hmu hud hgd hsf hBx0
          refine (wpIn_wide (n:=9)).1 ?_
          refine wpIn_mono (region_HF (Q:=NoPanic _) (S:=(fun U:World=>U.cell? ⟨g4,0,none⟩=some (.func (.func 122) #[.agg #[.int .i64 2,.int .i64 (P:Int),.slice (some ⟨gl,0,none⟩) 2 2,.slice (some ⟨gr,orr,none⟩) Q k1,.slice (some ⟨gd,od,none⟩) Q k2,.slice nA n nc]] #[])∧U.cell? ⟨g9,0,none⟩=some (.int .i64 c)∧U.cell? ⟨g9,1,none⟩=some (.int .i64 (rn:Int)))) (by kernel_rfl) ?_) NoPanic.imp
          refine tkF (i:=0) (d:=33) (v:=.slice tA n tc) (s:=hS) (c:=?_)
          simp only [ud9]
          refine tkF (i:=1) (d:=34) (v:=.int .i64 (j:Int)) (s:=hS) (c:=?_)
          simp only [ud9]
          refine tkF (i:=2) (d:=35) (v:=.int .i64 0) (s:=hS) (c:=?_)
          simp only [ud9]
          refine tkF (i:=3) (d:=36) (v:=.pointer (some ⟨g4,0,none⟩)) (s:=hS) (c:=?_)
          simp only [ud9]
          refine tkF (i:=4) (d:=37) (v:=.func (.func 122) #[.agg #[.int .i64 2,.int .i64 (P:Int),.slice (some ⟨gl,0,none⟩) 2 2,.slice (some ⟨gr,orr,none⟩) Q k1,.slice (some ⟨gd,od,none⟩) Q k2,.slice nA n nc]] #[]) (s:=hS) (c:=?_)
          simp only [ud9]
          refine tkF (i:=5) (d:=38) (v:=.agg #[.int .i64 c,.int .i64 (rn:Int)]) (s:=hS) (c:=?_)
          simp only [ud9]
          refine oneF (i:=6) (c:=?_)
          gi_wp2_with fail
          refine ⟨trivial,(callsIn_wide.2 (HSH.out _ hBx)).mono ?_⟩
          rintro e v21 ⟨rfl,hB⟩
          replace hBx:=below_in hBx hB
          clear hS
          have hS:(fun U:World=>U.cell? ⟨g4,0,none⟩=some (.func (.func 122) #[.agg #[.int .i64 2,.int .i64 (P:Int),.slice (some ⟨gl,0,none⟩) 2 2,.slice (some ⟨gr,orr,none⟩) Q k1,.slice (some ⟨gd,od,none⟩) Q k2,.slice nA n nc]] #[])∧U.cell? ⟨g9,0,none⟩=some (.int .i64 c)∧U.cell? ⟨g9,1,none⟩=some (.int .i64 (rn:Int))) v21:=HSS.out _ hBx
          clear hB
          gi_wp2
          try (refine ⟨hS,?_⟩)
          refine oneF (i:=7) (c:=?_)
          have hgl_g23:=hBx.size
          have hB:Below v21.heap.size v21 (v21.alloc (.cells #[.slice tA n tc,.slice uA n uc] 64)):=below_one v21 _
          have bE:Blk (v21.alloc (.cells #[.slice tA n tc,.slice uA n uc] 64)) v21.heap.size 64 #[.slice tA n tc,.slice uA n uc]:=Blk.new v21 _ _
          obtain ⟨v22,he_v22⟩:∃ x,(v21.alloc (.cells #[.slice tA n tc,.slice uA n uc] 64))=x:=⟨_,rfl⟩
          obtain ⟨g23,hg_g23⟩:∃ x,v21.heap.size=x:=⟨_,rfl⟩
          rw [he_v22] at hB bE
          rw [hg_g23] at bE
          replace hBx:=below_in hBx hB
          clear hS
          have hS:(fun U:World=>U.cell? ⟨g4,0,none⟩=some (.func (.func 122) #[.agg #[.int .i64 2,.int .i64 (P:Int),.slice (some ⟨gl,0,none⟩) 2 2,.slice (some ⟨gr,orr,none⟩) Q k1,.slice (some ⟨gd,od,none⟩) Q k2,.slice nA n nc]] #[])∧U.cell? ⟨g9,0,none⟩=some (.int .i64 c)∧U.cell? ⟨g9,1,none⟩=some (.int .i64 (rn:Int))) v22:=HSS.out _ hBx
          gi_wp2
          (try rw [hg_g23]);(try rw [he_v22])
          try (refine ⟨hS,?_⟩)
          clear hB he_v22 hg_g23
          refine oneF (i:=8) (c:=?_)
          have HZE:=Lib.hid hBx.size
          gi_wp2_with fail
          refine ⟨trivial,(callsIn_wide.2 (HUP.out g23 _ hBx bE)).mono ?_⟩
          rintro e v24 ⟨uj,rfl,hFu,hB⟩
          obtain ⟨aJ,cJ,rfl,_⟩:=id hFu
          rw [HJL.out] at hFu ⊢
          replace bE:=bE.below hB bE.lt
          replace hBx:=below_in hBx hB
          clear hS
          have hS:(fun U:World=>U.cell? ⟨g4,0,none⟩=some (.func (.func 122) #[.agg #[.int .i64 2,.int .i64 (P:Int),.slice (some ⟨gl,0,none⟩) 2 2,.slice (some ⟨gr,orr,none⟩) Q k1,.slice (some ⟨gd,od,none⟩) Q k2,.slice nA n nc]] #[])∧U.cell? ⟨g9,0,none⟩=some (.int .i64 c)∧U.cell? ⟨g9,1,none⟩=some (.int .i64 (rn:Int))) v24:=HSS.out _ hBx
          clear hB
          gi_wp2
          try (refine ⟨hS,?_⟩)
          refine oneF (i:=9) (c:=?_)
          gi_wp2
          refine anyHF_done (by kernel_rfl) ?_ _
          refine NoPanic.normal ?_
          clear hS
          have hBw:=below_in HX8.out.2.2.2.2 hBx
          have hflV:=HST.out.1.below hBw
          have hkpV:=HST.out.2.1.below hBw
          have hbwV:=below_in HST.out.2.2.1 hBw
          obtain ⟨⟨old,hold⟩,hfz⟩:=hflV.old HST.out.2.2.2.2.2.1 HST.out.2.2.2.2.2.2
          have z9:=b9.below hBx b9.lt
          have hFb:BytesP (fun q=>W2.heap.size≤q∧q<v24.heap.size) v24 (.slice aJ n cJ) (cellF a A Bc (c,(rn:Int))):=by
           have h1:=Fresh.toP2 (B:=0) hFu
           rw [HX8.out.2.2.1] at h1
           exact bytesR.imp h1 fun q hq=>⟨by have:=hq.1;have:=HST.out.2.1.1;have:=HX8.out.2.2.2.2.size;have:=HZE.out;omega,hq.2⟩
          have HHE:=Lib.hid (fun (V:World) (hV:Below v24.heap.size v24 V)=>HEL.out c gq HST.out.2.2.2.2.1 V (hkpV.below hV))
          have hent2:=enter_held
          have hBy:=Below.refl v24.heap.size v24
          have hS:(fun U:World=>U.cell? ⟨g9,0,none⟩=some (.int .i64 c)∧U.cell? ⟨g9,1,none⟩=some (.int .i64 (rn:Int))) v24.drew:=⟨(z9.below hBy.drew z9.lt).cell 0,(z9.below hBy.drew z9.lt).cell 1⟩
          have HFL:=Lib.hid (And.intro hflV (And.intro hkpV (And.intro hbwV hFb)))
          clear hflV hkpV hbwV hFb hBx hBw z9 hFu
          go_wp2_with fail
          refine (wpIn_wide (n:=9)).1 ?_
          refine wpIn_mono (region_HG (Q:=NoPanic _) (S:=(fun U:World=>U.cell? ⟨g9,0,none⟩=some (.int .i64 c)∧U.cell? ⟨g9,1,none⟩=some (.int .i64 (rn:Int)))) (m:=8) (by kernel_rfl) ?_) NoPanic.imp
          refine anyHG_take (i:=0) (d:=42) (v:=.func (.func 178) #[] #[.pointer (some ⟨g3,0,none⟩)]) (by kernel_rfl) rfl (by kernel_rfl) (by kernel_rfl) (by kernel_rfl) rfl (by kernel_rfl) (fun _ _ _ h=>h) ⟨Or.inl ⟨by rfl,fun w hS=>by obtain ⟨h0,h1⟩:=hS;go_simp⟩,fun _=>rfl⟩ hS ?_
          simp only [ud9]
          refine anyHG_take (i:=1) (d:=43) (v:=.pointer (some ⟨g9,0,none⟩)) (by kernel_rfl) rfl (by kernel_rfl) (by kernel_rfl) (by kernel_rfl) rfl (by kernel_rfl) (fun _ _ _ h=>h) ⟨Or.inl ⟨by rfl,fun w hS=>by obtain ⟨h0,h1⟩:=hS;go_simp⟩,fun _=>rfl⟩ hS ?_
          simp only [ud9]
          refine anyHG_take (i:=2) (d:=44) (v:=.int .i64 c) (by kernel_rfl) rfl (by kernel_rfl) (by kernel_rfl) (by kernel_rfl) rfl (by kernel_rfl) (fun _ _ _ h=>h) ⟨Or.inl ⟨by rfl,fun w hS=>by obtain ⟨h0,h1⟩:=hS;go_simp⟩,fun _=>rfl⟩ hS ?_
          simp only [ud9]
          refine anyHG_take (i:=4) (d:=46) (v:=.pointer (some ⟨g9,1,none⟩)) (by kernel_rfl) rfl (by kernel_rfl) (by kernel_rfl) (by kernel_rfl) rfl (by kernel_rfl) (fun _ _ _ h=>h) ⟨Or.inl ⟨by rfl,fun w hS=>by obtain ⟨h0,h1⟩:=hS;go_simp⟩,fun _=>rfl⟩ hS ?_
          simp only [ud9]
          refine anyHG_take (i:=5) (d:=47) (v:=.int .i64 (rn:Int)) (by kernel_rfl) rfl (by kernel_rfl) (by kernel_rfl) (by kernel_rfl) rfl (by kernel_rfl) (fun _ _ _ h=>h) ⟨Or.inl ⟨by rfl,fun w hS=>by obtain ⟨h0,h1⟩:=hS;go_simp⟩,fun _=>rfl⟩ hS ?_
          simp only [ud9]
          refine anyHG_take (i:=6) (d:=48) (v:=.slice aJ n cJ) (by kernel_rfl) rfl (by kernel_rfl) (by kernel_rfl) (by kernel_rfl) rfl (by kernel_rfl) (fun _ _ _ h=>h) ⟨Or.inl ⟨by rfl,fun w hS=>by obtain ⟨h0,h1⟩:=hS;go_simp⟩,fun _=>rfl⟩ hS ?_
          simp only [ud9]
          refine anyHG_one (i:=3) (by kernel_rfl) rfl (by kernel_rfl) (by rfl) ?_
          gi_wp2_with fail
          refine ⟨trivial,(callsIn_wide.2 (HHE.out _ hBy.drew)).mono ?_⟩
          rintro e w7' ⟨rfl,rfl⟩
          gi_wp2
          try (refine ⟨.inr hS,?_⟩)
          refine anyHG_take (i:=7) (d:=49) (v:=.pointer (some ⟨gq,rn,none⟩)) (by kernel_rfl) rfl (by kernel_rfl) (by kernel_rfl) (by kernel_rfl) rfl (by kernel_rfl) (fun _ _ _ h=>h) ⟨Or.inl ⟨by rfl,fun w hS=>by obtain ⟨h0,h1⟩:=hS;go_simp⟩,fun _=>rfl⟩ hS ?_
          simp only [ud9]
          refine anyHG_one (i:=8) (by kernel_rfl) rfl (by kernel_rfl) (by rfl) ?_
          obtain ⟨h0,h1⟩:=hS
          gi_wp2
          refine anyHG_done (by kernel_rfl) ?_ _
          refine NoPanic.normal ?_
          clear h0 h1
          go_wp2_with fail
          go_roundw
          case rel =>
           have hP:=FillG.put HFL.out.1 HAB.out HG7.out.1 HG7.out.2.1 HG7.out.2.2 HST.out.2.2.2.2.1 HST.out.2.2.2.2.2.2 HFL.out.2.2.2
           have hqW:gq<W2.heap.size:=by have h1:=HG7.out.2;rcases HST.out.2.2.2.2.2.1 with e | e <;> omega
           have hqw0:w0.heap.size≤gq:=by have h1:=HG0W.out;rcases HST.out.2.2.2.2.2.1 with e | e <;> omega
           have hDr:=(Below.refl (v24.setCell ⟨gq,rn,none⟩ (.slice aJ n cJ)).heap.size (v24.setCell ⟨gq,rn,none⟩ (.slice aJ n cJ))).drew
           refine ⟨j+1,by omega,by go_num,⟨aJ,cJ,rfl,?_⟩,by rw [HNX.out];exact hP.below hDr,(HFL.out.2.1.put HST.out.2.2.2.2.2.1).below hDr,(HFL.out.2.2.1.setCell (p:=⟨gq,rn,none⟩) hqw0 _).drew⟩
           rw [HAH.out]
           exact bytesR.imp (bytesR.keep HFL.out.2.2.2 fun q hq=>Below.heap_setCell v24 ⟨gq,rn,none⟩ _ q (by show q≠gq;have:=hq.1;omega)) fun q hq=>⟨.inr hq.1,by simpa using hq.2⟩
          case measure=>simp [intOf];omega
        · have hrem:Int.tmod (j:Int) 2=1:=by rw [Int.tmod_eq_emod_of_nonneg (by omega)];omega
          have hsf:shareF P Q n R D j (c,(rn:Int))=R[rn]?.getD []:=by unfold shareF;rw [if_neg (by omega)];simp
          obtain ⟨uA,uc,hgd,hud,hmu⟩:=HRC.out rn HST.out.2.2.2.2.2.2
          have HSH:=Lib.hid (fun (V:World) (hV:Below W8.heap.size W8 V)=>inRow_any (.slice (some ⟨gd,od,none⟩) Q k2) (.slice nA n nc) (P:Int) (some ⟨gl,0,none⟩) 2 2 gr orr Q k1 c rn HST.out.2.2.2.2.2.2 (by have:=HQP.out;omega) V (by have h1:=(below_in HST.out.2.2.1 (below_in HX8.out.2.2.2.2 hV)).size;omega) uA n uc ((below_in HST.out.2.2.1 (below_in HX8.out.2.2.2.2 hV)).cell (p:=⟨gr,orr+rn,none⟩) hgd |>.trans hud))
          have hent:=enter_IR
          rw [hsf] at HX8
          have HJL:Hid ((xorOf [aheadP n b Bc A Lb j,R[rn]?.getD []]).length=n):=by unfold Hid;rw [xorOf_len];exact HX8.out.2.1
          have hbt8:Bytes W8.heap.size W8 (.slice tA n tc) (aheadP n b Bc A Lb j):=bytesR.imp (bytesR.keep HST.out.2.2.2.1 fun q hq=>HX8.out.2.2.2.2.block q hq.2) fun q hq=>(show q<W8.heap.size by have:=HX8.out.2.2.2.2.size;have:=hq.2;omega)
          have hus8:Bytes W8.heap.size W8 (.slice uA n uc) (R[rn]?.getD []):=(hmu.below (below_in HST.out.2.2.1 HX8.out.2.2.2.2)).more (by have:=(below_in HST.out.2.2.1 HX8.out.2.2.2.2).size;exact this)
          have HUP:=Lib.hid (fun (g:Nat) (V:World) (hV:Below W8.heap.size W8 V) (bE:Blk V g 64 #[.slice tA n tc,.slice uA n uc])=>pUpon_any (B:=V.heap.size) (.slice (some ⟨g,0,none⟩) 2 2) [aheadP n b Bc A Lb j,R[rn]?.getD []] V (Nat.le_refl _) (many2 bE ((hbt8.below hV).more hV.size) ((hus8.below hV).more hV.size) bE.lt) (by simp) (xor_two HN1.out.1 HN1.out.2 HX8.out.2.1 HX8.out.1))
          have HSS:Hid (∀ V,Below W8.heap.size W8 V→(fun U:World=>U.cell? ⟨g4,1,none⟩=some (.func (.func 123) #[.agg #[.int .i64 2,.int .i64 (P:Int),.slice (some ⟨gl,0,none⟩) 2 2,.slice (some ⟨gr,orr,none⟩) Q k1,.slice (some ⟨gd,od,none⟩) Q k2,.slice nA n nc]] #[])∧U.cell? ⟨g9,0,none⟩=some (.int .i64 c)∧U.cell? ⟨g9,1,none⟩=some (.int .i64 (rn:Int))) V):=fun V hV=>by
           have hV2:=below_in HX8.out.2.2.2.2 hV
           have hk4:V.heap[g4]?=W2.heap[g4]?:=(hV2.block g4 (by have:=HST.out.2.1.1;have:=HG4.out.2.1;omega)).trans (HST.out.2.1.2 g4 HG4.out.2.1 HG4.out.2.2.1 HG4.out.2.2.2)
           have b4:Blk V g4 162 #[.func (.func 122) #[.agg #[.int .i64 2,.int .i64 (P:Int),.slice (some ⟨gl,0,none⟩) 2 2,.slice (some ⟨gr,orr,none⟩) Q k1,.slice (some ⟨gd,od,none⟩) Q k2,.slice nA n nc]] #[],.func (.func 123) #[.agg #[.int .i64 2,.int .i64 (P:Int),.slice (some ⟨gl,0,none⟩) 2 2,.slice (some ⟨gr,orr,none⟩) Q k1,.slice (some ⟨gd,od,none⟩) Q k2,.slice nA n nc]] #[]]:=hk4.trans HG4.out.1
           exact ⟨b4.cell 1,(b9.below hV b9.lt).cell 0,(b9.below hV b9.lt).cell 1⟩
          have hBx:=hBx0.drew
          have hS:(fun U:World=>U.cell? ⟨g4,1,none⟩=some (.func (.func 123) #[.agg #[.int .i64 2,.int .i64 (P:Int),.slice (some ⟨gl,0,none⟩) 2 2,.slice (some ⟨gr,orr,none⟩) Q k1,.slice (some ⟨gd,od,none⟩) Q k2,.slice nA n nc]] #[])∧U.cell? ⟨g9,0,none⟩=some (.int .i64 c)∧U.cell? ⟨g9,1,none⟩=some (.int .i64 (rn:Int))) W8.drew:=HSS.out _ hBx
          clear hbt8 hus8 hmu hud hgd hsf hBx0
          refine (wpIn_wide (n:=9)).1 ?_
          refine wpIn_mono (region_HF (Q:=NoPanic _) (S:=(fun U:World=>U.cell? ⟨g4,1,none⟩=some (.func (.func 123) #[.agg #[.int .i64 2,.int .i64 (P:Int),.slice (some ⟨gl,0,none⟩) 2 2,.slice (some ⟨gr,orr,none⟩) Q k1,.slice (some ⟨gd,od,none⟩) Q k2,.slice nA n nc]] #[])∧U.cell? ⟨g9,0,none⟩=some (.int .i64 c)∧U.cell? ⟨g9,1,none⟩=some (.int .i64 (rn:Int)))) (by kernel_rfl) ?_) NoPanic.imp
          refine tkF (i:=0) (d:=33) (v:=.slice tA n tc) (s:=hS) (c:=?_)
          simp only [ud9]
          refine tkF (i:=1) (d:=34) (v:=.int .i64 (j:Int)) (s:=hS) (c:=?_)
          simp only [ud9]
          refine tkF (i:=2) (d:=35) (v:=.int .i64 1) (s:=hS) (c:=?_)
          simp only [ud9]
          refine tkF (i:=3) (d:=36) (v:=.pointer (some ⟨g4,1,none⟩)) (s:=hS) (c:=?_)
          simp only [ud9]
          refine tkF (i:=4) (d:=37) (v:=.func (.func 123) #[.agg #[.int .i64 2,.int .i64 (P:Int),.slice (some ⟨gl,0,none⟩) 2 2,.slice (some ⟨gr,orr,none⟩) Q k1,.slice (some ⟨gd,od,none⟩) Q k2,.slice nA n nc]] #[]) (s:=hS) (c:=?_)
          simp only [ud9]
          refine tkF (i:=5) (d:=38) (v:=.agg #[.int .i64 c,.int .i64 (rn:Int)]) (s:=hS) (c:=?_)
          simp only [ud9]
          refine oneF (i:=6) (c:=?_)
          gi_wp2_with fail
          refine ⟨trivial,(callsIn_wide.2 (HSH.out _ hBx)).mono ?_⟩
          rintro e v21 ⟨rfl,hB⟩
          replace hBx:=below_in hBx hB
          clear hS
          have hS:(fun U:World=>U.cell? ⟨g4,1,none⟩=some (.func (.func 123) #[.agg #[.int .i64 2,.int .i64 (P:Int),.slice (some ⟨gl,0,none⟩) 2 2,.slice (some ⟨gr,orr,none⟩) Q k1,.slice (some ⟨gd,od,none⟩) Q k2,.slice nA n nc]] #[])∧U.cell? ⟨g9,0,none⟩=some (.int .i64 c)∧U.cell? ⟨g9,1,none⟩=some (.int .i64 (rn:Int))) v21:=HSS.out _ hBx
          clear hB
          gi_wp2
          try (refine ⟨hS,?_⟩)
          refine oneF (i:=7) (c:=?_)
          have hgl_g23:=hBx.size
          have hB:Below v21.heap.size v21 (v21.alloc (.cells #[.slice tA n tc,.slice uA n uc] 64)):=below_one v21 _
          have bE:Blk (v21.alloc (.cells #[.slice tA n tc,.slice uA n uc] 64)) v21.heap.size 64 #[.slice tA n tc,.slice uA n uc]:=Blk.new v21 _ _
          obtain ⟨v22,he_v22⟩:∃ x,(v21.alloc (.cells #[.slice tA n tc,.slice uA n uc] 64))=x:=⟨_,rfl⟩
          obtain ⟨g23,hg_g23⟩:∃ x,v21.heap.size=x:=⟨_,rfl⟩
          rw [he_v22] at hB bE
          rw [hg_g23] at bE
          replace hBx:=below_in hBx hB
          clear hS
          have hS:(fun U:World=>U.cell? ⟨g4,1,none⟩=some (.func (.func 123) #[.agg #[.int .i64 2,.int .i64 (P:Int),.slice (some ⟨gl,0,none⟩) 2 2,.slice (some ⟨gr,orr,none⟩) Q k1,.slice (some ⟨gd,od,none⟩) Q k2,.slice nA n nc]] #[])∧U.cell? ⟨g9,0,none⟩=some (.int .i64 c)∧U.cell? ⟨g9,1,none⟩=some (.int .i64 (rn:Int))) v22:=HSS.out _ hBx
          gi_wp2
          (try rw [hg_g23]);(try rw [he_v22])
          try (refine ⟨hS,?_⟩)
          clear hB he_v22 hg_g23
          refine oneF (i:=8) (c:=?_)
          have HZE:=Lib.hid hBx.size
          gi_wp2_with fail
          refine ⟨trivial,(callsIn_wide.2 (HUP.out g23 _ hBx bE)).mono ?_⟩
          rintro e v24 ⟨uj,rfl,hFu,hB⟩
          obtain ⟨aJ,cJ,rfl,_⟩:=id hFu
          rw [HJL.out] at hFu ⊢
          replace bE:=bE.below hB bE.lt
          replace hBx:=below_in hBx hB
          clear hS
          have hS:(fun U:World=>U.cell? ⟨g4,1,none⟩=some (.func (.func 123) #[.agg #[.int .i64 2,.int .i64 (P:Int),.slice (some ⟨gl,0,none⟩) 2 2,.slice (some ⟨gr,orr,none⟩) Q k1,.slice (some ⟨gd,od,none⟩) Q k2,.slice nA n nc]] #[])∧U.cell? ⟨g9,0,none⟩=some (.int .i64 c)∧U.cell? ⟨g9,1,none⟩=some (.int .i64 (rn:Int))) v24:=HSS.out _ hBx
          clear hB
          gi_wp2
          try (refine ⟨hS,?_⟩)
          refine oneF (i:=9) (c:=?_)
          gi_wp2
          refine anyHF_done (by kernel_rfl) ?_ _
          refine NoPanic.normal ?_
          clear hS
          have hBw:=below_in HX8.out.2.2.2.2 hBx
          have hflV:=HST.out.1.below hBw
          have hkpV:=HST.out.2.1.below hBw
          have hbwV:=below_in HST.out.2.2.1 hBw
          obtain ⟨⟨old,hold⟩,hfz⟩:=hflV.old HST.out.2.2.2.2.2.1 HST.out.2.2.2.2.2.2
          have z9:=b9.below hBx b9.lt
          have hFb:BytesP (fun q=>W2.heap.size≤q∧q<v24.heap.size) v24 (.slice aJ n cJ) (cellF a A Bc (c,(rn:Int))):=by
           have h1:=Fresh.toP2 (B:=0) hFu
           rw [HX8.out.2.2.1] at h1
           exact bytesR.imp h1 fun q hq=>⟨by have:=hq.1;have:=HST.out.2.1.1;have:=HX8.out.2.2.2.2.size;have:=HZE.out;omega,hq.2⟩
          have HHE:=Lib.hid (fun (V:World) (hV:Below v24.heap.size v24 V)=>HEL.out c gq HST.out.2.2.2.2.1 V (hkpV.below hV))
          have hent2:=enter_held
          have hBy:=Below.refl v24.heap.size v24
          have hS:(fun U:World=>U.cell? ⟨g9,0,none⟩=some (.int .i64 c)∧U.cell? ⟨g9,1,none⟩=some (.int .i64 (rn:Int))) v24.drew:=⟨(z9.below hBy.drew z9.lt).cell 0,(z9.below hBy.drew z9.lt).cell 1⟩
          have HFL:=Lib.hid (And.intro hflV (And.intro hkpV (And.intro hbwV hFb)))
          clear hflV hkpV hbwV hFb hBx hBw z9 hFu
          go_wp2_with fail
          refine (wpIn_wide (n:=9)).1 ?_
          refine wpIn_mono (region_HG (Q:=NoPanic _) (S:=(fun U:World=>U.cell? ⟨g9,0,none⟩=some (.int .i64 c)∧U.cell? ⟨g9,1,none⟩=some (.int .i64 (rn:Int)))) (m:=8) (by kernel_rfl) ?_) NoPanic.imp
          refine anyHG_take (i:=0) (d:=42) (v:=.func (.func 178) #[] #[.pointer (some ⟨g3,0,none⟩)]) (by kernel_rfl) rfl (by kernel_rfl) (by kernel_rfl) (by kernel_rfl) rfl (by kernel_rfl) (fun _ _ _ h=>h) ⟨Or.inl ⟨by rfl,fun w hS=>by obtain ⟨h0,h1⟩:=hS;go_simp⟩,fun _=>rfl⟩ hS ?_
          simp only [ud9]
          refine anyHG_take (i:=1) (d:=43) (v:=.pointer (some ⟨g9,0,none⟩)) (by kernel_rfl) rfl (by kernel_rfl) (by kernel_rfl) (by kernel_rfl) rfl (by kernel_rfl) (fun _ _ _ h=>h) ⟨Or.inl ⟨by rfl,fun w hS=>by obtain ⟨h0,h1⟩:=hS;go_simp⟩,fun _=>rfl⟩ hS ?_
          simp only [ud9]
          refine anyHG_take (i:=2) (d:=44) (v:=.int .i64 c) (by kernel_rfl) rfl (by kernel_rfl) (by kernel_rfl) (by kernel_rfl) rfl (by kernel_rfl) (fun _ _ _ h=>h) ⟨Or.inl ⟨by rfl,fun w hS=>by obtain ⟨h0,h1⟩:=hS;go_simp⟩,fun _=>rfl⟩ hS ?_
          simp only [ud9]
          refine anyHG_take (i:=4) (d:=46) (v:=.pointer (some ⟨g9,1,none⟩)) (by kernel_rfl) rfl (by kernel_rfl) (by kernel_rfl) (by kernel_rfl) rfl (by kernel_rfl) (fun _ _ _ h=>h) ⟨Or.inl ⟨by rfl,fun w hS=>by obtain ⟨h0,h1⟩:=hS;go_simp⟩,fun _=>rfl⟩ hS ?_
          simp only [ud9]
          refine anyHG_take (i:=5) (d:=47) (v:=.int .i64 (rn:Int)) (by kernel_rfl) rfl (by kernel_rfl) (by kernel_rfl) (by kernel_rfl) rfl (by kernel_rfl) (fun _ _ _ h=>h) ⟨Or.inl ⟨by rfl,fun w hS=>by obtain ⟨h0,h1⟩:=hS;go_simp⟩,fun _=>rfl⟩ hS ?_
          simp only [ud9]
          refine anyHG_take (i:=6) (d:=48) (v:=.slice aJ n cJ) (by kernel_rfl) rfl (by kernel_rfl) (by kernel_rfl) (by kernel_rfl) rfl (by kernel_rfl) (fun _ _ _ h=>h) ⟨Or.inl ⟨by rfl,fun w hS=>by obtain ⟨h0,h1⟩:=hS;go_simp⟩,fun _=>rfl⟩ hS ?_
          simp only [ud9]
          refine anyHG_one (i:=3) (by kernel_rfl) rfl (by kernel_rfl) (by rfl) ?_
          gi_wp2_with fail
          refine ⟨trivial,(callsIn_wide.2 (HHE.out _ hBy.drew)).mono ?_⟩
          rintro e w7' ⟨rfl,rfl⟩
          gi_wp2
          try (refine ⟨.inr hS,?_⟩)
          refine anyHG_take (i:=7) (d:=49) (v:=.pointer (some ⟨gq,rn,none⟩)) (by kernel_rfl) rfl (by kernel_rfl) (by kernel_rfl) (by kernel_rfl) rfl (by kernel_rfl) (fun _ _ _ h=>h) ⟨Or.inl ⟨by rfl,fun w hS=>by obtain ⟨h0,h1⟩:=hS;go_simp⟩,fun _=>rfl⟩ hS ?_
          simp only [ud9]
          refine anyHG_one (i:=8) (by kernel_rfl) rfl (by kernel_rfl) (by rfl) ?_
          obtain ⟨h0,h1⟩:=hS
          gi_wp2
          refine anyHG_done (by kernel_rfl) ?_ _
          refine NoPanic.normal ?_
          clear h0 h1
          go_wp2_with fail
          go_roundw
          case rel =>
           have hP:=FillG.put HFL.out.1 HAB.out HG7.out.1 HG7.out.2.1 HG7.out.2.2 HST.out.2.2.2.2.1 HST.out.2.2.2.2.2.2 HFL.out.2.2.2
           have hqW:gq<W2.heap.size:=by have h1:=HG7.out.2;rcases HST.out.2.2.2.2.2.1 with e | e <;> omega
           have hqw0:w0.heap.size≤gq:=by have h1:=HG0W.out;rcases HST.out.2.2.2.2.2.1 with e | e <;> omega
           have hDr:=(Below.refl (v24.setCell ⟨gq,rn,none⟩ (.slice aJ n cJ)).heap.size (v24.setCell ⟨gq,rn,none⟩ (.slice aJ n cJ))).drew
           refine ⟨j+1,by omega,by go_num,⟨aJ,cJ,rfl,?_⟩,by rw [HNX.out];exact hP.below hDr,(HFL.out.2.1.put HST.out.2.2.2.2.2.1).below hDr,(HFL.out.2.2.1.setCell (p:=⟨gq,rn,none⟩) hqw0 _).drew⟩
           rw [HAH.out]
           exact bytesR.imp (bytesR.keep HFL.out.2.2.2 fun q hq=>Below.heap_setCell v24 ⟨gq,rn,none⟩ _ q (by show q≠gq;have:=hq.1;omega)) fun q hq=>⟨.inr hq.1,by simpa using hq.2⟩
          case measure=>simp [intOf];omega
      · obtain rfl:j=n2:=by omega
        have hdec:decide ((j:Int)<(j:Int))=false:=by simp
        rw [show Lb.take j=Lb from List.take_of_length_le (by rw [HLN1.out];exact Nat.le_refl _)] at hfl
        clear hbt
        go_wp2_with fail
        go_roundw
        case rel=>exact ⟨2,.inr (.inr ⟨rfl,by go_num⟩),by exact hfl,hkp,hbw⟩
        case measure=>simp [intOf]
   · have hS:=HSS.out _ hbw
     obtain ⟨h0,h1,h2,h3,h4,h5⟩:=hS
     have hmm:=hfl.many HQP2.out.1 HQP2.out.2 (fun r hr=>HCV.out r hr)
     have hm3:=HM3.out wr hkp
     go_wp2_with fail
     refine (values_any _ _ _ _).mono ?_
     rintro e w5 ⟨rfl,hw5⟩
     have hB5:Below wr.heap.size wr w5:=by rw [←hw5];exact below_one wr _
     have b5:Blk w5 wr.heap.size 45 #[.slice (some ⟨gl,0,none⟩) 2 2]:=by rw [←hw5];exact Blk.new wr _ _
     have hbw5:=below_in hbw hB5
     have HGI:=Lib.hid (pGatherI_any (Q:=Q) a b HAB.out wr.heap.size gl g3 gm ga gb A Bc w5 b5.lt (Nat.lt_of_lt_of_le HGL.out.1 hbw5.size) b5.one ((hbw5.cell (p:=⟨gl,0,none⟩) HGL.out.1).trans HGL.out.2.1) ((hbw5.cell (p:=⟨gl,1,none⟩) HGL.out.1).trans HGL.out.2.2) (hm3.1.below hB5 hm3.1.lt) (hm3.2.below hB5 hm3.2.lt) ((hmm.1.below hB5).more hB5.size) ((hmm.2.below hB5).more hB5.size))
     have HB5:=Lib.hid (below_in HB0.out hbw5)
     clear hmm hm3 hB5 hbw5 b5 hw5 hfl hkp hbw
     go_wp2_with fail
     refine HGI.out.mono ?_
     rintro e w6 ⟨gC,kk,rfl,hcols,hB6⟩
     go_wp2_with fail
     go_ret
     exact ⟨gC,kk,rfl,hcols,below_in HB5.out hB6⟩
end Go.Proofs.YtcchjofjpflbhaaGreatDoor.T

set_option linter.unusedVariables false
set_option linter.unusedSimpArgs false
set_option maxRecDepth 100000
set_option maxHeartbeats 8000000
namespace Go.Proofs.YtcchjofjpflbhaaGreatDoor.T
open Go.RowKit Go.Shelf Go.Maps Go.Proofs.YtcchjofjpflbhaaGreatDoor.C Go.Proofs.YtcchjofjpflbhaaGreatDoor.E Go.Proofs.YtcchjofjpflbhaaGreatDoor.Ch
attribute [local go_sem] Oper.semAt_some

theorem enter_pRecover1:∀ args W,(callFunc 60 args).run Tryz.prog W = .ok (.enter 60 args) W:=enters_of Tryz.func60 (by kernel_rfl) rfl
theorem ptwo {V:World} {g:Nat} {a b:Int} (h:Blk V g 3 #[.int .i64 a,.int .i64 b]):∀ j,j < [a,b].length→V.cell? ⟨g,j,none⟩=some (.int .i64 ([a,b][j]?.getD 0)):=by
 intro j hj
 have hj2:j=0∨j=1:=by simp at hj;omega
 rcases hj2 with rfl | rfl
 · exact h.cell 0
 · exact h.cell 1
theorem pRecover_yes {B P Q n:Nat} (d:Rg.Dims P Q n) (a b:Int) (ha:0≤a) (hab:a<b) (hb:b<(P:Int)) (css:List (List (List UInt8))) (N:Nat) (hcl:css.length=N) (hN:N=P+1) (hgood:∀ i,i<css.length→(i:Int)∉[a,b]→GoodC Q n (css[i]?.getD [])) (vA:Option Addr) (vc:Nat) (A Bc:List (List UInt8)) (hsol:SolvesP P Q n (rsP P Q (lostC [a,b] Q n css)) (dsP P Q (lostC [a,b] Q n css)) A Bc a b) (w:World) (hL:Laid w) (hB:B≤w.heap.size) (hC:Cols B w (.slice vA N vc) css) :
 Calls Tryz.prog 25 #[.int .i64 (P:Int),.slice vA N vc,.int .i64 a,.int .i64 b] w fun e w'=>∃ u,e = .returned (.tuple #[u,.int .i64 0])∧Cols w'.heap.size w' u [A,Bc]∧Below w.heap.size w w':=by
 have hQ:=d.hQ
 have hpb:=prm_bounds d.hp
 obtain ⟨W2,hW2⟩:∃ x,(((w.alloc (.cells #[.int .i64 (P:Int)] 3)).alloc (.cells #[.slice vA N vc] 40)).alloc (.cells #[.int .i64 a] 3)).alloc (.cells #[.int .i64 b] 3)=x:=⟨_,rfl⟩
 have b0:Blk W2 (w.heap.size) 3 #[.int .i64 (P:Int)]:=by rw [←hW2];exact (((Blk.new w _ _).alloc _).alloc _).alloc _
 have b1:Blk W2 (w.heap.size+1) 40 #[.slice vA N vc]:=by rw [←hW2];exact ((Blk.second w _ _ _).alloc _).alloc _
 have b2:Blk W2 (w.heap.size+1+1) 3 #[.int .i64 a]:=by rw [←hW2];exact (Rg.Blk.at_ (Blk.new _ _ _) (by simp)).alloc _
 have b3:Blk W2 (w.heap.size+1+1+1) 3 #[.int .i64 b]:=by rw [←hW2];exact Rg.Blk.at_ (Blk.new _ _ _) (by simp)
 have hBW:Below w.heap.size w W2:=by rw [←hW2];exact (((below_two w _ _)).alloc (by simp;omega) _).alloc (by simp;omega) _
 obtain ⟨W2b,hW2b⟩:∃ x,w.heap.size=x:=⟨_,rfl⟩
 obtain ⟨W2c,hW2c⟩:∃ x,w.heap.size+1=x:=⟨_,rfl⟩
 obtain ⟨W2d,hW2d⟩:∃ x,w.heap.size+1+1=x:=⟨_,rfl⟩
 obtain ⟨W2e,hW2e⟩:∃ x,w.heap.size+1+1+1=x:=⟨_,rfl⟩
 have HA:=Lib.hid (Pr.ans_S_yes 60 #[.pointer (some ⟨w.heap.size,0,none⟩),.pointer (some ⟨w.heap.size+1,0,none⟩),.pointer (some ⟨w.heap.size+1+1,0,none⟩),.pointer (some ⟨w.heap.size+1+1+1,0,none⟩)] W2 (fun u W=>∃ x y z,u = .slice x y z∧Cols W.heap.size W u [A,Bc]) (enter_pRecover1 _) (fun U hU bU=>by
  have hBU:=below_in hBW hU
  have hltU:=bU.lt
  have HAS:=Lib.hid (fun (V:World) (g:Nat) (hV:Below U.heap.size U V) (bE:Blk V g 3 #[.int .i64 a,.int .i64 b])=>Pr.asked_yes (P:Int) d.hp vA N vc (by omega) g [a,b] (by simp) (good_pr ha hab hb) V (hL.next (below_in hBU hV)) bE.lt (ptwo bE))
  have hnP:((P:Nat):Int)∉[a,b]:=by simp;omega
  have hk0:0<(kept ([a,b] ++ []) css css.length).length:=kept_pos (i:=P) (by omega) (by rw [List.append_nil];exact hnP)
  have hrg:∀ x∈[a,b] ++ [],0≤x∧x<(css.length:Int):=by intro x hx;simp at hx;rcases hx with rfl | rfl <;> omega
  have HOF:=Lib.hid (fun (V:World) (g:Nat) (hV:Below U.heap.size U V) (bE:Blk V g 3 #[.int .i64 a,.int .i64 b])=>(by
   have h:=pOf_yes (B:=B) P Q d.hQ d.hp [a,b] [] ⟨by simp,by simp⟩ (by simp) g css N hcl (by omega) (by omega) vA vc none 0 V (hL.next (below_in hBU hV)) (Nat.le_trans hB (below_in hBU hV).size) bE.lt (ptwo bE) (.inl ⟨rfl,rfl⟩) (hC.below ((below_in hBU hV).mono hB)) n d hN (by rw [←hcl];exact hrg) hk0 (fun i hi hm=>hgood i hi (by rw [List.append_nil] at hm;exact hm))
   rw [List.append_nil] at h
   exact h:Calls Tryz.prog 62 #[.agg #[.int .i64 2,.int .i64 (P:Int),.slice (some ⟨g,0,none⟩) 2 2],.slice vA N vc,.slice none 0 0] V fun e w'=>∃ A1 k1 A2 k2 nA nc,e = .returned (.agg #[.int .i64 2,.int .i64 (P:Int),.slice (some ⟨g,0,none⟩) 2 2,.slice A1 Q k1,.slice A2 Q k2,.slice nA n nc])∧Many w'.heap.size w' (.slice A1 Q k1) (rsP P Q (lostC [a,b] Q n css))∧Many w'.heap.size w' (.slice A2 Q k2) (dsP P Q (lostC [a,b] Q n css))∧Bytes w'.heap.size w' (.slice nA n nc) (List.replicate n 0)∧Below V.heap.size V w'))
  have hgl:∀ c,c<P+1→GoodC Q n ((lostC [a,b] Q n css)[c]?.getD []):=fun c hc=>lost_good d hgood c (by omega)
  have hll:(lostC [a,b] Q n css).length=P+1:=by rw [lostC_len,hcl,hN]
  have HRE:=Lib.hid (fun (V:World) (g:Nat) (A1 A2 nA:Option Addr) (k1 k2 nc:Nat) (hV:Below U.heap.size U V) (bE:Blk V g 3 #[.int .i64 a,.int .i64 b]) (h1:Many V.heap.size V (.slice A1 Q k1) (rsP P Q (lostC [a,b] Q n css))) (h2:Many V.heap.size V (.slice A2 Q k2) (dsP P Q (lostC [a,b] Q n css))) (h3:Bytes V.heap.size V (.slice nA n nc) (List.replicate n 0))=>pRecovered_any d a b ha hab hb g _ _ A Bc (rsP_good d hll hgl) (dsP_good d hll hgl) hsol A1 A2 nA k1 k2 nc V (hL.next (below_in hBU hV)) bE.lt (bE.cell 0) (bE.cell 1) h1 h2 h3)
  have HSS:Hid (∀ V,Below U.heap.size U V→(fun U:World=>U.cell? ⟨W2b,0,none⟩=some (.int .i64 (P:Int))∧U.cell? ⟨W2c,0,none⟩=some (.slice vA N vc)∧U.cell? ⟨W2d,0,none⟩=some (.int .i64 a)∧U.cell? ⟨W2e,0,none⟩=some (.int .i64 b)) V):=by
   rw [←hW2b,←hW2c,←hW2d,←hW2e]
   exact fun V hV=>⟨((b0.below hU b0.lt).below hV (Nat.lt_of_lt_of_le b0.lt hU.size)).one,((b1.below hU b1.lt).below hV (Nat.lt_of_lt_of_le b1.lt hU.size)).one,((b2.below hU b2.lt).below hV (Nat.lt_of_lt_of_le b2.lt hU.size)).one,((b3.below hU b3.lt).below hV (Nat.lt_of_lt_of_le b3.lt hU.size)).one⟩
  have hBx:=(Below.refl U.heap.size U).drew
  rw [hW2e,hW2d,hW2c,hW2b]
  clear hgl hll b0 b1 b2 b3 hW2 hL hW2e hW2d hW2c hW2b bU ha hab hb hcl hN hgood hsol hC hB hk0 hrg hnP d hQ hpb
  refine (callsIn_wide (n:=9)).1 ?_
  refine callsIn_of_wp_marks Tryz.func60 rfl trivial ?_ rfl
  simp only [Tryz.ntmps60,List.size_toArray,List.length_cons,List.length_nil,Nat.reduceAdd,Nat.reduceSub,Array.replicate_succ,Array.replicate_zero,List.push_toArray,List.append_toArray,List.nil_append,List.cons_append]
  gi_wp2_with fail
  have hS:(fun U:World=>U.cell? ⟨W2b,0,none⟩=some (.int .i64 (P:Int))∧U.cell? ⟨W2c,0,none⟩=some (.slice vA N vc)∧U.cell? ⟨W2d,0,none⟩=some (.int .i64 a)∧U.cell? ⟨W2e,0,none⟩=some (.int .i64 b)) U.drew:=HSS.out _ hBx
  refine wpIn_mono (region_HF (Q:=NoPanic _) (S:=(fun U:World=>U.cell? ⟨W2b,0,none⟩=some (.int .i64 (P:Int))∧U.cell? ⟨W2c,0,none⟩=some (.slice vA N vc)∧U.cell? ⟨W2d,0,none⟩=some (.int .i64 a)∧U.cell? ⟨W2e,0,none⟩=some (.int .i64 b))) (by kernel_rfl) ?_) NoPanic.imp
  refine tkF (i:=0) (d:=5) (v:=.int .i64 (P:Int)) (s:=hS) (c:=?_)
  simp only [ud9]
  refine tkF (i:=1) (d:=6) (v:=.slice vA N vc) (s:=hS) (c:=?_)
  simp only [ud9]
  refine tkF (i:=2) (d:=7) (v:=.int .i64 a) (s:=hS) (c:=?_)
  simp only [ud9]
  refine tkF (i:=3) (d:=8) (v:=.int .i64 b) (s:=hS) (c:=?_)
  simp only [ud9]
  refine tkF (i:=6) (d:=11) (v:=.slice vA N vc) (s:=hS) (c:=?_)
  simp only [ud9]
  refine oneF (i:=4) (c:=?_)
  have hgl_g2:=hBx.size
  have hB:Below U.drew.heap.size U.drew (U.drew.alloc (.cells #[.int .i64 a,.int .i64 b] 3)):=below_one U.drew _
  have bE:Blk (U.drew.alloc (.cells #[.int .i64 a,.int .i64 b] 3)) U.drew.heap.size 3 #[.int .i64 a,.int .i64 b]:=Blk.new U.drew _ _
  obtain ⟨v1,he_v1⟩:∃ x,(U.drew.alloc (.cells #[.int .i64 a,.int .i64 b] 3))=x:=⟨_,rfl⟩
  obtain ⟨g2,hg_g2⟩:∃ x,U.drew.heap.size=x:=⟨_,rfl⟩
  rw [he_v1] at hB bE
  rw [hg_g2] at bE
  replace hBx:=below_in hBx hB
  clear hS
  have hS:(fun U:World=>U.cell? ⟨W2b,0,none⟩=some (.int .i64 (P:Int))∧U.cell? ⟨W2c,0,none⟩=some (.slice vA N vc)∧U.cell? ⟨W2d,0,none⟩=some (.int .i64 a)∧U.cell? ⟨W2e,0,none⟩=some (.int .i64 b)) v1:=HSS.out _ hBx
  gi_wp2
  (try rw [hg_g2]);(try rw [he_v1])
  try (refine ⟨hS,?_⟩)
  clear hB he_v1 hg_g2
  refine oneF (i:=5) (c:=?_)
  gi_wp2_with fail
  refine ⟨trivial,(callsIn_wide.2 (HAS.out _ g2 hBx bE)).mono ?_⟩
  rintro e v3 ⟨rfl,hB⟩
  replace bE:=bE.below hB bE.lt
  replace hBx:=below_in hBx hB
  clear hS
  have hS:(fun U:World=>U.cell? ⟨W2b,0,none⟩=some (.int .i64 (P:Int))∧U.cell? ⟨W2c,0,none⟩=some (.slice vA N vc)∧U.cell? ⟨W2d,0,none⟩=some (.int .i64 a)∧U.cell? ⟨W2e,0,none⟩=some (.int .i64 b)) v3:=HSS.out _ hBx
  clear hB
  gi_wp2
  try (refine ⟨hS,?_⟩)
  refine oneF (i:=7) (c:=?_)
  gi_wp2_with fail
  refine ⟨trivial,(callsIn_wide.2 (HOF.out _ g2 hBx bE)).mono ?_⟩
  rintro e v4 ⟨A1,k1,A2,k2,nA,nc,rfl,hCl,hCl2,hNo,hB⟩
  have HCL:=Lib.hid (And.intro hCl (And.intro hCl2 hNo))
  clear hCl hCl2 hNo
  replace bE:=bE.below hB bE.lt
  replace hBx:=below_in hBx hB
  clear hS
  have hS:(fun U:World=>U.cell? ⟨W2b,0,none⟩=some (.int .i64 (P:Int))∧U.cell? ⟨W2c,0,none⟩=some (.slice vA N vc)∧U.cell? ⟨W2d,0,none⟩=some (.int .i64 a)∧U.cell? ⟨W2e,0,none⟩=some (.int .i64 b)) v4:=HSS.out _ hBx
  clear hB
  gi_wp2
  try (refine ⟨hS,?_⟩)
  refine oneF (i:=8) (c:=?_)
  gi_wp2_with fail
  refine ⟨trivial,(callsIn_wide.2 (HRE.out _ g2 A1 A2 nA k1 k2 nc hBx bE HCL.out.1 HCL.out.2.1 HCL.out.2.2)).mono ?_⟩
  rintro e v5 ⟨gR,kR,rfl,hRES,hB⟩
  replace bE:=bE.below hB bE.lt
  replace hBx:=below_in hBx hB
  clear hS
  have hS:(fun U:World=>U.cell? ⟨W2b,0,none⟩=some (.int .i64 (P:Int))∧U.cell? ⟨W2c,0,none⟩=some (.slice vA N vc)∧U.cell? ⟨W2d,0,none⟩=some (.int .i64 a)∧U.cell? ⟨W2e,0,none⟩=some (.int .i64 b)) v5:=HSS.out _ hBx
  clear hB
  gi_wp2
  try (refine ⟨hS,?_⟩)
  refine oneF (i:=9) (c:=?_)
  gi_wp2
  refine anyHF_done (by kernel_rfl) ?_ _
  refine NoPanic.normal ?_
  clear hS
  gi_wp2_with fail
  exact ⟨_,by simp [results,Tryz.results60,go_sem],_,rfl,⟨_,_,_,rfl,hRES⟩,hBx⟩))
 clear b0 b1 b2 b3 hL hW2e hW2d hW2c hW2b ha hab hb hcl hN hgood hsol hC hB d hQ hpb
 go_enter Tryz.func25,Tryz.ntmps25
 have hmf:∀ (fn:Fn) (first cap:Array Value) (w:World),(Instr.makeFunc fn first cap).run Tryz.prog w = .ok (.func fn first cap) w:=fun _ _ _ _=>rfl
 go_wp2_with (go_at_call 59;refine HA.out.mono ?_;rintro e w1 ⟨u,W,rfl,⟨uA,un,uc,rfl,hu⟩,bE,rfl,hB1⟩)
 go_ret2
 exact ⟨_,rfl,(cols_num hu bE).more (by simp),below_in hBW hB1⟩
end Go.Proofs.YtcchjofjpflbhaaGreatDoor.T

namespace Go.Proofs.YtcchjofjpflbhaaGreatDoor.T
open Go.RowKit Go.Shelf Go.Maps Go.Proofs.YtcchjofjpflbhaaGreatDoor.C Go.Proofs.YtcchjofjpflbhaaGreatDoor.E Go.Proofs.YtcchjofjpflbhaaGreatDoor.Ch Go.Proofs.YtcchjofjpflbhaaGreatDoor.Rg
attribute [local go_sem] Oper.semAt_some

theorem solvesP_rows {P Q n:Nat} (d:Dims P Q n) {R D A B:List (List UInt8)} {a b:Int} (gA:GoodC Q n A) (gB:GoodC Q n B) (hR:R=sumC Q [A,B]) (hD:∀ i,i<Q→D[i]?.getD []=xorOf [wholeF Q n A (((i:Int) - a) % (P:Int)).toNat,wholeF Q n B (((i:Int) - b) % (P:Int)).toNat]):SolvesP P Q n R D A B a b :=
 ⟨gA,gB,fun j r=>by rw [hR];exact bt_sum2 d gA gB j r,fun j r hr=>by
  have hQ:=d.hQ
  rcases row_lt hQ r with ⟨i,hi,e⟩ | e
  · have e2:r % (P:Int)=((i:Int)) % (P:Int):=by rw [e,Int.emod_eq_of_lt (by omega) (by omega)]
    rw [bt_at hQ D j hi e,hD i hi,at_two (Rg.whole_len gA _) (Rg.whole_len gB _)]
    show Bt P Q n A j ((i:Int) - a) ^^^ Bt P Q n B j ((i:Int) - b) = _
    rw [(Bt.per hQ A j).1 _ _ (mod_sub e2.symm a),(Bt.per hQ B j).1 _ _ (mod_sub e2.symm b)]
  · exact absurd (by rw [e,last_mod hQ]) hr⟩
def cssP:List (List (List UInt8)):=[[],[[4],[8]],[[7]],[[11],[6]]]
theorem solves_P:SolvesP 3 2 1 (rsP 3 2 (lostC [0,2] 2 1 cssP)) (dsP 3 2 (lostC [0,2] 2 1 cssP)) [[1],[2]] [[5],[10]] 0 2 :=
 solvesP_rows dimsW (good_W 1 2) (good_W 5 10) (by decide +kernel) (by
  intro i hi
  rcases i with _ | _ | i
  · decide +kernel
  · decide +kernel
  · omega)
theorem goods_P:∀ i,i<cssP.length→(i:Int)∉[(0:Int),2]→GoodC 2 1 (cssP[i]?.getD []):=by
 intro i hi hm
 have h5:i<4:=hi
 rcases i with _ | _ | _ | _ | i
 · exact absurd (by simp) hm
 · exact good_W 4 8
 · exact absurd (by simp) hm
 · exact good_W 11 6
 · omega
theorem order_P:orderP 3 1 2 = [(2,1),(1,1),(1,0),(2,0)]:=by decide +kernel
theorem arm_P0:armP 3 0 1 = []:=by decide +kernel
theorem arm_P1:armP 3 1 0 = [(0,0),(1,0),(0,1),(1,1)]:=by decide +kernel
def osP (w:World):List Obj:=[.cells #[.int .u8 4] 5,.cells #[.int .u8 8] 5,.cells #[.slice (some ⟨w.heap.size+0,0,none⟩) 1 1,.slice (some ⟨w.heap.size+1,0,none⟩) 1 1] 64,
 .cells #[.int .u8 7] 5,.cells #[.slice (some ⟨w.heap.size+3,0,none⟩) 1 1] 64,
 .cells #[.int .u8 11] 5,.cells #[.int .u8 6] 5,.cells #[.slice (some ⟨w.heap.size+5,0,none⟩) 1 1,.slice (some ⟨w.heap.size+6,0,none⟩) 1 1] 64,
 .cells #[.slice none 0 0,.slice (some ⟨w.heap.size+2,0,none⟩) 2 2,.slice (some ⟨w.heap.size+4,0,none⟩) 1 1,.slice (some ⟨w.heap.size+7,0,none⟩) 2 2] 50]
theorem cols_P (w:World):Cols (allocs w (osP w)).heap.size (allocs w (osP w)) (.slice (some ⟨w.heap.size+8,0,none⟩) 4 4) cssP:=by
 have k:∀ (k:Nat) (t:TypeId) (cs:Array Value),(osP w)[k]?=some (.cells cs t)→Blk (allocs w (osP w)) (w.heap.size+k) t cs:=fun k t cs h=>allocs_blk w (osP w) k t cs h
 refine ⟨_,4,rfl,Nat.le_refl _,fun _=>⟨_,0,rfl,(k 8 _ _ rfl).lt,fun j hj=>?_⟩⟩
 have h5:j<4:=hj
 rcases j with _ | _ | _ | _ | j
 · exact ⟨_,(k 8 _ _ rfl).cell 0,Many.nil_ _ _ _ _⟩
 · exact ⟨_,(k 8 _ _ rfl).cell 1,many_W (x:=4) (y:=8) (k 2 _ _ rfl) (k 0 _ _ rfl) (k 1 _ _ rfl)⟩
 · refine ⟨_,(k 8 _ _ rfl).cell 2,⟨_,1,rfl,Nat.le_refl _,fun _=>⟨_,0,rfl,(k 4 _ _ rfl).lt,fun i hi=>?_⟩⟩⟩
   obtain rfl:i=0:=(by have:i<1:=hi;omega)
   exact ⟨_,(k 4 _ _ rfl).cell 0,byte_W (x:=7) (k 3 _ _ rfl)⟩
 · exact ⟨_,(k 8 _ _ rfl).cell 3,many_W (x:=11) (y:=6) (k 7 _ _ rfl) (k 5 _ _ rfl) (k 6 _ _ rfl)⟩
 · omega
theorem readA_four {W:World} {g:Nat} {a b c d:Int×Int} (h:Blk W g 31 #[.int .i64 a.1,.int .i64 a.2,.int .i64 b.1,.int .i64 b.2,.int .i64 c.1,.int .i64 c.2,.int .i64 d.1,.int .i64 d.2]):ReadA W (.slice (some ⟨g,0,none⟩) 4 4) [a,b,c,d] :=
 ⟨_,4,rfl,fun j hj=>⟨g,rfl,h.lt,by
  have h4:j<4:=hj
  rcases j with _ | _ | _ | _ | j
  · exact ⟨h.cell 0,h.cell 1⟩
  · exact ⟨h.cell 2,h.cell 3⟩
  · exact ⟨h.cell 4,h.cell 5⟩
  · exact ⟨h.cell 6,h.cell 7⟩
  · omega⟩⟩
def osQ (w:World):List Obj:=[.cells #[.int .u8 1] 5,.cells #[.int .u8 2] 5,.cells #[.slice (some ⟨w.heap.size+0,0,none⟩) 1 1,.slice (some ⟨w.heap.size+1,0,none⟩) 1 1] 64,
 .cells #[.int .u8 5] 5,.cells #[.int .u8 10] 5,.cells #[.slice (some ⟨w.heap.size+3,0,none⟩) 1 1,.slice (some ⟨w.heap.size+4,0,none⟩) 1 1] 64,
 .cells #[.slice (some ⟨w.heap.size+2,0,none⟩) 2 2,.slice (some ⟨w.heap.size+5,0,none⟩) 2 2] 50]
theorem cols_Q (w:World):Cols (allocs w (osQ w)).heap.size (allocs w (osQ w)) (.slice (some ⟨w.heap.size+6,0,none⟩) 2 2) [[[1],[2]],[[5],[10]]]:=by
 have k:∀ (k:Nat) (t:TypeId) (cs:Array Value),(osQ w)[k]?=some (.cells cs t)→Blk (allocs w (osQ w)) (w.heap.size+k) t cs:=fun k t cs h=>allocs_blk w (osQ w) k t cs h
 exact Rg.cols_two (k 6 _ _ rfl) (many_W (x:=1) (y:=2) (k 2 _ _ rfl) (k 0 _ _ rfl) (k 1 _ _ rfl)) (many_W (x:=5) (y:=10) (k 5 _ _ rfl) (k 3 _ _ rfl) (k 4 _ _ rfl)) (k 6 _ _ rfl).lt
theorem small_Q:∀ j:Nat,(([[[(1:UInt8)],[2]],[[5],[10]]]:List (List (List UInt8)))[j]?.getD []).length≤1000:=by
 intro j
 rcases j with _ | _ | j
 · show 2≤1000;omega
 · show 2≤1000;omega
 · simp
theorem works12_any (w:World) (hL:Laid w):Calls Tryz.prog 18 #[] w fun e w'=>e = .returned (.bool true)∧Below w.heap.size w w':=by
 have HO1:=Lib.hid (by have h:=pOrder_yes 3 1 2 (by decide) (by decide) (by decide) (by decide) w hL;rw [order_P] at h;exact h)
 have HRE:=Lib.hid (fun (U:World) (hU:Below w.heap.size w U) (v:Value) (hv:v = .slice (some ⟨U.heap.size+8,0,none⟩) 4 4)=>(by
  have h:=pRecover_yes (B:=(allocs U (osP U)).heap.size) dimsW 0 2 (by decide) (by decide) (by decide) cssP 4 rfl rfl goods_P (some ⟨U.heap.size+8,0,none⟩) 4 [[1],[2]] [[5],[10]] solves_P (allocs U (osP U)) (hL.next (below_in hU (allocs_below U (osP U)))) (Nat.le_refl _) (cols_P U)
  rw [show ((3:Nat):Int)=3 from rfl] at h
  exact h))
 have HA0:=Lib.hid (fun (U:World) (hU:Below w.heap.size w U)=>lawArm_any 3 0 1 [] (by simp) U (hL.next hU) (Lib.hid fun V hV=>by have h:=Arm_yes 3 0 1 (by decide) (by decide) (by decide) (by decide) V hV;rw [arm_P0] at h;exact h))
 have HA1:=Lib.hid (fun (U:World) (hU:Below w.heap.size w U)=>lawArm_any 3 1 0 [(0,0),(1,0),(0,1),(1,1)] (by simp) U (hL.next hU) (Lib.hid fun V hV=>by have h:=Arm_yes 3 1 0 (by decide) (by decide) (by decide) (by decide) V hV;rw [arm_P1] at h;exact h))
 clear hL
 go_enter Tryz.func18,Tryz.ntmps18
 go_wp2_with fail
 refine HO1.out.mono ?_
 rintro e w1 ⟨u1,rfl,hu1,hB1⟩
 obtain ⟨A1,n1,c1,rfl⟩:=hu1.form
 go_wp2_with fail
 have hB3a:=allocs_below w1 (osP w1)
 refine (HRE.out w1 hB1 _ rfl).mono ?_
 rintro e w3 ⟨u3,rfl,hC3,hB3⟩
 have hB23:=below_in hB3a hB3
 have hr:=hu1.readA.next hB23
 have hBw:=below_in hB1 hB23
 obtain ⟨A3,c3,e3,_⟩:=id hC3
 have e3':u3 = .slice A3 2 c3:=e3
 subst e3'
 clear hu1 HO1 HRE hB1 hB3 hB3a hB23 e3
 go_wp2_with (go_at_call 20;refine (num12_any _ _).mono ?_;rintro e w' ⟨rfl,rfl⟩)
 refine (HA0.out w3 hBw).mono ?_
 rintro e w4 ⟨u4,rfl,hu4,hB4⟩
 obtain ⟨A4,n4,c4,rfl⟩:=hu4.form
 obtain rfl:n4=0:=by obtain ⟨_,_,e,_⟩:=OwnA.reads hu4;injection e
 have hBw4:=below_in hBw hB4
 replace hr:=hr.next hB4
 replace hC3:=(hC3.below hB4).more hB4.size
 clear hu4 hB4 hBw HA0
 go_wp2_with fail
 refine (HA1.out w4 hBw4).mono ?_
 rintro e w5 ⟨u5,rfl,hu5,hB5⟩
 obtain ⟨A5,n5,c5,rfl⟩:=hu5.form
 have hBw5:=below_in hBw4 hB5
 replace hr:=hr.next hB5
 replace hC3:=(hC3.below hB5).more hB5.size
 have hr5:=hu5.readA
 clear hu5 hB5 hBw4 HA1
 go_wp2_with fail
 have hBa:=below_one w5 (.cells #[.int .i64 0,.int .i64 0,.int .i64 1,.int .i64 0,.int .i64 0,.int .i64 1,.int .i64 1,.int .i64 1] 31)
 refine (same_yes _ _ _ (by simp) _ (hr5.next hBa) (readA_four (a:=(0,0)) (b:=(1,0)) (c:=(0,1)) (d:=(1,1)) (Blk.new w5 _ _))).mono ?_
 rintro e w6 ⟨rfl,hB6⟩
 have hB56:=below_in hBa hB6
 have hBw6:=below_in hBw5 hB56
 replace hr:=hr.next hB56
 replace hC3:=(hC3.below hB56).more hB56.size
 clear hr5 hBa hB6 hB56 hBw5
 go_wp2_with fail
 have hBa:=below_one w6 (.cells #[.int .i64 2,.int .i64 1,.int .i64 1,.int .i64 1,.int .i64 1,.int .i64 0,.int .i64 2,.int .i64 0] 31)
 refine (same_yes _ _ _ (by simp) _ (hr.next hBa) (readA_four (a:=(2,1)) (b:=(1,1)) (c:=(1,0)) (d:=(2,0)) (Blk.new w6 _ _))).mono ?_
 rintro e w7 ⟨rfl,hB7⟩
 have hB67:=below_in hBa hB7
 have hBw7:=below_in hBw6 hB67
 have hC7:=(hC3.below hB67).more hB67.size
 clear hr hC3 hBa hB7 hB67 hBw6
 go_wp2_with fail
 have hB8:=allocs_below w7 (osQ w7)
 have hS:=same6_any (B:=w7.heap.size) (.slice A3 2 c3) (.slice (some ⟨w7.heap.size+6,0,none⟩) 2 2) [[[1],[2]],[[5],[10]]] [[[1],[2]],[[5],[10]]] (allocs w7 (osQ w7)) (hC7.below hB8) (cols_Q w7) hB8.size (Nat.le_refl _) small_Q small_Q (by simp) (by simp)
 rw [show decide ([[[(1:UInt8)],[2]],[[5],[10]]] = [[[1],[2]],[[5],[10]]])=true from rfl] at hS
 refine hS.mono ?_
 rintro e w9 ⟨rfl,hB9⟩
 have hBw9:=below_in (below_in hBw7 hB8) hB9
 clear hS hB8 hC7 hBw7 hB9
 go_wp2_with fail
 go_ret
 exact ⟨rfl,hBw9⟩
end Go.Proofs.YtcchjofjpflbhaaGreatDoor.T

set_option linter.unusedVariables false
set_option linter.unusedSimpArgs false
set_option maxRecDepth 100000
set_option maxHeartbeats 4000000
namespace Go.Proofs.YtcchjofjpflbhaaGreatDoor.Ch
open Go.RowKit Go.Shelf Go.Maps Go.Proofs.YtcchjofjpflbhaaGreatDoor.C Go.Proofs.YtcchjofjpflbhaaGreatDoor.E Go.Proofs.YtcchjofjpflbhaaGreatDoor.Rg
attribute [local go_sem] Oper.semAt_some

theorem among_any (b off cap:Nat) (ls:List Int) (x:Int) (hls:ls.length≤1000) (w:World) (hcell:∀ j,j<ls.length→w.cell? ⟨b,off+j,none⟩=some (.int .i64 (ls[j]?.getD 0))) :
 Calls Tryz.prog 64 #[.slice (some ⟨b,off,none⟩) ls.length cap,.int .i64 x] w fun e w'=>e = .returned (.bool (decide (x∈ls)))∧w'=w:=by
 have HCE:=Lib.hid hcell
 clear hcell
 obtain ⟨r,hr⟩:∃ r,decide (x∈ls)=r:=⟨_,rfl⟩
 have HR:=Lib.hid hr
 rw [hr]
 clear hr
 go_enter Tryz.func64,Tryz.ntmps64
 go_wp2_with fail
 go_loop [5] (fun i=>∃ k:Nat,k≤ls.length∧i = .int .i64 k∧Hid (x∉ls.take k)) (fun i=>ls.length - (intOf i).toNat)
 case atStart=>exact ⟨0,Nat.zero_le _,rfl,Lib.hid (by simp)⟩
 case round =>
  obtain ⟨k,hk,rfl,HN⟩:=hrel
  by_cases hlt:k<ls.length
  · have hdec:decide ((k:Int)<(ls.length:Int))=true:=by simp;omega
    have i1:(0:Int)≤(k:Int):=by omega
    have i2:(k:Int)<(ls.length:Int):=by omega
    have hc:=HCE.out k hlt
    have hg:ls[k]?.getD 0=ls[k]:=by rw [List.getElem?_eq_getElem hlt];rfl
    have HT:Hid (ls.take (k+1)=ls.take k ++ [ls[k]]):=List.take_succ_eq_append_getElem hlt
    rw [hg] at hc
    by_cases hx:x=ls[k]
    · have HE:Hid (r=true):=by
       unfold Hid
       rw [←HR.out]
       exact decide_eq_true (by rw [hx];exact List.getElem_mem hlt)
      generalize ls[k]=y at hc hx
      subst hx
      have hd:(x == x)=true:=by simp
      clear HT hg
      go_wp2
      go_ret
      exact ⟨by rw [HE.out];rfl,rfl⟩
    · have hd:(ls[k] == x)=false:=by rw [beq_eq_false_iff_ne];exact fun h=>hx h.symm
      have HN2:Hid (x∉ls.take (k+1)):=by
       unfold Hid
       rw [HT.out]
       intro h
       rcases List.mem_append.1 h with h | h
       · exact HN.out h
       · exact hx (List.mem_singleton.1 h)
      have HX:=Lib.hid hx
      generalize ls[k]=y at hc hd
      clear HT hg hx HX
      go_wp2
      go_round
      case rel=>exact ⟨k+1,by omega,by go_num,HN2⟩
      case measure=>simp [intOf];omega
  · obtain rfl:k=ls.length:=by omega
    have e1:decide ((ls.length:Int)<(ls.length:Int))=false:=by simp
    have HE:Hid (r=false):=by
     unfold Hid
     rw [←HR.out]
     have:=HN.out
     rw [List.take_length] at this
     exact decide_eq_false this
    go_wp2
    go_ret
    exact ⟨by rw [HE.out];rfl,rfl⟩
theorem right11_any {B:Nat} (p many:Int) (hp:p∈prm) (g cap:Nat) (L:List Int) (hLl:L.length≤1000) (css:List (List (List UInt8))) (hN:(css.length:Int)=many) (hN0:0<css.length) (hNl:css.length≤100) (v:Value) (w:World) (hB:B≤w.heap.size) (hg:g<w.heap.size) (hcell:∀ j,j<L.length→w.cell? ⟨g,j,none⟩=some (.int .i64 (L[j]?.getD 0))) (hC:Cols B w v css) (b:Bool) (hb:b=true↔RightD p (kept L css css.length)) :
 Calls Tryz.prog 26 #[.int .i64 p,v,.int .i64 many,.slice (some ⟨g,0,none⟩) L.length cap] w fun e w'=>e = .returned (.bool b)∧Below w.heap.size w w':=by
 have HR:=Lib.hid (Go.Proofs.YtcchjofjpflbhaaGreatDoor.right_any p w)
 rw [decide_eq_true hp] at HR
 obtain ⟨gl,go,vc,rfl,hcapN,hgl,hrow⟩:=hC.at_ hN0
 have HROW:=Lib.hid hrow
 have HR6:=Lib.hid (fun (V:World) (kv:Value) (hk:Cols V.heap.size V kv (kept L css css.length))=>right6_any (B:=V.heap.size) p kv _ V (Nat.le_refl _) hk (Nat.le_trans (kept_len _ _ _) (by omega)) b hb)
 have HCNT:=Lib.hid (fun (x:Int) (V:World) (h:∀ j,j<L.length→V.cell? ⟨g,j,none⟩=some (.int .i64 (L[j]?.getD 0)))=>among_any g 0 cap L x hLl V (fun j hj=>by rw [Nat.zero_add];exact h j hj))
 have HCE:=Lib.hid hcell
 obtain ⟨N,hNe⟩:∃ N,css.length=N:=⟨_,rfl⟩
 rw [hNe] at hN hN0 hNl hcapN HROW HR6 ⊢
 subst hN
 have e0:((N:Int) != (N:Int))=false:=by simp
 obtain ⟨M,hM⟩:∃ M,L.length=M:=⟨_,rfl⟩
 rw [hM] at HCNT HCE ⊢
 clear hC hrow hNe hp hcell hM hb hLl
 go_enter Tryz.func26,Tryz.ntmps26
 go_wp2_with fail
 refine HR.out.mono ?_
 rintro e w1 ⟨rfl,hB1⟩
 clear HR
 go_wp2_with fail
 clear e0
 go_loopw [9,10] (fun v i wr=>∃ k:Nat,k≤N∧i = .int .i64 k∧RowC (·<B) wr w1.heap.size v (kept L css k)∧Below w1.heap.size w1 wr) (fun _ i _=>N - (intOf i).toNat)
 case atStart=>exact ⟨0,Nat.zero_le _,rfl,RowG.nil _ _ _ _ _ _,Below.refl _ _⟩
 case round =>
  obtain ⟨k,hk,rfl,hrw,hBr⟩:=hrel
  have hs1:=hB1.size
  by_cases hlt:k<N
  · have hdec:decide ((k:Int)<(N:Int))=true:=by simp;omega
    obtain ⟨u1,hc1,hm1⟩:=HROW.out k hlt
    obtain ⟨A4,cap4,rfl,_,_⟩:=id hm1
    have hc2:=((below_in hB1 hBr).cell (p:=⟨gl,go+k,none⟩) (Nat.lt_of_lt_of_le hgl hB)).trans hc1
    have hm2:Many B wr _ _:=hm1.below ((below_in hB1 hBr).mono hB)
    have HCN:=Lib.hid (HCNT.out (k:Int) wr (fun j hj=>((below_in hB1 hBr).cell (p:=⟨g,j,none⟩) hg).trans (HCE.out j hj)))
    have i1:(0:Int)≤(k:Int):=by omega
    have i2:(k:Int)<(N:Int):=by omega
    have hszr:=hBr.size
    by_cases hmem:(k:Int)∈L
    · have hnx:=kept_in (css:=css) hmem
      rw [decide_eq_true hmem] at HCN
      have HNX:=Lib.hid (And.intro hnx hrw)
      clear hc1 hm1 hm2 hnx hmem hrw
      generalize (css[k]?.getD []).length=n7 at *
      go_wp2_with (go_at_call 64;refine HCN.out.mono ?_;rintro e w2 ⟨rfl,rfl⟩)
      go_roundw
      case rel=>exact ⟨k+1,by omega,by go_num,by rw [HNX.out.1];exact HNX.out.2,hBr⟩
      case measure=>simp [intOf];omega
    · have hnx:=kept_out (css:=css) hmem
      rw [decide_eq_false hmem] at HCN
      have HVLE:=Lib.hid (fun b e=>RowG.own_le hrw b e)
      have hpl:(kept L css k).length≤100:=by have:=kept_len L css k;omega
      clear hc1 hm1
      generalize css[k]?.getD []=xs at *
      generalize kept L css k=pre at *
      have HNX:=Lib.hid hnx
      clear hnx hmem
      generalize xs.length=n7 at *
      have hcells:Below wr.heap.size wr (wr.alloc (.cells #[.slice A4 n7 cap4] 50)):=below_one wr _
      have HROWC:=Lib.hid (RowG.below hrw hcells)
      have HBLK:=Lib.hid (Blk.new wr 50 #[.slice A4 n7 cap4])
      have HCP:Hid (manyR.R (fun b=>b<(wr.alloc (.cells #[.slice A4 n7 cap4] 50)).heap.size∧some b≠u9.ownBlock∧b<B) (wr.alloc (.cells #[.slice A4 n7 cap4] 50)) (.slice A4 n7 cap4) xs) :=
       SliceP.imp (hm2.below (hcells.mono (by omega))) fun b hb=>⟨by have hb':b<B:=hb;simp;omega,fun e=>by have:=HVLE.out b e.symm;have hb':b<B:=hb;omega,hb⟩
      clear hrw hm2
      go_wp2_with (first
       | (go_at_call 64;refine HCN.out.mono ?_;rintro e w2 ⟨rfl,rfl⟩)
       | (at_builtin;refine wpList_pushC (T:=40) _ rfl _ _ rfl Tryz.underlying40 pre rfl HROWC.out w2.heap.size 50 _ xs rfl HBLK.out HCP.out (by omega) (by simp;omega) ?_;intro v' w3 hrow4 hgrow hown))
      go_roundw
      case rel=>exact ⟨k+1,by omega,by go_num,by rw [HNX.out];exact hrow4,below_grown (below_in hBr hcells) hgrow (by simp;omega) (fun g e=>by have:=HVLE.out g e;omega)⟩
      case measure=>simp [intOf];omega
  · obtain rfl:k=N:=by omega
    have e1:decide ((k:Int)<(k:Int))=false:=by simp
    have hcc:=RowC.cols hrw
    have HKV:=Lib.hid (HR6.out _ _ hcc)
    have hBq:=below_in hB1 hBr
    obtain ⟨kA,kc,hkv,_,_⟩:=id hcc
    subst hkv
    generalize (kept L css k).length=K at *
    clear hcc hrw
    go_wp2_with fail
    refine HKV.out.mono ?_
    rintro e w5 ⟨rfl,hB5⟩
    go_wp2
    go_ret
    exact ⟨rfl,below_in hBq hB5⟩
theorem sums11_any {B P Q n:Nat} (d:Dims P Q n) (g cap:Nat) (L:List Int) (hLl:L.length≤1000) (fc:Int) (hf:0≤fc∧fc≤1) (css:List (List (List UInt8))) (N:Nat) (hcl:css.length=N) (hN:P≤N) (hgood:∀ c:Nat,c<P→(c:Int)∉L→GoodC Q n (css[c]?.getD [])) (fr:List (List UInt8)) (gf:GoodC Q n fr) (fv:Value) (vA:Option Addr) (vc:Nat) (w:World) (hB:B≤w.heap.size) (hg:g<w.heap.size) (hcell:∀ j,j<L.length→w.cell? ⟨g,j,none⟩=some (.int .i64 (L[j]?.getD 0))) (hC:Cols B w (.slice vA N vc) css) (hF:Many w.heap.size w fv fr) :
 Calls Tryz.prog 65 #[.int .i64 (P:Int),.slice vA N vc,fv,.int .i64 (P:Int),.slice (some ⟨g,0,none⟩) L.length cap,.int .i64 fc] w fun e w'=>∃ u,e = .returned u∧Many w'.heap.size w' u (sumsD P Q n css fr L fc P)∧Below w.heap.size w w':=by
 have hpb:=prm_bounds d.hp
 obtain ⟨gl,go,vc',hve,hcapN,hgl,hrow⟩:=hC.at_ (by omega)
 injection hve with e1 e2 e3
 subst e1 e3
 clear e2
 have HROW:=Lib.hid hrow
 have HCNT:=Lib.hid (fun (x:Int) (V:World) (h:∀ j,j<L.length→V.cell? ⟨g,j,none⟩=some (.int .i64 (L[j]?.getD 0)))=>among_any g 0 cap L x hLl V (fun j hj=>by rw [Nat.zero_add];exact h j hj))
 have HCE:=Lib.hid hcell
 have HG:=Lib.hid (fun m=>sumsD_good (css:=css) (L:=L) (f:=fc) d gf m)
 have HGD:=Lib.hid hgood
 have HCL:=Lib.hid hcl
 obtain ⟨M,hM⟩:∃ M,L.length=M:=⟨_,rfl⟩
 rw [hM] at HCNT HCE ⊢
 have HIN:Hid (∀ k,(k:Nat)<P→((k:Int)∈L)→sumsD P Q n css fr L fc (k+1)=sumsD P Q n css fr L fc k):=fun k hk h=>by
  show (if (k:Int)∈L then _ else _) = _
  rw [if_pos h]
 have HOUT:Hid (∀ k,(k:Nat)<P→((k:Int)∉L)→sumsD P Q n css fr L fc (k+1)=putC (sumsD P Q n css fr L fc k) (turnC P Q n (css[k]?.getD []) ((k:Int) * fc))):=fun k hk h=>by
  show (if (k:Int)∈L then _ else _) = _
  rw [if_neg h]
 have hF0:Many w.heap.size w fv (sumsD P Q n css fr L fc 0):=hF
 clear hC hrow hcell hM hLl hgood gf hcl hF hcapN
 go_enter Tryz.func65,Tryz.ntmps65
 go_wp2_with fail
 go_loopw [13,14] (fun v i wr=>∃ k:Nat,k≤P∧i = .int .i64 k∧Many wr.heap.size wr v (sumsD P Q n css fr L fc k)∧Below w.heap.size w wr) (fun _ i _=>P - (intOf i).toNat)
 case atStart=>exact ⟨0,Nat.zero_le _,rfl,hF0,Below.refl _ _⟩
 case round =>
  clear hF0
  obtain ⟨k,hk,rfl,hrw,hBr⟩:=hrel
  by_cases hlt:k<P
  · have hdec:decide ((k:Int)<(P:Int))=true:=by simp;omega
    obtain ⟨u1,hc1,hm1⟩:=HROW.out k (by have:=HCL.out;omega)
    obtain ⟨A4,cap4,rfl,_,_⟩:=id hm1
    have hc2:=(hBr.cell (p:=⟨gl,go+k,none⟩) (Nat.lt_of_lt_of_le hgl hB)).trans hc1
    have hm2:=(hm1.below (hBr.mono hB)).more (Nat.le_trans hB hBr.size)
    have HCN:=Lib.hid (HCNT.out (k:Int) wr (fun j hj=>(hBr.cell (p:=⟨g,j,none⟩) hg).trans (HCE.out j hj)))
    have i1:(0:Int)≤(k:Int):=by omega
    have i2:(k:Int)<(N:Int):=by omega
    have hszr:=hBr.size
    by_cases hmem:(k:Int)∈L
    · rw [decide_eq_true hmem] at HCN
      have HNX:=Lib.hid (And.intro (HIN.out k hlt hmem) hrw)
      clear hc1 hm1 hm2 hmem hrw
      generalize (css[k]?.getD []).length=n7 at *
      go_wp2_with (go_at_call 64;refine HCN.out.mono ?_;rintro e w2 ⟨rfl,rfl⟩)
      go_roundw
      case rel=>exact ⟨k+1,by omega,by go_num,by rw [HNX.out.1];exact HNX.out.2,hBr⟩
      case measure=>simp [intOf];omega
    · rw [decide_eq_false hmem] at HCN
      have HNX:=Lib.hid (HOUT.out k hlt hmem)
      have gk:=HGD.out k hlt hmem
      have hkf:0≤(k:Int) * fc∧(k:Int) * fc≤(k:Int):=by
       rcases (by omega:fc=0∨fc=1) with h | h
       · rw [h,Int.mul_zero];omega
       · rw [h,Int.mul_one];omega
      have hwm:IntKind.i64.wrap ((k:Int) * fc)=(k:Int) * fc:=IntWalk.i64_in _ (by omega)
      rw [gk.1] at hc2 hm2
      have HTU:=Lib.hid (turnD_any d ((k:Int) * fc) (by omega) (by omega) _ gk (.slice A4 Q cap4) wr hm2)
      have HPU:=Lib.hid (fun (V:World) (u v:Value) (h1:Many V.heap.size V u (sumsD P Q n css fr L fc k)) (h2:Many V.heap.size V v (turnC P Q n (css[k]?.getD []) ((k:Int) * fc)))=>putY d _ _ (HG.out k) (turn_good d.h1 d.h64 gk _) u v V h1 h2)
      have HRW:=Lib.hid hrw
      clear hc1 hm1 hm2 hmem gk hkf hrw
      go_wp2_with (go_at_call 64;refine HCN.out.mono ?_;rintro e w2 ⟨rfl,rfl⟩)
      refine HTU.out.mono ?_
      rintro e w3 ⟨u3,rfl,hu3,hB3⟩
      go_wp2_with fail
      refine (HPU.out w3 _ _ ((HRW.out.below hB3).more hB3.size) hu3).mono ?_
      rintro e w4 ⟨u4,rfl,hu4,hB4⟩
      go_wp2
      go_roundw
      case rel=>exact ⟨k+1,by omega,by go_num,by rw [HNX.out];exact hu4,below_in hBr (below_in hB3 hB4)⟩
      case measure=>simp [intOf];omega
  · obtain rfl:k=P:=by omega
    have e1:decide ((k:Int)<(k:Int))=false:=by simp
    go_wp2
    go_ret
    exact ⟨_,rfl,hrw,hBr⟩
theorem two_cell {V:World} {g:Nat} {a b:Int} (h:Blk V g 3 #[.int .i64 a,.int .i64 b]):∀ j,j < [a,b].length→V.cell? ⟨g,j,none⟩=some (.int .i64 ([a,b][j]?.getD 0)):=by
 intro j hj
 have hj2:j=0∨j=1:=by simp at hj;omega
 rcases hj2 with rfl | rfl
 · exact h.cell 0
 · exact h.cell 1
end Go.Proofs.YtcchjofjpflbhaaGreatDoor.Ch

namespace Go.Proofs.YtcchjofjpflbhaaGreatDoor.Ch
open Go.RowKit Go.Shelf Go.Proofs.YtcchjofjpflbhaaGreatDoor.C Go.Proofs.YtcchjofjpflbhaaGreatDoor.E Go.Proofs.YtcchjofjpflbhaaGreatDoor.T

theorem few_len {s:List (List (List UInt8))} (h:Few6 s):s.length≤1000∧(∀ j i:Nat,(s[j]?.getD []).length≤1000∧((s[j]?.getD [])[i]?.getD []).length≤1000):=by
 refine ⟨by have:=h.1;omega,fun j i=>?_⟩
 rcases Nat.lt_or_ge j s.length with hj | hj
 · have h2:=h.2 j hj
   refine ⟨by have:=h2.1;omega,?_⟩
   rcases Nat.lt_or_ge i (s[j]?.getD []).length with hi | hi
   · have:=h2.2 i hi;omega
   · rw [List.getElem?_eq_none hi];exact Nat.zero_le _
 · rw [List.getElem?_eq_none hj]
   exact ⟨Nat.zero_le _,by simp⟩
theorem kept_good {Q n:Nat} {L:List Int} {css:List (List (List UInt8))} (h:∀ j,j<(kept L css css.length).length→GoodC Q n ((kept L css css.length)[j]?.getD [])):∀ i,i<css.length→(i:Int)∉L→GoodC Q n (css[i]?.getD []):=fun i hi hm=>by
 have hm2:css[i]?.getD []∈kept L css css.length:=kept_mem.2 ⟨i,hi,hm,rfl⟩
 obtain ⟨j,hj,e⟩:=List.mem_iff_getElem.1 hm2
 have h2:=h j hj
 rw [List.getElem?_eq_getElem hj] at h2
 have h3:GoodC Q n (kept L css css.length)[j]:=h2
 rwa [e] at h3
section
variable {P Q n:Nat} {x y:List (List (List UInt8))} {L:List Int}
end
end Go.Proofs.YtcchjofjpflbhaaGreatDoor.Ch

namespace Go.Proofs.YtcchjofjpflbhaaGreatDoor.T
open Go.RowKit Go.Shelf Go.Maps Go.Proofs.YtcchjofjpflbhaaGreatDoor.C Go.Proofs.YtcchjofjpflbhaaGreatDoor.E Go.Proofs.YtcchjofjpflbhaaGreatDoor.Ch Go.Proofs.YtcchjofjpflbhaaGreatDoor.Rg
attribute [local go_sem] Oper.semAt_some

theorem noughtF_any (n:Nat) (hn:n≤1000) (w:World):Calls Tryz.prog 89 #[.int .i64 (n:Int)] w fun e w'=>∃ A c,e = .returned (.slice A n c)∧Fresh w.heap.size w' (.slice A n c) (List.replicate n 0)∧Below w.heap.size w w':=by
 obtain ⟨i0,hi,hz0,hz1,hz2⟩:=info_parts Tryz.infoByte
 have hmk:=fun W:World=>run_make (P:=Tryz.prog) W 64 5 i0 (.int .u8 0) Tryz.underlying64 hi hz0 .i64 .i64 (n:Int) (n:Int) (by omega) (by omega) (by rw [hz2];omega) (by omega)
 simp only [hz1,Nat.mul_one,Int.toNat_natCast] at hmk
 have hR:=Row.made w n
 have hBz:=below_one w (.cells (madeCells #[.int .u8 0] n) 5)
 go_enter Tryz.func89,Tryz.ntmps89
 go_wp2
 go_ret
 refine ⟨_,_,rfl,?_,hBz⟩
 exact ⟨_,n,by rw [List.length_replicate],by rw [List.length_replicate];exact Nat.le_refl _,fun hp=>⟨w.heap.size,0,rfl,Nat.le_refl _,hR.lt,fun j hj=>by rw [Nat.zero_add];exact hR.cell hj⟩⟩
theorem no_take {Q n m:Nat} (hm:m<Q):(noC Q n).take (m+1)=(noC Q n).take m ++ [List.replicate n 0]:=by
 unfold noC
 rw [List.take_replicate,List.take_replicate,show min (m+1) Q=m+1 by omega,show min m Q=m by omega,List.replicate_succ']
theorem nought12_any {P Q n:Nat} (hQ:P=Q+1) (hP:P≤100) (hn:n≤1000) (w:World) :
 Calls Tryz.prog 66 #[.int .i64 (P:Int),.int .i64 (n:Int)] w fun e w'=>∃ u,e = .returned u∧Many w'.heap.size w' u (noC Q n)∧Below w.heap.size w w':=by
 have HNO:=Lib.hid (fun V=>noughtF_any n hn V)
 have hw1:IntKind.i64.wrap ((P:Int) - 1)=(Q:Int):=by rw [show (P:Int) - 1=(Q:Int) by omega];exact IntWalk.i64_in _ (by omega)
 have HL0:Hid ((noC Q n).length=Q):=by unfold Hid noC;simp
 have hQ100:Q≤100:=by omega
 clear hQ hP
 go_enter Tryz.func66,Tryz.ntmps66
 go_wp2_with fail
 go_loopw [5,6] (fun v i wr=>∃ m:Nat,m≤Q∧i = .int .i64 m∧RowM (fun _=>True) wr w.heap.size v ((noC Q n).take m)∧Below w.heap.size w wr) (fun _ i _=>Q - (intOf i).toNat)
 case atStart=>exact ⟨0,Nat.zero_le _,rfl,RowG.nil _ _ _ _ _ _,Below.refl _ _⟩
 case round =>
  obtain ⟨m,hm,rfl,hrw,hBr⟩:=hrel
  by_cases hlt:m<Q
  · have hdec:decide ((m:Int)<(Q:Int))=true:=by simp;omega
    have HNX:=Lib.hid (no_take (n:=n) hlt)
    have HPL:Hid (((noC Q n).take m).length≤1000):=by unfold Hid;rw [List.length_take,HL0.out];omega
    have HVLE:=Lib.hid (fun b e=>RowG.own_le hrw b e)
    have HVLT:=Lib.hid (fun b e=>E.RowG.own_lt hrw b e)
    have HRW:=Lib.hid hrw
    clear hrw
    generalize (noC Q n).take m=pre at *
    go_wp2_with fail
    refine (HNO.out _).mono ?_
    rintro e w1 ⟨uA,uc,rfl,hF,hB1⟩
    have hcells:Below w1.heap.size w1 (w1.alloc (.cells #[.slice uA n uc] 64)):=below_one w1 _
    have HROWC:=Lib.hid (RowG.below (RowG.below HRW.out hB1) hcells)
    have HBLK:=Lib.hid (Blk.new w1 64 #[.slice uA n uc])
    have HCP:Hid (BytesP (fun b=>b<(w1.alloc (.cells #[.slice uA n uc] 64)).heap.size∧some b≠u5.ownBlock∧True) (w1.alloc (.cells #[.slice uA n uc] 64)) (.slice uA n uc) (List.replicate n 0)) :=
     bytesR.imp (bytesR.keep (Fresh.toP2 (B:=0) hF) fun b hb=>hcells.block b hb.2) fun b hb=>⟨by have:=hb.2;simp;omega,fun e=>by have:=HVLT.out b e.symm;have:=hb.1;omega,trivial⟩
    have hBw1:=below_in hBr hB1
    have hz1:=hB1.size
    clear hF hB1
    go_wp2_with (at_builtin;refine wpList_pushM (T:=50) _ rfl _ _ rfl Tryz.underlying50 pre rfl HROWC.out w1.heap.size 64 _ (List.replicate n 0) rfl HBLK.out HCP.out (by have:=HPL.out;omega) (by have:=hBw1.size;simp;omega) ?_;intro v' w3 hrow4 hgrow hown)
    go_roundw
    case rel=>exact ⟨m+1,by omega,by go_num,by rw [HNX.out];exact hrow4,below_grown (below_in hBw1 hcells) hgrow (by have:=hBw1.size;simp;omega) (fun g e=>by have:=HVLE.out g e;omega)⟩
    case measure=>simp [intOf];omega
  · obtain rfl:m=Q:=by omega
    have hdec:decide ((m:Int)<(m:Int))=false:=by simp
    rw [List.take_of_length_le (by rw [HL0.out];exact Nat.le_refl _)] at hrw
    have HFM:=Lib.hid (Rg.RowM.many_ hrw)
    clear hrw
    go_wp2_with fail
    go_ret
    exact ⟨_,rfl,HFM.out,hBr⟩
end Go.Proofs.YtcchjofjpflbhaaGreatDoor.T

set_option linter.unusedVariables false
set_option linter.unusedSimpArgs false
set_option maxRecDepth 100000
set_option maxHeartbeats 400000
namespace Go.Proofs.YtcchjofjpflbhaaGreatDoor.Ch
open Go.RowKit Go.Shelf Go.Proofs.YtcchjofjpflbhaaGreatDoor.C Go.Proofs.YtcchjofjpflbhaaGreatDoor.E Go.Proofs.YtcchjofjpflbhaaGreatDoor.T

theorem two_small {Q n:Nat} {A B:List (List UInt8)} (hQ:Q≤1000) (gA:GoodC Q n A) (gB:GoodC Q n B):∀ j:Nat,(([A,B][j]?).getD []).length≤1000:=by
 intro j
 rcases j with _ | _ | j
 · show A.length≤1000;rw [gA.1];exact hQ
 · show B.length≤1000;rw [gB.1];exact hQ
 · simp
theorem sub_mod_ne {P:Nat} {a b:Int} (ha:0≤a) (hab:a<b) (hb:b<(P:Int)):(b - a) % (P:Int)≠0:=by rw [Int.emod_eq_of_lt (by omega) (by omega)];omega
theorem same_two {Q n:Nat} {A B:List (List UInt8)} (hQ:Q≤1000) (gA:GoodC Q n A) (gB:GoodC Q n B) (u v:Value) (W:World) (h1:Cols W.heap.size W u [A,B]) (h2:Cols W.heap.size W v [A,B]) :
 Calls Tryz.prog 27 #[u,v] W fun e w'=>e = .returned (.bool true)∧Below W.heap.size W w':=by
 have h:=same6_any u v [A,B] [A,B] W h1 h2 (Nat.le_refl _) (Nat.le_refl _) (two_small hQ gA gB) (two_small hQ gA gB) (by simp) (by simp)
 rwa [decide_eq_true rfl] at h
section
variable {P Q n:Nat} {x y:List (List (List UInt8))} {L:List Int}
end
end Go.Proofs.YtcchjofjpflbhaaGreatDoor.Ch

set_option linter.unusedVariables false
set_option linter.unusedSimpArgs false
set_option maxRecDepth 100000
set_option maxHeartbeats 8000000
namespace Go.Proofs.YtcchjofjpflbhaaGreatDoor.T
open Go.RowKit Go.Shelf Go.Maps Go.Proofs.YtcchjofjpflbhaaGreatDoor.C Go.Proofs.YtcchjofjpflbhaaGreatDoor.E Go.Proofs.YtcchjofjpflbhaaGreatDoor.Ch
attribute [local go_sem] Oper.semAt_some

theorem pRecover_no2 (p a b:Int) (vA:Option Addr) (N vc:Nat) (hno:¬ (p∈prm∧(N:Int)=p+1)) (w:World) (hL:Laid w) :
 Calls Tryz.prog 25 #[.int .i64 p,.slice vA N vc,.int .i64 a,.int .i64 b] w fun e w'=>e = .returned (.tuple #[.slice none 0 0,.int .i64 2])∧Below w.heap.size w w':=by
 obtain ⟨W2,hW2⟩:∃ x,(((w.alloc (.cells #[.int .i64 p] 3)).alloc (.cells #[.slice vA N vc] 40)).alloc (.cells #[.int .i64 a] 3)).alloc (.cells #[.int .i64 b] 3)=x:=⟨_,rfl⟩
 have b0:Blk W2 (w.heap.size) 3 #[.int .i64 p]:=by rw [←hW2];exact (((Blk.new w _ _).alloc _).alloc _).alloc _
 have b1:Blk W2 (w.heap.size+1) 40 #[.slice vA N vc]:=by rw [←hW2];exact ((Blk.second w _ _ _).alloc _).alloc _
 have b2:Blk W2 (w.heap.size+1+1) 3 #[.int .i64 a]:=by rw [←hW2];exact (Rg.Blk.at_ (Blk.new _ _ _) (by simp)).alloc _
 have b3:Blk W2 (w.heap.size+1+1+1) 3 #[.int .i64 b]:=by rw [←hW2];exact Rg.Blk.at_ (Blk.new _ _ _) (by simp)
 have hBW:Below w.heap.size w W2:=by rw [←hW2];exact (((below_two w _ _)).alloc (by simp;omega) _).alloc (by simp;omega) _
 obtain ⟨W2b,hW2b⟩:∃ x,w.heap.size=x:=⟨_,rfl⟩
 obtain ⟨W2c,hW2c⟩:∃ x,w.heap.size+1=x:=⟨_,rfl⟩
 obtain ⟨W2d,hW2d⟩:∃ x,w.heap.size+1+1=x:=⟨_,rfl⟩
 obtain ⟨W2e,hW2e⟩:∃ x,w.heap.size+1+1+1=x:=⟨_,rfl⟩
 have HA:=Lib.hid (Pr.ans_S_no 2 60 #[.pointer (some ⟨w.heap.size,0,none⟩),.pointer (some ⟨w.heap.size+1,0,none⟩),.pointer (some ⟨w.heap.size+1+1,0,none⟩),.pointer (some ⟨w.heap.size+1+1+1,0,none⟩)] W2 (enter_pRecover1 _) (fun U hU hltU=>by
  have hBU:=below_in hBW hU
  have HAS:=Lib.hid (fun (V:World) (g:Nat) (hV:Below U.heap.size U V) (bE:Blk V g 3 #[.int .i64 a,.int .i64 b])=>Pr.asked_no2 p vA (some ⟨g,0,none⟩) N vc 2 2 hno V (hL.next (below_in hBU hV)))
  have HSS:Hid (∀ V,Below U.heap.size U V→(fun U:World=>U.cell? ⟨W2b,0,none⟩=some (.int .i64 p)∧U.cell? ⟨W2c,0,none⟩=some (.slice vA N vc)∧U.cell? ⟨W2d,0,none⟩=some (.int .i64 a)∧U.cell? ⟨W2e,0,none⟩=some (.int .i64 b)) V):=by
   rw [←hW2b,←hW2c,←hW2d,←hW2e]
   exact fun V hV=>⟨((b0.below hU b0.lt).below hV (Nat.lt_of_lt_of_le b0.lt hU.size)).one,((b1.below hU b1.lt).below hV (Nat.lt_of_lt_of_le b1.lt hU.size)).one,((b2.below hU b2.lt).below hV (Nat.lt_of_lt_of_le b2.lt hU.size)).one,((b3.below hU b3.lt).below hV (Nat.lt_of_lt_of_le b3.lt hU.size)).one⟩
  have hBx:=(Below.refl U.heap.size U).drew
  rw [hW2e,hW2d,hW2c,hW2b]
  clear b0 b1 b2 b3 hW2 hL hW2e hW2d hW2c hW2b hno
  refine (callsIn_wide (n:=9)).1 ?_
  refine callsIn_of_wp_marks Tryz.func60 rfl trivial ?_ rfl
  simp only [Tryz.ntmps60,List.size_toArray,List.length_cons,List.length_nil,Nat.reduceAdd,Nat.reduceSub,Array.replicate_succ,Array.replicate_zero,List.push_toArray,List.append_toArray,List.nil_append,List.cons_append]
  gi_wp2_with fail
  have hS:(fun U:World=>U.cell? ⟨W2b,0,none⟩=some (.int .i64 p)∧U.cell? ⟨W2c,0,none⟩=some (.slice vA N vc)∧U.cell? ⟨W2d,0,none⟩=some (.int .i64 a)∧U.cell? ⟨W2e,0,none⟩=some (.int .i64 b)) U.drew:=HSS.out _ hBx
  refine wpIn_mono (region_HF (Q:=GaveP 2 U) (S:=(fun U:World=>U.cell? ⟨W2b,0,none⟩=some (.int .i64 p)∧U.cell? ⟨W2c,0,none⟩=some (.slice vA N vc)∧U.cell? ⟨W2d,0,none⟩=some (.int .i64 a)∧U.cell? ⟨W2e,0,none⟩=some (.int .i64 b))) (by kernel_rfl) ?_) (fun e a w' h=>by obtain ⟨rfl,hd,hB⟩:=h;obtain ⟨tm,df⟩:=a;have hd':df = []:=hd;subst hd';exact ⟨rfl,hB⟩)
  refine tkF (i:=0) (d:=5) (v:=.int .i64 p) (s:=hS) (c:=?_)
  simp only [ud9]
  refine tkF (i:=1) (d:=6) (v:=.slice vA N vc) (s:=hS) (c:=?_)
  simp only [ud9]
  refine tkF (i:=2) (d:=7) (v:=.int .i64 a) (s:=hS) (c:=?_)
  simp only [ud9]
  refine tkF (i:=3) (d:=8) (v:=.int .i64 b) (s:=hS) (c:=?_)
  simp only [ud9]
  refine tkF (i:=6) (d:=11) (v:=.slice vA N vc) (s:=hS) (c:=?_)
  simp only [ud9]
  refine oneF (i:=4) (c:=?_)
  have hgl_g2:=hBx.size
  have hB:Below U.drew.heap.size U.drew (U.drew.alloc (.cells #[.int .i64 a,.int .i64 b] 3)):=below_one U.drew _
  have bE:Blk (U.drew.alloc (.cells #[.int .i64 a,.int .i64 b] 3)) U.drew.heap.size 3 #[.int .i64 a,.int .i64 b]:=Blk.new U.drew _ _
  obtain ⟨v1,he_v1⟩:∃ x,(U.drew.alloc (.cells #[.int .i64 a,.int .i64 b] 3))=x:=⟨_,rfl⟩
  obtain ⟨g2,hg_g2⟩:∃ x,U.drew.heap.size=x:=⟨_,rfl⟩
  rw [he_v1] at hB bE
  rw [hg_g2] at bE
  replace hBx:=below_in hBx hB
  clear hS
  have hS:(fun U:World=>U.cell? ⟨W2b,0,none⟩=some (.int .i64 p)∧U.cell? ⟨W2c,0,none⟩=some (.slice vA N vc)∧U.cell? ⟨W2d,0,none⟩=some (.int .i64 a)∧U.cell? ⟨W2e,0,none⟩=some (.int .i64 b)) v1:=HSS.out _ hBx
  gi_wp2
  (try rw [hg_g2]);(try rw [he_v1])
  try (refine ⟨hS,?_⟩)
  clear hB he_v1 hg_g2
  refine oneF (i:=5) (c:=?_)
  gi_wp2_with fail
  refine ⟨trivial,(callsIn_wide.2 (HAS.out _ g2 hBx bE)).mono ?_⟩
  rintro e wp ⟨rfl,hB1⟩
  exact ⟨rfl,rfl,below_in hBx hB1⟩))
 clear b0 b1 b2 b3 hL hW2e hW2d hW2c hW2b hno
 go_enter Tryz.func25,Tryz.ntmps25
 have hmf:∀ (fn:Fn) (first cap:Array Value) (w:World),(Instr.makeFunc fn first cap).run Tryz.prog w = .ok (.func fn first cap) w:=fun _ _ _ _=>rfl
 go_wp2_with (go_at_call 59;refine HA.out.mono ?_;rintro e w1 ⟨rfl,hB1⟩)
 go_ret2
 exact ⟨rfl,below_in hBW hB1⟩
theorem pRecover_no4 (p a b:Int) (hp:p∈prm) (vA:Option Addr) (N vc:Nat) (hN:(N:Int)=p+1) (hno:¬ (0≤a∧a<b∧b<p)) (w:World) (hL:Laid w) :
 Calls Tryz.prog 25 #[.int .i64 p,.slice vA N vc,.int .i64 a,.int .i64 b] w fun e w'=>e = .returned (.tuple #[.slice none 0 0,.int .i64 4])∧Below w.heap.size w w':=by
 obtain ⟨W2,hW2⟩:∃ x,(((w.alloc (.cells #[.int .i64 p] 3)).alloc (.cells #[.slice vA N vc] 40)).alloc (.cells #[.int .i64 a] 3)).alloc (.cells #[.int .i64 b] 3)=x:=⟨_,rfl⟩
 have b0:Blk W2 (w.heap.size) 3 #[.int .i64 p]:=by rw [←hW2];exact (((Blk.new w _ _).alloc _).alloc _).alloc _
 have b1:Blk W2 (w.heap.size+1) 40 #[.slice vA N vc]:=by rw [←hW2];exact ((Blk.second w _ _ _).alloc _).alloc _
 have b2:Blk W2 (w.heap.size+1+1) 3 #[.int .i64 a]:=by rw [←hW2];exact (Rg.Blk.at_ (Blk.new _ _ _) (by simp)).alloc _
 have b3:Blk W2 (w.heap.size+1+1+1) 3 #[.int .i64 b]:=by rw [←hW2];exact Rg.Blk.at_ (Blk.new _ _ _) (by simp)
 have hBW:Below w.heap.size w W2:=by rw [←hW2];exact (((below_two w _ _)).alloc (by simp;omega) _).alloc (by simp;omega) _
 obtain ⟨W2b,hW2b⟩:∃ x,w.heap.size=x:=⟨_,rfl⟩
 obtain ⟨W2c,hW2c⟩:∃ x,w.heap.size+1=x:=⟨_,rfl⟩
 obtain ⟨W2d,hW2d⟩:∃ x,w.heap.size+1+1=x:=⟨_,rfl⟩
 obtain ⟨W2e,hW2e⟩:∃ x,w.heap.size+1+1+1=x:=⟨_,rfl⟩
 have HA:=Lib.hid (Pr.ans_S_no 4 60 #[.pointer (some ⟨w.heap.size,0,none⟩),.pointer (some ⟨w.heap.size+1,0,none⟩),.pointer (some ⟨w.heap.size+1+1,0,none⟩),.pointer (some ⟨w.heap.size+1+1+1,0,none⟩)] W2 (enter_pRecover1 _) (fun U hU hltU=>by
  have hBU:=below_in hBW hU
  obtain ⟨z,hz,hgood,hbad⟩:=bad_pr hno
  have HAS:=Lib.hid (fun (V:World) (g:Nat) (hV:Below U.heap.size U V) (bE:Blk V g 3 #[.int .i64 a,.int .i64 b])=>Pr.asked_no4 p hp vA N vc hN g [a,b] (by simp) z hz hgood hbad V (hL.next (below_in hBU hV)) bE.lt (ptwo bE))
  have HSS:Hid (∀ V,Below U.heap.size U V→(fun U:World=>U.cell? ⟨W2b,0,none⟩=some (.int .i64 p)∧U.cell? ⟨W2c,0,none⟩=some (.slice vA N vc)∧U.cell? ⟨W2d,0,none⟩=some (.int .i64 a)∧U.cell? ⟨W2e,0,none⟩=some (.int .i64 b)) V):=by
   rw [←hW2b,←hW2c,←hW2d,←hW2e]
   exact fun V hV=>⟨((b0.below hU b0.lt).below hV (Nat.lt_of_lt_of_le b0.lt hU.size)).one,((b1.below hU b1.lt).below hV (Nat.lt_of_lt_of_le b1.lt hU.size)).one,((b2.below hU b2.lt).below hV (Nat.lt_of_lt_of_le b2.lt hU.size)).one,((b3.below hU b3.lt).below hV (Nat.lt_of_lt_of_le b3.lt hU.size)).one⟩
  have hBx:=(Below.refl U.heap.size U).drew
  rw [hW2e,hW2d,hW2c,hW2b]
  clear b0 b1 b2 b3 hW2 hL hW2e hW2d hW2c hW2b hno hp hN
  refine (callsIn_wide (n:=9)).1 ?_
  refine callsIn_of_wp_marks Tryz.func60 rfl trivial ?_ rfl
  simp only [Tryz.ntmps60,List.size_toArray,List.length_cons,List.length_nil,Nat.reduceAdd,Nat.reduceSub,Array.replicate_succ,Array.replicate_zero,List.push_toArray,List.append_toArray,List.nil_append,List.cons_append]
  gi_wp2_with fail
  have hS:(fun U:World=>U.cell? ⟨W2b,0,none⟩=some (.int .i64 p)∧U.cell? ⟨W2c,0,none⟩=some (.slice vA N vc)∧U.cell? ⟨W2d,0,none⟩=some (.int .i64 a)∧U.cell? ⟨W2e,0,none⟩=some (.int .i64 b)) U.drew:=HSS.out _ hBx
  refine wpIn_mono (region_HF (Q:=GaveP 4 U) (S:=(fun U:World=>U.cell? ⟨W2b,0,none⟩=some (.int .i64 p)∧U.cell? ⟨W2c,0,none⟩=some (.slice vA N vc)∧U.cell? ⟨W2d,0,none⟩=some (.int .i64 a)∧U.cell? ⟨W2e,0,none⟩=some (.int .i64 b))) (by kernel_rfl) ?_) (fun e a w' h=>by obtain ⟨rfl,hd,hB⟩:=h;obtain ⟨tm,df⟩:=a;have hd':df = []:=hd;subst hd';exact ⟨rfl,hB⟩)
  refine tkF (i:=0) (d:=5) (v:=.int .i64 p) (s:=hS) (c:=?_)
  simp only [ud9]
  refine tkF (i:=1) (d:=6) (v:=.slice vA N vc) (s:=hS) (c:=?_)
  simp only [ud9]
  refine tkF (i:=2) (d:=7) (v:=.int .i64 a) (s:=hS) (c:=?_)
  simp only [ud9]
  refine tkF (i:=3) (d:=8) (v:=.int .i64 b) (s:=hS) (c:=?_)
  simp only [ud9]
  refine tkF (i:=6) (d:=11) (v:=.slice vA N vc) (s:=hS) (c:=?_)
  simp only [ud9]
  refine oneF (i:=4) (c:=?_)
  have hgl_g2:=hBx.size
  have hB:Below U.drew.heap.size U.drew (U.drew.alloc (.cells #[.int .i64 a,.int .i64 b] 3)):=below_one U.drew _
  have bE:Blk (U.drew.alloc (.cells #[.int .i64 a,.int .i64 b] 3)) U.drew.heap.size 3 #[.int .i64 a,.int .i64 b]:=Blk.new U.drew _ _
  obtain ⟨v1,he_v1⟩:∃ x,(U.drew.alloc (.cells #[.int .i64 a,.int .i64 b] 3))=x:=⟨_,rfl⟩
  obtain ⟨g2,hg_g2⟩:∃ x,U.drew.heap.size=x:=⟨_,rfl⟩
  rw [he_v1] at hB bE
  rw [hg_g2] at bE
  replace hBx:=below_in hBx hB
  clear hS
  have hS:(fun U:World=>U.cell? ⟨W2b,0,none⟩=some (.int .i64 p)∧U.cell? ⟨W2c,0,none⟩=some (.slice vA N vc)∧U.cell? ⟨W2d,0,none⟩=some (.int .i64 a)∧U.cell? ⟨W2e,0,none⟩=some (.int .i64 b)) v1:=HSS.out _ hBx
  gi_wp2
  (try rw [hg_g2]);(try rw [he_v1])
  try (refine ⟨hS,?_⟩)
  clear hB he_v1 hg_g2
  refine oneF (i:=5) (c:=?_)
  gi_wp2_with fail
  refine ⟨trivial,(callsIn_wide.2 (HAS.out _ g2 hBx bE)).mono ?_⟩
  rintro e wp ⟨rfl,hB1⟩
  exact ⟨rfl,rfl,below_in hBx hB1⟩))
 clear b0 b1 b2 b3 hL hW2e hW2d hW2c hW2b hno hp hN
 go_enter Tryz.func25,Tryz.ntmps25
 have hmf:∀ (fn:Fn) (first cap:Array Value) (w:World),(Instr.makeFunc fn first cap).run Tryz.prog w = .ok (.func fn first cap) w:=fun _ _ _ _=>rfl
 go_wp2_with (go_at_call 59;refine HA.out.mono ?_;rintro e w1 ⟨rfl,hB1⟩)
 go_ret2
 exact ⟨rfl,below_in hBW hB1⟩
theorem pRecover_noK {B:Nat} (P Q:Nat) (hQ:P=Q+1) (a b:Int) (hp:(P:Int)∈prm) (ha:0≤a) (hab:a<b) (hb:b<(P:Int)) (css:List (List (List UInt8))) (N:Nat) (hcl:css.length=N) (vA:Option Addr) (vc:Nat) (hN:N=P+1) (hsm:∀ j,j<css.length→(css[j]?.getD []).length≤1000) (hno:¬ RightD (P:Int) (kept [a,b] css css.length)) (w:World) (hL:Laid w) (hB:B≤w.heap.size) (hC:Cols B w (.slice vA N vc) css) :
 Calls Tryz.prog 25 #[.int .i64 (P:Int),.slice vA N vc,.int .i64 a,.int .i64 b] w fun e w'=>e = .returned (.tuple #[.slice none 0 0,.int .i64 2])∧Below w.heap.size w w':=by
 obtain ⟨W2,hW2⟩:∃ x,(((w.alloc (.cells #[.int .i64 (P:Int)] 3)).alloc (.cells #[.slice vA N vc] 40)).alloc (.cells #[.int .i64 a] 3)).alloc (.cells #[.int .i64 b] 3)=x:=⟨_,rfl⟩
 have b0:Blk W2 (w.heap.size) 3 #[.int .i64 (P:Int)]:=by rw [←hW2];exact (((Blk.new w _ _).alloc _).alloc _).alloc _
 have b1:Blk W2 (w.heap.size+1) 40 #[.slice vA N vc]:=by rw [←hW2];exact ((Blk.second w _ _ _).alloc _).alloc _
 have b2:Blk W2 (w.heap.size+1+1) 3 #[.int .i64 a]:=by rw [←hW2];exact (Rg.Blk.at_ (Blk.new _ _ _) (by simp)).alloc _
 have b3:Blk W2 (w.heap.size+1+1+1) 3 #[.int .i64 b]:=by rw [←hW2];exact Rg.Blk.at_ (Blk.new _ _ _) (by simp)
 have hBW:Below w.heap.size w W2:=by rw [←hW2];exact (((below_two w _ _)).alloc (by simp;omega) _).alloc (by simp;omega) _
 obtain ⟨W2b,hW2b⟩:∃ x,w.heap.size=x:=⟨_,rfl⟩
 obtain ⟨W2c,hW2c⟩:∃ x,w.heap.size+1=x:=⟨_,rfl⟩
 obtain ⟨W2d,hW2d⟩:∃ x,w.heap.size+1+1=x:=⟨_,rfl⟩
 obtain ⟨W2e,hW2e⟩:∃ x,w.heap.size+1+1+1=x:=⟨_,rfl⟩
 have HA:=Lib.hid (Pr.ans_S_no 2 60 #[.pointer (some ⟨w.heap.size,0,none⟩),.pointer (some ⟨w.heap.size+1,0,none⟩),.pointer (some ⟨w.heap.size+1+1,0,none⟩),.pointer (some ⟨w.heap.size+1+1+1,0,none⟩)] W2 (enter_pRecover1 _) (fun U hU hltU=>by
  have hBU:=below_in hBW hU
  have hpb:=prm_bounds hp
  have HAS:=Lib.hid (fun (V:World) (g:Nat) (hV:Below U.heap.size U V) (bE:Blk V g 3 #[.int .i64 a,.int .i64 b])=>Pr.asked_yes (P:Int) hp vA N vc (by omega) g [a,b] (by simp) (good_pr ha hab hb) V (hL.next (below_in hBU hV)) bE.lt (ptwo bE))
  have HOF:=Lib.hid (fun (V:World) (g:Nat) (hV:Below U.heap.size U V) (bE:Blk V g 3 #[.int .i64 a,.int .i64 b])=>(by
   have h:=pOf_no (B:=B) P Q hQ hp [a,b] [] ⟨by simp,by simp⟩ (by simp) g css N hcl (by omega) (by omega) vA vc none 0 V (hL.next (below_in hBU hV)) (Nat.le_trans hB (below_in hBU hV).size) bE.lt (ptwo bE) (.inl ⟨rfl,rfl⟩) (hC.below ((below_in hBU hV).mono hB)) hsm (by rw [List.append_nil];exact hno)
   exact h:Calls Tryz.prog 62 #[.agg #[.int .i64 2,.int .i64 (P:Int),.slice (some ⟨g,0,none⟩) 2 2],.slice vA N vc,.slice none 0 0] V fun e w'=>e = .panicked (Pr.gave 2)∧Below V.heap.size V w'))
  have HSS:Hid (∀ V,Below U.heap.size U V→(fun U:World=>U.cell? ⟨W2b,0,none⟩=some (.int .i64 (P:Int))∧U.cell? ⟨W2c,0,none⟩=some (.slice vA N vc)∧U.cell? ⟨W2d,0,none⟩=some (.int .i64 a)∧U.cell? ⟨W2e,0,none⟩=some (.int .i64 b)) V):=by
   rw [←hW2b,←hW2c,←hW2d,←hW2e]
   exact fun V hV=>⟨((b0.below hU b0.lt).below hV (Nat.lt_of_lt_of_le b0.lt hU.size)).one,((b1.below hU b1.lt).below hV (Nat.lt_of_lt_of_le b1.lt hU.size)).one,((b2.below hU b2.lt).below hV (Nat.lt_of_lt_of_le b2.lt hU.size)).one,((b3.below hU b3.lt).below hV (Nat.lt_of_lt_of_le b3.lt hU.size)).one⟩
  have hBx:=(Below.refl U.heap.size U).drew
  rw [hW2e,hW2d,hW2c,hW2b]
  clear b0 b1 b2 b3 hW2 hL hW2e hW2d hW2c hW2b hno hp ha hab hb hcl hN hsm hC hB hQ
  refine (callsIn_wide (n:=9)).1 ?_
  refine callsIn_of_wp_marks Tryz.func60 rfl trivial ?_ rfl
  simp only [Tryz.ntmps60,List.size_toArray,List.length_cons,List.length_nil,Nat.reduceAdd,Nat.reduceSub,Array.replicate_succ,Array.replicate_zero,List.push_toArray,List.append_toArray,List.nil_append,List.cons_append]
  gi_wp2_with fail
  have hS:(fun U:World=>U.cell? ⟨W2b,0,none⟩=some (.int .i64 (P:Int))∧U.cell? ⟨W2c,0,none⟩=some (.slice vA N vc)∧U.cell? ⟨W2d,0,none⟩=some (.int .i64 a)∧U.cell? ⟨W2e,0,none⟩=some (.int .i64 b)) U.drew:=HSS.out _ hBx
  refine wpIn_mono (region_HF (Q:=GaveP 2 U) (S:=(fun U:World=>U.cell? ⟨W2b,0,none⟩=some (.int .i64 (P:Int))∧U.cell? ⟨W2c,0,none⟩=some (.slice vA N vc)∧U.cell? ⟨W2d,0,none⟩=some (.int .i64 a)∧U.cell? ⟨W2e,0,none⟩=some (.int .i64 b))) (by kernel_rfl) ?_) (fun e a w' h=>by obtain ⟨rfl,hd,hB⟩:=h;obtain ⟨tm,df⟩:=a;have hd':df = []:=hd;subst hd';exact ⟨rfl,hB⟩)
  refine tkF (i:=0) (d:=5) (v:=.int .i64 (P:Int)) (s:=hS) (c:=?_)
  simp only [ud9]
  refine tkF (i:=1) (d:=6) (v:=.slice vA N vc) (s:=hS) (c:=?_)
  simp only [ud9]
  refine tkF (i:=2) (d:=7) (v:=.int .i64 a) (s:=hS) (c:=?_)
  simp only [ud9]
  refine tkF (i:=3) (d:=8) (v:=.int .i64 b) (s:=hS) (c:=?_)
  simp only [ud9]
  refine tkF (i:=6) (d:=11) (v:=.slice vA N vc) (s:=hS) (c:=?_)
  simp only [ud9]
  refine oneF (i:=4) (c:=?_)
  have hgl_g2:=hBx.size
  have hB:Below U.drew.heap.size U.drew (U.drew.alloc (.cells #[.int .i64 a,.int .i64 b] 3)):=below_one U.drew _
  have bE:Blk (U.drew.alloc (.cells #[.int .i64 a,.int .i64 b] 3)) U.drew.heap.size 3 #[.int .i64 a,.int .i64 b]:=Blk.new U.drew _ _
  obtain ⟨v1,he_v1⟩:∃ x,(U.drew.alloc (.cells #[.int .i64 a,.int .i64 b] 3))=x:=⟨_,rfl⟩
  obtain ⟨g2,hg_g2⟩:∃ x,U.drew.heap.size=x:=⟨_,rfl⟩
  rw [he_v1] at hB bE
  rw [hg_g2] at bE
  replace hBx:=below_in hBx hB
  clear hS
  have hS:(fun U:World=>U.cell? ⟨W2b,0,none⟩=some (.int .i64 (P:Int))∧U.cell? ⟨W2c,0,none⟩=some (.slice vA N vc)∧U.cell? ⟨W2d,0,none⟩=some (.int .i64 a)∧U.cell? ⟨W2e,0,none⟩=some (.int .i64 b)) v1:=HSS.out _ hBx
  gi_wp2
  (try rw [hg_g2]);(try rw [he_v1])
  try (refine ⟨hS,?_⟩)
  clear hB he_v1 hg_g2
  refine oneF (i:=5) (c:=?_)
  gi_wp2_with fail
  refine ⟨trivial,(callsIn_wide.2 (HAS.out _ g2 hBx bE)).mono ?_⟩
  rintro e v3 ⟨rfl,hB⟩
  replace bE:=bE.below hB bE.lt
  replace hBx:=below_in hBx hB
  clear hS
  have hS:(fun U:World=>U.cell? ⟨W2b,0,none⟩=some (.int .i64 (P:Int))∧U.cell? ⟨W2c,0,none⟩=some (.slice vA N vc)∧U.cell? ⟨W2d,0,none⟩=some (.int .i64 a)∧U.cell? ⟨W2e,0,none⟩=some (.int .i64 b)) v3:=HSS.out _ hBx
  clear hB
  gi_wp2
  try (refine ⟨hS,?_⟩)
  refine oneF (i:=7) (c:=?_)
  gi_wp2_with fail
  refine ⟨trivial,(callsIn_wide.2 (HOF.out _ g2 hBx bE)).mono ?_⟩
  rintro e wp ⟨rfl,hB1⟩
  exact ⟨rfl,rfl,below_in hBx hB1⟩))
 clear b0 b1 b2 b3 hL hW2e hW2d hW2c hW2b hno hp ha hab hb hcl hN hsm hC hB hQ
 go_enter Tryz.func25,Tryz.ntmps25
 have hmf:∀ (fn:Fn) (first cap:Array Value) (w:World),(Instr.makeFunc fn first cap).run Tryz.prog w = .ok (.func fn first cap) w:=fun _ _ _ _=>rfl
 go_wp2_with (go_at_call 59;refine HA.out.mono ?_;rintro e w1 ⟨rfl,hB1⟩)
 go_ret2
 exact ⟨rfl,below_in hBW hB1⟩
end Go.Proofs.YtcchjofjpflbhaaGreatDoor.T

namespace Go.Proofs.YtcchjofjpflbhaaGreatDoor.T
open Go.RowKit Go.Shelf Go.Maps Go.Proofs.YtcchjofjpflbhaaGreatDoor.C Go.Proofs.YtcchjofjpflbhaaGreatDoor.E Go.Proofs.YtcchjofjpflbhaaGreatDoor.Ch Go.Proofs.YtcchjofjpflbhaaGreatDoor.Rg
attribute [local go_sem] Oper.semAt_some

theorem left_take_ (n:Nat) (c:List (List UInt8)) {m:Nat} (hm:m<c.length):xors (List.replicate n 0) (c.take (m+1))=xorB (xors (List.replicate n 0) (c.take m)) (c[m]?.getD []):=by
 rw [List.take_succ_eq_append_getElem hm,List.getElem?_eq_getElem hm]
 unfold xors
 rw [List.foldl_append]
 rfl
theorem whole_take (n:Nat) (c:List (List UInt8)) {m:Nat} (hm:m<c.length):(wholeD n c).take (m+1)=(wholeD n c).take m ++ [xorB (c[m]?.getD []) (leftD n c)]:=by
 have hl:(wholeD n c).length=c.length:=by unfold wholeD;rw [List.length_map]
 rw [List.take_succ_eq_append_getElem (by omega),List.getElem?_eq_getElem hm]
 congr 2
 unfold wholeD
 rw [List.getElem_map]
 rfl
theorem whole12_any {Q n:Nat} (h1:1≤n) (h64:n≤64) (hQ:1≤Q∧Q≤100) (c:List (List UInt8)) (gc:GoodC Q n c) (cA:Option Addr) (ck:Nat) (w:World) (hc:Many w.heap.size w (.slice cA Q ck) c) :
 Calls Tryz.prog 67 #[.slice cA Q ck] w fun e w'=>∃ u,e = .returned u∧Many w'.heap.size w' u (wholeD n c)∧Below w.heap.size w w':=by
 have HNO:=Lib.hid (fun V=>noughtF_any n (by omega) V)
 have hc':Many w.heap.size w (.slice cA c.length ck) c:=by rw [gc.1];exact hc
 obtain ⟨gd,od,rfl,hgd,hrD⟩:=many_at hc' (by rw [gc.1];omega)
 have HDC:Hid (∀ i,i<Q→∃ uA uc,w.cell? ⟨gd,od+i,none⟩=some (.slice uA n uc)∧Bytes w.heap.size w (.slice uA n uc) (c[i]?.getD [])):=fun i hi=>by
  obtain ⟨uA,uc,h1,h2⟩:=hrD i (by rw [gc.1];exact hi)
  rw [(gc.2 i hi).2] at h1 h2
  exact ⟨uA,uc,h1,h2⟩
 have HLC:=Lib.hid gc.1
 have HLN:Hid (∀ i,i<Q→(c[i]?.getD []).length=n):=fun i hi=>(gc.2 i hi).2
 have HLD:=Lib.hid (leftD_len gc)
 have HLT:Hid (∀ m,m<Q→xors (List.replicate n 0) (c.take (m+1))=xorB (xors (List.replicate n 0) (c.take m)) (c[m]?.getD [])):=fun m hm=>left_take_ n c (by rw [gc.1];exact hm)
 have HWT:Hid (∀ m,m<Q→(wholeD n c).take (m+1)=(wholeD n c).take m ++ [xorB (c[m]?.getD []) (leftD n c)]):=fun m hm=>whole_take n c (by rw [gc.1];exact hm)
 have HWL:Hid ((wholeD n c).length=Q):=by unfold Hid wholeD;rw [List.length_map];exact gc.1
 have HXL:Hid (∀ m,(xors (List.replicate n 0) (c.take m)).length=n):=fun m=>by rw [xors_len];simp
 have HFULL:Hid (xors (List.replicate n 0) (c.take Q)=leftD n c):=by unfold Hid leftD;rw [List.take_of_length_le (by rw [gc.1];exact Nat.le_refl _)]
 have hc0:=HDC.out 0 (by omega)
 obtain ⟨u0,k0,hu0,_⟩:=hc0
 rw [Nat.add_zero] at hu0
 have iQ:(0:Int)<(Q:Int):=by omega
 have hQ100:=hQ.2
 clear hc hc' hrD gc hQ
 go_enter Tryz.func67,Tryz.ntmps67
 go_wp2_with fail
 refine (HNO.out _).mono ?_
 rintro e w1 ⟨lA,lc,rfl,hF,hB1⟩
 have hL1:Bytes w1.heap.size w1 (.slice lA n lc) (xors (List.replicate n 0) (c.take 0)):=bytesR.imp (Fresh.toP2 (B:=0) hF) fun b hb=>hb.2
 clear hu0 hF
 go_wp2_with fail
 go_loopw [3,4] (fun v i wr=>∃ m:Nat,m≤Q∧i = .int .i64 m∧(∃ vA vc,v = .slice vA n vc∧Bytes wr.heap.size wr v (xors (List.replicate n 0) (c.take m)))∧Below w.heap.size w wr) (fun _ i _=>Q - (intOf i).toNat)
 case atStart=>exact ⟨0,Nat.zero_le _,rfl,⟨lA,lc,rfl,hL1⟩,hB1⟩
 case round =>
  clear hL1 hB1
  obtain ⟨m,hm,rfl,⟨vA,vc,rfl,hv⟩,hBr⟩:=hrel
  by_cases hlt:m<Q
  · have hdec:decide ((m:Int)<(Q:Int))=true:=by simp;omega
    obtain ⟨uA,uc,hcu,hbu⟩:=HDC.out m hlt
    have hc2:=(hBr.cell (p:=⟨gd,od+m,none⟩) hgd).trans hcu
    have hb2:=(hbu.below hBr).more hBr.size
    have i1:(0:Int)≤(m:Int):=by omega
    have i2:(m:Int)<(Q:Int):=by omega
    have HP:=Lib.hid (rput_any (.slice vA n vc) (.slice uA n uc) _ _ wr hv hb2 (by rw [HXL.out,HLN.out m hlt];exact Nat.le_refl _) (by rw [HXL.out];omega))
    have HNX:=Lib.hid (HLT.out m hlt)
    have HBR:=Lib.hid hBr
    clear hv hb2 hbu hcu
    go_wp2_with fail
    refine HP.out.mono ?_
    rintro e w3 ⟨v',rfl,hown,hB3⟩
    have hF3:=hown.fresh
    obtain ⟨A3,c3,rfl,_⟩:=id hF3
    have HLX:Hid ((xorB (xors (List.replicate n 0) (c.take m)) (c[m]?.getD [])).length=n):=by unfold Hid;rw [xorB_len];exact HXL.out m
    rw [HLX.out] at hF3 ⊢
    have HF3:=Lib.hid (And.intro hF3 (below_in hBr hB3))
    clear hown hF3 hB3 hc2
    go_wp2_with fail
    go_roundw
    case rel=>exact ⟨m+1,by omega,by go_num,⟨A3,c3,rfl,by rw [HNX.out];exact bytesR.imp (Fresh.toP2 (B:=0) HF3.out.1) fun b hb=>hb.2⟩,HF3.out.2⟩
    case measure=>simp [intOf];omega
  · obtain rfl:m=Q:=by omega
    have hdec:decide ((m:Int)<(m:Int))=false:=by simp
    rw [HFULL.out] at hv
    obtain ⟨wz,hwz⟩:∃ x,x=wr:=⟨_,rfl⟩
    subst hwz
    have HV:=Lib.hid hv
    clear hv
    go_wp2_with fail
    go_loopw [5,6] (fun v i wx=>∃ k:Nat,k≤m∧i = .int .i64 k∧RowM (fun _=>True) wx wz.heap.size v ((wholeD n c).take k)∧Below wz.heap.size wz wx) (fun _ i _=>m - (intOf i).toNat)
    case atStart=>exact ⟨0,Nat.zero_le _,rfl,RowG.nil _ _ _ _ _ _,Below.refl _ _⟩
    case round =>
     obtain ⟨k,hk,rfl,hrw,hBx⟩:=hrel
     by_cases hlt2:k<m
     · have hdec2:decide ((k:Int)<(m:Int))=true:=by simp;omega
       have hBwx:=below_in hBr hBx
       obtain ⟨uA,uc,hcu,hbu⟩:=HDC.out k hlt2
       have hc2:=(hBwx.cell (p:=⟨gd,od+k,none⟩) hgd).trans hcu
       have hb2:=(hbu.below hBwx).more hBwx.size
       have i1:(0:Int)≤(k:Int):=by omega
       have i2:(k:Int)<(m:Int):=by omega
       have HP:=Lib.hid (rput_any (.slice uA n uc) (.slice vA n vc) _ _ wr hb2 ((HV.out.below hBx).more hBx.size) (by rw [HLN.out k hlt2,HLD.out];exact Nat.le_refl _) (by rw [HLN.out k hlt2];omega))
       have HNX:=Lib.hid (HWT.out k hlt2)
       have HPL:Hid (((wholeD n c).take k).length≤1000):=by unfold Hid;rw [List.length_take,HWL.out];omega
       have HVLE:=Lib.hid (fun b e=>RowG.own_le hrw b e)
       have HVLT:=Lib.hid (fun b e=>E.RowG.own_lt hrw b e)
       have HRW:=Lib.hid hrw
       have HLX:Hid ((xorB (c[k]?.getD []) (leftD n c)).length=n):=by unfold Hid;rw [xorB_len];exact HLN.out k hlt2
       clear hrw hb2 hbu hcu
       generalize (wholeD n c).take k=pre at *
       generalize xorB (c[k]?.getD []) (leftD n c)=xx1 at *
       go_wp2_with fail
       refine HP.out.mono ?_
       rintro e w3 ⟨v',rfl,hown,hB3⟩
       have hF3:=hown.fresh
       obtain ⟨A3,c3,rfl,_⟩:=id hF3
       rw [HLX.out] at hF3 ⊢
       have hcells:Below w3.heap.size w3 (w3.alloc (.cells #[.slice A3 n c3] 64)):=below_one w3 _
       have HROWC:=Lib.hid (RowG.below (RowG.below HRW.out hB3) hcells)
       have HBLK:=Lib.hid (Blk.new w3 64 #[.slice A3 n c3])
       have HCP:Hid (BytesP (fun b=>b<(w3.alloc (.cells #[.slice A3 n c3] 64)).heap.size∧some b≠u5.ownBlock∧True) (w3.alloc (.cells #[.slice A3 n c3] 64)) (.slice A3 n c3) xx1) :=
        bytesR.imp (bytesR.keep (Fresh.toP2 (B:=0) hF3) fun b hb=>hcells.block b hb.2) fun b hb=>⟨by have:=hb.2;simp;omega,fun e=>by have:=HVLT.out b e.symm;have:=hb.1;omega,trivial⟩
       have hBx3:=below_in hBx hB3
       have hz3:=hB3.size
       clear hF3 hown hB3 hc2
       go_wp2_with (at_builtin;refine wpList_pushM (T:=50) _ rfl _ _ rfl Tryz.underlying50 pre rfl HROWC.out w3.heap.size 64 _ xx1 rfl HBLK.out HCP.out (by have:=HPL.out;omega) (by have:=hBx3.size;simp;omega) ?_;intro v2 w4 hrow4 hgrow hown2)
       go_roundw
       case rel=>exact ⟨k+1,by omega,by go_num,by rw [HNX.out];exact hrow4,below_grown (below_in hBx3 hcells) hgrow (by have:=hBx3.size;simp;omega) (fun g e=>by have:=HVLE.out g e;omega)⟩
       case measure=>simp [intOf];omega
     · obtain rfl:k=m:=by omega
       have hdec2:decide ((k:Int)<(k:Int))=false:=by simp
       rw [List.take_of_length_le (by rw [HWL.out];exact Nat.le_refl _)] at hrw
       have HFM:=Lib.hid (Rg.RowM.many_ hrw)
       have hBwx:=below_in hBr hBx
       clear hrw
       go_wp2_with fail
       go_ret
       exact ⟨_,rfl,HFM.out,hBwx⟩
end Go.Proofs.YtcchjofjpflbhaaGreatDoor.T

namespace Go.Proofs.YtcchjofjpflbhaaGreatDoor.T
open Go.RowKit Go.Shelf Go.Maps Go.Proofs.YtcchjofjpflbhaaGreatDoor.C Go.Proofs.YtcchjofjpflbhaaGreatDoor.E Go.Proofs.YtcchjofjpflbhaaGreatDoor.Ch Go.Proofs.YtcchjofjpflbhaaGreatDoor.Rg
attribute [local go_sem] Oper.semAt_some

theorem recover12_any {B P Q n:Nat} (d:Dims P Q n) (a b:Int) (ha:0≤a) (hab:a<b) (hb:b<(P:Int)) (css:List (List (List UInt8))) (N:Nat) (hcl:css.length=N) (hN:N=P+1) (hgood:∀ i,i<css.length→(i:Int)∉[a,b]→GoodC Q n (css[i]?.getD [])) (vA:Option Addr) (vc:Nat) (w:World) (hB:B≤w.heap.size) (hC:Cols B w (.slice vA N vc) css)
 (R D:List (List UInt8)) (hR:sumsD P Q n css (noC Q n) [a,b] 0 P=R) (hD:sumsD P Q n css (wholeD n (css[P]?.getD [])) [a,b] 1 P=D) :
 Calls Tryz.prog 28 #[.int .i64 (P:Int),.slice vA N vc,.int .i64 a,.int .i64 b] w fun e w'=>∃ g,e = .returned (.slice (some ⟨g,0,none⟩) 2 2)∧Cols w'.heap.size w' (.slice (some ⟨g,0,none⟩) 2 2) [putC R (secC P Q n R D a b),secC P Q n R D a b]∧Below w.heap.size w w':=by
 have hpb:=prm_bounds d.hp
 have hQP:=d.hQ
 have gP:=hgood P (by omega) (by simp;omega)
 have gN:=noC_good (Q:=Q) d.h1 d.h64
 have gW:=wholeD_good d gP
 have gR:GoodC Q n R:=by rw [←hR];exact sumsD_good d gN P
 have gD:GoodC Q n D:=by rw [←hD];exact sumsD_good d gW P
 have hba:(b - a) % (P:Int)≠0:=by rw [Int.emod_eq_of_lt (by omega) (by omega)];omega
 obtain ⟨gl,go,vc',hve,hcapN,hgl,hrow⟩:=hC.at_ (by omega)
 injection hve with e1 e2 e3
 subst e1 e3
 clear e2
 obtain ⟨uP,hcP,hmP⟩:=hrow P (by omega)
 obtain ⟨AP,kP,rfl,_,_⟩:=id hmP
 obtain ⟨gp,opp,rfl,hgp,hrp⟩:=many_at hmP (by rw [gP.1];omega)
 obtain ⟨A0,c0,hc0,_⟩:=hrp 0 (by rw [gP.1];omega)
 rw [(gP.2 0 (by omega)).2,Nat.add_zero] at hc0
 rw [gP.1] at hcP hmP
 have HN0:=Lib.hid (fun (V:World)=>nought12_any (P:=P) (Q:=Q) (n:=n) hQP (by omega) (by have:=d.h64;omega) V)
 have HWH:=Lib.hid (fun (V:World) (hV:Below w.heap.size w V)=>whole12_any (Q:=Q) d.h1 d.h64 (by omega) (css[P]?.getD []) gP (some ⟨gp,opp,none⟩) kP V ((hmP.below (hV.mono hB)).more (Nat.le_trans hB hV.size)))
 have HSR:=Lib.hid (fun (V:World) (g:Nat) (fv:Value) (hV:Below w.heap.size w V) (bE:Blk V g 3 #[.int .i64 a,.int .i64 b]) (hF:Many V.heap.size V fv (noC Q n))=>sums11_any (B:=B) d g 2 [a,b] (by simp) 0 (by omega) css N hcl (by omega) (fun c hc hm=>hgood c (by omega) hm) (noC Q n) gN fv (some ⟨gl,go,none⟩) vc V (Nat.le_trans hB hV.size) bE.lt (two_cell bE) (hC.below (hV.mono hB)) hF)
 have HSD:=Lib.hid (fun (V:World) (g:Nat) (fv:Value) (hV:Below w.heap.size w V) (bE:Blk V g 3 #[.int .i64 a,.int .i64 b]) (hF:Many V.heap.size V fv (wholeD n (css[P]?.getD [])))=>sums11_any (B:=B) d g 2 [a,b] (by simp) 1 (by omega) css N hcl (by omega) (fun c hc hm=>hgood c (by omega) hm) (wholeD n (css[P]?.getD [])) gW fv (some ⟨gl,go,none⟩) vc V (Nat.le_trans hB hV.size) bE.lt (two_cell bE) (hC.below (hV.mono hB)) hF)
 rw [hR] at HSR
 rw [hD] at HSD
 have HKP:=Lib.hid (fun (V:World) (hV:Below w.heap.size w V)=>(⟨(hV.cell (p:=⟨gl,go+P,none⟩) (Nat.lt_of_lt_of_le hgl hB)).trans hcP,(hV.cell (p:=⟨gp,opp,none⟩) (Nat.lt_of_lt_of_le hgp hB)).trans hc0⟩:V.cell? ⟨gl,go+P,none⟩=some (.slice (some ⟨gp,opp,none⟩) Q kP)∧V.cell? ⟨gp,opp,none⟩=some (.slice A0 n c0)))
 have HT1:=Lib.hid (fun (V:World) (v:Value) (h:Many V.heap.size V v R)=>turnD_any d a (by omega) (by omega) R gR v V h)
 have HP1:=Lib.hid (fun (V:World) (u v:Value) (h:Many V.heap.size V u D) (h2:Many V.heap.size V v (turnC P Q n R a))=>putY d D _ gD (turn_good d.h1 d.h64 gR a) u v V h h2)
 have HT2:=Lib.hid (fun (V:World) (v:Value) (h:Many V.heap.size V v (putC D (turnC P Q n R a)))=>turnD_any d (-a) (by omega) (by omega) _ (put_good d.h1 d.h64 gD) v V h)
 have HSL:Hid (∀ (V:World) (v:Value) (h:Many V.heap.size V v (turnC P Q n (putC D (turnC P Q n R a)) (-a))),Calls Tryz.prog 68 #[.int .i64 (P:Int),v,.int .i64 (b - a)] V fun e w'=>∃ u,e = .returned u∧Many w'.heap.size w' u (secC P Q n R D a b)∧Below V.heap.size V w'):=fun V v h=>slackD_any d (b - a) (by omega) (by omega) hba _ (secX_good d gR gD) v V h
 have HP2:=Lib.hid (fun (V:World) (u v:Value) (h:Many V.heap.size V u R) (h2:Many V.heap.size V v (secC P Q n R D a b))=>putY d R _ gR (secC_good d gR gD) u v V h h2)
 have i1:(0:Int)≤(P:Int):=by omega
 have i2:(P:Int)<(N:Int):=by omega
 have iQ:(0:Int)<(Q:Int):=by omega
 have w2e:IntKind.i64.wrap (-a) = -a:=IntWalk.i64_in _ (by omega)
 have w3e:IntKind.i64.wrap (b - a)=b - a:=IntWalk.i64_in _ (by omega)
 clear hC hrow hcP hmP hcl hN hgood gP gN gW hba hrp hc0 hgp hR hD hcapN gR gD ha hab hb hpb hQP
 generalize secC P Q n R D a b=SC at *
 go_enter Tryz.func28,Tryz.ntmps28
 have hBl:=below_one w (.cells #[.int .i64 a,.int .i64 b] 3)
 have bL:=Blk.new w 3 #[.int .i64 a,.int .i64 b]
 obtain ⟨wl,hwl⟩:∃ x,w.alloc (.cells #[.int .i64 a,.int .i64 b] 3)=x:=⟨_,rfl⟩
 obtain ⟨gE,hgE⟩:∃ x,w.heap.size=x:=⟨_,rfl⟩
 rw [hwl] at hBl bL
 have hBl':=hBl
 rw [hgE] at bL
 have cP:=(HKP.out _ hBl).1
 have cQ:=(HKP.out _ hBl).2
 go_wp2_with fail
 (try rw [hgE]);(try rw [hwl])
 clear cP cQ hwl
 refine (HN0.out _).mono ?_
 rintro e w0 ⟨u0,rfl,hu0,hB0⟩
 have hBw0:=below_in hBl' hB0
 replace bL:=bL.below hB0 bL.lt
 go_wp2_with fail
 refine (HSR.out w0 gE _ hBw0 bL hu0).mono ?_
 rintro e w1 ⟨u1,rfl,hu1,hB1⟩
 have hBw1:=below_in hBw0 hB1
 replace bL:=bL.below hB1 bL.lt
 have cP:=(HKP.out _ hBw1).1
 go_wp2_with fail
 refine (HWH.out w1 hBw1).mono ?_
 rintro e w9 ⟨u9,rfl,hu9,hB9⟩
 have hBw9:=below_in hBw1 hB9
 replace bL:=bL.below hB9 bL.lt
 replace hu1:=(hu1.below hB9).more hB9.size
 clear cP
 go_wp2_with fail
 refine (HSD.out w9 gE _ hBw9 bL hu9).mono ?_
 rintro e w2 ⟨u2,rfl,hu2,hB2⟩
 have hBw2:=below_in hBw9 hB2
 replace hu1:=(hu1.below hB2).more hB2.size
 clear bL
 go_wp2_with fail
 refine (HT1.out w2 _ hu1).mono ?_
 rintro e w3 ⟨u3,rfl,hu3,hB3⟩
 have hBw3:=below_in hBw2 hB3
 replace hu1:=(hu1.below hB3).more hB3.size
 replace hu2:=(hu2.below hB3).more hB3.size
 go_wp2_with fail
 refine (HP1.out w3 _ _ hu2 hu3).mono ?_
 rintro e w4 ⟨u4,rfl,hu4,hB4⟩
 have hBw4:=below_in hBw3 hB4
 replace hu1:=(hu1.below hB4).more hB4.size
 go_wp2_with fail
 refine (HT2.out w4 _ hu4).mono ?_
 rintro e w5 ⟨u5,rfl,hu5,hB5⟩
 have hBw5:=below_in hBw4 hB5
 replace hu1:=(hu1.below hB5).more hB5.size
 go_wp2_with fail
 refine (HSL.out w5 _ hu5).mono ?_
 rintro e w6 ⟨u6,rfl,hu6,hB6⟩
 have hBw6:=below_in hBw5 hB6
 replace hu1:=(hu1.below hB6).more hB6.size
 go_wp2_with fail
 refine (HP2.out w6 _ _ hu1 hu6).mono ?_
 rintro e w7 ⟨u7,rfl,hu7,hB7⟩
 have hBw7:=below_in hBw6 hB7
 replace hu6:=(hu6.below hB7).more hB7.size
 obtain ⟨A7,k7,e7,_⟩:=id hu7
 obtain ⟨A6,k6,e6,_⟩:=id hu6
 generalize (putC R SC).length=l7 at e7
 generalize SC.length=l6 at e6
 subst e7 e6
 have hB8:=below_one w7 (.cells #[.slice A7 l7 k7,.slice A6 l6 k6] 50)
 have b8:=Blk.new w7 50 #[.slice A7 l7 k7,.slice A6 l6 k6]
 have hC8:=cols_two b8 ((hu7.below hB8).more hB8.size) ((hu6.below hB8).more hB8.size) b8.lt
 have hBw8:=below_in hBw7 hB8
 clear hu1 hu2 hu3 hu4 hu5 hu6 hu7 hu0 hu9
 go_wp2
 go_ret
 exact ⟨_,rfl,hC8,hBw8⟩
end Go.Proofs.YtcchjofjpflbhaaGreatDoor.T

namespace Go.Proofs.YtcchjofjpflbhaaGreatDoor.pairRecovers
open Go.ChangeShapes Go.WideShapes Go.ChangeAt Go.RowKit Go.Shelf
set_option linter.unusedVariables false
set_option linter.unusedSimpArgs false
attribute [local go_sem] Oper.semAt_some

open Go.Proofs.YtcchjofjpflbhaaGreatDoor.E Go.Proofs.YtcchjofjpflbhaaGreatDoor.C Go.Proofs.YtcchjofjpflbhaaGreatDoor.T Go.Proofs.YtcchjofjpflbhaaGreatDoor.Ch in
set_option maxRecDepth 100000 in
set_option maxHeartbeats 4000000 in
theorem nf (p : Int) (v : Value) (css : List (List (List UInt8))) (a b : Int) (w : World) (hL : Laid w) (wp : -9223372036854775808 ≤ p ∧ p ≤ 9223372036854775807) (hC : Cols w.heap.size w v css) (wa : -9223372036854775808 ≤ a ∧ a ≤ 9223372036854775807) (wb : -9223372036854775808 ≤ b ∧ b ≤ 9223372036854775807) (hfew : ¬ Few6 css) :
    Calls Tryz.prog 5 #[.int .i64 p, v, .int .i64 a, .int .i64 b] w fun e w' => e = .returned (.bool true) ∧ Below w.heap.size w w' := by
  have HF := Lib.hid (few6_any _ _ w hC false (by simp [hfew]))
  have HLW := Lib.hid (fun (U : World) (hU : Below w.heap.size w U) => hL.next hU)
  obtain ⟨A, cap, rfl, hcap0, _⟩ := id hC
  have hBw := Below.refl w.heap.size w
  clear hC hL
  go_enter Tryz.func5, Tryz.ntmps5
  go_wp2_with fail
  refine (HF.out).mono ?_
  rintro e y0 ⟨rfl, rfl⟩
  go_wp2_with fail
  refine (works12_any _ (HLW.out _ hBw)).mono ?_
  rintro e wz ⟨rfl, hBz⟩
  go_wp2
  go_ret
  exact ⟨rfl, below_in hBw hBz⟩
open Go.Proofs.YtcchjofjpflbhaaGreatDoor.E Go.Proofs.YtcchjofjpflbhaaGreatDoor.C Go.Proofs.YtcchjofjpflbhaaGreatDoor.T Go.Proofs.YtcchjofjpflbhaaGreatDoor.Ch in
set_option maxRecDepth 100000 in
set_option maxHeartbeats 4000000 in
theorem c2a (p : Int) (v : Value) (css : List (List (List UInt8))) (a b : Int) (w : World) (hL : Laid w) (wp : -9223372036854775808 ≤ p ∧ p ≤ 9223372036854775807) (hC : Cols w.heap.size w v css) (wa : -9223372036854775808 ≤ a ∧ a ≤ 9223372036854775807) (wb : -9223372036854775808 ≤ b ∧ b ≤ 9223372036854775807) (hfew : Few6 css) (hp : p ∉ prm) (hno : ¬ (p ∈ prm ∧ (css.length : Int) = p + 1)) :
    Calls Tryz.prog 5 #[.int .i64 p, v, .int .i64 a, .int .i64 b] w fun e w' => e = .returned (.bool true) ∧ Below w.heap.size w w' := by
  have HF := Lib.hid (few6_any _ _ w hC true (by simp [hfew]))
  have HLW := Lib.hid (fun (U : World) (hU : Below w.heap.size w U) => hL.next hU)
  obtain ⟨A, cap, rfl, hcap0, _⟩ := id hC
  have HRC := Lib.hid (pRecover_no2 p a b A css.length cap hno w hL)
  have HR := Lib.hid (fun W => right_any p W)
  rw [decide_eq_false hp] at HR
  clear hC hL hno hfew hp
  generalize css.length = N at *
  go_enter Tryz.func5, Tryz.ntmps5
  go_wp2_with fail
  refine (HF.out).mono ?_
  rintro e y0 ⟨rfl, rfl⟩
  go_wp2_with fail
  refine (HRC.out).mono ?_
  rintro e y1 ⟨rfl, hB⟩
  have hBw := hB
  clear hB
  go_wp2_with fail
  refine (HR.out y1).mono ?_
  rintro e y2 ⟨rfl, hB⟩
  replace hBw := below_in hBw hB
  clear hB
  go_wp2_with fail
  refine (num12_any _ _).mono ?_
  rintro e y3 ⟨rfl, rfl⟩
  go_wp2_with fail
  refine (works12_any _ (HLW.out _ hBw)).mono ?_
  rintro e wz ⟨rfl, hBz⟩
  go_wp2
  go_ret
  exact ⟨rfl, below_in hBw hBz⟩
open Go.Proofs.YtcchjofjpflbhaaGreatDoor.E Go.Proofs.YtcchjofjpflbhaaGreatDoor.C Go.Proofs.YtcchjofjpflbhaaGreatDoor.T Go.Proofs.YtcchjofjpflbhaaGreatDoor.Ch in
set_option maxRecDepth 100000 in
set_option maxHeartbeats 4000000 in
theorem c2b (p : Int) (v : Value) (css : List (List (List UInt8))) (a b : Int) (w : World) (hL : Laid w) (wp : -9223372036854775808 ≤ p ∧ p ≤ 9223372036854775807) (hC : Cols w.heap.size w v css) (wa : -9223372036854775808 ≤ a ∧ a ≤ 9223372036854775807) (wb : -9223372036854775808 ≤ b ∧ b ≤ 9223372036854775807) (hfew : Few6 css) (hp : p ∈ prm) (hno : ¬ (p ∈ prm ∧ (css.length : Int) = p + 1)) :
    Calls Tryz.prog 5 #[.int .i64 p, v, .int .i64 a, .int .i64 b] w fun e w' => e = .returned (.bool true) ∧ Below w.heap.size w w' := by
  have HF := Lib.hid (few6_any _ _ w hC true (by simp [hfew]))
  have HLW := Lib.hid (fun (U : World) (hU : Below w.heap.size w U) => hL.next hU)
  obtain ⟨A, cap, rfl, hcap0, _⟩ := id hC
  have HRC := Lib.hid (pRecover_no2 p a b A css.length cap hno w hL)
  have HR := Lib.hid (fun W => right_any p W)
  have hpb := prm_bounds hp
  rw [decide_eq_true hp] at HR
  have hw2 : IntKind.i64.wrap (p + 1) = p + 1 := IntWalk.i64_in _ (by omega)
  have hne : ((css.length : Int) != p + 1) = true := bne_iff_ne.2 (fun h => hno ⟨hp, h⟩)
  clear hC hL hno hfew hp hpb
  generalize css.length = N at *
  go_enter Tryz.func5, Tryz.ntmps5
  go_wp2_with fail
  refine (HF.out).mono ?_
  rintro e y0 ⟨rfl, rfl⟩
  go_wp2_with fail
  refine (HRC.out).mono ?_
  rintro e y1 ⟨rfl, hB⟩
  have hBw := hB
  clear hB
  go_wp2_with fail
  refine (HR.out y1).mono ?_
  rintro e y2 ⟨rfl, hB⟩
  replace hBw := below_in hBw hB
  clear hB
  go_wp2_with fail
  refine (num12_any _ _).mono ?_
  rintro e y3 ⟨rfl, rfl⟩
  go_wp2_with fail
  refine (works12_any _ (HLW.out _ hBw)).mono ?_
  rintro e wz ⟨rfl, hBz⟩
  go_wp2
  go_ret
  exact ⟨rfl, below_in hBw hBz⟩
open Go.Proofs.YtcchjofjpflbhaaGreatDoor.E Go.Proofs.YtcchjofjpflbhaaGreatDoor.C Go.Proofs.YtcchjofjpflbhaaGreatDoor.T Go.Proofs.YtcchjofjpflbhaaGreatDoor.Ch in
set_option maxRecDepth 100000 in
set_option maxHeartbeats 4000000 in
theorem c4 (p : Int) (v : Value) (css : List (List (List UInt8))) (a b : Int) (w : World) (hL : Laid w) (wp : -9223372036854775808 ≤ p ∧ p ≤ 9223372036854775807) (hC : Cols w.heap.size w v css) (wa : -9223372036854775808 ≤ a ∧ a ≤ 9223372036854775807) (wb : -9223372036854775808 ≤ b ∧ b ≤ 9223372036854775807) (hfew : Few6 css) (hp : p ∈ prm) (hN : (css.length : Int) = p + 1) (hth : ¬ (0 ≤ a ∧ a < b ∧ b < p)) :
    Calls Tryz.prog 5 #[.int .i64 p, v, .int .i64 a, .int .i64 b] w fun e w' => e = .returned (.bool true) ∧ Below w.heap.size w w' := by
  have HF := Lib.hid (few6_any _ _ w hC true (by simp [hfew]))
  have HLW := Lib.hid (fun (U : World) (hU : Below w.heap.size w U) => hL.next hU)
  obtain ⟨A, cap, rfl, hcap0, _⟩ := id hC
  have HRC := Lib.hid (pRecover_no4 p a b hp A css.length cap hN hth w hL)
  have hpb := prm_bounds hp
  have HR := Lib.hid (fun W => right_any p W)
  rw [decide_eq_true hp] at HR
  have hw2 : IntKind.i64.wrap (p + 1) = p + 1 := IntWalk.i64_in _ (by omega)
  have hne : ((css.length : Int) != p + 1) = false := by rw [hN]; simp
  have HTH := Lib.hid (fun W => there12_any p a b W)
  rw [decide_eq_false hth] at HTH
  clear hC hL hfew hp hpb hth hN
  generalize css.length = N at *
  go_enter Tryz.func5, Tryz.ntmps5
  go_wp2_with fail
  refine (HF.out).mono ?_
  rintro e y0 ⟨rfl, rfl⟩
  go_wp2_with fail
  refine (HRC.out).mono ?_
  rintro e y1 ⟨rfl, hB⟩
  have hBw := hB
  clear hB
  go_wp2_with fail
  refine (HR.out y1).mono ?_
  rintro e y2 ⟨rfl, hB⟩
  replace hBw := below_in hBw hB
  clear hB
  go_wp2_with fail
  refine (HTH.out y2).mono ?_
  rintro e y3 ⟨rfl, rfl⟩
  go_wp2_with fail
  refine (HTH.out y2).mono ?_
  rintro e y4 ⟨rfl, rfl⟩
  go_wp2_with fail
  refine (num12_any _ _).mono ?_
  rintro e y5 ⟨rfl, rfl⟩
  go_wp2_with fail
  refine (works12_any _ (HLW.out _ hBw)).mono ?_
  rintro e wz ⟨rfl, hBz⟩
  go_wp2
  go_ret
  exact ⟨rfl, below_in hBw hBz⟩
open Go.Proofs.YtcchjofjpflbhaaGreatDoor.E Go.Proofs.YtcchjofjpflbhaaGreatDoor.C Go.Proofs.YtcchjofjpflbhaaGreatDoor.T Go.Proofs.YtcchjofjpflbhaaGreatDoor.Ch in
set_option maxRecDepth 100000 in
set_option maxHeartbeats 4000000 in
theorem cK (p : Int) (v : Value) (css : List (List (List UInt8))) (a b : Int) (w : World) (hL : Laid w) (wp : -9223372036854775808 ≤ p ∧ p ≤ 9223372036854775807) (hC : Cols w.heap.size w v css) (wa : -9223372036854775808 ≤ a ∧ a ≤ 9223372036854775807) (wb : -9223372036854775808 ≤ b ∧ b ≤ 9223372036854775807) (hfew : Few6 css) (hp : p ∈ prm) (hN : (css.length : Int) = p + 1) (hth : 0 ≤ a ∧ a < b ∧ b < p) (hrt : ¬ RightD p (kept [a, b] css css.length)) :
    Calls Tryz.prog 5 #[.int .i64 p, v, .int .i64 a, .int .i64 b] w fun e w' => e = .returned (.bool true) ∧ Below w.heap.size w w' := by
  have HF := Lib.hid (few6_any _ _ w hC true (by simp [hfew]))
  have HLW := Lib.hid (fun (U : World) (hU : Below w.heap.size w U) => hL.next hU)
  obtain ⟨A, cap, rfl, hcap0, _⟩ := id hC
  have HRC : Hid (Calls Tryz.prog 25 #[.int .i64 p, .slice A css.length cap, .int .i64 a, .int .i64 b] w fun e w' => e = .returned (.tuple #[.slice none 0 0, .int .i64 2]) ∧ Below w.heap.size w w') := by
    obtain ⟨P, rfl⟩ : ∃ P : Nat, p = (P : Int) := ⟨p.toNat, by have := prm_bounds hp; omega⟩
    exact Lib.hid (pRecover_noK (B := w.heap.size) P (P - 1) (by have := prm_bounds hp; omega) a b hp hth.1 hth.2.1 hth.2.2 css css.length rfl A cap (by omega) (fun j hj => ((few_len hfew).2 j 0).1) hrt w hL (Nat.le_refl _) hC)
  have hpb := prm_bounds hp
  have HR := Lib.hid (fun W => right_any p W)
  rw [decide_eq_true hp] at HR
  have hw2 : IntKind.i64.wrap (p + 1) = p + 1 := IntWalk.i64_in _ (by omega)
  have hne : ((css.length : Int) != p + 1) = false := by rw [hN]; simp
  have HTH := Lib.hid (fun W => there12_any p a b W)
  rw [decide_eq_true hth] at HTH
  have HRT := Lib.hid (fun (V : World) (g : Nat) (hV : Below w.heap.size w V) (bE : Blk V g 3 #[.int .i64 a, .int .i64 b]) => right11_any (B := w.heap.size) p (p + 1) hp g 2 [a, b] (by simp) css hN (by omega) (by have := hfew.1; omega) (.slice A css.length cap) V hV.size bE.lt (two_cell bE) (hC.below hV) false (by simp [hrt]))
  clear hC hL hfew hp hpb hth hN hrt
  generalize css.length = N at *
  go_enter Tryz.func5, Tryz.ntmps5
  go_wp2_with fail
  refine (HF.out).mono ?_
  rintro e y0 ⟨rfl, rfl⟩
  go_wp2_with fail
  refine (HRC.out).mono ?_
  rintro e y1 ⟨rfl, hB⟩
  have hBw := hB
  clear hB
  go_wp2_with fail
  refine (HR.out y1).mono ?_
  rintro e y2 ⟨rfl, hB⟩
  replace hBw := below_in hBw hB
  clear hB
  go_wp2_with fail
  refine (HTH.out y2).mono ?_
  rintro e y3 ⟨rfl, rfl⟩
  have hA4 := below_one y2 (.cells #[.int .i64 a, .int .i64 b] 3)
  have bA4 := Blk.new y2 3 #[.int .i64 a, .int .i64 b]
  replace hBw := below_in hBw hA4
  clear hA4
  go_wp2_with fail
  refine (HRT.out _ _ hBw bA4).mono ?_
  rintro e y5 ⟨rfl, hB⟩
  replace hBw := below_in hBw hB
  clear hB
  go_wp2_with fail
  refine (num12_any _ _).mono ?_
  rintro e y6 ⟨rfl, rfl⟩
  go_wp2_with fail
  refine (works12_any _ (HLW.out _ hBw)).mono ?_
  rintro e wz ⟨rfl, hBz⟩
  go_wp2
  go_ret
  exact ⟨rfl, below_in hBw hBz⟩
open Go.Proofs.YtcchjofjpflbhaaGreatDoor.E Go.Proofs.YtcchjofjpflbhaaGreatDoor.C Go.Proofs.YtcchjofjpflbhaaGreatDoor.T Go.Proofs.YtcchjofjpflbhaaGreatDoor.Ch in
set_option maxRecDepth 100000 in
set_option maxHeartbeats 4000000 in
theorem yes (p : Int) (v : Value) (css : List (List (List UInt8))) (a b : Int) (w : World) (hL : Laid w) (wp : -9223372036854775808 ≤ p ∧ p ≤ 9223372036854775807) (hC : Cols w.heap.size w v css) (wa : -9223372036854775808 ≤ a ∧ a ≤ 9223372036854775807) (wb : -9223372036854775808 ≤ b ∧ b ≤ 9223372036854775807) (hfew : Few6 css) (hp : p ∈ prm) (hN : (css.length : Int) = p + 1) (hth : 0 ≤ a ∧ a < b ∧ b < p) (hrt : RightD p (kept [a, b] css css.length)) :
    Calls Tryz.prog 5 #[.int .i64 p, v, .int .i64 a, .int .i64 b] w fun e w' => e = .returned (.bool true) ∧ Below w.heap.size w w' := by
  have HF := Lib.hid (few6_any _ _ w hC true (by simp [hfew]))
  have HLW := Lib.hid (fun (U : World) (hU : Below w.heap.size w U) => hL.next hU)
  obtain ⟨A, cap, rfl, hcap0, _⟩ := id hC
  have hpb := prm_bounds hp
  have HR := Lib.hid (fun W => right_any p W)
  rw [decide_eq_true hp] at HR
  have hw2 : IntKind.i64.wrap (p + 1) = p + 1 := IntWalk.i64_in _ (by omega)
  have hne : ((css.length : Int) != p + 1) = false := by rw [hN]; simp
  have HTH := Lib.hid (fun W => there12_any p a b W)
  rw [decide_eq_true hth] at HTH
  have HRT := Lib.hid (fun (V : World) (g : Nat) (hV : Below w.heap.size w V) (bE : Blk V g 3 #[.int .i64 a, .int .i64 b]) => right11_any (B := w.heap.size) p (p + 1) hp g 2 [a, b] (by simp) css hN (by omega) (by have := hfew.1; omega) (.slice A css.length cap) V hV.size bE.lt (two_cell bE) (hC.below hV) true (by simp [hrt]))
  obtain ⟨P, Q, n, rfl, hQ, _, h1, h64, _, hg⟩ := Go.Proofs.YtcchjofjpflbhaaGreatDoor.Rg.right_yes hrt hrt.2.1
  have d : Go.Proofs.YtcchjofjpflbhaaGreatDoor.Rg.Dims P Q n := ⟨hQ, hp, h1, h64⟩
  have hgood := kept_good hg
  have hNP : css.length = P + 1 := by omega
  have hP : ((P : Nat) : Int) ∉ [a, b] := by simp; omega
  have gN := noC_good (Q := Q) d.h1 d.h64
  have gW := wholeD_good d (hgood P (by omega) hP)
  have gR := sumsD_good (css := css) (L := [a, b]) (f := 0) d gN P
  have gD := sumsD_good (css := css) (L := [a, b]) (f := 1) d gW P
  have hsol0 := solves_sec (a := a) (b := b) d gR gD (sub_mod_ne hth.1 hth.2.1 hth.2.2)
  have hsol := pair_is d hNP hgood hP hsol0
  have HRC := Lib.hid (pRecover_yes (B := w.heap.size) d a b hth.1 hth.2.1 hth.2.2 css css.length rfl hNP hgood A cap _ _ hsol w hL (Nat.le_refl _) hC)
  have HRD := Lib.hid (fun (V : World) (hV : Below w.heap.size w V) => recover12_any (B := w.heap.size) d a b hth.1 hth.2.1 hth.2.2 css css.length rfl hNP hgood A cap V hV.size (hC.below hV) _ _ rfl rfl)
  have HSM := Lib.hid (fun (u v : Value) (V : World) (h1 : Cols V.heap.size V u _) (h2 : Cols V.heap.size V v _) => same_two (Q := Q) (n := n) (by omega) hsol.gA hsol.gB u v V h1 h2)
  generalize sumsD P Q n css (wholeD n (css[P]?.getD [])) [a, b] 1 P = DD at *
  generalize sumsD P Q n css (noC Q n) [a, b] 0 P = RR at *
  generalize Go.Proofs.YtcchjofjpflbhaaGreatDoor.Rg.putC RR (secC P Q n RR DD a b) = Ac at *
  generalize secC P Q n RR DD a b = Bc at *
  clear hC hL hfew hp hpb hth hN hrt hsol hsol0 gR gD gN gW hP hNP hgood d hg h1 h64 hQ
  generalize css.length = N at *
  go_enter Tryz.func5, Tryz.ntmps5
  go_wp2_with fail
  refine (HF.out).mono ?_
  rintro e y0 ⟨rfl, rfl⟩
  go_wp2_with fail
  refine (HRC.out).mono ?_
  rintro e y1 ⟨u, rfl, hu, hB⟩
  obtain ⟨Au, ku, eu, _⟩ := id hu
  have eu' : u = .slice Au 2 ku := eu
  subst eu'
  clear eu
  have hBw := hB
  clear hB
  go_wp2_with fail
  refine (HR.out y1).mono ?_
  rintro e y2 ⟨rfl, hB⟩
  replace hu := (hu.below hB).more hB.size
  replace hBw := below_in hBw hB
  clear hB
  go_wp2_with fail
  refine (HTH.out y2).mono ?_
  rintro e y3 ⟨rfl, rfl⟩
  have hA4 := below_one y2 (.cells #[.int .i64 a, .int .i64 b] 3)
  have bA4 := Blk.new y2 3 #[.int .i64 a, .int .i64 b]
  replace hu := (hu.below hA4).more hA4.size
  replace hBw := below_in hBw hA4
  clear hA4
  go_wp2_with fail
  refine (HRT.out _ _ hBw bA4).mono ?_
  rintro e y5 ⟨rfl, hB⟩
  clear bA4
  replace hu := (hu.below hB).more hB.size
  replace hBw := below_in hBw hB
  clear hB
  go_wp2_with fail
  refine (HTH.out y5).mono ?_
  rintro e y6 ⟨rfl, rfl⟩
  go_wp2_with fail
  refine (num12_any _ _).mono ?_
  rintro e y7 ⟨rfl, rfl⟩
  go_wp2_with fail
  refine (HRD.out _ hBw).mono ?_
  rintro e y8 ⟨g, rfl, hv, hB⟩
  replace hu := (hu.below hB).more hB.size
  replace hBw := below_in hBw hB
  clear hB
  go_wp2_with fail
  refine (HSM.out _ _ _ hu hv).mono ?_
  rintro e y9 ⟨rfl, hB⟩
  clear hv
  replace hu := (hu.below hB).more hB.size
  replace hBw := below_in hBw hB
  clear hB
  go_wp2_with fail
  refine (works12_any _ (HLW.out _ hBw)).mono ?_
  rintro e wz ⟨rfl, hBz⟩
  go_wp2
  go_ret
  exact ⟨rfl, below_in hBw hBz⟩
open Go.Proofs.YtcchjofjpflbhaaGreatDoor.E Go.Proofs.YtcchjofjpflbhaaGreatDoor.C Go.Proofs.YtcchjofjpflbhaaGreatDoor.T Go.Proofs.YtcchjofjpflbhaaGreatDoor.Ch in
set_option maxRecDepth 100000 in
set_option maxHeartbeats 4000000 in
theorem walk (p : Int) (v : Value) (css : List (List (List UInt8))) (a b : Int) (w : World) (hL : Laid w) (wp : -9223372036854775808 ≤ p ∧ p ≤ 9223372036854775807) (hC : Cols w.heap.size w v css) (wa : -9223372036854775808 ≤ a ∧ a ≤ 9223372036854775807) (wb : -9223372036854775808 ≤ b ∧ b ≤ 9223372036854775807) :
    Calls Tryz.prog 5 #[.int .i64 p, v, .int .i64 a, .int .i64 b] w fun e w' => e = .returned (.bool true) ∧ Below w.heap.size w w' := by
  by_cases hfew : ¬ Few6 css
  · exact nf p v css a b w hL wp hC wa wb hfew
  replace hfew := Classical.not_not.1 hfew
  by_cases hp : p ∈ prm
  · by_cases hN : (css.length : Int) = p + 1
    · by_cases hth : 0 ≤ a ∧ a < b ∧ b < p
      · by_cases hrt : RightD p (kept [a, b] css css.length)
        · exact yes p v css a b w hL wp hC wa wb hfew hp hN hth hrt
        · exact cK p v css a b w hL wp hC wa wb hfew hp hN hth hrt
      · exact c4 p v css a b w hL wp hC wa wb hfew hp hN hth
    · exact c2b p v css a b w hL wp hC wa wb hfew hp (fun h => hN h.2)
  · exact c2a p v css a b w hL wp hC wa wb hfew hp (fun h => hp h.1)

end Go.Proofs.YtcchjofjpflbhaaGreatDoor.pairRecovers

namespace Go.Proofs.YtcchjofjpflbhaaGreatDoor.pairRecovers
open Go.ChangeShapes Go.WideShapes Go.ChangeAt Go.RowKit Go.Shelf
set_option linter.unusedVariables false
set_option linter.unusedSimpArgs false
attribute [local go_sem] Oper.semAt_some

set_option maxRecDepth 100000 in
theorem lifted (os : Os) (started : os.Started) (H : Type) (enc : TypeId × Value → H) :
    ReturnsInHanded {} Tryz.checked os 5 .any (fun w args => (Rows.pairRecoversSpec.pre enc Tryz.prog Tryz.f5 [] false w args ∧ laidMetH Tryz.prog laidL w) ∧ sizedMet enc Tryz.prog Tryz.f5 (OpenSpec.ofChange Rows.pairRecoversSpec) false w args)
      (Rows.pairRecoversSpec.post enc Tryz.prog Tryz.f5 false true false false) := by
  refine returnsInHanded_of_change_and (C := Tryz.checked) (X := fun w _ => laidMetH Tryz.prog laidL w) (fun _ _ _ hh h => h.of_heap hh) own started (by kernel_rfl) Tryz.func5
    (ChangeSpec.witness_shaped (enc := enc) (C := Tryz.checked) (os := os) (X := fun w _ => laidMetH Tryz.prog laidL w) false (World.doorLaid Tryz.prog 200 os) #[.int .i64 0, .slice none 0 0, .int .i64 0, .int .i64 0] 8 rfl (World.shaped_of_RefB (by kernel_rfl) (by kernel_rfl)) (by kernel_rfl) (by kernel_rfl) (by kernel_rfl) (door_met os _)) ?_
  intro W base args ds gs before hval0 hW _ _ hL0 _
  have hL := laid_of hL0
  have hval : ∀ (j : Nat) t v, Tryz.f5.params[j]? = some t → args[j]? = some v → Value.okWide Tryz.prog W .any base t v := hval0
  have hW' := hW
  obtain ⟨p, q, hA0, hV, rfl, hfz, hnd⟩ := hW
  have hA : DataW.TrodAll enc Tryz.prog W 0 (fun _ => true) true Tryz.f5.params.toList args.toList ds p := hA0
  rw [Tryz.params5] at hA hval
  obtain ⟨v0, vs0, d0, ds0, p0, q0, hargs, rfl, rfl, h0, r0⟩ := trodAll_cons hA
  obtain ⟨v1, vs1, d1, ds1, p1, q1, rfl, rfl, rfl, h1, r1⟩ := trodAll_cons r0
  obtain ⟨v2, vs2, d2, ds2, p2, q2, rfl, rfl, rfl, h2, r2⟩ := trodAll_cons r1
  obtain ⟨v3, vs3, d3, ds3, p3, q3, rfl, rfl, rfl, h3, r3⟩ := trodAll_cons r2
  obtain ⟨rfl, rfl, rfl⟩ := trodAll_nil r3
  obtain rfl : args = #[v0, v1, v2, v3] := by cases args; simp_all
  obtain ⟨rfl, rfl⟩ := trodVars_none hV
  obtain ⟨a0, rfl, rfl, rfl, w0⟩ := open_int Tryz.underlying3 (hval 0 3 v0 rfl rfl) h0
  have k1 := h1
  have lt1 : ∀ x ∈ p1, x.block < W.heap.size := by obtain ⟨m, hm⟩ := k1; exact DataW.trod_lt m _ _ _ hm
  obtain ⟨a1, len1, cap1, rfl⟩ := okWide_slice Tryz.underlying40 (hval 1 40 v1 rfl rfl)
  obtain ⟨l1, w1⟩ : ∃ css, E.Cols W.heap.size W (.slice a1 len1 cap1) css := by obtain ⟨fuel, hf⟩ := h1; exact E.open_cols hf
  obtain ⟨a2, rfl, rfl, rfl, w2⟩ := open_int Tryz.underlying3 (hval 2 3 v2 rfl rfl) h2
  obtain ⟨a3, rfl, rfl, rfl, w3⟩ := open_int Tryz.underlying3 (hval 3 3 v3 rfl rfl) h3
  clear hA0 hval0
  simp only [List.append_nil] at hW'
  refine (walk a0 _ l1 a2 a3 W hL (E.wf_i64 w0) w1 (E.wf_i64 w2) (E.wf_i64 w3)).mono fun e W' ⟨he, bel⟩ => ?_
  subst he
  exact ⟨_, rfl, _, _, _, [], _, [], hW', trodAll_mk1 (shut_bool Tryz.underlying4 _), (trodAll_cons_mk (shut_int Tryz.underlying3 w0) (trodAll_cons_mk (Below.trod laidOut (by kernel_rfl) (of_decide_eq_true (by kernel_rfl)) k1 bel lt1) (trodAll_cons_mk (shut_int Tryz.underlying3 w2) (trodAll_cons_mk (shut_int Tryz.underlying3 w3) trodAll_mk0)))), rfl, bel.frame _, fun h => by cases h⟩

end Go.Proofs.YtcchjofjpflbhaaGreatDoor.pairRecovers

