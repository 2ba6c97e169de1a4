/- -/
import Derived.Laws.OwnMore
import Derived.Laws.EntriesVeiled
import Derived.Lib.AppendZeros
import Derived.Test.YtcchjofjpflbhaaGreatDoorPAG14m6
import Derived.Test.YtcchjofjpflbhaaGreatDoorPAG15m14
import Derived.Test.YtcchjofjpflbhaaGreatDoorPAG16m7
set_option linter.unusedVariables false
set_option linter.unusedSimpArgs false
set_option maxRecDepth 100000
set_option maxHeartbeats 8000000
namespace Go.Proofs.YtcchjofjpflbhaaGreatDoor.T
open Go.RowKit Go.Shelf Go.Maps Go.Proofs.YtcchjofjpflbhaaGreatDoor.C Go.Proofs.YtcchjofjpflbhaaGreatDoor.E Go.Proofs.YtcchjofjpflbhaaGreatDoor.Ch
attribute [local go_sem] Oper.semAt_some

theorem pOf_no {B:Nat} (P Q:Nat) (hQ:P=Q+1) (hp:(P:Int)∈prm) (ls os:List Int) (hls:1≤ls.length∧ls.length≤2) (hos:os.length≤1) (g:Nat) (css:List (List (List UInt8))) (N:Nat) (hcl:css.length=N) (hN0:0<N) (hNl:N≤100) (vA:Option Addr) (vc:Nat) (oA:Option Addr) (oc:Nat) (w:World) (hL:Laid w) (hB:B≤w.heap.size) (hg:g<w.heap.size) (hcell:∀ j,j<ls.length→w.cell? ⟨g,j,none⟩=some (.int .i64 (ls[j]?.getD 0))) (hov:Vals w.heap.size w (.slice oA os.length oc) (os.map (Value.int .i64))) (hC:Cols B w (.slice vA N vc) css) (hsm:∀ j,j<css.length→(css[j]?.getD []).length≤1000) (hno:¬ RightD (P:Int) (kept (ls ++ os) css css.length)) :
 Calls Tryz.prog 62 #[.agg #[.int .i64 2,.int .i64 (P:Int),.slice (some ⟨g,0,none⟩) ls.length ls.length],.slice vA N vc,.slice oA os.length oc] w fun e w'=>e = .panicked (Pr.gave 2)∧Below w.heap.size w w':=by
 have hL1:1≤(ls ++ os).length∧(ls ++ os).length≤3:=by rw [List.length_append];omega
 obtain ⟨L,hLd⟩:∃ L,ls ++ os=L:=⟨_,rfl⟩
 obtain ⟨w0,hw0⟩:∃ x,(w.alloc (.cells #[.int .i64 2,.int .i64 (P:Int),.slice (some ⟨g,0,none⟩) ls.length ls.length] 90)).alloc (.cells #[.int .i64 0,.int .i64 0,.slice none 0 0,.slice none 0 0,.slice none 0 0,.slice none 0 0] 99)=x:=⟨_,rfl⟩
 obtain ⟨g0,hg0⟩:∃ x,w.heap.size=x:=⟨_,rfl⟩
 obtain ⟨g6,hg6⟩:∃ x,g0+1=x:=⟨_,rfl⟩
 have b0:Blk w0 g0 90 #[.int .i64 2,.int .i64 (P:Int),.slice (some ⟨g,0,none⟩) ls.length ls.length]:=by rw [←hw0,←hg0];exact (Blk.new w _ _).alloc _
 have b6:Blk w0 g6 99 #[.int .i64 0,.int .i64 0,.slice none 0 0,.slice none 0 0,.slice none 0 0,.slice none 0 0]:=by rw [←hw0,←hg6,←hg0];exact Blk.second w _ _ _
 have hB0:Below w.heap.size w w0:=by rw [←hw0];exact below_two w _ _
 have HLST:=Lib.hid (fun (V:World) (gb:Nat) (hV:Below w.heap.size w V) (hb:Blk V gb 45 #[.slice (some ⟨g,0,none⟩) ls.length ls.length,.slice oA os.length oc])=>(by
  have h:=concatN_any (B:=w.heap.size) gb 0 2 [ls.map (Value.int .i64),os.map (Value.int .i64)] (by simp) (by simp;omega) (by intro us hus u hu;simp only [List.mem_cons,List.not_mem_nil,or_false] at hus;rcases hus with rfl | rfl <;> (obtain ⟨_,_,rfl⟩:=List.mem_map.1 hu;rfl)) V hV.size hb.lt (fun j hj=>by
   have hj2:j=0∨j=1:=by simp at hj;omega
   rcases hj2 with rfl | rfl
   · refine ⟨_,hb.cell 0,.inr ⟨g,0,ls.length,by simp,by simp,hg,fun j u hu=>?_⟩⟩
     show V.cell? ⟨g,0+j,none⟩=some u
     have hu2:(ls.map (Value.int .i64))[j]?=some u:=hu
     rw [List.getElem?_map] at hu2
     have hj:j<ls.length:=by
      rcases Nat.lt_or_ge j ls.length with h | h
      · exact h
      · rw [List.getElem?_eq_none h] at hu2;cases hu2
     rw [List.getElem?_eq_getElem hj] at hu2
     injection hu2 with hu2
     rw [Nat.zero_add,(hV.cell (p:=⟨g,j,none⟩) hg).trans (hcell j hj),List.getElem?_eq_getElem hj,←hu2]
     rfl
   · exact ⟨_,hb.cell 1,hov.below hV⟩)
  have e:([ls.map (Value.int .i64),os.map (Value.int .i64)]:List (List Value)).flatten=L.map (Value.int .i64):=by rw [←hLd,List.map_append];simp
  rw [e] at h
  exact h:Calls Tryz.prog 112 #[.slice (some ⟨gb,0,none⟩) 2 2] V fun e w'=>∃ v',e = .returned v'∧OwnN w' V.heap.size v' (L.map (Value.int .i64))∧Below V.heap.size V w'))
 have HSS:Hid (∀ V,Below w0.heap.size w0 V→(fun U:World=>U.cell? ⟨g0,0,none⟩=some (.int .i64 2)∧U.cell? ⟨g0,1,none⟩=some (.int .i64 (P:Int))∧U.cell? ⟨g0,2,none⟩=some (.slice (some ⟨g,0,none⟩) ls.length ls.length)) V):=fun V hV=>⟨(b0.below hV b0.lt).cell 0,(b0.below hV b0.lt).cell 1,(b0.below hV b0.lt).cell 2⟩
 rw [hLd] at hno hL1
 have HFI:=Lib.hid (fun (gN cN:Nat) (V:World) (hV:Below w.heap.size w V) (h1:gN<V.heap.size) (h2:∀ j,j<L.length→V.cell? ⟨gN,j,none⟩=some (.int .i64 (L[j]?.getD 0)))=>filled_no (B:=B) (P:Int) (some ⟨g,0,none⟩) ls.length ls.length L hL1 gN cN css (by omega) (by omega) (.slice vA N vc) V (hL.next hV) (Nat.le_trans hB hV.size) h1 h2 (hC.below (hV.mono hB)) hsm hno)
 have HB0:=Lib.hid hB0
 have HL1:=Lib.hid hL1
 have HBB:Hid (B≤w.heap.size∧w.heap.size≤w0.heap.size∧g0<g6∧g6<w0.heap.size∧w.heap.size≤g0):=⟨hB,hB0.size,by omega,b6.lt,by omega⟩
 have HW0:=Lib.hid (And.intro hw0 (And.intro hg0 hg6))
 have H6:=Lib.hid (And.intro b0 b6)
 have HLL:=Lib.hid hL
 clear hLd hov hcell hC hsm hno hL hB0 hw0 hg0 hg6 b0 b6 hL1 hp hg hls hos hcl hN0 hNl hQ hB
 refine (callsIn_wide (n:=9)).1 ?_
 refine callsIn_of_wp_marks Tryz.func62 rfl trivial ?_ rfl
 simp only [Tryz.ntmps62,List.size_toArray,List.length_cons,List.length_nil,Nat.reduceAdd,Nat.reduceSub,Array.replicate_succ,Array.replicate_zero,List.push_toArray,List.append_toArray,List.nil_append,List.cons_append]
 gi_wp2_with fail
 (try rw [HW0.out.2.1]);(try rw [HW0.out.2.2]);(try rw [HW0.out.1])
 have hBx:=(Below.refl w0.heap.size w0).drew
 have hS:=HSS.out _ hBx
 refine wpIn_mono (region_HF (Q:=GaveP 2 w) (S:=(fun U:World=>U.cell? ⟨g0,0,none⟩=some (.int .i64 2)∧U.cell? ⟨g0,1,none⟩=some (.int .i64 (P:Int))∧U.cell? ⟨g0,2,none⟩=some (.slice (some ⟨g,0,none⟩) ls.length ls.length))) (by kernel_rfl) ?_) (fun e a w' h=>by obtain ⟨rfl,hd,hB⟩:=h;obtain ⟨tm,df⟩:=a;have hd':df = []:=hd;subst hd';exact ⟨rfl,hB⟩)
 refine tkF (i:=0) (d:=13) (v:=.agg #[.int .i64 2,.int .i64 (P:Int),.slice (some ⟨g,0,none⟩) ls.length ls.length]) (s:=hS) (c:=?_)
 simp only [ud9]
 refine tkF (i:=1) (d:=14) (v:=.slice vA N vc) (s:=hS) (c:=?_)
 simp only [ud9]
 refine tkF (i:=2) (d:=15) (v:=.pointer (some ⟨g0,2,none⟩)) (s:=hS) (c:=?_)
 simp only [ud9]
 refine tkF (i:=3) (d:=16) (v:=.slice (some ⟨g,0,none⟩) ls.length ls.length) (s:=hS) (c:=?_)
 simp only [ud9]
 refine tkF (i:=4) (d:=17) (v:=.slice oA os.length oc) (s:=hS) (c:=?_)
 simp only [ud9]
 refine Rg.anyHF_both (i:=5) (j:=11) (by kernel_rfl) rfl rfl (by rfl) (by rfl) ?c1a ?c1b
 case c1a =>
  have hB:Below w0.drew.heap.size w0.drew (w0.drew.alloc (.cells #[.slice (some ⟨g,0,none⟩) ls.length ls.length,.slice oA os.length oc] 45)):=below_one w0.drew _
  have bE:Blk (w0.drew.alloc (.cells #[.slice (some ⟨g,0,none⟩) ls.length ls.length,.slice oA os.length oc] 45)) w0.drew.heap.size 45 #[.slice (some ⟨g,0,none⟩) ls.length ls.length,.slice oA os.length oc]:=Blk.new w0.drew _ _
  obtain ⟨v2,he⟩:∃ x,(w0.drew.alloc (.cells #[.slice (some ⟨g,0,none⟩) ls.length ls.length,.slice oA os.length oc] 45))=x:=⟨_,rfl⟩
  obtain ⟨gE,hg⟩:∃ x,w0.drew.heap.size=x:=⟨_,rfl⟩
  rw [he] at hB bE
  rw [hg] at bE
  replace hBx:=below_in hBx hB
  clear hS
  have hS:(fun U:World=>U.cell? ⟨g0,0,none⟩=some (.int .i64 2)∧U.cell? ⟨g0,1,none⟩=some (.int .i64 (P:Int))∧U.cell? ⟨g0,2,none⟩=some (.slice (some ⟨g,0,none⟩) ls.length ls.length)) v2:=HSS.out _ hBx
  gi_wp2
  (try rw [hg]);(try rw [he])
  try (refine ⟨hS,?_⟩)
  clear hB he hg
  refine Rg.anyHF_both (i:=6) (j:=11) (by kernel_rfl) rfl rfl (by rfl) (by rfl) ?c3a ?c3b
  case c3a =>
   gi_wp2_with fail
   refine ⟨trivial,(callsIn_wide.2 (HLST.out _ gE (below_in HB0.out hBx) bE)).mono ?_⟩
   rintro e v4 ⟨lv,rfl,hlv,hB⟩
   obtain ⟨gN,cN,rfl,hgN1,hgN2,hgNc⟩:=own_ints hlv HL1.out.1
   have hBN:=Below.refl v4.heap.size v4
   have HGN:=Lib.hid hgNc
   clear hgNc hlv
   replace bE:=bE.below hB bE.lt
   replace hBx:=below_in hBx hB
   clear hS
   have hS:(fun U:World=>U.cell? ⟨g0,0,none⟩=some (.int .i64 2)∧U.cell? ⟨g0,1,none⟩=some (.int .i64 (P:Int))∧U.cell? ⟨g0,2,none⟩=some (.slice (some ⟨g,0,none⟩) ls.length ls.length)) v4:=HSS.out _ hBx
   clear hB
   gi_wp2
   try (refine ⟨hS,?_⟩)
   refine Rg.anyHF_both (i:=7) (j:=11) (by kernel_rfl) rfl rfl (by rfl) (by rfl) ?c5a ?c5b
   case c5a =>
    gi_wp2_with fail
    refine ⟨trivial,(callsIn_wide.2 (HFI.out gN cN _ (below_in HB0.out hBx) (Nat.lt_of_lt_of_le hgN2 hBN.size) (fun j hj=>(hBN.cell (p:=⟨gN,j,none⟩) hgN2).trans (HGN.out j hj)))).mono ?_⟩
    rintro e v6 ⟨rfl,hB⟩
    exact ⟨rfl,rfl,below_in HB0.out (below_in hBx hB)⟩
   case c5b =>
    have hge_g7:=hBx.size
    (try have hszG_g7:=hBG.size)
    have hB:Below v4.heap.size v4 (v4.alloc (.cells #[.slice none 0 0] 40)):=below_one v4 _
    have b7:Blk (v4.alloc (.cells #[.slice none 0 0] 40)) v4.heap.size 40 #[.slice none 0 0]:=Blk.new v4 _ _
    obtain ⟨a7,he⟩:∃ x,(v4.alloc (.cells #[.slice none 0 0] 40))=x:=⟨_,rfl⟩
    obtain ⟨g7,hg⟩:∃ x,v4.heap.size=x:=⟨_,rfl⟩
    have hsz:a7.heap.size=g7+1:=by rw [←he,←hg];simp
    rw [he] at hB b7
    rw [hg] at b7
    have H_g7:=Lib.hid (And.intro hg hsz)
    have hBA:=Below.refl a7.heap.size a7
    clear hsz
    replace hBN:=below_in hBN hB
    replace hBx:=below_in hBx hB
    clear hS
    have hS:(fun U:World=>U.cell? ⟨g0,0,none⟩=some (.int .i64 2)∧U.cell? ⟨g0,1,none⟩=some (.int .i64 (P:Int))∧U.cell? ⟨g0,2,none⟩=some (.slice (some ⟨g,0,none⟩) ls.length ls.length)) a7:=HSS.out _ hBx
    gi_wp2
    (try rw [hg]);(try rw [he])
    try (refine ⟨hS,?_⟩)
    clear hB he hg
    refine oneF (i:=7) (c:=?_)
    gi_wp2_with fail
    refine ⟨trivial,(callsIn_wide.2 (HFI.out gN cN _ (below_in HB0.out hBx) (Nat.lt_of_lt_of_le hgN2 hBN.size) (fun j hj=>(hBN.cell (p:=⟨gN,j,none⟩) hgN2).trans (HGN.out j hj)))).mono ?_⟩
    rintro e v8 ⟨rfl,hB⟩
    exact ⟨rfl,rfl,below_in HB0.out (below_in hBx hB)⟩
  case c3b =>
   have hge_g7:=hBx.size
   (try have hszG_g7:=hBG.size)
   have hB:Below v2.heap.size v2 (v2.alloc (.cells #[.slice none 0 0] 40)):=below_one v2 _
   have b7:Blk (v2.alloc (.cells #[.slice none 0 0] 40)) v2.heap.size 40 #[.slice none 0 0]:=Blk.new v2 _ _
   obtain ⟨a9,he⟩:∃ x,(v2.alloc (.cells #[.slice none 0 0] 40))=x:=⟨_,rfl⟩
   obtain ⟨g7,hg⟩:∃ x,v2.heap.size=x:=⟨_,rfl⟩
   have hsz:a9.heap.size=g7+1:=by rw [←he,←hg];simp
   rw [he] at hB b7
   rw [hg] at b7
   have H_g7:=Lib.hid (And.intro hg hsz)
   have hBA:=Below.refl a9.heap.size a9
   clear hsz
   replace bE:=bE.below hB bE.lt
   replace hBx:=below_in hBx hB
   clear hS
   have hS:(fun U:World=>U.cell? ⟨g0,0,none⟩=some (.int .i64 2)∧U.cell? ⟨g0,1,none⟩=some (.int .i64 (P:Int))∧U.cell? ⟨g0,2,none⟩=some (.slice (some ⟨g,0,none⟩) ls.length ls.length)) a9:=HSS.out _ hBx
   gi_wp2
   (try rw [hg]);(try rw [he])
   try (refine ⟨hS,?_⟩)
   clear hB he hg
   refine oneF (i:=6) (c:=?_)
   gi_wp2_with fail
   refine ⟨trivial,(callsIn_wide.2 (HLST.out _ gE (below_in HB0.out hBx) bE)).mono ?_⟩
   rintro e v10 ⟨lv,rfl,hlv,hB⟩
   obtain ⟨gN,cN,rfl,hgN1,hgN2,hgNc⟩:=own_ints hlv HL1.out.1
   have hBN:=Below.refl v10.heap.size v10
   have HGN:=Lib.hid hgNc
   clear hgNc hlv
   replace bE:=bE.below hB bE.lt
   replace b7:=b7.below hB b7.lt
   replace hBA:=below_in hBA hB
   replace hBx:=below_in hBx hB
   clear hS
   have hS:(fun U:World=>U.cell? ⟨g0,0,none⟩=some (.int .i64 2)∧U.cell? ⟨g0,1,none⟩=some (.int .i64 (P:Int))∧U.cell? ⟨g0,2,none⟩=some (.slice (some ⟨g,0,none⟩) ls.length ls.length)) v10:=HSS.out _ hBx
   clear hB
   gi_wp2
   try (refine ⟨hS,?_⟩)
   refine oneF (i:=7) (c:=?_)
   gi_wp2_with fail
   refine ⟨trivial,(callsIn_wide.2 (HFI.out gN cN _ (below_in HB0.out hBx) (Nat.lt_of_lt_of_le hgN2 hBN.size) (fun j hj=>(hBN.cell (p:=⟨gN,j,none⟩) hgN2).trans (HGN.out j hj)))).mono ?_⟩
   rintro e v11 ⟨rfl,hB⟩
   exact ⟨rfl,rfl,below_in HB0.out (below_in hBx hB)⟩
 case c1b =>
  have hge_g7:=hBx.size
  (try have hszG_g7:=hBG.size)
  have hB:Below w0.drew.heap.size w0.drew (w0.drew.alloc (.cells #[.slice none 0 0] 40)):=below_one w0.drew _
  have b7:Blk (w0.drew.alloc (.cells #[.slice none 0 0] 40)) w0.drew.heap.size 40 #[.slice none 0 0]:=Blk.new w0.drew _ _
  obtain ⟨a12,he⟩:∃ x,(w0.drew.alloc (.cells #[.slice none 0 0] 40))=x:=⟨_,rfl⟩
  obtain ⟨g7,hg⟩:∃ x,w0.drew.heap.size=x:=⟨_,rfl⟩
  have hsz:a12.heap.size=g7+1:=by rw [←he,←hg];simp
  rw [he] at hB b7
  rw [hg] at b7
  have H_g7:=Lib.hid (And.intro hg hsz)
  have hBA:=Below.refl a12.heap.size a12
  clear hsz
  replace hBx:=below_in hBx hB
  clear hS
  have hS:(fun U:World=>U.cell? ⟨g0,0,none⟩=some (.int .i64 2)∧U.cell? ⟨g0,1,none⟩=some (.int .i64 (P:Int))∧U.cell? ⟨g0,2,none⟩=some (.slice (some ⟨g,0,none⟩) ls.length ls.length)) a12:=HSS.out _ hBx
  gi_wp2
  (try rw [hg]);(try rw [he])
  try (refine ⟨hS,?_⟩)
  clear hB he hg
  refine oneF (i:=5) (c:=?_)
  have hB:Below a12.heap.size a12 (a12.alloc (.cells #[.slice (some ⟨g,0,none⟩) ls.length ls.length,.slice oA os.length oc] 45)):=below_one a12 _
  have bE:Blk (a12.alloc (.cells #[.slice (some ⟨g,0,none⟩) ls.length ls.length,.slice oA os.length oc] 45)) a12.heap.size 45 #[.slice (some ⟨g,0,none⟩) ls.length ls.length,.slice oA os.length oc]:=Blk.new a12 _ _
  obtain ⟨v13,he⟩:∃ x,(a12.alloc (.cells #[.slice (some ⟨g,0,none⟩) ls.length ls.length,.slice oA os.length oc] 45))=x:=⟨_,rfl⟩
  obtain ⟨gE,hg⟩:∃ x,a12.heap.size=x:=⟨_,rfl⟩
  rw [he] at hB bE
  rw [hg] at bE
  replace b7:=b7.below hB b7.lt
  replace hBA:=below_in hBA hB
  replace hBx:=below_in hBx hB
  clear hS
  have hS:(fun U:World=>U.cell? ⟨g0,0,none⟩=some (.int .i64 2)∧U.cell? ⟨g0,1,none⟩=some (.int .i64 (P:Int))∧U.cell? ⟨g0,2,none⟩=some (.slice (some ⟨g,0,none⟩) ls.length ls.length)) v13:=HSS.out _ hBx
  gi_wp2
  (try rw [hg]);(try rw [he])
  try (refine ⟨hS,?_⟩)
  clear hB he hg
  refine oneF (i:=6) (c:=?_)
  gi_wp2_with fail
  refine ⟨trivial,(callsIn_wide.2 (HLST.out _ gE (below_in HB0.out hBx) bE)).mono ?_⟩
  rintro e v14 ⟨lv,rfl,hlv,hB⟩
  obtain ⟨gN,cN,rfl,hgN1,hgN2,hgNc⟩:=own_ints hlv HL1.out.1
  have hBN:=Below.refl v14.heap.size v14
  have HGN:=Lib.hid hgNc
  clear hgNc hlv
  replace b7:=b7.below hB b7.lt
  replace bE:=bE.below hB bE.lt
  replace hBA:=below_in hBA hB
  replace hBx:=below_in hBx hB
  clear hS
  have hS:(fun U:World=>U.cell? ⟨g0,0,none⟩=some (.int .i64 2)∧U.cell? ⟨g0,1,none⟩=some (.int .i64 (P:Int))∧U.cell? ⟨g0,2,none⟩=some (.slice (some ⟨g,0,none⟩) ls.length ls.length)) v14:=HSS.out _ hBx
  clear hB
  gi_wp2
  try (refine ⟨hS,?_⟩)
  refine oneF (i:=7) (c:=?_)
  gi_wp2_with fail
  refine ⟨trivial,(callsIn_wide.2 (HFI.out gN cN _ (below_in HB0.out hBx) (Nat.lt_of_lt_of_le hgN2 hBN.size) (fun j hj=>(hBN.cell (p:=⟨gN,j,none⟩) hgN2).trans (HGN.out j hj)))).mono ?_⟩
  rintro e v15 ⟨rfl,hB⟩
  exact ⟨rfl,rfl,below_in HB0.out (below_in hBx hB)⟩
end Go.Proofs.YtcchjofjpflbhaaGreatDoor.T
