/- -/
import Derived.Test.YtcchjofjpflbhaaGreatDoorPAG16
set_option linter.unusedVariables false
set_option linter.unusedSimpArgs false
set_option maxRecDepth 100000
set_option maxHeartbeats 8000000
namespace Go.Proofs.YtcchjofjpflbhaaGreatDoor.T
open Go.RowKit Go.Shelf Go.Maps Go.Proofs.YtcchjofjpflbhaaGreatDoor.C Go.Proofs.YtcchjofjpflbhaaGreatDoor.E Go.Proofs.YtcchjofjpflbhaaGreatDoor.Ch
attribute [local go_sem] Oper.semAt_some

theorem enter_of1:∀ args W,(callFunc 119 args).run Tryz.prog W = .ok (.enter 119 args) W:=enters_of Tryz.func119 (by kernel_rfl) rfl
theorem xor_three {n:Nat} {la lb lc:List UInt8} (h1:1≤n) (h64:n≤64) (ha:la.length=n) (hb:lb.length=n) (hc:lc.length=n):XorOk [la,lb,lc]:=by
 refine ⟨by simp,⟨?_,?_⟩,fun j hj=>?_⟩
 · show 1≤la.length;omega
 · show la.length≤64;omega
 · have hj2:j=0∨j=1∨j=2:=by simp at hj;omega
   rcases hj2 with rfl | rfl | rfl
   · rfl
   · show lb.length=la.length;omega
   · show lc.length=la.length;omega
theorem pOf_yes {B:Nat} (P Q:Nat) (hQ:P=Q+1) (hp:(P:Int)∈prm) (ls os:List Int) (hls:1≤ls.length∧ls.length≤2) (hos:os.length≤1) (g:Nat) (css:List (List (List UInt8))) (N:Nat) (hcl:css.length=N) (hN0:0<N) (hNl:N≤100) (vA:Option Addr) (vc:Nat) (oA:Option Addr) (oc:Nat) (w:World) (hL:Laid w) (hB:B≤w.heap.size) (hg:g<w.heap.size) (hcell:∀ j,j<ls.length→w.cell? ⟨g,j,none⟩=some (.int .i64 (ls[j]?.getD 0))) (hov:Vals w.heap.size w (.slice oA os.length oc) (os.map (Value.int .i64))) (hC:Cols B w (.slice vA N vc) css) (n:Nat) (d:Rg.Dims P Q n) (hNP:N=P+1) (hrange:∀ x∈ls ++ os,0≤x∧x<(N:Int)) (hk0:0<(kept (ls ++ os) css css.length).length) (hgood:∀ i,i<css.length→(i:Int)∉ls ++ os→GoodC Q n (css[i]?.getD [])) :
 Calls Tryz.prog 62 #[.agg #[.int .i64 2,.int .i64 (P:Int),.slice (some ⟨g,0,none⟩) ls.length ls.length],.slice vA N vc,.slice oA os.length oc] w fun e w'=>∃ A1 k1 A2 k2 nA nc,e = .returned (.agg #[.int .i64 2,.int .i64 (P:Int),.slice (some ⟨g,0,none⟩) ls.length ls.length,.slice A1 Q k1,.slice A2 Q k2,.slice nA n nc])∧Many w'.heap.size w' (.slice A1 Q k1) (rsP P Q (lostC (ls ++ os) Q n css))∧Many w'.heap.size w' (.slice A2 Q k2) (dsP P Q (lostC (ls ++ os) Q n css))∧Bytes w'.heap.size w' (.slice nA n nc) (List.replicate n 0)∧Below w.heap.size w w':=by
 have hpb:=prm_bounds d.hp
 have hL1:1≤(ls ++ os).length∧(ls ++ os).length≤3:=by rw [List.length_append];omega
 obtain ⟨L,hLd⟩:∃ L,ls ++ os=L:=⟨_,rfl⟩
 obtain ⟨w0,hw0⟩:∃ x,(w.alloc (.cells #[.int .i64 2,.int .i64 (P:Int),.slice (some ⟨g,0,none⟩) ls.length ls.length] 90)).alloc (.cells #[.int .i64 0,.int .i64 0,.slice none 0 0,.slice none 0 0,.slice none 0 0,.slice none 0 0] 99)=x:=⟨_,rfl⟩
 obtain ⟨g0,hg0⟩:∃ x,w.heap.size=x:=⟨_,rfl⟩
 obtain ⟨g6,hg6⟩:∃ x,g0+1=x:=⟨_,rfl⟩
 have b0:Blk w0 g0 90 #[.int .i64 2,.int .i64 (P:Int),.slice (some ⟨g,0,none⟩) ls.length ls.length]:=by rw [←hw0,←hg0];exact (Blk.new w _ _).alloc _
 have b6:Blk w0 g6 99 #[.int .i64 0,.int .i64 0,.slice none 0 0,.slice none 0 0,.slice none 0 0,.slice none 0 0]:=by rw [←hw0,←hg6,←hg0];exact Blk.second w _ _ _
 have hB0:Below w.heap.size w w0:=by rw [←hw0];exact below_two w _ _
 have HLST:=Lib.hid (fun (V:World) (gb:Nat) (hV:Below w.heap.size w V) (hb:Blk V gb 45 #[.slice (some ⟨g,0,none⟩) ls.length ls.length,.slice oA os.length oc])=>(by
  have h:=concatN_any (B:=w.heap.size) gb 0 2 [ls.map (Value.int .i64),os.map (Value.int .i64)] (by simp) (by simp;omega) (by intro us hus u hu;simp only [List.mem_cons,List.not_mem_nil,or_false] at hus;rcases hus with rfl | rfl <;> (obtain ⟨_,_,rfl⟩:=List.mem_map.1 hu;rfl)) V hV.size hb.lt (fun j hj=>by
   have hj2:j=0∨j=1:=by simp at hj;omega
   rcases hj2 with rfl | rfl
   · refine ⟨_,hb.cell 0,.inr ⟨g,0,ls.length,by simp,by simp,hg,fun j u hu=>?_⟩⟩
     show V.cell? ⟨g,0+j,none⟩=some u
     have hu2:(ls.map (Value.int .i64))[j]?=some u:=hu
     rw [List.getElem?_map] at hu2
     have hj:j<ls.length:=by
      rcases Nat.lt_or_ge j ls.length with h | h
      · exact h
      · rw [List.getElem?_eq_none h] at hu2;cases hu2
     rw [List.getElem?_eq_getElem hj] at hu2
     injection hu2 with hu2
     rw [Nat.zero_add,(hV.cell (p:=⟨g,j,none⟩) hg).trans (hcell j hj),List.getElem?_eq_getElem hj,←hu2]
     rfl
   · exact ⟨_,hb.cell 1,hov.below hV⟩)
  have e:([ls.map (Value.int .i64),os.map (Value.int .i64)]:List (List Value)).flatten=L.map (Value.int .i64):=by rw [←hLd,List.map_append];simp
  rw [e] at h
  exact h:Calls Tryz.prog 112 #[.slice (some ⟨gb,0,none⟩) 2 2] V fun e w'=>∃ v',e = .returned v'∧OwnN w' V.heap.size v' (L.map (Value.int .i64))∧Below V.heap.size V w'))
 have HSS:Hid (∀ V,Below w0.heap.size w0 V→(fun U:World=>U.cell? ⟨g0,0,none⟩=some (.int .i64 2)∧U.cell? ⟨g0,1,none⟩=some (.int .i64 (P:Int))∧U.cell? ⟨g0,2,none⟩=some (.slice (some ⟨g,0,none⟩) ls.length ls.length)) V):=fun V hV=>⟨(b0.below hV b0.lt).cell 0,(b0.below hV b0.lt).cell 1,(b0.below hV b0.lt).cell 2⟩
 rw [hLd] at hrange hk0 hgood hL1 ⊢
 have HFI:=Lib.hid (fun (gN cN:Nat) (V:World) (hV:Below w.heap.size w V) (h1:gN<V.heap.size) (h2:∀ j,j<L.length→V.cell? ⟨gN,j,none⟩=some (.int .i64 (L[j]?.getD 0)))=>filled_yes (B:=B) (P:Int) (some ⟨g,0,none⟩) ls.length ls.length L hL1 gN cN css (by omega) (by omega) (.slice vA N vc) V (hL.next hV) (Nat.le_trans hB hV.size) h1 h2 (hC.below (hV.mono hB)) P Q n d rfl (by rw [hcl];exact hrange) hk0 hgood)
 have hgl:=lost_good d hgood
 have hll:(lostC L Q n css).length=N:=by rw [lostC_len,hcl]
 rw [hcl] at HFI hgl
 obtain ⟨hok,hfn⟩:=takeP_ok d (by rw [hll,hNP]) (fun c hc=>hgl c (by omega))
 have hAR:R.AllR (P:Int) (lostC L Q n css):=⟨(Rg.right_of_good d.hQ d.hp (by omega) (fun j hj=>hgl j (by omega))).1,by rw [hll,hNP];push_cast;rfl⟩
 have HK:=Lib.hid (And.intro hok (And.intro hfn (And.intro hAR (And.intro hgl hll))))
 have HD:=Lib.hid d
 have HNP:=Lib.hid hNP
 have HQ2:Hid (2≤Q):=by unfold Hid;have:=d.hQ;omega
 have HB0:=Lib.hid hB0
 have HL1:=Lib.hid hL1
 have HBB:Hid (B≤w.heap.size∧w.heap.size≤w0.heap.size∧g0<g6∧g6<w0.heap.size∧w.heap.size≤g0):=⟨hB,hB0.size,by omega,b6.lt,by omega⟩
 have HW0:=Lib.hid (And.intro hw0 (And.intro hg0 hg6))
 have H6:=Lib.hid (And.intro b0 b6)
 have HLL:=Lib.hid hL
 clear hok hfn hAR hgl hll hrange hk0 hgood d hNP hLd hov hcell hC hL hB0 hw0 hg0 hg6 b0 b6 hL1 hp hg hls hos hcl hN0 hNl hQ hB hpb
 obtain ⟨KK1,hKK1⟩:∃ K:Exit→Act→World→Prop,K=(fun e a Z=>e=Exit.normal∧∃ x12 x13 x14 x15 x16 x17 x18 x19 x20 x21 x22 g7 gC cc nA nc,a=({ tmps:=#[.agg #[.int .i64 2,.int .i64 (P:Int),.slice (some ⟨g,0,none⟩) ls.length ls.length],.slice vA N vc,.slice oA os.length oc,.pointer (some ⟨g0,0,none⟩),undef,undef,.pointer (some ⟨g6,0,none⟩),.pointer (some ⟨g7,0,none⟩),.slice nA n nc,undef,undef,undef,x12,x13,x14,x15,x16,x17,x18,x19,x20,x21,x22,undef,undef,undef,undef,undef,undef,undef,undef,undef,undef,undef,undef,undef,undef,undef,undef,undef,undef,undef,undef,undef,undef,undef,undef,undef,undef,undef,undef,undef,undef,undef,undef,undef],defers:=[] }:Act)∧Blk Z g7 40 #[.slice (some ⟨gC,0,none⟩) N cc]∧Cols Z.heap.size Z (.slice (some ⟨gC,0,none⟩) N cc) (lostC L Q n css)∧Bytes Z.heap.size Z (.slice nA n nc) (List.replicate n 0)∧Below w0.heap.size w0 Z∧w0.heap.size≤g7):=⟨_,rfl⟩
 have HKC1:=Lib.hid hKK1
 clear hKK1
 refine (callsIn_wide (n:=9)).1 ?_
 refine callsIn_of_wp_marks Tryz.func62 rfl trivial ?_ rfl
 simp only [Tryz.ntmps62,List.size_toArray,List.length_cons,List.length_nil,Nat.reduceAdd,Nat.reduceSub,Array.replicate_succ,Array.replicate_zero,List.push_toArray,List.append_toArray,List.nil_append,List.cons_append]
 gi_wp2_with fail
 (try rw [HW0.out.2.1]);(try rw [HW0.out.2.2]);(try rw [HW0.out.1])
 have hBx:=(Below.refl w0.heap.size w0).drew
 have hS:=HSS.out _ hBx
 refine wpIn_mono (Q:=KK1) (wpIn_mono (region_HF (Q:=NoPanic KK1) (S:=(fun U:World=>U.cell? ⟨g0,0,none⟩=some (.int .i64 2)∧U.cell? ⟨g0,1,none⟩=some (.int .i64 (P:Int))∧U.cell? ⟨g0,2,none⟩=some (.slice (some ⟨g,0,none⟩) ls.length ls.length))) (by kernel_rfl) ?reg1) NoPanic.imp) ?cont1
 case reg1 =>
  refine tkF (i:=0) (d:=13) (v:=.agg #[.int .i64 2,.int .i64 (P:Int),.slice (some ⟨g,0,none⟩) ls.length ls.length]) (s:=hS) (c:=?_)
  simp only [ud9]
  refine tkF (i:=1) (d:=14) (v:=.slice vA N vc) (s:=hS) (c:=?_)
  simp only [ud9]
  refine tkF (i:=2) (d:=15) (v:=.pointer (some ⟨g0,2,none⟩)) (s:=hS) (c:=?_)
  simp only [ud9]
  refine tkF (i:=3) (d:=16) (v:=.slice (some ⟨g,0,none⟩) ls.length ls.length) (s:=hS) (c:=?_)
  simp only [ud9]
  refine tkF (i:=4) (d:=17) (v:=.slice oA os.length oc) (s:=hS) (c:=?_)
  simp only [ud9]
  refine Rg.anyHF_both (i:=5) (j:=11) (by kernel_rfl) rfl rfl (by rfl) (by rfl) ?c1a ?c1b
  case c1a =>
   have hB:Below w0.drew.heap.size w0.drew (w0.drew.alloc (.cells #[.slice (some ⟨g,0,none⟩) ls.length ls.length,.slice oA os.length oc] 45)):=below_one w0.drew _
   have bE:Blk (w0.drew.alloc (.cells #[.slice (some ⟨g,0,none⟩) ls.length ls.length,.slice oA os.length oc] 45)) w0.drew.heap.size 45 #[.slice (some ⟨g,0,none⟩) ls.length ls.length,.slice oA os.length oc]:=Blk.new w0.drew _ _
   obtain ⟨v2,he⟩:∃ x,(w0.drew.alloc (.cells #[.slice (some ⟨g,0,none⟩) ls.length ls.length,.slice oA os.length oc] 45))=x:=⟨_,rfl⟩
   obtain ⟨gE,hg⟩:∃ x,w0.drew.heap.size=x:=⟨_,rfl⟩
   rw [he] at hB bE
   rw [hg] at bE
   replace hBx:=below_in hBx hB
   clear hS
   have hS:(fun U:World=>U.cell? ⟨g0,0,none⟩=some (.int .i64 2)∧U.cell? ⟨g0,1,none⟩=some (.int .i64 (P:Int))∧U.cell? ⟨g0,2,none⟩=some (.slice (some ⟨g,0,none⟩) ls.length ls.length)) v2:=HSS.out _ hBx
   gi_wp2
   (try rw [hg]);(try rw [he])
   try (refine ⟨hS,?_⟩)
   clear hB he hg
   refine Rg.anyHF_both (i:=6) (j:=11) (by kernel_rfl) rfl rfl (by rfl) (by rfl) ?c3a ?c3b
   case c3a =>
    gi_wp2_with fail
    refine ⟨trivial,(callsIn_wide.2 (HLST.out _ gE (below_in HB0.out hBx) bE)).mono ?_⟩
    rintro e v4 ⟨lv,rfl,hlv,hB⟩
    obtain ⟨gN,cN,rfl,hgN1,hgN2,hgNc⟩:=own_ints hlv HL1.out.1
    have hBN:=Below.refl v4.heap.size v4
    have HGN:=Lib.hid hgNc
    clear hgNc hlv
    replace bE:=bE.below hB bE.lt
    replace hBx:=below_in hBx hB
    clear hS
    have hS:(fun U:World=>U.cell? ⟨g0,0,none⟩=some (.int .i64 2)∧U.cell? ⟨g0,1,none⟩=some (.int .i64 (P:Int))∧U.cell? ⟨g0,2,none⟩=some (.slice (some ⟨g,0,none⟩) ls.length ls.length)) v4:=HSS.out _ hBx
    clear hB
    gi_wp2
    try (refine ⟨hS,?_⟩)
    refine Rg.anyHF_both (i:=7) (j:=11) (by kernel_rfl) rfl rfl (by rfl) (by rfl) ?c5a ?c5b
    case c5a =>
     have hszF:=hBx.size
     (try have hszF7:=hBA.size)
     gi_wp2_with fail
     refine ⟨trivial,(callsIn_wide.2 (HFI.out gN cN _ (below_in HB0.out hBx) (Nat.lt_of_lt_of_le hgN2 hBN.size) (fun j hj=>(hBN.cell (p:=⟨gN,j,none⟩) hgN2).trans (HGN.out j hj)))).mono ?_⟩
     rintro e v6 ⟨gC,cc,nA,nc,rfl,hcol,hno,hB⟩
     have hszG:=hB.size
     have hBG:=Below.refl v6.heap.size v6
     replace hBN:=below_in hBN hB
     replace hBx:=below_in hBx hB
     clear hS
     have hS:(fun U:World=>U.cell? ⟨g0,0,none⟩=some (.int .i64 2)∧U.cell? ⟨g0,1,none⟩=some (.int .i64 (P:Int))∧U.cell? ⟨g0,2,none⟩=some (.slice (some ⟨g,0,none⟩) ls.length ls.length)) v6:=HSS.out _ hBx
     clear hB
     gi_wp2
     try (refine ⟨hS,?_⟩)
     refine tkF (i:=8) (d:=12) (v:=.tuple #[.slice (some ⟨gC,0,none⟩) N cc,.slice nA n nc]) (s:=hS) (c:=?_)
     simp only [ud9]
     refine tkF (i:=9) (d:=21) (v:=.slice (some ⟨gC,0,none⟩) N cc) (s:=hS) (c:=?_)
     simp only [ud9]
     refine tkF (i:=10) (d:=22) (v:=.slice nA n nc) (s:=hS) (c:=?_)
     simp only [ud9]
     refine oneF (i:=11) (c:=?_)
     have hge_g7:=hBx.size
     (try have hszG_g7:=hBG.size)
     have hB:Below v6.heap.size v6 (v6.alloc (.cells #[.slice none 0 0] 40)):=below_one v6 _
     have b7:Blk (v6.alloc (.cells #[.slice none 0 0] 40)) v6.heap.size 40 #[.slice none 0 0]:=Blk.new v6 _ _
     obtain ⟨a7,he⟩:∃ x,(v6.alloc (.cells #[.slice none 0 0] 40))=x:=⟨_,rfl⟩
     obtain ⟨g7,hg⟩:∃ x,v6.heap.size=x:=⟨_,rfl⟩
     have hsz:a7.heap.size=g7+1:=by rw [←he,←hg];simp
     rw [he] at hB b7
     rw [hg] at b7
     have H_g7:=Lib.hid (And.intro hg hsz)
     have hBA:=Below.refl a7.heap.size a7
     clear hsz
     replace hBN:=below_in hBN hB
     replace hBG:=below_in hBG hB
     replace hBx:=below_in hBx hB
     clear hS
     have hS:(fun U:World=>U.cell? ⟨g0,0,none⟩=some (.int .i64 2)∧U.cell? ⟨g0,1,none⟩=some (.int .i64 (P:Int))∧U.cell? ⟨g0,2,none⟩=some (.slice (some ⟨g,0,none⟩) ls.length ls.length)) a7:=HSS.out _ hBx
     gi_wp2
     (try rw [hg]);(try rw [he])
     try (refine ⟨hS,?_⟩)
     clear hB he hg
     refine oneF (i:=12) (c:=?_)
     have k7:a7.cell? ⟨g7,0,none⟩=some (.slice none 0 0):=b7.one
     have f7:=b7.frozen 0
     have hne7:∀ b,(b<B∨v4.heap.size≤b)∧b<v6.heap.size→b≠g7∧b<a7.heap.size:=fun b hb=>by have h7:=H_g7.out;have h8:=hBG.size;have h9:=HBB.out;have h10:=hb.1;have h11:=hb.2;omega
     obtain ⟨Z,hZ⟩:∃ z,a7.setCell ⟨g7,0,none⟩ (.slice (some ⟨gC,0,none⟩) N cc)=z:=⟨_,rfl⟩
     have hkZ:∀ b,b≠g7→Z.heap[b]?=a7.heap[b]?:=fun b hb=>by rw [←hZ];exact Below.heap_setCell a7 ⟨g7,0,none⟩ _ b hb
     have hzZ:Z.heap.size=a7.heap.size:=by rw [←hZ];simp
     have hCZ:Cols Z.heap.size Z (.slice (some ⟨gC,0,none⟩) N cc) (lostC L Q n css):=colsR.imp (colsR.keep hcol fun b hb=>(hkZ b (hne7 b hb).1).trans (hBG.block b hb.2)) fun b hb=>(show b<Z.heap.size by rw [hzZ];exact (hne7 b hb).2)
     have hNZ:Bytes Z.heap.size Z (.slice nA n nc) (List.replicate n 0):=bytesR.imp (bytesR.keep hno fun b hb=>(hkZ b (hne7 b hb).1).trans (hBG.block b hb.2)) fun b hb=>(show b<Z.heap.size by rw [hzZ];exact (hne7 b hb).2)
     have b7Z:Blk Z g7 40 #[.slice (some ⟨gC,0,none⟩) N cc]:=by rw [←hZ];exact b7.set_ 0 _
     have hBZ:Below w0.heap.size w0 Z:=by rw [←hZ];exact hBx.setCell (by show w0.heap.size≤g7;have:=H_g7.out;omega) _
     have HZZ:=Lib.hid (And.intro hkZ hzZ)
     clear hkZ hzZ hcol hno
     gi_wp2
     (try rw [hZ])
     clear hS k7 f7
     replace hBx:=hBZ
     have hS:(fun U:World=>U.cell? ⟨g0,0,none⟩=some (.int .i64 2)∧U.cell? ⟨g0,1,none⟩=some (.int .i64 (P:Int))∧U.cell? ⟨g0,2,none⟩=some (.slice (some ⟨g,0,none⟩) ls.length ls.length)) Z:=HSS.out _ hBZ
     try (refine ⟨hS,?_⟩)
     clear hZ
     refine oneF (i:=13) (c:=?_)
     gi_wp2
     refine anyHF_done (by kernel_rfl) ?_ _
     refine NoPanic.normal ?_
     rw [HKC1.out]
     exact ⟨rfl,_,_,_,_,_,_,_,_,_,_,_,g7,gC,cc,nA,nc,rfl,b7Z,hCZ,hNZ,hBZ,by have:=H_g7.out;omega⟩
    case c5b =>
     have hge_g7:=hBx.size
     (try have hszG_g7:=hBG.size)
     have hB:Below v4.heap.size v4 (v4.alloc (.cells #[.slice none 0 0] 40)):=below_one v4 _
     have b7:Blk (v4.alloc (.cells #[.slice none 0 0] 40)) v4.heap.size 40 #[.slice none 0 0]:=Blk.new v4 _ _
     obtain ⟨a8,he⟩:∃ x,(v4.alloc (.cells #[.slice none 0 0] 40))=x:=⟨_,rfl⟩
     obtain ⟨g7,hg⟩:∃ x,v4.heap.size=x:=⟨_,rfl⟩
     have hsz:a8.heap.size=g7+1:=by rw [←he,←hg];simp
     rw [he] at hB b7
     rw [hg] at b7
     have H_g7:=Lib.hid (And.intro hg hsz)
     have hBA:=Below.refl a8.heap.size a8
     clear hsz
     replace hBN:=below_in hBN hB
     replace hBx:=below_in hBx hB
     clear hS
     have hS:(fun U:World=>U.cell? ⟨g0,0,none⟩=some (.int .i64 2)∧U.cell? ⟨g0,1,none⟩=some (.int .i64 (P:Int))∧U.cell? ⟨g0,2,none⟩=some (.slice (some ⟨g,0,none⟩) ls.length ls.length)) a8:=HSS.out _ hBx
     gi_wp2
     (try rw [hg]);(try rw [he])
     try (refine ⟨hS,?_⟩)
     clear hB he hg
     refine oneF (i:=7) (c:=?_)
     have hszF:=hBx.size
     (try have hszF7:=hBA.size)
     gi_wp2_with fail
     refine ⟨trivial,(callsIn_wide.2 (HFI.out gN cN _ (below_in HB0.out hBx) (Nat.lt_of_lt_of_le hgN2 hBN.size) (fun j hj=>(hBN.cell (p:=⟨gN,j,none⟩) hgN2).trans (HGN.out j hj)))).mono ?_⟩
     rintro e v9 ⟨gC,cc,nA,nc,rfl,hcol,hno,hB⟩
     have hszG:=hB.size
     have hBG:=Below.refl v9.heap.size v9
     replace b7:=b7.below hB b7.lt
     replace hBN:=below_in hBN hB
     replace hBA:=below_in hBA hB
     replace hBx:=below_in hBx hB
     clear hS
     have hS:(fun U:World=>U.cell? ⟨g0,0,none⟩=some (.int .i64 2)∧U.cell? ⟨g0,1,none⟩=some (.int .i64 (P:Int))∧U.cell? ⟨g0,2,none⟩=some (.slice (some ⟨g,0,none⟩) ls.length ls.length)) v9:=HSS.out _ hBx
     clear hB
     gi_wp2
     try (refine ⟨hS,?_⟩)
     refine tkF (i:=8) (d:=12) (v:=.tuple #[.slice (some ⟨gC,0,none⟩) N cc,.slice nA n nc]) (s:=hS) (c:=?_)
     simp only [ud9]
     refine tkF (i:=9) (d:=21) (v:=.slice (some ⟨gC,0,none⟩) N cc) (s:=hS) (c:=?_)
     simp only [ud9]
     refine tkF (i:=10) (d:=22) (v:=.slice nA n nc) (s:=hS) (c:=?_)
     simp only [ud9]
     refine oneF (i:=12) (c:=?_)
     have k7:v9.cell? ⟨g7,0,none⟩=some (.slice none 0 0):=b7.one
     have f7:=b7.frozen 0
     have hne7:∀ b,(b<B∨a8.heap.size≤b)∧b<v9.heap.size→b≠g7∧b<v9.heap.size:=fun b hb=>by have h7:=H_g7.out;have h8:=hBG.size;have h9:=HBB.out;have h10:=hb.1;have h11:=hb.2;omega
     obtain ⟨Z,hZ⟩:∃ z,v9.setCell ⟨g7,0,none⟩ (.slice (some ⟨gC,0,none⟩) N cc)=z:=⟨_,rfl⟩
     have hkZ:∀ b,b≠g7→Z.heap[b]?=v9.heap[b]?:=fun b hb=>by rw [←hZ];exact Below.heap_setCell v9 ⟨g7,0,none⟩ _ b hb
     have hzZ:Z.heap.size=v9.heap.size:=by rw [←hZ];simp
     have hCZ:Cols Z.heap.size Z (.slice (some ⟨gC,0,none⟩) N cc) (lostC L Q n css):=colsR.imp (colsR.keep hcol fun b hb=>(hkZ b (hne7 b hb).1).trans (hBG.block b hb.2)) fun b hb=>(show b<Z.heap.size by rw [hzZ];exact (hne7 b hb).2)
     have hNZ:Bytes Z.heap.size Z (.slice nA n nc) (List.replicate n 0):=bytesR.imp (bytesR.keep hno fun b hb=>(hkZ b (hne7 b hb).1).trans (hBG.block b hb.2)) fun b hb=>(show b<Z.heap.size by rw [hzZ];exact (hne7 b hb).2)
     have b7Z:Blk Z g7 40 #[.slice (some ⟨gC,0,none⟩) N cc]:=by rw [←hZ];exact b7.set_ 0 _
     have hBZ:Below w0.heap.size w0 Z:=by rw [←hZ];exact hBx.setCell (by show w0.heap.size≤g7;have:=H_g7.out;omega) _
     have HZZ:=Lib.hid (And.intro hkZ hzZ)
     clear hkZ hzZ hcol hno
     gi_wp2
     (try rw [hZ])
     clear hS k7 f7
     replace hBx:=hBZ
     have hS:(fun U:World=>U.cell? ⟨g0,0,none⟩=some (.int .i64 2)∧U.cell? ⟨g0,1,none⟩=some (.int .i64 (P:Int))∧U.cell? ⟨g0,2,none⟩=some (.slice (some ⟨g,0,none⟩) ls.length ls.length)) Z:=HSS.out _ hBZ
     try (refine ⟨hS,?_⟩)
     clear hZ
     refine oneF (i:=13) (c:=?_)
     gi_wp2
     refine anyHF_done (by kernel_rfl) ?_ _
     refine NoPanic.normal ?_
     rw [HKC1.out]
     exact ⟨rfl,_,_,_,_,_,_,_,_,_,_,_,g7,gC,cc,nA,nc,rfl,b7Z,hCZ,hNZ,hBZ,by have:=H_g7.out;omega⟩
   case c3b =>
    have hge_g7:=hBx.size
    (try have hszG_g7:=hBG.size)
    have hB:Below v2.heap.size v2 (v2.alloc (.cells #[.slice none 0 0] 40)):=below_one v2 _
    have b7:Blk (v2.alloc (.cells #[.slice none 0 0] 40)) v2.heap.size 40 #[.slice none 0 0]:=Blk.new v2 _ _
    obtain ⟨a10,he⟩:∃ x,(v2.alloc (.cells #[.slice none 0 0] 40))=x:=⟨_,rfl⟩
    obtain ⟨g7,hg⟩:∃ x,v2.heap.size=x:=⟨_,rfl⟩
    have hsz:a10.heap.size=g7+1:=by rw [←he,←hg];simp
    rw [he] at hB b7
    rw [hg] at b7
    have H_g7:=Lib.hid (And.intro hg hsz)
    have hBA:=Below.refl a10.heap.size a10
    clear hsz
    replace bE:=bE.below hB bE.lt
    replace hBx:=below_in hBx hB
    clear hS
    have hS:(fun U:World=>U.cell? ⟨g0,0,none⟩=some (.int .i64 2)∧U.cell? ⟨g0,1,none⟩=some (.int .i64 (P:Int))∧U.cell? ⟨g0,2,none⟩=some (.slice (some ⟨g,0,none⟩) ls.length ls.length)) a10:=HSS.out _ hBx
    gi_wp2
    (try rw [hg]);(try rw [he])
    try (refine ⟨hS,?_⟩)
    clear hB he hg
    refine oneF (i:=6) (c:=?_)
    gi_wp2_with fail
    refine ⟨trivial,(callsIn_wide.2 (HLST.out _ gE (below_in HB0.out hBx) bE)).mono ?_⟩
    rintro e v11 ⟨lv,rfl,hlv,hB⟩
    obtain ⟨gN,cN,rfl,hgN1,hgN2,hgNc⟩:=own_ints hlv HL1.out.1
    have hBN:=Below.refl v11.heap.size v11
    have HGN:=Lib.hid hgNc
    clear hgNc hlv
    replace bE:=bE.below hB bE.lt
    replace b7:=b7.below hB b7.lt
    replace hBA:=below_in hBA hB
    replace hBx:=below_in hBx hB
    clear hS
    have hS:(fun U:World=>U.cell? ⟨g0,0,none⟩=some (.int .i64 2)∧U.cell? ⟨g0,1,none⟩=some (.int .i64 (P:Int))∧U.cell? ⟨g0,2,none⟩=some (.slice (some ⟨g,0,none⟩) ls.length ls.length)) v11:=HSS.out _ hBx
    clear hB
    gi_wp2
    try (refine ⟨hS,?_⟩)
    refine oneF (i:=7) (c:=?_)
    have hszF:=hBx.size
    (try have hszF7:=hBA.size)
    gi_wp2_with fail
    refine ⟨trivial,(callsIn_wide.2 (HFI.out gN cN _ (below_in HB0.out hBx) (Nat.lt_of_lt_of_le hgN2 hBN.size) (fun j hj=>(hBN.cell (p:=⟨gN,j,none⟩) hgN2).trans (HGN.out j hj)))).mono ?_⟩
    rintro e v12 ⟨gC,cc,nA,nc,rfl,hcol,hno,hB⟩
    have hszG:=hB.size
    have hBG:=Below.refl v12.heap.size v12
    replace b7:=b7.below hB b7.lt
    replace hBA:=below_in hBA hB
    replace hBN:=below_in hBN hB
    replace hBx:=below_in hBx hB
    clear hS
    have hS:(fun U:World=>U.cell? ⟨g0,0,none⟩=some (.int .i64 2)∧U.cell? ⟨g0,1,none⟩=some (.int .i64 (P:Int))∧U.cell? ⟨g0,2,none⟩=some (.slice (some ⟨g,0,none⟩) ls.length ls.length)) v12:=HSS.out _ hBx
    clear hB
    gi_wp2
    try (refine ⟨hS,?_⟩)
    refine tkF (i:=8) (d:=12) (v:=.tuple #[.slice (some ⟨gC,0,none⟩) N cc,.slice nA n nc]) (s:=hS) (c:=?_)
    simp only [ud9]
    refine tkF (i:=9) (d:=21) (v:=.slice (some ⟨gC,0,none⟩) N cc) (s:=hS) (c:=?_)
    simp only [ud9]
    refine tkF (i:=10) (d:=22) (v:=.slice nA n nc) (s:=hS) (c:=?_)
    simp only [ud9]
    refine oneF (i:=12) (c:=?_)
    have k7:v12.cell? ⟨g7,0,none⟩=some (.slice none 0 0):=b7.one
    have f7:=b7.frozen 0
    have hne7:∀ b,(b<B∨v11.heap.size≤b)∧b<v12.heap.size→b≠g7∧b<v12.heap.size:=fun b hb=>by have h7:=H_g7.out;have h8:=hBG.size;have h9:=HBB.out;have h10:=hb.1;have h11:=hb.2;omega
    obtain ⟨Z,hZ⟩:∃ z,v12.setCell ⟨g7,0,none⟩ (.slice (some ⟨gC,0,none⟩) N cc)=z:=⟨_,rfl⟩
    have hkZ:∀ b,b≠g7→Z.heap[b]?=v12.heap[b]?:=fun b hb=>by rw [←hZ];exact Below.heap_setCell v12 ⟨g7,0,none⟩ _ b hb
    have hzZ:Z.heap.size=v12.heap.size:=by rw [←hZ];simp
    have hCZ:Cols Z.heap.size Z (.slice (some ⟨gC,0,none⟩) N cc) (lostC L Q n css):=colsR.imp (colsR.keep hcol fun b hb=>(hkZ b (hne7 b hb).1).trans (hBG.block b hb.2)) fun b hb=>(show b<Z.heap.size by rw [hzZ];exact (hne7 b hb).2)
    have hNZ:Bytes Z.heap.size Z (.slice nA n nc) (List.replicate n 0):=bytesR.imp (bytesR.keep hno fun b hb=>(hkZ b (hne7 b hb).1).trans (hBG.block b hb.2)) fun b hb=>(show b<Z.heap.size by rw [hzZ];exact (hne7 b hb).2)
    have b7Z:Blk Z g7 40 #[.slice (some ⟨gC,0,none⟩) N cc]:=by rw [←hZ];exact b7.set_ 0 _
    have hBZ:Below w0.heap.size w0 Z:=by rw [←hZ];exact hBx.setCell (by show w0.heap.size≤g7;have:=H_g7.out;omega) _
    have HZZ:=Lib.hid (And.intro hkZ hzZ)
    clear hkZ hzZ hcol hno
    gi_wp2
    (try rw [hZ])
    clear hS k7 f7
    replace hBx:=hBZ
    have hS:(fun U:World=>U.cell? ⟨g0,0,none⟩=some (.int .i64 2)∧U.cell? ⟨g0,1,none⟩=some (.int .i64 (P:Int))∧U.cell? ⟨g0,2,none⟩=some (.slice (some ⟨g,0,none⟩) ls.length ls.length)) Z:=HSS.out _ hBZ
    try (refine ⟨hS,?_⟩)
    clear hZ
    refine oneF (i:=13) (c:=?_)
    gi_wp2
    refine anyHF_done (by kernel_rfl) ?_ _
    refine NoPanic.normal ?_
    rw [HKC1.out]
    exact ⟨rfl,_,_,_,_,_,_,_,_,_,_,_,g7,gC,cc,nA,nc,rfl,b7Z,hCZ,hNZ,hBZ,by have:=H_g7.out;omega⟩
  case c1b =>
   have hge_g7:=hBx.size
   (try have hszG_g7:=hBG.size)
   have hB:Below w0.drew.heap.size w0.drew (w0.drew.alloc (.cells #[.slice none 0 0] 40)):=below_one w0.drew _
   have b7:Blk (w0.drew.alloc (.cells #[.slice none 0 0] 40)) w0.drew.heap.size 40 #[.slice none 0 0]:=Blk.new w0.drew _ _
   obtain ⟨a13,he⟩:∃ x,(w0.drew.alloc (.cells #[.slice none 0 0] 40))=x:=⟨_,rfl⟩
   obtain ⟨g7,hg⟩:∃ x,w0.drew.heap.size=x:=⟨_,rfl⟩
   have hsz:a13.heap.size=g7+1:=by rw [←he,←hg];simp
   rw [he] at hB b7
   rw [hg] at b7
   have H_g7:=Lib.hid (And.intro hg hsz)
   have hBA:=Below.refl a13.heap.size a13
   clear hsz
   replace hBx:=below_in hBx hB
   clear hS
   have hS:(fun U:World=>U.cell? ⟨g0,0,none⟩=some (.int .i64 2)∧U.cell? ⟨g0,1,none⟩=some (.int .i64 (P:Int))∧U.cell? ⟨g0,2,none⟩=some (.slice (some ⟨g,0,none⟩) ls.length ls.length)) a13:=HSS.out _ hBx
   gi_wp2
   (try rw [hg]);(try rw [he])
   try (refine ⟨hS,?_⟩)
   clear hB he hg
   refine oneF (i:=5) (c:=?_)
   have hB:Below a13.heap.size a13 (a13.alloc (.cells #[.slice (some ⟨g,0,none⟩) ls.length ls.length,.slice oA os.length oc] 45)):=below_one a13 _
   have bE:Blk (a13.alloc (.cells #[.slice (some ⟨g,0,none⟩) ls.length ls.length,.slice oA os.length oc] 45)) a13.heap.size 45 #[.slice (some ⟨g,0,none⟩) ls.length ls.length,.slice oA os.length oc]:=Blk.new a13 _ _
   obtain ⟨v14,he⟩:∃ x,(a13.alloc (.cells #[.slice (some ⟨g,0,none⟩) ls.length ls.length,.slice oA os.length oc] 45))=x:=⟨_,rfl⟩
   obtain ⟨gE,hg⟩:∃ x,a13.heap.size=x:=⟨_,rfl⟩
   rw [he] at hB bE
   rw [hg] at bE
   replace b7:=b7.below hB b7.lt
   replace hBA:=below_in hBA hB
   replace hBx:=below_in hBx hB
   clear hS
   have hS:(fun U:World=>U.cell? ⟨g0,0,none⟩=some (.int .i64 2)∧U.cell? ⟨g0,1,none⟩=some (.int .i64 (P:Int))∧U.cell? ⟨g0,2,none⟩=some (.slice (some ⟨g,0,none⟩) ls.length ls.length)) v14:=HSS.out _ hBx
   gi_wp2
   (try rw [hg]);(try rw [he])
   try (refine ⟨hS,?_⟩)
   clear hB he hg
   refine oneF (i:=6) (c:=?_)
   gi_wp2_with fail
   refine ⟨trivial,(callsIn_wide.2 (HLST.out _ gE (below_in HB0.out hBx) bE)).mono ?_⟩
   rintro e v15 ⟨lv,rfl,hlv,hB⟩
   obtain ⟨gN,cN,rfl,hgN1,hgN2,hgNc⟩:=own_ints hlv HL1.out.1
   have hBN:=Below.refl v15.heap.size v15
   have HGN:=Lib.hid hgNc
   clear hgNc hlv
   replace b7:=b7.below hB b7.lt
   replace bE:=bE.below hB bE.lt
   replace hBA:=below_in hBA hB
   replace hBx:=below_in hBx hB
   clear hS
   have hS:(fun U:World=>U.cell? ⟨g0,0,none⟩=some (.int .i64 2)∧U.cell? ⟨g0,1,none⟩=some (.int .i64 (P:Int))∧U.cell? ⟨g0,2,none⟩=some (.slice (some ⟨g,0,none⟩) ls.length ls.length)) v15:=HSS.out _ hBx
   clear hB
   gi_wp2
   try (refine ⟨hS,?_⟩)
   refine oneF (i:=7) (c:=?_)
   have hszF:=hBx.size
   (try have hszF7:=hBA.size)
   gi_wp2_with fail
   refine ⟨trivial,(callsIn_wide.2 (HFI.out gN cN _ (below_in HB0.out hBx) (Nat.lt_of_lt_of_le hgN2 hBN.size) (fun j hj=>(hBN.cell (p:=⟨gN,j,none⟩) hgN2).trans (HGN.out j hj)))).mono ?_⟩
   rintro e v16 ⟨gC,cc,nA,nc,rfl,hcol,hno,hB⟩
   have hszG:=hB.size
   have hBG:=Below.refl v16.heap.size v16
   replace b7:=b7.below hB b7.lt
   replace hBA:=below_in hBA hB
   replace hBN:=below_in hBN hB
   replace hBx:=below_in hBx hB
   clear hS
   have hS:(fun U:World=>U.cell? ⟨g0,0,none⟩=some (.int .i64 2)∧U.cell? ⟨g0,1,none⟩=some (.int .i64 (P:Int))∧U.cell? ⟨g0,2,none⟩=some (.slice (some ⟨g,0,none⟩) ls.length ls.length)) v16:=HSS.out _ hBx
   clear hB
   gi_wp2
   try (refine ⟨hS,?_⟩)
   refine tkF (i:=8) (d:=12) (v:=.tuple #[.slice (some ⟨gC,0,none⟩) N cc,.slice nA n nc]) (s:=hS) (c:=?_)
   simp only [ud9]
   refine tkF (i:=9) (d:=21) (v:=.slice (some ⟨gC,0,none⟩) N cc) (s:=hS) (c:=?_)
   simp only [ud9]
   refine tkF (i:=10) (d:=22) (v:=.slice nA n nc) (s:=hS) (c:=?_)
   simp only [ud9]
   refine oneF (i:=12) (c:=?_)
   have k7:v16.cell? ⟨g7,0,none⟩=some (.slice none 0 0):=b7.one
   have f7:=b7.frozen 0
   have hne7:∀ b,(b<B∨v15.heap.size≤b)∧b<v16.heap.size→b≠g7∧b<v16.heap.size:=fun b hb=>by have h7:=H_g7.out;have h8:=hBG.size;have h9:=HBB.out;have h10:=hb.1;have h11:=hb.2;omega
   obtain ⟨Z,hZ⟩:∃ z,v16.setCell ⟨g7,0,none⟩ (.slice (some ⟨gC,0,none⟩) N cc)=z:=⟨_,rfl⟩
   have hkZ:∀ b,b≠g7→Z.heap[b]?=v16.heap[b]?:=fun b hb=>by rw [←hZ];exact Below.heap_setCell v16 ⟨g7,0,none⟩ _ b hb
   have hzZ:Z.heap.size=v16.heap.size:=by rw [←hZ];simp
   have hCZ:Cols Z.heap.size Z (.slice (some ⟨gC,0,none⟩) N cc) (lostC L Q n css):=colsR.imp (colsR.keep hcol fun b hb=>(hkZ b (hne7 b hb).1).trans (hBG.block b hb.2)) fun b hb=>(show b<Z.heap.size by rw [hzZ];exact (hne7 b hb).2)
   have hNZ:Bytes Z.heap.size Z (.slice nA n nc) (List.replicate n 0):=bytesR.imp (bytesR.keep hno fun b hb=>(hkZ b (hne7 b hb).1).trans (hBG.block b hb.2)) fun b hb=>(show b<Z.heap.size by rw [hzZ];exact (hne7 b hb).2)
   have b7Z:Blk Z g7 40 #[.slice (some ⟨gC,0,none⟩) N cc]:=by rw [←hZ];exact b7.set_ 0 _
   have hBZ:Below w0.heap.size w0 Z:=by rw [←hZ];exact hBx.setCell (by show w0.heap.size≤g7;have:=H_g7.out;omega) _
   have HZZ:=Lib.hid (And.intro hkZ hzZ)
   clear hkZ hzZ hcol hno
   gi_wp2
   (try rw [hZ])
   clear hS k7 f7
   replace hBx:=hBZ
   have hS:(fun U:World=>U.cell? ⟨g0,0,none⟩=some (.int .i64 2)∧U.cell? ⟨g0,1,none⟩=some (.int .i64 (P:Int))∧U.cell? ⟨g0,2,none⟩=some (.slice (some ⟨g,0,none⟩) ls.length ls.length)) Z:=HSS.out _ hBZ
   try (refine ⟨hS,?_⟩)
   clear hZ
   refine oneF (i:=13) (c:=?_)
   gi_wp2
   refine anyHF_done (by kernel_rfl) ?_ _
   refine NoPanic.normal ?_
   rw [HKC1.out]
   exact ⟨rfl,_,_,_,_,_,_,_,_,_,_,_,g7,gC,cc,nA,nc,rfl,b7Z,hCZ,hNZ,hBZ,by have:=H_g7.out;omega⟩
 case cont1 =>
  clear hS hBx HSS HLST HFI
  rw [HKC1.out]
  rintro e a Z ⟨rfl,x12,x13,x14,x15,x16,x17,x18,x19,x20,x21,x22,g7,gC,cc,nA,nc,rfl,b7Z,hCZ,hNZ,hBZ,hge7⟩
  have b0Z:=H6.out.1.below hBZ H6.out.1.lt
  have b6Z:=H6.out.2.below hBZ H6.out.2.lt
  have hBz:=below_in HB0.out hBZ
  have HSZ:Hid (∀ V,Below Z.heap.size Z V→(fun U:World=>U.cell? ⟨g0,0,none⟩=some (.int .i64 2)∧U.cell? ⟨g0,1,none⟩=some (.int .i64 (P:Int))∧U.cell? ⟨g0,2,none⟩=some (.slice (some ⟨g,0,none⟩) ls.length ls.length)∧U.cell? ⟨g7,0,none⟩=some (.slice (some ⟨gC,0,none⟩) N cc)) V):=fun V hV=>⟨(b0Z.below hV b0Z.lt).cell 0,(b0Z.below hV b0Z.lt).cell 1,(b0Z.below hV b0Z.lt).cell 2,(b7Z.below hV b7Z.lt).one⟩
  have hcN:N≤cc:=by
   obtain ⟨_,c0,h1,h2,_⟩:=hCZ
   injection h1 with _ _ h3
   rw [HK.out.2.2.2.2] at h2
   omega
  have hPN0:P≤N:=by have:=HNP.out;omega
  have HEN:=Lib.hid (fun (V:World) (hV:Below Z.heap.size Z V)=>encZ HD.out ((lostC L Q n css).take P) HK.out.1 (.slice (some ⟨gC,0,none⟩) P cc) V (HLL.out.next (below_in hBz hV)) (((cols_take hCZ hPN0 HK.out.2.2.2.2).below hV).more hV.size))
  have hccP3:P≤cc:=by omega
  have hccP2:¬ cc<P:=by omega
  have hccP4:(P:Int)≤(cc:Int):=by omega
  have hPN:(P:Int)≤(N:Int):=by omega
  have hP0:(0:Int)≤(P:Int):=by omega
  have HGD:=Lib.hid (And.intro (rowsMade_good HD.out HK.out.1 HK.out.2.1) (And.intro (diagsMade_good HD.out HK.out.1 HK.out.2.1) HD.out.h1))
  have HZ:=Lib.hid (And.intro hCZ (And.intro hNZ (And.intro hBz (And.intro b0Z (And.intro b6Z (And.intro b7Z (And.intro hge7 hBZ)))))))
  have hBx:=(Below.refl Z.heap.size Z).drew
  have hS:(fun U:World=>U.cell? ⟨g0,0,none⟩=some (.int .i64 2)∧U.cell? ⟨g0,1,none⟩=some (.int .i64 (P:Int))∧U.cell? ⟨g0,2,none⟩=some (.slice (some ⟨g,0,none⟩) ls.length ls.length)∧U.cell? ⟨g7,0,none⟩=some (.slice (some ⟨gC,0,none⟩) N cc)) Z.drew:=HSZ.out _ hBx
  clear hCZ hNZ hBz b0Z b6Z b7Z hBZ hcN hPN0
  gi_wp2_with fail
  obtain ⟨KK2,hKK2⟩:∃ K:Exit→Act→World→Prop,K=(fun e a Y=>e=Exit.normal∧∃ x23 x24 x25 x26 x27 x28 x29 x30 x31 x32 x33 g9 gm mo mc a2 c2 a3 c3,a=({ tmps:=#[.agg #[.int .i64 2,.int .i64 (P:Int),.slice (some ⟨g,0,none⟩) ls.length ls.length],.slice vA N vc,.slice oA os.length oc,.pointer (some ⟨g0,0,none⟩),undef,undef,.pointer (some ⟨g6,0,none⟩),.pointer (some ⟨g7,0,none⟩),.slice nA n nc,.pointer (some ⟨g9,0,none⟩),undef,undef,x12,x13,x14,x15,x16,x17,x18,x19,x20,x21,x22,x23,x24,x25,x26,x27,x28,x29,x30,x31,x32,x33,undef,undef,undef,undef,undef,undef,undef,undef,undef,undef,undef,undef,undef,undef,undef,undef,undef,undef,undef,undef,undef,undef],defers:=[] }:Act)∧Blk Y g9 40 #[.slice (some ⟨gm,mo,none⟩) 2 mc]∧Many Y.heap.size Y (.slice a2 Q c2) (rowsMade Q ((lostC L Q n css).take P))∧Many Y.heap.size Y (.slice a3 Q c3) (diagsMade (P:Int) Q ((lostC L Q n css).take P))∧Y.cell? ⟨gm,mo,none⟩=some (.slice a2 Q c2)∧Y.cell? ⟨gm,mo+1,none⟩=some (.slice a3 Q c3)∧gm<Y.heap.size∧Below Z.heap.size Z Y∧Z.heap.size≤g9):=⟨_,rfl⟩
  have HKC2:=Lib.hid hKK2
  clear hKK2
  refine wpIn_mono (Q:=KK2) (wpIn_mono (region_HF (Q:=NoPanic KK2) (S:=(fun U:World=>U.cell? ⟨g0,0,none⟩=some (.int .i64 2)∧U.cell? ⟨g0,1,none⟩=some (.int .i64 (P:Int))∧U.cell? ⟨g0,2,none⟩=some (.slice (some ⟨g,0,none⟩) ls.length ls.length)∧U.cell? ⟨g7,0,none⟩=some (.slice (some ⟨gC,0,none⟩) N cc))) (by kernel_rfl) ?reg2) NoPanic.imp) ?cont2
  case reg2 =>
   refine tkF (i:=0) (d:=23) (v:=.pointer (some ⟨g0,0,none⟩)) (s:=hS) (c:=?_)
   simp only [ud9]
   refine tkF (i:=1) (d:=24) (v:=.pointer (some ⟨g0,1,none⟩)) (s:=hS) (c:=?_)
   simp only [ud9]
   refine tkF (i:=2) (d:=25) (v:=.int .i64 (P:Int)) (s:=hS) (c:=?_)
   simp only [ud9]
   refine tkF (i:=3) (d:=26) (v:=.slice (some ⟨gC,0,none⟩) N cc) (s:=hS) (c:=?_)
   simp only [ud9]
   refine tkF (i:=4) (d:=27) (v:=.agg #[.int .i64 2,.int .i64 (P:Int),.slice (some ⟨g,0,none⟩) ls.length ls.length]) (s:=hS) (c:=?_)
   simp only [ud9]
   refine Rg.anyHF_both (i:=5) (j:=11) (by kernel_rfl) rfl rfl (by rfl) (by rfl) ?c1a ?c1b
   case c1a =>
    gi_wp2_with fail
    refine ⟨trivial,(callsIn_wide.2 (Pr.diagonalsAt_any (P:Int) (some ⟨g,0,none⟩) ls.length ls.length _)).mono ?_⟩
    rintro e v2 ⟨rfl,hB⟩
    replace hBx:=below_in hBx hB
    clear hS
    have hS:(fun U:World=>U.cell? ⟨g0,0,none⟩=some (.int .i64 2)∧U.cell? ⟨g0,1,none⟩=some (.int .i64 (P:Int))∧U.cell? ⟨g0,2,none⟩=some (.slice (some ⟨g,0,none⟩) ls.length ls.length)∧U.cell? ⟨g7,0,none⟩=some (.slice (some ⟨gC,0,none⟩) N cc)) v2:=HSZ.out _ hBx
    clear hB
    gi_wp2
    try (refine ⟨hS,?_⟩)
    refine tkF (i:=6) (d:=29) (v:=.slice (some ⟨gC,0,none⟩) P cc) (s:=hS) (c:=?_)
    simp only [ud9]
    refine Rg.anyHF_both (i:=7) (j:=11) (by kernel_rfl) rfl rfl (by rfl) (by rfl) ?c3a ?c3b
    case c3a =>
     gi_wp2_with fail
     refine ⟨trivial,(callsIn_wide.2 (HEN.out _ hBx)).mono ?_⟩
     rintro e v4 ⟨gm,mo,mc,a2,c2,a3,c3,rfl,hgm,hc2,hc3,hm2,hm3,hmc,hB⟩
     have hBM:=Below.refl v4.heap.size v4
     replace hBx:=below_in hBx hB
     clear hS
     have hS:(fun U:World=>U.cell? ⟨g0,0,none⟩=some (.int .i64 2)∧U.cell? ⟨g0,1,none⟩=some (.int .i64 (P:Int))∧U.cell? ⟨g0,2,none⟩=some (.slice (some ⟨g,0,none⟩) ls.length ls.length)∧U.cell? ⟨g7,0,none⟩=some (.slice (some ⟨gC,0,none⟩) N cc)) v4:=HSZ.out _ hBx
     clear hB
     gi_wp2
     try (refine ⟨hS,?_⟩)
     refine tkF (i:=8) (d:=31) (v:=.slice (some ⟨gm,mo,none⟩) 2 mc) (s:=hS) (c:=?_)
     simp only [ud9]
     refine tkF (i:=9) (d:=32) (v:=.int .i64 0) (s:=hS) (c:=?_)
     simp only [ud9]
     refine Rg.anyHF_both (i:=10) (j:=11) (by kernel_rfl) rfl rfl (by rfl) (by rfl) ?c5a ?c5b
     case c5a =>
      gi_wp2_with fail
      refine ⟨trivial,(callsIn_wide.2 (Pr.sureS _ _)).mono ?_⟩
      rintro e v6 ⟨rfl,rfl⟩
      gi_wp2
      try (refine ⟨hS,?_⟩)
      refine oneF (i:=11) (c:=?_)
      have hge_g9:=hBx.size
      (try have hszG_g9:=hBG.size)
      have hB:Below v4.heap.size v4 (v4.alloc (.cells #[.slice none 0 0] 40)):=below_one v4 _
      have b9:Blk (v4.alloc (.cells #[.slice none 0 0] 40)) v4.heap.size 40 #[.slice none 0 0]:=Blk.new v4 _ _
      obtain ⟨a7,he⟩:∃ x,(v4.alloc (.cells #[.slice none 0 0] 40))=x:=⟨_,rfl⟩
      obtain ⟨g9,hg⟩:∃ x,v4.heap.size=x:=⟨_,rfl⟩
      have hsz:a7.heap.size=g9+1:=by rw [←he,←hg];simp
      rw [he] at hB b9
      rw [hg] at b9
      have H_g9:=Lib.hid (And.intro hg hsz)
      have hBA:=Below.refl a7.heap.size a7
      clear hsz
      replace hBM:=below_in hBM hB
      replace hBx:=below_in hBx hB
      clear hS
      have hS:(fun U:World=>U.cell? ⟨g0,0,none⟩=some (.int .i64 2)∧U.cell? ⟨g0,1,none⟩=some (.int .i64 (P:Int))∧U.cell? ⟨g0,2,none⟩=some (.slice (some ⟨g,0,none⟩) ls.length ls.length)∧U.cell? ⟨g7,0,none⟩=some (.slice (some ⟨gC,0,none⟩) N cc)) a7:=HSZ.out _ hBx
      gi_wp2
      (try rw [hg]);(try rw [he])
      try (refine ⟨hS,?_⟩)
      clear hB he hg
      refine oneF (i:=12) (c:=?_)
      have k9:a7.cell? ⟨g9,0,none⟩=some (.slice none 0 0):=b9.one
      have f9:=b9.frozen 0
      have hbl:Blank g9 a7:=blank_of b9 (by intro u hu;simp at hu;exact .inr hu)
      have hq2:=(hBM.cell (p:=⟨gm,mo,none⟩) hgm).trans hc2
      have hq3:=(hBM.cell (p:=⟨gm,mo+1,none⟩) hgm).trans hc3
      have hgm9:gm≠g9:=fun e=>by subst e;have hq:=HQ2.out;rcases hbl _ _ hq2 with h | h;cases h;injection h with _ h2 _;omega
      have hp2:=many_apart (hm2.below hBM) hbl (goodC_pos HGD.out.1 HGD.out.2.2)
      have hp3:=many_apart (hm3.below hBM) hbl (goodC_pos HGD.out.2.1 HGD.out.2.2)
      obtain ⟨Y,hY⟩:∃ z,a7.setCell ⟨g9,0,none⟩ (.slice (some ⟨gm,mo,none⟩) 2 mc)=z:=⟨_,rfl⟩
      have hkY:∀ b,b≠g9→Y.heap[b]?=a7.heap[b]?:=fun b hb=>by rw [←hY];exact Below.heap_setCell a7 ⟨g9,0,none⟩ _ b hb
      have hzY:Y.heap.size=a7.heap.size:=by rw [←hY];simp
      have hmY2:Many Y.heap.size Y (.slice a2 Q c2) (rowsMade Q ((lostC L Q n css).take P)):=manyR.imp (manyR.keep hp2 fun b hb=>hkY b hb.2) fun b hb=>(show b<Y.heap.size by have h1:=hb.1;have h2:=hBM.size;omega)
      have hmY3:Many Y.heap.size Y (.slice a3 Q c3) (diagsMade (P:Int) Q ((lostC L Q n css).take P)):=manyR.imp (manyR.keep hp3 fun b hb=>hkY b hb.2) fun b hb=>(show b<Y.heap.size by have h1:=hb.1;have h2:=hBM.size;omega)
      have hcY2:Y.cell? ⟨gm,mo,none⟩=some (.slice a2 Q c2):=(World.cell?_of_block (a:=⟨gm,mo,none⟩) (hkY gm hgm9)).trans hq2
      have hcY3:Y.cell? ⟨gm,mo+1,none⟩=some (.slice a3 Q c3):=(World.cell?_of_block (a:=⟨gm,mo+1,none⟩) (hkY gm hgm9)).trans hq3
      have hgmY:gm<Y.heap.size:=by have:=hBM.size;omega
      have b9Y:Blk Y g9 40 #[.slice (some ⟨gm,mo,none⟩) 2 mc]:=by rw [←hY];exact b9.set_ 0 _
      have hBY:Below Z.heap.size Z Y:=by rw [←hY];exact hBx.setCell (by show Z.heap.size≤g9;have:=H_g9.out;omega) _
      clear hkY hzY hp2 hp3 hq2 hq3 hc2 hc3 hm2 hm3
      gi_wp2
      (try rw [hY])
      clear hS k9 f9
      replace hBx:=hBY
      have hS:(fun U:World=>U.cell? ⟨g0,0,none⟩=some (.int .i64 2)∧U.cell? ⟨g0,1,none⟩=some (.int .i64 (P:Int))∧U.cell? ⟨g0,2,none⟩=some (.slice (some ⟨g,0,none⟩) ls.length ls.length)∧U.cell? ⟨g7,0,none⟩=some (.slice (some ⟨gC,0,none⟩) N cc)) Y:=HSZ.out _ hBY
      try (refine ⟨hS,?_⟩)
      clear hY
      refine anyHF_done (by kernel_rfl) ?_ _
      refine NoPanic.normal ?_
      rw [HKC2.out]
      exact ⟨rfl,_,_,_,_,_,_,_,_,_,_,_,g9,gm,mo,mc,a2,c2,a3,c3,rfl,b9Y,hmY2,hmY3,hcY2,hcY3,hgmY,hBY,by have:=H_g9.out;omega⟩
     case c5b =>
      have hge_g9:=hBx.size
      (try have hszG_g9:=hBG.size)
      have hB:Below v4.heap.size v4 (v4.alloc (.cells #[.slice none 0 0] 40)):=below_one v4 _
      have b9:Blk (v4.alloc (.cells #[.slice none 0 0] 40)) v4.heap.size 40 #[.slice none 0 0]:=Blk.new v4 _ _
      obtain ⟨a8,he⟩:∃ x,(v4.alloc (.cells #[.slice none 0 0] 40))=x:=⟨_,rfl⟩
      obtain ⟨g9,hg⟩:∃ x,v4.heap.size=x:=⟨_,rfl⟩
      have hsz:a8.heap.size=g9+1:=by rw [←he,←hg];simp
      rw [he] at hB b9
      rw [hg] at b9
      have H_g9:=Lib.hid (And.intro hg hsz)
      have hBA:=Below.refl a8.heap.size a8
      clear hsz
      replace hBM:=below_in hBM hB
      replace hBx:=below_in hBx hB
      clear hS
      have hS:(fun U:World=>U.cell? ⟨g0,0,none⟩=some (.int .i64 2)∧U.cell? ⟨g0,1,none⟩=some (.int .i64 (P:Int))∧U.cell? ⟨g0,2,none⟩=some (.slice (some ⟨g,0,none⟩) ls.length ls.length)∧U.cell? ⟨g7,0,none⟩=some (.slice (some ⟨gC,0,none⟩) N cc)) a8:=HSZ.out _ hBx
      gi_wp2
      (try rw [hg]);(try rw [he])
      try (refine ⟨hS,?_⟩)
      clear hB he hg
      refine oneF (i:=10) (c:=?_)
      gi_wp2_with fail
      refine ⟨trivial,(callsIn_wide.2 (Pr.sureS _ _)).mono ?_⟩
      rintro e v9 ⟨rfl,rfl⟩
      gi_wp2
      try (refine ⟨hS,?_⟩)
      refine oneF (i:=12) (c:=?_)
      have k9:a8.cell? ⟨g9,0,none⟩=some (.slice none 0 0):=b9.one
      have f9:=b9.frozen 0
      have hbl:Blank g9 a8:=blank_of b9 (by intro u hu;simp at hu;exact .inr hu)
      have hq2:=(hBM.cell (p:=⟨gm,mo,none⟩) hgm).trans hc2
      have hq3:=(hBM.cell (p:=⟨gm,mo+1,none⟩) hgm).trans hc3
      have hgm9:gm≠g9:=fun e=>by subst e;have hq:=HQ2.out;rcases hbl _ _ hq2 with h | h;cases h;injection h with _ h2 _;omega
      have hp2:=many_apart (hm2.below hBM) hbl (goodC_pos HGD.out.1 HGD.out.2.2)
      have hp3:=many_apart (hm3.below hBM) hbl (goodC_pos HGD.out.2.1 HGD.out.2.2)
      obtain ⟨Y,hY⟩:∃ z,a8.setCell ⟨g9,0,none⟩ (.slice (some ⟨gm,mo,none⟩) 2 mc)=z:=⟨_,rfl⟩
      have hkY:∀ b,b≠g9→Y.heap[b]?=a8.heap[b]?:=fun b hb=>by rw [←hY];exact Below.heap_setCell a8 ⟨g9,0,none⟩ _ b hb
      have hzY:Y.heap.size=a8.heap.size:=by rw [←hY];simp
      have hmY2:Many Y.heap.size Y (.slice a2 Q c2) (rowsMade Q ((lostC L Q n css).take P)):=manyR.imp (manyR.keep hp2 fun b hb=>hkY b hb.2) fun b hb=>(show b<Y.heap.size by have h1:=hb.1;have h2:=hBM.size;omega)
      have hmY3:Many Y.heap.size Y (.slice a3 Q c3) (diagsMade (P:Int) Q ((lostC L Q n css).take P)):=manyR.imp (manyR.keep hp3 fun b hb=>hkY b hb.2) fun b hb=>(show b<Y.heap.size by have h1:=hb.1;have h2:=hBM.size;omega)
      have hcY2:Y.cell? ⟨gm,mo,none⟩=some (.slice a2 Q c2):=(World.cell?_of_block (a:=⟨gm,mo,none⟩) (hkY gm hgm9)).trans hq2
      have hcY3:Y.cell? ⟨gm,mo+1,none⟩=some (.slice a3 Q c3):=(World.cell?_of_block (a:=⟨gm,mo+1,none⟩) (hkY gm hgm9)).trans hq3
      have hgmY:gm<Y.heap.size:=by have:=hBM.size;omega
      have b9Y:Blk Y g9 40 #[.slice (some ⟨gm,mo,none⟩) 2 mc]:=by rw [←hY];exact b9.set_ 0 _
      have hBY:Below Z.heap.size Z Y:=by rw [←hY];exact hBx.setCell (by show Z.heap.size≤g9;have:=H_g9.out;omega) _
      clear hkY hzY hp2 hp3 hq2 hq3 hc2 hc3 hm2 hm3
      gi_wp2
      (try rw [hY])
      clear hS k9 f9
      replace hBx:=hBY
      have hS:(fun U:World=>U.cell? ⟨g0,0,none⟩=some (.int .i64 2)∧U.cell? ⟨g0,1,none⟩=some (.int .i64 (P:Int))∧U.cell? ⟨g0,2,none⟩=some (.slice (some ⟨g,0,none⟩) ls.length ls.length)∧U.cell? ⟨g7,0,none⟩=some (.slice (some ⟨gC,0,none⟩) N cc)) Y:=HSZ.out _ hBY
      try (refine ⟨hS,?_⟩)
      clear hY
      refine anyHF_done (by kernel_rfl) ?_ _
      refine NoPanic.normal ?_
      rw [HKC2.out]
      exact ⟨rfl,_,_,_,_,_,_,_,_,_,_,_,g9,gm,mo,mc,a2,c2,a3,c3,rfl,b9Y,hmY2,hmY3,hcY2,hcY3,hgmY,hBY,by have:=H_g9.out;omega⟩
    case c3b =>
     have hge_g9:=hBx.size
     (try have hszG_g9:=hBG.size)
     have hB:Below v2.heap.size v2 (v2.alloc (.cells #[.slice none 0 0] 40)):=below_one v2 _
     have b9:Blk (v2.alloc (.cells #[.slice none 0 0] 40)) v2.heap.size 40 #[.slice none 0 0]:=Blk.new v2 _ _
     obtain ⟨a10,he⟩:∃ x,(v2.alloc (.cells #[.slice none 0 0] 40))=x:=⟨_,rfl⟩
     obtain ⟨g9,hg⟩:∃ x,v2.heap.size=x:=⟨_,rfl⟩
     have hsz:a10.heap.size=g9+1:=by rw [←he,←hg];simp
     rw [he] at hB b9
     rw [hg] at b9
     have H_g9:=Lib.hid (And.intro hg hsz)
     have hBA:=Below.refl a10.heap.size a10
     clear hsz
     replace hBx:=below_in hBx hB
     clear hS
     have hS:(fun U:World=>U.cell? ⟨g0,0,none⟩=some (.int .i64 2)∧U.cell? ⟨g0,1,none⟩=some (.int .i64 (P:Int))∧U.cell? ⟨g0,2,none⟩=some (.slice (some ⟨g,0,none⟩) ls.length ls.length)∧U.cell? ⟨g7,0,none⟩=some (.slice (some ⟨gC,0,none⟩) N cc)) a10:=HSZ.out _ hBx
     gi_wp2
     (try rw [hg]);(try rw [he])
     try (refine ⟨hS,?_⟩)
     clear hB he hg
     refine oneF (i:=7) (c:=?_)
     gi_wp2_with fail
     refine ⟨trivial,(callsIn_wide.2 (HEN.out _ hBx)).mono ?_⟩
     rintro e v11 ⟨gm,mo,mc,a2,c2,a3,c3,rfl,hgm,hc2,hc3,hm2,hm3,hmc,hB⟩
     have hBM:=Below.refl v11.heap.size v11
     replace b9:=b9.below hB b9.lt
     replace hBA:=below_in hBA hB
     replace hBx:=below_in hBx hB
     clear hS
     have hS:(fun U:World=>U.cell? ⟨g0,0,none⟩=some (.int .i64 2)∧U.cell? ⟨g0,1,none⟩=some (.int .i64 (P:Int))∧U.cell? ⟨g0,2,none⟩=some (.slice (some ⟨g,0,none⟩) ls.length ls.length)∧U.cell? ⟨g7,0,none⟩=some (.slice (some ⟨gC,0,none⟩) N cc)) v11:=HSZ.out _ hBx
     clear hB
     gi_wp2
     try (refine ⟨hS,?_⟩)
     refine tkF (i:=8) (d:=31) (v:=.slice (some ⟨gm,mo,none⟩) 2 mc) (s:=hS) (c:=?_)
     simp only [ud9]
     refine tkF (i:=9) (d:=32) (v:=.int .i64 0) (s:=hS) (c:=?_)
     simp only [ud9]
     refine oneF (i:=10) (c:=?_)
     gi_wp2_with fail
     refine ⟨trivial,(callsIn_wide.2 (Pr.sureS _ _)).mono ?_⟩
     rintro e v12 ⟨rfl,rfl⟩
     gi_wp2
     try (refine ⟨hS,?_⟩)
     refine oneF (i:=12) (c:=?_)
     have k9:v11.cell? ⟨g9,0,none⟩=some (.slice none 0 0):=b9.one
     have f9:=b9.frozen 0
     have hbl:Blank g9 v11:=blank_of b9 (by intro u hu;simp at hu;exact .inr hu)
     have hq2:=(hBM.cell (p:=⟨gm,mo,none⟩) hgm).trans hc2
     have hq3:=(hBM.cell (p:=⟨gm,mo+1,none⟩) hgm).trans hc3
     have hgm9:gm≠g9:=fun e=>by subst e;have hq:=HQ2.out;rcases hbl _ _ hq2 with h | h;cases h;injection h with _ h2 _;omega
     have hp2:=many_apart (hm2.below hBM) hbl (goodC_pos HGD.out.1 HGD.out.2.2)
     have hp3:=many_apart (hm3.below hBM) hbl (goodC_pos HGD.out.2.1 HGD.out.2.2)
     obtain ⟨Y,hY⟩:∃ z,v11.setCell ⟨g9,0,none⟩ (.slice (some ⟨gm,mo,none⟩) 2 mc)=z:=⟨_,rfl⟩
     have hkY:∀ b,b≠g9→Y.heap[b]?=v11.heap[b]?:=fun b hb=>by rw [←hY];exact Below.heap_setCell v11 ⟨g9,0,none⟩ _ b hb
     have hzY:Y.heap.size=v11.heap.size:=by rw [←hY];simp
     have hmY2:Many Y.heap.size Y (.slice a2 Q c2) (rowsMade Q ((lostC L Q n css).take P)):=manyR.imp (manyR.keep hp2 fun b hb=>hkY b hb.2) fun b hb=>(show b<Y.heap.size by have h1:=hb.1;have h2:=hBM.size;omega)
     have hmY3:Many Y.heap.size Y (.slice a3 Q c3) (diagsMade (P:Int) Q ((lostC L Q n css).take P)):=manyR.imp (manyR.keep hp3 fun b hb=>hkY b hb.2) fun b hb=>(show b<Y.heap.size by have h1:=hb.1;have h2:=hBM.size;omega)
     have hcY2:Y.cell? ⟨gm,mo,none⟩=some (.slice a2 Q c2):=(World.cell?_of_block (a:=⟨gm,mo,none⟩) (hkY gm hgm9)).trans hq2
     have hcY3:Y.cell? ⟨gm,mo+1,none⟩=some (.slice a3 Q c3):=(World.cell?_of_block (a:=⟨gm,mo+1,none⟩) (hkY gm hgm9)).trans hq3
     have hgmY:gm<Y.heap.size:=by have:=hBM.size;omega
     have b9Y:Blk Y g9 40 #[.slice (some ⟨gm,mo,none⟩) 2 mc]:=by rw [←hY];exact b9.set_ 0 _
     have hBY:Below Z.heap.size Z Y:=by rw [←hY];exact hBx.setCell (by show Z.heap.size≤g9;have:=H_g9.out;omega) _
     clear hkY hzY hp2 hp3 hq2 hq3 hc2 hc3 hm2 hm3
     gi_wp2
     (try rw [hY])
     clear hS k9 f9
     replace hBx:=hBY
     have hS:(fun U:World=>U.cell? ⟨g0,0,none⟩=some (.int .i64 2)∧U.cell? ⟨g0,1,none⟩=some (.int .i64 (P:Int))∧U.cell? ⟨g0,2,none⟩=some (.slice (some ⟨g,0,none⟩) ls.length ls.length)∧U.cell? ⟨g7,0,none⟩=some (.slice (some ⟨gC,0,none⟩) N cc)) Y:=HSZ.out _ hBY
     try (refine ⟨hS,?_⟩)
     clear hY
     refine anyHF_done (by kernel_rfl) ?_ _
     refine NoPanic.normal ?_
     rw [HKC2.out]
     exact ⟨rfl,_,_,_,_,_,_,_,_,_,_,_,g9,gm,mo,mc,a2,c2,a3,c3,rfl,b9Y,hmY2,hmY3,hcY2,hcY3,hgmY,hBY,by have:=H_g9.out;omega⟩
   case c1b =>
    have hge_g9:=hBx.size
    (try have hszG_g9:=hBG.size)
    have hB:Below Z.drew.heap.size Z.drew (Z.drew.alloc (.cells #[.slice none 0 0] 40)):=below_one Z.drew _
    have b9:Blk (Z.drew.alloc (.cells #[.slice none 0 0] 40)) Z.drew.heap.size 40 #[.slice none 0 0]:=Blk.new Z.drew _ _
    obtain ⟨a13,he⟩:∃ x,(Z.drew.alloc (.cells #[.slice none 0 0] 40))=x:=⟨_,rfl⟩
    obtain ⟨g9,hg⟩:∃ x,Z.drew.heap.size=x:=⟨_,rfl⟩
    have hsz:a13.heap.size=g9+1:=by rw [←he,←hg];simp
    rw [he] at hB b9
    rw [hg] at b9
    have H_g9:=Lib.hid (And.intro hg hsz)
    have hBA:=Below.refl a13.heap.size a13
    clear hsz
    replace hBx:=below_in hBx hB
    clear hS
    have hS:(fun U:World=>U.cell? ⟨g0,0,none⟩=some (.int .i64 2)∧U.cell? ⟨g0,1,none⟩=some (.int .i64 (P:Int))∧U.cell? ⟨g0,2,none⟩=some (.slice (some ⟨g,0,none⟩) ls.length ls.length)∧U.cell? ⟨g7,0,none⟩=some (.slice (some ⟨gC,0,none⟩) N cc)) a13:=HSZ.out _ hBx
    gi_wp2
    (try rw [hg]);(try rw [he])
    try (refine ⟨hS,?_⟩)
    clear hB he hg
    refine oneF (i:=5) (c:=?_)
    gi_wp2_with fail
    refine ⟨trivial,(callsIn_wide.2 (Pr.diagonalsAt_any (P:Int) (some ⟨g,0,none⟩) ls.length ls.length _)).mono ?_⟩
    rintro e v14 ⟨rfl,hB⟩
    replace b9:=b9.below hB b9.lt
    replace hBA:=below_in hBA hB
    replace hBx:=below_in hBx hB
    clear hS
    have hS:(fun U:World=>U.cell? ⟨g0,0,none⟩=some (.int .i64 2)∧U.cell? ⟨g0,1,none⟩=some (.int .i64 (P:Int))∧U.cell? ⟨g0,2,none⟩=some (.slice (some ⟨g,0,none⟩) ls.length ls.length)∧U.cell? ⟨g7,0,none⟩=some (.slice (some ⟨gC,0,none⟩) N cc)) v14:=HSZ.out _ hBx
    clear hB
    gi_wp2
    try (refine ⟨hS,?_⟩)
    refine tkF (i:=6) (d:=29) (v:=.slice (some ⟨gC,0,none⟩) P cc) (s:=hS) (c:=?_)
    simp only [ud9]
    refine oneF (i:=7) (c:=?_)
    gi_wp2_with fail
    refine ⟨trivial,(callsIn_wide.2 (HEN.out _ hBx)).mono ?_⟩
    rintro e v15 ⟨gm,mo,mc,a2,c2,a3,c3,rfl,hgm,hc2,hc3,hm2,hm3,hmc,hB⟩
    have hBM:=Below.refl v15.heap.size v15
    replace b9:=b9.below hB b9.lt
    replace hBA:=below_in hBA hB
    replace hBx:=below_in hBx hB
    clear hS
    have hS:(fun U:World=>U.cell? ⟨g0,0,none⟩=some (.int .i64 2)∧U.cell? ⟨g0,1,none⟩=some (.int .i64 (P:Int))∧U.cell? ⟨g0,2,none⟩=some (.slice (some ⟨g,0,none⟩) ls.length ls.length)∧U.cell? ⟨g7,0,none⟩=some (.slice (some ⟨gC,0,none⟩) N cc)) v15:=HSZ.out _ hBx
    clear hB
    gi_wp2
    try (refine ⟨hS,?_⟩)
    refine tkF (i:=8) (d:=31) (v:=.slice (some ⟨gm,mo,none⟩) 2 mc) (s:=hS) (c:=?_)
    simp only [ud9]
    refine tkF (i:=9) (d:=32) (v:=.int .i64 0) (s:=hS) (c:=?_)
    simp only [ud9]
    refine oneF (i:=10) (c:=?_)
    gi_wp2_with fail
    refine ⟨trivial,(callsIn_wide.2 (Pr.sureS _ _)).mono ?_⟩
    rintro e v16 ⟨rfl,rfl⟩
    gi_wp2
    try (refine ⟨hS,?_⟩)
    refine oneF (i:=12) (c:=?_)
    have k9:v15.cell? ⟨g9,0,none⟩=some (.slice none 0 0):=b9.one
    have f9:=b9.frozen 0
    have hbl:Blank g9 v15:=blank_of b9 (by intro u hu;simp at hu;exact .inr hu)
    have hq2:=(hBM.cell (p:=⟨gm,mo,none⟩) hgm).trans hc2
    have hq3:=(hBM.cell (p:=⟨gm,mo+1,none⟩) hgm).trans hc3
    have hgm9:gm≠g9:=fun e=>by subst e;have hq:=HQ2.out;rcases hbl _ _ hq2 with h | h;cases h;injection h with _ h2 _;omega
    have hp2:=many_apart (hm2.below hBM) hbl (goodC_pos HGD.out.1 HGD.out.2.2)
    have hp3:=many_apart (hm3.below hBM) hbl (goodC_pos HGD.out.2.1 HGD.out.2.2)
    obtain ⟨Y,hY⟩:∃ z,v15.setCell ⟨g9,0,none⟩ (.slice (some ⟨gm,mo,none⟩) 2 mc)=z:=⟨_,rfl⟩
    have hkY:∀ b,b≠g9→Y.heap[b]?=v15.heap[b]?:=fun b hb=>by rw [←hY];exact Below.heap_setCell v15 ⟨g9,0,none⟩ _ b hb
    have hzY:Y.heap.size=v15.heap.size:=by rw [←hY];simp
    have hmY2:Many Y.heap.size Y (.slice a2 Q c2) (rowsMade Q ((lostC L Q n css).take P)):=manyR.imp (manyR.keep hp2 fun b hb=>hkY b hb.2) fun b hb=>(show b<Y.heap.size by have h1:=hb.1;have h2:=hBM.size;omega)
    have hmY3:Many Y.heap.size Y (.slice a3 Q c3) (diagsMade (P:Int) Q ((lostC L Q n css).take P)):=manyR.imp (manyR.keep hp3 fun b hb=>hkY b hb.2) fun b hb=>(show b<Y.heap.size by have h1:=hb.1;have h2:=hBM.size;omega)
    have hcY2:Y.cell? ⟨gm,mo,none⟩=some (.slice a2 Q c2):=(World.cell?_of_block (a:=⟨gm,mo,none⟩) (hkY gm hgm9)).trans hq2
    have hcY3:Y.cell? ⟨gm,mo+1,none⟩=some (.slice a3 Q c3):=(World.cell?_of_block (a:=⟨gm,mo+1,none⟩) (hkY gm hgm9)).trans hq3
    have hgmY:gm<Y.heap.size:=by have:=hBM.size;omega
    have b9Y:Blk Y g9 40 #[.slice (some ⟨gm,mo,none⟩) 2 mc]:=by rw [←hY];exact b9.set_ 0 _
    have hBY:Below Z.heap.size Z Y:=by rw [←hY];exact hBx.setCell (by show Z.heap.size≤g9;have:=H_g9.out;omega) _
    clear hkY hzY hp2 hp3 hq2 hq3 hc2 hc3 hm2 hm3
    gi_wp2
    (try rw [hY])
    clear hS k9 f9
    replace hBx:=hBY
    have hS:(fun U:World=>U.cell? ⟨g0,0,none⟩=some (.int .i64 2)∧U.cell? ⟨g0,1,none⟩=some (.int .i64 (P:Int))∧U.cell? ⟨g0,2,none⟩=some (.slice (some ⟨g,0,none⟩) ls.length ls.length)∧U.cell? ⟨g7,0,none⟩=some (.slice (some ⟨gC,0,none⟩) N cc)) Y:=HSZ.out _ hBY
    try (refine ⟨hS,?_⟩)
    clear hY
    refine anyHF_done (by kernel_rfl) ?_ _
    refine NoPanic.normal ?_
    rw [HKC2.out]
    exact ⟨rfl,_,_,_,_,_,_,_,_,_,_,_,g9,gm,mo,mc,a2,c2,a3,c3,rfl,b9Y,hmY2,hmY3,hcY2,hcY3,hgmY,hBY,by have:=H_g9.out;omega⟩
  case cont2 =>
   clear hS hBx HSZ HEN
   rw [HKC2.out]
   rintro e a Y ⟨rfl,x23,x24,x25,x26,x27,x28,x29,x30,x31,x32,x33,g9,gm,mo,mc,a2,c2,a3,c3,rfl,b9Y,hmY2,hmY3,hcY2,hcY3,hgmY,hBY,hge9⟩
   have b0Y:=HZ.out.2.2.2.1.below hBY HZ.out.2.2.2.1.lt
   have b7Y:=HZ.out.2.2.2.2.2.1.below hBY HZ.out.2.2.2.2.2.1.lt
   have hBwY:=below_in HZ.out.2.2.1 hBY
   have hadj:(adjOf (P:Int) ((lostC L Q n css).take P)).length=n:=by rw [adjOf_len HK.out.1,HK.out.2.1]
   have HLE:=Lib.hid ((R.left_yes (B:=Y.heap.size) (P:Int) (.slice (some ⟨gC,0,none⟩) N cc) (lostC L Q n css) HK.out.2.2.1 Y (HLL.out.next hBwY) (Nat.le_refl _) ((HZ.out.1.below hBY).more hBY.size)).mono (R':=fun e w'=>∃ lA lc,e = .returned (.tuple #[.slice lA n lc,.int .i64 0])∧Bytes w'.heap.size w' (.slice lA n lc) (adjOf (P:Int) ((lostC L Q n css).take P))∧Below Y.heap.size Y w') (by
    rintro e w' ⟨u,rfl,hu,hB⟩
    rw [Int.toNat_natCast] at hu
    obtain ⟨lA,lc,rfl,_⟩:=id hu
    rw [hadj] at hu ⊢
    exact ⟨lA,lc,rfl,hu,hB⟩))
   have q0:=b0Y.cell 1
   have q7:=b7Y.one
   simp only [gz9] at q0
   clear hccP3 hccP2 hccP4 hPN hP0
   gi_wp2_with fail
   refine ⟨trivial,(callsIn_wide.2 HLE.out).mono ?_⟩
   rintro e w3 ⟨lA,lc,rfl,hle,hB3⟩
   gi_wp2_with fail
   refine ⟨trivial,(callsIn_wide.2 (Pr.sureB _ _)).mono ?_⟩
   rintro e w3' ⟨rfl,rfl⟩
   obtain ⟨wX,hwX⟩:∃ z,w3.alloc (.cells #[.slice lA n lc] 64)=z:=⟨_,rfl⟩
   obtain ⟨g10,hg10⟩:∃ z,w3.heap.size=z:=⟨_,rfl⟩
   have b10:Blk wX g10 64 #[.slice lA n lc]:=by rw [←hwX,←hg10];exact Blk.new w3 _ _
   have hB10:Below w3.heap.size w3 wX:=by rw [←hwX];exact below_one w3 _
   have hBYX:Below Y.heap.size Y wX:=below_in hB3 hB10
   have hleX:=(hle.below hB10).more hB10.size
   gi_wp2_with fail
   (try rw [hg10]);(try rw [hwX])
   clear q0 q7 hle
   have HYY:=Lib.hid (And.intro b0Y (And.intro b7Y (And.intro b9Y (And.intro hcY2 (And.intro hgmY hBYX)))))
   have HSS:Hid (∀ V,Below wX.heap.size wX V→(fun U:World=>U.cell? ⟨g0,0,none⟩=some (.int .i64 2)∧U.cell? ⟨g0,1,none⟩=some (.int .i64 (P:Int))∧U.cell? ⟨g0,2,none⟩=some (.slice (some ⟨g,0,none⟩) ls.length ls.length)∧U.cell? ⟨g9,0,none⟩=some (.slice (some ⟨gm,mo,none⟩) 2 mc)∧U.cell? ⟨gm,mo,none⟩=some (.slice a2 Q c2)) V):=fun V hV=>by
    have h:=below_in hBYX hV
    exact ⟨(b0Y.below h b0Y.lt).cell 0,(b0Y.below h b0Y.lt).cell 1,(b0Y.below h b0Y.lt).cell 2,(b9Y.below h b9Y.lt).one,(h.cell (p:=⟨gm,mo,none⟩) hgmY).trans hcY2⟩
   have hBwX:=below_in hBwY hBYX
   have HBW:=Lib.hid hBwX
   have H6U:Hid (∀ V,Below wX.heap.size wX V→Blk V g6 99 #[.int .i64 0,.int .i64 0,.slice none 0 0,.slice none 0 0,.slice none 0 0,.slice none 0 0]):=fun V hV=>(HZ.out.2.2.2.2.1.below (below_in hBY (below_in hBYX hV)) HZ.out.2.2.2.2.1.lt)
   have HCE:=Lib.hid (fun (V:World) (hV:Below wX.heap.size wX V)=>(shapeCells_anyO 2 (P:Int) (P:Int) V (HLL.out.next (below_in hBwX hV))).mono (R':=fun e w'=>∃ v,e = .returned v∧PlacesO V.heap.size (P:Int) (rowsL (P:Int)) P v w'∧Below V.heap.size V w') (by
    rintro e w' ⟨v,h1,⟨zs,hcol,hp⟩,h3⟩
    have hz:zs=rowsL (P:Int):=hcol.elim (fun h=>h.2.2) (fun h=>absurd ⟨Pr.rightC2 HD.out.hp,by unfold HasCol;rw [show shortN 2=1 from rfl,show madeN 2=2 from rfl];have:=prm_bounds HD.out.hp;omega⟩ h.1)
    rw [hz,Int.toNat_natCast] at hp
    exact ⟨v,h1,hp,h3⟩))
   obtain ⟨gCx,gox,cax,hvex,_,hgCx,hrowx⟩:=HZ.out.1.at_ (by have:=HNP.out;rw [HK.out.2.2.2.2];omega)
   injection hvex with e1 e2x e3x
   clear e2x e3x
   injection e1 with e1
   injection e1 with e4 e5 _
   subst e4 e5
   obtain ⟨uP,huP,mP⟩:=hrowx P (by rw [HK.out.2.2.2.2];have:=HNP.out;omega)
   have gP:=HK.out.2.2.2.1 P (by have:=HNP.out;omega)
   obtain ⟨aP,cP,hve,_⟩:=id mP
   subst hve
   have hQp:=HQ2.out
   obtain ⟨gePP,oePP,rfl,hgeP,hrP⟩:=many_at mP (by rw [gP.1];omega)
   have gD:=HGD.out.2.1
   have hmY3':Many Y.heap.size Y (.slice a3 (diagsMade (P:Int) Q ((lostC L Q n css).take P)).length c3) (diagsMade (P:Int) Q ((lostC L Q n css).take P)):=by rw [gD.1];exact hmY3
   obtain ⟨gdd,odd,rfl,hgdd,hrD⟩:=many_at hmY3' (by rw [gD.1];omega)
   rw [gP.1] at huP
   have HT:Hid (∀ V,Below wX.heap.size wX V→∀ z∈rowsL (P:Int),Calls Tryz.prog 119 #[.agg #[.int .i64 (P:Int),.int .i64 z],.pointer (some ⟨g9,0,none⟩),.pointer (some ⟨g10,0,none⟩),.pointer (some ⟨g7,0,none⟩)] V fun e w'=>∃ u,e = .returned u∧Fresh V.heap.size w' u (dcP P Q (lostC L Q n css) z.toNat)∧Below V.heap.size V w'):=fun V hV z hz=>by
    unfold rowsL at hz
    obtain ⟨i,hi,rfl⟩:=List.mem_map.1 hz
    have hiQ:i<Q:=by have:=List.mem_range.1 hi;have:=HD.out.hQ;omega
    rw [Int.toNat_natCast]
    have hY:=below_in hBYX hV
    have hZ:=below_in hBY hY
    obtain ⟨A3,c3',hc3,m3⟩:=hrP i (by rw [gP.1];exact hiQ)
    obtain ⟨A1,c1',hc1,m1⟩:=hrD i (by rw [gD.1];exact hiQ)
    rw [(gP.2 i hiQ).2] at hc3 m3
    rw [(gD.2 i hiQ).2] at hc1 m1
    have hl:=dcP_ok HD.out (by rw [HK.out.2.2.2.2,HNP.out]) (fun c hc=>HK.out.2.2.2.1 c (by have:=HNP.out;omega)) hiQ
    exact of1_any (Q:=Q) (N:=N) P i (by have:=HNP.out;omega) hiQ (by have:=HNP.out;have:=prm_bounds HD.out.hp;have:=HD.out.hQ;omega) g9 g10 g7 gm mo mc gdd odd c3 gC 0 cc gePP oePP cP A1 lA A3 n c1' n lc n c3' _ _ _ (xor_three HD.out.h1 HD.out.h64 (hl _ (by simp)) (hl _ (by simp)) (hl _ (by simp))) V (b9Y.below hY b9Y.lt).one (b10.below hV b10.lt).one (b7Y.below hY b7Y.lt).one ((hY.cell (p:=⟨gm,mo+1,none⟩) hgmY).trans hcY3) ((hY.cell (p:=⟨gdd,odd+i,none⟩) hgdd).trans hc1) ((hZ.cell (p:=⟨gC,0+P,none⟩) hgCx).trans huP) ((hZ.cell (p:=⟨gePP,oePP+i,none⟩) hgeP).trans hc3)
     (by have:=hY.size;have:=hZ.size;have:=b9Y.lt;have:=b7Y.lt;have:=b10.lt;have:=hV.size;exact ⟨by omega,by omega,by omega,by omega,by omega,by omega,by omega⟩) ((m1.below hY).more hY.size) ((hleX.below hV).more hV.size) ((m3.below hZ).more hZ.size)
   have HGA:=Lib.hid (fun (V0 V:World) (sv:Value) (hV:Below wX.heap.size wX V) (hs:V0.heap.size≤V.heap.size) (hsv:PlacesO V0.heap.size (P:Int) (rowsL (P:Int)) P sv V)=>(pGathered_any (n:=n) (P:Int) (rowsL (P:Int)) (fun z=>dcP P Q (lostC L Q n css) z.toNat) (fun z hz=>by
    unfold rowsL at hz
    obtain ⟨i,hi,rfl⟩:=List.mem_map.1 hz
    have hiQ:i<Q:=by have:=List.mem_range.1 hi;have:=HD.out.hQ;omega
    rw [Int.toNat_natCast]
    exact xorOf_len_of (by simp) (dcP_ok HD.out (by rw [HK.out.2.2.2.2,HNP.out]) (fun c hc=>HK.out.2.2.2.1 c (by have:=HNP.out;omega)) hiQ)) HD.out.h1 g9 g10 g7 enter_of1 V0.heap.size P (by have:=prm_bounds HD.out.hp;omega) sv V hs hsv (fun V' hV' z hz=>HT.out V' (below_in hV hV') z hz)).mono (R':=fun e w'=>∃ A c,e = .returned (.slice A Q c)∧manyR.R (fun b=>V.heap.size≤b∧b<w'.heap.size) w' (.slice A Q c) (dsP P Q (lostC L Q n css))∧Below V.heap.size V w') (by
     rintro e w' ⟨A,c,h1,h2,h3⟩
     rw [rowsL_cells P Q HD.out.hQ,rowsL_len P Q HD.out.hQ] at h2
     rw [rowsL_len P Q HD.out.hQ] at h1
     exact ⟨A,c,h1,h2,h3⟩))
   have HMR:=Lib.hid (And.intro hmY2 (And.intro hBYX hBY))
   have hBx:=(Below.refl wX.heap.size wX).drew
   have hS:=HSS.out _ hBx
   clear HT hrP hrD hrowx huP mP gP gD hgeP hgdd hgCx hmY2 hmY3 hcY2 hcY3 b0Y b7Y b9Y b10 hleX hBwX hBwY hadj hBYX hBY hB3 hB10 hwX hgmY
   refine wpIn_mono (region_HF (Q:=NoPanic _) (S:=(fun U:World=>U.cell? ⟨g0,0,none⟩=some (.int .i64 2)∧U.cell? ⟨g0,1,none⟩=some (.int .i64 (P:Int))∧U.cell? ⟨g0,2,none⟩=some (.slice (some ⟨g,0,none⟩) ls.length ls.length)∧U.cell? ⟨g9,0,none⟩=some (.slice (some ⟨gm,mo,none⟩) 2 mc)∧U.cell? ⟨gm,mo,none⟩=some (.slice a2 Q c2))) (by kernel_rfl) ?_) NoPanic.imp
   refine tkF (i:=0) (d:=42) (v:=.pointer (some ⟨g0,0,none⟩)) (s:=hS) (c:=?_)
   simp only [ud9]
   refine tkF (i:=1) (d:=43) (v:=.agg #[.int .i64 2,.int .i64 (P:Int)]) (s:=hS) (c:=?_)
   simp only [ud9]
   refine tkF (i:=2) (d:=44) (v:=.agg #[.int .i64 2,.int .i64 (P:Int),.slice (some ⟨g,0,none⟩) ls.length ls.length]) (s:=hS) (c:=?_)
   simp only [ud9]
   refine tkF (i:=5) (d:=47) (v:=.func (.func 119) #[] #[.pointer (some ⟨g9,0,none⟩),.pointer (some ⟨g10,0,none⟩),.pointer (some ⟨g7,0,none⟩)]) (s:=hS) (c:=?_)
   simp only [ud9]
   refine oneF (i:=3) (c:=?_)
   gi_wp2_with fail
   refine ⟨trivial,(callsIn_wide.2 (Pr.diagonalsAt_any (P:Int) (some ⟨g,0,none⟩) ls.length ls.length _)).mono ?_⟩
   rintro e v1 ⟨rfl,hB⟩
   replace hBx:=below_in hBx hB
   clear hS
   have hS:(fun U:World=>U.cell? ⟨g0,0,none⟩=some (.int .i64 2)∧U.cell? ⟨g0,1,none⟩=some (.int .i64 (P:Int))∧U.cell? ⟨g0,2,none⟩=some (.slice (some ⟨g,0,none⟩) ls.length ls.length)∧U.cell? ⟨g9,0,none⟩=some (.slice (some ⟨gm,mo,none⟩) 2 mc)∧U.cell? ⟨gm,mo,none⟩=some (.slice a2 Q c2)) v1:=HSS.out _ hBx
   clear hB
   gi_wp2
   try (refine ⟨hS,?_⟩)
   refine oneF (i:=4) (c:=?_)
   gi_wp2_with fail
   refine ⟨trivial,(callsIn_wide.2 (HCE.out _ hBx)).mono ?_⟩
   rintro e v2 ⟨sv,rfl,hsv,hB⟩
   have hszs:=hB.size
   replace hBx:=below_in hBx hB
   clear hS
   have hS:(fun U:World=>U.cell? ⟨g0,0,none⟩=some (.int .i64 2)∧U.cell? ⟨g0,1,none⟩=some (.int .i64 (P:Int))∧U.cell? ⟨g0,2,none⟩=some (.slice (some ⟨g,0,none⟩) ls.length ls.length)∧U.cell? ⟨g9,0,none⟩=some (.slice (some ⟨gm,mo,none⟩) 2 mc)∧U.cell? ⟨gm,mo,none⟩=some (.slice a2 Q c2)) v2:=HSS.out _ hBx
   clear hB
   gi_wp2
   try (refine ⟨hS,?_⟩)
   refine oneF (i:=6) (c:=?_)
   gi_wp2_with fail
   refine ⟨trivial,(callsIn_wide.2 (HGA.out _ _ sv hBx hszs hsv)).mono ?_⟩
   rintro e v3 ⟨dA,dc,rfl,hman,hB⟩
   have hszV:=hBx.size
   replace hBx:=below_in hBx hB
   clear hS
   have hS:(fun U:World=>U.cell? ⟨g0,0,none⟩=some (.int .i64 2)∧U.cell? ⟨g0,1,none⟩=some (.int .i64 (P:Int))∧U.cell? ⟨g0,2,none⟩=some (.slice (some ⟨g,0,none⟩) ls.length ls.length)∧U.cell? ⟨g9,0,none⟩=some (.slice (some ⟨gm,mo,none⟩) 2 mc)∧U.cell? ⟨gm,mo,none⟩=some (.slice a2 Q c2)) v3:=HSS.out _ hBx
   clear hB
   gi_wp2
   try (refine ⟨hS,?_⟩)
   refine oneF (i:=7) (c:=?_)
   gi_wp2
   refine anyHF_done (by kernel_rfl) ?_ _
   refine NoPanic.normal ?_
   clear hS
   gi_wp2_with fail
   have hS:(fun U:World=>U.cell? ⟨g0,0,none⟩=some (.int .i64 2)∧U.cell? ⟨g0,1,none⟩=some (.int .i64 (P:Int))∧U.cell? ⟨g0,2,none⟩=some (.slice (some ⟨g,0,none⟩) ls.length ls.length)∧U.cell? ⟨g9,0,none⟩=some (.slice (some ⟨gm,mo,none⟩) 2 mc)∧U.cell? ⟨gm,mo,none⟩=some (.slice a2 Q c2)) v3.drew:=HSS.out _ hBx.drew
   have hBU:=hBx
   replace hBx:=hBx.drew
   refine wpIn_mono (region_HG (Q:=NoPanic _) (S:=(fun U:World=>U.cell? ⟨g0,0,none⟩=some (.int .i64 2)∧U.cell? ⟨g0,1,none⟩=some (.int .i64 (P:Int))∧U.cell? ⟨g0,2,none⟩=some (.slice (some ⟨g,0,none⟩) ls.length ls.length)∧U.cell? ⟨g9,0,none⟩=some (.slice (some ⟨gm,mo,none⟩) 2 mc)∧U.cell? ⟨gm,mo,none⟩=some (.slice a2 Q c2))) (m:=7) (by kernel_rfl) ?_) NoPanic.imp
   refine anyHG_take (i:=0) (d:=49) (v:=.agg #[.int .i64 2,.int .i64 (P:Int),.slice (some ⟨g,0,none⟩) ls.length ls.length]) (by kernel_rfl) rfl (by kernel_rfl) (by kernel_rfl) (by kernel_rfl) rfl (by kernel_rfl) (fun _ _ _ h=>h) ⟨Or.inl ⟨by rfl,fun w hS=>by obtain ⟨h0,h1,h2,h3,h4⟩:=hS;go_simp⟩,fun _=>rfl⟩ hS ?_
   simp only [ud9]
   refine anyHG_take (i:=1) (d:=50) (v:=.slice (some ⟨gm,mo,none⟩) 2 mc) (by kernel_rfl) rfl (by kernel_rfl) (by kernel_rfl) (by kernel_rfl) rfl (by kernel_rfl) (fun _ _ _ h=>h) ⟨Or.inl ⟨by rfl,fun w hS=>by obtain ⟨h0,h1,h2,h3,h4⟩:=hS;go_simp⟩,fun _=>rfl⟩ hS ?_
   simp only [ud9]
   refine anyHG_take (i:=2) (d:=51) (v:=.pointer (some ⟨gm,mo,none⟩)) (by kernel_rfl) rfl (by kernel_rfl) (by kernel_rfl) (by kernel_rfl) rfl (by kernel_rfl) (fun _ _ _ h=>h) ⟨Or.inl ⟨by rfl,fun w hS=>by obtain ⟨h0,h1,h2,h3,h4⟩:=hS;go_simp⟩,fun _=>rfl⟩ hS ?_
   simp only [ud9]
   refine anyHG_take (i:=3) (d:=52) (v:=.slice a2 Q c2) (by kernel_rfl) rfl (by kernel_rfl) (by kernel_rfl) (by kernel_rfl) rfl (by kernel_rfl) (fun _ _ _ h=>h) ⟨Or.inl ⟨by rfl,fun w hS=>by obtain ⟨h0,h1,h2,h3,h4⟩:=hS;go_simp⟩,fun _=>rfl⟩ hS ?_
   simp only [ud9]
   refine anyHG_take (i:=4) (d:=53) (v:=.slice dA Q dc) (by kernel_rfl) rfl (by kernel_rfl) (by kernel_rfl) (by kernel_rfl) rfl (by kernel_rfl) (fun _ _ _ h=>h) ⟨Or.inl ⟨by rfl,fun w hS=>by obtain ⟨h0,h1,h2,h3,h4⟩:=hS;go_simp⟩,fun _=>rfl⟩ hS ?_
   simp only [ud9]
   refine anyHG_take (i:=5) (d:=54) (v:=.slice nA n nc) (by kernel_rfl) rfl (by kernel_rfl) (by kernel_rfl) (by kernel_rfl) rfl (by kernel_rfl) (fun _ _ _ h=>h) ⟨Or.inl ⟨by rfl,fun w hS=>by obtain ⟨h0,h1,h2,h3,h4⟩:=hS;go_simp⟩,fun _=>rfl⟩ hS ?_
   simp only [ud9]
   refine anyHG_take (i:=6) (d:=55) (v:=.agg #[.int .i64 2,.int .i64 (P:Int),.slice (some ⟨g,0,none⟩) ls.length ls.length,.slice a2 Q c2,.slice dA Q dc,.slice nA n nc]) (by kernel_rfl) rfl (by kernel_rfl) (by kernel_rfl) (by kernel_rfl) rfl (by kernel_rfl) (fun _ _ _ h=>h) ⟨Or.inl ⟨by rfl,fun w hS=>by obtain ⟨h0,h1,h2,h3,h4⟩:=hS;go_simp⟩,fun _=>rfl⟩ hS ?_
   simp only [ud9]
   refine anyHG_one (i:=7) (by kernel_rfl) rfl (by kernel_rfl) (by rfl) ?_
   have b6U:=H6U.out _ hBU
   have d0:=b6U.cell 0
   have d1:=b6U.cell 1
   have d2:=b6U.cell 2
   have d3:=b6U.cell 3
   have d4:=b6U.cell 4
   have d5:=b6U.cell 5
   have f0:=b6U.frozen 0
   have f1:=b6U.frozen 1
   have f2:=b6U.frozen 2
   have f3:=b6U.frozen 3
   have f4:=b6U.frozen 4
   have f5:=b6U.frozen 5
   simp only [gz9] at d0 d1 d2 d3 d4 d5
   obtain ⟨we,hwe⟩:∃ z,((((((v3).setCell ⟨g6,0,none⟩ (.int .i64 2)).setCell ⟨g6,1,none⟩ (.int .i64 (P:Int))).setCell ⟨g6,2,none⟩ (.slice (some ⟨g,0,none⟩) ls.length ls.length)).setCell ⟨g6,3,none⟩ (.slice a2 Q c2)).setCell ⟨g6,4,none⟩ (.slice dA Q dc)).setCell ⟨g6,5,none⟩ (.slice nA n nc)=z:=⟨_,rfl⟩
   have bf:=(((((b6U.set_ 0 (.int .i64 2)).set_ 1 (.int .i64 (P:Int))).set_ 2 (.slice (some ⟨g,0,none⟩) ls.length ls.length)).set_ 3 (.slice a2 Q c2)).set_ 4 (.slice dA Q dc)).set_ 5 (.slice nA n nc)
   rw [hwe] at bf
   have hkf:∀ b,b≠g6→we.heap[b]?=v3.heap[b]?:=fun b hb=>by rw [←hwe];exact (Below.heap_setCell _ ⟨g6,5,none⟩ _ b hb).trans ((Below.heap_setCell _ ⟨g6,4,none⟩ _ b hb).trans ((Below.heap_setCell _ ⟨g6,3,none⟩ _ b hb).trans ((Below.heap_setCell _ ⟨g6,2,none⟩ _ b hb).trans ((Below.heap_setCell _ ⟨g6,1,none⟩ _ b hb).trans (Below.heap_setCell _ ⟨g6,0,none⟩ _ b hb)))))
   have hzf:we.heap.size=v3.heap.size:=by rw [←hwe];simp
   have hBwf:Below w.heap.size w we:=by rw [←hwe];exact ((((((below_in HBW.out hBU).setCell (by show w.heap.size≤g6;have:=HBB.out;omega) _).setCell (by show w.heap.size≤g6;have:=HBB.out;omega) _).setCell (by show w.heap.size≤g6;have:=HBB.out;omega) _).setCell (by show w.heap.size≤g6;have:=HBB.out;omega) _).setCell (by show w.heap.size≤g6;have:=HBB.out;omega) _).setCell (by show w.heap.size≤g6;have:=HBB.out;omega) _
   have r0:=bf.cell 0
   have r1:=bf.cell 1
   have r2:=bf.cell 2
   have r3:=bf.cell 3
   have r4:=bf.cell 4
   have r5:=bf.cell 5
   simp only [List.setIfInBounds_toArray,List.set_cons_zero,List.set_cons_succ,List.getElem?_toArray,List.getElem?_cons_zero,List.getElem?_cons_succ] at r0 r1 r2 r3 r4 r5
   have HBF:=Lib.hid (And.intro hkf (And.intro hzf (And.intro hBwf b6U)))
   clear hkf hzf hBwf bf b6U hS
   gi_wp2
   (try rw [hwe])
   clear d0 d1 d2 d3 d4 d5 f0 f1 f2 f3 f4 f5
   refine anyHG_done (by kernel_rfl) ?_ _
   refine NoPanic.normal ?_
   gi_wp2_with fail
   have hBY3:=below_in HMR.out.2.1 hBU
   have hbl:=blank_of HBF.out.2.2.2 (by intro u hu;simp at hu;exact hu)
   have hp2:=many_apart (HMR.out.1.below hBY3) hbl (goodC_pos HGD.out.1 HGD.out.2.2)
   have hn2:=bytes_apart (HZ.out.2.1.below (below_in HMR.out.2.2 hBY3)) hbl
   have h6l:=(H6U.out wX (Below.refl _ _)).lt
   have hz3:=hBY3.size
   have hz4:=HMR.out.2.2.size
   refine ⟨.agg #[.int .i64 2,.int .i64 (P:Int),.slice (some ⟨g,0,none⟩) ls.length ls.length,.slice a2 Q c2,.slice dA Q dc,.slice nA n nc],by simp [results,Tryz.results62,go_sem,r0,r1,r2,r3,r4,r5],a2,c2,dA,dc,nA,nc,rfl,?_,?_,?_,HBF.out.2.2.1.drew⟩
   · exact manyR.imp (manyR.keep hp2 fun b hb=>HBF.out.1 b hb.2) fun b hb=>(show b<we.heap.size by have h1:=hb.1;have h2:=HBF.out.2.1;omega)
   · exact manyR.imp (manyR.keep hman fun b hb=>HBF.out.1 b (by have h1:=hb.1;omega)) fun b hb=>(show b<we.heap.size by have h1:=hb.2;have h2:=HBF.out.2.1;omega)
   · exact bytesR.imp (bytesR.keep hn2 fun b hb=>HBF.out.1 b hb.2) fun b hb=>(show b<we.heap.size by have h1:=hb.1;have h2:=HBF.out.2.1;omega)
end Go.Proofs.YtcchjofjpflbhaaGreatDoor.T
