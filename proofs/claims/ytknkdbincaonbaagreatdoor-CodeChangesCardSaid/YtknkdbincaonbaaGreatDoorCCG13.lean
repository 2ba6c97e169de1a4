/- -/
import Derived.Test.YtknkdbincaonbaaGreatDoorCCG12
import Derived.Laws.EntriesVeiled
import Derived.Test.YtknkdbincaonbaaGreatDoorCCG2
import Derived.Test.YtknkdbincaonbaaGreatDoorCCG6
import Derived.Lib.AppendZeros
import Derived.Laws.OwnMore
set_option linter.unusedVariables false
set_option linter.unusedSimpArgs false
set_option maxRecDepth 100000
set_option maxHeartbeats 2000000
namespace Go.Proofs.YtknkdbincaonbaaGreatDoor.R
open Go.RowKit Go.Shelf Go.Proofs.YtknkdbincaonbaaGreatDoor.C Go.Proofs.YtknkdbincaonbaaGreatDoor.E

theorem made1_any {B:Nat} (p:Int) (A:Option Addr) (N cap:Nat) (css:List (List (List UInt8))) (R n:Nat) (vl:Value) (l:List (Int×Int)) (g:Nat) (w:World) (hB:B≤w.heap.size) (hC:Cols B w (.slice A N cap) css) (hg:Grid R n css) (hl:ReadA w vl l) (hin:inL R css.length l) (hlen:l.length≤1000) (h0:0<l.length) (hn:1≤n∧n≤64) (b0:Blk w g 203 #[.int .i64 2,.int .i64 p,.slice A N cap]) :
 Calls Tryz.prog 294 #[vl,.pointer (some ⟨g,0,none⟩)] w fun e w'=>∃ u,e = .returned u∧Fresh w.heap.size w' u (uponL n css l)∧Below w.heap.size w w':=by
 have HU:=Lib.hid (upon_any (B:=B) p (.slice A N cap) css R n vl l w hB hC hg hl hin hlen h0 hn)
 have g0:=b0.cell 0
 have g1:=b0.cell 1
 have g2:=b0.cell 2
 simp only [gz9] at g0 g1 g2
 clear hC hg hl hin hlen h0 hn b0
 go_enter Tryz.func294,Tryz.ntmps294
 go_wp2_with (go_at_call 295;refine HU.out.mono ?_;rintro e w1 ⟨u,rfl,hu,hB1⟩)
 go_ret
 exact ⟨u,rfl,hu,hB1⟩
theorem enter_made1:∀ args W,(callFunc 294 args).run Tryz.prog W = .ok (.enter 294 args) W:=enters_of Tryz.func294 (by kernel_rfl) rfl

theorem eachL_any (vl:Value) (lst:List (List (Int×Int))) (f:List (Int×Int)→List UInt8) (g:Nat) (w:World) (hl:SliceP atsR [] (·<w.heap.size) w vl lst) (hlen:lst.length≤1000)
 (hm:∀ (k:Nat) (hk:k<lst.length) (u:Value) (W:World),Below w.heap.size w W→ReadA W u lst[k]→Calls Tryz.prog 294 #[u,.pointer (some ⟨g,0,none⟩)] W fun e w'=>∃ x,e = .returned x∧Fresh W.heap.size w' x (f lst[k])∧Below W.heap.size W w') :
 Calls Tryz.prog 292 #[vl,.func (.func 294) #[] #[.pointer (some ⟨g,0,none⟩)]] w fun e w'=>∃ u,e = .returned u∧manyR.R (fun b=>w.heap.size≤b∧b<w'.heap.size) w' u (lst.map f)∧Below w.heap.size w w':=by
 have hent:=enter_made1
 obtain ⟨Al,capl,rfl,hcl,hRd⟩:=hl
 have HR1:=Lib.hid hRd
 have HM:=Lib.hid hm
 clear hRd hm
 obtain ⟨N,hN⟩:∃ N,lst.length=N:=⟨_,rfl⟩
 have HN:=Lib.hid hN
 have HL:Hid (∀ j (hj:j<lst.length),(lst.map f)[j]?.getD []=f lst[j]):=fun j hj=>by rw [List.getElem?_map,List.getElem?_eq_getElem hj];rfl
 have HLL:Hid ((lst.map f).length=N):=by unfold Hid;rw [List.length_map,hN]
 rw [hN] at hlen hcl ⊢
 clear hN
 generalize lst.map f=ls at *
 obtain ⟨i0,hi,hz0,hz1,hz2⟩:=info_parts Tryz.infoSlcE
 have hmake:=run_make (P:=Tryz.prog) w 57 32 i0 (.slice none 0 0) Tryz.underlying57 hi hz0 .i64 .i64 (N:Int) (N:Int) (by omega) (by omega) (by rw [hz2];omega) (by omega)
 simp only [hz1,Int.toNat_natCast] at hmake
 have bA:=Blk.new w 32 (madeCells (Value.slice none 0 0).cells (N * 1))
 have hBA:=below_one w (.cells (madeCells (Value.slice none 0 0).cells (N * 1)) 32)
 have hbz:(madeCells (Value.slice none 0 0).cells (N * 1)).size=N * 1:=size_madeCells _ _
 obtain ⟨wA,hwA⟩:∃ wA,w.alloc (.cells (madeCells (Value.slice none 0 0).cells (N * 1)) 32)=wA:=⟨_,rfl⟩
 rw [hwA] at hmake bA hBA
 generalize madeCells (Value.slice none 0 0).cells (N * 1)=csA at bA hbz
 rw [Nat.mul_one] at hbz
 clear hwA hi hz0 hz1 hz2
 go_enter Tryz.func292,Tryz.ntmps292
 go_wp2_with fail
 go_loopw [13] (fun i wr=>∃ (k:Nat) (cs:Array Value),k≤N∧i = .int .i64 k∧Blk wr w.heap.size 32 cs∧cs.size=N∧Hid (∀ j,j<k→∃ u,cs[j]?=some u∧BytesP (fun b=>w.heap.size<b∧b<wr.heap.size) wr u (ls[j]?.getD []))∧Below w.heap.size w wr) (fun i _=>N - (intOf i).toNat)
 case atStart=>exact ⟨0,csA,by omega,rfl,bA,hbz,Lib.hid (fun j hj=>absurd hj (by omega)),hBA⟩
 case round =>
  clear bA hbz hBA hmake
  obtain ⟨k,cs,hk,rfl,bA,hbz,HJ,hBr⟩:=hrel
  by_cases hlt:k<N
  · have hdec:decide ((k:Int)<(N:Int))=true:=by simp;omega
    have hjs:k<lst.length:=by rw [HN.out];exact hlt
    obtain ⟨b2,off2,rfl,hb2,hcell⟩:=HR1.out (by rw [HN.out];omega)
    obtain ⟨uk,hck,hatk⟩:=hcell k hjs
    have hck2:=(hBr.cell (p:=⟨b2,off2+k,none⟩) hb2).trans hck
    have hrdk:ReadA wr uk lst[k]:=by
     have h1:AtsP (·<w.heap.size) w uk (lst[k]?.getD []):=hatk
     rw [List.getElem?_eq_getElem hjs] at h1
     have h2:ReadA w uk lst[k]:=h1
     exact h2.next hBr
    have hcall:=Lib.hid (HM.out k hjs uk wr hBr hrdk)
    have HLK:=HL.out k hjs
    rw [←HLK] at hcall
    obtain ⟨pk,ck,hue,_⟩:=hrdk
    obtain ⟨nk,hnk⟩:∃ nk,lst[k].length=nk:=⟨_,rfl⟩
    rw [hnk] at hue
    subst hue
    have i1:(0:Int)≤(k:Int):=by omega
    have i2:(k:Int)<(N:Int):=by omega
    clear HLK hcell hatk hck hnk
    go_wp2_with fail
    refine hcall.out.mono ?_
    rintro e w4 ⟨u,rfl,hu,hB4⟩
    obtain ⟨Au,capu,rfl,_⟩:=id hu
    have bA4:=bA.below hB4 bA.lt
    have c0:=bA4.cell k
    rw [Array.getElem?_eq_getElem (show k<cs.size by omega)] at c0
    have f0:=bA4.frozen k
    have hgl:=bA.lt
    have hs4:=hB4.size
    have HST:Hid (∀ V,V=w4.setCell ⟨w.heap.size,k,none⟩ (.slice Au (ls[k]?.getD []).length capu) →
     Blk V w.heap.size 32 (cs.setIfInBounds k (.slice Au (ls[k]?.getD []).length capu))∧Below w.heap.size w V ∧
     ∀ j,j<k+1→∃ u,(cs.setIfInBounds k (.slice Au (ls[k]?.getD []).length capu))[j]?=some u∧BytesP (fun b=>w.heap.size<b∧b<V.heap.size) V u (ls[j]?.getD [])):=fun V hV=>by
     have hVs:V.heap.size=w4.heap.size:=by rw [hV];simp
     have hKe:Keeps (fun b=>b≠w.heap.size) w4 V:=fun b hb=>by rw [hV];exact Below.heap_setCell w4 _ _ b (by simpa using hb)
     refine ⟨by rw [hV];exact bA4.set_ k _,by rw [hV];exact (below_in hBr hB4).setCell (by simp) _,fun j hj=>?_⟩
     by_cases hjk:j=k
     · subst hjk
       exact ⟨_,Array.getElem?_setIfInBounds_self_of_lt (by omega),(BytesP.imp hu.toP (Q:=fun b=>w.heap.size<b∧b<V.heap.size) (fun b hb=>⟨by have:=hb.1;omega,by rw [hVs];exact hb.2⟩)).keep (fun b hb=>hKe b (Nat.ne_of_gt hb.1))⟩
     · obtain ⟨u1,h1,h2⟩:=HJ.out j (by omega)
       have h3:=BytesP.below h2 (N:=wr.heap.size) (fun b hb=>hb.2) hB4
       exact ⟨u1,by rw [Array.getElem?_setIfInBounds_ne (by omega)];exact h1,(BytesP.imp h3 (Q:=fun b=>w.heap.size<b∧b<V.heap.size) (fun b hb=>⟨hb.1,by rw [hVs];omega⟩)).keep (fun b hb=>hKe b (Nat.ne_of_gt hb.1))⟩
    generalize cs[k]'_=o0 at c0
    clear hu hcall hB4 HJ
    go_wp2
    go_roundw
    case rel=>exact ⟨k+1,_,hlt,by go_num,(HST.out _ rfl).1,by simpa using hbz,Lib.hid (HST.out _ rfl).2.2,(HST.out _ rfl).2.1⟩
    case measure=>simp [intOf];omega
  · obtain rfl:k=N:=by omega
    have hdec:decide ((k:Int)<(k:Int))=false:=by simp
    go_wp2
    go_ret
    refine ⟨_,rfl,⟨some ⟨w.heap.size,0,none⟩,k,by rw [HLL.out];rfl,by rw [HLL.out];exact Nat.le_refl _,fun h0=>⟨w.heap.size,0,rfl,⟨Nat.le_refl _,bA.lt⟩,fun j hj=>?_⟩⟩,hBr⟩
    obtain ⟨u1,h1,h2⟩:=HJ.out j (by rw [←HLL.out];exact hj)
    exact ⟨u1,by rw [Nat.zero_add,bA.cell j];exact h1,BytesP.imp h2 (fun b hb=>⟨Nat.le_of_lt hb.1,hb.2⟩)⟩
theorem made_any {B:Nat} (p col:Int) (hp:p∈prm) (hc:p - 1≤col∧col≤p) (v:Value) (css:List (List (List UInt8))) (n:Nat) (w:World) (hL:Laid w) (hB:B≤w.heap.size) (hC:Cols B w v css) (hcl:col≤(css.length:Int)) (hg:Grid (p - 1).toNat n css) (hn:1≤n∧n≤64) :
 Calls Tryz.prog 272 #[.agg #[.int .i64 2,.int .i64 p,v],.int .i64 col] w fun e w'=>∃ u,e = .returned u∧manyR.R (fun b=>w.heap.size≤b∧b<w'.heap.size) w' u (colL 2 p n css col)∧Below w.heap.size w w':=by
 have hmf:∀ (fn:Fn) (first cap:Array Value) (w:World),(Instr.makeFunc fn first cap).run Tryz.prog w = .ok (.func fn first cap) w:=fun _ _ _ _=>rfl
 have hpp:=prm_bounds hp
 have hR:RightC 2 p:=⟨by omega,hp⟩
 have hs2:shortN 2=1:=rfl
 have hm2:madeN 2=2:=rfl
 obtain ⟨A,cap,rfl,_,_⟩:=id hC
 have hBz:=below_one w (.cells #[.int .i64 2,.int .i64 p,.slice A css.length cap] 203)
 have bz:=Blk.new w 203 #[.int .i64 2,.int .i64 p,.slice A css.length cap]
 have HME:=Lib.hid (members_any p col hp hc A css.length cap _ (hL.next hBz))
 have HEA:=Lib.hid (fun (U:World) (u:Value) (hU:Below (w.alloc (.cells #[.int .i64 2,.int .i64 p,.slice A css.length cap] 203)).heap.size (w.alloc (.cells #[.int .i64 2,.int .i64 p,.slice A css.length cap] 203)) U) (hu:SliceP atsR [] (·<U.heap.size) U u (memsL p col))=>eachL_any u (memsL p col) (uponL n css) w.heap.size U hu (by unfold memsL;rw [List.length_map,List.length_range];omega) (fun k hk x W hW hx=>by
  have hk2:k<(p - 1).toNat:=by unfold memsL at hk;simpa using hk
  have hmk:(memsL p col)[k]=memL 2 p col (k:Int):=by unfold memsL;simp
  rw [hmk] at hx ⊢
  have hcell:HasCell 2 p col (k:Int):=⟨⟨by omega,by rw [hs2,hm2];omega⟩,by omega,by omega⟩
  have hwW:=below_in hBz (below_in hU hW)
  exact made1_any (B:=B) p A css.length cap css (p - 1).toNat n x _ w.heap.size W (Nat.le_trans hB hwW.size) (hC.below (hwW.mono hB)) hg hx (memL_in hR (by omega) hcl) (memL_len hR hcell) (List.length_pos_iff.2 (memL_ne hR hcell (by rw [hs2];omega))) hn (bz.below (below_in hU hW) bz.lt)))
 have hcm:(memsL p col).map (uponL n css)=colL 2 p n css col:=by unfold memsL colL;rw [List.map_map];rfl
 rw [hcm] at HEA
 have g0:=bz.cell 0
 have g1:=bz.cell 1
 have g2:=bz.cell 2
 simp only [gz9] at g0 g1 g2
 clear hC hg hcl hcm bz
 generalize colL 2 p n css col=res at *
 generalize css.length=N at *
 go_enter Tryz.func272,Tryz.ntmps272
 go_wp2_with (first
  | (go_at_call 293;refine HME.out.mono ?_;rintro e w1 ⟨u,rfl,hu,hB1⟩)
  | (go_at_call 292;refine (HEA.out _ _ hB1 hu).mono ?_;rintro e w2 ⟨u2,rfl,hu2,hB2⟩))
 go_ret
 have h9:=hBz.size
 have h8:=hB1.size
 exact ⟨_,rfl,manyR.imp hu2 (fun b hb=>⟨by omega,hb.2⟩),below_in hBz (below_in hB1 hB2)⟩
theorem rows_any {B:Nat} (p:Int) (hp:p∈prm) (v:Value) (css:List (List (List UInt8))) (n:Nat) (w:World) (hL:Laid w) (hB:B≤w.heap.size) (hC:Cols B w v css) (hcl:p - 1≤(css.length:Int)) (hg:Grid (p - 1).toNat n css) (hn:1≤n∧n≤64) :
 Calls Tryz.prog 245 #[.agg #[.int .i64 2,.int .i64 p,v]] w fun e w'=>∃ u,e = .returned u∧manyR.R (fun b=>w.heap.size≤b∧b<w'.heap.size) w' u (colL 2 p n css (p - 1))∧Below w.heap.size w w':=by
 have hpp:=prm_bounds hp
 obtain ⟨A,cap,rfl,_,_⟩:=id hC
 have hBz:=below_one w (.cells #[.int .i64 2,.int .i64 p,.slice A css.length cap] 203)
 have bz:=Blk.new w 203 #[.int .i64 2,.int .i64 p,.slice A css.length cap]
 have HA:=Lib.hid (fun (U:World)=>rowsAt_any p (by omega) A css.length cap U)
 have HM:=Lib.hid (fun (U:World) (hU:Below w.heap.size w U)=>made_any (B:=B) p (p - 1) hp (by omega) (.slice A css.length cap) css n U (hL.next hU) (Nat.le_trans hB hU.size) (hC.below (hU.mono hB)) hcl hg hn)
 have g0:=bz.cell 0
 have g1:=bz.cell 1
 have g2:=bz.cell 2
 simp only [gz9] at g0 g1 g2
 have hlt:=bz.lt
 clear hC hg hcl bz
 generalize colL 2 p n css (p - 1)=res at *
 generalize css.length=N at *
 obtain ⟨W1,hW1⟩:∃ W1,w.alloc (.cells #[.int .i64 2,.int .i64 p,.slice A N cap] 203)=W1:=⟨_,rfl⟩
 rw [hW1] at hBz g0 g1 g2 hlt
 go_enter Tryz.func245,Tryz.ntmps245
 go_wp2
 try rw [hW1]
 go_region_held3 (fun U=>U.cell? ⟨w.heap.size,0,none⟩=some (.int .i64 2)∧U.cell? ⟨w.heap.size,1,none⟩=some (.int .i64 p)∧U.cell? ⟨w.heap.size,2,none⟩=some (.slice A N cap))
  (first | exact ⟨g0,g1,g2⟩ | exact ⟨(hB1.cell (p:=⟨w.heap.size,0,none⟩) hlt).trans g0,(hB1.cell (p:=⟨w.heap.size,1,none⟩) hlt).trans g1,(hB1.cell (p:=⟨w.heap.size,2,none⟩) hlt).trans g2⟩ | exact ⟨(hB2.cell (p:=⟨w.heap.size,0,none⟩) hlt).trans g0,(hB2.cell (p:=⟨w.heap.size,1,none⟩) hlt).trans g1,(hB2.cell (p:=⟨w.heap.size,2,none⟩) hlt).trans g2⟩)
  (first
   | (go_at_call 212;refine (HA.out _).mono ?_;rintro e w1 ⟨rfl,hB1⟩;replace hB1:Below W1.heap.size W1 w1:=(by first | exact hB1 | exact below_undrew hB1))
   | (go_at_call 272;refine (HM.out _ (below_in hBz hB1)).mono ?_;rintro e w2 ⟨u,rfl,hu,hB2⟩;replace hu:=manyR.imp hu (fun b hb=>(⟨Nat.le_trans (Nat.le_trans hBz.size hB1.size) hb.1,hb.2⟩:w.heap.size≤b∧b<w2.heap.size));replace hB2:=below_in hB1 hB2))
 all_goals go_wp2
 all_goals go_ret
 all_goals exact ⟨_,rfl,hu,below_in hBz hB2⟩
theorem diagonals_any {B:Nat} (p:Int) (hp:p∈prm) (v:Value) (css:List (List (List UInt8))) (n:Nat) (w:World) (hL:Laid w) (hB:B≤w.heap.size) (hC:Cols B w v css) (hcl:p≤(css.length:Int)) (hg:Grid (p - 1).toNat n css) (hn:1≤n∧n≤64) :
 Calls Tryz.prog 246 #[.agg #[.int .i64 2,.int .i64 p,v]] w fun e w'=>∃ u,e = .returned u∧manyR.R (fun b=>w.heap.size≤b∧b<w'.heap.size) w' u (colL 2 p n css (p))∧Below w.heap.size w w':=by
 have hpp:=prm_bounds hp
 obtain ⟨A,cap,rfl,_,_⟩:=id hC
 have hBz:=below_one w (.cells #[.int .i64 2,.int .i64 p,.slice A css.length cap] 203)
 have bz:=Blk.new w 203 #[.int .i64 2,.int .i64 p,.slice A css.length cap]
 have HA:=Lib.hid (fun (U:World)=>diagonalsAt_any p (by omega) A css.length cap U)
 have HM:=Lib.hid (fun (U:World) (hU:Below w.heap.size w U)=>made_any (B:=B) p (p) hp (by omega) (.slice A css.length cap) css n U (hL.next hU) (Nat.le_trans hB hU.size) (hC.below (hU.mono hB)) hcl hg hn)
 have g0:=bz.cell 0
 have g1:=bz.cell 1
 have g2:=bz.cell 2
 simp only [gz9] at g0 g1 g2
 have hlt:=bz.lt
 clear hC hg hcl bz
 generalize colL 2 p n css (p)=res at *
 generalize css.length=N at *
 obtain ⟨W1,hW1⟩:∃ W1,w.alloc (.cells #[.int .i64 2,.int .i64 p,.slice A N cap] 203)=W1:=⟨_,rfl⟩
 rw [hW1] at hBz g0 g1 g2 hlt
 go_enter Tryz.func246,Tryz.ntmps246
 go_wp2
 try rw [hW1]
 go_region_held3 (fun U=>U.cell? ⟨w.heap.size,0,none⟩=some (.int .i64 2)∧U.cell? ⟨w.heap.size,1,none⟩=some (.int .i64 p)∧U.cell? ⟨w.heap.size,2,none⟩=some (.slice A N cap))
  (first | exact ⟨g0,g1,g2⟩ | exact ⟨(hB1.cell (p:=⟨w.heap.size,0,none⟩) hlt).trans g0,(hB1.cell (p:=⟨w.heap.size,1,none⟩) hlt).trans g1,(hB1.cell (p:=⟨w.heap.size,2,none⟩) hlt).trans g2⟩ | exact ⟨(hB2.cell (p:=⟨w.heap.size,0,none⟩) hlt).trans g0,(hB2.cell (p:=⟨w.heap.size,1,none⟩) hlt).trans g1,(hB2.cell (p:=⟨w.heap.size,2,none⟩) hlt).trans g2⟩)
  (first
   | (go_at_call 273;refine (HA.out _).mono ?_;rintro e w1 ⟨rfl,hB1⟩;replace hB1:Below W1.heap.size W1 w1:=(by first | exact hB1 | exact below_undrew hB1))
   | (go_at_call 272;refine (HM.out _ (below_in hBz hB1)).mono ?_;rintro e w2 ⟨u,rfl,hu,hB2⟩;replace hu:=manyR.imp hu (fun b hb=>(⟨Nat.le_trans (Nat.le_trans hBz.size hB1.size) hb.1,hb.2⟩:w.heap.size≤b∧b<w2.heap.size));replace hB2:=below_in hB1 hB2))
 all_goals go_wp2
 all_goals go_ret
 all_goals exact ⟨_,rfl,hu,below_in hBz hB2⟩
def rolesV:Value:=.agg #[.func (.func 245) #[] #[],.func (.func 246) #[] #[]]
theorem roles_any (w:World):Calls Tryz.prog 211 #[] w fun e w'=>e = .returned rolesV∧Below w.heap.size w w':=by
 go_enter Tryz.func211,Tryz.ntmps211
 go_wp2
 have b:=Blk.new w 235 #[.func (.func 245) #[] #[],.func (.func 246) #[] #[]]
 have c0:=b.cell 0
 have c1:=b.cell 1
 simp only [gz9] at c0 c1
 exact bodyPost_ret (v:=rolesV) (by simp [results,Tryz.results211,go_sem,c0,c1,rolesV]) rfl ⟨rfl,below_one w _⟩
end Go.Proofs.YtknkdbincaonbaaGreatDoor.R

namespace Go.Proofs.YtknkdbincaonbaaGreatDoor.R
open Go.RowKit Go.Shelf Go.Proofs.YtknkdbincaonbaaGreatDoor.C Go.Proofs.YtknkdbincaonbaaGreatDoor.E

def OwnK (w:World) (base:Nat) (v:Value) (us:List Value):Prop:=w.ownsRow base 58 1 v us.length us
theorem ownK_nil (w:World) (base:Nat):OwnK w base (.slice none 0 0) []:=World.ownsRow_nil w base _ 1
theorem wpList_zerosK (w:World) {ops:Array Oper} {rest:List Oper} {o:Oper} {a:Act} {Q:Exit→Act→World→Prop} (hgd:o.guard=none) (s x:Operand)
 (ho:o.op = .call { callee:=.builtin .append,args:=#[s,x],argTypes:=#[25,3] }) (n:Nat) (h0:0<n) (hn:n≤1000000)
 (hs:a.eval s = .slice none 0 0) (hx:a.eval x = .int .i64 (n:Int))
 (h:∀ c w',OwnK w' w.heap.size (.slice (some ⟨w.heap.size,0,none⟩) 0 c) []→Below w.heap.size w w'→n≤c→wpList Tryz.prog ops Q rest (a.put o.dst (.slice (some ⟨w.heap.size,0,none⟩) n c)) w'):wpList Tryz.prog ops Q (o :: rest) a w :=
 wpList_plain hgd fun K hK=>by
  obtain ⟨i0,hi,hz0,hz1,hz2⟩:=info_parts Tryz.infoCol
  have hrun:=Lib.run_append_nil_zeros (P:=Tryz.prog) w 25 3 o.type 58 i0 (.slice none 0 0) .i64 .i64 Tryz.underlying25 Tryz.underlying3 hi hz0 n h0 (by omega) (by omega) (by rw [hz2];omega)
  have hge:=grownCap_ge w n 0 58
  have hle:=grownCap_le_maxLen w n 0 58 (by unfold maxLen;omega)
  generalize grownCap w n 0 58=c at *
  have hsz:(Builtin.zeroCells (Value.slice none 0 0).cells n ++ Builtin.zeroCells (Value.slice none 0 0).cells (c - n)).size=c * 1:=by
   rw [Array.size_append,show (Value.slice none 0 0).cells=#[.slice none 0 0] from rfl,size_zeroCells,size_zeroCells];simp;omega
  generalize Builtin.zeroCells (Value.slice none 0 0).cells n ++ Builtin.zeroCells (Value.slice none 0 0).cells (c - n)=cs at *
  unfold Oper.wp execOp
  simp only [ho,resolve,invoke,builtin,Sem.run_bind,Sem.run_pure,Result.andThen_ok,List.map_toArray,List.map_cons,List.map_nil,hs,hx,hrun]
  exact hK _ _ (h c _ (World.ownsRow_made w.drew cs c (Nat.le_refl _) hle hsz) ((Below.refl w.heap.size w).drew.alloc (Nat.le_refl _) _) hge)

theorem growK_any (n:Nat) (hn:n≤1000000) (w:World) :
 Calls Tryz.prog 282 #[.slice none 0 0,.int .i64 (n:Int)] w fun e w'=>∃ v,e = .returned v∧OwnK w' w.heap.size v []∧Below w.heap.size w w':=by
 by_cases h0:n=0
 · subst h0
   go_enter Tryz.func282,Tryz.ntmps282
   go_wp2
   go_ret
   exact ⟨_,rfl,ownK_nil _ _,Below.refl _ _⟩
 · have hp:0<n:=by omega
   have d1:decide ((n:Int)<0)=false:=by simp
   have d2:decide (0<(n:Int))=true:=by simp;omega
   go_enter Tryz.func282,Tryz.ntmps282
   go_wp2_with (at_builtin;refine wpList_zerosK _ rfl _ _ rfl n hp hn rfl rfl ?_;intro c w1 hown hB1 hc)
   go_ret
   exact ⟨_,rfl,hown,hB1⟩
theorem wpList_valsK (w:World) {ops:Array Oper} {rest:List Oper} {o:Oper} {a:Act} {Q:Exit→Act→World→Prop} (hgd:o.guard=none) (s x:Operand)
 (ho:o.op = .call { callee:=.builtin .append,args:=#[s,x],argTypes:=#[25,25] })
 (base:Nat) (v:Value) (l:List Value) (hs:a.eval s=v) (hown:OwnK w base v l) (B2:Nat) (v2:Value) (us:List Value) (hx:a.eval x=v2) (hv2:Vals B2 w v2 us) (hone:∀ u∈us,u.oneCell'=true) (hlen:l.length≤100000) (hlen2:us.length≤100000) (hbase:base≤w.heap.size)
 (h:∀ v' w',OwnK w' base v' (l ++ us)→w.grownBy w' v.ownBlock→wpList Tryz.prog ops Q rest (a.put o.dst v') w'):wpList Tryz.prog ops Q (o :: rest) a w :=
 wpList_plain hgd fun K hK=>by
  obtain ⟨i,hi,hz0,hz1,hz2⟩:=info_parts Tryz.infoCol
  rcases hv2 with ⟨rfl,rfl⟩ | ⟨b,off,cap,rfl,hc,hb,hcell⟩
  · rw [List.append_nil] at h
    have hrun:=run_append_owned_none (P:=Tryz.prog) (w:=w) base 25 o.type 58 i 1 Tryz.underlying25 hi v l.length l hown
    unfold Oper.wp execOp
    simp only [ho,resolve,invoke,builtin,Sem.run_bind,Sem.run_pure,Result.andThen_ok,List.map_toArray,List.map_cons,List.map_nil,hs,hx,hrun]
    exact hK _ _ (h v w hown (World.grownBy.refl _ _))
  · obtain ⟨v',w',hrun,r1,r2,_,r3⟩:=run_append_own_at (P:=Tryz.prog) w base 25 o.type 58 i (.slice none 0 0) 1 24 Tryz.underlying25 hi hz0 hz1 hz2 rfl (by omega) v l.length l hown ⟨b,off,none⟩ us.length cap us (by omega)
     (by intro j u hu;rw [addr_add];exact hcell j u hu) hone (by unfold maxLen;omega) (by omega) hbase
    unfold Oper.wp execOp
    simp only [ho,resolve,invoke,builtin,Sem.run_bind,Sem.run_pure,Result.andThen_ok,List.map_toArray,List.map_cons,List.map_nil,hs,hx,hrun]
    exact hK _ _ (h v' w' (by unfold OwnK;rw [List.length_append];exact r1) r2)
theorem concatK_any (b off cap:Nat) (uss:List (List Value)) (hls:uss.length≤1000) (htot:uss.flatten.length≤100000) (hone:∀ us∈uss,∀ u∈us,u.oneCell'=true) (w:World) {B:Nat} (hB:B≤w.heap.size) (hb:b<w.heap.size)
 (hcell:∀ j,j<uss.length→∃ s,w.cell? ⟨b,off+j,none⟩=some s∧Vals B w s (uss[j]?.getD [])) :
 Calls Tryz.prog 264 #[.slice (some ⟨b,off,none⟩) uss.length cap] w fun e w'=>∃ v',e = .returned v'∧OwnK w' w.heap.size v' uss.flatten∧Below w.heap.size w w':=by
 have HCE:=Lib.hid hcell
 clear hcell
 have HON:Hid (∀ j,j<uss.length→∀ u∈uss[j]?.getD [],u.oneCell'=true):=fun j hj u hu=>hone (uss[j]?.getD []) (by rw [List.getElem?_eq_getElem hj];exact List.getElem_mem hj) u hu
 clear hone
 go_enter Tryz.func264,Tryz.ntmps264
 go_wp2_with fail
 go_loop [3,11] (fun s i=>∃ k:Nat,k≤uss.length∧i = .int .i64 k∧s = .int .i64 ((uss.take k).flatten.length:Int)) (fun _ i=>uss.length - (intOf i).toNat)
 case atStart=>exact ⟨0,Nat.zero_le _,rfl,rfl⟩
 case round =>
  obtain ⟨k,hk,rfl,rfl⟩:=hrel
  by_cases hlt:k<uss.length
  · have hdec:decide ((k:Int)<(uss.length:Int))=true:=by simp;omega
    obtain ⟨sv,hc,hv⟩:=HCE.out k hlt
    obtain ⟨A1,cp,rfl⟩:=hv.len
    have HF:Hid ((uss.take (k+1)).flatten.length=(uss.take k).flatten.length+(uss[k]?.getD []).length):=by
     unfold Hid;rw [flat_nextV uss k hlt,List.length_append]
    have hle:=flat_leV uss (k+1)
    rw [HF.out] at hle
    clear hv
    generalize (uss[k]?.getD []).length=m at hc HF hle
    generalize (uss.take k).flatten.length=s at HF hle
    have d1:decide (((s:Int)+(m:Int))<0)=false:=by simp;omega
    go_wp2
    go_round
    case rel=>exact ⟨k+1,by omega,by go_num,by rw [HF.out];go_num⟩
    case measure=>simp [intOf];omega
  · obtain rfl:k=uss.length:=by omega
    have e1:decide ((uss.length:Int)<(uss.length:Int))=false:=by simp
    rw [List.take_length]
    have HT:=Lib.hid htot
    have HLE:=Lib.hid (fun k=>flat_leV uss k)
    generalize uss.flatten.length=T at HT HLE htot
    have HG:=Lib.hid (growK_any T (by omega) w)
    go_wp2_with (go_at_call 282;refine HG.out.mono ?_;rintro e w1 ⟨v1,rfl,hown1,hB1⟩)
    go_loopw [6,27] (fun v i wr=>∃ k:Nat,k≤uss.length∧i = .int .i64 k∧OwnK wr w.heap.size v (uss.take k).flatten∧Below w.heap.size w wr) (fun _ i _=>uss.length - (intOf i).toNat)
    case atStart=>exact ⟨0,Nat.zero_le _,rfl,hown1,hB1⟩
    case round =>
     obtain ⟨k,hk,rfl,hown,hBr⟩:=hrel
     by_cases hlt:k<uss.length
     · have hdec:decide ((k:Int)<(uss.length:Int))=true:=by simp;omega
       obtain ⟨sv,hc,hv⟩:=HCE.out k hlt
       have hon:=HON.out k hlt
       have hc1:=(hBr.cell (p:=⟨b,off+k,none⟩) hb).trans hc
       have hv1:=hv.below (hBr.mono hB)
       have HF:=Lib.hid (flat_nextV uss k hlt)
       have hle:=HLE.out (k+1)
       rw [HF.out,List.length_append] at hle
       obtain ⟨A1,cp,rfl⟩:=hv.len
       clear hc hv
       generalize uss[k]?.getD []=r at hc1 hv1 HF hle hon
       generalize (uss.take k).flatten=p at HF hle hown
       have HO:=Lib.hid hown
       have HV:=Lib.hid hv1
       clear hown hv1
       go_wp2_with (at_builtin;refine wpList_valsK _ rfl _ _ rfl w.heap.size _ p rfl HO.out B _ r rfl HV.out hon (by have:=HT.out;omega) (by have:=HT.out;omega) hBr.size ?_;intro v' w2 hown2 hgrow2)
       go_roundw
       case rel=>exact ⟨k+1,by omega,by go_num,by rw [HF.out];exact hown2,below_grown hBr hgrow2 hBr.size (fun g e=>(World.ownsRow.lt HO.out g e).1)⟩
       case measure=>simp [intOf];omega
     · obtain rfl:k=uss.length:=by omega
       have e1:decide ((uss.length:Int)<(uss.length:Int))=false:=by simp
       rw [List.take_length] at hown
       go_wp2
       go_ret
       exact ⟨_,rfl,hown,hBr⟩
def ColsV (B:Nat) (W:World) (v:Value) (us:List Value) (css:List (List (List UInt8))):Prop:=us.length=css.length∧Vals B W v us∧∀ (j:Nat) (u:Value),us[j]?=some u→Many B W u (css[j]?.getD [])
theorem ColsV.below {B:Nat} {W W':World} {v:Value} {us:List Value} {css:List (List (List UInt8))} (h:ColsV B W v us css) (hb:Below B W W'):ColsV B W' v us css:=⟨h.1,h.2.1.below hb,fun j u hu=>(h.2.2 j u hu).below hb⟩
theorem ColsV.more {B B':Nat} {W:World} {v:Value} {us:List Value} {css:List (List (List UInt8))} (h:ColsV B W v us css) (hB:B≤B'):ColsV B' W v us css:=⟨h.1,h.2.1.more hB,fun j u hu=>(h.2.2 j u hu).more hB⟩
theorem ColsV.one {B:Nat} {W:World} {v:Value} {us:List Value} {css:List (List (List UInt8))} (h:ColsV B W v us css):∀ u∈us,u.oneCell'=true:=fun u hu=>by
 obtain ⟨j,hj⟩:=List.getElem?_of_mem hu
 obtain ⟨A,cap,rfl,_⟩:=h.2.2 j u hj
 rfl
theorem ColsV.nil (B:Nat) (W:World):ColsV B W (.slice none 0 0) [] []:=⟨rfl,.inl ⟨rfl,rfl⟩,fun j u h=>by cases h⟩
theorem Cols.vals {B:Nat} {W:World} {v:Value} {css:List (List (List UInt8))} (h:Cols B W v css) (h0:0<css.length):∃ us,ColsV B W v us css:=by
 obtain ⟨A,cap,rfl,hc,hA⟩:=h
 obtain ⟨b,off,rfl,hb,hr⟩:=hA h0
 refine ⟨(List.range css.length).map fun j=>(W.cell? ⟨b,off+j,none⟩).getD undef,by simp,.inr ⟨b,off,cap,by simp,by simpa using hc,hb,fun j u hu=>?_⟩,fun j u hu=>?_⟩
 all_goals
  rw [List.getElem?_map] at hu
  rcases Nat.lt_or_ge j css.length with hj | hj
  · rw [List.getElem?_range hj] at hu
    obtain ⟨u2,h1,h2⟩:=hr j hj
    simp only [Option.map_some,h1,Option.getD_some,Option.some.injEq] at hu
    subst hu
    first | exact h1 | exact h2
  · rw [List.getElem?_eq_none (by simpa using hj)] at hu
    cases hu
theorem OwnK.cols {B base:Nat} {W:World} {v:Value} {us:List Value} {css:List (List (List UInt8))} (h:OwnK W base v us) (hn:us.length=css.length) (h0:0<us.length) (hb:∀ (j:Nat) (u:Value),us[j]?=some u→Many B W u (css[j]?.getD [])) (hB:B≤W.heap.size):Cols W.heap.size W v css:=by
 have hcp:∀ g cap,v = .slice (some ⟨g,0,none⟩) us.length cap→us.length≤cap:=fun g cap e=>by
  rcases h.2 with ⟨_,h1⟩ | ⟨g2,cap2,cur,e2,_,_,hnc,_⟩
  · omega
  · rw [e] at e2
    injection e2 with _ _ e3
    omega
 obtain ⟨g,cap,e,hg,hg1⟩:=World.ownsRow.form h h0
 have hcap:=hcp g cap e
 subst e
 refine ⟨_,cap,by rw [hn],by rw [←hn];exact hcap,fun _=>⟨g,0,rfl,by omega,fun j hj=>?_⟩⟩
 have hj2:j<us.length:=by omega
 refine ⟨us[j],?_,(hb j us[j] (List.getElem?_eq_getElem hj2)).more hB⟩
 rw [Nat.zero_add,World.ownsRow.cellAt h j (by omega),List.getElem?_eq_getElem hj2]
theorem both_at {B:Nat} {W:World} {us uo:List Value} {css os:List (List (List UInt8))} (h1:us.length=css.length) (ha:∀ (j:Nat) (u:Value),us[j]?=some u→Many B W u (css[j]?.getD [])) (hb:∀ (j:Nat) (u:Value),uo[j]?=some u→Many B W u (os[j]?.getD [])):∀ (j:Nat) (u:Value),(us ++ uo)[j]?=some u→Many B W u ((css ++ os)[j]?.getD []):=fun j u hu=>by
 rcases Nat.lt_or_ge j us.length with hj | hj
 · rw [List.getElem?_append_left hj] at hu
   rw [List.getElem?_append_left (by omega)]
   exact ha j u hu
 · rw [List.getElem?_append_right hj] at hu
   rw [List.getElem?_append_right (by omega),←h1]
   exact hb _ u hu
end Go.Proofs.YtknkdbincaonbaaGreatDoor.R

namespace Go.Proofs.YtknkdbincaonbaaGreatDoor.R
open Go.RowKit Go.Shelf Go.Proofs.YtknkdbincaonbaaGreatDoor.C Go.Proofs.YtknkdbincaonbaaGreatDoor.E
attribute [local go_sem] Oper.semAt_some

theorem OwnK.colsP {P:Nat→Prop} {base:Nat} {W:World} {v:Value} {us:List Value} {css:List (List (List UInt8))} (h:OwnK W base v us) (hn:us.length=css.length) (h0:0<us.length) (hb:∀ (j:Nat) (u:Value),us[j]?=some u→manyR.R P W u (css[j]?.getD [])) (hP:∀ g,base≤g→g<W.heap.size→P g):colsR.R P W v css:=by
 have hcp:∀ g cap,v = .slice (some ⟨g,0,none⟩) us.length cap→us.length≤cap:=fun g cap e=>by
  rcases h.2 with ⟨_,h1⟩ | ⟨g2,cap2,cur,e2,_,_,hnc,_⟩
  · omega
  · rw [e] at e2
    injection e2 with _ _ e3
    omega
 obtain ⟨g,cap,e,hg,hg1⟩:=World.ownsRow.form h h0
 have hcap:=hcp g cap e
 subst e
 refine ⟨_,cap,by rw [hn],by rw [←hn];exact hcap,fun _=>⟨g,0,rfl,hP g (by omega) (by omega),fun j hj=>?_⟩⟩
 have hj2:j<us.length:=by omega
 refine ⟨us[j],?_,hb j us[j] (List.getElem?_eq_getElem hj2)⟩
 rw [Nat.zero_add,World.ownsRow.cellAt h j (by omega),List.getElem?_eq_getElem hj2]
theorem with_any {B:Nat} (p:Int) (vc vo:Value) (us uo:List Value) (css os:List (List (List UInt8))) (w:World) (hB:B≤w.heap.size) (h1:ColsV B w vc us css) (h2:ColsV B w vo uo os) (hn1:css.length≤100) (hn2:os.length≤100) (h0:0<css.length) :
 Calls Tryz.prog 233 #[.agg #[.int .i64 2,.int .i64 p,vc],vo] w fun e w'=>∃ u,e = .returned (.agg #[.int .i64 2,.int .i64 p,u])∧Cols w'.heap.size w' u (css ++ os)∧Below w.heap.size w w':=by
 obtain ⟨Ac,cc,rfl⟩:=h1.2.1.len
 obtain ⟨Ao,co,rfl⟩:=h2.2.1.len
 obtain ⟨W2,hW2⟩:∃ W2,(w.alloc (.cells #[.int .i64 2,.int .i64 p,.slice Ac us.length cc] 203)).alloc (.cells #[.int .i64 0,.int .i64 0,.slice none 0 0] 203)=W2:=⟨_,rfl⟩
 have b0:Blk W2 w.heap.size 203 #[.int .i64 2,.int .i64 p,.slice Ac us.length cc]:=by rw [←hW2];exact (Blk.new w _ _).alloc _
 have bz:Blk W2 (w.heap.size+1) 203 #[.int .i64 0,.int .i64 0,.slice none 0 0]:=by rw [←hW2];exact Blk.second w _ _ _
 have hBW:Below w.heap.size w W2:=by rw [←hW2];exact below_two w _ _
 have hWs:W2.heap.size=w.heap.size+2:=by rw [←hW2];simp
 have HWS:=Lib.hid hWs
 clear hWs
 have HBZ:=Lib.hid bz
 have HSS:=Lib.hid (fun (V:World) (hV:Below W2.heap.size W2 V)=>(⟨by have h:=(b0.below hV b0.lt).cell 0;simpa using h,by have h:=(b0.below hV b0.lt).cell 1;simpa using h,by have h:=(b0.below hV b0.lt).cell 2;simpa using h⟩:(fun V:World=>V.cell? ⟨w.heap.size,0,none⟩=some (.int .i64 2)∧V.cell? ⟨w.heap.size,1,none⟩=some (.int .i64 p)∧V.cell? ⟨w.heap.size,2,none⟩=some (.slice Ac us.length cc)) V))
 have hus:=h1.1
 have huo:=h2.1
 have HFL0:[us,uo].flatten.length=us.length+uo.length:=by simp
 have HCO:=Lib.hid (fun (U:World) (hU:Below W2.heap.size W2 U) (hb:Blk U W2.heap.size 25 #[.slice Ac us.length cc,.slice Ao uo.length co])=>concatK_any W2.heap.size 0 2 [us,uo] (by simp) (by rw [HFL0];omega) (fun x hx=>by
  rcases List.mem_cons.1 hx with rfl | hx
  · exact h1.one
  · rcases List.mem_cons.1 hx with rfl | hx
    · exact h2.one
    · cases hx) U (B:=B) (Nat.le_trans hB (Nat.le_trans hBW.size hU.size)) hb.lt (fun j hj=>by
  have hBU:=(below_in hBW hU).mono hB
  rcases j with _ | _ | j
  · exact ⟨_,by have h:=hb.cell 0;simpa using h,(h1.below hBU).2.1⟩
  · exact ⟨_,by have h:=hb.cell 1;simpa using h,(h2.below hBU).2.1⟩
  · simp at hj;omega))
 have HFP:Hid (0 < [us,uo].flatten.length):=by unfold Hid;rw [HFL0];omega
 have hfl:[us,uo].flatten=us ++ uo:=by simp
 have HEND:=Lib.hid (fun (U:World) (base:Nat) (x:Value) (V:World) (hU:Below w.heap.size w U) (ho:OwnK U base x [us,uo].flatten) (hbase:w.heap.size+2≤base) (hV:∀ b,b≠w.heap.size+1→V.heap[b]?=U.heap[b]?) (hs:U.heap.size≤V.heap.size)=>(by
  rw [hfl] at ho
  have hBU:=hU.mono hB
  have k1:∀ (j:Nat) (u:Value),us[j]?=some u→manyR.R (·<B) U u (css[j]?.getD []):=fun j u hu=>(h1.below hBU).2.2 j u hu
  have k2:∀ (j:Nat) (u:Value),uo[j]?=some u→manyR.R (·<B) U u (os[j]?.getD []):=fun j u hu=>(h2.below hBU).2.2 j u hu
  have hc:colsR.R (fun b=>b≠w.heap.size+1∧b<U.heap.size) U x (css ++ os):=OwnK.colsP ho (by rw [List.length_append,List.length_append,hus,huo]) (by rw [List.length_append];omega) (fun j u hu=>by
   have h3:Many B U u ((css ++ os)[j]?.getD []):=both_at hus (fun j u hu=>k1 j u hu) (fun j u hu=>k2 j u hu) j u hu
   exact manyR.imp (manyR_iff.2 h3) fun b hb=>by
    have h4:b<B:=hb
    have h5:=hU.size
    exact ⟨by omega,by omega⟩) (fun g hg hg2=>⟨by omega,hg2⟩)
  have h6:=colsR.keep hc (W':=V) (fun b hb=>hV b hb.1)
  exact colsR_iff.1 (colsR.imp h6 fun b hb=>Nat.lt_of_lt_of_le hb.2 hs):Cols V.heap.size V x (css ++ os)))
 rw [show [us,uo].length=2 from rfl] at HCO
 clear h1 h2 hfl hn1 hn2 h0 hus huo b0 bz
 obtain ⟨nt,hnt⟩:∃ nt,[us,uo].flatten.length=nt:=⟨_,rfl⟩
 have HFL:=Lib.hid hnt
 clear hnt HFL0
 generalize us.length=nc at *
 generalize uo.length=no at *
 refine (callsIn_wide (n:=9)).1 ?_
 refine callsIn_of_wp_marks Tryz.func233 rfl trivial ?_ rfl
 simp only [Tryz.ntmps233,List.size_toArray,List.length_cons,List.length_nil,Nat.reduceAdd,Nat.reduceSub,Array.replicate_succ,Array.replicate_zero,List.push_toArray,List.append_toArray,List.nil_append,List.cons_append]
 gi_wp2_with fail
 try rw [hW2]
 have hS:(fun V:World=>V.cell? ⟨w.heap.size,0,none⟩=some (.int .i64 2)∧V.cell? ⟨w.heap.size,1,none⟩=some (.int .i64 p)∧V.cell? ⟨w.heap.size,2,none⟩=some (.slice Ac nc cc)) W2.drew:=HSS.out _ (Below.refl _ _).drew
 refine wpIn_mono (region_HF (Q:=NoPanic _) (S:=(fun V:World=>V.cell? ⟨w.heap.size,0,none⟩=some (.int .i64 2)∧V.cell? ⟨w.heap.size,1,none⟩=some (.int .i64 p)∧V.cell? ⟨w.heap.size,2,none⟩=some (.slice Ac nc cc))) (by kernel_rfl) ?_) NoPanic.imp
 refine tkF (i:=0) (d:=5) (v:=.pointer (some ⟨w.heap.size,0,none⟩)) (s:=hS) (c:=?_)
 simp only [ud9]
 refine tkF (i:=1) (d:=6) (v:=.agg #[.int .i64 2,.int .i64 p]) (s:=hS) (c:=?_)
 simp only [ud9]
 refine tkF (i:=2) (d:=7) (v:=.pointer (some ⟨w.heap.size,2,none⟩)) (s:=hS) (c:=?_)
 simp only [ud9]
 refine tkF (i:=3) (d:=8) (v:=.slice Ac nc cc) (s:=hS) (c:=?_)
 simp only [ud9]
 refine tkF (i:=4) (d:=9) (v:=.slice Ao no co) (s:=hS) (c:=?_)
 simp only [ud9]
 refine oneF (i:=5) (c:=?_)
 have hBc:Below W2.heap.size W2 (W2.alloc (.cells #[.slice Ac nc cc,.slice Ao no co] 25)).drew:=(below_one W2 _).drew
 have HBK:Hid (Blk (W2.alloc (.cells #[.slice Ac nc cc,.slice Ao no co] 25)).drew W2.heap.size 25 #[.slice Ac nc cc,.slice Ao no co]):=Blk.new W2 _ _
 clear hS
 have hS:(fun V:World=>V.cell? ⟨w.heap.size,0,none⟩=some (.int .i64 2)∧V.cell? ⟨w.heap.size,1,none⟩=some (.int .i64 p)∧V.cell? ⟨w.heap.size,2,none⟩=some (.slice Ac nc cc)) (W2.alloc (.cells #[.slice Ac nc cc,.slice Ao no co] 25)).drew:=HSS.out _ hBc
 gi_wp2
 try (refine ⟨hS,?_⟩)
 refine oneF (i:=6) (c:=?_)
 gi_wp2_with fail
 refine ⟨trivial,(callsIn_wide.2 (HCO.out _ hBc HBK.out)).mono ?_⟩
 rintro e wn ⟨v',rfl,hown,hBn⟩
 obtain ⟨gv,cv,hve,_,_⟩:=World.ownsRow.form hown HFP.out
 rw [HFL.out] at hve
 subst hve
 have hBd:=below_in hBc hBn
 clear hS
 have hS:(fun V:World=>V.cell? ⟨w.heap.size,0,none⟩=some (.int .i64 2)∧V.cell? ⟨w.heap.size,1,none⟩=some (.int .i64 p)∧V.cell? ⟨w.heap.size,2,none⟩=some (.slice Ac nc cc)) wn:=HSS.out _ hBd
 gi_wp2
 try (refine ⟨hS,?_⟩)
 refine tkF (i:=7) (d:=12) (v:=.agg #[.int .i64 2,.int .i64 p,.slice (some ⟨gv,0,none⟩) nt cv]) (s:=hS) (c:=?_)
 simp only [ud9]
 refine oneF (i:=8) (c:=?_)
 have bz:=HBZ.out.below hBd HBZ.out.lt
 have k0:=bz.cell 0
 have k1:=bz.cell 1
 have k2:=bz.cell 2
 have f0:=bz.frozen 0
 have f1:=bz.frozen 1
 have f2:=bz.frozen 2
 simp only [gz9] at k0 k1 k2
 have hS3:∀ V,(∀ b,b≠w.heap.size+1→V.heap[b]?=wn.heap[b]?)→(fun V:World=>V.cell? ⟨w.heap.size,0,none⟩=some (.int .i64 2)∧V.cell? ⟨w.heap.size,1,none⟩=some (.int .i64 p)∧V.cell? ⟨w.heap.size,2,none⟩=some (.slice Ac nc cc)) V:=fun V hV=>by
  obtain ⟨s0,s1,s2⟩:=hS
  exact ⟨(World.cell?_of_block (hV _ (by simp))).trans s0,(World.cell?_of_block (hV _ (by simp))).trans s1,(World.cell?_of_block (hV _ (by simp))).trans s2⟩
 gi_wp2
 refine anyHF_done (by kernel_rfl) ?_ _
 refine NoPanic.normal ?_
 clear hS
 have r:=((bz.set_ 0 (.int .i64 2)).set_ 1 (.int .i64 p)).set_ 2 (.slice (some ⟨gv,0,none⟩) nt cv)
 have hBW2:=below_in hBW hBd
 have hBf:=((hBW2.setCell (p:=⟨w.heap.size+1,0,none⟩) (Nat.le_succ _) (.int .i64 2)).setCell (p:=⟨w.heap.size+1,1,none⟩) (Nat.le_succ _) (.int .i64 p)).setCell (p:=⟨w.heap.size+1,2,none⟩) (Nat.le_succ _) (.slice (some ⟨gv,0,none⟩) nt cv)
 have hc:=HEND.out wn _ (.slice (some ⟨gv,0,none⟩) nt cv) (((wn.setCell ⟨w.heap.size+1,0,none⟩ (.int .i64 2)).setCell ⟨w.heap.size+1,1,none⟩ (.int .i64 p)).setCell ⟨w.heap.size+1,2,none⟩ (.slice (some ⟨gv,0,none⟩) nt cv)) hBW2 hown (by have:=HWS.out;simp;omega) (fun b hb=>((Below.heap_setCell _ _ _ b hb).trans (Below.heap_setCell _ _ _ b hb)).trans (Below.heap_setCell _ _ _ b hb)) (by simp)
 have r0:=r.cell 0
 have r1:=r.cell 1
 have r2:=r.cell 2
 simp only [List.setIfInBounds_toArray,List.set_cons_zero,List.set_cons_succ,List.getElem?_toArray,List.getElem?_cons_zero,List.getElem?_cons_succ] at r0 r1 r2
 gi_wp2
 exact ⟨.agg #[.int .i64 2,.int .i64 p,.slice (some ⟨gv,0,none⟩) nt cv],by simp [results,Tryz.results233,go_sem,r0,r1,r2],.slice (some ⟨gv,0,none⟩) nt cv,rfl,hc,hBf⟩
end Go.Proofs.YtknkdbincaonbaaGreatDoor.R

namespace Go.Proofs.YtknkdbincaonbaaGreatDoor.R
open Go.RowKit Go.Shelf Go.Proofs.YtknkdbincaonbaaGreatDoor.C Go.Proofs.YtknkdbincaonbaaGreatDoor.E

def rdpOf (p:Int) (css:List (List (List UInt8))):List (List (List UInt8)):=[colL 2 p (firstC css).length css (p - 1),colL 2 p (firstC css).length (css ++ [colL 2 p (firstC css).length css (p - 1)]) p]
theorem steps2 {p:Int} {css:List (List (List UInt8))} (h:DataR p css):stepsL 2 p (firstC css).length css 2=css ++ rdpOf p css:=by
 have e0:((css.length:Int)+((0:Nat):Int))=p - 1:=by have:=h.2;omega
 have e1:((css.length:Int)+((1:Nat):Int))=p:=by have:=h.2;omega
 show (css ++ [colL 2 p _ css _]) ++ [colL 2 p _ (css ++ [colL 2 p _ css _]) _] = _
 rw [e0,e1,List.append_assoc]
 rfl
theorem enter_rows:∀ args W,(callFunc 245 args).run Tryz.prog W = .ok (.enter 245 args) W:=enters_of Tryz.func245 (by kernel_rfl) rfl
theorem enter_diagonals:∀ args W,(callFunc 246 args).run Tryz.prog W = .ok (.enter 246 args) W:=enters_of Tryz.func246 (by kernel_rfl) rfl
theorem encoded_any {B:Nat} (p:Int) (v:Value) (css:List (List (List UInt8))) (hd:DataR p css) (w:World) (hL:Laid w) (hB:B≤w.heap.size) (hC:Cols B w v css) :
 Calls Tryz.prog 195 #[.agg #[.int .i64 2,.int .i64 p,v]] w fun e w'=>∃ u,e = .returned u∧Cols w'.heap.size w' u (rdpOf p css)∧Below w.heap.size w w':=by
 have hpp:=prm_bounds hd.1.1
 have h2:=hd.2
 have hp:p∈prm:=hd.1.1
 have hg:=togOk_grid hd.1.2
 have hf1:=togOk_first hd.1.2
 have hro:=roles_any
 unfold rolesV at hro
 have hix0:∀ W:World,(Instr.index 235 (.agg #[.func (.func 245) #[] #[],.func (.func 246) #[] #[]]) (.int .i64 0)).run Tryz.prog W = .ok (.func (.func 245) #[] #[]) W:=fun W=>by kernel_rfl
 have hix1:∀ W:World,(Instr.index 235 (.agg #[.func (.func 245) #[] #[],.func (.func 246) #[] #[]]) (.int .i64 1)).run Tryz.prog W = .ok (.func (.func 246) #[] #[]) W:=fun W=>by kernel_rfl
 have hen1:=enter_rows
 have hen2:=enter_diagonals
 obtain ⟨us,hus⟩:=Cols.vals hC (by omega)
 obtain ⟨A,cap,rfl,_,_⟩:=id hC
 obtain ⟨n,hn⟩:∃ n,(firstC css).length=n:=⟨_,rfl⟩
 have hrd:rdpOf p css = [colL 2 p n css (p - 1),colL 2 p n (css ++ [colL 2 p n css (p - 1)]) p]:=by unfold rdpOf;rw [hn]
 rw [hrd]
 rw [hn] at hg hf1
 obtain ⟨c1,hc1⟩:∃ c1,colL 2 p n css (p - 1)=c1:=⟨_,rfl⟩
 obtain ⟨c2,hc2⟩:∃ c2,colL 2 p n (css ++ [colL 2 p n css (p - 1)]) p=c2:=⟨_,rfl⟩
 have hg2:Grid (p - 1).toNat n (css ++ [c1]):=by rw [←hc1];exact hg.col rfl _ _
 have hl1:c1.length=(p - 1).toNat:=by rw [←hc1];exact colL_len 2 p n css (p - 1)
 have hl2:c2.length=(p - 1).toNat:=by rw [←hc2];exact colL_len 2 p n _ p
 rw [hc2,hc1]
 have HW0:=Lib.hid (fun (U:World) (hU:Below w.heap.size w U)=>with_any (B:=B) p (.slice A css.length cap) (.slice none 0 0) us [] css [] U (Nat.le_trans hB hU.size) (hus.below (hU.mono hB)) (ColsV.nil _ _) (by omega) (by simp) (by omega))
 have HW1:=Lib.hid (fun (U:World) (hU:Below w.heap.size w U) (x:Value) (hx:Cols U.heap.size U x [c1])=>by
  obtain ⟨u1,hu1⟩:=Cols.vals hx (by simp)
  exact with_any (B:=U.heap.size) p (.slice A css.length cap) x us u1 css [c1] U (Nat.le_refl _) ((hus.below (hU.mono hB)).more (Nat.le_trans hB hU.size)) hu1 (by omega) (by simp) (by omega))
 have HR0:=Lib.hid (fun (U:World) (hU:Below w.heap.size w U) (x:Value) (hx:Cols U.heap.size U x (css ++ []))=>rows_any (B:=U.heap.size) p hp x css n U (hL.next hU) (Nat.le_refl _) (by rwa [List.append_nil] at hx) (by omega) hg (by omega))
 have HR1:=Lib.hid (fun (U:World) (hU:Below w.heap.size w U) (x:Value) (hx:Cols U.heap.size U x (css ++ [c1]))=>diagonals_any (B:=U.heap.size) p hp x (css ++ [c1]) n U (hL.next hU) (Nat.le_refl _) hx (by rw [List.length_append];simp;omega) hg2 (by omega))
 rw [hc1] at HR0
 rw [←hc1,hc2,hc1] at HR1
 have HL1:=Lib.hid hl1
 have HL2:=Lib.hid hl2
 have b0:=Blk.new w 203 #[.int .i64 2,.int .i64 p,.slice A css.length cap]
 have hBW:=below_one w (.cells #[.int .i64 2,.int .i64 p,.slice A css.length cap] 203)
 clear hC hg hg2 hl1 hl2 hc1 hc2 hrd hn hus hd hf1
 generalize css.length=N at *
 generalize (p - 1).toNat=R at *
 go_enter Tryz.func195,Tryz.ntmps195
 go_wp2_with (go_at_call 211;refine (hro _).mono ?_;rintro e w1 ⟨rfl,hB1⟩)
 replace b0:=b0.below hB1 b0.lt
 replace hBW:=below_in hBW hB1
 go_loopw [3,7] (fun v i wr=>∃ t:Nat,t≤2∧i = .int .i64 t∧RowC (fun _=>True) wr (w.heap.size+1) v ([c1,c2].take t)∧(t=0→v = .slice none 0 0)∧Blk wr w.heap.size 203 #[.int .i64 2,.int .i64 p,.slice A N cap]∧Below w.heap.size w wr) (fun _ i _=>2 - (intOf i).toNat)
 case atStart=>exact ⟨0,by omega,rfl,RowG.nil _ _ _ _ _ _,fun _=>rfl,b0,hBW⟩
 case round =>
  clear b0 hBW hB1
  obtain ⟨t,ht,rfl,hrow,hnil,b0,hBr⟩:=hrel
  have g0:=b0.cell 0;have g1:=b0.cell 1;have g2:=b0.cell 2;simp only [gz9] at g0 g1 g2
  have hgl:=b0.lt
  have hrs:=hBr.size
  have HVLT:=Lib.hid (fun b e=>RowG.own_lt hrow b e)
  have HVLE:=Lib.hid (fun b e=>RowG.own_le hrow b e)
  have HB0:=Lib.hid b0
  have HROW:=Lib.hid hrow
  rcases t with _ | _ | t
  · have hdec:decide (((0:Nat):Int)<2)=true:=by decide
    obtain rfl:=hnil rfl
    clear hrow hnil b0
    go_wp2_with fail
    refine (HW0.out _ hBr).mono ?_
    rintro e wb ⟨x,rfl,hx,hBb⟩
    have hBc:=below_in hBr hBb
    go_wp2_with fail
    refine (HR0.out _ hBc _ hx).mono ?_
    rintro e wd ⟨u,rfl,hu,hBd⟩
    obtain ⟨Au,cu,hue,_,_⟩:=id hu
    rw [HL1.out] at hue
    subst hue
    have hBe:=below_in hBb hBd
    have hcells:=below_one wd (.cells #[.slice Au R cu] 58)
    have HRC:=Lib.hid (RowG.below HROW.out (below_in hBe hcells))
    have HBK:=Lib.hid (Blk.new wd 58 #[.slice Au R cu])
    have hs1:=hBb.size
    have hs2:=hBd.size
    have hsz:(wd.alloc (.cells #[.slice Au R cu] 58)).heap.size=wd.heap.size+1:=by simp
    have HCP:Hid (manyR.R (fun b=>b<(wd.alloc (.cells #[.slice Au R cu] 58)).heap.size∧some b≠(Value.slice none 0 0).ownBlock∧True) (wd.alloc (.cells #[.slice Au R cu] 58)) (.slice Au R cu) c1) :=
     manyR.imp (Rep.below manyR hu (fun b hb=>hb.2) hcells) fun b hb=>⟨by have:=hb.2;omega,fun e=>by have h1:=HVLT.out b e.symm;have h2:=hb.1;omega,trivial⟩
    have HBN:=Lib.hid ((HB0.out.below hBe hgl).alloc (.cells #[.slice Au R cu] 58))
    have HBB:=Lib.hid (below_in hBr (below_in hBe hcells))
    clear hx hu
    go_wp2_with (at_builtin;refine wpList_pushC (T:=25) _ rfl _ _ rfl Tryz.underlying25 [] rfl HRC.out wd.heap.size 58 _ c1 rfl HBK.out HCP.out (by simp) (by omega) ?_;intro v' w5 hrow5 hgrow5 hown5)
    go_roundw
    case rel=>exact ⟨1,by omega,by go_num,hrow5,fun h=>absurd h (by omega),HBN.out.grown hgrow5 (fun e=>by have:=HVLE.out _ e.symm;omega),below_grown HBB.out hgrow5 (by omega) (fun g e=>by have:=HVLE.out g e;omega)⟩
    case measure=>simp [intOf]
  · have hdec:decide (((1:Nat):Int)<2)=true:=by decide
    clear hrow hnil b0
    go_wp2_with fail
    refine (HW1.out _ hBr _ (RowC.cols HROW.out)).mono ?_
    rintro e wb ⟨x,rfl,hx,hBb⟩
    have hBc:=below_in hBr hBb
    go_wp2_with fail
    refine (HR1.out _ hBc _ hx).mono ?_
    rintro e wd ⟨u,rfl,hu,hBd⟩
    obtain ⟨Au,cu,hue,_,_⟩:=id hu
    rw [HL2.out] at hue
    subst hue
    have hBe:=below_in hBb hBd
    have hcells:=below_one wd (.cells #[.slice Au R cu] 58)
    have HRC:=Lib.hid (RowG.below HROW.out (below_in hBe hcells))
    have HBK:=Lib.hid (Blk.new wd 58 #[.slice Au R cu])
    have hs1:=hBb.size
    have hs2:=hBd.size
    have hsz:(wd.alloc (.cells #[.slice Au R cu] 58)).heap.size=wd.heap.size+1:=by simp
    have HCP:Hid (manyR.R (fun b=>b<(wd.alloc (.cells #[.slice Au R cu] 58)).heap.size∧some b≠(u3).ownBlock∧True) (wd.alloc (.cells #[.slice Au R cu] 58)) (.slice Au R cu) c2) :=
     manyR.imp (Rep.below manyR hu (fun b hb=>hb.2) hcells) fun b hb=>⟨by have:=hb.2;omega,fun e=>by have h1:=HVLT.out b e.symm;have h2:=hb.1;omega,trivial⟩
    have HBN:=Lib.hid ((HB0.out.below hBe hgl).alloc (.cells #[.slice Au R cu] 58))
    have HBB:=Lib.hid (below_in hBr (below_in hBe hcells))
    clear hx hu
    go_wp2_with (at_builtin;refine wpList_pushC (T:=25) _ rfl _ _ rfl Tryz.underlying25 [c1] rfl HRC.out wd.heap.size 58 _ c2 rfl HBK.out HCP.out (by simp) (by omega) ?_;intro v' w5 hrow5 hgrow5 hown5)
    go_roundw
    case rel=>exact ⟨2,by omega,by go_num,hrow5,fun h=>absurd h (by omega),HBN.out.grown hgrow5 (fun e=>by have:=HVLE.out _ e.symm;omega),below_grown HBB.out hgrow5 (by omega) (fun g e=>by have:=HVLE.out g e;omega)⟩
    case measure=>simp [intOf]
  · obtain rfl:t=0:=by omega
    have hdec:decide (((0+1+1:Nat):Int)<2)=false:=by decide
    go_wp2
    go_ret
    exact ⟨_,rfl,RowC.cols hrow,hBr⟩
end Go.Proofs.YtknkdbincaonbaaGreatDoor.R
