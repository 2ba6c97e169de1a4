/- -/
import Derived.Test.YtcchjofjpflbhaaGreatDoorPAG13m6
import Derived.Test.YtcchjofjpflbhaaGreatDoorPAG14
set_option linter.unusedVariables false
set_option linter.unusedSimpArgs false
set_option maxRecDepth 100000
set_option maxHeartbeats 8000000
namespace Go.Proofs.YtcchjofjpflbhaaGreatDoor.T
open Go.RowKit Go.Shelf Go.Maps Go.Proofs.YtcchjofjpflbhaaGreatDoor.C Go.Proofs.YtcchjofjpflbhaaGreatDoor.E Go.Proofs.YtcchjofjpflbhaaGreatDoor.Ch
attribute [local go_sem] Oper.semAt_some

theorem filled_no {B:Nat} (p:Int) (lA:Option Addr) (ln lc:Nat) (L:List Int) (hL1:1≤L.length∧L.length≤3) (gN cN:Nat) (css:List (List (List UInt8))) (hN0:0<css.length) (hNl:css.length≤100) (v:Value) (w:World) (hL:Laid w) (hB:B≤w.heap.size) (hgN2:gN<w.heap.size) (hgNc:∀ j,j<L.length→w.cell? ⟨gN,j,none⟩=some (.int .i64 (L[j]?.getD 0))) (hC:Cols B w v css) (hcl:∀ j,j<css.length→(css[j]?.getD []).length≤1000) (hno:¬ RightD p (kept L css css.length)) :
 Calls Tryz.prog 111 #[.agg #[.int .i64 2,.int .i64 p,.slice lA ln lc],v,.slice (some ⟨gN,0,none⟩) L.length cN] w fun e w'=>e = .panicked (Pr.gave 2)∧Below w.heap.size w w':=by
 obtain ⟨gl,go,cap,rfl,hcapN,hgl,hrow⟩:=hC.at_ hN0
 obtain ⟨w1,hw1⟩:∃ x,w.alloc (.cells #[.int .i64 2,.int .i64 p,.slice lA ln lc] 90)=x:=⟨_,rfl⟩
 obtain ⟨g0,hg0⟩:∃ x,w.heap.size=x:=⟨_,rfl⟩
 have b0:Blk w1 g0 90 #[.int .i64 2,.int .i64 p,.slice lA ln lc]:=by rw [←hw1,←hg0];exact Blk.new w _ _
 have hBw1:Below w.heap.size w w1:=by rw [←hw1];exact below_one w _
 have s0:w1.heap.size=w.heap.size+1:=by rw [←hw1];simp
 have k0:=b0.cell 0
 have k1:=b0.cell 1
 have k2:=b0.cell 2
 simp only [gz9] at k0 k1 k2
 have HCNT:=Lib.hid (fun (gN c:Nat) (x:Int) (V:World) (h:∀ j,j<L.length→V.cell? ⟨gN,j,none⟩=some (.int .i64 (L[j]?.getD 0)))=>contains_any gN 0 c L x (by omega) V (fun j hj=>by rw [Nat.zero_add];exact h j hj))
 have HN:Hid (∀ j,j<L.length→w1.cell? ⟨gN,j,none⟩=some (.int .i64 (L[j]?.getD 0))):=fun j hj=>(hBw1.cell (p:=⟨gN,j,none⟩) hgN2).trans (hgNc j hj)
 replace hgN2:gN<w1.heap.size:=by omega
 have S0:=Lib.hid s0
 clear s0 hgNc
 have HROW:=Lib.hid hrow
 have HCOLS:=Lib.hid hC
 have H0:=Lib.hid hg0
 have HRI:=Lib.hid (fun (V:World) (kv:Value) (hV:Below w.heap.size w V) (hk:Cols V.heap.size V kv (kept L css css.length))=>right_no (B:=V.heap.size) p kv _ V (hL.next hV) (Nat.le_refl _) hk (Nat.le_trans (kept_len _ _ _) (by omega)) (fun j hj=>by
  obtain ⟨i,hi,_,e⟩:=kept_mem.1 (List.getElem_mem hj)
  rw [List.getElem?_eq_getElem hj]
  show (kept L css css.length)[j].length≤1000
  rw [e]
  exact hcl i hi) hno)
 clear hcl hno
 go_enter Tryz.func111,Tryz.ntmps111
 go_wp2_with fail
 have HK:=Lib.hid b0
 have hs1:=hBw1.size
 have hW1:=Lib.hid hw1
 clear hg0 k0 k1 k2 b0 hw1 hrow hC
 obtain ⟨N,hN⟩:∃ N,css.length=N:=⟨_,rfl⟩
 rw [hN] at hN0 hNl hcapN HROW ⊢
 have HNN:=Lib.hid hN
 clear hN
 obtain ⟨M,hM⟩:∃ M,L.length=M:=⟨_,rfl⟩
 rw [hM] at hL1 HCNT HN ⊢
 have HMM:=Lib.hid hM
 clear hM
 (try rw [hW1.out]);(try rw [H0.out])
 go_loopw [8,15] (fun v i wr=>∃ k:Nat,k≤N∧i = .int .i64 k∧RowC (·<B) wr w1.heap.size v (kept L css k)∧Below w1.heap.size w1 wr) (fun _ i _=>N - (intOf i).toNat)
 case atStart=>exact ⟨0,Nat.zero_le _,rfl,RowG.nil _ _ _ _ _ _,Below.refl _ _⟩
 case round =>
  obtain ⟨k,hk,rfl,hrw,hBr⟩:=hrel
  by_cases hlt:k<N
  · have hdec:decide ((k:Int)<(N:Int))=true:=by simp;omega
    obtain ⟨u1,hc1,hm1⟩:=HROW.out k hlt
    obtain ⟨A4,cap4,rfl,_,_⟩:=id hm1
    have hc2:=((below_in hBw1 hBr).cell (p:=⟨gl,go+k,none⟩) (Nat.lt_of_lt_of_le hgl hB)).trans hc1
    have hm2:Many B wr _ _:=hm1.below ((below_in hBw1 hBr).mono hB)
    have HCN:=Lib.hid (HCNT.out gN cN (k:Int) wr (fun j hj=>(hBr.cell (p:=⟨gN,j,none⟩) hgN2).trans (HN.out j hj)))
    have i1:(0:Int)≤(k:Int):=by omega
    have i2:(k:Int)<(N:Int):=by omega
    have hszr:=hBr.size
    by_cases hmem:(k:Int)∈L
    · have hnx:=kept_in (css:=css) hmem
      rw [decide_eq_true hmem] at HCN
      have HNX:=Lib.hid (And.intro hnx hrw)
      clear hc1 hm1 hm2 hnx hmem hrw
      generalize (css[k]?.getD []).length=n7 at *
      go_wp2_with (go_at_call 158;refine HCN.out.mono ?_;rintro e w2 ⟨rfl,rfl⟩)
      go_roundw
      case rel=>exact ⟨k+1,by omega,by go_num,by rw [HNX.out.1];exact HNX.out.2,hBr⟩
      case measure=>simp [intOf];omega
    · have hnx:=kept_out (css:=css) hmem
      rw [decide_eq_false hmem] at HCN
      have HVLE:=Lib.hid (fun b e=>RowG.own_le hrw b e)
      have hpl:(kept L css k).length≤100:=by have:=kept_len L css k;omega
      clear hc1 hm1
      generalize css[k]?.getD []=xs at *
      generalize kept L css k=pre at *
      have HNX:=Lib.hid hnx
      clear hnx hmem
      generalize xs.length=n7 at *
      have hcells:Below wr.heap.size wr (wr.alloc (.cells #[.slice A4 n7 cap4] 50)):=below_one wr _
      have HROWC:=Lib.hid (RowG.below hrw hcells)
      have HBLK:=Lib.hid (Blk.new wr 50 #[.slice A4 n7 cap4])
      have HCP:Hid (manyR.R (fun b=>b<(wr.alloc (.cells #[.slice A4 n7 cap4] 50)).heap.size∧some b≠u8.ownBlock∧b<B) (wr.alloc (.cells #[.slice A4 n7 cap4] 50)) (.slice A4 n7 cap4) xs) :=
       SliceP.imp (hm2.below (hcells.mono (by omega))) fun b hb=>⟨by have hb':b<B:=hb;simp;omega,fun e=>by have:=HVLE.out b e.symm;have hb':b<B:=hb;omega,hb⟩
      clear hrw hm2
      go_wp2_with (first
       | (go_at_call 158;refine HCN.out.mono ?_;rintro e w2 ⟨rfl,rfl⟩)
       | (at_builtin;refine wpList_pushC (T:=40) _ rfl _ _ rfl Tryz.underlying40 pre rfl HROWC.out w2.heap.size 50 _ xs rfl HBLK.out HCP.out (by omega) (by simp;omega) ?_;intro v' w3 hrow4 hgrow hown))
      go_roundw
      case rel=>exact ⟨k+1,by omega,by go_num,by rw [HNX.out];exact hrow4,below_grown (below_in hBr hcells) hgrow (by simp;omega) (fun g e=>by have:=HVLE.out g e;omega)⟩
      case measure=>simp [intOf];omega
  · obtain rfl:k=N:=by omega
    have e1:decide ((k:Int)<(k:Int))=false:=by simp
    have hcc:=RowC.cols hrw
    obtain ⟨kA,kc,hkv,_,_⟩:=id hcc
    subst hkv
    have HC2:=Lib.hid hcc
    have hBq:=below_in hBw1 hBr
    have K:=HK.out.below hBr HK.out.lt
    have hK0:=K.cell 0
    have hK1:=K.cell 1
    have hK2:=K.cell 2
    simp only [gz9] at hK0 hK1 hK2
    rw [HNN.out] at HRI
    clear K
    generalize (kept L css k).length=K at *
    clear hcc hrw
    go_wp2_with fail
    refine (HRI.out _ _ hBq HC2.out).mono ?_
    rintro e w5 ⟨rfl,hB5⟩
    go_wp2_with fail
    refine (Pr.need_no _ _).mono ?_
    rintro e w6 ⟨rfl,rfl⟩
    exact ⟨rfl,rfl,below_in hBq hB5⟩
end Go.Proofs.YtcchjofjpflbhaaGreatDoor.T
