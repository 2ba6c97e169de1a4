/- -/
import Derived.Test.YtknkdbincaonbaaGreatDoorCCG20
import Derived.Test.YtknkdbincaonbaaGreatDoorCCG6
import Derived.Test.YtknkdbincaonbaaGreatDoorCCCA
import Derived.Test.YtknkdbincaonbaaGreatDoorCCG14
set_option linter.unusedVariables false
set_option linter.unusedSimpArgs false
set_option maxRecDepth 100000
set_option maxHeartbeats 2000000
namespace Go.Proofs.YtknkdbincaonbaaGreatDoor.Cd
open Go.RowKit Go.Shelf Go.Maps Go.Proofs.YtknkdbincaonbaaGreatDoor.C Go.Proofs.YtknkdbincaonbaaGreatDoor.E Go.Proofs.YtknkdbincaonbaaGreatDoor.Q
attribute [local go_sem] Oper.semAt_some

theorem small_right {p:Int} {s:List (List (List UInt8))} (h:RightD p s) (j i:Nat):(s[j]?.getD []).length≤1000∧((s[j]?.getD [])[i]?.getD []).length≤1000:=by
 have hg:=right_grid h
 have hn:=right_n h
 have hp:=prm_bounds h.1
 rcases Nat.lt_or_ge j s.length with hj | hj
 · have h1:=hg j hj
   refine ⟨by omega,?_⟩
   rcases Nat.lt_or_ge i (p - 1).toNat with hi | hi
   · rw [h1.2 i hi];omega
   · rw [List.getElem?_eq_none (by omega)];simp
 · rw [List.getElem?_eq_none hj];simp
theorem all_len {k p:Int} {s:List (List (List UInt8))} (h:AllK k p s):4≤s.length∧s.length≤20∧datN k p<s.length:=by
 obtain ⟨p1,p2,s1,s2,m1,m2⟩:=h.1.1.und
 have h1:=datN_eq h.1.1
 have h2:=h.1.2
 omega
theorem data_len {k p:Int} {s:List (List (List UInt8))} (h:DataK k p s):s.length=datN k p∧2≤s.length∧s.length≤17∧s.take (datN k p)=s:=by
 have h1:=datN_eq h.1.1
 have h2:=h.1.2
 have e:s.length=datN k p:=by omega
 exact ⟨e,by omega,by omega,by rw [←e];exact List.take_length⟩
theorem whole_any {B:Nat} (k p:Int) (v:Value) (css:List (List (List UInt8))) (hd:DataK k p css) (w:World) (hL:Laid w) (hB:B≤w.heap.size) (hC:Cols B w v css) :
 Calls Tryz.prog 40 #[.agg #[.int .i64 k,.int .i64 p,v]] w fun e w'=>∃ A n c,e = .returned (.slice A n c)∧sepC.R (fun b=>w.heap.size≤b∧b<w'.heap.size) w' (.slice A n c) (wholeL k p css)∧Below w.heap.size w w':=by
 have hdl:=data_len hd
 have hwa:=(whole_all hd).1
 have hwl:=all_len hwa
 obtain ⟨A,cap,rfl,_,_⟩:=id hC
 have hBz:=below_one w (.cells #[.int .i64 k,.int .i64 p,.slice A css.length cap] 76)
 have bz:=Blk.new w 76 #[.int .i64 k,.int .i64 p,.slice A css.length cap]
 obtain ⟨wb,hwb⟩:∃ wb,w.alloc (.cells #[.int .i64 k,.int .i64 p,.slice A css.length cap] 76)=wb:=⟨_,rfl⟩
 rw [hwb] at hBz bz
 have HE:Hid (Calls Tryz.prog 77 #[.agg #[.int .i64 k,.int .i64 p,.slice A css.length cap]] wb fun e w'=>∃ u,e = .returned u∧Cols w'.heap.size w' u (wholeL k p css)∧Below wb.heap.size wb w'):=by
  have h:=encoded_any (B:=B) k p (.slice A css.length cap) css (by rw [hdl.2.2.2];exact hd) (by omega) (by omega) wb (hL.next hBz) (Nat.le_trans hB hBz.size) (hC.below (hBz.mono hB))
  rw [hdl.2.2.2] at h
  exact h
 have HC:=Lib.hid (fun (U:World) (u:Value) (hu:Cols U.heap.size U u (wholeL k p css))=>copied_any U.heap.size u (wholeL k p css) U (Nat.le_refl _) hu (by omega) fun j i=>small_right hwa.2 j i)
 have c0:=bz.cell 0
 have c1:=bz.cell 1
 have c2:=bz.cell 2
 simp only [gz9] at c0 c1 c2
 clear hC hd hdl hwa hwl bz
 generalize wholeL k p css=wl at *
 generalize css.length=N at *
 go_enter Tryz.func40,Tryz.ntmps40
 go_wp2_with (first
  | (go_at_call 77;refine HE.out.mono ?_;rintro e w1 ⟨u,rfl,hu,hB1⟩;obtain ⟨uA,uc,rfl,_,_⟩:=id hu;have hcp:=HC.out _ _ hu)
  | (go_at_call 65;refine hcp.mono ?_;rintro e w2 ⟨A2,c2,rfl,hs,hB2⟩))
 go_ret
 exact ⟨A2,wl.length,c2,rfl,sepC.imp hs fun b hb=>⟨by have h1:=hBz.size;have h2:=hB1.size;omega,hb.2⟩,below_in hBz (below_in hB1 hB2)⟩
theorem Blk.at_size {w:World} {g g':Nat} {t:TypeId} {cs:Array Value} (h:Blk w g t cs) (e:g=g'):Blk w g' t cs:=e▸h
theorem sep_set {P:Nat→Prop} {W:World} {v u:Value} {css:List (List (List UInt8))} {g:Nat} (h:sepC.R P W v css) (hP:∀ b,P b→b≠g):sepC.R P (W.setCell ⟨g,0,none⟩ u) v css:=sepC.keep h fun b hb=>Below.heap_setCell W ⟨g,0,none⟩ u b (hP b hb)
theorem enter_encode1:∀ args W,(callFunc 37 args).run Tryz.prog W = .ok (.enter 37 args) W:=enters_of Tryz.func37 (by kernel_rfl) rfl
theorem enter_right1:∀ args W,(callFunc 46 args).run Tryz.prog W = .ok (.enter 46 args) W:=enters_of Tryz.func46 (by kernel_rfl) rfl
theorem encode_yes {B:Nat} (k p:Int) (v:Value) (css:List (List (List UInt8))) (hd:DataK k p css) (w:World) (hL:Laid w) (hB:B≤w.heap.size) (hC:Cols B w v css) :
 Calls Tryz.prog 10 #[.agg #[.int .i64 k,.int .i64 p],v] w fun e w'=>∃ A n c,e = .returned (.tuple #[.slice A n c,.int .i64 0])∧sepC.R (fun b=>w.heap.size≤b∧b<w'.heap.size) w' (.slice A n c) (wholeL k p css)∧Below w.heap.size w w':=by
 have hdl:=data_len hd
 obtain ⟨A,cap,rfl,_,_⟩:=id hC
 obtain ⟨W2,hW2⟩:∃ W2,((w).alloc (.cells #[.int .i64 k,.int .i64 p] 24)).alloc (.cells #[.slice A css.length cap] 25)=W2:=⟨_,rfl⟩
 have hBW:Below w.heap.size w W2:=by rw [←hW2];exact below_two w _ _
 have S2:Hid (W2.heap.size=w.heap.size+2):=by unfold Hid;rw [←hW2];simp
 have b0:Blk W2 (w.heap.size) 24 #[.int .i64 k,.int .i64 p]:=by rw [←hW2];exact (Blk.new (w) 24 #[.int .i64 k,.int .i64 p]).alloc (.cells #[.slice A css.length cap] 25)
 have b1:Blk W2 (w.heap.size+1) 25 #[.slice A css.length cap]:=by rw [←hW2];exact Blk.at_size (Blk.new ((w).alloc (.cells #[.int .i64 k,.int .i64 p] 24)) 25 #[.slice A css.length cap]) (by simp)
 have hL2:=hL.next hBW
 have HA:=Lib.hid (ans_S_yes 37 #[.pointer (some ⟨w.heap.size,0,none⟩),.pointer (some ⟨w.heap.size+1,0,none⟩)] W2 (fun u W=>∃ A n c,u = .slice A n c∧sepC.R (fun b=>W2.heap.size<b∧b<W.heap.size) W u (wholeL k p css)) (enter_encode1 _) (fun U hU bU=>by
  have hLU:=hL2.next hU
  have hBU:=below_in hBW hU
  have hCU:=hC.below (hBU.mono hB)
  have hlt:=bU.lt
  have HQ:=Lib.hid (asked_yes (B:=B) 39 k p (.slice A css.length cap) css (by have h:=many_data k p;rwa [←hd.1.2] at h) hd.1.1 U hLU (Nat.le_trans hB hBU.size) hCU (by omega) hd.2)
  have HE:=Lib.hid (fun (V:World) (hV:Below U.heap.size U V)=>whole_any (B:=B) k p (.slice A css.length cap) css hd V (hLU.next hV) (Nat.le_trans hB (Nat.le_trans hBU.size hV.size)) (hCU.below (hV.mono (Nat.le_trans hB hBU.size))))
  have c0:=(b0.below hU b0.lt).cell 0
  have c1:=(b0.below hU b0.lt).cell 1
  have c2:=(b1.below hU b1.lt).cell 0
  simp only [gz9] at c0 c1 c2
  clear hC hCU hd b0 b1 hW2 hL hL2 hLU hdl
  generalize wholeL k p css=wl at *
  generalize css.length=n at *
  go_enter Tryz.func37,Tryz.ntmps37
  go_wp2_with (first
   | (go_at_call 38;refine HQ.out.mono ?_;rintro e w1 ⟨rfl,hB1⟩)
   | (go_at_call 40;refine (HE.out _ hB1).mono ?_;rintro e w2 ⟨A2,n2,c2,rfl,hu,hB2⟩))
  go_ret
  exact ⟨.slice A2 n2 c2,rfl,⟨A2,n2,c2,rfl,sepC.imp hu fun b hb=>⟨by have h1:=hB1.size;omega,hb.2⟩⟩,below_in hB1 hB2⟩))
 clear hC b0 b1 hL2 hd hdl
 generalize wholeL k p css=wl at *
 generalize css.length=n at *
 go_enter Tryz.func10,Tryz.ntmps10
 have hmf:∀ (fn:Fn) (first cap:Array Value) (w:World),(Instr.makeFunc fn first cap).run Tryz.prog w = .ok (.func fn first cap) w:=fun _ _ _ _=>rfl
 go_wp2_with (go_at_call 36;refine HA.out.mono ?_;rintro e w1 ⟨u,W,rfl,⟨A2,n2,c2,rfl,hu⟩,bE,rfl,hB1⟩)
 go_ret2
 have s2:=S2.out
 refine ⟨A2,n2,c2,rfl,sepC.imp (sep_set hu fun b hb=>by omega) fun b hb=>⟨by omega,by simpa using hb.2⟩,below_in hBW hB1⟩
theorem right_yes {B:Nat} (k p:Int) (v:Value) (css:List (List (List UInt8))) (w:World) (hL:Laid w) (hB:B≤w.heap.size) (hC:Cols B w v css) (hlen:css.length≤1000) (hok:AllK k p css) :
 Calls Tryz.prog 13 #[.agg #[.int .i64 k,.int .i64 p],v] w fun e w'=>e = .returned (.int .i64 0)∧Below w.heap.size w w':=by
 obtain ⟨A,cap,rfl,_,_⟩:=id hC
 obtain ⟨W2,hW2⟩:∃ W2,((w).alloc (.cells #[.int .i64 k,.int .i64 p] 24)).alloc (.cells #[.slice A css.length cap] 28)=W2:=⟨_,rfl⟩
 have hBW:Below w.heap.size w W2:=by rw [←hW2];exact below_two w _ _
 have S2:Hid (W2.heap.size=w.heap.size+2):=by unfold Hid;rw [←hW2];simp
 have b0:Blk W2 (w.heap.size) 24 #[.int .i64 k,.int .i64 p]:=by rw [←hW2];exact (Blk.new (w) 24 #[.int .i64 k,.int .i64 p]).alloc (.cells #[.slice A css.length cap] 28)
 have b1:Blk W2 (w.heap.size+1) 28 #[.slice A css.length cap]:=by rw [←hW2];exact Blk.at_size (Blk.new ((w).alloc (.cells #[.int .i64 k,.int .i64 p] 24)) 28 #[.slice A css.length cap]) (by simp)
 have hL2:=hL.next hBW
 have HA:=Lib.hid (ans_K_yes 46 #[.pointer (some ⟨w.heap.size,0,none⟩),.pointer (some ⟨w.heap.size+1,0,none⟩)] W2 (fun u _=>u = .agg #[.int .i64 k,.int .i64 p,.slice A css.length cap]) (enter_right1 _) (fun _ _ _ h _ _ _ _=>h) (fun U hU _=>by
  have hLU:=hL2.next hU
  have hBU:=below_in hBW hU
  have hCU:=hC.below (hBU.mono hB)
  have hBz:=below_one U (.cells #[.int .i64 0,.int .i64 0,.slice none 0 0] 76)
  have bz:=Blk.new U 76 #[.int .i64 0,.int .i64 0,.slice none 0 0]
  have hWL:=hLU.next hBz
  have hWC:=hCU.below (hBz.mono (Nat.le_trans hB hBU.size))
  have HQ:=Lib.hid (asked_yes (B:=B) 43 k p (.slice A css.length cap) css (by have h:=many_cols k p;rwa [←hok.1.2] at h) hok.1.1 _ hWL (Nat.le_trans hB (Nat.le_trans hBU.size hBz.size)) hWC hlen hok.2)
  have c0:=((b0.below hU b0.lt).alloc (.cells #[.int .i64 0,.int .i64 0,.slice none 0 0] 76)).cell 0
  have c1:=((b0.below hU b0.lt).alloc (.cells #[.int .i64 0,.int .i64 0,.slice none 0 0] 76)).cell 1
  have c2:=((b1.below hU b1.lt).alloc (.cells #[.int .i64 0,.int .i64 0,.slice none 0 0] 76)).cell 0
  simp only [gz9] at c0 c1 c2
  clear hC hCU hWL hWC b0 b1 hW2 hL hL2 hLU hlen hok
  generalize css.length=n at *
  go_enter Tryz.func46,Tryz.ntmps46
  go_wp2_with (go_at_call 38;refine HQ.out.mono ?_;rintro e w1 ⟨rfl,hB1⟩;have bz1:=bz.below hB1 bz.lt;have g0:=bz1.cell 0;have g1:=bz1.cell 1;have g2:=bz1.cell 2;have f0:=bz1.frozen 0;have f1:=bz1.frozen 1;have f2:=bz1.frozen 2;simp only [gz9] at g0 g1 g2)
  have r:=((bz1.set_ 0 (.int .i64 k)).set_ 1 (.int .i64 p)).set_ 2 (.slice A n cap)
  have r0:=r.cell 0
  have r1:=r.cell 1
  have r2:=r.cell 2
  simp only [List.setIfInBounds_toArray,List.set_cons_zero,List.set_cons_succ,List.getElem?_toArray,List.getElem?_cons_zero,List.getElem?_cons_succ] at r0 r1 r2
  exact bodyPost_ret (v:=.agg #[.int .i64 k,.int .i64 p,.slice A n cap]) (by simp [results,Tryz.results46,go_sem,r0,r1,r2]) rfl ⟨k,p,A,n,cap,rfl,rfl,(((below_in hBz hB1).setCell (by simp) _).setCell (by simp) _).setCell (by simp) _⟩))
 clear hC b0 b1 hL2 hlen hok
 generalize css.length=n at *
 go_enter Tryz.func13,Tryz.ntmps13
 have hmf:∀ (fn:Fn) (first cap:Array Value) (w:World),(Instr.makeFunc fn first cap).run Tryz.prog w = .ok (.func fn first cap) w:=fun _ _ _ _=>rfl
 go_wp2_with (go_at_call 45;refine HA.out.mono ?_;rintro e w1 ⟨u,rfl,rfl,hB1⟩)
 go_ret
 exact ⟨rfl,below_in hBW (below_in hB1 (below_one _ _))⟩
theorem right_no {B:Nat} (k p:Int) (v:Value) (css:List (List (List UInt8))) (w:World) (hL:Laid w) (hB:B≤w.heap.size) (hC:Cols B w v css) (hlen:css.length≤1000) (hcl:∀ j,j<css.length→(css[j]?.getD []).length≤1000) (hno:¬ AllK k p css) :
 Calls Tryz.prog 13 #[.agg #[.int .i64 k,.int .i64 p],v] w fun e w'=>e = .returned (.int .i64 2)∧Below w.heap.size w w':=by
 obtain ⟨A,cap,rfl,_,_⟩:=id hC
 obtain ⟨W2,hW2⟩:∃ W2,((w).alloc (.cells #[.int .i64 k,.int .i64 p] 24)).alloc (.cells #[.slice A css.length cap] 28)=W2:=⟨_,rfl⟩
 have hBW:Below w.heap.size w W2:=by rw [←hW2];exact below_two w _ _
 have S2:Hid (W2.heap.size=w.heap.size+2):=by unfold Hid;rw [←hW2];simp
 have b0:Blk W2 (w.heap.size) 24 #[.int .i64 k,.int .i64 p]:=by rw [←hW2];exact (Blk.new (w) 24 #[.int .i64 k,.int .i64 p]).alloc (.cells #[.slice A css.length cap] 28)
 have b1:Blk W2 (w.heap.size+1) 28 #[.slice A css.length cap]:=by rw [←hW2];exact Blk.at_size (Blk.new ((w).alloc (.cells #[.int .i64 k,.int .i64 p] 24)) 28 #[.slice A css.length cap]) (by simp)
 have hL2:=hL.next hBW
 have HA:=Lib.hid (ans_K_no 2 46 #[.pointer (some ⟨w.heap.size,0,none⟩),.pointer (some ⟨w.heap.size+1,0,none⟩)] W2 (enter_right1 _) (fun U hU=>by
  have hLU:=hL2.next hU
  have hBU:=below_in hBW hU
  have hCU:=hC.below (hBU.mono hB)
  have hBz:=below_one U (.cells #[.int .i64 0,.int .i64 0,.slice none 0 0] 76)
  have bz:=Blk.new U 76 #[.int .i64 0,.int .i64 0,.slice none 0 0]
  have hWL:=hLU.next hBz
  have hWC:=hCU.below (hBz.mono (Nat.le_trans hB hBU.size))
  have HQ:=Lib.hid (asked_no (B:=B) 43 k p (p - shortN k+madeN k) (.slice A css.length cap) css (many_cols k p) _ hWL (Nat.le_trans hB (Nat.le_trans hBU.size hBz.size)) hWC hlen hcl hno)
  have c0:=((b0.below hU b0.lt).alloc (.cells #[.int .i64 0,.int .i64 0,.slice none 0 0] 76)).cell 0
  have c1:=((b0.below hU b0.lt).alloc (.cells #[.int .i64 0,.int .i64 0,.slice none 0 0] 76)).cell 1
  have c2:=((b1.below hU b1.lt).alloc (.cells #[.int .i64 0,.int .i64 0,.slice none 0 0] 76)).cell 0
  simp only [gz9] at c0 c1 c2
  clear hC hCU hWL hWC b0 b1 hW2 hL hL2 hLU hlen hcl hno
  generalize css.length=n at *
  go_enter Tryz.func46,Tryz.ntmps46
  go_wp2_with (go_at_call 38;refine HQ.out.mono ?_;rintro e w1 ⟨rfl,hB1⟩)
  exact ⟨rfl,rfl,below_in hBz hB1⟩))
 clear hC b0 b1 hL2 hlen hcl hno
 generalize css.length=n at *
 go_enter Tryz.func13,Tryz.ntmps13
 have hmf:∀ (fn:Fn) (first cap:Array Value) (w:World),(Instr.makeFunc fn first cap).run Tryz.prog w = .ok (.func fn first cap) w:=fun _ _ _ _=>rfl
 go_wp2_with (go_at_call 45;refine HA.out.mono ?_;rintro e w1 ⟨rfl,hB1⟩)
 go_ret
 exact ⟨rfl,below_in hBW (below_in hB1 (below_one _ _))⟩
end Go.Proofs.YtknkdbincaonbaaGreatDoor.Cd

namespace Go.Proofs.YtknkdbincaonbaaGreatDoor.Cd
open Go.RowKit Go.Shelf Go.Maps Go.Proofs.YtknkdbincaonbaaGreatDoor.C Go.Proofs.YtknkdbincaonbaaGreatDoor.E Go.Proofs.YtknkdbincaonbaaGreatDoor.Q
attribute [local go_sem] Oper.semAt_some

def CutX (base:Nat) (W:World) (v:Value) (n:Nat) (l:List UInt8):Prop :=
 ∃ g g2,v = .slice (some ⟨g2,0,none⟩) (cellsFor l.length n) (cellsFor l.length n)∧Blk W g2 32 (cutAt g n (cellsFor l.length n) (cellsFor l.length n))∧Row W g (tab (cellsFor l.length n * n) (at_ l))∧base≤g∧base≤g2
theorem CutX.less {base base':Nat} {W:World} {v:Value} {n:Nat} {l:List UInt8} (h:CutX base W v n l) (hb:base'≤base):CutX base' W v n l:=by
 obtain ⟨g,g2,h1,h2,h3,h4,h5⟩:=h
 exact ⟨g,g2,h1,h2,h3,by omega,by omega⟩
theorem CutX.set_ {base:Nat} {W:World} {v:Value} {n:Nat} {l:List UInt8} (h:CutX base W v n l) {p:Addr} (hp:p.block<base) (u:Value):CutX base (W.setCell p u) v n l:=by
 obtain ⟨g,g2,h1,h2,h3,h4,h5⟩:=h
 exact ⟨g,g2,h1,Blk.far h2 (by omega) u,Blk.far h3 (by omega) u,h4,h5⟩
theorem CutX.row {base:Nat} {W:World} {v:Value} {n:Nat} {l:List UInt8} (h:CutX base W v n l) (hn:1≤n) (hn64:n≤64) (hl:l.length≤1048576):RowM (fun _=>True) W base v (cutL n l):=by
 obtain ⟨g,g2,h1,h2,h3,h4,h5⟩:=h
 subst h1
 have hq:=cutL_len n l
 have hqm:cellsFor l.length n≤maxLen:=by
  have e1:=cellsFor_le l.length n hn
  have e2:=Nat.le_mul_of_pos_right (cellsFor l.length n) hn
  unfold maxLen
  omega
 have hsz:=cutAt_size g n (cellsFor l.length n) (cellsFor l.length n)
 have hat:=fun j (hj:j<cellsFor l.length n)=>cutL_at n l j hj
 have htake:((cutAt g n (cellsFor l.length n) (cellsFor l.length n)).toList).length=cellsFor l.length n:=by rw [Array.length_toList,hsz]
 refine ⟨(cutAt g n (cellsFor l.length n) (cellsFor l.length n)).toList,⟨by omega,.inr ⟨g2,cellsFor l.length n,_,by rw [htake],h5,h2,by omega,hqm,by omega,by rw [Nat.mul_one];exact List.take_length⟩⟩,by rw [htake,hq],fun j u hu=>?_⟩
 have hj:j<cellsFor l.length n:=by
  rcases Nat.lt_or_ge j (cellsFor l.length n) with h | h
  · exact h
  · rw [List.getElem?_eq_none (by rw [htake];exact h)] at hu
    cases hu
 rw [Array.getElem?_toList,cutAt_get _ _ _ _ _ hj,if_pos hj] at hu
 injection hu with hu
 subst hu
 rw [hat j hj]
 have hne:g≠g2:=fun e=>by
  subst e
  have e3:Blk W g 5 _:=h3
  have:=h2.symm.trans e3
  injection this with this
  injection this with _ this _
  revert this
  decide
 refine ⟨some ⟨g,j * n,none⟩,n,by rw [tab_len],by rw [tab_len];exact Nat.le_refl _,fun _=>⟨g,j * n,rfl,⟨h3.lt,fun e=>by injection e with e;exact hne e,trivial⟩,fun i hi=>?_⟩⟩
 rw [tab_len] at hi
 have hlt:j * n+i<cellsFor l.length n * n:=by
  have:=Nat.mul_le_mul_right n (show j+1≤cellsFor l.length n from hj)
  rw [Nat.succ_mul] at this
  omega
 rw [h3.cell (k:=j * n+i) (by rw [tab_len];exact hlt)]
 have e1:=tab_at (cellsFor l.length n * n) (at_ l) (j * n+i) hlt
 have e2:=tab_at n (fun i=>at_ l (j * n+i)) i hi
 exact congrArg (fun x:UInt8=>some (Value.int .u8 (x.toNat:Int))) (e1.trans e2.symm)
theorem cut1_row (v:Value) (l:List UInt8) (n:Nat) (h1:1≤n) (h64:n≤64) (hlen:l.length≤1048576) (gn gb:Nat) (w:World) (hgn:gn<w.heap.size) (hgb:gb<w.heap.size) (hb:Bytes w.heap.size w v l)
 (cn:w.cell? ⟨gn,0,none⟩=some (.int .i64 (n:Int))) (cb:w.cell? ⟨gb,0,none⟩=some v) :
 Calls Tryz.prog 147 #[.pointer (some ⟨gn,0,none⟩),.pointer (some ⟨gb,0,none⟩)] w fun e w'=>∃ v,e = .returned v∧CutX w.heap.size w' v n l∧Below w.heap.size w w':=by
 have hL:=fun W:World=>isLength_any (n:Int) W
 rw [decide_eq_true (show 1≤(n:Int)∧(n:Int)≤64 by omega)] at hL
 have HL:=Lib.hid hL
 have HF:=Lib.hid (fun (W:World) (hB:Below w.heap.size w W)=>filled_any v l n h1 h64 hlen W ((hb.below hB).more hB.size))
 have hq2:cellsFor l.length n≤2000000:=by
  have e1:=cellsFor_le l.length n h1
  have e2:=Nat.le_mul_of_pos_right (cellsFor l.length n) h1
  omega
 have HC:=Lib.hid (fun (W:World) (g:Nat) (hR:Row W g (tab (cellsFor l.length n * n) (at_ l)))=>cutUp_any g n (cellsFor l.length n) (cellsFor l.length n * n) _ h1 h64 rfl hq2 W hR)
 have HE:Hid (∀ {W:World} {g g2 base:Nat},Blk W g2 32 (cutAt g n (cellsFor l.length n) (cellsFor l.length n))→Row W g (tab (cellsFor l.length n * n) (at_ l))→base≤g→base≤g2→CutX base W (.slice (some ⟨g2,0,none⟩) (cellsFor l.length n) (cellsFor l.length n)) n l):=fun a b c d=>⟨_,_,rfl,a,b,c,d⟩
 clear hL hlen h1 h64 hq2 hb
 generalize cellsFor l.length n=q at *
 generalize q * n=N at *
 go_enter Tryz.func147,Tryz.ntmps147
 go_wp2_with (first | (go_at_call 149;refine (HL.out _).mono ?_;rintro e w' ⟨rfl,rfl⟩) | (go_at_call 148;refine (C.need_yes _).mono ?_;rintro e w' ⟨rfl,rfl⟩))
 go_region_held3 (fun W=>W.cell? ⟨gn,0,none⟩=some (.int .i64 (n:Int))∧W.cell? ⟨gb,0,none⟩=some v)
  (first | exact ⟨cn,cb⟩ | exact ⟨(Below.cell (p:=⟨gn,0,none⟩) hBa hgn).trans cn,(Below.cell (p:=⟨gb,0,none⟩) hBa hgb).trans cb⟩ | exact ⟨(Below.cell (p:=⟨gn,0,none⟩) hBb hgn).trans cn,(Below.cell (p:=⟨gb,0,none⟩) hBb hgb).trans cb⟩) (first
  | (go_at_call 151;refine (HF.out _ ?_).mono ?_;first | exact Below.refl _ _ | exact (Below.refl _ _).drew;rintro e w1 ⟨g,rfl,hg,hR,hB1⟩;have hBa:Below w.heap.size w w1:=(by first | exact hB1 | exact Below.undrew hB1))
  | (go_at_call 150;refine (HC.out _ g hR).mono ?_;rintro e w2 ⟨g2,rfl,hg2,hC2,hR2,hB2⟩;have hBb:Below w.heap.size w w2:=Below.next hBa hB2))
 all_goals go_wp2
 all_goals go_ret
 all_goals exact ⟨_,rfl,HE.out hC2 hR2 hg (Nat.le_trans hBa.size hg2),hBb⟩
theorem cut_row (v:Value) (l:List UInt8) (n:Nat) (h1:1≤n) (h64:n≤64) (hlen:l.length≤1048576) (w:World) (hb:Bytes w.heap.size w v l) :
 Calls Tryz.prog 114 #[v,.int .i64 (n:Int)] w fun e w'=>∃ v,e = .returned (.tuple #[v,.int .i64 0])∧CutX w.heap.size w' v n l∧Below w.heap.size w w':=by
 have hmf:=make_func
 obtain ⟨W0,hW0⟩:∃ W0,(w.alloc (.cells #[v] 32)).alloc (.cells #[.int .i64 (n:Int)] 3)=W0:=⟨_,rfl⟩
 have b0:Blk W0 w.heap.size 32 #[v]:=by rw [←hW0];exact (Blk.new w _ _).alloc _
 have b1:Blk W0 (w.heap.size+1) 3 #[.int .i64 (n:Int)]:=by
  rw [←hW0];have:=Blk.new (w.alloc (.cells #[v] 32)) 3 #[.int .i64 (n:Int)];rwa [World.size_alloc] at this
 have hB0:Below w.heap.size w W0:=by rw [←hW0];exact ((Below.refl _ w).alloc (Nat.le_refl _) _).alloc (by simp) _
 have hs0:W0.heap.size=w.heap.size+2:=by rw [←hW0];simp
 have HA:=Lib.hid (answeredM_yes 147 #[.pointer (some ⟨w.heap.size+1,0,none⟩),.pointer (some ⟨w.heap.size,0,none⟩)] W0 (fun u W=>CutX (W0.heap.size+1) W u n l) (fun W=>C.enter_cut _ W)
  (fun W hBW hlt=>(cut1_row v l n h1 h64 hlen (w.heap.size+1) w.heap.size W (by omega) (by omega) (((hb.below hB0).more hB0.size).below hBW |>.more hBW.size) (b1.below hBW (by omega)).one (b0.below hBW (by omega)).one).mono (by rintro e w' ⟨u,rfl,hF,hB'⟩;exact ⟨u,rfl,hF.less hlt,hB'⟩))
  (fun v W hF=>hF.set_ (by simp) _))
 obtain ⟨A,cap,rfl,_,_⟩:=id hb
 clear b0 b1
 go_enter Tryz.func114,Tryz.ntmps114
 go_wp2_with (go_at_call 146;refine HA.out.mono ?_;rintro e w1 ⟨v,rfl,hF,hBr⟩)
 go_ret2
 exact ⟨v,rfl,hF.less (by omega),hB0.trans (hBr.mono (by omega))⟩

theorem grown_set (W:World) (p:Addr) (u:Value):W.grownBy (W.setCell p u) (some p.block):=⟨rfl,rfl,rfl,by simp,fun b _ hb=>Below.heap_setCell W p u b (fun e=>hb (by rw [e]))⟩
theorem field_at (x y:Int) (W:World):(Instr.field 53 (.agg #[.int .i64 x,.int .i64 y]) 0).run Tryz.prog W = .ok (.int .i64 x) W:=by kernel_rfl
theorem laid_any {B:Nat} (k p:Int) (hR:RightC k p) (v:Value) (ls:List (List UInt8)) (len:Nat) (b:List UInt8) (hls:ls.length=datN k p * (p - 1).toNat) (hce:∀ i,i<ls.length→ls[i]?.getD []=cellB b len i) (w:World) (hL:Laid w) (hB:B≤w.heap.size) (hC:Many B w v ls) :
 Calls Tryz.prog 115 #[.agg #[.int .i64 k,.int .i64 p],v] w fun e w'=>∃ u,e = .returned u∧Cols w'.heap.size w' u (fillL (datN k p) (p - 1).toNat len b)∧Below w.heap.size w w':=by
 obtain ⟨hDN,hd2,hd17⟩:=datN_eq hR
 obtain ⟨p1,p2,s1,s2,m1,m2⟩:=hR.und
 have hR2:2≤(p - 1).toNat∧(p - 1).toNat≤16:=by omega
 have hpR:p - 1=(((p - 1).toNat:Nat):Int):=by omega
 have HNUM:Hid (∀ i:Nat,i<ls.length→HasNum k p (i:Int)):=fun i hi=>⟨by omega,by rw [hDN,hpR,hls] at *;exact_mod_cast hi⟩
 obtain ⟨R,hRR⟩:∃ R,(p - 1).toNat=R:=⟨_,rfl⟩
 rw [hRR] at hls hR2 ⊢
 have hN1:1≤ls.length:=by rw [hls];exact Nat.mul_pos (by omega) (by omega)
 have hN2:ls.length≤300:=by rw [hls];exact Nat.le_trans (Nat.mul_le_mul hd17 hR2.2) (by omega)
 have HPL:=Lib.hid (fun (i:Nat) (hi:i<ls.length) (U:World) (hLU:Laid U)=>by
  have h:=(shapePlace_any k p (i:Int) U hLU).mono fun _ _ h=>(⟨h.2.2.1 hR (HNUM.out i hi),h.2.2.2⟩:_∧_)
  rw [hDN,show ((i:Int) % ((datN k p:Nat):Int))=((i % datN k p:Nat):Int) from rfl,show ((i:Int) / ((datN k p:Nat):Int))=((i / datN k p:Nat):Int) from rfl] at h
  exact h)
 have HDT:=Lib.hid (fun (U:World) (hLU:Laid U)=>by
  have h:=(shapeData_any k p U hLU).mono fun _ _ h=>(⟨h.1 hR,h.2.2⟩:_∧_)
  rw [hDN] at h
  exact h)
 generalize datN k p=d at *
 have HCE:=Lib.hid hce
 obtain ⟨Av,capv,rfl,hcv,_⟩:=id hC
 obtain ⟨bv,ov,rfl,hbv,hrow⟩:=many_at hC (by omega)
 have HRO:=Lib.hid hrow
 have HLS:=Lib.hid hls
 obtain ⟨N,hN⟩:∃ N,ls.length=N:=⟨_,rfl⟩
 rw [hN] at HPL HCE HRO hN1 hN2 HLS hcv ⊢
 have hBz:=below_one w (.cells #[.int .i64 k,.int .i64 p] 24)
 have bz:=Blk.new w 24 #[.int .i64 k,.int .i64 p]
 obtain ⟨wb,hwb⟩:∃ wb,w.alloc (.cells #[.int .i64 k,.int .i64 p] 24)=wb:=⟨_,rfl⟩
 rw [hwb] at hBz bz
 have hLb:=hL.next hBz
 have HFD:=Lib.hid field_at
 obtain ⟨i0,hi,hz0,hz1,hz2⟩:=info_parts Tryz.infoCol
 have hmake:=fun W:World=>run_make (P:=Tryz.prog) W 74 58 i0 (.slice none 0 0) Tryz.underlying74 hi hz0 .i64 .i64 (d:Int) (d:Int) (by omega) (by omega) (by rw [hz2];omega) (by omega)
 simp only [hz1,Int.toNat_natCast,Nat.mul_one,show (Value.slice none 0 0).cells=#[Value.slice none 0 0] from rfl] at hmake
 clear hC hls hce hrow hN hDN hpR hRR hR hi hz0 hz1 hz2 hL HNUM
 have c0:=bz.cell 0
 have c1:=bz.cell 1
 simp only [gz9] at c0 c1
 go_enter Tryz.func115,Tryz.ntmps115
 go_wp2_with (first
  | (go_at_call 39;refine (HDT.out _ hLb).mono ?_;rintro e w1 ⟨rfl,hB1⟩)
  | (go_at_call 73;refine (sureI _ _).mono ?_;rintro e w2 ⟨rfl,rfl⟩))
 have hBA:=below_in hB1 (below_one w1 (.cells (madeCells #[.slice none 0 0] d) 58))
 have bA:=Blk.new w1 58 (madeCells #[.slice none 0 0] d)
 have hbz:(madeCells #[.slice none 0 0] d).size=d:=size_madeCells _ _
 have hat0:∀ c,c<d→(madeCells #[.slice none 0 0] d)[c]?=some (.slice none 0 0):=fun c hc=>by
  rw [←Array.getElem?_toList,toList_madeCells_one,List.getElem?_replicate,if_pos hc]
 obtain ⟨wA,hwA⟩:∃ wA,w1.alloc (.cells (madeCells #[.slice none 0 0] d) 58)=wA:=⟨_,rfl⟩
 rw [hwA] at hBA bA
 simp only [hwA]
 generalize madeCells #[.slice none 0 0] d=csA at *
 obtain ⟨gd,hgd⟩:∃ gd,w1.heap.size=gd:=⟨_,rfl⟩
 rw [hgd] at bA
 have HGD:=Lib.hid hgd
 have HGB:Hid (wb.heap.size≤gd):=by have h1:=hB1.size;unfold Hid;omega
 have HG1:Hid (w.heap.size<gd):=by have h1:=hB1.size;have h2:=bz.lt;unfold Hid;omega
 simp only [hgd]
 clear hgd
 have HA0:=Lib.hid hat0
 clear hat0 hmake hwA hB1 HDT
 go_wp2_with fail
 go_loopw [17] (fun i wr=>∃ (m:Nat) (cs:Array Value),m≤N∧i = .int .i64 m∧Blk wr gd 58 cs∧cs.size=d ∧
  Hid (∀ c,c<d→∃ vc,cs[c]?=some vc∧RowM (·<w.heap.size) wr (gd+1) vc ((partL d len b m)[c]?.getD [])) ∧
  Hid (∀ (c c':Nat) (x y:Value),c≠c'→cs[c]?=some x→cs[c']?=some y→x.ownBlock=none∨x.ownBlock≠y.ownBlock)∧Hid (Below wb.heap.size wb wr)) (fun i _=>N - (intOf i).toNat)
 case atStart =>
  refine ⟨0,csA,by omega,rfl,bA,hbz,Lib.hid fun c hc=>⟨_,HA0.out c hc,?_⟩,Lib.hid fun c c' x y _ h1 h2=>?_,Lib.hid hBA⟩
  · rw [part_zero,List.getElem?_replicate,if_pos hc]
    exact RowG.nil _ _ _ _ _ _
  · left
    have hc:c<d:=by
     rcases Nat.lt_or_ge c d with h | h
     · exact h
     · rw [Array.getElem?_eq_none (by omega)] at h1;cases h1
    rw [HA0.out c hc] at h1
    injection h1 with h1
    rw [←h1]
    rfl
 case round =>
  obtain ⟨m,cs,hm,rfl,bA,hbz,HROW,HSEP,HBR⟩:=hrel
  clear c0 c1 hBA HA0
  by_cases hlt:m<N
  · have hdec:decide ((m:Int)<(N:Int))=true:=by simp;omega
    obtain ⟨u0,cu,hu0,hby⟩:=HRO.out m hlt
    have hcb:=HCE.out m hlt
    have cv:wr.cell? ⟨bv,ov+m,none⟩=some (.slice u0 (ls[m]?.getD []).length cu):=(HBR.out.cell (p:=⟨bv,ov+m,none⟩) (by have h1:=hBz.size;show bv < _;omega)).trans ((hBz.cell (p:=⟨bv,ov+m,none⟩) (by show bv < _;omega)).trans hu0)
    have hby2:=hby.below (hBz.mono hB)
    have hby3:=hby2.below (HBR.out.mono (by have h1:=hBz.size;omega))
    have hbc:=bz.below HBR.out bz.lt
    have c0:=hbc.cell 0
    have c1:=hbc.cell 1
    simp only [gz9] at c0 c1
    have hLr:=hLb.next HBR.out
    have i1:(0:Int)≤(m:Int):=by omega
    have i2:(m:Int)<(N:Int):=by omega
    have hmod:m % d<d:=Nat.mod_lt _ (by omega)
    have j1:(0:Int)≤((m % d:Nat):Int):=by omega
    have j2:((m % d:Nat):Int)<(d:Int):=by omega
    obtain ⟨vc,hvc,hrowc⟩:=HROW.out (m % d) hmod
    obtain ⟨A0,n0,cc0,rfl⟩:=T.RowG.form hrowc
    have hfd:=HFD.out
    have hpl:=HPL.out m hlt wr hLr
    rw [hcb] at cv hby3
    have HPN:Hid (partL d len b (m+1)=(partL d len b m).set (m % d) (((partL d len b m)[m % d]?.getD []) ++ [cellB b len m])):=part_next (by omega)
    have HPS:Hid ((partL d len b m).length=d):=partL_len d len b m
    have HPB:Hid (((partL d len b m)[m % d]?.getD []).length≤1000):=by
     unfold Hid
     rw [part_at hmod,List.length_map,List.length_range]
     exact Nat.le_trans (Nat.div_le_self _ _) (by omega)
    have HRC:=Lib.hid hrowc
    clear hu0 hby hby2 hcb hbc hrowc HPL HFD HCE HRO hLr
    generalize cellB b len m=ce at *
    generalize (m % d:Nat)=col at *
    generalize ((m / d:Nat):Int)=rw_ at *
    generalize (partL d len b m)[col]?.getD []=old at *
    go_wp2_with (first
     | (go_at_call 84;refine hpl.mono ?_;rintro e w2 ⟨rfl,hB2⟩)
     | (go_at_call 83;refine (sureP _ _ _).mono ?_;rintro e w3 ⟨rfl,hB3⟩;have hB23:=below_in hB2 hB3;have bA3:=bA.below hB23 bA.lt;have hcg:=bA3.cell col;rw [hvc] at hcg;have hRC3:=Lib.hid (RowG.below HRC.out hB23);have hby4:=hby3.below (hB23.mono (by have h1:=HBR.out.size;have h2:=hBz.size;omega))
        have hBal:=below_one w3 (.cells #[.slice u0 ce.length cu] 32);have bE:=Blk.new w3 32 #[.slice u0 ce.length cu];have hby5:=hby4.below (hBal.mono (by have h1:=HBR.out.size;have h2:=hBz.size;have h3:=hB23.size;omega));have hRC4:=Lib.hid (RowG.below hRC3.out hBal);have bA4:=bA3.alloc (.cells #[.slice u0 ce.length cu] 32))
     | (at_builtin;refine wpList_pushM _ rfl _ _ rfl Tryz.underlying58 _ rfl hRC4.out w3.heap.size _ _ ce rfl bE (BytesP.imp hby5 (fun q hq=>⟨by have h1:=HBR.out.size;have h2:=hBz.size;have h3:=hB23.size;have h4:=hBal.size;have h5:q<B:=hq;omega,fun e=>by have h5:q<B:=hq;have h6:=RowG.own_le hRC4.out q e.symm;have h7:=HG1.out;omega,by have h5:q<B:=hq;show q<w.heap.size;omega⟩)) (Nat.le_trans HPB.out (by omega)) (by have h1:=bA4.lt;omega) ?_;intro v' w5 hrow5 hgr5 hor5;obtain ⟨A5,n5,cc5,rfl⟩:=T.RowG.form hrow5;have HR5:=Lib.hid hrow5;clear hrow5;have HO5:=Lib.hid hor5;clear hor5;have hne5:some gd≠(Value.slice A0 n0 cc0).ownBlock:=(fun e=>by have h6:=RowG.own_le hRC4.out gd e.symm;omega);have bA5:Blk w5 gd 58 cs:=(hgr5.block gd bA4.lt hne5).trans bA4;have hcg5:=bA5.cell col;rw [hvc] at hcg5;have f5:=bA5.frozen col))
    have HST:Hid (∀ V,V=w5.setCell ⟨gd,col,none⟩ (.slice A5 n5 cc5)→Blk V gd 58 (cs.setIfInBounds col (.slice A5 n5 cc5))∧Below wb.heap.size wb V ∧
     (∀ c,c<d→∃ vc,(cs.setIfInBounds col (.slice A5 n5 cc5))[c]?=some vc∧RowM (·<w.heap.size) V (gd+1) vc ((partL d len b (m+1))[c]?.getD [])) ∧
     (∀ (c c':Nat) (x y:Value),c≠c'→(cs.setIfInBounds col (.slice A5 n5 cc5))[c]?=some x→(cs.setIfInBounds col (.slice A5 n5 cc5))[c']?=some y→x.ownBlock=none∨x.ownBlock≠y.ownBlock)):=fun V hV=>by
     have hcs:col<cs.size:=by omega
     have hgV:w5.grownBy V (some gd):=by rw [hV];exact grown_set w5 ⟨gd,col,none⟩ _
     have hB35:Below wr.heap.size wr (w3.alloc (.cells #[.slice u0 ce.length cu] 32)):=below_in hB23 hBal
     have hgdl:gd<wr.heap.size:=bA.lt
     have hsz4:(w3.alloc (.cells #[.slice u0 ce.length cu] 32)).heap.size=w3.heap.size+1:=by simp
     have hszr:=hB23.size
     have hwbg:wb.heap.size≤gd:=by have h1:=HGB.out;omega
     refine ⟨by rw [hV];exact bA5.set_ col _,?_,fun c hc=>?_,fun c c' x y hne h1 h2=>?_⟩
     · rw [hV]
       refine Below.setCell (below_grown (HBR.out.trans (hB35.mono HBR.out.size)) hgr5 (by have h1:=HBR.out.size;have h2:=hB35.size;omega) (fun q e=>by have h6:=RowG.own_le hRC4.out q e;omega)) (by simpa using hwbg) _
     · rw [HPN.out,List.getElem?_set]
       by_cases hcc:col=c
       · subst hcc
         rw [if_pos rfl,if_pos (by rw [HPS.out];exact hc)]
         refine ⟨_,Array.getElem?_setIfInBounds_self_of_lt hcs,?_⟩
         refine RowG.kept HR5.out hgV (.inr fun e=>by have h6:=RowG.own_le HR5.out gd e;omega) (fun q hq e=>?_)
         injection e with e
         have h5:q<w.heap.size:=hq
         have:=HG1.out
         omega
       · rw [if_neg hcc]
         obtain ⟨vc,g1,g2⟩:=HROW.out c hc
         refine ⟨vc,by rw [Array.getElem?_setIfInBounds_ne hcc];exact g1,?_⟩
         have g3:=RowG.below g2 hB35
         have hsep:=HSEP.out c col vc _ (Ne.symm hcc) g1 hvc
         have g4:=RowG.kept g3 hgr5 hsep (fun q hq e=>by have h6:=RowG.own_le hRC4.out q e.symm;have h5:q<w.heap.size:=hq;have:=HG1.out;omega)
         refine RowG.kept g4 hgV (.inr fun e=>by have h6:=RowG.own_le g4 gd e;omega) (fun q hq e=>?_)
         injection e with e
         have h5:q<w.heap.size:=hq
         have:=HG1.out
         omega
     · have hold:∀ c0 x0,c0≠col→(cs.setIfInBounds col (.slice A5 n5 cc5))[c0]?=some x0→cs[c0]?=some x0∧∀ q,x0.ownBlock=some q→q<wr.heap.size:=fun c0 x0 hc0 h=>by
        rw [Array.getElem?_setIfInBounds_ne (Ne.symm hc0)] at h
        refine ⟨h,fun q hq=>?_⟩
        have hc0d:c0<d:=by
         rcases Nat.lt_or_ge c0 d with h' | h'
         · exact h'
         · rw [Array.getElem?_eq_none (by omega)] at h;cases h
        obtain ⟨vc,g1,g2⟩:=HROW.out c0 hc0d
        rw [h] at g1
        injection g1 with g1
        subst g1
        exact RowG.own_lt g2 q hq
       have hnew:∀ x0,(cs.setIfInBounds col (.slice A5 n5 cc5))[col]?=some x0→x0 = .slice A5 n5 cc5:=fun x0 h=>by
        rw [Array.getElem?_setIfInBounds_self_of_lt hcs] at h
        injection h with h
        exact h.symm
       by_cases e1:c=col
       · subst e1
         have:=hnew x h1
         subst this
         obtain ⟨k1,k2⟩:=hold c' y (Ne.symm hne) h2
         rcases HO5.out with e | e
         · rw [e]
           exact HSEP.out c c' _ y hne hvc k1
         · right
           rw [e]
           intro e2
           have:=k2 _ e2.symm
           omega
       · obtain ⟨k1,k2⟩:=hold c x e1 h1
         by_cases e2:c'=col
         · subst e2
           have:=hnew y h2
           subst this
           rcases HO5.out with e | e
           · rw [e]
             exact HSEP.out c c' x _ hne k1 hvc
           · right
             rw [e]
             intro e3
             have:=k2 _ e3
             omega
         · exact HSEP.out c c' x y hne k1 (hold c' y e2 h2).1
    clear hRC4 hRC3 hby3 hby4 hby5 HR5 HO5 bE bA4 bA3 hcg hgr5 HROW HSEP HRC hne5
    go_wp2
    go_roundw
    case rel =>
     obtain ⟨g1,g2,g3,g4⟩:=HST.out _ rfl
     exact ⟨m+1,_,hlt,by go_num,g1,by simpa using hbz,Lib.hid g3,Lib.hid g4,Lib.hid g2⟩
    case measure=>simp [intOf];omega
  · obtain rfl:m=N:=by omega
    have hdec:decide ((m:Int)<(m:Int))=false:=by simp
    have HFIN:Hid (Cols wr.heap.size wr (.slice (some ⟨gd,0,none⟩) d d) (fillL d R len b)):=by
     have hpa:partL d len b m=fillL d R len b:=by rw [HLS.out];exact part_all
     refine ⟨_,d,by rw [fill_len],by rw [fill_len];exact Nat.le_refl _,fun _=>⟨gd,0,rfl,bA.lt,fun c hc=>?_⟩⟩
     rw [fill_len] at hc
     obtain ⟨vc,g1,g2⟩:=HROW.out c hc
     rw [hpa] at g2
     exact ⟨vc,by rw [Nat.zero_add,bA.cell c];exact g1,manyR_iff.1 (RowM.many g2 fun q hq _=>hq)⟩
    clear HROW HSEP
    go_wp2
    go_ret
    exact ⟨_,rfl,HFIN.out,hBz.trans (HBR.out.mono (by have:=hBz.size;omega))⟩
end Go.Proofs.YtknkdbincaonbaaGreatDoor.Cd
