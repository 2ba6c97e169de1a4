/- -/
import Derived.Test.YtmhgjkechbjemaaGreatDoorCFG24
import Derived.Test.YtmhgjkechbjemaaGreatDoorCFG14
import Derived.Test.YtmhgjkechbjemaaGreatDoorCFG4
import Derived.Test.YtmhgjkechbjemaaGreatDoorCFG9
import Derived.Test.YtmhgjkechbjemaaGreatDoorCFG12
import Derived.Test.YtmhgjkechbjemaaGreatDoorCFG22
set_option linter.unusedVariables false
set_option linter.unusedSimpArgs false
set_option maxRecDepth 100000
set_option maxHeartbeats 4000000
namespace Go.Proofs.YtmhgjkechbjemaaGreatDoor.Cd
open Go.RowKit Go.Shelf Go.Maps Go.Proofs.YtmhgjkechbjemaaGreatDoor.C Go.Proofs.YtmhgjkechbjemaaGreatDoor.E Go.Proofs.YtmhgjkechbjemaaGreatDoor.Q
theorem enter_data1:∀ args W,(callFunc 44 args).run Tryz.prog W = .ok (.enter 44 args) W := enters_of Tryz.func44 (by kernel_rfl) rfl
theorem data_yes {B:Nat} (k p:Int) (v:Value) (css:List (List (List UInt8))) (hok:AllK k p css) (w:World) (hL:Laid w) (hB:B≤w.heap.size) (hC:Cols B w v css) :
 Calls Tryz.prog 12 #[.agg #[.int .i64 k,.int .i64 p],v] w fun e w'=>∃ u,e = .returned (.tuple #[u,.int .i64 0])∧Fresh w.heap.size w' u (dataL (datN k p) (p - 1).toNat css)∧Below w.heap.size w w' := by
 have hlen := (all_len hok).2.1
 obtain ⟨A,cap,rfl,_,_⟩ := id hC
 obtain ⟨W2,hW2⟩:∃ W2,((w).alloc (.cells #[.int .i64 k,.int .i64 p] 24)).alloc (.cells #[.slice A css.length cap] 28) = W2 := ⟨_,rfl⟩
 have hBW:Below w.heap.size w W2 := by rw [←hW2];exact below_two w _ _
 have S2:Hid (W2.heap.size = w.heap.size+2) := by unfold Hid;rw [←hW2];simp
 have b0:Blk W2 (w.heap.size) 24 #[.int .i64 k,.int .i64 p] := by rw [←hW2];exact (Blk.new (w) 24 #[.int .i64 k,.int .i64 p]).alloc (.cells #[.slice A css.length cap] 28)
 have b1:Blk W2 (w.heap.size+1) 28 #[.slice A css.length cap] := by rw [←hW2];exact Blk.at_size (Blk.new ((w).alloc (.cells #[.int .i64 k,.int .i64 p] 24)) 28 #[.slice A css.length cap]) (by simp)
 have hL2 := hL.next hBW
 have HA := Lib.hid (ans_B_yes 44 #[.pointer (some ⟨w.heap.size,0,none⟩),.pointer (some ⟨w.heap.size+1,0,none⟩)] W2 (fun u W=>Fresh (W2.heap.size+1) W u (dataL (datN k p) (p - 1).toNat css)) (enter_data1 _) (fun U hU bU=>by
  have hLU := hL2.next hU
  have hBU := below_in hBW hU
  have hCU := hC.below (hBU.mono hB)
  have hlt := bU.lt
  have HQ := Lib.hid (asked_yes (B := B) 45 k p (.slice A css.length cap) css (by have h := many_cols k p;rwa [←hok.1.2] at h) hok.1.1 U hLU (Nat.le_trans hB hBU.size) hCU (by omega) hok.2)
  have HE := Lib.hid (fun (V:World) (hV:Below U.heap.size U V)=>octets_any (B := B) k p (.slice A css.length cap) css hok V (hLU.next hV) (Nat.le_trans hB (Nat.le_trans hBU.size hV.size)) (hCU.below (hV.mono (Nat.le_trans hB hBU.size))))
  have c0 := (b0.below hU b0.lt).cell 0
  have c1 := (b0.below hU b0.lt).cell 1
  have c2 := (b1.below hU b1.lt).cell 0
  simp only [gz9] at c0 c1 c2
  clear hC hCU hok b0 b1 hW2 hL hL2 hLU hlen
  generalize dataL (datN k p) (p - 1).toNat css = dl at *
  generalize css.length = n at *
  go_enter Tryz.func44,Tryz.ntmps44
  go_wp2_with (first
   | (go_at_call 40;refine HQ.out.mono ?_;rintro e w1 ⟨rfl,hB1⟩)
   | (go_at_call 46;refine (HE.out _ hB1).mono ?_;rintro e w2 ⟨u,rfl,hu,hB2⟩))
  go_ret
  exact ⟨u,rfl,Fresh.less hu (by have h1 := hB1.size;omega),below_in hB1 hB2⟩))
 clear hC b0 b1 hL2 hok hlen
 generalize dataL (datN k p) (p - 1).toNat css = dl at *
 generalize css.length = n at *
 go_enter Tryz.func12,Tryz.ntmps12
 have hmf:∀ (fn:Fn) (first cap:Array Value) (w:World),(Instr.makeFunc fn first cap).run Tryz.prog w = .ok (.func fn first cap) w := fun _ _ _ _=>rfl
 go_wp2_with (go_at_call 43;refine HA.out.mono ?_;rintro e w1 ⟨u,W,rfl,hu,bE,rfl,hB1⟩)
 go_ret2
 have s2 := S2.out
 exact ⟨u,rfl,Fresh.less (Fresh.set_ hu (Nat.lt_succ_self _) _) (by omega),below_in hBW hB1⟩
end Go.Proofs.YtmhgjkechbjemaaGreatDoor.Cd

namespace Go.Proofs.YtmhgjkechbjemaaGreatDoor.R
open Go.RowKit Go.Shelf Go.Proofs.YtmhgjkechbjemaaGreatDoor.C Go.Proofs.YtmhgjkechbjemaaGreatDoor.E
attribute [local go_sem] Oper.semAt_some

theorem _root_.Go.Proofs.YtmhgjkechbjemaaGreatDoor.OwnA.far {w:World} {base:Nat} {v:Value} {l:List (Int × Int)} (h:OwnA w base v l) {p:Addr} (hp:some p.block≠v.ownBlock) (u:Value):OwnA (w.setCell p u) base v l := by
 refine ⟨h.1,?_⟩
 rcases h.2 with h1 | ⟨g,cap,cur,e,h2,hg,rest⟩
 · exact .inl h1
 · exact .inr ⟨g,cap,cur,e,h2,(Below.heap_setCell w p u g (fun e2=>hp (by rw [e,←e2];rfl))).trans hg,rest⟩
theorem _root_.Go.Proofs.YtmhgjkechbjemaaGreatDoor.OwnA.kept {w w':World} {base:Nat} {v:Value} {l:List (Int × Int)} (h:OwnA w base v l) {row:Option Nat} (hg:w.grownBy w' row) (hne:v.ownBlock = none∨v.ownBlock≠row):OwnA w' base v l := World.ownsRow.kept h hg hne
theorem _root_.Go.Proofs.YtmhgjkechbjemaaGreatDoor.OwnA.blks {w w':World} {base:Nat} {v:Value} {l:List (Int × Int)} (h:OwnA w base v l) (hk:∀ g t cs,Blk w g t cs→Blk w' g t cs):OwnA w' base v l :=
 ⟨h.1,h.2.imp id fun ⟨g,cap,cur,e,h2,hg,rest⟩=>⟨g,cap,cur,e,h2,hk _ _ _ hg,rest⟩⟩
theorem _root_.Go.Proofs.YtmhgjkechbjemaaGreatDoor.OwnA.rowO {w:World} {base:Nat} {v:Value} {l:List (Int × Int)} (h:OwnA w base v l):RowO v.ownBlock w := fun b e=>by
 rcases h.2 with ⟨rfl,_⟩ | ⟨g,cap,cur,rfl,_,hg,_⟩
 · cases e
 · injection e with e
   subst e
   exact ⟨_,_,_,hg⟩
end Go.Proofs.YtmhgjkechbjemaaGreatDoor.R

namespace Go.Proofs.YtmhgjkechbjemaaGreatDoor.R
open Go.RowKit Go.Shelf Go.Proofs.YtmhgjkechbjemaaGreatDoor.C Go.Proofs.YtmhgjkechbjemaaGreatDoor.E
attribute [local go_sem] Oper.semAt_some

theorem values1_in (n:Nat) (hn:2≤n) (l g N:Nat) (u:Value) (L:List (Int × Int)) (hLn:L.length≤1000) (W:World) (hg:g < N) (hN:N≤W.heap.size) (J Jx:List (Int × Int)→Option Nat→World→Prop) (o₀:Option Nat)
 (hJ:FarO W.heap.size J)
 (hY:∀ pre (z:Int × Int) o W1,J pre o W1→z∈L→pre.length < 1000→W.heap.size≤W1.heap.size→YieldAt Fence.wide (n - 1) Tryz.prog l (encA z) W1 fun e W'=>∃ o',FreshO o o' W1∧SinceO W.heap.size o W1 W'∧((e = .returned (.bool true)∧J (pre ++ [z]) o' W'∧Keep 0 N W1 W')∨(e = .returned (.bool false)∧Jx (pre ++ [z]) o' W'∧Keep 0 N W1 W')))
 (bg:Blk W g 51 #[u]) (hR:∃ (q:Option Addr) (cap:Nat),u = .slice q L.length cap∧∀ (j:Nat) (hj:j < L.length),∃ b,q = some ⟨b,0,none⟩∧b < N∧W.cell? ⟨b,j * 2,none⟩ = some (.int .i64 (L[j]).1)∧W.cell? ⟨b,j * 2+1,none⟩ = some (.int .i64 (L[j]).2)) (h0:J [] o₀ W) :
 CallsIn Fence.wide n Tryz.prog 104 #[.func (.yield l) #[] #[],.pointer (some ⟨g,0,none⟩)] W fun e W'=>(∃ v,e = .returned v)∧∃ o',FreshO o₀ o' W∧((∃ ys,ys = L∧J ys o' W')∨(∃ pre,pre <+: L∧Jx pre o' W')) := by
 obtain ⟨q,cap,rfl,hRd⟩ := hR
 have HR1 := Lib.hid hRd
 have c0 := bg.one
 obtain ⟨M,hM⟩:∃ M,L.length = M := ⟨_,rfl⟩
 have HM := Lib.hid hM
 have HTK:Hid (L.take M = L) := by unfold Hid;rw [←hM,List.take_length]
 have HNX:Hid (∀ j (hj:j < L.length),L.take (j+1) = L.take j ++ [L[j]]) := fun j hj=>List.take_succ_eq_append_getElem hj
 rw [hM] at hLn c0
 rw [hM] at bg
 clear hRd hM
 refine callsIn_of_wp_marks Tryz.func104 rfl trivial ?_ rfl
 simp only [Tryz.ntmps104,List.size_toArray,List.length_cons,List.length_nil,Nat.reduceAdd,Nat.reduceSub,Array.replicate_succ,Array.replicate_zero,List.push_toArray,List.append_toArray,List.nil_append,List.cons_append]
 gi_wp2_with fail
 gi_loopw [7] (fun i wr=>∃ j:Nat,j≤M∧i = .int .i64 j∧Hid (∃ o,J (L.take j) o wr∧FreshO o₀ o W)∧Keep 0 N W wr) (fun i _=>M - (intOf i).toNat)
 case atStart=>exact ⟨0,by omega,rfl,Lib.hid ⟨o₀,h0,.inl rfl⟩,Keep.refl _ _ _⟩
 case round =>
  obtain ⟨j,hj,rfl,HJ,hK⟩ := hrel
  obtain ⟨o,hjj,hfo⟩ := HJ.out
  have HJ2 := Lib.hid hjj
  have hKs := hK.1
  by_cases hlt:j < M
  · have hdec:decide ((j:Int) < (M:Int)) = true := by simp;omega
    have hjs:j < L.length := by rw [HM.out];exact hlt
    obtain ⟨b,rfl,hb,x0,x1⟩ := HR1.out j hjs
    have hmem:L[j]∈L := List.getElem_mem hjs
    have hnx := HNX.out j hjs
    have kx:∀ a:Addr,a.block < N→wr.cell? a = W.cell? a := fun a ha=>World.cell?_of_block (hK.2 a.block (Nat.zero_le _) (by omega))
    replace x0 := (kx ⟨b,j * 2,none⟩ hb).trans x0
    replace x1 := (kx ⟨b,j * 2+1,none⟩ hb).trans x1
    clear kx
    generalize L[j] = z at *
    obtain ⟨zx,zy⟩ := z
    have hlay := below_one wr (.cells #[.int .i64 zx,.int .i64 zy] 57)
    have bz := Blk.new wr 57 #[.int .i64 zx,.int .i64 zy]
    have q0 := bz.cell 0;have q1 := bz.cell 1;simp only [gz9] at q0 q1
    have hj3 := hJ.below hjj hlay
    have hlen5:(L.take j).length < 1000 := by rw [List.length_take];omega
    have HY := hY _ (zx,zy) o _ hj3 hmem hlen5 (by have := hlay.size;omega)
    unfold encA at HY
    have HNXJ := Lib.hid hnx
    have HPX:Hid (L.take (j+1) <+: L) := List.take_prefix _ _
    have i1:(0:Int)≤(j:Int) := by omega
    have i2:(j:Int) < (M:Int) := by omega
    have hKl:Keep 0 N W (wr.alloc (.cells #[.int .i64 zx,.int .i64 zy] 57)) := hK.trans (Keep.below hlay (by omega))
    clear hnx hlen5 hmem HJ2
    obtain ⟨fn,tmps,asg,bdy,hy,hRr⟩ := HY
    gi_wp2_with fail
    refine ⟨fun _=>by omega,hRr.mono ?_⟩
    rintro e W3 ⟨o',hf3,hS3,(⟨rfl,hJ3,hk3⟩ | ⟨rfl,hJx3,hk3⟩)⟩
    all_goals have hfo':FreshO o₀ o' W := hfo.trans (by have := hlay.size;omega) hf3
    · have hKw := hKl.trans hk3
      gi_wp2
      go_roundw
      case rel=>exact ⟨j+1,by omega,by go_num,Lib.hid ⟨o',by rw [HNXJ.out];exact hJ3,hfo'⟩,hKw⟩
      case measure=>simp [intOf];omega
    · gi_wp2
      exact ⟨_,results_none rfl _ _ _,⟨_,rfl⟩,o',hfo',.inr ⟨L.take (j+1),HPX.out,by rw [HNXJ.out];exact hJx3⟩⟩
  · obtain rfl:j = M := by omega
    have hdec:decide ((j:Int) < (j:Int)) = false := by simp
    have HJE:Hid (J L o wr) := by have h := HJ2.out;rw [HTK.out] at h;exact h
    gi_wp2
    exact ⟨_,results_none rfl _ _ _,⟨_,rfl⟩,o,hfo,.inl ⟨_,rfl,HJE.out⟩⟩
theorem enter_values1:∀ args W,(callFunc 104 args).run Tryz.prog W = .ok (.enter 104 args) W := enters_of Tryz.func104 (by kernel_rfl) rfl
theorem values_any (A:Option Addr) (n cap:Nat) (w:World) :
 Calls Tryz.prog 64 #[.slice A n cap] w fun e w'=>e = .returned (.func (.func 104) #[] #[.pointer (some ⟨w.heap.size,0,none⟩)])∧Blk w' w.heap.size 51 #[.slice A n cap]∧Below w.heap.size w w' := by
 have hmf:∀ (fn:Fn) (first cap:Array Value) (w:World),(Instr.makeFunc fn first cap).run Tryz.prog w = .ok (.func fn first cap) w := fun _ _ _ _=>rfl
 have b0 := Blk.new w 51 #[.slice A n cap]
 have hB := below_one w (.cells #[.slice A n cap] 51)
 go_enter Tryz.func64,Tryz.ntmps64
 go_wp2
 go_ret
 exact ⟨rfl,b0,hB⟩
end Go.Proofs.YtmhgjkechbjemaaGreatDoor.R

namespace Go.Proofs.YtmhgjkechbjemaaGreatDoor.Cd
open Go.RowKit Go.Shelf Go.Maps Go.Proofs.YtmhgjkechbjemaaGreatDoor.C Go.Proofs.YtmhgjkechbjemaaGreatDoor.E Go.Proofs.YtmhgjkechbjemaaGreatDoor.Q
attribute [local go_sem] Oper.semAt_some

def seekD:DataW Unit := (((DataW.map []).put (.int .i64 1) (.lit (.int .i64 144))).put (.int .i64 2) (.lit (.int .i64 145))).put (.int .i64 3) (.lit (.int .i64 144))
def Seeks (W:World) (b:Nat):Prop := W.ownsMap Tryz.prog 22 readF b 3 seekD
theorem Seeks.look {W:World} {b:Nat} (h:Seeks W b) (r:Int) (g:Nat) (hr:(Lit.int .i64 r).wf = true) (hg:g≠0) (hat:seekD.atKey (.int .i64 r) (.lit (.int .i64 0)) = .lit (.int .i64 (g:Int))) :
 (Instr.lookup 138 (.map (some b)) (.int .i64 r) false).run Tryz.prog W = .ok (.func (.func g) #[] #[]) W := by
 obtain ⟨v,ps,hrun,hv⟩ := World.ownsMap.lookup h (int_keyed Tryz.underlying22) Tryz.underlying138 (Tryz.zeroValue137 W) (zd := .lit (.int .i64 0)) (zp := []) rfl (keyOf_int_mk Tryz.underlying22 hr)
 rw [hat] at hv
 rw [hrun,readF_func hv hg]
end Go.Proofs.YtmhgjkechbjemaaGreatDoor.Cd

namespace Go.Proofs.YtmhgjkechbjemaaGreatDoor.Cd
open Go.RowKit Go.Shelf Go.Maps Go.Proofs.YtmhgjkechbjemaaGreatDoor.C Go.Proofs.YtmhgjkechbjemaaGreatDoor.E Go.Proofs.YtmhgjkechbjemaaGreatDoor.Q

def partB (b:List UInt8) (n m r:Nat):List UInt8 := (List.range n).map fun i=>if i < r then at_ b (m * n+i) else 0
theorem partB_len (b:List UInt8) (n m r:Nat):(partB b n m r).length = n := by unfold partB;rw [List.length_map,List.length_range]
theorem moreQ {α:Type} {r:Rep α} {t:TypeId} {d:α} {Q Q':Nat→Prop} {W:World} {base:Nat} {v:Value} {xs:List α} (h:RowG r t d Q W base v xs) (hQ:∀ b,Q b→Q' b):RowG r t d Q' W base v xs := by
 obtain ⟨us,ho,hn,hr⟩ := h
 exact ⟨us,ho,hn,fun j u hu=>r.imp (hr j u hu) fun b hb=>⟨hb.1,hb.2.1,hQ b hb.2.2⟩⟩
theorem row_P {W:World} {g n:Nat} {l:List UInt8} {P:Nat→Prop} (hR:Row W g l) (hn:l.length = n) (hP:P g):BytesP P W (.slice (some ⟨g,0,none⟩) n n) l := by
 subst hn
 exact ⟨_,_,rfl,Nat.le_refl _,fun _=>⟨g,0,rfl,hP,fun j hj=>by rw [Nat.zero_add];exact hR.cell hj⟩⟩
theorem partB_get (b:List UInt8) (n m r i:Nat) (h:i < (partB b n m r).length):(partB b n m r)[i] = if i < r then at_ b (m * n+i) else 0 := by simp only [partB,List.getElem_map,List.getElem_range]
theorem cellB_get (b:List UInt8) (n m i:Nat) (h:i < (cellB b n m).length):(cellB b n m)[i] = at_ b (m * n+i) := by simp only [cellB,List.getElem_map,List.getElem_range]
theorem partB_zero (b:List UInt8) (n m:Nat):partB b n m 0 = List.replicate n 0 := by
 refine List.ext_getElem (by rw [partB_len,List.length_replicate]) fun i h1 h2=>?_
 rw [partB_get,List.getElem_replicate,if_neg (Nat.not_lt_zero _)]
theorem partB_next (b:List UInt8) (n m r:Nat) (hr:r < n):partB b n m (r+1) = (partB b n m r).set r (at_ b (m * n+r)) := by
 refine List.ext_getElem (by rw [List.length_set,partB_len,partB_len]) fun i h1 h2=>?_
 rw [List.getElem_set,partB_get]
 by_cases e:r = i
 · subst e;rw [if_pos (Nat.lt_succ_self _),if_pos rfl]
 · rw [if_neg e,partB_get]
   by_cases h:i < r
   · rw [if_pos h,if_pos (by omega)]
   · rw [if_neg h,if_neg (by omega)]
theorem partB_end (b:List UInt8) (n m r:Nat) (h:r = n∨b.length≤m * n+r):partB b n m r = cellB b n m := by
 refine List.ext_getElem (by rw [partB_len,cellB_len]) fun i h1 h2=>?_
 rw [partB_len] at h1
 rw [partB_get,cellB_get]
 by_cases hi:i < r
 · rw [if_pos hi]
 · rw [if_neg hi]
   unfold at_
   rw [List.getElem?_eq_none (by omega)]
   rfl
theorem refColumns_no {B:Nat} (k p:Int) (v:Value) (b:List UInt8) (n:Int) (hno:¬ FillOk k p b n) (w:World) (hb:Bytes B w v b) (hlen:b.length≤1000) :
 Calls Tryz.prog 23 #[.agg #[.int .i64 k,.int .i64 p],v,.int .i64 n] w fun e w'=>e = .returned (.tuple #[.slice none 0 0,.bool false])∧Below w.heap.size w w' := by
 obtain ⟨A,cap,rfl,_,_⟩ := id hb
 have b0 := Blk.new w 24 #[.int .i64 k,.int .i64 p]
 have hBW := below_one w (.cells #[.int .i64 k,.int .i64 p] 24)
 obtain ⟨w2,hw2⟩:∃ w2,w.alloc (.cells #[.int .i64 k,.int .i64 p] 24) = w2 := ⟨_,rfl⟩
 rw [hw2] at b0 hBW
 have c0 := b0.cell 0
 have c1 := b0.cell 1
 simp only [gz9] at c0 c1
 have HRT := Lib.hid (refRight_any k p w2)
 by_cases hR:RightC k p
 case neg =>
  clear hb hno hlen
  generalize b.length = M at *
  go_enter Tryz.func23,Tryz.ntmps23
  go_wp2_with (go_at_call 17;refine HRT.out.mono ?_;rintro e w3 ⟨h1,h2,hB3⟩;obtain rfl := h2 hR)
  go_ret2
  exact ⟨rfl,below_in hBW hB3⟩
 by_cases h1:n < 1
 case pos =>
  have d1:decide (n < 1) = true := decide_eq_true h1
  clear hb hno hlen
  generalize b.length = M at *
  go_enter Tryz.func23,Tryz.ntmps23
  go_wp2_with (go_at_call 17;refine HRT.out.mono ?_;rintro e w3 ⟨h1,h2,hB3⟩;obtain rfl := h1 hR)
  go_ret2
  exact ⟨rfl,below_in hBW hB3⟩
 have d1:decide (n < 1) = false := decide_eq_false h1
 by_cases h2:64 < n
 case pos =>
  have d2:decide (64 < n) = true := decide_eq_true h2
  clear hb hno hlen
  generalize b.length = M at *
  go_enter Tryz.func23,Tryz.ntmps23
  go_wp2_with (go_at_call 17;refine HRT.out.mono ?_;rintro e w3 ⟨h1,h2,hB3⟩;obtain rfl := h1 hR)
  go_ret2
  exact ⟨rfl,below_in hBW hB3⟩
 have d2:decide (64 < n) = false := decide_eq_false h2
 have HDA := Lib.hid (fun (U:World)=>refData_any k p hR U)
 have HRO := Lib.hid (fun (U:World)=>refRows_any k p hR U)
 have hmn := many_nat hR
 have hdn := datN_eq hR
 have hpp := prm_bounds hR.2
 obtain ⟨R,hRR⟩:∃ R:Nat,p - 1 = (R:Int) := ⟨(p - 1).toNat,by omega⟩
 have hRt:(p - 1).toNat = R := by omega
 rw [hRt] at hmn
 have h3:¬ (b.length:Int)≤(p - shortN k) * (p - 1) * n := fun h=>hno ⟨hR,by omega,h⟩
 rw [hmn.1] at h3
 rw [hdn.1] at HDA
 rw [hRR] at HRO
 generalize datN k p = d at *
 obtain ⟨N,hN⟩:∃ N,d * R = N := ⟨_,rfl⟩
 rw [hN] at hmn h3
 have hmul:IntKind.i64.wrap ((d:Int) * (R:Int)) = (N:Int) := by rw [show (d:Int) * (R:Int) = (N:Int) by rw [←hN];push_cast;rfl];exact IntWalk.i64_in _ (by omega)
 obtain ⟨nn,rfl⟩:∃ nn:Nat,n = (nn:Int) := ⟨n.toNat,by omega⟩
 obtain ⟨Q,hQ⟩:∃ Q,N * nn = Q := ⟨_,rfl⟩
 have hQb:Q≤272 * 64 := by rw [←hQ];exact Nat.mul_le_mul (by omega) (by omega)
 have hmul2:IntKind.i64.wrap ((N:Int) * (nn:Int)) = (Q:Int) := by rw [show (N:Int) * (nn:Int) = (Q:Int) by rw [←hQ];push_cast;rfl];exact IntWalk.i64_in _ (by omega)
 have h4:¬ (b.length:Int)≤(Q:Int) := fun h=>h3 (by rw [show (N:Int) * (nn:Int) = (Q:Int) by rw [←hQ];push_cast;rfl];exact h)
 have d3:decide ((Q:Int) < (b.length:Int)) = true := decide_eq_true (by omega)
 clear hb hno h3 h1 h2 hN hQ hRt hRR hdn
 generalize b.length = M at *
 go_enter Tryz.func23,Tryz.ntmps23
 go_wp2_with (go_at_call 17;refine HRT.out.mono ?_;rintro e w3 ⟨h1,h2,hB3⟩;obtain rfl := h1 hR)
 have b3 := b0.below hB3 b0.lt
 have HSS := Lib.hid (fun (V:World) (hV:Below w3.heap.size w3 V)=>(⟨(b3.below hV b3.lt).cell 0,(b3.below hV b3.lt).cell 1⟩:(fun U:World=>U.cell? ⟨w.heap.size,0,none⟩ = some (.int .i64 k)∧U.cell? ⟨w.heap.size,1,none⟩ = some (.int .i64 p)) V))
 have hBx:Below w3.heap.size w3 w3.drew := (Below.refl _ _).drew
 have hS := HSS.out _ hBx
 refine (wpIn_wide (n := 12)).1 (wpIn_mono (region_HF (Q := NoPanic _) (S := (fun U:World=>U.cell? ⟨w.heap.size,0,none⟩ = some (.int .i64 k)∧U.cell? ⟨w.heap.size,1,none⟩ = some (.int .i64 p))) (by kernel_rfl) ?_) NoPanic.imp)
 refine tkF (i := 0) (d := 25) (v := .agg #[.int .i64 k,.int .i64 p]) (s := hS) (c := ?_)
 simp only [ud9]
 refine tkF (i := 2) (d := 27) (v := .agg #[.int .i64 k,.int .i64 p]) (s := hS) (c := ?_)
 simp only [ud9]
 refine oneF (i := 1) (c := ?_)
 gi_wp2_with fail
 refine ⟨trivial,(callsIn_wide.2 (HDA.out _)).mono ?_⟩
 rintro e wn ⟨rfl,hB1⟩
 replace hBx := below_in hBx hB1
 clear hS
 have hS := HSS.out _ hBx
 gi_wp2
 try (refine ⟨hS,?_⟩)
 refine oneF (i := 3) (c := ?_)
 gi_wp2_with fail
 refine ⟨trivial,(callsIn_wide.2 (HRO.out _)).mono ?_⟩
 rintro e wm ⟨rfl,hB1⟩
 replace hBx := below_in hBx hB1
 clear hS
 have hS := HSS.out _ hBx
 gi_wp2
 try (refine ⟨hS,?_⟩)
 refine tkF (i := 4) (d := 29) (v := .int .i64 (N:Int)) (s := hS) (c := ?_)
 simp only [ud9]
 refine oneF (i := 5) (c := ?_)
 gi_wp2
 refine anyHF_done (by kernel_rfl) ?_ _
 refine NoPanic.normal ?_
 clear hS
 go_wp2
 go_ret2
 exact ⟨rfl,below_in hBW (below_in hB3 hBx)⟩
theorem refColumns_yes {B:Nat} (k p:Int) (v:Value) (b:List UInt8) (n:Nat) (hok:FillOk k p b (n:Int)) (w:World) (hB:B≤w.heap.size) (hb:Bytes B w v b) :
 Calls Tryz.prog 23 #[.agg #[.int .i64 k,.int .i64 p],v,.int .i64 (n:Int)] w fun e w'=>∃ u,e = .returned (.tuple #[u,.bool true])∧Cols w'.heap.size w' u (fillL (datN k p) (p - 1).toNat n b)∧Below w.heap.size w w' := by
 obtain ⟨A,cap,rfl,hcapb,hAb⟩ := id hb
 have hR := hok.1
 have hn := hok.2.1
 have hfit := hok.2.2
 have b0 := Blk.new w 24 #[.int .i64 k,.int .i64 p]
 have hBW := below_one w (.cells #[.int .i64 k,.int .i64 p] 24)
 obtain ⟨w2,hw2⟩:∃ w2,w.alloc (.cells #[.int .i64 k,.int .i64 p] 24) = w2 := ⟨_,rfl⟩
 rw [hw2] at b0 hBW
 have c0 := b0.cell 0
 have c1 := b0.cell 1
 simp only [gz9] at c0 c1
 have HRT := Lib.hid (refRight_any k p w2)
 have d1:decide ((n:Int) < 1) = false := decide_eq_false (by omega)
 have d2:decide (64 < (n:Int)) = false := decide_eq_false (by omega)
 have HDA := Lib.hid (fun (U:World)=>refData_any k p hR U)
 have HRO := Lib.hid (fun (U:World)=>refRows_any k p hR U)
 have hmn := many_nat hR
 have hdn := datN_eq hR
 have hpp := prm_bounds hR.2
 obtain ⟨R,hRR⟩:∃ R:Nat,p - 1 = (R:Int) := ⟨(p - 1).toNat,by omega⟩
 have hRt:(p - 1).toNat = R := by omega
 rw [hRt] at hmn ⊢
 rw [hmn.1] at hfit
 rw [hdn.1] at HDA
 rw [hRR] at HRO
 have hd2 := hdn.2
 have HPN := Lib.hid (fun (m:Nat)=>part_next (d := datN k p) (len := n) (b := b) (n := m) (by omega))
 generalize datN k p = d at *
 obtain ⟨N,hN⟩:∃ N,d * R = N := ⟨_,rfl⟩
 have HLS:Hid (partL d n b N = fillL d R n b) := by unfold Hid;rw [←hN];exact part_all
 rw [hN] at hmn hfit
 have hN1:1≤N := by rw [←hN];exact Nat.mul_pos (by omega) (by omega)
 have hmul:IntKind.i64.wrap ((d:Int) * (R:Int)) = (N:Int) := by rw [show (d:Int) * (R:Int) = (N:Int) by rw [←hN];push_cast;rfl];exact IntWalk.i64_in _ (by omega)
 obtain ⟨Q,hQ⟩:∃ Q,N * n = Q := ⟨_,rfl⟩
 have hQb:Q≤272 * 64 := by rw [←hQ];exact Nat.mul_le_mul (by omega) (by omega)
 have hmul2:IntKind.i64.wrap ((N:Int) * (n:Int)) = (Q:Int) := by rw [show (N:Int) * (n:Int) = (Q:Int) by rw [←hQ];push_cast;rfl];exact IntWalk.i64_in _ (by omega)
 have h4:(b.length:Int)≤(Q:Int) := by rw [show (Q:Int) = (N:Int) * (n:Int) by rw [←hQ];push_cast;rfl];exact hfit
 have d3:decide ((Q:Int) < (b.length:Int)) = false := decide_eq_false (by omega)
 have HBB := Lib.hid hb
 have HQQ := Lib.hid hQ
 obtain ⟨M,hM⟩:∃ M,b.length = M := ⟨_,rfl⟩
 have HM := Lib.hid hM
 rw [hM] at h4 d3 HBB hcapb hAb ⊢
 have hMb:M≤272 * 64 := by omega
 have hQM:¬ Q < M := by omega
 obtain ⟨i0,hi,hz0,hz1,hz2⟩ := info_parts Tryz.infoCol
 obtain ⟨i9,hi9,hy0,hy1,hy2⟩ := info_parts Tryz.infoByte
 have hmake := fun W:World=>run_make (P := Tryz.prog) W 25 62 i0 (.slice none 0 0) Tryz.underlying25 hi hz0 .i64 .i64 (d:Int) (d:Int) (by omega) (by omega) (by rw [hz2];omega) (by omega)
 simp only [hz1,Int.toNat_natCast,Nat.mul_one,show (Value.slice none 0 0).cells = #[Value.slice none 0 0] from rfl] at hmake
 have hmkb := fun W:World=>run_make (P := Tryz.prog) W 32 5 i9 (.int .u8 0) Tryz.underlying32 hi9 hy0 .i64 .i64 (n:Int) (n:Int) (by omega) (by omega) (by rw [hy2];omega) (by omega)
 simp only [hy1,Nat.mul_one,Int.toNat_natCast] at hmkb
 have HMKB := Lib.hid hmkb
 clear hb hok hfit hN hQ hRt hRR hdn hM hi hz0 hz1 hz2 hi9 hy0 hy1 hy2 hmkb h4
 go_enter Tryz.func23,Tryz.ntmps23
 go_wp2_with (go_at_call 17;refine HRT.out.mono ?_;rintro e w3 ⟨h1,h2,hB3⟩;obtain rfl := h1 hR)
 have b3 := b0.below hB3 b0.lt
 have HSS := Lib.hid (fun (V:World) (hV:Below w3.heap.size w3 V)=>(⟨(b3.below hV b3.lt).cell 0,(b3.below hV b3.lt).cell 1⟩:(fun U:World=>U.cell? ⟨w.heap.size,0,none⟩ = some (.int .i64 k)∧U.cell? ⟨w.heap.size,1,none⟩ = some (.int .i64 p)) V))
 have hBx:Below w3.heap.size w3 w3.drew := (Below.refl _ _).drew
 have hS := HSS.out _ hBx
 clear c0 c1 hmul2
 refine (wpIn_wide (n := 12)).1 (wpIn_mono (region_HF (Q := NoPanic _) (S := (fun U:World=>U.cell? ⟨w.heap.size,0,none⟩ = some (.int .i64 k)∧U.cell? ⟨w.heap.size,1,none⟩ = some (.int .i64 p))) (by kernel_rfl) ?_) NoPanic.imp)
 refine tkF (i := 0) (d := 25) (v := .agg #[.int .i64 k,.int .i64 p]) (s := hS) (c := ?_)
 simp only [ud9]
 refine tkF (i := 2) (d := 27) (v := .agg #[.int .i64 k,.int .i64 p]) (s := hS) (c := ?_)
 simp only [ud9]
 refine oneF (i := 1) (c := ?_)
 gi_wp2_with fail
 refine ⟨trivial,(callsIn_wide.2 (HDA.out _)).mono ?_⟩
 rintro e wn ⟨rfl,hB1⟩
 replace hBx := below_in hBx hB1
 clear hS
 have hS := HSS.out _ hBx
 gi_wp2
 try (refine ⟨hS,?_⟩)
 refine oneF (i := 3) (c := ?_)
 gi_wp2_with fail
 refine ⟨trivial,(callsIn_wide.2 (HRO.out _)).mono ?_⟩
 rintro e wm ⟨rfl,hB1⟩
 replace hBx := below_in hBx hB1
 clear hS
 have hS := HSS.out _ hBx
 gi_wp2
 try (refine ⟨hS,?_⟩)
 refine tkF (i := 4) (d := 29) (v := .int .i64 (N:Int)) (s := hS) (c := ?_)
 simp only [ud9]
 refine oneF (i := 5) (c := ?_)
 gi_wp2
 refine anyHF_done (by kernel_rfl) ?_ _
 refine NoPanic.normal ?_
 clear hS
 have bm := b3.below hBx b3.lt
 have c0 := bm.cell 0
 have c1 := bm.cell 1
 simp only [gz9] at c0 c1
 have hmul2:IntKind.i64.wrap ((N:Int) * (n:Int)) = (Q:Int) := by rw [show (N:Int) * (n:Int) = (Q:Int) by rw [←HQQ.out];push_cast;rfl];exact IntWalk.i64_in _ (by omega)
 have hBm := below_in hBW (below_in hB3 hBx)
 go_wp2_with (go_at_call 18;refine (HDA.out _).mono ?_;rintro e w4 ⟨rfl,hB4⟩)
 have hB04 := below_in hBm hB4
 have bz := bm.below hB4 bm.lt
 have hBA := below_one w4 (.cells (madeCells #[.slice none 0 0] d) 62)
 have bA := Blk.new w4 62 (madeCells #[.slice none 0 0] d)
 have hbz:(madeCells #[.slice none 0 0] d).size = d := size_madeCells _ _
 have hat0:∀ c,c < d→(madeCells #[.slice none 0 0] d)[c]? = some (.slice none 0 0) := fun c hc=>by
  rw [←Array.getElem?_toList,toList_madeCells_one,List.getElem?_replicate,if_pos hc]
 obtain ⟨wA,hwA⟩:∃ wA,w4.alloc (.cells (madeCells #[.slice none 0 0] d) 62) = wA := ⟨_,rfl⟩
 rw [hwA] at hBA bA
 simp only [hwA]
 generalize madeCells #[.slice none 0 0] d = csA at *
 obtain ⟨gd,hgd⟩:∃ gd,w4.heap.size = gd := ⟨_,rfl⟩
 rw [hgd] at bA
 have HG1:Hid (w.heap.size < gd∧w2.heap.size≤gd) := by have h1 := (below_in hB3 (below_in hBx hB4)).size;have h2 := b0.lt;unfold Hid;omega
 have HBA:Hid (Below w2.heap.size w2 wA) := below_in (below_in hB3 (below_in hBx hB4)) hBA
 simp only [hgd]
 clear hgd
 have HA0 := Lib.hid hat0
 clear hat0 hmake hwA HSS HRT HRO c0 c1 hmul hmul2 d3 bm
 go_wp2_with fail
 go_loopw [10] (fun i wr=>∃ (m:Nat) (cs:Array Value) (Qs:Nat→Prop),m≤N∧i = .int .i64 m∧Blk wr gd 62 cs∧cs.size = d ∧
  Hid (∀ c,c < d→∃ vc,cs[c]? = some vc∧RowM Qs wr (gd+1) vc ((partL d n b m)[c]?.getD [])) ∧
  Hid (∀ (c c':Nat) (x y:Value),c≠c'→cs[c]? = some x→cs[c']? = some y→x.ownBlock = none∨x.ownBlock≠y.ownBlock)∧Hid (∀ (c:Nat) (x:Value) (q:Nat),cs[c]? = some x→x.ownBlock = some q→¬ Qs q)∧Hid (∀ q,Qs q→gd < q∧q < wr.heap.size)∧Hid (Below w2.heap.size w2 wr)) (fun i _=>N - (intOf i).toNat)
 case atStart =>
  refine ⟨0,csA,fun _=>False,by omega,rfl,bA,hbz,Lib.hid fun c hc=>⟨_,HA0.out c hc,?_⟩,Lib.hid fun c c' x y _ h1 h2=>?_,Lib.hid fun _ _ _ _ _ h=>h,Lib.hid fun _ h=>h.elim,HBA⟩
  · rw [part_zero,List.getElem?_replicate,if_pos hc]
    exact RowG.nil _ _ _ _ _ _
  · left
    have hc:c < d := by
     rcases Nat.lt_or_ge c d with h | h
     · exact h
     · rw [Array.getElem?_eq_none (by omega)] at h1;cases h1
    rw [HA0.out c hc] at h1
    injection h1 with h1
    rw [←h1]
    rfl
 case round =>
  obtain ⟨m,cs,Qs,hm,rfl,bA,hbz,HROW,HSEP,HNQ,HQB,HBR⟩ := hrel
  clear hBA HA0 HBA
  by_cases hlt:m < N
  · have hdec:decide ((m:Int) < (N:Int)) = true := by simp;omega
    obtain ⟨mn,hmn2⟩:∃ mn,m * n = mn := ⟨_,rfl⟩
    have HMN := Lib.hid hmn2
    have hmnb:mn≤272 * 64 := by rw [←hmn2];exact Nat.mul_le_mul (by omega) (by omega)
    have hmulm:IntKind.i64.wrap ((m:Int) * (n:Int)) = (mn:Int) := by rw [show (m:Int) * (n:Int) = (mn:Int) by rw [←hmn2];push_cast;rfl];exact IntWalk.i64_in _ (by omega)
    have hcbl := Lib.hid (fun r h=>partB_end b n m r h)
    have HPZ := Lib.hid (partB_zero b n m)
    have HPX := Lib.hid (fun r h=>partB_next b n m r h)
    have HPL := Lib.hid (fun r=>partB_len b n m r)
    have HCL:Hid ((cellB b n m).length = n) := cellB_len ..
    rw [hmn2] at hcbl HPX
    have HPN2 := Lib.hid (HPN.out m)
    have hmod:m % d < d := Nat.mod_lt _ (by omega)
    have hme:(m:Int) % (d:Int) = ((m % d:Nat):Int) := by push_cast;rfl
    have hme2:(m:Int).tmod (d:Int) = ((m % d:Nat):Int) := by rw [Int.tmod_eq_emod_of_nonneg (by omega)];push_cast;rfl
    obtain ⟨vc,hvc,hrowc⟩ := HROW.out (m % d) hmod
    obtain ⟨A0,n0,cc0,rfl⟩ := T.RowG.form hrowc
    have HPS:Hid ((partL d n b m).length = d) := partL_len d n b m
    have HPB:Hid (((partL d n b m)[m % d]?.getD []).length≤1000) := by
     unfold Hid
     rw [part_at hmod,List.length_map,List.length_range]
     exact Nat.le_trans (Nat.div_le_self _ _) (by omega)
    have HRC := Lib.hid hrowc
    clear hrowc hmn2
    generalize cellB b n m = ce at *
    generalize (m % d:Nat) = col at *
    generalize (partL d n b m)[col]?.getD [] = old at *
    have hmkb := HMKB.out
    have hRm := Row.made wr n
    have hBm1 := below_one wr (.cells (madeCells #[.int .u8 0] n) 5)
    obtain ⟨wm1,hwm1⟩:∃ wm1,wr.alloc (.cells (madeCells #[.int .u8 0] n) 5) = wm1 := ⟨_,rfl⟩
    rw [hwm1] at hRm hBm1
    obtain ⟨gc,hgc⟩:∃ gc,wr.heap.size = gc := ⟨_,rfl⟩
    have hsm1:wm1.heap.size = gc+1 := by rw [←hwm1,←hgc];simp
    rw [hgc] at hRm
    have HGC := Lib.hid hgc
    have HWM := Lib.hid hwm1
    obtain ⟨wq,hwq⟩:∃ x,x = wr := ⟨_,rfl⟩
    subst hwq
    go_wp2_with fail
    try simp only [hgc,hwm1]
    clear hgc hwm1
    go_wp2_with fail
    go_loopw [12] (fun i wr=>∃ r:Nat,r≤n∧i = .int .i64 r∧Row wr gc (partB b n m r)∧wr.heap.size = gc+1∧Hid (Below wq.heap.size wq wr)) (fun i _=>n - (intOf i).toNat)
    case atStart=>exact ⟨0,by omega,rfl,by rw [HPZ.out];exact hRm,hsm1,Lib.hid hBm1⟩
    case round =>
     obtain ⟨r,hr,rfl,hRr,hsr,HBQ⟩ := hrel
     have hBqr := HBQ.out
     have b0r := (b0.below HBR.out b0.lt).below hBqr (b0.below HBR.out b0.lt).lt
     have c0 := b0r.cell 0
     have c1 := b0r.cell 1
     simp only [gz9] at c0 c1
     have bAr := bA.below hBqr bA.lt
     have hgdq:gd < gc := by have := bA.lt;have := HGC.out;omega
     by_cases hrn:r < n
     · have hd1:decide ((r:Int) < (n:Int)) = true := by simp;omega
       obtain ⟨q,hq⟩:∃ q,mn+r = q := ⟨_,rfl⟩
       have hadd:IntKind.i64.wrap ((mn:Int)+(r:Int)) = (q:Int) := by rw [show (mn:Int)+(r:Int) = (q:Int) by rw [←hq];push_cast;rfl];exact IntWalk.i64_in _ (by omega)
       have HQE := Lib.hid hq
       clear hq
       by_cases hrm:q < M
       · have hd2:decide ((q:Int) < (M:Int)) = true := by simp;omega
         obtain ⟨ba,bo,hAe,hba,hcs⟩ := hAb (by omega)
         have hWr:Below w.heap.size w wr := below_in hBW (below_in HBR.out hBqr)
         have hcq := (hWr.cell (p := ⟨ba,bo+q,none⟩) (Nat.lt_of_lt_of_le hba hB)).trans (hcs q hrm)
         subst hAe
         have hgr := hRr.cell (k := r) (by rw [HPL.out];exact hrn)
         have hfr := hRr.frozen r
         have i1:(0:Int)≤(q:Int) := by omega
         have i2:(q:Int) < (M:Int) := by omega
         have i3:(0:Int)≤(r:Int) := by omega
         have i4:(r:Int) < (n:Int) := by omega
         have HNXT:Hid (Row (wr.setCell ⟨gc,r,none⟩ (.int .u8 ((at_ b q).toNat:Int))) gc (partB b n m (r+1))) := by
          unfold Hid
          rw [HPX.out r hrn,HQE.out]
          exact hRr.set_ r _
         have HBN:Hid (∀ u,Below wq.heap.size wq (wr.setCell ⟨gc,r,none⟩ u)) := fun u=>hBqr.setCell (by show wq.heap.size≤gc;rw [HGC.out];exact Nat.le_refl _) u
         clear hRr HBQ hBqr b0r bAr HROW HSEP HRC hcs hAb
         go_wp2_with fail
         go_roundw
         case rel=>exact ⟨r+1,hrn,by go_num,HNXT.out,by simpa using hsr,Lib.hid (HBN.out _)⟩
         case measure=>simp [intOf];omega
       · have hd2:decide ((q:Int) < (M:Int)) = false := by simp;omega
         have hend := hcbl.out r (.inr (by rw [HM.out,HQE.out];omega))
         rw [hend] at hRr
         have hmodd:col < d := hmod
         have j1:(0:Int)≤(col:Int) := by omega
         have j2:(col:Int) < (d:Int) := by omega
         have hRC1 := RowG.below HRC.out hBqr
         have hown:∀ q,(Value.slice A0 n0 cc0).ownBlock = some q→gd+1≤q∧q < gc := fun q e=>⟨RowG.own_le HRC.out q e,by have := RowG.own_lt HRC.out q e;have := HGC.out;omega⟩
         have HWQ:Hid (wq.heap.size = gc) := HGC.out
         clear hend c0 c1
         have c0 := b0r.cell 0
         have c1 := b0r.cell 1
         simp only [gz9] at c0 c1
         go_wp2_with (first
          | (go_at_call 18;refine (HDA.out _).mono ?_;rintro e w5 ⟨rfl,hB5⟩;have bA5 := bAr.below hB5 bAr.lt;have hcg := bA5.cell col;rw [hvc] at hcg;have hRC5 := RowG.below hRC1 hB5;have hRr5:Row w5 gc ce := Blk.below hRr hB5 (Blk.lt hRr);have hBal := below_one w5 (.cells #[.slice (some ⟨gc,0,none⟩) n n] 32);have bE := Blk.new w5 32 #[.slice (some ⟨gc,0,none⟩) n n];have bA6 := bA5.alloc (.cells #[.slice (some ⟨gc,0,none⟩) n n] 32);have hRC6 := Lib.hid (moreQ (Q' := fun q=>Qs q∨q = gc) (RowG.below hRC5 hBal) (fun q hq=>.inl hq));have hRr6:Row _ gc ce := Blk.below hRr5 hBal (Blk.lt hRr5);have hPc := row_P hRr6 HCL.out (P := fun b=>b < (w5.alloc (.cells #[.slice (some ⟨gc,0,none⟩) n n] 32)).heap.size∧some b≠(Value.slice A0 n0 cc0).ownBlock∧(Qs b∨b = gc)) ⟨Blk.lt hRr6,fun e=>by have := hown gc e.symm;omega,.inr rfl⟩)
          | (at_builtin;refine wpList_pushM _ rfl _ _ rfl Tryz.underlying62 _ rfl hRC6.out w5.heap.size _ _ ce rfl bE hPc (Nat.le_trans HPB.out (by omega)) (by have h1 := bA6.lt;omega) ?_;intro v' w7 hrow7 hgr7 hor7;obtain ⟨A5,n5,cc5,rfl⟩ := T.RowG.form hrow7;have HR7 := Lib.hid hrow7;clear hrow7;have HO7 := Lib.hid hor7;clear hor7;have hne7:some gd≠(Value.slice A0 n0 cc0).ownBlock := (fun e=>by have h6 := hown gd e.symm;omega);have bA7:Blk w7 gd 62 cs := (hgr7.block gd bA6.lt hne7).trans bA6;have hcg7 := bA7.cell col;rw [hvc] at hcg7;have f7 := bA7.frozen col))
         have HST:Hid (∀ V,V = w7.setCell ⟨gd,col,none⟩ (.slice A5 n5 cc5)→Blk V gd 62 (cs.setIfInBounds col (.slice A5 n5 cc5))∧Below w2.heap.size w2 V ∧
          (∀ c,c < d→∃ vc,(cs.setIfInBounds col (.slice A5 n5 cc5))[c]? = some vc∧RowM (fun q=>Qs q∨q = gc) V (gd+1) vc ((partL d n b (m+1))[c]?.getD [])) ∧
          (∀ (c c':Nat) (x y:Value),c≠c'→(cs.setIfInBounds col (.slice A5 n5 cc5))[c]? = some x→(cs.setIfInBounds col (.slice A5 n5 cc5))[c']? = some y→x.ownBlock = none∨x.ownBlock≠y.ownBlock) ∧
          (∀ (c:Nat) (x:Value) (q:Nat),(cs.setIfInBounds col (.slice A5 n5 cc5))[c]? = some x→x.ownBlock = some q→¬ (Qs q∨q = gc))∧(∀ q,(Qs q∨q = gc)→gd < q∧q < V.heap.size)) := fun V hV=>by
          have hcs:col < cs.size := by omega
          have hgV:w7.grownBy V (some gd) := by rw [hV];exact grown_set w7 ⟨gd,col,none⟩ _
          have hB37:Below wq.heap.size wq (w5.alloc (.cells #[.slice (some ⟨gc,0,none⟩) n n] 32)) := below_in hBqr (below_in hB5 hBal)
          have hgdl:gd < wq.heap.size := bA.lt
          have hwqg := HWQ.out
          have hW6:(w5.alloc (.cells #[.slice (some ⟨gc,0,none⟩) n n] 32)).heap.size = w5.heap.size+1 := by simp
          have hs5 := hB5.size
          have hgrs := hgr7.size
          have hVs:V.heap.size = w7.heap.size := by rw [hV];simp
          have hw2g := HG1.out.2
          have hsBR := HBR.out.size
          have hold:∀ c0 x0,c0≠col→(cs.setIfInBounds col (.slice A5 n5 cc5))[c0]? = some x0→cs[c0]? = some x0∧∀ q,x0.ownBlock = some q→q < wq.heap.size := fun c0 x0 hc0 h=>by
           rw [Array.getElem?_setIfInBounds_ne (Ne.symm hc0)] at h
           refine ⟨h,fun q hq=>?_⟩
           have hc0d:c0 < d := by
            rcases Nat.lt_or_ge c0 d with h' | h'
            · exact h'
            · rw [Array.getElem?_eq_none (by omega)] at h;cases h
           obtain ⟨vc,g1,g2⟩ := HROW.out c0 hc0d
           rw [h] at g1
           injection g1 with g1
           subst g1
           exact RowG.own_lt g2 q hq
          have hnew:∀ x0,(cs.setIfInBounds col (.slice A5 n5 cc5))[col]? = some x0→x0 = .slice A5 n5 cc5 := fun x0 h=>by
           rw [Array.getElem?_setIfInBounds_self_of_lt hcs] at h
           injection h with h
           exact h.symm
          refine ⟨by rw [hV];exact bA7.set_ col _,?_,fun c hc=>?_,fun c c' x y hne h1 h2=>?_,fun c x q h1 h2 h3=>?_,fun q hq=>?_⟩
          · rw [hV]
            refine Below.setCell (below_grown (HBR.out.trans (hB37.mono HBR.out.size)) hgr7 (by omega) (fun q e=>by have h6 := hown q e;omega)) (by simpa using hw2g) _
          · rw [HPN2.out,List.getElem?_set]
            by_cases hcc:col = c
            · subst hcc
              rw [if_pos rfl,if_pos (by rw [HPS.out];exact hc)]
              refine ⟨_,Array.getElem?_setIfInBounds_self_of_lt hcs,?_⟩
              refine RowG.kept HR7.out hgV (.inr fun e=>by have h6 := RowG.own_le HR7.out gd e;omega) (fun q hq e=>?_)
              injection e with e
              rcases hq with hq | hq
              · have := (HQB.out q hq).1;omega
              · omega
            · rw [if_neg hcc]
              obtain ⟨vc,g1,g2⟩ := HROW.out c hc
              refine ⟨vc,by rw [Array.getElem?_setIfInBounds_ne hcc];exact g1,?_⟩
              have g3 := RowG.below g2 hB37
              have hsep := HSEP.out c col vc _ (Ne.symm hcc) g1 hvc
              have g4 := RowG.kept g3 hgr7 hsep (fun q hq e=>HNQ.out col _ q hvc e.symm hq)
              refine moreQ (RowG.kept g4 hgV (.inr fun e=>by have h6 := RowG.own_le g4 gd e;omega) (fun q hq e=>?_)) (fun q hq=>.inl hq)
              injection e with e
              have := (HQB.out q hq).1
              omega
          · by_cases e1:c = col
            · subst e1
              have := hnew x h1
              subst this
              obtain ⟨k1,k2⟩ := hold c' y (Ne.symm hne) h2
              rcases HO7.out with e | e
              · rw [e]
                exact HSEP.out c c' _ y hne hvc k1
              · right
                rw [e]
                intro e2
                have := k2 _ e2.symm
                omega
            · obtain ⟨k1,k2⟩ := hold c x e1 h1
              by_cases e2:c' = col
              · subst e2
                have := hnew y h2
                subst this
                rcases HO7.out with e | e
                · rw [e]
                  exact HSEP.out c c' x _ hne k1 hvc
                · right
                  rw [e]
                  intro e3
                  have := k2 _ e3
                  omega
              · exact HSEP.out c c' x y hne k1 (hold c' y e2 h2).1
          · by_cases e1:c = col
            · subst e1
              have := hnew x h1
              subst this
              rcases HO7.out with e | e
              · have e5:(Value.slice A0 n0 cc0).ownBlock = some q := e.symm.trans h2
                rcases h3 with h3 | h3
                · exact HNQ.out c _ q hvc e5 h3
                · have := hown q e5;omega
              · have e5 := e.symm.trans h2
                injection e5 with e5
                rcases h3 with h3 | h3
                · have := (HQB.out q h3).2;omega
                · omega
            · obtain ⟨k1,k2⟩ := hold c x e1 h1
              rcases h3 with h3 | h3
              · exact HNQ.out c x q k1 h2 h3
              · have := k2 q h2;omega
          · rcases hq with hq | hq
            · have := HQB.out q hq;omega
            · omega
         go_roundw
         case rel =>
          obtain ⟨g1,g2,g3,g4,g5,g6⟩ := HST.out _ rfl
          exact ⟨m+1,_,_,hlt,by go_num,g1,by simpa using hbz,Lib.hid g3,Lib.hid g4,Lib.hid g5,Lib.hid g6,Lib.hid g2⟩
         case measure=>simp [intOf];omega
     · have hd1:decide ((r:Int) < (n:Int)) = false := by simp;omega
       have hend := hcbl.out r (.inl (by omega))
       rw [hend] at hRr
       have hmodd:col < d := hmod
       have j1:(0:Int)≤(col:Int) := by omega
       have j2:(col:Int) < (d:Int) := by omega
       have hRC1 := RowG.below HRC.out hBqr
       have hown:∀ q,(Value.slice A0 n0 cc0).ownBlock = some q→gd+1≤q∧q < gc := fun q e=>⟨RowG.own_le HRC.out q e,by have := RowG.own_lt HRC.out q e;have := HGC.out;omega⟩
       have HWQ:Hid (wq.heap.size = gc) := HGC.out
       clear hend c0 c1
       have c0 := b0r.cell 0
       have c1 := b0r.cell 1
       simp only [gz9] at c0 c1
       go_wp2_with (first
        | (go_at_call 18;refine (HDA.out _).mono ?_;rintro e w5 ⟨rfl,hB5⟩;have bA5 := bAr.below hB5 bAr.lt;have hcg := bA5.cell col;rw [hvc] at hcg;have hRC5 := RowG.below hRC1 hB5;have hRr5:Row w5 gc ce := Blk.below hRr hB5 (Blk.lt hRr);have hBal := below_one w5 (.cells #[.slice (some ⟨gc,0,none⟩) n n] 32);have bE := Blk.new w5 32 #[.slice (some ⟨gc,0,none⟩) n n];have bA6 := bA5.alloc (.cells #[.slice (some ⟨gc,0,none⟩) n n] 32);have hRC6 := Lib.hid (moreQ (Q' := fun q=>Qs q∨q = gc) (RowG.below hRC5 hBal) (fun q hq=>.inl hq));have hRr6:Row _ gc ce := Blk.below hRr5 hBal (Blk.lt hRr5);have hPc := row_P hRr6 HCL.out (P := fun b=>b < (w5.alloc (.cells #[.slice (some ⟨gc,0,none⟩) n n] 32)).heap.size∧some b≠(Value.slice A0 n0 cc0).ownBlock∧(Qs b∨b = gc)) ⟨Blk.lt hRr6,fun e=>by have := hown gc e.symm;omega,.inr rfl⟩)
        | (at_builtin;refine wpList_pushM _ rfl _ _ rfl Tryz.underlying62 _ rfl hRC6.out w5.heap.size _ _ ce rfl bE hPc (Nat.le_trans HPB.out (by omega)) (by have h1 := bA6.lt;omega) ?_;intro v' w7 hrow7 hgr7 hor7;obtain ⟨A5,n5,cc5,rfl⟩ := T.RowG.form hrow7;have HR7 := Lib.hid hrow7;clear hrow7;have HO7 := Lib.hid hor7;clear hor7;have hne7:some gd≠(Value.slice A0 n0 cc0).ownBlock := (fun e=>by have h6 := hown gd e.symm;omega);have bA7:Blk w7 gd 62 cs := (hgr7.block gd bA6.lt hne7).trans bA6;have hcg7 := bA7.cell col;rw [hvc] at hcg7;have f7 := bA7.frozen col))
       have HST:Hid (∀ V,V = w7.setCell ⟨gd,col,none⟩ (.slice A5 n5 cc5)→Blk V gd 62 (cs.setIfInBounds col (.slice A5 n5 cc5))∧Below w2.heap.size w2 V ∧
        (∀ c,c < d→∃ vc,(cs.setIfInBounds col (.slice A5 n5 cc5))[c]? = some vc∧RowM (fun q=>Qs q∨q = gc) V (gd+1) vc ((partL d n b (m+1))[c]?.getD [])) ∧
        (∀ (c c':Nat) (x y:Value),c≠c'→(cs.setIfInBounds col (.slice A5 n5 cc5))[c]? = some x→(cs.setIfInBounds col (.slice A5 n5 cc5))[c']? = some y→x.ownBlock = none∨x.ownBlock≠y.ownBlock) ∧
        (∀ (c:Nat) (x:Value) (q:Nat),(cs.setIfInBounds col (.slice A5 n5 cc5))[c]? = some x→x.ownBlock = some q→¬ (Qs q∨q = gc))∧(∀ q,(Qs q∨q = gc)→gd < q∧q < V.heap.size)) := fun V hV=>by
        have hcs:col < cs.size := by omega
        have hgV:w7.grownBy V (some gd) := by rw [hV];exact grown_set w7 ⟨gd,col,none⟩ _
        have hB37:Below wq.heap.size wq (w5.alloc (.cells #[.slice (some ⟨gc,0,none⟩) n n] 32)) := below_in hBqr (below_in hB5 hBal)
        have hgdl:gd < wq.heap.size := bA.lt
        have hwqg := HWQ.out
        have hW6:(w5.alloc (.cells #[.slice (some ⟨gc,0,none⟩) n n] 32)).heap.size = w5.heap.size+1 := by simp
        have hs5 := hB5.size
        have hgrs := hgr7.size
        have hVs:V.heap.size = w7.heap.size := by rw [hV];simp
        have hw2g := HG1.out.2
        have hsBR := HBR.out.size
        have hold:∀ c0 x0,c0≠col→(cs.setIfInBounds col (.slice A5 n5 cc5))[c0]? = some x0→cs[c0]? = some x0∧∀ q,x0.ownBlock = some q→q < wq.heap.size := fun c0 x0 hc0 h=>by
         rw [Array.getElem?_setIfInBounds_ne (Ne.symm hc0)] at h
         refine ⟨h,fun q hq=>?_⟩
         have hc0d:c0 < d := by
          rcases Nat.lt_or_ge c0 d with h' | h'
          · exact h'
          · rw [Array.getElem?_eq_none (by omega)] at h;cases h
         obtain ⟨vc,g1,g2⟩ := HROW.out c0 hc0d
         rw [h] at g1
         injection g1 with g1
         subst g1
         exact RowG.own_lt g2 q hq
        have hnew:∀ x0,(cs.setIfInBounds col (.slice A5 n5 cc5))[col]? = some x0→x0 = .slice A5 n5 cc5 := fun x0 h=>by
         rw [Array.getElem?_setIfInBounds_self_of_lt hcs] at h
         injection h with h
         exact h.symm
        refine ⟨by rw [hV];exact bA7.set_ col _,?_,fun c hc=>?_,fun c c' x y hne h1 h2=>?_,fun c x q h1 h2 h3=>?_,fun q hq=>?_⟩
        · rw [hV]
          refine Below.setCell (below_grown (HBR.out.trans (hB37.mono HBR.out.size)) hgr7 (by omega) (fun q e=>by have h6 := hown q e;omega)) (by simpa using hw2g) _
        · rw [HPN2.out,List.getElem?_set]
          by_cases hcc:col = c
          · subst hcc
            rw [if_pos rfl,if_pos (by rw [HPS.out];exact hc)]
            refine ⟨_,Array.getElem?_setIfInBounds_self_of_lt hcs,?_⟩
            refine RowG.kept HR7.out hgV (.inr fun e=>by have h6 := RowG.own_le HR7.out gd e;omega) (fun q hq e=>?_)
            injection e with e
            rcases hq with hq | hq
            · have := (HQB.out q hq).1;omega
            · omega
          · rw [if_neg hcc]
            obtain ⟨vc,g1,g2⟩ := HROW.out c hc
            refine ⟨vc,by rw [Array.getElem?_setIfInBounds_ne hcc];exact g1,?_⟩
            have g3 := RowG.below g2 hB37
            have hsep := HSEP.out c col vc _ (Ne.symm hcc) g1 hvc
            have g4 := RowG.kept g3 hgr7 hsep (fun q hq e=>HNQ.out col _ q hvc e.symm hq)
            refine moreQ (RowG.kept g4 hgV (.inr fun e=>by have h6 := RowG.own_le g4 gd e;omega) (fun q hq e=>?_)) (fun q hq=>.inl hq)
            injection e with e
            have := (HQB.out q hq).1
            omega
        · by_cases e1:c = col
          · subst e1
            have := hnew x h1
            subst this
            obtain ⟨k1,k2⟩ := hold c' y (Ne.symm hne) h2
            rcases HO7.out with e | e
            · rw [e]
              exact HSEP.out c c' _ y hne hvc k1
            · right
              rw [e]
              intro e2
              have := k2 _ e2.symm
              omega
          · obtain ⟨k1,k2⟩ := hold c x e1 h1
            by_cases e2:c' = col
            · subst e2
              have := hnew y h2
              subst this
              rcases HO7.out with e | e
              · rw [e]
                exact HSEP.out c c' x _ hne k1 hvc
              · right
                rw [e]
                intro e3
                have := k2 _ e3
                omega
            · exact HSEP.out c c' x y hne k1 (hold c' y e2 h2).1
        · by_cases e1:c = col
          · subst e1
            have := hnew x h1
            subst this
            rcases HO7.out with e | e
            · have e5:(Value.slice A0 n0 cc0).ownBlock = some q := e.symm.trans h2
              rcases h3 with h3 | h3
              · exact HNQ.out c _ q hvc e5 h3
              · have := hown q e5;omega
            · have e5 := e.symm.trans h2
              injection e5 with e5
              rcases h3 with h3 | h3
              · have := (HQB.out q h3).2;omega
              · omega
          · obtain ⟨k1,k2⟩ := hold c x e1 h1
            rcases h3 with h3 | h3
            · exact HNQ.out c x q k1 h2 h3
            · have := k2 q h2;omega
        · rcases hq with hq | hq
          · have := HQB.out q hq;omega
          · omega
       go_roundw
       case rel =>
        obtain ⟨g1,g2,g3,g4,g5,g6⟩ := HST.out _ rfl
        exact ⟨m+1,_,_,hlt,by go_num,g1,by simpa using hbz,Lib.hid g3,Lib.hid g4,Lib.hid g5,Lib.hid g6,Lib.hid g2⟩
       case measure=>simp [intOf];omega
  · obtain rfl:m = N := by omega
    have hdec:decide ((m:Int) < (m:Int)) = false := by simp
    have HFIN:Hid (Cols wr.heap.size wr (.slice (some ⟨gd,0,none⟩) d d) (fillL d R n b)) := by
     refine ⟨_,d,by rw [fill_len],by rw [fill_len];exact Nat.le_refl _,fun _=>⟨gd,0,rfl,bA.lt,fun c hc=>?_⟩⟩
     rw [fill_len] at hc
     obtain ⟨vc,g1,g2⟩ := HROW.out c hc
     rw [HLS.out] at g2
     exact ⟨vc,by rw [Nat.zero_add,bA.cell c];exact g1,manyR_iff.1 (RowM.many g2 fun q hq _=>hq)⟩
    clear HROW HSEP
    go_wp2
    go_ret2
    exact ⟨_,rfl,HFIN.out,below_in hBW HBR.out⟩
end Go.Proofs.YtmhgjkechbjemaaGreatDoor.Cd
