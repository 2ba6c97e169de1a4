/- ring: Slacken. A range whose round is a known act; what abides from a block on. The laws of EVENODD: what they share: num, code, right. The columns of EVENODD: the adjuster; a cell of the column of diagonals. The columns of EVENODD: what is encoded. EVENODD: Adjuster and Encode. The laws of EVENODD: the chapter's rows. The laws of ring: num, right, told, the chapter's rows. ring: the document's Put. -/
import Derived.Test.YtckfepmahjgmfaaDoorRTG8
import Derived.Test.YtckfepmahjgmfaaDoorRTG6
import Derived.Test.YtckfepmahjgmfaaDoorRTG7
import Derived.Test.YtckfepmahjgmfaaDoorRTMA
import Derived.Test.YtckfepmahjgmfaaDoorRTG3
import Derived.Test.YtckfepmahjgmfaaDoorRTG3x1
import Derived.Test.YtckfepmahjgmfaaDoorRTG2
import Derived.Laws.EntriesVeiled
import Derived.Test.YtckfepmahjgmfaaDoorRTG1
import Derived.Test.YtckfepmahjgmfaaDoorRTG9
namespace Go.Proofs.YtckfepmahjgmfaaDoor.Rg
open Go.RowKit Go.Shelf Go.Maps Go.Proofs.YtckfepmahjgmfaaDoor.C Go.Proofs.YtckfepmahjgmfaaDoor.E
set_option linter.unusedSimpArgs false
set_option linter.unusedVariables false
attribute [local go_sem] Oper.semAt_some

set_option maxRecDepth 100000 in
set_option maxHeartbeats 4000000 in
theorem slacken_no {B : Nat} (p : Int) (c : List (List UInt8)) (v : Value) (by_ : Int) (hno : ¬ RightD p [c]) (hc0 : c.length ≤ 1000) (w : World) (hL : Laid w) (hB : B ≤ w.heap.size) (hM : Many B w v c) :
    Calls Tryd.prog 18 #[.int .i64 p, v, .int .i64 by_] w fun e w' => e = .returned (.tuple #[.slice none 0 0, .int .i64 2]) ∧ Below w.heap.size w w' := by
  obtain ⟨A, cap, rfl, _, _⟩ := id hM
  obtain ⟨C, hC⟩ : ∃ C, c.length = C := ⟨_, rfl⟩
  rw [hC] at hM ⊢
  obtain ⟨W2, hW2⟩ : ∃ x, ((w.alloc (.cells #[.int .i64 p] 3)).alloc (.cells #[.slice A C cap] 23)).alloc (.cells #[.int .i64 by_] 3) = x := ⟨_, rfl⟩
  have b0 : Blk W2 w.heap.size 3 #[.int .i64 p] := by rw [← hW2]; exact ((Blk.new w _ _).alloc _).alloc _
  have b1 : Blk W2 (w.heap.size + 1) 23 #[.slice A C cap] := by rw [← hW2]; exact (Blk.second w _ _ _).alloc _
  have b2 : Blk W2 (w.heap.size + 1 + 1) 3 #[.int .i64 by_] := by rw [← hW2]; exact Blk.at_ (Blk.new _ _ _) (by simp)
  have hBW : Below w.heap.size w W2 := by rw [← hW2]; exact (below_two w _ _).alloc (by simp; omega) _
  obtain ⟨W2b, hb⟩ : ∃ x, w.heap.size = x := ⟨_, rfl⟩
  obtain ⟨W2c, hc⟩ : ∃ x, w.heap.size + 1 = x := ⟨_, rfl⟩
  obtain ⟨W2d, hd⟩ : ∃ x, w.heap.size + 1 + 1 = x := ⟨_, rfl⟩
  have HA := Lib.hid (ans_C_no 37 #[.pointer (some ⟨w.heap.size, 0, none⟩), .pointer (some ⟨w.heap.size + 1, 0, none⟩), .pointer (some ⟨w.heap.size + 1 + 1, 0, none⟩)] W2 (enter_slacken1 _) (fun U hU _ => by
    have hBU := below_in hBW hU
    have HQ := Lib.hid (fun (V : World) (hV : Below U.heap.size U V) => asked_no (B := B) p c (.slice A C cap) hno hc0 V (hL.next (below_in hBU hV)) (Nat.le_trans hB (below_in hBU hV).size) (hM.below ((below_in hBU hV).mono hB)))
    have HSS : Hid (∀ V, Below U.heap.size U V → (fun U : World => U.cell? ⟨W2b, 0, none⟩ = some (.int .i64 p) ∧ U.cell? ⟨W2c, 0, none⟩ = some (.slice A C cap) ∧ U.cell? ⟨W2d, 0, none⟩ = some (.int .i64 by_)) V) := by
      rw [← hb, ← hc, ← hd]
      exact fun V hV => ⟨((b0.below hU b0.lt).below hV (Nat.lt_of_lt_of_le b0.lt hU.size)).one, ((b1.below hU b1.lt).below hV (Nat.lt_of_lt_of_le b1.lt hU.size)).one, ((b2.below hU b2.lt).below hV (Nat.lt_of_lt_of_le b2.lt hU.size)).one⟩
    have hBx := (Below.refl U.heap.size U).drew
    rw [hd, hc, hb]
    clear hM b0 b1 b2 hW2 hL hc hd hb hC hno hc0
    refine (callsIn_wide (n := 9)).1 ?_
    refine callsIn_of_wp_marks Tryd.func37 rfl trivial ?_ rfl
    simp only [Tryd.ntmps37, List.size_toArray, List.length_cons, List.length_nil, Nat.reduceAdd, Nat.reduceSub, Array.replicate_succ, Array.replicate_zero, List.push_toArray, List.append_toArray, List.nil_append, List.cons_append]
    gi_wp2_with fail
    have hS : (fun U : World => U.cell? ⟨W2b, 0, none⟩ = some (.int .i64 p) ∧ U.cell? ⟨W2c, 0, none⟩ = some (.slice A C cap) ∧ U.cell? ⟨W2d, 0, none⟩ = some (.int .i64 by_)) U.drew := HSS.out _ hBx
    refine wpIn_mono (region_HF (Q := Gave U) (S := (fun U : World => U.cell? ⟨W2b, 0, none⟩ = some (.int .i64 p) ∧ U.cell? ⟨W2c, 0, none⟩ = some (.slice A C cap) ∧ U.cell? ⟨W2d, 0, none⟩ = some (.int .i64 by_))) (by kernel_rfl) ?_) (fun e a w' h => by obtain ⟨rfl, hd, hB⟩ := h; obtain ⟨tm, df⟩ := a; have hd' : df = [] := hd; subst hd'; exact ⟨rfl, hB⟩)
    refine anyHF_take (i := 0) (d := 4) (v := .int .i64 p) (by kernel_rfl) rfl (by kernel_rfl) (by kernel_rfl) (by kernel_rfl) rfl (fun _ _ _ h => h) ⟨Or.inl ⟨by rfl, fun w hS => by obtain ⟨h0, h1, h2⟩ := hS; go_simp⟩, fun _ => rfl⟩ hS ?_
    simp only [List.setIfInBounds_toArray, List.set_cons_zero, List.set_cons_succ]
    refine anyHF_take (i := 1) (d := 5) (v := .slice A C cap) (by kernel_rfl) rfl (by kernel_rfl) (by kernel_rfl) (by kernel_rfl) rfl (fun _ _ _ h => h) ⟨Or.inl ⟨by rfl, fun w hS => by obtain ⟨h0, h1, h2⟩ := hS; go_simp⟩, fun _ => rfl⟩ hS ?_
    simp only [List.setIfInBounds_toArray, List.set_cons_zero, List.set_cons_succ]
    refine anyHF_take (i := 3) (d := 7) (v := .int .i64 by_) (by kernel_rfl) rfl (by kernel_rfl) (by kernel_rfl) (by kernel_rfl) rfl (fun _ _ _ h => h) ⟨Or.inl ⟨by rfl, fun w hS => by obtain ⟨h0, h1, h2⟩ := hS; go_simp⟩, fun _ => rfl⟩ hS ?_
    simp only [List.setIfInBounds_toArray, List.set_cons_zero, List.set_cons_succ]
    refine anyHF_one (i := 2) (by kernel_rfl) rfl (by kernel_rfl) (by rfl) ?_
    gi_wp2_with fail
    refine ⟨trivial, (callsIn_wide.2 (HQ.out _ hBx)).mono ?_⟩
    rintro e w1 ⟨rfl, hB1⟩
    exact ⟨rfl, rfl, below_in hBx hB1⟩))
  clear hM b0 b1 b2 hL hb hc hd hno hc0
  go_enter Tryd.func18, Tryd.ntmps18
  have hmf : ∀ (fn : Fn) (first cap : Array Value) (w : World), (Instr.makeFunc fn first cap).run Tryd.prog w = .ok (.func fn first cap) w := fun _ _ _ _ => rfl
  go_wp2_with (go_at_call 31; refine HA.out.mono ?_; rintro e w1 ⟨rfl, hB1⟩)
  go_ret2
  exact ⟨rfl, below_in hBW hB1⟩
end Go.Proofs.YtckfepmahjgmfaaDoor.Rg

