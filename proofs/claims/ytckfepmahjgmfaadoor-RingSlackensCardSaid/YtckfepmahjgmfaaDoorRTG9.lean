/- ring: Slacken. A range whose round is a known act; what abides from a block on. The laws of EVENODD: what they share: num, code, right. The columns of EVENODD: the adjuster; a cell of the column of diagonals. The columns of EVENODD: what is encoded. EVENODD: Adjuster and Encode. The laws of EVENODD: the chapter's rows. The laws of ring: num, right, told, the chapter's rows. ring: the document's Put. -/
import Derived.Test.YtckfepmahjgmfaaDoorRTG8
import Derived.Test.YtckfepmahjgmfaaDoorRTG6
import Derived.Test.YtckfepmahjgmfaaDoorRTG7
import Derived.Test.YtckfepmahjgmfaaDoorRTMA
import Derived.Test.YtckfepmahjgmfaaDoorRTG3
import Derived.Test.YtckfepmahjgmfaaDoorRTG2
import Derived.Laws.EntriesVeiled
import Derived.Test.YtckfepmahjgmfaaDoorRTG1
namespace Go.Proofs.YtckfepmahjgmfaaDoor.Rg
open Go.RowKit Go.Shelf Go.Maps Go.Proofs.YtckfepmahjgmfaaDoor.C Go.Proofs.YtckfepmahjgmfaaDoor.E
set_option linter.unusedSimpArgs false
set_option linter.unusedVariables false
attribute [local go_sem] Oper.semAt_some

theorem enter_slacken1 : ∀ args W, (callFunc 37 args).run Tryd.prog W = .ok (.enter 37 args) W := enters_of Tryd.func37 (by kernel_rfl) rfl
set_option maxRecDepth 100000 in
set_option maxHeartbeats 4000000 in
theorem slacken_yes {B : Nat} (P Q n : Nat) (hQ : P = Q + 1) (c : List (List UInt8)) (v : Value) (by_ : Int) (y1 : -9223372036854775808 ≤ by_) (y2 : by_ ≤ 9223372036854775807) (hok : ColOk P n c) (hby : by_ % (P : Int) ≠ 0) (w : World) (hL : Laid w) (hB : B ≤ w.heap.size) (hM : Many B w v c) :
    Calls Tryd.prog 18 #[.int .i64 (P : Int), v, .int .i64 by_] w fun e w' => ∃ u, e = .returned (.tuple #[u, .int .i64 0]) ∧ FreshMany w.heap.size w' u (slackL P Q (wholeF Q n c) by_) ∧ Below w.heap.size w w' := by
  obtain ⟨A, cap, rfl, _, _⟩ := id hM
  obtain ⟨C, hC⟩ : ∃ C, c.length = C := ⟨_, rfl⟩
  rw [hC] at hM ⊢
  obtain ⟨W2, hW2⟩ : ∃ x, ((w.alloc (.cells #[.int .i64 (P : Int)] 3)).alloc (.cells #[.slice A C cap] 23)).alloc (.cells #[.int .i64 by_] 3) = x := ⟨_, rfl⟩
  have b0 : Blk W2 w.heap.size 3 #[.int .i64 (P : Int)] := by rw [← hW2]; exact ((Blk.new w _ _).alloc _).alloc _
  have b1 : Blk W2 (w.heap.size + 1) 23 #[.slice A C cap] := by rw [← hW2]; exact (Blk.second w _ _ _).alloc _
  have b2 : Blk W2 (w.heap.size + 1 + 1) 3 #[.int .i64 by_] := by rw [← hW2]; exact Blk.at_ (Blk.new _ _ _) (by simp)
  have hBW : Below w.heap.size w W2 := by rw [← hW2]; exact (below_two w _ _).alloc (by simp; omega) _
  obtain ⟨W2b, hb⟩ : ∃ x, w.heap.size = x := ⟨_, rfl⟩
  obtain ⟨W2c, hc⟩ : ∃ x, w.heap.size + 1 = x := ⟨_, rfl⟩
  obtain ⟨W2d, hd⟩ : ∃ x, w.heap.size + 1 + 1 = x := ⟨_, rfl⟩
  have h1 := hok.2.2.1
  have h64 := hok.2.2.2
  have HA := Lib.hid (ans_C_yes 37 #[.pointer (some ⟨w.heap.size, 0, none⟩), .pointer (some ⟨w.heap.size + 1, 0, none⟩), .pointer (some ⟨w.heap.size + 1 + 1, 0, none⟩)] W2 (fun u W => ∃ a b c', u = .slice a b c' ∧ FreshMany (W2.heap.size + 1) W u (slackL P Q (wholeF Q n c) by_)) (enter_slacken1 _) (fun U hU bU => by
    have hBU := below_in hBW hU
    have hltU := bU.lt
    have HQ := Lib.hid (fun (V : World) (hV : Below U.heap.size U V) => asked_yes (B := B) P Q n hQ c (.slice A C cap) hok V (hL.next (below_in hBU hV)) (Nat.le_trans hB (below_in hBU hV).size) (hM.below ((below_in hBU hV).mono hB)))
    have HE := Lib.hid (fun (vs : List Value) (V : World) (hV : Below U.heap.size U V) (hvs : ColV V.heap.size V P n (wholeF Q n c) vs) => slackened_any P Q n hQ hok.1 h1 h64 (wholeF Q n c) vs by_ y1 y2 hby V (hL.next (below_in hBU hV)) (Nat.le_refl _) hvs)
    have HSS : Hid (∀ V, Below U.heap.size U V → (fun U : World => U.cell? ⟨W2b, 0, none⟩ = some (.int .i64 (P : Int)) ∧ U.cell? ⟨W2c, 0, none⟩ = some (.slice A C cap) ∧ U.cell? ⟨W2d, 0, none⟩ = some (.int .i64 by_)) V) := by
      rw [← hb, ← hc, ← hd]
      exact fun V hV => ⟨((b0.below hU b0.lt).below hV (Nat.lt_of_lt_of_le b0.lt hU.size)).one, ((b1.below hU b1.lt).below hV (Nat.lt_of_lt_of_le b1.lt hU.size)).one, ((b2.below hU b2.lt).below hV (Nat.lt_of_lt_of_le b2.lt hU.size)).one⟩
    have hBx := (Below.refl U.heap.size U).drew
    rw [hd, hc, hb]
    clear hM b0 b1 b2 hW2 hL hok hc hd hb hC bU hQ
    refine (callsIn_wide (n := 9)).1 ?_
    refine callsIn_of_wp_marks Tryd.func37 rfl trivial ?_ rfl
    simp only [Tryd.ntmps37, List.size_toArray, List.length_cons, List.length_nil, Nat.reduceAdd, Nat.reduceSub, Array.replicate_succ, Array.replicate_zero, List.push_toArray, List.append_toArray, List.nil_append, List.cons_append]
    gi_wp2_with fail
    have hS : (fun U : World => U.cell? ⟨W2b, 0, none⟩ = some (.int .i64 (P : Int)) ∧ U.cell? ⟨W2c, 0, none⟩ = some (.slice A C cap) ∧ U.cell? ⟨W2d, 0, none⟩ = some (.int .i64 by_)) U.drew := HSS.out _ hBx
    refine wpIn_mono (region_HF (Q := NoPanic _) (S := (fun U : World => U.cell? ⟨W2b, 0, none⟩ = some (.int .i64 (P : Int)) ∧ U.cell? ⟨W2c, 0, none⟩ = some (.slice A C cap) ∧ U.cell? ⟨W2d, 0, none⟩ = some (.int .i64 by_))) (by kernel_rfl) ?_) NoPanic.imp
    refine anyHF_take (i := 0) (d := 4) (v := .int .i64 (P : Int)) (by kernel_rfl) rfl (by kernel_rfl) (by kernel_rfl) (by kernel_rfl) rfl (fun _ _ _ h => h) ⟨Or.inl ⟨by rfl, fun w hS => by obtain ⟨h0, h1, h2⟩ := hS; go_simp⟩, fun _ => rfl⟩ hS ?_
    simp only [List.setIfInBounds_toArray, List.set_cons_zero, List.set_cons_succ]
    refine anyHF_take (i := 1) (d := 5) (v := .slice A C cap) (by kernel_rfl) rfl (by kernel_rfl) (by kernel_rfl) (by kernel_rfl) rfl (fun _ _ _ h => h) ⟨Or.inl ⟨by rfl, fun w hS => by obtain ⟨h0, h1, h2⟩ := hS; go_simp⟩, fun _ => rfl⟩ hS ?_
    simp only [List.setIfInBounds_toArray, List.set_cons_zero, List.set_cons_succ]
    refine anyHF_take (i := 3) (d := 7) (v := .int .i64 by_) (by kernel_rfl) rfl (by kernel_rfl) (by kernel_rfl) (by kernel_rfl) rfl (fun _ _ _ h => h) ⟨Or.inl ⟨by rfl, fun w hS => by obtain ⟨h0, h1, h2⟩ := hS; go_simp⟩, fun _ => rfl⟩ hS ?_
    simp only [List.setIfInBounds_toArray, List.set_cons_zero, List.set_cons_succ]
    refine anyHF_one (i := 2) (by kernel_rfl) rfl (by kernel_rfl) (by rfl) ?_
    gi_wp2_with fail
    refine ⟨trivial, (callsIn_wide.2 (HQ.out _ hBx)).mono ?_⟩
    rintro e w1 ⟨vs, rfl, hvs, hB1⟩
    replace hBx := below_in hBx hB1
    clear hS
    have hS : (fun U : World => U.cell? ⟨W2b, 0, none⟩ = some (.int .i64 (P : Int)) ∧ U.cell? ⟨W2c, 0, none⟩ = some (.slice A C cap) ∧ U.cell? ⟨W2d, 0, none⟩ = some (.int .i64 by_)) w1 := HSS.out _ hBx
    gi_wp2
    try (refine ⟨hS, ?_⟩)
    refine anyHF_one (i := 4) (by kernel_rfl) rfl (by kernel_rfl) (by rfl) ?_
    gi_wp2_with fail
    refine ⟨trivial, (callsIn_wide.2 (HE.out vs w1 hBx hvs)).mono ?_⟩
    rintro e w2 ⟨u, rfl, hu, hB2⟩
    have hs1 := hBx.size
    obtain ⟨uA, un, uc, rfl⟩ : ∃ a b c, u = .slice a b c := by obtain ⟨a, c, e, _⟩ := hu; exact ⟨a, _, c, e⟩
    replace hBx := below_in hBx hB2
    clear hS
    have hS : (fun U : World => U.cell? ⟨W2b, 0, none⟩ = some (.int .i64 (P : Int)) ∧ U.cell? ⟨W2c, 0, none⟩ = some (.slice A C cap) ∧ U.cell? ⟨W2d, 0, none⟩ = some (.int .i64 by_)) w2 := HSS.out _ hBx
    gi_wp2
    try (refine ⟨hS, ?_⟩)
    refine anyHF_one (i := 5) (by kernel_rfl) rfl (by kernel_rfl) (by rfl) ?_
    gi_wp2
    refine anyHF_done (by kernel_rfl) ?_ _
    refine NoPanic.normal ?_
    gi_wp2
    exact ⟨_, by simp [results, Tryd.results37, go_sem], _, rfl, ⟨uA, un, uc, rfl, freshMany_more hu (by omega)⟩, hBx⟩))
  clear hM b0 b1 b2 hL hok hb hc hd hQ hC
  go_enter Tryd.func18, Tryd.ntmps18
  have hmf : ∀ (fn : Fn) (first cap : Array Value) (w : World), (Instr.makeFunc fn first cap).run Tryd.prog w = .ok (.func fn first cap) w := fun _ _ _ _ => rfl
  go_wp2_with (go_at_call 31; refine HA.out.mono ?_; rintro e w1 ⟨u, W, rfl, ⟨uA, un, uc, rfl, hu⟩, bE, rfl, hB1⟩)
  go_ret2
  exact ⟨_, rfl, freshMany_more (freshMany_only hu (Only.set (A := fun b => b = W2.heap.size) (p := ⟨W2.heap.size, 0, none⟩) rfl _) (fun b e => by have e : b = W2.heap.size := e; omega)) (by have := hBW.size; omega), below_in hBW hB1⟩
set_option maxRecDepth 100000 in
set_option maxHeartbeats 4000000 in
theorem slackened_zero {B : Nat} (P n : Nat) (hp : (P : Int) ∈ prm) (f : Nat → List UInt8) (vs : List Value) (by_ : Int) (y1 : -9223372036854775808 ≤ by_) (y2 : by_ ≤ 9223372036854775807) (hby : by_ % (P : Int) = 0) (w : World) (hL : Laid w) (hV : ColV B w P n f vs) :
    Calls Tryd.prog 38 #[.agg vs.toArray, .int .i64 by_] w fun e w' => e = .panicked gaveUp ∧ Below w.heap.size w w' := by
  obtain ⟨hl, h0, hr0, h1c⟩ := hV
  have hBz := below_one w (.cells vs.toArray 57)
  have bz := Blk.new w 57 vs.toArray
  obtain ⟨wb, hwb⟩ : ∃ x, w.alloc (.cells vs.toArray 57) = x := ⟨_, rfl⟩
  rw [hwb] at hBz bz
  have HPL : Hid (Calls Tryd.prog 57 #[.agg vs.toArray, .int .i64 by_] wb fun e w' => e = .returned (.int .i64 0) ∧ Below wb.heap.size wb w') := by
    have := place_any P vs hp h0 by_ y1 y2 wb (hL.next hBz)
    rwa [hby] at this
  have hld := load_col0 bz hl
  clear h0 hl hr0 h1c hby hL bz hp
  refine (callsIn_wide (n := 9)).1 ?_
  refine callsIn_of_wp_marks Tryd.func38 rfl trivial ?_ rfl
  simp only [Tryd.ntmps38, List.size_toArray, List.length_cons, List.length_nil, Nat.reduceAdd, Nat.reduceSub, Array.replicate_succ, Array.replicate_zero, List.push_toArray, List.append_toArray, List.nil_append, List.cons_append]
  gi_wp2_with (refine wpListIn_loadS rfl rfl rfl hld ?_)
  refine ⟨trivial, (callsIn_wide.2 HPL.out).mono ?_⟩
  rintro e w1 ⟨rfl, hB1⟩
  gi_wp2_with fail
  refine ⟨trivial, (callsIn_wide.2 (need_no w1)).mono ?_⟩
  rintro e w1' ⟨rfl, rfl⟩
  gi_wp2_with fail
  exact ⟨rfl, below_in hBz hB1⟩
set_option maxRecDepth 100000 in
set_option maxHeartbeats 4000000 in
theorem slacken_zero {B : Nat} (P Q n : Nat) (hQ : P = Q + 1) (c : List (List UInt8)) (v : Value) (by_ : Int) (y1 : -9223372036854775808 ≤ by_) (y2 : by_ ≤ 9223372036854775807) (hok : ColOk P n c) (hby : by_ % (P : Int) = 0) (w : World) (hL : Laid w) (hB : B ≤ w.heap.size) (hM : Many B w v c) :
    Calls Tryd.prog 18 #[.int .i64 (P : Int), v, .int .i64 by_] w fun e w' => e = .returned (.tuple #[.slice none 0 0, .int .i64 2]) ∧ Below w.heap.size w w' := by
  obtain ⟨A, cap, rfl, _, _⟩ := id hM
  obtain ⟨C, hC⟩ : ∃ C, c.length = C := ⟨_, rfl⟩
  rw [hC] at hM ⊢
  obtain ⟨W2, hW2⟩ : ∃ x, ((w.alloc (.cells #[.int .i64 (P : Int)] 3)).alloc (.cells #[.slice A C cap] 23)).alloc (.cells #[.int .i64 by_] 3) = x := ⟨_, rfl⟩
  have b0 : Blk W2 w.heap.size 3 #[.int .i64 (P : Int)] := by rw [← hW2]; exact ((Blk.new w _ _).alloc _).alloc _
  have b1 : Blk W2 (w.heap.size + 1) 23 #[.slice A C cap] := by rw [← hW2]; exact (Blk.second w _ _ _).alloc _
  have b2 : Blk W2 (w.heap.size + 1 + 1) 3 #[.int .i64 by_] := by rw [← hW2]; exact Blk.at_ (Blk.new _ _ _) (by simp)
  have hBW : Below w.heap.size w W2 := by rw [← hW2]; exact (below_two w _ _).alloc (by simp; omega) _
  obtain ⟨W2b, hb⟩ : ∃ x, w.heap.size = x := ⟨_, rfl⟩
  obtain ⟨W2c, hc⟩ : ∃ x, w.heap.size + 1 = x := ⟨_, rfl⟩
  obtain ⟨W2d, hd⟩ : ∃ x, w.heap.size + 1 + 1 = x := ⟨_, rfl⟩
  have HA := Lib.hid (ans_C_no 37 #[.pointer (some ⟨w.heap.size, 0, none⟩), .pointer (some ⟨w.heap.size + 1, 0, none⟩), .pointer (some ⟨w.heap.size + 1 + 1, 0, none⟩)] W2 (enter_slacken1 _) (fun U hU _ => by
    have hBU := below_in hBW hU
    have HQ := Lib.hid (fun (V : World) (hV : Below U.heap.size U V) => asked_yes (B := B) P Q n hQ c (.slice A C cap) hok V (hL.next (below_in hBU hV)) (Nat.le_trans hB (below_in hBU hV).size) (hM.below ((below_in hBU hV).mono hB)))
    have HE := Lib.hid (fun (vs : List Value) (V : World) (hV : Below U.heap.size U V) (hvs : ColV V.heap.size V P n (wholeF Q n c) vs) => slackened_zero P n hok.1 (wholeF Q n c) vs by_ y1 y2 hby V (hL.next (below_in hBU hV)) hvs)
    have HSS : Hid (∀ V, Below U.heap.size U V → (fun U : World => U.cell? ⟨W2b, 0, none⟩ = some (.int .i64 (P : Int)) ∧ U.cell? ⟨W2c, 0, none⟩ = some (.slice A C cap) ∧ U.cell? ⟨W2d, 0, none⟩ = some (.int .i64 by_)) V) := by
      rw [← hb, ← hc, ← hd]
      exact fun V hV => ⟨((b0.below hU b0.lt).below hV (Nat.lt_of_lt_of_le b0.lt hU.size)).one, ((b1.below hU b1.lt).below hV (Nat.lt_of_lt_of_le b1.lt hU.size)).one, ((b2.below hU b2.lt).below hV (Nat.lt_of_lt_of_le b2.lt hU.size)).one⟩
    have hBx := (Below.refl U.heap.size U).drew
    rw [hd, hc, hb]
    clear hM b0 b1 b2 hW2 hL hok hc hd hb hC hQ hby
    refine (callsIn_wide (n := 9)).1 ?_
    refine callsIn_of_wp_marks Tryd.func37 rfl trivial ?_ rfl
    simp only [Tryd.ntmps37, List.size_toArray, List.length_cons, List.length_nil, Nat.reduceAdd, Nat.reduceSub, Array.replicate_succ, Array.replicate_zero, List.push_toArray, List.append_toArray, List.nil_append, List.cons_append]
    gi_wp2_with fail
    have hS : (fun U : World => U.cell? ⟨W2b, 0, none⟩ = some (.int .i64 (P : Int)) ∧ U.cell? ⟨W2c, 0, none⟩ = some (.slice A C cap) ∧ U.cell? ⟨W2d, 0, none⟩ = some (.int .i64 by_)) U.drew := HSS.out _ hBx
    refine wpIn_mono (region_HF (Q := Gave U) (S := (fun U : World => U.cell? ⟨W2b, 0, none⟩ = some (.int .i64 (P : Int)) ∧ U.cell? ⟨W2c, 0, none⟩ = some (.slice A C cap) ∧ U.cell? ⟨W2d, 0, none⟩ = some (.int .i64 by_))) (by kernel_rfl) ?_) (fun e a w' h => by obtain ⟨rfl, hd, hB⟩ := h; obtain ⟨tm, df⟩ := a; have hd' : df = [] := hd; subst hd'; exact ⟨rfl, hB⟩)
    refine anyHF_take (i := 0) (d := 4) (v := .int .i64 (P : Int)) (by kernel_rfl) rfl (by kernel_rfl) (by kernel_rfl) (by kernel_rfl) rfl (fun _ _ _ h => h) ⟨Or.inl ⟨by rfl, fun w hS => by obtain ⟨h0, h1, h2⟩ := hS; go_simp⟩, fun _ => rfl⟩ hS ?_
    simp only [List.setIfInBounds_toArray, List.set_cons_zero, List.set_cons_succ]
    refine anyHF_take (i := 1) (d := 5) (v := .slice A C cap) (by kernel_rfl) rfl (by kernel_rfl) (by kernel_rfl) (by kernel_rfl) rfl (fun _ _ _ h => h) ⟨Or.inl ⟨by rfl, fun w hS => by obtain ⟨h0, h1, h2⟩ := hS; go_simp⟩, fun _ => rfl⟩ hS ?_
    simp only [List.setIfInBounds_toArray, List.set_cons_zero, List.set_cons_succ]
    refine anyHF_take (i := 3) (d := 7) (v := .int .i64 by_) (by kernel_rfl) rfl (by kernel_rfl) (by kernel_rfl) (by kernel_rfl) rfl (fun _ _ _ h => h) ⟨Or.inl ⟨by rfl, fun w hS => by obtain ⟨h0, h1, h2⟩ := hS; go_simp⟩, fun _ => rfl⟩ hS ?_
    simp only [List.setIfInBounds_toArray, List.set_cons_zero, List.set_cons_succ]
    refine anyHF_one (i := 2) (by kernel_rfl) rfl (by kernel_rfl) (by rfl) ?_
    gi_wp2_with fail
    refine ⟨trivial, (callsIn_wide.2 (HQ.out _ hBx)).mono ?_⟩
    rintro e w1 ⟨vs, rfl, hvs, hB1⟩
    replace hBx := below_in hBx hB1
    clear hS
    have hS : (fun U : World => U.cell? ⟨W2b, 0, none⟩ = some (.int .i64 (P : Int)) ∧ U.cell? ⟨W2c, 0, none⟩ = some (.slice A C cap) ∧ U.cell? ⟨W2d, 0, none⟩ = some (.int .i64 by_)) w1 := HSS.out _ hBx
    gi_wp2
    try (refine ⟨hS, ?_⟩)
    refine anyHF_one (i := 4) (by kernel_rfl) rfl (by kernel_rfl) (by rfl) ?_
    gi_wp2_with fail
    refine ⟨trivial, (callsIn_wide.2 (HE.out vs w1 hBx hvs)).mono ?_⟩
    rintro e w2 ⟨rfl, hB2⟩
    exact ⟨rfl, rfl, below_in hBx hB2⟩))
  clear hM b0 b1 b2 hL hb hc hd hok hQ hby hC
  go_enter Tryd.func18, Tryd.ntmps18
  have hmf : ∀ (fn : Fn) (first cap : Array Value) (w : World), (Instr.makeFunc fn first cap).run Tryd.prog w = .ok (.func fn first cap) w := fun _ _ _ _ => rfl
  go_wp2_with (go_at_call 31; refine HA.out.mono ?_; rintro e w1 ⟨rfl, hB1⟩)
  go_ret2
  exact ⟨rfl, below_in hBW hB1⟩
end Go.Proofs.YtckfepmahjgmfaaDoor.Rg

namespace Go.Proofs.YtckfepmahjgmfaaDoor.T
open Go.RowKit Go.Shelf Go.Proofs.YtckfepmahjgmfaaDoor.C Go.Proofs.YtckfepmahjgmfaaDoor.E
set_option linter.unusedSimpArgs false
set_option linter.unusedVariables false

theorem wpIn_rangeActT {α : Type} {F : Fence} {n : Nat} {P : Program} {g : Operand} {ps : Array Tmp} {assign body : Code} {Q : Exit → Act → World → Prop} {a : Act} {w : World}
    (hro : F.round = none) (h1 : 1 ≤ n) {gf : Nat} {lb : Array Value} (hg : a.eval g = .func (.func gf) #[] lb) (hFg : F.fn gf) (eg : ∀ args w, (callFunc gf args).run P w = .ok (.enter gf args) w)
    {encs : α → Array Value} {Ok : List α → α → World → Prop} {Kp : World → World → Prop} {S Sp : List α → Prop} {N : Nat} {w0 : World} (hseq : SeqT F (n - 1) P gf lb encs Ok Kp S Sp N w0)
    (hKt : ∀ {A B C : World}, Kp A B → Kp B C → Kp A C) (hKb : ∀ (W : World) (l : Nat) (ob : Obj), w.heap.size ≤ l → l < W.heap.size → (∃ r, W.heap[l]? = some (.loop r)) → Kp W (W.putObj l ob)) (hb0 : Below w0.heap.size w0 w) (hps : ∀ x, (encs x).size = ps.size)
    (I : List α → World → Prop) (Ix : Code → List α → World → Prop) (hI : FarO w.heap.size (fun pre o W => (o = fun _ => False) ∧ I pre W)) (hIx : ∀ c, FarO w.heap.size (fun pre o W => (o = fun _ => False) ∧ Ix c pre W)) (h0 : I [] w)
    (act : α → Act) (Pr : List α → α → World → Prop) (hPr : ∀ pre x (W : World) l ob r, W.heap[l]? = some (.loop r) → Pr pre x W → Pr pre x (W.putObj l ob))
    (hassign : ∀ (l : Nat) (pre : List α) (x : α) (W : World) (K : Act → World → Prop), w.heap.size ≤ W.heap.size → I pre W → Ok pre x W → (∀ W', Below W.heap.size W W' → Kp W W' → I pre W' → Pr pre x W' → K (act x) W') →
      assign.wpIn (F.inRound l) (n - 1 - 1) P (Exit.then K (fun _ _ _ => False)) { tmps := (ps.zip (encs x)).foldl (fun t (p, v) => t.setIfInBounds p v) a.tmps, defers := [] } W)
    (hbody : ∀ (l : Nat) (pre : List α) (x : α) (W : World), w.heap.size ≤ W.heap.size → I pre W → Pr pre x W → pre.length < N →
      body.wpIn (F.inRound l) (n - 1 - 1) P (postT w.heap.size Kp (fun pre o W => (o = fun _ => False) ∧ I pre W) (fun c pre o W => (o = fun _ => False) ∧ Ix c pre W) (pre ++ [x]) (fun _ => False) W) (act x) W)
    (hdone : ∀ (D : Nat) (xs : List α) (W : World), w.heap.size ≤ D → S xs → I xs W → W.heap[D]? = some (.deferred (some [])) → Q .normal { a with defers := { target := .collected D, args := #[] } :: a.defers } W)
    (hstop : ∀ (D : Nat) (c : Code) (pre : List α) (W : World), w.heap.size ≤ D → Sp pre → Ix c pre W → W.heap[D]? = some (.deferred (some [])) → c.wpIn F n P Q { a with defers := { target := .collected D, args := #[] } :: a.defers } W) :
    (Code.rangeFunc g ps assign body).wpIn F n P Q a w :=
  wpIn_rangeT hro h1 hg hFg eg hseq hKt hKb hb0 hps _ _ hI hIx (fun _ => False) (fun _ h => h.elim) ⟨rfl, h0⟩ (fun pre x o a' W => Pr pre x W ∧ a' = act x)
    (fun pre x o a' W l ob r hl _ _ h => ⟨hPr _ _ _ _ _ _ hl h.1, h.2⟩)
    (fun l pre x o W K hs hol hi hok hK => hassign l pre x W K hs hi.2 hok fun W' hb hk hi2 hp => hK _ _ (SinceO.below hb) hk ⟨hi.1, hi2⟩ ⟨hp, rfl⟩)
    (fun pre o W h => by obtain ⟨rfl, _⟩ := h; exact rowO_none W) (fun c pre o W h => by obtain ⟨rfl, _⟩ := h; exact rowO_none W)
    (fun l pre x o a' W hs hi ⟨hp, e⟩ hlt => by
      obtain ⟨rfl, hi⟩ := hi
      subst e
      exact hbody l pre x W hs hi hp hlt)
    (fun D xs o W hD _ hs hi hK _ => hdone D xs W hD hs hi.2 hK) (fun D c pre o W hD _ hs hi hK _ => hstop D c pre W hD hs hi.2 hK)
/-- What abides from a block on: cells below it. -/
theorem farO_turn {β : Type} {B n₀ N : Nat} {V : World} (q : β → Prop) (f : β → Array Value) (t : TypeId) (hN : N < B) (hn : n₀ ≤ V.heap.size) (hB : n₀ ≤ B) : FarO B (fun (s : β) (o : Nat → Prop) W => (o = fun _ => False) ∧ (q s ∧ Blk W N t (f s) ∧ Below n₀ V W)) := fun s o X Y row hs hgr hr =>
  ⟨hs.1, hs.2.1, hs.2.2.1.grown hgr (fun e => by have := (hr N e.symm).1; omega), hs.2.2.2.grown hgr (Nat.le_trans hn hs.2.2.2.size) fun r e => by have := (hr r e).1; omega⟩
end Go.Proofs.YtckfepmahjgmfaaDoor.T

namespace Go.Proofs.YtckfepmahjgmfaaDoor.E
open Go.RowKit Go.Shelf Go.Proofs.YtckfepmahjgmfaaDoor.C
set_option linter.unusedSimpArgs false
set_option linter.unusedVariables false
attribute [local go_sem] Oper.semAt_some

theorem Cols.more {B B' : Nat} {W : World} {v : Value} {css : List (List (List UInt8))} (h : Cols B W v css) (hB : B ≤ B') : Cols B' W v css := by
  obtain ⟨A, cap, e, hc, hA⟩ := h
  refine ⟨A, cap, e, hc, fun hp => ?_⟩
  obtain ⟨b, off, e2, hb, hcell⟩ := hA hp
  exact ⟨b, off, e2, by omega, fun j hj => by obtain ⟨u, h1, h2⟩ := hcell j hj; exact ⟨u, h1, h2.more hB⟩⟩
end Go.Proofs.YtckfepmahjgmfaaDoor.E

namespace Go.Proofs.YtckfepmahjgmfaaDoor.E
open Go.RowKit Go.Shelf Go.Proofs.YtckfepmahjgmfaaDoor.C
set_option linter.unusedSimpArgs false
set_option linter.unusedVariables false

def allocs (w : World) (os : List Obj) : World := os.foldl World.alloc w
theorem allocs_below (w : World) (os : List Obj) : Below w.heap.size w (allocs w os) := by
  induction os generalizing w with
  | nil => exact Below.refl _ _
  | cons o os ih => exact below_in (below_one w o) (ih (w.alloc o))
theorem allocs_blk (w : World) (os : List Obj) (k : Nat) (t : TypeId) (cs : Array Value) (h : os[k]? = some (.cells cs t)) : Blk (allocs w os) (w.heap.size + k) t cs := by
  induction os generalizing w k with
  | nil => cases h
  | cons o os ih =>
    cases k with
    | zero => cases h; exact (Blk.new w t cs).below (allocs_below _ os) (by simp)
    | succ k =>
      have h2 := ih (w.alloc o) k h
      rw [World.size_alloc] at h2
      rw [show w.heap.size + (k + 1) = w.heap.size + 1 + k by omega]
      exact h2
theorem cols_of {W : World} {g n cap : Nat} {t : TypeId} {cs : Array Value} {css : List (List (List UInt8))} (h : Blk W g t cs) (hn : css.length = n) (hc : n ≤ cap) (hA : ∀ j, j < n → ∃ u, cs[j]? = some u ∧ Many W.heap.size W u (css[j]?.getD [])) : Cols W.heap.size W (.slice (some ⟨g, 0, none⟩) n cap) css := by
  subst hn
  refine ⟨_, cap, rfl, hc, fun _ => ⟨g, 0, rfl, h.lt, fun j hj => ?_⟩⟩
  obtain ⟨u, h1, h2⟩ := hA j hj
  exact ⟨u, by rw [Nat.zero_add, h.cell j]; exact h1, h2⟩
end Go.Proofs.YtckfepmahjgmfaaDoor.E

namespace Go.Proofs.YtckfepmahjgmfaaDoor.Rg
open Go.RowKit Go.Shelf Go.Proofs.YtckfepmahjgmfaaDoor.C Go.Proofs.YtckfepmahjgmfaaDoor.E Go.Proofs.YtckfepmahjgmfaaDoor.T
set_option linter.unusedSimpArgs false
set_option linter.unusedVariables false
attribute [local go_sem] Oper.semAt_some

set_option maxHeartbeats 400000 in
theorem num_any (n : Int) (w : World) : Calls Tryd.prog 25 #[.int .i64 n] w fun e w' => e = .returned (.int .i64 n) ∧ w = w' := by
  go_enter Tryd.func25, Tryd.ntmps25
  go_wp2
  go_ret
  exact ⟨rfl, rfl⟩
set_option maxRecDepth 100000 in
set_option maxHeartbeats 1000000 in
theorem right_one {B : Nat} (p : Int) (v : Value) (c : List (List UInt8)) (w : World) (hB : B ≤ w.heap.size) (hM : Many B w v c) (b : Bool) (hb : b = true ↔ RightD p [c]) :
    Calls Tryd.prog 11 #[.int .i64 p, v] w fun e w' => e = .returned (.bool b) ∧ Below w.heap.size w w' := by
  obtain ⟨A, cap, rfl, _, _⟩ := id hM
  have hB1 := below_one w (.cells #[.slice A c.length cap] 23)
  have b1 := Blk.new w 23 #[.slice A c.length cap]
  have hC : Cols (w.alloc (.cells #[.slice A c.length cap] 23)).heap.size (w.alloc (.cells #[.slice A c.length cap] 23)) (.slice (some ⟨w.heap.size, 0, none⟩) 1 1) [c] := cols_of b1 rfl (Nat.le_refl _) fun j hj => by
    obtain rfl : j = 0 := by omega
    exact ⟨_, rfl, (hM.below (hB1.mono hB)).more (Nat.le_trans hB hB1.size)⟩
  have HR := Lib.hid (right6_any p _ [c] _ (Nat.le_refl _) hC (by show 1 ≤ 1000; omega) b hb)
  clear hC b1
  go_enter Tryd.func11, Tryd.ntmps11
  go_wp2_with (go_at_call 19; refine HR.out.mono ?_; rintro e w1 ⟨rfl, hB2⟩)
  go_ret
  exact ⟨rfl, below_in hB1 hB2⟩
set_option maxRecDepth 100000 in
set_option maxHeartbeats 1000000 in
theorem told_no {B : Nat} (w : World) (v : Value) : 
    Calls Tryd.prog 16 #[.slice none 0 0, .int .i64 2, .bool false, v] w fun e w' => e = .returned (.bool true) ∧ w = w' := by
  go_enter Tryd.func16, Tryd.ntmps16
  go_wp2_with (go_at_call 25; refine (num_any _ _).mono ?_; rintro e w1 ⟨rfl, rfl⟩)
  go_ret
  exact ⟨rfl, rfl⟩
set_option maxRecDepth 100000 in
set_option maxHeartbeats 1000000 in
theorem told_yes {B B' : Nat} (u v : Value) (c d : List (List UInt8)) (w : World) (h1 : Many B w u c) (h2 : Many B' w v d) (hc : c.length ≤ 1000) (hd : d.length ≤ 1000) (he : c = d) : 
    Calls Tryd.prog 16 #[u, .int .i64 0, .bool true, v] w fun e w' => e = .returned (.bool true) ∧ Below w.heap.size w w' := by
  have HS := Lib.hid (sameCol_any u v c d w h1 h2 (by omega) (by omega))
  rw [show decide (c = d) = true by simpa using he] at HS
  obtain ⟨A, cap, rfl, _, _⟩ := id h1
  obtain ⟨A', cap', rfl, _, _⟩ := id h2
  clear h1 h2 he hc hd
  go_enter Tryd.func16, Tryd.ntmps16
  go_wp2_with (first
    | (go_at_call 25; refine (num_any _ _).mono ?_; rintro e w1 ⟨rfl, rfl⟩)
    | (go_at_call 26; refine HS.out.mono ?_; rintro e w1 ⟨rfl, hB1⟩))
  go_ret
  exact ⟨rfl, hB1⟩
/-- The cells of the chapter's rows. -/
def osC (x y : Int) (w : World) : List Obj := [.cells #[.int .u8 x] 5, .cells #[.int .u8 y] 5,
  .cells #[.slice (some ⟨w.heap.size + 0, 0, none⟩) 1 1, .slice (some ⟨w.heap.size + 1, 0, none⟩) 1 1] 48]
theorem many_C (a b : UInt8) (x y : Int) (hx : x = a.toNat) (hy : y = b.toNat) (w : World) : Many (allocs w (osC x y w)).heap.size (allocs w (osC x y w)) (.slice (some ⟨w.heap.size + 2, 0, none⟩) 2 2) [[a], [b]] := by
  subst hx hy
  refine two_many (allocs_blk w (osC _ _ w) 2 _ _ rfl) ?_ ?_ (allocs_blk w (osC _ _ w) 2 _ _ rfl).lt
  · have k := allocs_blk w (osC a.toNat b.toNat w) 0 _ _ rfl
    exact ⟨_, 1, rfl, Nat.le_refl _, fun _ => ⟨_, 0, rfl, k.lt, fun j hj => by obtain rfl : j = 0 := (by have : j < 1 := hj; omega); exact k.cell _⟩⟩
  · have k := allocs_blk w (osC a.toNat b.toNat w) 1 _ _ rfl
    exact ⟨_, 1, rfl, Nat.le_refl _, fun _ => ⟨_, 0, rfl, k.lt, fun j hj => by obtain rfl : j = 0 := (by have : j < 1 := hj; omega); exact k.cell _⟩⟩
theorem row_t1 : rowK 1 2 (fun _ r => xorOf [mvF 3 1 (wholeF 2 1 [[1], [2]]) r, mvF 3 1 (wholeF 2 1 [[1], [2]]) 2]) = [[2], [3]] := by decide +kernel
theorem row_t2 : rowK 1 2 (fun _ r => xorOf [mvF 3 2 (wholeF 2 1 [[1], [2]]) r, mvF 3 2 (wholeF 2 1 [[1], [2]]) 2]) = [[3], [1]] := by decide +kernel
theorem row_s : rowK 2 2 (fun i r => if i = 0 then xorOf [wholeF 2 1 [[1], [2]] r, wholeF 2 1 [[1], [2]] 2] else xorOf [mvF 3 1 (wholeF 2 1 [[1], [2]]) r, mvF 3 1 (wholeF 2 1 [[1], [2]]) 2]) = [[3], [1]] := by decide +kernel
theorem row_d : slackL 3 2 (wholeF 2 1 [[3], [1]]) 1 = [[1], [2]] := by decide +kernel
theorem rows_w : rowsF 3 (walkN 3 (3 - 1) 2) = [1, 0] := by decide +kernel
/-- The rows' numbers behind one another. -/
def valN (l : List Int) : Int := l.foldl (fun n k => 10 * n + k + 1) 0
theorem valN_snoc (l : List Int) (x : Int) : valN (l ++ [x]) = 10 * valN l + x + 1 := by unfold valN; rw [List.foldl_append]; rfl
theorem col_ok (a b : UInt8) : ColOk 3 1 [[a], [b]] := ⟨by decide, ⟨rfl, fun k hk => (by
  have hk2 : k = 0 ∨ k = 1 := by have : k < 2 := hk; omega
  rcases hk2 with rfl | rfl <;> exact ⟨⟨by show 1 ≤ 1; omega, by show 1 ≤ 64; omega⟩, rfl⟩)⟩, by decide, by decide⟩
theorem below_to {g : Nat} {A X Y : World} (h : Below g A X) (h' : Below X.heap.size X Y) (hg : g ≤ X.heap.size := by omega) : Below g A Y := h.trans (h'.mono hg)
set_option maxRecDepth 100000 in
set_option maxHeartbeats 4000000 in
theorem works_any (w : World) (hL : Laid w) : Calls Tryd.prog 10 #[] w fun e w' => e = .returned (.bool true) ∧ Below w.heap.size w w' := by
  have HT1 := Lib.hid (fun (U : World) (v : Value) (hU : Laid U) (hM : Many U.heap.size U v [[1], [2]]) => by
    have h := turn_yes 3 2 1 rfl [[1], [2]] v 1 (by decide) (by decide) (col_ok 1 2) U hU (Nat.le_refl _) hM
    rw [row_t1] at h; rw [show ((3 : Nat) : Int) = 3 from rfl] at h; exact h)
  have HT2 := Lib.hid (fun (U : World) (v : Value) (hU : Laid U) (hM : Many U.heap.size U v [[1], [2]]) => by
    have h := turn_yes 3 2 1 rfl [[1], [2]] v 2 (by decide) (by decide) (col_ok 1 2) U hU (Nat.le_refl _) hM
    rw [row_t2] at h; rw [show ((3 : Nat) : Int) = 3 from rfl] at h; exact h)
  have HST := Lib.hid (fun (U : World) (v : Value) (hU : Laid U) (hM : Many U.heap.size U v [[1], [2]]) => by
    have h := stretch_yes 3 2 1 rfl [[1], [2]] v 1 (by decide) (by decide) (col_ok 1 2) U hU (Nat.le_refl _) hM
    rw [row_s] at h; rw [show ((3 : Nat) : Int) = 3 from rfl] at h; exact h)
  have HSD := Lib.hid (fun (U : World) (v : Value) (hU : Laid U) (hM : Many U.heap.size U v [[3], [1]]) => by
    have h := slacken_yes 3 2 1 rfl [[3], [1]] v 1 (by decide) (by decide) (col_ok 3 1) (by decide) U hU (Nat.le_refl _) hM
    rw [row_d] at h; rw [show ((3 : Nat) : Int) = 3 from rfl] at h; exact h)
  have HSZ := Lib.hid (fun (U : World) (v : Value) (hU : Laid U) (hM : Many U.heap.size U v [[3], [1]]) => by
    have h := slacken_zero 3 2 1 rfl [[3], [1]] v 3 (by decide) (by decide) (col_ok 3 1) (by decide) U hU (Nat.le_refl _) hM
    rw [show ((3 : Nat) : Int) = 3 from rfl] at h; exact h)
  have HRW := Lib.hid (fun (U : World) (hU : Laid U) => rowsT_yes 3 2 (by decide) (by decide) (by decide) U hU)
  have HSM := Lib.hid (fun (U : World) (v v2 : Value) (a b : UInt8) (h1 : Many U.heap.size U v [[a], [b]]) (h2 : Many U.heap.size U v2 [[a], [b]]) => sameCol_any v v2 _ _ U h1 h2 (by show 2 ≤ 100000; omega) (by show 2 ≤ 100000; omega))
  simp only [decide_true] at HSM
  refine (callsIn_wide (n := 9)).1 ?_
  refine callsIn_of_wp_marks Tryd.func10 rfl trivial ?_ rfl
  simp only [Tryd.ntmps10, List.size_toArray, List.length_cons, List.length_nil, Nat.reduceAdd, Nat.reduceSub, Array.replicate_succ, Array.replicate_zero, List.push_toArray, List.append_toArray, List.nil_append, List.cons_append]
  have hc := many_C 1 2 1 2 rfl rfl w
  have hBw := allocs_below w (osC 1 2 w)
  gi_wp2_with fail
  refine ⟨trivial, (callsIn_wide.2 (HT1.out _ _ (hL.next hBw) hc)).mono ?_⟩
  rintro e w1 ⟨ua, rfl, hf, hB⟩
  have ha := hf.many
  replace hc := (hc.below hB).more hB.size
  replace hBw := below_in hBw hB
  obtain ⟨A1, k1, rfl, _, _⟩ := id hf
  clear hf hB
  gi_wp2_with fail
  refine ⟨trivial, (callsIn_wide.2 (HT2.out _ _ (hL.next hBw) hc)).mono ?_⟩
  rintro e w2 ⟨ub, rfl, hf, hB⟩
  have hb := hf.many
  replace hc := (hc.below hB).more hB.size
  replace ha := (ha.below hB).more hB.size
  replace hBw := below_in hBw hB
  obtain ⟨A2, k2, rfl, _, _⟩ := id hf
  clear hf hB
  gi_wp2_with fail
  refine ⟨trivial, (callsIn_wide.2 (HST.out _ _ (hL.next hBw) hc)).mono ?_⟩
  rintro e w3 ⟨us, rfl, hf, hB⟩
  have hs := hf.many
  replace hc := (hc.below hB).more hB.size
  replace ha := (ha.below hB).more hB.size
  replace hb := (hb.below hB).more hB.size
  replace hBw := below_in hBw hB
  obtain ⟨A3, k3, rfl, _, _⟩ := id hf
  clear hf hB
  gi_wp2_with fail
  refine ⟨trivial, (callsIn_wide.2 (HSD.out _ _ (hL.next hBw) hs)).mono ?_⟩
  rintro e w4 ⟨ud, rfl, hf, hB⟩
  have hd := hf.many
  replace hc := (hc.below hB).more hB.size
  replace ha := (ha.below hB).more hB.size
  replace hb := (hb.below hB).more hB.size
  replace hs := (hs.below hB).more hB.size
  replace hBw := below_in hBw hB
  obtain ⟨A4, k4, rfl, _, _⟩ := id hf
  clear hf hB
  gi_wp2_with fail
  refine ⟨trivial, (callsIn_wide.2 (HSZ.out _ _ (hL.next hBw) hs)).mono ?_⟩
  rintro e w5 ⟨rfl, hB⟩
  have hB6 := below_one w5 (.cells #[.int .i64 0] 3)
  have b6 := Blk.new w5 3 #[.int .i64 0]
  replace hc := (hc.below hB).more hB.size
  replace ha := (ha.below hB).more hB.size
  replace hb := (hb.below hB).more hB.size
  replace hs := (hs.below hB).more hB.size
  replace hd := (hd.below hB).more hB.size
  replace hBw := below_in hBw hB
  have hbw5 := hBw.size
  clear hB
  gi_wp2_with fail
  have hmore : ∀ X : World, Below w5.heap.size w5 X → Many X.heap.size X (.slice A1 2 k1) [[2], [3]] ∧ Many X.heap.size X (.slice A2 2 k2) [[3], [1]] ∧ Many X.heap.size X (.slice A3 2 k3) [[3], [1]] ∧ Many X.heap.size X (.slice A4 2 k4) [[1], [2]] ∧ Many X.heap.size X (.slice (some ⟨w.heap.size + 1 + 1, 0, none⟩) 2 2) [[1], [2]] := fun X hB => ⟨(ha.below hB).more hB.size, (hb.below hB).more hB.size, (hs.below hB).more hB.size, (hd.below hB).more hB.size, (hc.below hB).more hB.size⟩
  have HMO := Lib.hid hmore
  clear hmore ha hb hs hd hc
  obtain ⟨W6, hW6⟩ : ∃ x, w5.alloc (.cells #[.int .i64 0] 3) = x := ⟨_, rfl⟩
  rw [hW6] at b6 hB6
  rw [hW6]
  have s6 : w5.heap.size < W6.heap.size := b6.lt
  replace hBw := below_in hBw hB6
  clear hW6
  obtain ⟨g, hg⟩ : ∃ x, w5.heap.size = x := ⟨_, rfl⟩
  rw [hg] at s6 b6 HMO hB6 hbw5 ⊢
  clear hg
  refine ⟨trivial, (callsIn_wide.2 (HRW.out _ (hL.next hBw))).mono ?_⟩
  rintro e w7 ⟨v7, rfl, ⟨gf7, lb7, rfl, _, heq7, _⟩, hB7⟩
  have hq7 := heq7 w7
  gi_wp2_with fail
  refine ⟨trivial, (callsIn_wide.2 (HRW.out _ (hL.next (below_in hBw hB7)))).mono ?_⟩
  rintro e w8 ⟨v8, rfl, ⟨gf, lb, rfl, hen, _, hsq⟩, hB8⟩
  have HSQ := Lib.hid hsq
  clear hsq hq7 heq7
  have h68 := below_in hB7 hB8
  have hs78 := hB7.size
  have hs88 := hB8.size
  have b8 : Blk w8 g 3 #[.int .i64 (valN [])] := b6.below h68 b6.lt
  clear b6
  have hwl : (walkN 3 (3 - 1) 2).length = 3 := by decide +kernel
  gi_wp2_with fail
  refine wpIn_rangeActT (N := (walkN 3 (3 - 1) 2).length) rfl (by omega) (gf := gf) (lb := lb) rfl trivial hen (HSQ.out 8 (by omega)) (fun h h' => h.trans h') (fun W l ob h1 _ _ => Keep.putFar W (by omega) ob) (Below.refl _ _) (fun _ => rfl)
    (fun pre X => (0 ≤ valN pre ∧ valN pre + 1 ≤ 100 ^ pre.length) ∧ Blk X g 3 #[.int .i64 (valN pre)] ∧ Below g w8 X)
    (fun c pre X => False ∧ Blk X g 3 #[.int .i64 (valN pre)] ∧ Below g w8 X)
    (farO_turn (fun pre : List Int => (0 ≤ valN pre ∧ valN pre + 1 ≤ 100 ^ pre.length)) (fun pre => #[.int .i64 (valN pre)]) 3 b8.lt (Nat.le_of_lt b8.lt) (Nat.le_of_lt b8.lt))
    (fun c => farO_turn (fun pre : List Int => False) (fun pre => #[.int .i64 (valN pre)]) 3 b8.lt (Nat.le_of_lt b8.lt) (Nat.le_of_lt b8.lt))
    ⟨⟨by decide, by decide⟩, b8, Below.refl _ _⟩ ?actA
    (fun pre z X => 0 ≤ z ∧ z < 3 - 1)
    (fun pre z W l ob r hl h => h)
    ?assignA ?bodyA ?doneA ?stopA
  case assignA =>
    intro l' pre z X K hsz hI2 hok hK
    have hK2 := hK X (Below.refl _ _) (Keep.refl _ _ _) hI2 hok
    clear hK hI2 hok
    gi_wp2
    exact hK2
  case bodyA =>
    rintro l' pre z X hsz ⟨⟨v0, v1⟩, hn, hB⟩ ⟨z0, z1⟩ hlen
    have cn := hn.one
    have fn := hn.frozen 0
    have hp1 : (100 : Int) ^ pre.length ≤ 10000 := by
      have : pre.length = 0 ∨ pre.length = 1 ∨ pre.length = 2 := by omega
      rcases this with h | h | h <;> rw [h] <;> decide
    have hvs := valN_snoc pre z
    have hlt := hn.lt
    have hps : (100 : Int) ^ (pre ++ [z]).length = 100 ^ pre.length * 100 := by rw [List.length_append]; exact Int.pow_succ ..
    have hT : Hid ((0 ≤ valN (pre ++ [z]) ∧ valN (pre ++ [z]) + 1 ≤ 100 ^ (pre ++ [z]).length) ∧ Blk (X.setCell ⟨g, 0, none⟩ (.int .i64 (10 * valN pre + z + 1))) g 3 #[.int .i64 (valN (pre ++ [z]))] ∧ Below g w8 (X.setCell ⟨g, 0, none⟩ (.int .i64 (10 * valN pre + z + 1)))) := by
      refine ⟨⟨by omega, by rw [hps]; omega⟩, ?_, hB.setCell (Nat.le_refl _) _⟩
      rw [hvs]
      exact hn.set_ 0 _
    have hks : Keep W6.heap.size (w8.heap.size - W6.heap.size) X (X.setCell ⟨g, 0, none⟩ (.int .i64 (10 * valN pre + z + 1))) := Keep.setCell X (by show g < W6.heap.size; omega) _
    have hks7 : Keep w7.heap.size (w8.heap.size - w7.heap.size) X (X.setCell ⟨g, 0, none⟩ (.int .i64 (10 * valN pre + z + 1))) := Keep.setCell X (by show g < w7.heap.size; omega) _
    have hss : Go.Proofs.YtckfepmahjgmfaaDoor.T.SinceO w8.heap.size (fun _ => False) X (X.setCell ⟨g, 0, none⟩ (.int .i64 (10 * valN pre + z + 1))) := ⟨by simp, fun b h1 h2 h3 => Below.heap_setCell X _ (.int .i64 (10 * valN pre + z + 1)) b (by show b ≠ g; omega)⟩
    generalize valN pre = vn at *
    clear hvs hps
    try dsimp only
    gi_wp2
    first
      | exact ⟨fun _ => False, Go.Proofs.YtckfepmahjgmfaaDoor.T.FreshO.refl _ _, hss, hks7, rfl, hT.out⟩
      | exact ⟨fun _ => False, Go.Proofs.YtckfepmahjgmfaaDoor.T.FreshO.refl _ _, hss, hks, rfl, hT.out⟩
  case stopA =>
    rintro D c pre X hD hsp ⟨h, _⟩ hK
    exact h.elim
  case doneA =>
    rintro D xs X hD hxs ⟨_, hn, hB⟩ hK
    subst hxs
    rw [rows_w, show valN [1, 0] = 21 from rfl] at hn
    have hB8X : Below g w5 X := (hB6.trans (h68.mono (by omega))).trans hB
    have hX0 := Below.refl X.heap.size X
    have cn := hn.one
    have hlt := hn.lt
    gi_wp2_with fail
    refine ⟨trivial, (callsIn_wide.2 (num_any _ _)).mono ?_⟩
    rintro e w' ⟨rfl, rfl⟩
    gi_wp2_with fail
    refine ⟨trivial, (callsIn_wide.2 (num_any _ _)).mono ?_⟩
    rintro e w' ⟨rfl, rfl⟩
    gi_wp2_with fail
    refine ⟨trivial, (callsIn_wide.2 (num_any _ _)).mono ?_⟩
    rintro e w' ⟨rfl, rfl⟩
    gi_wp2_with fail
    refine ⟨trivial, (callsIn_wide.2 (num_any _ _)).mono ?_⟩
    rintro e w' ⟨rfl, rfl⟩
    gi_wp2_with fail
    have hf1 := many_C 2 3 2 3 rfl rfl X
    have hBf := below_in hX0 (allocs_below X (osC 2 3 X))
    refine ⟨trivial, (callsIn_wide.2 (HSM.out _ _ _ 2 3 (HMO.out _ (below_to hB8X hBf)).1 hf1)).mono ?_⟩
    rintro e y1 ⟨rfl, hB⟩
    have hX1 := below_in hBf hB
    clear hB hBf
    clear hf1
    gi_wp2_with fail
    have hf2 := many_C 3 1 3 1 rfl rfl y1
    have hBf := below_in hX1 (allocs_below y1 (osC 3 1 y1))
    refine ⟨trivial, (callsIn_wide.2 (HSM.out _ _ _ 3 1 (HMO.out _ (below_to hB8X hBf)).2.1 hf2)).mono ?_⟩
    rintro e y2 ⟨rfl, hB⟩
    have hX2 := below_in hBf hB
    clear hB hBf
    clear hf2
    gi_wp2_with fail
    have hBf := hX2
    refine ⟨trivial, (callsIn_wide.2 (HSM.out _ _ _ 3 1 (HMO.out _ (below_to hB8X hBf)).2.2.1 (HMO.out _ (below_to hB8X hBf)).2.1)).mono ?_⟩
    rintro e y3 ⟨rfl, hB⟩
    have hX3 := below_in hBf hB
    clear hB hBf
    gi_wp2_with fail
    have hBf := hX3
    refine ⟨trivial, (callsIn_wide.2 (HSM.out _ _ _ 1 2 (HMO.out _ (below_to hB8X hBf)).2.2.2.1 (HMO.out _ (below_to hB8X hBf)).2.2.2.2)).mono ?_⟩
    rintro e y4 ⟨rfl, hB⟩
    have hX4 := below_in hBf hB
    clear hB hBf
    gi_wp2_with fail
    refine ⟨trivial, (callsIn_wide.2 (num_any _ _)).mono ?_⟩
    rintro e w' ⟨rfl, rfl⟩
    have cn4 := (hn.below hX4 hn.lt).one
    gi_wp2_with fail
    have hDl := (Array.getElem?_eq_some_iff.1 hK).1
    have hKf := (hX4.block D hDl).trans hK
    refine ⟨by simp, .inl ⟨_, _, rfl, run_takeDeferred hKf, ?_⟩⟩
    exact ⟨.bool true, by simp [results, Tryd.results10, go_sem], rfl, (((hBw.trans (h68.mono (by omega))).trans (hB.mono hbw5)).trans (hX4.mono (by omega))).trans (belowK_b (w := w) (Nat.le_refl _) _ D _ _ (by omega) hKf rfl rfl)⟩
end Go.Proofs.YtckfepmahjgmfaaDoor.Rg

namespace Go.Proofs.YtckfepmahjgmfaaDoor.Rg
open Go.RowKit Go.Shelf Go.Maps Go.Proofs.YtckfepmahjgmfaaDoor.C Go.Proofs.YtckfepmahjgmfaaDoor.E
set_option linter.unusedSimpArgs false
set_option linter.unusedVariables false
attribute [local go_sem] Oper.semAt_some

theorem RowG.own_lt {α : Type} {r : Rep α} {t : TypeId} {d : α} {Q : Nat → Prop} {W : World} {base : Nat} {v : Value} {xs : List α} (h : RowG r t d Q W base v xs) (k : Nat) (e : v.ownBlock = some k) : k < W.heap.size := by
  obtain ⟨us, ho, _⟩ := h
  exact (World.ownsRow.lt ho k e).2
theorem map_next {α β : Type} (g : α → β) (d : α) (xs : List α) {k : Nat} (hk : k < xs.length) : (xs.map g).take (k + 1) = (xs.map g).take k ++ [g (xs[k]?.getD d)] := by
  rw [List.take_succ_eq_append_getElem (by rw [List.length_map]; exact hk), List.getElem_map, List.getElem?_eq_getElem hk]
  rfl
section
variable {Q : Nat → Prop} {base : Nat} {v : Value}
theorem opIn_pushM {F : Fence} {nF : Nat} {T : TypeId} (w : World) {o : Oper} {a : Act} {K : Act → World → Prop} {QQ : Exit → Act → World → Prop} (s x : Operand)
    (ho : o.op = .call { callee := .builtin .append, args := #[s, x], argTypes := #[T, T] }) (hT : Tryd.prog.underlying T = some (.slice 48)) (ls : List (List UInt8)) (hs : a.eval s = v) (h : RowM Q w base v ls)
    (g : Nat) (tg : TypeId) (u : Value) (l : List UInt8) (hx : a.eval x = .slice (some ⟨g, 0, none⟩) 1 1) (hg : Blk w g tg #[u]) (hu : BytesP (fun b => b < w.heap.size ∧ some b ≠ v.ownBlock ∧ Q b) w u l) (hlen : ls.length ≤ 100000) (hbase : base ≤ w.heap.size)
    (hK : ∀ v' w', RowM Q w' base v' (ls ++ [l]) → w.grownBy w' v.ownBlock → (v'.ownBlock = v.ownBlock ∨ v'.ownBlock = some w.heap.size) → K (a.put o.dst v') w') : Oper.wpIn F nF Tryd.prog o a w K QQ := by
  obtain ⟨i, hi, hz0, hz1, hz2⟩ := info_parts Tryd.infoSlcE
  obtain ⟨v', w', hrun, h1, h2, h3⟩ := RowG.push i hi hz0 hz1 hz2 T o.type hT h g tg u l hg hu hlen hbase
  unfold Oper.wpIn
  refine ⟨by simp [Oper.about, ho, resolve, Target.leads, Sem.run_pure], ?_⟩
  rw [Oper.semAt_plain F _ _ (by rw [ho]; intro c hc'; cases hc')]
  simp [execOp, ho, resolve, invoke, builtin, hs, hx, hrun, Result.andThen, Oper.uponIn]
  exact hK v' w' h1 h2 h3
end
/-- Two columns of one shape, put upon one another. -/
def putC (a b : List (List UInt8)) : List (List UInt8) := (List.range a.length).map fun i => xorB (a[i]?.getD []) (b[i]?.getD [])
theorem putC_next (xs ys : List (List UInt8)) {k : Nat} (hk : k < xs.length) : (putC xs ys).take (k + 1) = (putC xs ys).take k ++ [xorB (xs[k]?.getD []) (ys[k]?.getD [])] := by
  unfold putC
  rw [map_next _ 0 _ (by rw [List.length_range]; exact hk), List.getElem?_range hk]
  rfl
theorem RowM.many_ {Q : Nat → Prop} {W : World} {base : Nat} {v : Value} {ls : List (List UInt8)} (h : RowM Q W base v ls) : Many W.heap.size W v ls := manyR_iff.1 (RowM.many h fun b hb _ => hb)
set_option maxRecDepth 100000 in
set_option maxHeartbeats 4000000 in
theorem putD_any {B : Nat} (v1 v2 : Value) (a b : List (List UInt8)) (k n : Nat) (w : World) (hB : B ≤ w.heap.size) (hA : Many B w v1 a) (hD : Many B w v2 b) (ha : a.length = k) (hb : b.length = k) (hk : k ≤ 1000) (hla : ∀ i, i < k → (a[i]?.getD []).length = n) (hlb : ∀ i, i < k → (b[i]?.getD []).length = n) (hn : n ≤ 1000) :
    Calls Tryd.prog 20 #[v1, v2] w fun e w' => ∃ u, e = .returned u ∧ Many w'.heap.size w' u (putC a b) ∧ Below w.heap.size w w' := by
  obtain ⟨A, cap, rfl, _, _⟩ := id hA
  obtain ⟨A', cap', rfl, _, _⟩ := id hD
  have HA := Lib.hid hA
  have HD := Lib.hid hD
  have HLA0 := Lib.hid hla
  have HLB0 := Lib.hid hlb
  have HKA := Lib.hid ha
  have HKB := Lib.hid hb
  have HPN : Hid (∀ m, m < k → (putC a b).take (m + 1) = (putC a b).take m ++ [xorB (a[m]?.getD []) (b[m]?.getD [])]) := fun m hm => putC_next a b (by rw [ha]; exact hm)
  have HPL0 : Hid ((putC a b).length = k) := by unfold Hid putC; rw [List.length_map, List.length_range, ha]
  rw [ha, hb]
  clear ha hb hA hD hla hlb
  go_enter Tryd.func20, Tryd.ntmps20
  go_wp2
  go_loopw [5, 6] (fun v i wr => ∃ m : Nat, m ≤ k ∧ i = .int .i64 m ∧ RowM (fun _ => True) wr w.heap.size v ((putC a b).take m) ∧ Below w.heap.size w wr) (fun _ i _ => k - (intOf i).toNat)
  case atStart => exact ⟨0, Nat.zero_le _, rfl, RowG.nil _ _ _ _ _ _, Below.refl _ _⟩
  case round =>
    obtain ⟨m, hm, rfl, hrow, hBs⟩ := hrel
    by_cases hlt : m < k
    · have hdec : decide ((m : Int) < (k : Int)) = true := by simp; omega
      have hA0 := HA.out
      have hD0 := HD.out
      obtain ⟨b1, off1, e1, hb1, hrow1⟩ := many_at hA0 (by have := HKA.out; omega)
      obtain ⟨d1, off2, e2, hd1, hrow2⟩ := many_at hD0 (by have := HKB.out; omega)
      subst e1 e2
      obtain ⟨Aa, ca, hc1, hy1⟩ := hrow1 m (by have := HKA.out; omega)
      obtain ⟨Ab, cb, hc2, hy2⟩ := hrow2 m (by have := HKB.out; omega)
      have HLA := Lib.hid (HLA0.out m hlt)
      have HLB := Lib.hid (HLB0.out m hlt)
      rw [HLA.out] at hc1 hy1
      rw [HLB.out] at hc2 hy2
      have HNX := Lib.hid (HPN.out m hlt)
      have HPL : Hid (((putC a b).take m).length ≤ 1000) := by unfold Hid; rw [List.length_take]; omega
      have HXA := Lib.hid (fun (V : World) (hV : Below w.heap.size w V) => hy1.below (hV.mono hB))
      have HXB := Lib.hid (fun (V : World) (hV : Below w.heap.size w V) => hy2.below (hV.mono hB))
      have HSS : Hid (∀ V, Below w.heap.size w V → (fun U : World => U.cell? ⟨b1, off1 + m, none⟩ = some (.slice Aa n ca) ∧ U.cell? ⟨d1, off2 + m, none⟩ = some (.slice Ab n cb)) V) := fun V hV => ⟨(hV.cell (p := ⟨b1, off1 + m, none⟩) (Nat.lt_of_lt_of_le hb1 hB)).trans hc1, (hV.cell (p := ⟨d1, off2 + m, none⟩) (Nat.lt_of_lt_of_le hd1 hB)).trans hc2⟩
      clear hrow1 hrow2 hA0 hD0 hc1 hc2 hy1 hy2
      generalize a[m]?.getD [] = xa1 at *
      generalize b[m]?.getD [] = xb1 at *
      generalize (putC a b).take m = pre at *
      have HLX : Hid ((xorB xa1 xb1).length = n) := by unfold Hid; rw [xorB_len]; exact HLA.out
      have i1 : (0 : Int) ≤ (m : Int) := by omega
      have i2 : (m : Int) < (k : Int) := by omega
      have HVLT := Lib.hid (fun b e => RowG.own_lt hrow b e)
      have HVLE := Lib.hid (fun b e => RowG.own_le hrow b e)
      go_wp2_with fail
      have hS : (fun U : World => U.cell? ⟨b1, off1 + m, none⟩ = some (.slice Aa n ca) ∧ U.cell? ⟨d1, off2 + m, none⟩ = some (.slice Ab n cb)) wr.drew := HSS.out _ hBs.drew
      refine (wpIn_wide (n := 12)).1 (wpIn_mono (region_HF (Q := NoPanic _) (S := (fun U : World => U.cell? ⟨b1, off1 + m, none⟩ = some (.slice Aa n ca) ∧ U.cell? ⟨d1, off2 + m, none⟩ = some (.slice Ab n cb))) (by kernel_rfl) ?_) NoPanic.imp)
      refine anyHF_take (i := 0) (d := 13) (v := u5) (by kernel_rfl) rfl (by kernel_rfl) (by kernel_rfl) (by kernel_rfl) rfl (fun _ _ _ h => h) ⟨Or.inl ⟨by rfl, fun w hS => by obtain ⟨h0, h1⟩ := hS; go_simp⟩, fun _ => rfl⟩ hS ?_
      simp only [List.setIfInBounds_toArray, List.set_cons_zero, List.set_cons_succ]
      refine anyHF_take (i := 1) (d := 14) (v := .slice (some ⟨b1, off1, none⟩) k cap) (by kernel_rfl) rfl (by kernel_rfl) (by kernel_rfl) (by kernel_rfl) rfl (fun _ _ _ h => h) ⟨Or.inl ⟨by rfl, fun w hS => by obtain ⟨h0, h1⟩ := hS; go_simp⟩, fun _ => rfl⟩ hS ?_
      simp only [List.setIfInBounds_toArray, List.set_cons_zero, List.set_cons_succ]
      refine anyHF_take (i := 2) (d := 15) (v := .int .i64 (m : Int)) (by kernel_rfl) rfl (by kernel_rfl) (by kernel_rfl) (by kernel_rfl) rfl (fun _ _ _ h => h) ⟨Or.inl ⟨by rfl, fun w hS => by obtain ⟨h0, h1⟩ := hS; go_simp⟩, fun _ => rfl⟩ hS ?_
      simp only [List.setIfInBounds_toArray, List.set_cons_zero, List.set_cons_succ]
      refine anyHF_take (i := 3) (d := 16) (v := .pointer (some ⟨b1, off1 + m, none⟩)) (by kernel_rfl) rfl (by kernel_rfl) (by kernel_rfl) (by kernel_rfl) rfl (fun _ _ _ h => h) ⟨Or.inl ⟨by rfl, fun w hS => by obtain ⟨h0, h1⟩ := hS; go_simp⟩, fun _ => rfl⟩ hS ?_
      simp only [List.setIfInBounds_toArray, List.set_cons_zero, List.set_cons_succ]
      refine anyHF_take (i := 4) (d := 17) (v := .slice Aa n ca) (by kernel_rfl) rfl (by kernel_rfl) (by kernel_rfl) (by kernel_rfl) rfl (fun _ _ _ h => h) ⟨Or.inl ⟨by rfl, fun w hS => by obtain ⟨h0, h1⟩ := hS; go_simp⟩, fun _ => rfl⟩ hS ?_
      simp only [List.setIfInBounds_toArray, List.set_cons_zero, List.set_cons_succ]
      refine anyHF_take (i := 5) (d := 18) (v := .slice (some ⟨d1, off2, none⟩) k cap') (by kernel_rfl) rfl (by kernel_rfl) (by kernel_rfl) (by kernel_rfl) rfl (fun _ _ _ h => h) ⟨Or.inl ⟨by rfl, fun w hS => by obtain ⟨h0, h1⟩ := hS; go_simp⟩, fun _ => rfl⟩ hS ?_
      simp only [List.setIfInBounds_toArray, List.set_cons_zero, List.set_cons_succ]
      refine anyHF_take (i := 6) (d := 19) (v := .int .i64 (m : Int)) (by kernel_rfl) rfl (by kernel_rfl) (by kernel_rfl) (by kernel_rfl) rfl (fun _ _ _ h => h) ⟨Or.inl ⟨by rfl, fun w hS => by obtain ⟨h0, h1⟩ := hS; go_simp⟩, fun _ => rfl⟩ hS ?_
      simp only [List.setIfInBounds_toArray, List.set_cons_zero, List.set_cons_succ]
      refine anyHF_take (i := 7) (d := 20) (v := .pointer (some ⟨d1, off2 + m, none⟩)) (by kernel_rfl) rfl (by kernel_rfl) (by kernel_rfl) (by kernel_rfl) rfl (fun _ _ _ h => h) ⟨Or.inl ⟨by rfl, fun w hS => by obtain ⟨h0, h1⟩ := hS; go_simp⟩, fun _ => rfl⟩ hS ?_
      simp only [List.setIfInBounds_toArray, List.set_cons_zero, List.set_cons_succ]
      refine anyHF_take (i := 8) (d := 21) (v := .slice Ab n cb) (by kernel_rfl) rfl (by kernel_rfl) (by kernel_rfl) (by kernel_rfl) rfl (fun _ _ _ h => h) ⟨Or.inl ⟨by rfl, fun w hS => by obtain ⟨h0, h1⟩ := hS; go_simp⟩, fun _ => rfl⟩ hS ?_
      simp only [List.setIfInBounds_toArray, List.set_cons_zero, List.set_cons_succ]
      refine anyHF_one (i := 9) (by kernel_rfl) rfl (by kernel_rfl) (by rfl) ?_
      gi_wp2_with fail
      refine ⟨trivial, (callsIn_wide.2 (rput_any _ _ xa1 xb1 _ ((HXA.out _ (hBs.drew)).more (by have := hBs.size; simp; omega)) ((HXB.out _ (hBs.drew)).more (by have := hBs.size; simp; omega)) (by rw [HLA.out, HLB.out]; exact Nat.le_refl _) (by rw [HLA.out]; omega))).mono ?_⟩
      rintro e wn ⟨v', rfl, hown, hBn⟩
      replace hBn := below_undrew hBn
      have hfr := hown.fresh
      obtain ⟨Ax, cx, hxe, _, _⟩ := id hfr
      rw [HLX.out] at hxe
      subst hxe
      clear hown
      clear hS
      have hS : (fun U : World => U.cell? ⟨b1, off1 + m, none⟩ = some (.slice Aa n ca) ∧ U.cell? ⟨d1, off2 + m, none⟩ = some (.slice Ab n cb)) wn := HSS.out _ (below_in hBs hBn)
      gi_wp2
      try (refine ⟨hS, ?_⟩)
      refine anyHF_one (i := 10) (by kernel_rfl) rfl (by kernel_rfl) (by rfl) ?_
      have hcells : Below wn.heap.size wn (wn.alloc (.cells #[.slice Ax n cx] 48)) := below_one wn _
      have hBc := below_in hBn hcells
      have HROWM := Lib.hid (RowG.below hrow hBc)
      have HBLK := Lib.hid (Blk.new wn 48 #[.slice Ax n cx])
      have hss := hBs.size
      have hdr : wr.drew.heap.size = wr.heap.size := rfl
      have hbn := hBn.size
      have hcs := hcells.size
      have HBY : Hid (BytesP (fun b => b < (wn.alloc (.cells #[.slice Ax n cx] 48)).heap.size ∧ some b ≠ u5.ownBlock ∧ True) (wn.alloc (.cells #[.slice Ax n cx] 48)) (.slice Ax n cx) (xorB xa1 xb1)) := by
            obtain ⟨A8, cp8, e8, h8, hA8⟩ := hfr.below hcells
            refine ⟨A8, cp8, by rw [← HLX.out] at e8 ⊢; exact e8, h8, fun hp => ?_⟩
            obtain ⟨b, off, q1, q2, q3, q4⟩ := hA8 hp
            exact ⟨b, off, q1, ⟨q3, fun e => (by have := HVLT.out b e.symm; omega), trivial⟩, q4⟩
      clear hfr hS
      have hS : (fun U : World => U.cell? ⟨b1, off1 + m, none⟩ = some (.slice Aa n ca) ∧ U.cell? ⟨d1, off2 + m, none⟩ = some (.slice Ab n cb)) (wn.alloc (.cells #[.slice Ax n cx] 48)) := HSS.out _ (below_in hBs hBc)
      gi_wp2
      try (refine ⟨hS, ?_⟩)
      refine anyHF_one (i := 11) (by kernel_rfl) rfl (by kernel_rfl) (by rfl) ?_
      refine opIn_pushM (T := 23) (v := u5) _ (.tmp 13) (.tmp 23) rfl Tryd.underlying23 pre rfl HROWM.out wn.heap.size 48 _ (xorB xa1 xb1) rfl HBLK.out HBY.out (by have := HPL.out; omega) (by omega) ?_
      intro v' w4 hrow4 hgrow4 hown4
      clear hS
      have hB4 : Below w.heap.size w w4 := below_grown (below_in hBs hBc) hgrow4 (by omega) (fun g e => HVLE.out g e)
      have hS : (fun U : World => U.cell? ⟨b1, off1 + m, none⟩ = some (.slice Aa n ca) ∧ U.cell? ⟨d1, off2 + m, none⟩ = some (.slice Ab n cb)) w4 := HSS.out _ hB4
      gi_wp2_with fail
      try (refine ⟨hS, ?_⟩)
      refine anyHF_one (i := 12) (by kernel_rfl) rfl (by kernel_rfl) (by rfl) ?_
      gi_wp2
      refine anyHF_done (by kernel_rfl) ?_ _
      refine NoPanic.normal ?_
      clear hS
      gi_wp2_with fail
      go_wp2
      go_roundw
      case rel => exact ⟨m + 1, by omega, by go_num, by rw [HNX.out]; exact hrow4, hB4⟩
      case measure => simp [intOf]; omega
    · obtain rfl : m = k := by omega
      have e1 : decide ((m : Int) < (m : Int)) = false := by simp
      have HE : Hid ((putC a b).take m = putC a b) := by unfold Hid; rw [List.take_of_length_le]; rw [HPL0.out]; exact Nat.le_refl _
      rw [HE.out] at hrow
      go_wp2
      go_ret
      exact ⟨_, rfl, RowM.many_ hrow, hBs⟩
end Go.Proofs.YtckfepmahjgmfaaDoor.Rg

