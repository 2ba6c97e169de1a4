/- Walk, Meet. -/
import Derived.Test.YtggdlklkjnbbjaaGreatDoorMwF
namespace Go.Proofs.YtggdlklkjnbbjaaGreatDoor
open Go.RowKit Go.Shelf
attribute [local go_sem] Oper.semAt_some

theorem none_in (n : Nat) (l : Nat) (J Jx : List Int → World → Prop) (W : World) (h0 : J [] W) :
    CallsIn Fence.wide n Tryz.prog 153 #[.func (.yield l) #[] #[]] W fun e W' => (∃ v, e = .returned v) ∧ ((∃ ys : List Int, ys = [] ∧ J ys W') ∨ (∃ pre, pre <+: [] ∧ Jx pre W')) := by
  refine callsIn_of_wp Tryz.func153 rfl trivial ?_ rfl
  simp only [Tryz.ntmps153, List.size_toArray, List.length_cons, List.length_nil, Nat.reduceAdd, Nat.reduceSub, Array.replicate_succ, Array.replicate_zero, List.push_toArray, List.append_toArray, List.nil_append, List.cons_append]
  gi_wp2
  go_end0
  exact ⟨⟨_, rfl⟩, .inl ⟨_, rfl, h0⟩⟩
theorem none_goes (lo n₀ : Nat) (w : World) : Goes lo n₀ 153 #[] [] w := ⟨0, fun n _ l J Jx W _ _ _ _ h0 => none_in n l J Jx W h0⟩
theorem enter_none : ∀ args W, (callFunc 153 args).run Tryz.prog W = .ok (.enter 153 args) W := enters_of Tryz.func153 (by kernel_rfl) rfl

/-- A value that goes over the numbers zs, and is no nil. -/
def Over (lo : Nat) (zs : List Int) (v : Value) (w : World) : Prop :=
  ∃ gf lb, v = .func (.func gf) #[] lb ∧ (∀ args W, (callFunc gf args).run Tryz.prog W = .ok (.enter gf args) W) ∧ (∀ W, (binOp .eql 135 v .nilFunc).run Tryz.prog W = .ok (.bool false) W) ∧ Goes lo w.heap.size gf lb zs w
theorem Over.less {lo lo' : Nat} {zs : List Int} {v : Value} {w : World} (h : Over lo zs v w) (hl : lo' ≤ lo) (hw : lo ≤ w.heap.size) : Over lo' zs v w := by
  obtain ⟨gf, lb, e, eg, eq, k, hg⟩ := h
  exact ⟨gf, lb, e, eg, eq, k, fun n hn l J Jx W hW hJ hJx hY h0 => hg n hn l J Jx W hW hJ hJx (fun pre x W1 hj hl' hs => (hY pre x W1 hj hl' hs).mono fun _ _ h => h.imp (fun ⟨h1, h2, h3, h4⟩ => ⟨h1, h2, h3.less hl (by omega), h4⟩) id) h0⟩
/-- What Walk goes over. -/
def walkN (p a s : Int) : List Int := if p ∈ prm ∧ 0 ≤ a ∧ a < p then walkL p.toNat a (s % p) else []
theorem walkN_yes {p a s : Int} (h : Fine p [a]) : walkN p a s = walkL p.toNat a (s % p) := if_pos (fine_one.1 h)
theorem walkN_no {p a s : Int} (h : ¬ Fine p [a]) : walkN p a s = [] := if_neg (fun h' => h (fine_one.2 h'))

theorem eql_walk (g h : Nat) (W : World) : (binOp .eql 135 (.func (.func 171) #[] #[.pointer (some ⟨g, 0, none⟩), .pointer (some ⟨h, 0, none⟩)]) .nilFunc).run Tryz.prog W = .ok (.bool false) W := by kernel_rfl
theorem eql_none (W : World) : (binOp .eql 135 (.func (.func 153) #[] #[]) .nilFunc).run Tryz.prog W = .ok (.bool false) W := by kernel_rfl

/-- walk, at a place of a prime. -/
theorem walk_of (p a s : Int) (hf : Fine p [a]) (w : World) (h1 : -9223372036854775808 ≤ s) (h2 : s ≤ 9223372036854775807) :
    Calls Tryz.prog 155 #[.agg #[.int .i64 p, .int .i64 a], .int .i64 s] w fun e w' => ∃ v, e = .returned v ∧ Over w.heap.size (walkN p a s) v w' ∧ Below w.heap.size w w' := by
  obtain ⟨hp, a0, a1⟩ := fine_one.1 hf
  have hb := prm_bounds hp
  rw [walkN_yes hf]
  obtain ⟨P, rfl⟩ : ∃ P : Nat, p = (P : Int) := ⟨p.toNat, by omega⟩
  refine (walk_any P (by omega) (by omega) a s w h1 h2).mono ?_
  rintro e w' ⟨g, h, rfl, bg, bh, hh, hB⟩
  refine ⟨_, rfl, ⟨_, _, rfl, enter_walk1, eql_walk g h, ?_⟩, hB⟩
  exact walk_goes g h _ _ P (by omega) (by omega) a (s % P) a0 (by omega) (Int.emod_nonneg _ (by omega)) (Int.emod_lt_of_pos _ (by omega)) w' hh bh.lt (Nat.le_refl _) bg bh

set_option maxHeartbeats 1000000 in
theorem modWalk_any (p a s : Int) (w : World) (hL : Laid w) (h1 : -9223372036854775808 ≤ s) (h2 : s ≤ 9223372036854775807) :
    Calls Tryz.prog 133 #[.int .i64 p, .int .i64 a, .int .i64 s] w fun e w' => ∃ v, e = .returned v ∧ Over w.heap.size (walkN p a s) v w' ∧ Below w.heap.size w w' := by
  have HA := Lib.hid (ask_one p a w hL)
  by_cases hf : Fine p [a]
  · have HW := Lib.hid (fun W => walk_of p a s hf W h1 h2)
    have HF := Lib.hid hf
    clear hf
    go_enter Tryz.func133, Tryz.ntmps133
    go_wp2_with (first
      | (go_at_call 152; refine HA.out.mono ?_; rintro e w1 ⟨h1, _, hB⟩; obtain rfl := h1 HF.out)
      | (go_at_call 154; refine (sum_any _ _ _).mono ?_; rintro e w2 ⟨rfl, hB2⟩)
      | (go_at_call 155; refine (HW.out _).mono ?_; rintro e w3 ⟨v, rfl, hO, hB3⟩))
    go_ret
    exact ⟨_, rfl, hO.less (below_in (below_in ((Below.refl _ w).alloc (Nat.le_refl _) _) hB) hB2).size hB3.size, below_in (below_in (below_in ((Below.refl _ w).alloc (Nat.le_refl _) _) hB) hB2) hB3⟩
  · rw [walkN_no hf]
    have HF := Lib.hid hf
    clear hf
    go_enter Tryz.func133, Tryz.ntmps133
    go_wp2_with (go_at_call 152; refine HA.out.mono ?_; rintro e w1 ⟨_, h1, hB⟩; obtain rfl := h1 HF.out)
    go_ret
    exact ⟨_, rfl, ⟨_, _, rfl, enter_none, eql_none, none_goes _ _ _⟩, below_in ((Below.refl _ w).alloc (Nat.le_refl _) _) hB⟩

/-- What Meet tells. -/
def meetN (p a s b : Int) : Int × Int :=
  if p ∈ prm ∧ (0 ≤ a ∧ a < p) ∧ 0 ≤ b ∧ b < p then (if b ∈ walkN p a s then (((ahead b (walkN p a s) : Nat) : Int), 0) else (0, 5)) else (0, 2)

theorem walkN_len (p a s : Int) : (walkN p a s).length ≤ 17 := by
  unfold walkN
  split
  · rename_i h
    have := prm_bounds h.1
    rw [walkL_len]; omega
  · simp

end Go.Proofs.YtggdlklkjnbbjaaGreatDoor
