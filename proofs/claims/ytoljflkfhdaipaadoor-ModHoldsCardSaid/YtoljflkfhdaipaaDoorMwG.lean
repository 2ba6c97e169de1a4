/- What is looked for among the places of a prime. -/
import Derived.Test.YtoljflkfhdaipaaDoorMwF
namespace Go.Proofs.YtoljflkfhdaipaaDoor
open Go.RowKit Go.Shelf

/-- The first place that is such, and 0; or 0, and what is wrong. -/
def lookN (p a : Int) (t : Nat → Bool) : Int × Int :=
  if p ∈ prm ∧ 0 ≤ a ∧ a < p then (match (List.range p.toNat).find? t with | some k => ((k : Int), 0) | none => (0, 2)) else (0, 2)
def Looked (p a : Int) (t : Nat → Bool) (w : World) (e : Ending) (w' : World) : Prop :=
  e = .returned (.tuple #[.int .i64 (lookN p a t).1, .int .i64 (lookN p a t).2]) ∧ Below w.heap.size w w'
theorem looked_one {p a : Int} {t : Nat → Bool} {w w' : World} {k : Nat} (hf : Fine p [a]) (hk : (k : Int) < p) (ht : t k = true) (hn : ∀ j, j < k → t j = false) (hB : Below w.heap.size w w') :
    Looked p a t w (.returned (.tuple #[.int .i64 k, .int .i64 0])) w' := by
  have e : (List.range p.toNat).find? t = some k := List.find?_range_eq_some.2 ⟨ht, List.mem_range.2 (by omega), fun j hj => by rw [hn j hj]; rfl⟩
  have e2 : lookN p a t = ((k : Int), 0) := by unfold lookN; rw [if_pos (fine_one.1 hf), e]
  exact ⟨by rw [e2], hB⟩
theorem looked_none {p a : Int} {t : Nat → Bool} {w w' : World} (h : ¬ ∃ k : Nat, Fine p [a] ∧ (k : Int) < p ∧ t k = true) (hB : Below w.heap.size w w') :
    Looked p a t w (.returned (.tuple #[.int .i64 0, .int .i64 2])) w' := by
  have e2 : lookN p a t = (0, 2) := by
    unfold lookN
    by_cases hf : p ∈ prm ∧ 0 ≤ a ∧ a < p
    · rw [if_pos hf, List.find?_eq_none.2 (fun k hk hkt => h ⟨k, fine_one.2 hf, by have := List.mem_range.1 hk; omega, hkt⟩)]
    · rw [if_neg hf]
  exact ⟨by rw [e2], hB⟩

set_option maxRecDepth 100000 in
set_option maxHeartbeats 1000000 in
theorem lookedFor_any (f : Nat) (cv : Value) (ef : ∀ args W, (callFunc f args).run Tryd.prog W = .ok (.enter f args) W) (p a : Int) (t : Nat → Bool) (w : World) (hL : Laid w)
    (hs : ∀ (n : Nat) W, Below w.heap.size w W → Fine p [a] → (n : Int) < p → Calls Tryd.prog f #[.agg #[.int .i64 p, .int .i64 n], cv] W fun e w' => e = .returned (.bool (t n)) ∧ Below W.heap.size W w') :
    Calls Tryd.prog 35 #[.func (.func f) #[] #[cv], .int .i64 p, .int .i64 a] w (Looked p a t w) := by
  have HA := Lib.hid (ask_one p a w hL)
  have HS := Lib.hid hs
  clear hs
  go_enter Tryd.func35, Tryd.ntmps35
  go_wp2
  refine wp_scope_jumps 0 (fun a' w' => Hid (¬ ∃ k : Nat, Fine p [a] ∧ (k : Int) < p ∧ t k = true) ∧ Below w.heap.size w w' ∧ ∃ (u0 u1 u2 u3 u4 u5 u6 u7 u8 u9 u10 u11 u12 u13 u14 u15 u16 u17 u18 u19 u20 u21 u22 u23 u24 u25 u26 u27 u28 u29 u30 : Value), a' = { tmps := #[u0, u1, u2, u3, u4, u5, u6, u7, u8, u9, u10, u11, u12, u13, u14, u15, u16, u17, u18, u19, u20, u21, u22, u23, u24, u25, u26, u27, u28, u29, u30], defers := [] }) (fun _ _ => 0) rfl ?_ ?_
  · by_cases hp : Fine p [a]
    · have hb := prm_bounds hp.1
      have HP := Lib.hid hp
      clear hp
      go_wp2_with (go_at_call 29; refine HA.out.mono ?_; rintro e w1 ⟨h1, _, hB⟩; obtain rfl := h1 HP.out)
      have hB1 := below_in ((Below.refl _ w).alloc (Nat.le_refl _) _) hB
      clear hB
      go_loopw [21] (fun i wr => ∃ k : Nat, (k : Int) ≤ p ∧ i = .int .i64 k ∧ Hid (∀ j, j < k → t j = false) ∧ Below w.heap.size w wr) (fun i _ => p.toNat - (intOf i).toNat)
      case atStart => exact ⟨0, by omega, rfl, Lib.hid (fun j hj => absurd hj (by omega)), hB1⟩
      case round =>
        obtain ⟨k, hk, rfl, HG, hB⟩ := hrel
        by_cases hlt : (k : Int) < p
        · have hdec : decide ((k : Int) < p) = true := by simpa using hlt
          have HC := Lib.hid (fun W hW => HS.out k W hW HP.out hlt)
          cases ht : t k with
          | true =>
            rw [ht] at HC
            have HT := Lib.hid ht
            clear ht
            go_wp2_with (first
              | (go_at_call 41; refine (sum_any _ _ _).mono ?_; rintro e w2 ⟨rfl, hB2⟩; have hBs := below_in hB hB2)
              | (refine (HC.out _ hBs).mono ?_; rintro e w3 ⟨rfl, hB3⟩))
            simp only [Exit.jump]
            go_ret2
            exact looked_one HP.out hlt HT.out HG.out (below_in hBs hB3)
          | false =>
            rw [ht] at HC
            have HT := Lib.hid ht
            clear ht
            go_wp2_with (first
              | (go_at_call 41; refine (sum_any _ _ _).mono ?_; rintro e w2 ⟨rfl, hB2⟩; have hBs := below_in hB hB2)
              | (refine (HC.out _ hBs).mono ?_; rintro e w3 ⟨rfl, hB3⟩))
            go_roundw
            case rel =>
              refine ⟨k + 1, by omega, by go_num, Lib.hid (fun j hj => ?_), below_in hBs hB3⟩
              rcases Nat.lt_or_ge j k with h1 | h1
              · exact HG.out j h1
              · obtain rfl : j = k := by omega
                exact HT.out
            case measure => simp [intOf]; omega
        · have hdec : decide ((k : Int) < p) = false := decide_eq_false hlt
          have HN : Hid (¬ ∃ k : Nat, Fine p [a] ∧ (k : Int) < p ∧ t k = true) := fun ⟨m, _, h2, h3⟩ => by
            rw [HG.out m (by omega)] at h3; cases h3
          clear hlt
          go_wp2
          go_step3
          go_wp2
          simp only [Exit.jump]
          go_ret2
          exact looked_none HN.out hB
    · have HP := Lib.hid hp
      clear hp
      go_wp2_with (go_at_call 29; refine HA.out.mono ?_; rintro e w1 ⟨_, h1, hB⟩; obtain rfl := h1 HP.out)
      go_step3
      exact ⟨rfl, Lib.hid (fun ⟨k, h, _⟩ => HP.out h), below_in ((Below.refl _ w).alloc (Nat.le_refl _) _) hB, _, _, _, _, _, _, _, _, _, _, _, _, _, _, _, _, _, _, _, _, _, _, _, _, _, _, _, _, _, _, _, rfl⟩
  · rintro a' w' ⟨HN, hB, u0, u1, u2, u3, u4, u5, u6, u7, u8, u9, u10, u11, u12, u13, u14, u15, u16, u17, u18, u19, u20, u21, u22, u23, u24, u25, u26, u27, u28, u29, u30, rfl⟩
    go_wp2
    simp only [Exit.jump]
    go_ret2
    exact looked_none HN.out hB

theorem inverse1_any (p : Int) (n : Nat) (a : Int) (g : Nat) (w : World) (hp : 0 < p) (hp2 : p ≤ 17) (hn : (n : Int) < p) (a0 : 0 ≤ a) (a1 : a < p) (bg : Blk w g 3 #[.int .i64 a]) :
    Calls Tryd.prog 36 #[.agg #[.int .i64 p, .int .i64 n], .pointer (some ⟨g, 0, none⟩)] w fun e w' => e = .returned (.bool ((n : Int) * a % p == 1)) ∧ Below w.heap.size w w' := by
  have hmul : -1000 ≤ (n : Int) * a ∧ (n : Int) * a ≤ 1000 := ⟨by have := Int.mul_nonneg (show 0 ≤ (n : Int) by omega) a0; omega, by have := Int.mul_le_mul (show (n : Int) ≤ 17 by omega) (show a ≤ 17 by omega) a0 (by omega); omega⟩
  have HW := Lib.hid (fun V => with_any 34 (fun x y => x * y) times_any enter_times p n a V hp (by omega) (by omega) (by omega) a0 (by omega) (by omega) (by omega))
  have cg := (bg.alloc (.cells #[.int .i64 p, .int .i64 n] 56)).one
  clear hmul
  generalize (n : Int) * a = z at *
  go_enter Tryd.func36, Tryd.ntmps36
  go_wp2_with (first
    | (go_at_call 37; refine (HW.out _).mono ?_; rintro e w2 ⟨rfl, hB2⟩)
    | (go_at_call 38; refine (is_any _ _ _ _).mono ?_; rintro e w3 ⟨rfl, hB3⟩))
  go_ret
  exact ⟨rfl, below_in (below_in ((Below.refl _ w).alloc (Nat.le_refl _) _) hB2) hB3⟩

set_option maxHeartbeats 1000000 in
theorem half1_any (p : Int) (n : Nat) (a : Int) (g : Nat) (w : World) (hp : 0 < p) (hp2 : p ≤ 17) (hn : (n : Int) < p) (bg : Blk w g 3 #[.int .i64 a]) :
    Calls Tryd.prog 39 #[.agg #[.int .i64 p, .int .i64 n], .pointer (some ⟨g, 0, none⟩)] w fun e w' => e = .returned (.bool (((n : Int) + n) % p == a)) ∧ Below w.heap.size w w' := by
  have HW := Lib.hid (fun V => with_any 32 (fun x y => x + y) plus_any enter_plus p n n V hp (by omega) (by omega) (by omega) (by omega) (by omega) (by omega) (by omega))
  have hg := bg.lt
  have b0 := bg.alloc (.cells #[.int .i64 p, .int .i64 n] 56)
  have b1 := Blk.new w 56 #[.int .i64 p, .int .i64 n]
  generalize (n : Int) + n = z at *
  go_enter Tryd.func39, Tryd.ntmps39
  go_wp2
  obtain ⟨W0, hW0⟩ : ∃ W0, w.alloc (.cells #[.int .i64 p, .int .i64 n] 56) = W0 := ⟨_, rfl⟩
  rw [hW0] at b0 b1
  have hB0 : Below w.heap.size w W0 := by rw [← hW0]; exact (Below.refl _ w).alloc (Nat.le_refl _) _
  rw [hW0]
  clear hW0
  have c0 : W0.cell? ⟨w.heap.size, 0, none⟩ = some (.int .i64 p) := b1.cell 0
  have c1 : W0.cell? ⟨w.heap.size, 1, none⟩ = some (.int .i64 n) := b1.cell 1
  have c2 := b0.one
  have l0 := b0.lt
  have l1 := b1.lt
  go_region_held3 (fun W => W.cell? ⟨w.heap.size, 0, none⟩ = some (.int .i64 p) ∧ W.cell? ⟨w.heap.size, 1, none⟩ = some (.int .i64 n) ∧ W.cell? ⟨g, 0, none⟩ = some (.int .i64 a))
    (first
      | exact ⟨c0, c1, c2⟩
      | exact ⟨(Below.cell (p := ⟨w.heap.size, 0, none⟩) hB2 l1).trans c0, (Below.cell (p := ⟨w.heap.size, 1, none⟩) hB2 l1).trans c1, (Below.cell (p := ⟨g, 0, none⟩) hB2 l0).trans c2⟩
      | exact ⟨(Below.cell (p := ⟨w.heap.size, 0, none⟩) hB3 (Nat.lt_of_lt_of_le l1 hB2.size)).trans ((Below.cell (p := ⟨w.heap.size, 0, none⟩) hB2 l1).trans c0), (Below.cell (p := ⟨w.heap.size, 1, none⟩) hB3 (Nat.lt_of_lt_of_le l1 hB2.size)).trans ((Below.cell (p := ⟨w.heap.size, 1, none⟩) hB2 l1).trans c1), (Below.cell (p := ⟨g, 0, none⟩) hB3 (Nat.lt_of_lt_of_le l0 hB2.size)).trans ((Below.cell (p := ⟨g, 0, none⟩) hB2 l0).trans c2)⟩) (first
    | (go_at_call 37; refine (HW.out _).mono ?_; rintro e w2 ⟨rfl, hB2⟩)
    | (go_at_call 38; refine (is_any _ _ _ _).mono ?_; rintro e w3 ⟨rfl, hB3⟩))
  all_goals
    go_wp2
    go_ret
    exact ⟨rfl, below_in (below_in hB0.drew hB2) hB3⟩

theorem enter_inverse1 : ∀ args W, (callFunc 36 args).run Tryd.prog W = .ok (.enter 36 args) W := enters_of Tryd.func36 (by kernel_rfl) rfl
theorem enter_half1 : ∀ args W, (callFunc 39 args).run Tryd.prog W = .ok (.enter 39 args) W := enters_of Tryd.func39 (by kernel_rfl) rfl

set_option maxHeartbeats 400000 in
theorem inverse_any (p a : Int) (w : World) (hL : Laid w) : Calls Tryd.prog 23 #[.int .i64 p, .int .i64 a] w (Looked p a (fun n => (n : Int) * a % p == 1) w) := by
  have hmf := make_func
  have bg := Blk.new w 3 #[.int .i64 a]
  have HK0 := (lookedFor_any 36 (.pointer (some ⟨w.heap.size, 0, none⟩)) enter_inverse1 p a (fun n => (n : Int) * a % p == 1) (w.alloc (.cells #[.int .i64 a] 3)) (hL.next ((Below.refl _ w).alloc (Nat.le_refl _) _)) (fun n W hW hf hn => by
    obtain ⟨h1, h2, h3⟩ := fine_one.1 hf
    have := prm_bounds h1
    exact inverse1_any p n a _ W (by omega) (by omega) hn h2 h3 (bg.below hW bg.lt)))
  clear bg
  unfold Looked at HK0 ⊢
  generalize lookN p a (fun n => (n : Int) * a % p == 1) = z at HK0 ⊢
  have HK := Lib.hid HK0
  clear HK0
  go_enter Tryd.func23, Tryd.ntmps23
  go_wp2_with fail
  refine HK.out.mono ?_
  rintro e w1 ⟨rfl, hB⟩
  have hB1 := below_in ((Below.refl _ w).alloc (Nat.le_refl _) _) hB
  go_wp2
  go_ret2
  exact ⟨rfl, hB1⟩

set_option maxHeartbeats 400000 in
theorem half_any (p a : Int) (w : World) (hL : Laid w) : Calls Tryd.prog 24 #[.int .i64 p, .int .i64 a] w (Looked p a (fun n => ((n : Int) + n) % p == a) w) := by
  have hmf := make_func
  have bg := Blk.new w 3 #[.int .i64 a]
  have HK0 := (lookedFor_any 39 (.pointer (some ⟨w.heap.size, 0, none⟩)) enter_half1 p a (fun n => ((n : Int) + n) % p == a) (w.alloc (.cells #[.int .i64 a] 3)) (hL.next ((Below.refl _ w).alloc (Nat.le_refl _) _)) (fun n W hW hf hn => by
    obtain ⟨h1, h2, h3⟩ := fine_one.1 hf
    have := prm_bounds h1
    exact half1_any p n a _ W (by omega) (by omega) hn (bg.below hW bg.lt)))
  clear bg
  unfold Looked at HK0 ⊢
  generalize lookN p a (fun n => ((n : Int) + n) % p == a) = z at HK0 ⊢
  have HK := Lib.hid HK0
  clear HK0
  go_enter Tryd.func24, Tryd.ntmps24
  go_wp2_with fail
  refine HK.out.mono ?_
  rintro e w1 ⟨rfl, hB⟩
  have hB1 := below_in ((Below.refl _ w).alloc (Nat.le_refl _) _) hB
  go_wp2
  go_ret2
  exact ⟨rfl, hB1⟩
end Go.Proofs.YtoljflkfhdaipaaDoor
