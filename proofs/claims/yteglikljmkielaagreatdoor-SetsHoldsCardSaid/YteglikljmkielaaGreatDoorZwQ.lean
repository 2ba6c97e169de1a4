/- Sets: Members. -/
import Derived.Test.YteglikljmkielaaGreatDoorZwP
namespace Go.Proofs.YteglikljmkielaaGreatDoor
open Go.RowKit Go.Shelf
set_option linter.unusedSimpArgs false
set_option linter.unusedVariables false

theorem rowsL_sorted (p : Int) : (rowsL p).Pairwise (· < ·) := by
  unfold rowsL
  rw [List.pairwise_map]
  exact (List.pairwise_lt_range).imp fun h => by omega
theorem spanL_sorted (a b : Int) : (spanL a b).Pairwise (· < ·) := by
  unfold spanL
  rw [List.pairwise_map]
  exact (List.pairwise_lt_range).imp fun h => by omega
theorem flatC_sorted (p : Int) : ∀ cs : List Int, cs.Pairwise (· < ·) → (flatC p cs).Pairwise (fun a b => aheadB a b = true)
  | [], _ => List.Pairwise.nil
  | x :: cs, h => by
    obtain ⟨h1, h2⟩ := List.pairwise_cons.1 h
    unfold flatC
    rw [List.flatMap_cons, List.pairwise_append]
    refine ⟨?_, flatC_sorted p cs h2, ?_⟩
    · rw [List.pairwise_map]
      exact (rowsL_sorted p).imp fun h => by unfold aheadB; simp; omega
    · rintro ⟨a1, a2⟩ ha ⟨b1, b2⟩ hb
      obtain ⟨y, _, e⟩ := List.mem_map.1 ha
      obtain ⟨z, hz, hb⟩ := List.mem_flatMap.1 hb
      obtain ⟨y2, _, e2⟩ := List.mem_map.1 hb
      injection e with e _
      injection e2 with e2 _
      have := h1 z hz
      unfold aheadB
      simp
      omega
theorem ahead_irrefl (a : Int × Int) : aheadB a a = false := by unfold aheadB; simp
theorem ahead_anti {a b : Int × Int} (h1 : aheadB a b = true) (h2 : aheadB b a = true) : a = b := by
  obtain ⟨a1, a2⟩ := a
  obtain ⟨b1, b2⟩ := b
  unfold aheadB at *
  simp at *
  omega
theorem sorted_nodup {l : List (Int × Int)} (h : l.Pairwise (fun a b => aheadB a b = true)) : l.Nodup := h.imp fun {a b} hab e => by rw [e, ahead_irrefl] at hab; cases hab
theorem sorted_one {l s : List (Int × Int)} (hp : s.Perm l) (hs : s.Pairwise (fun a b => aheadB a b = true)) (hl : l.Pairwise (fun a b => aheadB a b = true)) : s = l :=
  hp.eq_of_pairwise (fun a b _ _ h1 h2 => ahead_anti h1 h2) hs hl
theorem memL_sorted (k p mx my : Int) : (memL k p mx my).Pairwise (fun a b => aheadB a b = true) := (flatC_sorted p _ (spanL_sorted _ _)).filter _
theorem flatC_mem {p : Int} {cs : List Int} {x y : Int} (hx : x ∈ cs) (hy : 0 ≤ y ∧ y < p - 1) : (x, y) ∈ flatC p cs := by
  refine List.mem_flatMap.2 ⟨x, hx, List.mem_map.2 ⟨y, ?_, rfl⟩⟩
  unfold rowsL
  exact List.mem_map.2 ⟨y.toNat, List.mem_range.2 (by omega), by omega⟩
theorem memB_first {k p mx my : Int} (hR : RightC k p) (hc : HasCell k p mx my) (hx : p - shortN k ≤ mx) : memB k p mx my 0 my = true := by
  obtain ⟨p1, p2, s1, s2, m1, m2⟩ := hR.und
  obtain ⟨⟨h1, h2⟩, y1, y2⟩ := hc
  have hc0 : HasCell k p 0 my := ⟨⟨by omega, by omega⟩, y1, y2⟩
  have hm : my % p = my := Int.emod_eq_of_lt y1 (by omega)
  have e1 : (0 + my) % p = my := by rw [Int.zero_add]; exact hm
  have e2 : (my - 0) % p = my := by rw [Int.sub_zero]; exact hm
  have hd : 0 < p - shortN k := by omega
  unfold memB wayB
  split
  · unfold inRw; simp; omega
  · split
    · unfold onDg dgN2
      rw [if_pos hc0, e1]
      split <;> simp <;> omega
    · unfold onSl slN2
      rw [if_pos hc0, e2]
      simp; omega
theorem memL_ne {k p mx my : Int} (hR : RightC k p) (hc : HasCell k p mx my) (hx : p - shortN k ≤ mx) : memL k p mx my ≠ [] := by
  have hm : (0, my) ∈ memL k p mx my := by
    obtain ⟨p1, p2, s1, s2, m1, m2⟩ := hR.und
    refine List.mem_filter.2 ⟨flatC_mem ?_ hc.2, memB_first hR hc hx⟩
    unfold spanL
    exact List.mem_map.2 ⟨0, List.mem_range.2 (by omega), rfl⟩
  intro e
  rw [e] at hm
  cases hm
theorem memL_len {k p mx my : Int} (hR : RightC k p) (hc : HasCell k p mx my) : (memL k p mx my).length ≤ 1000 := by
  obtain ⟨p1, p2, s1, s2, m1, m2⟩ := hR.und
  have h1 := List.length_filter_le (fun x : Int × Int => memB k p mx my x.1 x.2) (flatC p (spanL 0 mx))
  have h2 := flatC_len p hR.2 (spanL 0 mx)
  rw [spanL_len] at h2
  have h3 := hc.1.2
  unfold memL
  omega
theorem enter_isMade : ∀ args W, (callFunc 25 args).run Tryz.prog W = .ok (.enter 25 args) W := enters_of Tryz.func25 (by kernel_rfl) rfl
theorem enter_members : ∀ args W, (callFunc 26 args).run Tryz.prog W = .ok (.enter 26 args) W := enters_of Tryz.func26 (by kernel_rfl) rfl

/-- What Members answers. -/
def MembersC (k p x y : Int) (w : World) (e : Ending) (w' : World) : Prop :=
  (¬ RightC k p → e = .returned (.tuple #[.slice none 0 0, .int .i64 2])) ∧
  (RightC k p → ¬ (HasCell k p x y ∧ p - shortN k ≤ x) → e = .returned (.tuple #[.slice none 0 0, .int .i64 4])) ∧
  (RightC k p → HasCell k p x y → p - shortN k ≤ x → ∃ u, e = .returned (.tuple #[u, .int .i64 0]) ∧ ReadP w'.heap.size w' u (memL k p x y)) ∧ Below w.heap.size w w'

theorem MembersC.form {k p x y : Int} {w w' : World} {e : Ending} (h : MembersC k p x y w e w') : ∃ (u : Value) (n : Int), e = .returned (.tuple #[u, .int .i64 n]) := by
  by_cases hR : RightC k p
  · by_cases hm : HasCell k p x y ∧ p - shortN k ≤ x
    · obtain ⟨u, e, _⟩ := h.2.2.1 hR hm.1 hm.2
      exact ⟨u, 0, e⟩
    · exact ⟨_, 4, h.2.1 hR hm⟩
  · exact ⟨_, 2, h.1 hR⟩

set_option maxHeartbeats 1000000 in
theorem setsMembers_any (k p x y : Int) (w : World) (hL : Laid w) : Calls Tryz.prog 8 #[.agg #[.int .i64 k, .int .i64 p], .agg #[.int .i64 x, .int .i64 y]] w (MembersC k p x y w) := by
  obtain ⟨W0, hW0⟩ : ∃ W0, (w.alloc (.cells #[.int .i64 k, .int .i64 p] 24)).alloc (.cells #[.int .i64 x, .int .i64 y] 26) = W0 := ⟨_, rfl⟩
  have b0 : Blk W0 w.heap.size 24 #[.int .i64 k, .int .i64 p] := by rw [← hW0]; exact (Blk.new w _ _).alloc _
  have b1 : Blk W0 (w.heap.size + 1) 26 #[.int .i64 x, .int .i64 y] := by rw [← hW0]; exact Blk.second w _ _ _
  have hB : Below w.heap.size w W0 := by rw [← hW0]; exact below_two w _ _
  have hL0 := hL.next hB
  have c0 := b0.cell 0
  have c1 := b0.cell 1
  have z0 := b1.cell 0
  have z1 := b1.cell 1
  simp only [List.getElem?_toArray, List.getElem?_cons_zero, List.getElem?_cons_succ] at c0 c1 z0 z1
  have HM : Hid (Calls Tryz.prog 24 #[.agg #[.int .i64 k, .int .i64 p], .func (.func 25) #[] #[], .func (.func 26) #[] #[], .agg #[.int .i64 x, .int .i64 y]] W0 (MembersC k p x y W0)) := by
    by_cases hR : RightC k p
    · have HI := fun (b : Bool) (hb : decide (HasCell k p x y ∧ p - shortN k ≤ x) = b) W hL => (isMade_any k p (p - shortN k) (p - shortN k + madeN k) x y hR W hL).mono fun e w' (h : e = .returned (.bool (decide (HasCell k p x y ∧ p - shortN k ≤ x))) ∧ Below W.heap.size W w') => (by rw [hb] at h; exact h : e = .returned (.bool b) ∧ Below W.heap.size W w')
      by_cases hm : HasCell k p x y ∧ p - shortN k ≤ x
      · refine (answered_yes 25 26 enter_isMade enter_members k p x y hR (fun W hL => HI true (decide_eq_true hm) W hL) (memL k p x y) (memL_ne hR hm.1 hm.2) (sorted_nodup (memL_sorted _ _ _ _)) (memL_len hR hm.1) (fun W hL => members_any k p _ _ x y hR rfl hm.1 hm.2 W hL) W0 hL0).mono ?_
        rintro e w' ⟨u, s, rfl, hp, hst, hrd, hB1⟩
        rw [sorted_one hp hst (memL_sorted _ _ _ _)] at hrd
        exact ⟨fun h => absurd hR h, fun _ h => absurd hm h, fun _ _ _ => ⟨u, rfl, hrd⟩, hB1⟩
      · exact (answered_out 25 26 enter_isMade k p x y hR (fun W hL => HI false (decide_eq_false hm) W hL) W0 hL0).mono fun e w' ⟨h1, h2⟩ => ⟨fun h => absurd hR h, fun _ _ => h1, fun _ h3 h4 => absurd ⟨h3, h4⟩ hm, h2⟩
    · exact (answered_no 25 26 k p x y hR W0 hL0).mono fun e w' ⟨h1, h2⟩ => ⟨fun _ => h1, fun h => absurd h hR, fun h => absurd h hR, h2⟩
  go_enter Tryz.func8, Tryz.ntmps8
  go_wp2_with fail
  clear hW0
  refine HM.out.mono ?_
  rintro e w1 hM
  obtain ⟨u, n, rfl⟩ := hM.form
  have hB1 := below_in hB hM.2.2.2
  have HH := Lib.hid hM
  clear hM
  go_wp2
  go_ret2
  exact ⟨HH.out.1, HH.out.2.1, HH.out.2.2.1, hB1⟩
end Go.Proofs.YteglikljmkielaaGreatDoor
