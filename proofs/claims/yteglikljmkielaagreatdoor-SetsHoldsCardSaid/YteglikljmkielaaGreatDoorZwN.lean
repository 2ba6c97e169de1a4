/- Sets: the members of a cell that is made. -/
import Derived.Test.YteglikljmkielaaGreatDoorZwM
import Derived.Test.YteglikljmkielaaGreatDoorZwB
namespace Go.Proofs.YteglikljmkielaaGreatDoor
open Go.RowKit Go.Shelf
set_option linter.unusedSimpArgs false
set_option linter.unusedVariables false

theorem Seqs.next {lo : Nat} {zs : List (Int × Int)} {v : Value} {w w' : World} (h : Seqs lo zs v w) (hB : Below w.heap.size w w') : Seqs lo zs v w' := by
  obtain ⟨gf, lb, e, eg, hg⟩ := h
  have hs := hB.size
  exact ⟨gf, lb, e, eg, fun n hn l J Jx W o₀ hW ho₀ hJ hJx hr1 hr2 hY h0 => hg n hn l J Jx W o₀ (below_in hB hW) ho₀ hJ hJx hr1 hr2 (fun pre x o W1 hj hok hl' hs' => (hY pre x o W1 hj hok hl' hs').mono fun _ _ ⟨o', hf, hS, h⟩ => ⟨o', hf, hS, h.imp (fun ⟨h1, h2, h3⟩ => ⟨h1, h2, h3.less (Nat.le_refl _) (by omega)⟩) id⟩) h0⟩
/-- Is the place x a member of the cell of column mx and row my? -/
def memB (k p mx my x y : Int) : Bool := wayB k p (p - shortN k) my (roleN (p - shortN k) mx) x y
/-- The members of a cell that is made. -/
def memL (k p mx my : Int) : List (Int × Int) := (flatC p (spanL 0 mx)).filter fun x => memB k p mx my x.1 x.2
theorem Laid.drew {W : World} (h : Laid W) : Laid W.drew := h
theorem role_made {k p mx my d : Int} (hR : RightC k p) (hc : HasCell k p mx my) (hd : d = p - shortN k) (hx : d ≤ mx) : roleN d mx = 2 ∨ roleN d mx = 3 ∨ roleN d mx = 4 := by
  obtain ⟨⟨h1, h2⟩, _⟩ := hc
  have hu := hR.und
  have m2 := hu.m2
  unfold roleN
  split
  · exact .inl rfl
  · split
    · exact .inr (.inl rfl)
    · split
      · exact .inr (.inr rfl)
      · exfalso; omega
theorem spanL_mem {a b x : Int} (h : x ∈ spanL a b) : a ≤ x ∧ x < b := by
  unfold spanL at h
  obtain ⟨i, hi, rfl⟩ := List.mem_map.1 h
  have := List.mem_range.1 hi
  omega

set_option maxHeartbeats 2000000 in
theorem members_any (k p d c mx my : Int) (hR : RightC k p) (hd : d = p - shortN k) (hc : HasCell k p mx my) (hx : d ≤ mx) (w : World) (hL : Laid w) :
    Calls Tryz.prog 26 #[.agg #[.int .i64 k, .int .i64 p, .int .i64 d, .int .i64 c], .agg #[.int .i64 mx, .int .i64 my]] w fun e w' => ∃ u, e = .returned u ∧ OwnP w' w.heap.size u (memL k p mx my) ∧ Below w.heap.size w w' := by
  have hu := hR.und
  obtain ⟨p1, p2, s1, s2, m1, m2⟩ := hu
  have hc0 := hc
  obtain ⟨⟨x1, x2⟩, y1, y2⟩ := hc0
  have HAs := Lib.hid (fun W hL => asker_any k p d c mx my _ hR hd ⟨x1, x2⟩ rfl (role_made hR hc hd hx) W hL)
  have HAh := Lib.hid (fun W hL => ahead_any k p d c mx my hR (by omega) (by omega) (fun x hm => ⟨(spanL_mem hm).1, by have := (spanL_mem hm).2; omega⟩) W hL)
  have hzl : (flatC p (spanL 0 mx)).length ≤ 1000 := by have := flatC_len p hR.2 (spanL 0 mx); rw [spanL_len] at this; omega
  have HQ : Hid (memL k p mx my = (flatC p (spanL 0 mx)).filter fun x => wayB k p d my (roleN d mx) x.1 x.2) := by rw [hd]; rfl
  have HGa := Lib.hid (fun lo v1 v2 W hL hlo h1 h2 => gathered_any (wayB k p d my (roleN d mx)) _ hzl lo v1 v2 W hL hlo h1 h2)
  obtain ⟨W0, hW0⟩ : ∃ W0, (w.alloc (.cells #[.int .i64 k, .int .i64 p, .int .i64 d, .int .i64 c] 51)).alloc (.cells #[.int .i64 mx, .int .i64 my] 59) = W0 := ⟨_, rfl⟩
  have b0 : Blk W0 w.heap.size 51 #[.int .i64 k, .int .i64 p, .int .i64 d, .int .i64 c] := by rw [← hW0]; exact (Blk.new w _ _).alloc _
  have b1 : Blk W0 (w.heap.size + 1) 59 #[.int .i64 mx, .int .i64 my] := by rw [← hW0]; exact Blk.second w _ _ _
  have hB : Below w.heap.size w W0 := by rw [← hW0]; exact below_two w _ _
  have hL0 := hL.next hB
  have hs0 := hB.size
  clear hc hx hR hd x1 x2 y1 y2 p1 p2 s1 s2 m1 m2 hzl
  generalize wayB k p d my (roleN d mx) = q at *
  generalize flatC p (spanL 0 mx) = zs at *
  go_enter Tryz.func26, Tryz.ntmps26
  go_wp2_with fail
  clear hW0
  go_region_held3 (fun W => W.cell? ⟨w.heap.size, 0, none⟩ = some (.int .i64 k) ∧ W.cell? ⟨w.heap.size, 1, none⟩ = some (.int .i64 p) ∧ W.cell? ⟨w.heap.size, 2, none⟩ = some (.int .i64 d) ∧ W.cell? ⟨w.heap.size, 3, none⟩ = some (.int .i64 c) ∧ W.cell? ⟨w.heap.size + 1, 0, none⟩ = some (.int .i64 mx) ∧ W.cell? ⟨w.heap.size + 1, 1, none⟩ = some (.int .i64 my))
    (exact ⟨b0.cell 0, b0.cell 1, b0.cell 2, b0.cell 3, b1.cell 0, b1.cell 1⟩) (first
    | (go_at_call 41; refine (HAs.out _ (by first | exact hL0 | exact Laid.drew hL0)).mono ?_; rintro e w1 ⟨u1, rfl, hA, hB1⟩; (first | replace b0 := b0.below hB1 b0.lt | replace b0 := b0.nextd hB1); (first | replace b1 := b1.below hB1 b1.lt | replace b1 := b1.nextd hB1); (try replace hSq := hSq.next hB1); (first | replace hB := below_in hB hB1 | replace hB := below_in hB.drew hB1); (first | replace hL0 := Laid.next hL0 hB1 | replace hL0 := Laid.next (Laid.drew hL0) hB1))
    | (go_at_call 42; refine (HAh.out _ (by first | exact hL0 | exact Laid.drew hL0)).mono ?_; rintro e w1 ⟨u2, rfl, hSq0, hB1⟩; (have hSq := hSq0.less (lo' := w.heap.size) (by first | exact hB.size | exact hB.drew.size) (by exact hB1.size)); clear hSq0; (first | replace b0 := b0.below hB1 b0.lt | replace b0 := b0.nextd hB1); (first | replace b1 := b1.below hB1 b1.lt | replace b1 := b1.nextd hB1); (try replace hA := hA.next hB1); (first | replace hB := below_in hB hB1 | replace hB := below_in hB.drew hB1); (first | replace hL0 := Laid.next hL0 hB1 | replace hL0 := Laid.next (Laid.drew hL0) hB1))
    | (go_at_call 40; refine (HGa.out w.heap.size _ _ _ hL0 hB.size hA hSq).mono ?_; rintro e w3 ⟨u3, rfl, ho, hB3⟩; replace b0 := b0.below hB3 b0.lt; replace b1 := b1.below hB3 b1.lt))
  all_goals go_wp2
  all_goals go_ret
  all_goals exact ⟨_, rfl, by rw [HQ.out]; exact ho.less (by have := hB.size; omega), below_in hB hB3⟩
end Go.Proofs.YteglikljmkielaaGreatDoor
