/- Places as the callers know them. -/
import Derived.Test.YteglikljmkielaaGreatDoorZwE
namespace Go.Proofs.YteglikljmkielaaGreatDoor
open Go.RowKit Go.Shelf
set_option linter.unusedSimpArgs false
set_option linter.unusedVariables false

theorem Tryz.infoAt : (Tryz.prog.info? 26).map (fun i => (i.zero, i.size, i.bytes)) = some (some (.agg #[.int .i64 0, .int .i64 0]), 2, 16) := by kernel_rfl
/-- The cells cs bear the places s, as far as j of them. -/
def Bears (cs : Array Value) (s : List (Int × Int)) (j : Nat) : Prop := cs.size = s.length * 2 ∧ ∀ (i : Nat) (hi : i < s.length), i < j → cs[i * 2]? = some (.int .i64 (s[i]).1) ∧ cs[i * 2 + 1]? = some (.int .i64 (s[i]).2)
theorem Bears.next {cs : Array Value} {s : List (Int × Int)} {j : Nat} (h : Bears cs s j) (hj : j < s.length) {x y : Int} (hx : s[j] = (x, y)) : Bears ((cs.setIfInBounds (j * 2) (.int .i64 x)).setIfInBounds (j * 2 + 1) (.int .i64 y)) s (j + 1) := by
  refine ⟨by simp [h.1], fun i hi hij => ?_⟩
  have hs := h.1
  by_cases e : i = j
  · subst e
    rw [hx]
    exact ⟨by rw [Array.getElem?_setIfInBounds_ne (by omega), Array.getElem?_setIfInBounds_self_of_lt (by omega)], by rw [Array.getElem?_setIfInBounds_self_of_lt (by simp; omega)]⟩
  · obtain ⟨h1, h2⟩ := h.2 i hi (by omega)
    exact ⟨by rw [Array.getElem?_setIfInBounds_ne (by omega), Array.getElem?_setIfInBounds_ne (by omega)]; exact h1, by rw [Array.getElem?_setIfInBounds_ne (by omega), Array.getElem?_setIfInBounds_ne (by omega)]; exact h2⟩
/-- The slice value v reads as the places s, below block B. -/
def ReadP (B : Nat) (W : World) (v : Value) (s : List (Int × Int)) : Prop :=
  ∃ g cap, v = .slice (some ⟨g, 0, none⟩) s.length cap ∧ g < B ∧ ∀ (j : Nat) (hj : j < s.length), W.cell? ⟨g, j * 2, none⟩ = some (.int .i64 (s[j]).1) ∧ W.cell? ⟨g, j * 2 + 1, none⟩ = some (.int .i64 (s[j]).2)
theorem ReadP.below {B : Nat} {W W' : World} {v : Value} {s : List (Int × Int)} (h : ReadP B W v s) (hb : Below B W W') : ReadP B W' v s := by
  obtain ⟨g, cap, e, hg, hc⟩ := h
  exact ⟨g, cap, e, hg, fun j hj => ⟨(hb.cell (p := ⟨g, j * 2, none⟩) hg).trans (hc j hj).1, (hb.cell (p := ⟨g, j * 2 + 1, none⟩) hg).trans (hc j hj).2⟩⟩
theorem ReadP.next {W W' : World} {v : Value} {s : List (Int × Int)} (h : ReadP W.heap.size W v s) (hb : Below W.heap.size W W') : ReadP W'.heap.size W' v s := by
  obtain ⟨g, cap, e, hg, hc⟩ := h.below hb
  exact ⟨g, cap, e, Nat.lt_of_lt_of_le hg hb.size, hc⟩

set_option maxRecDepth 100000 in
set_option maxHeartbeats 2000000 in
theorem told_any (W : World) (base : Nat) (v : Value) (l : List (Int × Int)) (hne : l ≠ []) (hnd : l.Nodup) (hlen : l.length ≤ 1000) (hbase : base ≤ W.heap.size) (hown : OwnP W base v l) :
    Calls Tryz.prog 37 #[v] W fun e w' => ∃ u s, e = .returned u ∧ s.Perm l ∧ s.Pairwise (fun a b => aheadB a b = true) ∧ ReadP w'.heap.size w' u s ∧ Below base W w' := by
  have HS := Lib.hid (odd_any W base v l hne hnd hlen hbase hown)
  have HL := Lib.hid hlen
  have HNE := Lib.hid hne
  obtain ⟨i0, hi, hz0, hz1, hz2⟩ := info_parts Tryz.infoAt
  have hmk := fun (W : World) (N : Nat) (hN : N ≤ 1000) => run_make (P := Tryz.prog) W 27 26 i0 (.agg #[.int .i64 0, .int .i64 0]) Tryz.underlying27 hi hz0 .i64 .i64 (N : Int) (N : Int) (by omega) (by omega) (by rw [hz2]; omega) (by omega)
  simp only [hz1, Int.toNat_natCast] at hmk
  have HMK := Lib.hid hmk
  clear hown hne hnd hlen hmk hi hz0 hz1 hz2
  go_enter Tryz.func37, Tryz.ntmps37
  go_wp2_with fail
  refine HS.out.mono ?_
  rintro e w1 ⟨u, s, rfl, hperm, hst, ho, hB1⟩
  clear HS
  have hN := hperm.length_eq
  have HP := Lib.hid hperm
  have HT := Lib.hid hst
  have hs0 : 0 < s.length := by rw [hN]; exact List.length_pos_iff.2 HNE.out
  have hsl : s.length ≤ 1000 := by rw [hN]; exact HL.out
  obtain ⟨g, cap, rfl, hg, hg1⟩ := World.ownsRow.form ho hs0
  have HC : Hid (∀ (j : Nat) (hj : j < s.length), w1.cell? ⟨g, j * 2, none⟩ = some (.int .i64 (s[j]).1) ∧ w1.cell? ⟨g, j * 2 + 1, none⟩ = some (.int .i64 (s[j]).2)) := fun j hj => by
    obtain ⟨k0, k1⟩ := codeCells_at s j hj
    rw [Nat.mul_comm 2 j] at k0 k1
    exact ⟨(World.ownsRow.cellAt ho (j * 2) (by omega)).trans k0, (World.ownsRow.cellAt ho (j * 2 + 1) (by omega)).trans k1⟩
  clear hperm hst ho hN
  obtain ⟨n, hn⟩ : ∃ n, s.length = n := ⟨_, rfl⟩
  have HSL := Lib.hid hn
  rw [hn] at hs0 hsl
  rw [hn]
  clear hn
  have hmk := HMK.out w1 n hsl
  clear HMK
  have bA := Blk.new w1 26 (madeCells (Value.agg #[.int .i64 0, .int .i64 0]).cells (n * 2))
  have hBA := below_one w1 (.cells (madeCells (Value.agg #[.int .i64 0, .int .i64 0]).cells (n * 2)) 26)
  have hbz : (madeCells (Value.agg #[.int .i64 0, .int .i64 0]).cells (n * 2)).size = n * 2 := size_madeCells _ _
  obtain ⟨wA, hwA⟩ : ∃ wA, w1.alloc (.cells (madeCells (Value.agg #[.int .i64 0, .int .i64 0]).cells (n * 2)) 26) = wA := ⟨_, rfl⟩
  rw [hwA] at hmk bA hBA
  generalize madeCells (Value.agg #[.int .i64 0, .int .i64 0]).cells (n * 2) = csA at bA hbz
  clear hwA
  go_wp2_with fail
  go_loopw [14] (fun i wr => ∃ (j : Nat) (cs : Array Value), j ≤ n ∧ i = .int .i64 j ∧ Blk wr w1.heap.size 26 cs ∧ Bears cs s j ∧ Below w1.heap.size w1 wr) (fun i _ => n - (intOf i).toNat)
  case atStart => exact ⟨0, csA, by omega, rfl, bA, ⟨by rw [hbz, HSL.out], fun i _ h => absurd h (by omega)⟩, hBA⟩
  case round =>
    clear bA hbz hBA hmk
    obtain ⟨j, cs, hj, rfl, bA, hbe, hB⟩ := hrel
    by_cases hlt : j < n
    · have hdec : decide ((j : Int) < (n : Int)) = true := by simp; omega
      have hjs : j < s.length := by rw [HSL.out]; exact hlt
      obtain ⟨x0, x1⟩ := HC.out j hjs
      replace x0 := nextc x0 hB
      replace x1 := nextc x1 hB
      have hsz : cs.size = n * 2 := by rw [hbe.1, HSL.out]
      have HNX := Lib.hid (fun x y (h : s[j] = (x, y)) => hbe.next hjs h)
      generalize hx : s[j] = x at *
      obtain ⟨px, py⟩ := x
      replace HNX := Lib.hid (HNX.out _ _ rfl)
      have hBx := below_one wr (.cells #[.int .i64 px, .int .i64 py] 59)
      have bX := Blk.new wr 59 #[.int .i64 px, .int .i64 py]
      have bA2 := bA.below hBx bA.lt
      have c0 := bA2.cell (j * 2)
      have c1 := bA2.cell (j * 2 + 1)
      rw [Array.getElem?_eq_getElem (show j * 2 < cs.size by omega)] at c0
      rw [Array.getElem?_eq_getElem (show j * 2 + 1 < cs.size by omega)] at c1
      have f0 := bA2.frozen (j * 2)
      have f1 := bA2.frozen (j * 2 + 1)
      have i1 : (0 : Int) ≤ (j : Int) := by omega
      have i2 : (j : Int) < (n : Int) := by omega
      generalize cs[j * 2]'_ = o0 at c0
      generalize cs[j * 2 + 1]'_ = o1 at c1
      clear hx hbe hsz
      have HBX : Hid (∀ V, V = ((wr.alloc (.cells #[.int .i64 px, .int .i64 py] 59)).setCell ⟨w1.heap.size, j * 2, none⟩ (.int .i64 px)).setCell ⟨w1.heap.size, j * 2 + 1, none⟩ (.int .i64 py) →
          Blk V w1.heap.size 26 ((cs.setIfInBounds (j * 2) (.int .i64 px)).setIfInBounds (j * 2 + 1) (.int .i64 py)) ∧ Below w1.heap.size w1 V) := fun V h => by
        rw [h]
        exact ⟨(bA2.set_ (j * 2) _).set_ (j * 2 + 1) _, (((below_in hB hBx)).setCell (Nat.le_refl _) _).setCell (Nat.le_refl _) _⟩
      go_wp2_with fail
      go_roundw
      case rel => exact ⟨j + 1, _, hlt, by go_num, (HBX.out _ rfl).1, HNX.out, (HBX.out _ rfl).2⟩
      case measure => simp [intOf]; omega
    · obtain rfl : j = n := by omega
      have hdec : decide ((j : Int) < (j : Int)) = false := by simp
      go_wp2
      go_ret
      refine ⟨_, s, rfl, HP.out, HT.out, ⟨w1.heap.size, j, by rw [HSL.out]; rfl, bA.lt, fun i hi => ?_⟩, hB1.trans (hB.mono (by have := hB1.size; omega))⟩
      rw [bA.cell (i * 2), bA.cell (i * 2 + 1)]
      exact hbe.2 i hi (by rw [← HSL.out]; exact hi)
end Go.Proofs.YteglikljmkielaaGreatDoor
