/- What the laws of cells share. -/
import Derived.Test.YtjkpmhannmbgfaaCwP
import Derived.Deep.Matrix
import Derived.ShutString
import Derived.ChangeOld
namespace Go.Proofs.Ytjkpmhannmbgfaa
open Go.RowKit Go.Shelf

theorem many_rows {w : World} {a : Addr} {len cap : Nat} (hl : len ≤ cap) {A : Nat → Option Addr} {L C : Nat → Nat} {Z : Nat → List Int}
    (h : ∀ r, r < cap → w.cell? (a.add r) = some (.slice (A r) (L r) (C r)) ∧ IsRow .u8 w (A r) (L r) (C r) (Z r)) : ∃ ls : List (List UInt8), Many w.heap.size w (.slice (some a) len cap) ls := by
  have each : ∀ r, ∃ l : List UInt8, r < cap → l.length = L r ∧ Bytes w.heap.size w (.slice (A r) (L r) (C r)) l := by
    intro r
    by_cases hr : r < cap
    · obtain ⟨l, h1, h2⟩ := row_bytes (h r hr).2
      exact ⟨l, fun _ => ⟨h1, h2⟩⟩
    · exact ⟨[], fun h => absurd h hr⟩
  let f : Nat → List UInt8 := fun r => (each r).choose
  have hf : ∀ r, r < cap → (f r).length = L r ∧ Bytes w.heap.size w (.slice (A r) (L r) (C r)) (f r) := fun r => (each r).choose_spec
  have hlen : ((List.range len).map f).length = len := by simp
  refine ⟨(List.range len).map f, some a, cap, by rw [hlen], by rw [hlen]; exact hl, fun hp => ?_⟩
  rw [hlen] at hp ⊢
  obtain ⟨b, off, spot⟩ := a
  have hc := (h 0 (by omega)).1
  have hspot : spot = none := by simpa [Addr.add] using World.cell?_spot hc
  subst hspot
  refine ⟨b, off, rfl, ?_, fun j hj => ⟨.slice (A j) (L j) (C j), ?_, ?_⟩⟩
  · have := block_lt_of_cell hc
    simpa [Addr.add] using this
  · rw [← addr_add]; exact (h j (by omega)).1
  · have e : ((List.range len).map f)[j]?.getD [] = f j := by
      rw [List.getElem?_map, List.getElem?_range hj]; rfl
    rw [e]
    exact (hf j (by omega)).2

theorem works_in {w : World} (V : World) (hB : Below w.heap.size w V) : Calls Try.prog 11 #[] V fun e w' => e = .returned (.bool true) ∧ Below w.heap.size w w' := by
  refine (works_any V).mono ?_
  rintro e w' ⟨rfl, hB'⟩
  exact ⟨rfl, Below.next hB hB'⟩
theorem wf_i64 {n : Int} (h : (Lit.int .i64 n).wf = true) : -9223372036854775808 ≤ n ∧ n ≤ 9223372036854775807 := by
  have := bounds_i64 h
  omega
theorem txt_in {w : World} {B : Nat} {v : Value} {l : List UInt8} (hb : Bytes B w v l) (W : World) (hB : Below B w W) : (convert 25 9 v).run Try.prog W = .ok (.string (text l)) W := run_txt W (hb.below hB)
end Go.Proofs.Ytjkpmhannmbgfaa
