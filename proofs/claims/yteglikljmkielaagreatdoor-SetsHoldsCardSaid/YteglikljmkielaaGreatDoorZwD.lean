/- slices.SortFunc over a row of places of the call's own. -/
import Derived.Test.YteglikljmkielaaGreatDoorZwC
namespace Go.Proofs.YteglikljmkielaaGreatDoor
open Go.RowKit Go.Shelf
set_option linter.unusedSimpArgs false
set_option linter.unusedVariables false

set_option maxHeartbeats 1000000 in
theorem sort_any (W : World) (hb base : Nat) (v : Value) (l : List (Int × Int)) (hne : l ≠ []) (hlen : l.length ≤ 1000) (hown : OwnP W base v l) (hf : W.cell? ⟨hb, 0, none⟩ = some (.func (.func 36) #[] #[])) (hdiff : some hb ≠ v.ownBlock) :
    Calls Tryz.prog 63 #[v, .func (.func 64) #[] #[.pointer (some ⟨hb, 0, none⟩)]] W fun e w' => e = .returned (.tuple #[]) ∧
      ∃ (s : List (Int × Int)) (g cap : Nat), v = .slice (some ⟨g, 0, none⟩) l.length cap ∧ l.length ≤ cap ∧ base ≤ g ∧ g < W.heap.size ∧ g ≠ hb ∧ s.Perm l ∧ s.Pairwise (fun a b => aheadB b a = false) ∧
        (∀ (j : Nat) (hj : j < s.length), w'.cell? ⟨g, 2 * j, none⟩ = some (.int .i64 (s[j]).1) ∧ w'.cell? ⟨g, 2 * j + 1, none⟩ = some (.int .i64 (s[j]).2)) ∧ W.grownBy w' (some g) := by
  have how := hown
  obtain ⟨hl, (⟨rfl, h0⟩ | ⟨g, cap, cur, rfl, hbg, hg, hnc, hcm, hcs, htk⟩)⟩ := hown
  · exact absurd (List.eq_nil_of_length_eq_zero h0) hne
  have hgb : g ≠ hb := fun e => hdiff (by rw [e]; rfl)
  have hblk : g < W.heap.size := (Array.getElem?_eq_some_iff.1 hg).1
  have hbl : hb < W.heap.size := cell_lt hf
  have hH : Go.Sort.HoldsK encP 2 W g 0 l.toArray := by
    intro j hj
    rw [Go.Sort.size_flatK, List.size_toArray] at hj
    rw [Nat.zero_add]
    have hc := World.ownsRow.cellAt how j hj
    rw [List.getElem?_eq_getElem (by rw [codeCells_len]; omega)] at hc
    refine ⟨?_, World.ownsRow.frozenAt how j⟩
    rw [hc, codeCells_enc, getElem!_pos _ _ (by rw [List.size_toArray, codeCells_len]; omega)]
    rfl
  have hcmp : CmpLays Tryz.prog 64 #[.pointer (some ⟨hb, 0, none⟩)] encP 2 cmpF g 0 l.toArray.size W := fun m os dk hs x y =>
    odd1_any hb x.1 x.2 y.1 y.2 _ ((World.cell?_of_block (sortWorld_heap W g m dk os hb (fun e => hgb e.symm) hbl)).trans hf)
  have hcon := AnyQ.slices_SortFunc sortPl 2 Tryz.isAgg59 Tryz.sizeOf59 encP (fun _ => rfl) (fun x v hv => by simp [encP] at hv; rcases hv with rfl | rfl <;> rfl) cmpF swo_cmpF 64 #[.pointer (some ⟨hb, 0, none⟩)] g 0 cap l.toArray W enter_odd1 hcmp hH hblk (by rw [List.size_toArray]; omega)
  change Calls Tryz.prog 63 _ _ _ at hcon
  rw [List.size_toArray] at hcon
  refine hcon.mono ?_
  rintro e w' ⟨rfl, d', n, os, ⟨hp1, _, hp2⟩, hs, rfl⟩
  have hp3 : d'.toList.length = l.length := by rw [Array.length_toList]; exact hp1
  have hsw : SWK encP 2 W g 0 d' (sortWorldK encP 2 W g 0 n d' os) := ⟨n, os, rfl⟩
  have hh := hsw.holds hblk hH (by rw [List.size_toArray, ← Array.length_toList]; exact hp3)
  refine ⟨rfl, d'.toList, g, cap, rfl, hnc, hbg, hblk, hgb, ?_, ?_, ?_, sortWorld_grown _ _ _ _ _⟩
  · have e1 : (d'.extract 0 l.length) = d' := by rw [← hp3, Array.length_toList]; exact Array.extract_size
    have e2 : (l.toArray.extract 0 l.length) = l.toArray := by have := Array.extract_size (xs := l.toArray); rwa [List.size_toArray] at this
    rw [e1, e2] at hp2
    simpa using hp2
  · rw [List.pairwise_iff_getElem]
    intro i j hi hj hij
    have := hs i j (Nat.zero_le _) hij (by rw [← hp3]; exact hj)
    rw [ltOf_cmpF] at this
    rw [getElem!_pos _ _ (by simpa using hj), getElem!_pos _ _ (by simpa using hi)] at this
    simpa using this
  · intro j hj
    have h1 := (hh.cell (i := j) (c := 0) (by simpa using hj) (by omega)).1
    have h2 := (hh.cell (i := j) (c := 1) (by simpa using hj) (by omega)).1
    rw [getElem!_pos d' j (by simpa using hj)] at h1 h2
    rw [show 0 + j * 2 + 0 = 2 * j by omega] at h1
    rw [show 0 + j * 2 + 1 = 2 * j + 1 by omega] at h2
    exact ⟨h1.trans (by simp [encP]), h2.trans (by simp [encP])⟩
end Go.Proofs.YteglikljmkielaaGreatDoor
