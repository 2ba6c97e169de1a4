/- CellsAsks: what its loops keep. -/
import Derived.Test.YtklmkaafogekaaaCLawKit
namespace Go.Proofs.Ytklmkaafogekaaa.cellsAsks
open Go.ChangeShapes Go.WideShapes Go.ChangeAt Go.RowKit Go.Shelf
set_option linter.unusedVariables false

attribute [local go_sem] Oper.semAt_some
theorem ownI_cells {w : World} {base : Nat} {v : Value} {l : List Nat} (h : OwnI w base v l) :
    ∃ A cap, v = .slice A l.length cap ∧ (0 < l.length → ∃ g, A = some ⟨g, 0, none⟩ ∧ base ≤ g ∧ g < w.heap.size ∧ ∀ j, j < l.length → w.cell? ⟨g, j, none⟩ = some (.int .i64 ((l[j]?.getD 0 : Nat) : Int))) := by
  rcases h.2 with ⟨rfl, h0⟩ | ⟨g, cap, cur, rfl, hbg, hg, hn, _, hsz, ht⟩
  · exact ⟨none, 0, by rw [h0], fun hp => by omega⟩
  · refine ⟨_, cap, rfl, fun hp => ⟨g, rfl, hbg, (Array.getElem?_eq_some_iff.1 hg).1, fun j hj => ?_⟩⟩
    rw [cell_of_row w g j cur _ (0, 0) hg]
    have e := congrArg (fun z : List Value => z[j]?) ht
    rw [List.getElem?_take_of_lt (by omega), Array.getElem?_toList] at e
    refine e.trans ?_
    rw [List.getElem?_map, List.getElem?_eq_getElem hj]; rfl

/-- What a loop over places has told when n have come. -/
theorem take_next (L : List Nat) (n : Nat) (hn : n < L.length) : L.take (n + 1) = L.take n ++ [L[n]?.getD 0] := by
  rw [List.take_succ_eq_append_getElem hn, List.getElem?_eq_getElem hn]; rfl
theorem not_prefix (L : List Nat) (n x : Nat) (h : n < L.length → x ≠ L[n]?.getD 0) (hn : n ≤ L.length) : ¬ (L.take n ++ [x] <+: L) := by
  rintro ⟨t, ht⟩
  have hlen : n < L.length := by
    have := congrArg List.length ht
    rw [List.length_append, List.length_append, List.length_take] at this
    simp at this
    omega
  refine h hlen ?_
  have e := congrArg (fun z : List Nat => z[n]?) ht
  rw [List.append_assoc, List.getElem?_append_right (by rw [List.length_take]; omega), List.length_take, show n - min n L.length = 0 by omega] at e
  simp at e
  rw [← e]; rfl

/-- What lies in memory while the loops go. -/
def Facts (V : World) (b0 : Nat) (many : Int) (gw : Nat) (Aw : Option Addr) (cw : Nat) (L : List Nat) (gs : Nat) (vs : Value) (l : List UInt8) : Prop :=
  Blk V b0 3 #[.int .i64 many] ∧ Blk V (b0 + 1) 4 #[.bool false] ∧ Blk V gw 34 #[.slice Aw L.length cw] ∧
    (0 < L.length → ∃ g, Aw = some ⟨g, 0, none⟩ ∧ g < V.heap.size ∧ ∀ j, j < L.length → V.cell? ⟨g, j, none⟩ = some (.int .i64 ((L[j]?.getD 0 : Nat) : Int))) ∧ Blk V gs 52 #[vs] ∧ Bytes V.heap.size V vs l
theorem Facts.next {V V' : World} {b0 gw cw gs : Nat} {many : Int} {Aw : Option Addr} {L : List Nat} {vs : Value} {l : List UInt8} (h : Facts V b0 many gw Aw cw L gs vs l) (hB : Below V.heap.size V V') : Facts V' b0 many gw Aw cw L gs vs l := by
  obtain ⟨h1, h2, h3, h4, h5, h6⟩ := h
  refine ⟨h1.below hB h1.lt, h2.below hB h2.lt, h3.below hB h3.lt, fun hp => ?_, h5.below hB h5.lt, (h6.below hB).more hB.size⟩
  obtain ⟨g, e, hg, hc⟩ := h4 hp
  exact ⟨g, e, Nat.lt_of_lt_of_le hg hB.size, fun j hj => (hB.cell (p := ⟨g, j, none⟩) hg).trans (hc j hj)⟩

/-- What a loop over places keeps. -/
def Told (L : List Nat) (nb : Nat) (V : World) (pre : List Nat) (W : World) : Prop := Blk W nb 3 #[.int .i64 (pre.length : Int)] ∧ Below V.heap.size V W
theorem told_own (L : List Nat) (nb B : Nat) (V : World) (hB : V.heap.size ≤ B) : OwnFrom B (Told L nb V) :=
  OwnFrom.and (Own.from (Blk.own nb 3 (fun pre : List Nat => #[.int .i64 (pre.length : Int)])) _) (ownFrom_below (Nat.le_refl _) hB)
theorem told_ifown (L : List Nat) (nb B : Nat) (V : World) (hB : V.heap.size ≤ B) (p : List Nat → Prop) (c d : Code) : OwnFrom B (fun pre W => p pre ∧ (c = d → Told L nb V pre W)) :=
  fun s W W' row hs hg hr => ⟨hs.1, fun h => told_own L nb B V hB s W W' row (hs.2 h) hg hr⟩
end Go.Proofs.Ytklmkaafogekaaa.cellsAsks
