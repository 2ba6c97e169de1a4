/- ModWalks: what its loops keep. -/
import Derived.Test.YtoljflkfhdaipaaDoorMLawKit
import Derived.Test.YtoljflkfhdaipaaDoorMLeft
namespace Go.Proofs.YtoljflkfhdaipaaDoor.modWalks
open Go.ChangeShapes Go.WideShapes Go.ChangeAt Go.RowKit Go.Shelf
set_option linter.unusedVariables false

attribute [local go_sem] Oper.semAt_some

/-- What lies in memory while the loops go. -/
def Facts (V : World) (b0 : Nat) (x0 x1 x2 many : Int) (Aw : Option Addr) (cw : Nat) (L : List Int) : Prop :=
  Blk V b0 36 #[.int .i64 x0, .int .i64 x1, .int .i64 x2] ∧ Blk V (b0 + 1) 3 #[.int .i64 many] ∧ Blk V (b0 + 1 + 1) 4 #[.bool false] ∧ Blk V (b0 + 1 + 1 + 1) 22 #[.slice Aw L.length cw] ∧
    Ints V.heap.size V (.slice Aw L.length cw) L ∧ Laid V
theorem Facts.next {V V' : World} {b0 cw : Nat} {x0 x1 x2 many : Int} {Aw : Option Addr} {L : List Int} (h : Facts V b0 x0 x1 x2 many Aw cw L) (hB : Below V.heap.size V V') : Facts V' b0 x0 x1 x2 many Aw cw L := by
  obtain ⟨h1, h2, h3, h4, h5, h6⟩ := h
  exact ⟨h1.below hB h1.lt, h2.below hB h2.lt, h3.below hB h3.lt, h4.below hB h4.lt, (h5.below hB).more hB.size, h6.next hB⟩

/-- What a loop over a walk keeps. -/
def Told (nb : Nat) (V : World) (pre : List Int) (W : World) : Prop := Blk W nb 3 #[.int .i64 (pre.length : Int)] ∧ Below V.heap.size V W
theorem told_spares (nb B k : Nat) (V : World) (hn : nb < B) (hB : V.heap.size ≤ B) : Spares B k (Told nb V) :=
  (spares_blk hn _ (fun pre : List Int => #[.int .i64 (pre.length : Int)])).and (spares_below (Nat.le_refl _) hB)
theorem told_if (nb B k : Nat) (V : World) (hn : nb < B) (hB : V.heap.size ≤ B) (p q : List Int → Prop) : Spares B k (fun pre W => p pre ∨ (q pre ∧ Told nb V pre W)) := fun s X Y row hs hg hr =>
  hs.imp id fun h => ⟨h.1, told_spares nb B k V hn hB s X Y row h.2 hg hr⟩
theorem not_prefix (L : List Int) (n : Nat) (x : Int) (h : n < L.length → x ≠ L[n]?.getD 0) (hn : n ≤ L.length) : ¬ (L.take n ++ [x] <+: L) := by
  rintro ⟨t, ht⟩
  have hlen : n < L.length := by
    have := congrArg List.length ht
    rw [List.length_append, List.length_append, List.length_take] at this
    simp at this
    omega
  refine h hlen ?_
  have e := congrArg (fun z : List Int => z[n]?) ht
  rw [List.append_assoc, List.getElem?_append_right (by rw [List.length_take]; omega), List.length_take, show n - min n L.length = 0 by omega] at e
  simp at e
  rw [← e]; rfl
end Go.Proofs.YtoljflkfhdaipaaDoor.modWalks
