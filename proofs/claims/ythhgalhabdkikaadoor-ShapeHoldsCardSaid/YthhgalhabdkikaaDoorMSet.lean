/- A map that the call makes, and in which each number that came has a 1. -/
import Derived.Test.YthhgalhabdkikaaDoorMBase
import Derived.Maps.OwnIn
import Derived.Maps.OwnSet
namespace Go.Proofs.YthhgalhabdkikaaDoor
open Go.RowKit Go.Maps

theorem zeroInt (w : World) : (zeroValue 3).run Tryd.prog w = .ok (.int .i64 0) w := by kernel_rfl
def keysOf (pre : List Int) : List Lit := pre.map (Lit.int .i64)
theorem keys_ok (pre : List Int) : ∀ x ∈ keysOf pre, WideAt.IsKeyLit x := by
  intro x hx
  obtain ⟨z, _, rfl⟩ := List.mem_map.1 hx
  exact trivial
def oneD : DataW Unit := .lit (.int .i64 1)
def seenD (pre : List Int) : DataW Unit := setOf oneD (keysOf pre)
theorem seenD_next (pre : List Int) (z : Int) : seenD (pre ++ [z]) = (seenD pre).put (.int .i64 z) oneD := by
  unfold seenD keysOf
  rw [List.map_append]
  exact setOf_snoc _ _ _
theorem seenD_tidy (pre : List Int) : Tidy (seenD pre) := tidy_setOf _ _ (keys_ok pre)
theorem seenD_has (pre : List Int) (z : Int) : has (seenD pre) (.int .i64 z) = decide (z ∈ pre) := by
  unfold seenD
  rw [has_setOf _ _ _ (keys_ok pre), Bool.eq_iff_iff, List.any_eq_true, decide_eq_true_iff]
  constructor
  · rintro ⟨x, hx, e⟩
    obtain ⟨y, hy, rfl⟩ := List.mem_map.1 hx
    have := WideAt.sameKey_eq e
    injection this with _ e2
    rw [← e2]; exact hy
  · intro h
    exact ⟨_, List.mem_map.2 ⟨z, h, rfl⟩, by simp [Lit.sameKey]⟩
theorem seenD_out (pre : List Int) (z : Int) (h : z ∉ pre) (d : DataW Unit) : (seenD pre).atKey (.int .i64 z) d = d :=
  atKey_of_not_has (by rw [seenD_has]; exact decide_eq_false h) d
theorem seenD_in (d : DataW Unit) (z : Int) : ∀ (n : Nat) (pre : List Int), pre.length = n → z ∈ pre → (seenD pre).atKey (.int .i64 z) d = oneD
  | 0, pre, hn, h => by rw [List.eq_nil_of_length_eq_zero hn] at h; cases h
  | n + 1, pre, hn, h => by
    obtain ⟨q, y, rfl⟩ : ∃ q y, pre = q ++ [y] := ⟨pre.dropLast, pre.getLast (by intro e; rw [e] at hn; cases hn), (List.dropLast_concat_getLast _).symm⟩
    rw [seenD_next]
    by_cases e : z = y
    · subst e
      exact atKey_put_same (seenD_tidy q).isMap (show WideAt.IsKeyLit (.int .i64 z) from trivial) _ _
    · rw [atKey_put_other (by intro e2; injection e2 with _ e2; exact e e2)]
      rw [List.mem_append, List.mem_singleton] at h
      exact seenD_in d z n q (by rw [List.length_append] at hn; simp at hn; omega) (h.resolve_right e)
theorem seenD_size : ∀ (n : Nat) (pre : List Int), pre.length = n → pre.Nodup → Maps.size (seenD pre) = n
  | 0, pre, hn, _ => by rw [List.eq_nil_of_length_eq_zero hn]; rfl
  | n + 1, pre, hn, h => by
    obtain ⟨q, y, rfl⟩ : ∃ q y, pre = q ++ [y] := ⟨pre.dropLast, pre.getLast (by intro e; rw [e] at hn; cases hn), (List.dropLast_concat_getLast _).symm⟩
    have h2 := List.nodup_append.1 h
    have hy : y ∉ q := fun hm => h2.2.2 y hm y (by simp) rfl
    rw [seenD_next, size_put (seenD_tidy q), seenD_has, decide_eq_false hy, if_neg (by simp), seenD_size n q (by rw [List.length_append] at hn; simp at hn; omega) h2.1]

/-- Block b is a map in which each of the numbers pre has a 1. -/
def Seen (W : World) (b : Nat) (pre : List Int) : Prop := W.ownsMap Tryd.prog 3 (plainElem (H := Unit) Tryd.prog 3) b pre.length (seenD pre)
theorem Seen.own {W : World} {b : Nat} {pre : List Int} (h : Seen W b pre) : W.ownsMap Tryd.prog 3 (plainElem (H := Unit) Tryd.prog 3) b pre.length (seenD pre) := h
theorem Seen.more {W : World} {b : Nat} {pre : List Int} {z : Int} (h : W.ownsMap Tryd.prog 3 (plainElem (H := Unit) Tryd.prog 3) b (pre.length + 1) ((seenD pre).put (.int .i64 z) (.lit (.int .i64 1)))) : Seen W b (pre ++ [z]) := by
  unfold Seen
  rw [seenD_next, List.length_append]
  exact h
theorem Seen.made (w : World) : Seen (w.alloc (.map #[] 0)) w.heap.size [] := World.ownsMap_made w _ _ _
theorem Seen.kept {X Y : World} {b : Nat} {pre : List Int} {row : Option Nat} (h : Seen X b pre) (hg : X.grownBy Y row) (hne : some b ≠ row) : Seen Y b pre := World.ownsMap.kept h hg hne
theorem Seen.lt {X : World} {b : Nat} {pre : List Int} (h : Seen X b pre) : b < X.heap.size := World.ownsMap.lt h
theorem Seen.alloc {X : World} {b : Nat} {pre : List Int} (h : Seen X b pre) (o : Obj) : Seen (X.alloc o) b pre := World.ownsMap.alloc h o
theorem Seen.below {X Y : World} {B b : Nat} {pre : List Int} (h : Seen X b pre) (hb : Below B X Y) (hB : b < B) : Seen Y b pre := by
  obtain ⟨es, ck, hh, hF⟩ := h
  exact ⟨es, ck, (hb.block b hB).trans hh, hF⟩
set_option maxRecDepth 100000 in
theorem Seen.look {W : World} {b : Nat} {pre : List Int} (h : Seen W b pre) (z : Int) (hz : (Lit.int .i64 z).wf = true) :
    (Instr.lookup 53 (.map (some b)) (.int .i64 z) false).run Tryd.prog W = .ok (.int .i64 (if z ∈ pre then 1 else 0)) W := by
  obtain ⟨c, hrun, hat, _⟩ := World.ownsMap.lookup_int h (int_keyed Tryd.underlying3) Tryd.underlying53 Tryd.underlying3 (zeroInt W) (keyOf_int_mk Tryd.underlying3 hz)
  rw [hrun]
  by_cases hm : z ∈ pre
  · rw [seenD_in _ z _ pre rfl hm] at hat
    have : (1 : Int) = c := by unfold oneD at hat; injection hat with e; injection e
    rw [if_pos hm, this]
  · rw [seenD_out pre z hm] at hat
    have : (0 : Int) = c := by injection hat with e; injection e
    rw [if_neg hm, this]
set_option maxRecDepth 100000 in
theorem Seen.len {W : World} {b : Nat} {pre : List Int} (h : Seen W b pre) (hn : pre.Nodup) (ty : TypeId) : (Builtin.len_ #[53] ty #[.map (some b)]).run Tryd.prog W = .ok (.int .i64 (pre.length : Int)) W := by
  have := World.ownsMap.len h Tryd.underlying53 ty
  rwa [seenD_size _ pre rfl hn] at this
theorem Seen.spares {β : Type} {B k b : Nat} (hb : b < B) (f : β → List Int) : ∀ s X Y row, Seen X b (f s) → X.grownBy Y row → (∀ r, row = some r → B ≤ r ∧ r < B + k) → Seen Y b (f s) := fun _ _ _ _ hs hg hr =>
  hs.kept hg fun e => by have := (hr b e.symm).1; omega
theorem Seen.set_ {W : World} {b : Nat} {pre : List Int} (h : Seen W b pre) {p : Addr} (hp : b ≠ p.block) (v : Value) : Seen (W.setCell p v) b pre := World.ownsMap.setCell h hp v
end Go.Proofs.YthhgalhabdkikaaDoor
