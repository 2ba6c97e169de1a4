/- EVENODD: Adjuster and Encode. STAR: giving up, what is answered; columns under way. Lists that a call builds by append: of cells, of columns; which blocks they lie in. Lists that a call builds by append: many elements at once. EVENODD: what is made belongs together with what it is made of. The columns of EVENODD: what is answered, of the rest. EVENODD's Check: all columns; what is the same. EVENODD's Check: whether columns are those that are made. The document's Put: columns of one shape, put upon one another. The mathematics of EVENODD: what is made is linear; all cells made, put upon one another, are the adjuster. Sets: what a code under way holds; which of two places is ahead; the columns between two. -/
import Derived.Test.YtcgnhfiadeceiaaGreatDoorJG1
import Derived.Test.YtcgnhfiadeceiaaGreatDoorJG5
import Derived.Test.YtcgnhfiadeceiaaGreatDoorJG2
import Derived.BigFrame
import Derived.Test.YtcgnhfiadeceiaaGreatDoorJG4
import Derived.Test.YtcgnhfiadeceiaaGreatDoorJCA
import Derived.Test.YtcgnhfiadeceiaaGreatDoorJSA
import Derived.Test.YtcgnhfiadeceiaaGreatDoorJG6
import Derived.Test.YtcgnhfiadeceiaaGreatDoorJG6x1
import Derived.Test.YtcgnhfiadeceiaaGreatDoorJG6x2
import Derived.Test.YtcgnhfiadeceiaaGreatDoorJG6x3
namespace Go.Proofs.YtcgnhfiadeceiaaGreatDoor.E
open Go.RowKit Go.Shelf Go.Proofs.YtcgnhfiadeceiaaGreatDoor.C
set_option linter.unusedSimpArgs false
set_option linter.unusedVariables false

theorem xa_twice (z : UInt8) : ∀ n : Nat, xa ((List.range (2 * n)).map fun _ => z) = 0
  | 0 => rfl
  | n + 1 => by
    rw [show 2 * (n + 1) = 2 * n + 1 + 1 by omega, List.range_succ, List.range_succ, List.map_append, List.map_append, xa_append, xa_append, xa_twice z n]
    simp [xa_cons, xa_nil]
theorem xa_flat {α : Type} (f : α → List UInt8) : ∀ l : List α, xa (l.flatMap f) = xa (l.map fun x => xa (f x))
  | [] => rfl
  | x :: l => by rw [List.flatMap_cons, xa_append, List.map_cons, xa_cons, xa_flat f l]
theorem slants_perm {p : Int} (hp : p ∈ prm) : (slants p).Perm (grid (p - 1).toNat p.toNat) := by
  have h : (prm.all fun p => (slants p).isPerm (grid (p - 1).toNat p.toNat)) = true := by decide +kernel
  exact List.isPerm_iff.1 (List.all_eq_true.1 h p hp)
section
variable {p : Int} {a b css : List (List (List UInt8))}
/-- All that is made, put upon one another, is the adjuster. -/
theorem all_made (h : DataOk p css) : xors (List.replicate (adjOf p css).length 0) (rowsMade (p - 1).toNat css ++ diagsMade p (p - 1).toNat css) = adjOf p css := by
  have hd := dataOk_n h
  have hpr : p ∈ prm := h.1.2
  have hal := adjOf_len h
  have hrl : ∀ l ∈ rowsMade (p - 1).toNat css ++ diagsMade p (p - 1).toNat css, l.length = (adjOf p css).length := by
    intro l hl'
    rw [hal]
    rcases List.mem_append.1 hl' with h1 | h1
    · unfold rowsMade at h1
      obtain ⟨r, hr, rfl⟩ := List.mem_map.1 h1
      exact row_len h (List.mem_range.1 hr)
    · unfold diagsMade at h1
      obtain ⟨r, hr, rfl⟩ := List.mem_map.1 h1
      have := List.mem_range.1 hr
      exact diag_len h (by omega)
  refine ext_at ?_ fun j => ?_
  · have := xors_len (List.replicate (adjOf p css).length 0) (rowsMade (p - 1).toNat css ++ diagsMade p (p - 1).toNat css)
    rw [this, List.length_replicate]
  rw [at_upon hrl, List.map_append, xa_append]
  have e1 : (rowsMade (p - 1).toNat css).map (at_ · j) = (List.range (p - 1).toNat).map fun r => xa ((List.range p.toNat).map fun c => by_ css j c r) := by
    unfold rowsMade
    rw [List.map_map]
    exact List.map_congr_left fun r hr => at_row h (List.mem_range.1 hr) j
  have e2 : (diagsMade p (p - 1).toNat css).map (at_ · j) = (List.range (p - 1).toNat).map fun (r : Nat) => dg_ p css j (p - 1) ^^^ dg_ p css j r := by
    unfold diagsMade
    rw [List.map_map]
    refine List.map_congr_left fun r hr => ?_
    have := List.mem_range.1 hr
    exact at_diagMade h (by omega) j
  have hev : ∃ n, (p - 1).toNat = 2 * n := by
    have : prm.all (fun p => (p - 1).toNat % 2 == 0) = true := by decide
    have h2 := List.all_eq_true.1 this p hpr
    exact ⟨(p - 1).toNat / 2, by simp at h2; omega⟩
  have hT : xa ((List.range p.toNat).map fun (a : Nat) => dg_ p css j a) = xa ((List.range (p - 1).toNat).map fun r => xa ((List.range p.toNat).map fun c => by_ css j c r)) := by
    have := xa_perm ((slants_perm hpr).map fun x : Nat × Nat => by_ css j x.1 x.2)
    unfold slants grid at this
    rw [List.map_flatMap, List.map_flatMap, xa_flat, xa_flat] at this
    refine Eq.trans ?_ (this.trans ?_)
    · rfl
    · congr 1
      refine List.map_congr_left fun r _ => ?_
      rw [List.map_map]
      rfl
  have hs : p.toNat = (p - 1).toNat + 1 := by omega
  rw [e1, e2, xa_xor, ← hT]
  obtain ⟨n, hn⟩ := hev
  rw [show xa ((List.range (p - 1).toNat).map fun (_ : Nat) => dg_ p css j (p - 1)) = 0 by rw [hn]; exact xa_twice _ n, UInt8.zero_xor, hs, List.range_succ, List.map_append, xa_append]
  rw [List.map_singleton, xa_cons, xa_nil, UInt8.xor_zero, UInt8.xor_comm, ← UInt8.xor_assoc, UInt8.xor_self, UInt8.zero_xor]
  unfold adjOf
  rw [at_diag h (by omega) (by omega)]
  congr 1
  omega
end
end Go.Proofs.YtcgnhfiadeceiaaGreatDoor.E

