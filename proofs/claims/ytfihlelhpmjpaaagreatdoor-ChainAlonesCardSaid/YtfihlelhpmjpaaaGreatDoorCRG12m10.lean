/- ring: the mathematics of turned, stretched and slackened columns, byte by byte. The laws of ring: contracts as the laws want them. -/
import Derived.Laws.CopyOwn
import Derived.Test.YtfihlelhpmjpaaaGreatDoorCRG7m10
import Derived.Test.YtfihlelhpmjpaaaGreatDoorCRG12
namespace Go.Proofs.YtfihlelhpmjpaaaGreatDoor.Rg
open Go.RowKit Go.Shelf Go.Proofs.YtfihlelhpmjpaaaGreatDoor.C Go.Proofs.YtfihlelhpmjpaaaGreatDoor.E
set_option linter.unusedSimpArgs false
set_option linter.unusedVariables false

theorem xorOf_one (a : List UInt8) : xorOf [a] = a := by
  refine ext_at (xorOf_len_of (by simp) (by simp)) fun j => ?_
  rw [at_xorOf (n := a.length) (by simp) (by simp)]
  simp [xa]
theorem turn_row (P Q n : Nat) (c : List (List UInt8)) (b : Int) : rowK 1 Q (fun _ r => xorOf [mvF P b (wholeF Q n c) r, mvF P b (wholeF Q n c) Q]) = turnC P Q n c b := by
  unfold rowK turnC
  refine List.map_congr_left fun r _ => ?_
  exact xorOf_one _
end Go.Proofs.YtfihlelhpmjpaaaGreatDoor.Rg

namespace Go.Proofs.YtfihlelhpmjpaaaGreatDoor.Rg
open Go.RowKit Go.Shelf Go.Proofs.YtfihlelhpmjpaaaGreatDoor.C Go.Proofs.YtfihlelhpmjpaaaGreatDoor.E
set_option linter.unusedSimpArgs false
set_option linter.unusedVariables false
attribute [local go_sem] Oper.semAt_some

theorem ok_of {P Q n : Nat} (hQ : P = Q + 1) (hp : (P : Int) ∈ prm) (h1 : 1 ≤ n) (h64 : n ≤ 64) {c : List (List UInt8)} (hc : GoodC Q n c) : ColOk P n c := ⟨hp, by rw [show P - 1 = Q by omega]; exact hc, h1, h64⟩
theorem out_slice {B Q n : Nat} {W : World} {u : Value} {c : List (List UInt8)} (h : FreshMany B W u c) (hc : GoodC Q n c) : ∃ A k, u = .slice A Q k ∧ Many W.heap.size W (.slice A Q k) c := by
  have hm := h.many
  obtain ⟨A, cap, e, _⟩ := id h
  rw [hc.1] at e
  subst e
  exact ⟨A, cap, rfl, hm⟩
variable {P Q n : Nat}
theorem turnY (d : Dims P Q n) (b : Int) (y1 : -9223372036854775808 ≤ b) (y2 : b ≤ 9223372036854775807) (c : List (List UInt8)) (hc : GoodC Q n c) (v : Value) (w : World) (hL : Laid w) (hM : Many w.heap.size w v c) :
    Calls Tryz.prog 111 #[.int .i64 (P : Int), v, .int .i64 b] w fun e w' => ∃ A k, e = .returned (.tuple #[.slice A Q k, .int .i64 0]) ∧ Many w'.heap.size w' (.slice A Q k) (turnC P Q n c b) ∧ Below w.heap.size w w' := by
  refine (turn_yes P Q n d.hQ c v b y1 y2 (ok_of d.hQ d.hp d.h1 d.h64 hc) w hL (Nat.le_refl _) hM).mono ?_
  rintro e w' ⟨u, rfl, hf, hB⟩
  rw [turn_row] at hf
  obtain ⟨A, k, rfl, hm⟩ := out_slice hf (turn_good d.h1 d.h64 hc b)
  exact ⟨A, k, rfl, hm, hB⟩
theorem sameY (d : Dims P Q n) (c e : List (List UInt8)) (hc : GoodC Q n c) (he : c = e) (u v : Value) (w : World) (h1 : Many w.heap.size w u c) (h2 : Many w.heap.size w v e) :
    Calls Tryz.prog 23 #[u, v] w fun e w' => e = .returned (.bool true) ∧ Below w.heap.size w w' := by
  have hl : Q ≤ 100000 := by have := prm_bounds d.hp; have := d.hQ; omega
  have h := sameCol_any u v c e w h1 h2 (by rw [hc.1]; exact hl) (by rw [← he, hc.1]; exact hl)
  rwa [show decide (c = e) = true by simpa using he] at h
end Go.Proofs.YtfihlelhpmjpaaaGreatDoor.Rg

