/- What the rows' steps hand to the walks: a list of bytes that came in; a word that came in. -/
import Derived.Test.YtkgfahmajhfgbaaWorks
import Derived.ProofKit
import Derived.OpenShut
namespace Go.Proofs.Ytkgfahmajhfgbaa
open Go.RowKit

theorem own : ownKnob Try.prog.godebug = none := by kernel_rfl
theorem laidOut : laidOutB Try.prog = true := by kernel_rfl

/-- A slice of integers that came in: it is nil; or it leads to a row of 'cap' cells, the numbers 'zs'. -/
def IsRow (k : IntKind) (w : World) (a : Option Addr) (len cap : Nat) (zs : List Int) : Prop :=
  (a = none ∧ len = 0 ∧ cap = 0 ∧ zs = []) ∨
  ∃ x, a = some x ∧ len ≤ cap ∧ cap ≤ maxLen ∧ zs.length = cap ∧ (∀ i, i < zs.length → w.cell? (x.add i) = some (.int k (zs.getD i 0))) ∧ ∀ n ∈ zs, (Lit.int k n).wf = true

theorem wf_u8 {n : Int} (h : (Lit.int .u8 n).wf = true) : 0 ≤ n ∧ n < 256 := by
  have := bounds_u8 h
  omega
theorem wf_u32 {n : Int} (h : (Lit.int .u32 n).wf = true) : ∃ s : Nat, n = (s : Int) ∧ s < 4294967296 := by
  have := bounds_u32 h
  exact ⟨n.toNat, by omega, by omega⟩

theorem row_bytes {w : World} {a : Option Addr} {len cap : Nat} {zs : List Int} (h : IsRow .u8 w a len cap zs) : ∃ l : List UInt8, l.length = len ∧ Bytes w.heap.size w (.slice a len cap) l := by
  rcases h with ⟨rfl, rfl, rfl, rfl⟩ | ⟨x, rfl, hl, _, hz, hcell, hwz⟩
  · exact ⟨[], rfl, Bytes.nil_ _ _ _ _⟩
  · have hlen : ((zs.take len).map fun z => UInt8.ofNat z.toNat).length = len := by rw [List.length_map, List.length_take]; omega
    refine ⟨(zs.take len).map fun z => UInt8.ofNat z.toNat, hlen, ?_⟩
    unfold Bytes
    rw [hlen]
    refine ⟨some x, cap, rfl, hl, fun hp => ?_⟩
    obtain ⟨b, off, spot⟩ := x
    have hc := hcell 0 (by omega)
    have hspot : spot = none := by simpa [Addr.add] using World.cell?_spot hc
    subst hspot
    refine ⟨b, off, rfl, ?_, fun j hj => ?_⟩
    · have := block_lt_of_cell hc
      simpa [Addr.add] using this
    · have hj' : j < zs.length := by omega
      rw [← addr_add, hcell j hj']
      have hw := wf_u8 (hwz _ (List.getElem_mem hj'))
      have e : ((zs.take len).map fun z => UInt8.ofNat z.toNat)[j]?.getD 0 = UInt8.ofNat zs[j].toNat := by
        rw [List.getElem?_map, List.getElem?_take_of_lt hj, List.getElem?_eq_getElem hj']; rfl
      rw [e, List.getD_eq_getElem?_getD, List.getElem?_eq_getElem hj']
      have : ((UInt8.ofNat zs[j].toNat).toNat : Int) = zs[j] := by
        have e2 : (UInt8.ofNat zs[j].toNat).toNat = zs[j].toNat % 256 := by simp
        omega
      rw [this]; rfl
end Go.Proofs.Ytkgfahmajhfgbaa
