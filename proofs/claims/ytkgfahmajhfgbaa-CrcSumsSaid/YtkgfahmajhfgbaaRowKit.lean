/- What the rows' steps hand to the walks: a list of bytes that came in; a word that came in. -/
import Derived.Test.YtkgfahmajhfgbaaMath2
import Derived.ProofKit
import Derived.OpenShut
import Derived.Deep.DeepCutAuto
import Derived.Deep.RegionHeld3
import Derived.BigRegion
namespace Go.Proofs.Ytkgfahmajhfgbaa
open Go.RowKit

theorem own : ownKnob Try.prog.godebug = none := by kernel_rfl
theorem laidOut : laidOutB Try.prog = true := by kernel_rfl

/-- A slice of integers that came in: it is nil; or it leads to a row of 'cap' cells, the numbers 'zs'. -/
def IsRow (k : IntKind) (w : World) (a : Option Addr) (len cap : Nat) (zs : List Int) : Prop :=
  (a = none ∧ len = 0 ∧ cap = 0 ∧ zs = []) ∨
  ∃ x, a = some x ∧ len ≤ cap ∧ cap ≤ maxLen ∧ zs.length = cap ∧ (∀ i, i < zs.length → w.cell? (x.add i) = some (.int k (zs.getD i 0))) ∧ ∀ n ∈ zs, (Lit.int k n).wf = true

theorem wf_u8 {n : Int} (h : (Lit.int .u8 n).wf = true) : 0 ≤ n ∧ n < 256 := by
  have := bounds_u8 h
  omega
theorem wf_u32 {n : Int} (h : (Lit.int .u32 n).wf = true) : ∃ s : Nat, n = (s : Int) ∧ s < 4294967296 := by
  have := bounds_u32 h
  exact ⟨n.toNat, by omega, by omega⟩

theorem row_bytes {w : World} {a : Option Addr} {len cap : Nat} {zs : List Int} (h : IsRow .u8 w a len cap zs) : ∃ l : List UInt8, l.length = len ∧ Bytes w.heap.size w (.slice a len cap) l := by
  rcases h with ⟨rfl, rfl, rfl, rfl⟩ | ⟨x, rfl, hl, _, hz, hcell, hwz⟩
  · exact ⟨[], rfl, Bytes.nil_ _ _ _ _⟩
  · have hlen : ((zs.take len).map fun z => UInt8.ofNat z.toNat).length = len := by rw [List.length_map, List.length_take]; omega
    refine ⟨(zs.take len).map fun z => UInt8.ofNat z.toNat, hlen, ?_⟩
    unfold Bytes
    rw [hlen]
    refine ⟨some x, cap, rfl, hl, fun hp => ?_⟩
    obtain ⟨b, off, spot⟩ := x
    have hc := hcell 0 (by omega)
    have hspot : spot = none := by simpa [Addr.add] using World.cell?_spot hc
    subst hspot
    refine ⟨b, off, rfl, ?_, fun j hj => ?_⟩
    · have := block_lt_of_cell hc
      simpa [Addr.add] using this
    · have hj' : j < zs.length := by omega
      rw [← addr_add, hcell j hj']
      have hw := wf_u8 (hwz _ (List.getElem_mem hj'))
      have e : ((zs.take len).map fun z => UInt8.ofNat z.toNat)[j]?.getD 0 = UInt8.ofNat zs[j].toNat := by
        rw [List.getElem?_map, List.getElem?_take_of_lt hj, List.getElem?_eq_getElem hj']; rfl
      rw [e, List.getD_eq_getElem?_getD, List.getElem?_eq_getElem hj']
      have : ((UInt8.ofNat zs[j].toNat).toNat : Int) = zs[j] := by
        have e2 : (UInt8.ofNat zs[j].toNat).toNat = zs[j].toNat % 256 := by simp
        omega
      rw [this]; rfl
theorem sum_one {W : World} {v : Value} {l : List UInt8} (hlen : l.length ≤ 140737488351232) (hb : Bytes W.heap.size W v l) :
    Calls Try.prog 11 #[.slice (some ⟨W.heap.size, 0, none⟩) 1 1] (W.alloc (.cells #[v] 24)) fun e w' => e = .returned (.int .u32 ((sum l : Nat) : Int)) ∧ Below W.heap.size W w' := by
  have := sum_any _ [l] (by intro j; cases j <;> simp [hlen]) (by simp) _ (Many.one (t := 24) hb)
  refine this.mono ?_
  rintro e w' ⟨rfl, hB⟩
  exact ⟨by simp, ((Below.refl _ W).alloc (Nat.le_refl _) _).trans (hB.mono (by simp))⟩

/-- Block g holds the bytes l. -/
def Row (w : World) (g : Nat) (l : List UInt8) : Prop := Blk w g 5 (l.map enc).toArray
theorem Row.set_ {w : World} {g : Nat} {l : List UInt8} (h : Row w g l) (k : Nat) (c : UInt8) : Row (w.setCell ⟨g, k, none⟩ (.int .u8 (c.toNat : Int))) g (l.set k c) := by
  have e : ((l.set k c).map enc).toArray = ((l.map enc).toArray).setIfInBounds k (.int .u8 (c.toNat : Int)) := by
    rw [List.map_set, List.setIfInBounds_toArray]; rfl
  unfold Row
  rw [e]
  exact Blk.set_ h k _
theorem Row.far {w : World} {g : Nat} {l : List UInt8} (h : Row w g l) {p : Addr} (hp : g ≠ p.block) (u : Value) : Row (w.setCell p u) g l := Blk.far h hp u
theorem Row.cell {w : World} {g : Nat} {l : List UInt8} (h : Row w g l) {k : Nat} (hk : k < l.length) : w.cell? ⟨g, k, none⟩ = some (.int .u8 ((l[k]?.getD 0).toNat : Int)) := by
  have h' : Blk w g 5 (l.map enc).toArray := h
  rw [h'.cell k, List.getElem?_toArray, List.getElem?_map, List.getElem?_eq_getElem hk]; rfl
theorem Row.frozen {w : World} {g : Nat} {l : List UInt8} (h : Row w g l) (k : Nat) : w.frozen? ⟨g, k, none⟩ = false := Blk.frozen h k
theorem Row.lt {w : World} {g : Nat} {l : List UInt8} (h : Row w g l) : g < w.heap.size := Blk.lt h
theorem Row.bytes {w : World} {g : Nat} {l : List UInt8} (h : Row w g l) {n : Nat} (hn : l.length = n) : Bytes w.heap.size w (.slice (some ⟨g, 0, none⟩) n n) l := by
  subst hn
  exact ⟨_, _, rfl, Nat.le_refl _, fun _ => ⟨g, 0, rfl, h.lt, fun j hj => by rw [Nat.zero_add]; exact h.cell hj⟩⟩
theorem Row.made (w : World) (n : Nat) : Row (w.alloc (.cells (madeCells #[.int .u8 0] n) 5)) w.heap.size (List.replicate n 0) := by
  have e : ((List.replicate n (0 : UInt8)).map enc).toArray = madeCells #[.int .u8 0] n := by
    apply Array.toList_inj.1
    rw [toList_madeCells_one, List.map_replicate]; rfl
  unfold Row
  rw [e]
  exact Blk.new w _ _
theorem Row.alloc {w : World} {g : Nat} {l : List UInt8} (h : Row w g l) (o : Obj) : Row (w.alloc o) g l := Blk.alloc h o

theorem u8_of {n : Int} (h : (Lit.int .u8 n).wf = true) : ∃ c : UInt8, n = (c.toNat : Int) := by
  have hw := wf_u8 h
  refine ⟨UInt8.ofNat n.toNat, ?_⟩
  have e2 : (UInt8.ofNat n.toNat).toNat = n.toNat % 256 := by simp
  omega
theorem u8_mod (n : Int) : ∃ c : UInt8, n % 256 = (c.toNat : Int) := by
  refine ⟨UInt8.ofNat (n % 256).toNat, ?_⟩
  have e2 : (UInt8.ofNat (n % 256).toNat).toNat = (n % 256).toNat % 256 := by simp
  omega
theorem bits_u8 (a b : UInt8) : bits .xor .u8 (a.toNat : Int) (b.toNat : Int) = ((a ^^^ b).toNat : Int) := by
  rw [u8_xor_nat _ _ (byte_lt a) (byte_lt b), UInt8.toNat_xor]
end Go.Proofs.Ytkgfahmajhfgbaa
