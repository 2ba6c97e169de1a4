/- Words for memory: a block that is known whole; a slice that reads as a list of bytes, or of lists; bytes that the call itself laid, and what is appended to them; what came in. -/
import Derived.Test.YtggdlklkjnbbjaaGreatDoorRows
import Derived.Test.YtggdlklkjnbbjaaGreatDoorSwO
import Derived.WalkKit
import Derived.WalkSpells
import Derived.WalkLawsBesides
import Derived.Laws.BitsAllLaws
import Derived.Lib.Hide
import Derived.Below
import Derived.Laws.OwnMore
import Derived.Deep.Draws
import Derived.Laws.Rows
import Derived.RangeFuncNested
import Derived.Maps.AppendAt
import Derived.Deep.AppendLies
import Derived.Laws.BytesArg
import Derived.ProofKit
import Derived.OpenShut
import Derived.Deep.DeepCutAuto
import Derived.Deep.RegionHeld3
import Derived.BigRegion
import Derived.Deep.QuietTactic
import Derived.BigQuiet
import Derived.Deep.RegionWith
import Derived.Outline
import Derived.Recover
import Derived.Defers
namespace Go.Proofs.YtggdlklkjnbbjaaGreatDoor.C
open Go.RowKit

section
variable {w w' : World} {g : Nat} {t : TypeId} {cs : Array Value}
theorem _root_.Go.Proofs.YtggdlklkjnbbjaaGreatDoor.Blk.setRow (h : Blk w g t cs) (cs' : Array Value) : Blk (w.setRow g cs') g t cs' := setRow_heap w g cs _ t _ h
theorem _root_.Go.Proofs.YtggdlklkjnbbjaaGreatDoor.Blk.farRow (h : Blk w g t cs) {g' : Nat} (hg : g ≠ g') (cs' : Array Value) : Blk (w.setRow g' cs') g t cs := (setRow_other w g' g cs' hg).trans h
theorem below_setRow {B g : Nat} {a w : World} (h : Below B a w) (hg : B ≤ g) (cs : Array Value) : Below B a (w.setRow g cs) :=
  ⟨h.os, h.tape, h.output, by simpa using h.size, fun i hi => (setRow_other w g i cs (by omega)).trans (h.block i hi)⟩
end

/-- The value v reads as the bytes l; they lie below block B. -/
def Bytes (B : Nat) (W : World) (v : Value) (l : List UInt8) : Prop :=
  ∃ A cap, v = .slice A l.length cap ∧ l.length ≤ cap ∧ (0 < l.length → ∃ b off, A = some ⟨b, off, none⟩ ∧ b < B ∧ ∀ j, j < l.length → W.cell? ⟨b, off + j, none⟩ = some (.int .u8 ((l[j]?.getD 0).toNat : Int)))

section
variable {W W' : World} {B B' : Nat} {v : Value} {l : List UInt8}
theorem Bytes.keep (h : Bytes B W v l) (hk : ∀ p : Addr, p.block < B → W'.cell? p = W.cell? p) : Bytes B W' v l := by
  obtain ⟨A, cap, e, hc, hA⟩ := h
  refine ⟨A, cap, e, hc, fun hp => ?_⟩
  obtain ⟨b, off, e2, hb, hcell⟩ := hA hp
  exact ⟨b, off, e2, hb, fun j hj => (hk ⟨b, off + j, none⟩ hb).trans (hcell j hj)⟩
theorem Bytes.below (h : Bytes B W v l) (hb : Below B W W') : Bytes B W' v l := h.keep fun _ hp => hb.cell hp
theorem Bytes.more (h : Bytes B W v l) (hB : B ≤ B') : Bytes B' W v l := by
  obtain ⟨A, cap, e, hc, hA⟩ := h
  refine ⟨A, cap, e, hc, fun hp => ?_⟩
  obtain ⟨b, off, e2, hb, hcell⟩ := hA hp
  exact ⟨b, off, e2, by omega, hcell⟩
theorem Bytes.nil_ (B : Nat) (W : World) (A : Option Addr) (cap : Nat) : Bytes B W (.slice A 0 cap) [] := ⟨A, cap, rfl, Nat.zero_le _, fun h => absurd h (by simp)⟩
end

/-- The values of a slice of slices. -/
def Lists (B : Nat) (W : World) (vs : List Value) (ls : List (List UInt8)) : Prop :=
  vs.length = ls.length ∧ ∀ j, j < ls.length → Bytes B W (vs[j]?.getD undef) (ls[j]?.getD [])

/-- The value v reads as the lists ls; it lies below block B, and so do they. -/
def Many (B : Nat) (W : World) (v : Value) (ls : List (List UInt8)) : Prop :=
  ∃ A cap, v = .slice A ls.length cap ∧ ls.length ≤ cap ∧ (0 < ls.length → ∃ b off, A = some ⟨b, off, none⟩ ∧ b < B ∧
    ∀ j, j < ls.length → ∃ u, W.cell? ⟨b, off + j, none⟩ = some u ∧ Bytes B W u (ls[j]?.getD []))

section
variable {W W' : World} {B B' : Nat} {v : Value} {ls : List (List UInt8)}
theorem Many.keep (h : Many B W v ls) (hk : ∀ p : Addr, p.block < B → W'.cell? p = W.cell? p) : Many B W' v ls := by
  obtain ⟨A, cap, e, hc, hA⟩ := h
  refine ⟨A, cap, e, hc, fun hp => ?_⟩
  obtain ⟨b, off, e2, hb, hcell⟩ := hA hp
  refine ⟨b, off, e2, hb, fun j hj => ?_⟩
  obtain ⟨u, hu, hb'⟩ := hcell j hj
  exact ⟨u, (hk ⟨b, off + j, none⟩ hb).trans hu, hb'.keep hk⟩
theorem Many.below (h : Many B W v ls) (hb : Below B W W') : Many B W' v ls := h.keep fun _ hp => hb.cell hp
theorem Many.more (h : Many B W v ls) (hB : B ≤ B') : Many B' W v ls := by
  obtain ⟨A, cap, e, hc, hA⟩ := h
  refine ⟨A, cap, e, hc, fun hp => ?_⟩
  obtain ⟨b, off, e2, hb, hcell⟩ := hA hp
  refine ⟨b, off, e2, by omega, fun j hj => ?_⟩
  obtain ⟨u, hu, hb'⟩ := hcell j hj
  exact ⟨u, hu, hb'.more hB⟩
theorem Many.nil_ (B : Nat) (W : World) (A : Option Addr) (cap : Nat) : Many B W (.slice A 0 cap) [] := ⟨A, cap, rfl, Nat.zero_le _, fun h => absurd h (by simp)⟩
end

theorem Tryz.infoByte : (Tryz.prog.info? 5).map (fun i => (i.zero, i.size, i.bytes)) = some (some (.int .u8 0), 1, 1) := by kernel_rfl

def enc (c : UInt8) : Value := .int .u8 (c.toNat : Int)
/-- The value v owns a row of its own, from block base on, whose cells are the bytes l. -/
def OwnB (w : World) (base : Nat) (v : Value) (l : List UInt8) : Prop := w.ownsRow base 5 1 v l.length (l.map enc)

theorem OwnB.bytes {w : World} {base : Nat} {v : Value} {l : List UInt8} (h : OwnB w base v l) : Bytes w.heap.size w v l := by
  rcases h.2 with ⟨rfl, h0⟩ | ⟨g, cap, cur, rfl, _, hg, hn, _, hsz, ht⟩
  · have : l = [] := List.eq_nil_of_length_eq_zero h0
    subst this
    exact Bytes.nil_ _ _ _ _
  · refine ⟨_, cap, rfl, hn, fun hp => ⟨g, 0, rfl, ?_, fun j hj => ?_⟩⟩
    · exact (Array.getElem?_eq_some_iff.1 hg).1
    · rw [Nat.zero_add, cell_of_row w g j cur _ (0, 0) hg]
      have e : (l.map enc)[j]? = some (enc (l[j]?.getD 0)) := by
        rw [List.getElem?_map, List.getElem?_eq_getElem hj]; rfl
      rw [← ht, List.getElem?_take_of_lt (by omega)] at e
      rw [Array.getElem?_toList] at e
      exact e

theorem run_app {P : Program} (w : World) (base : Nat) (ty : TypeId) (i : TypeInfo) (ht : P.underlying 25 = some (.slice 5)) (hi : P.info? 5 = some i) (hz : i.zero = some (.int .u8 0)) (hsize : i.size = 1) (hby : i.bytes = 1)
    (v : Value) (xs : List UInt8) (hown : OwnB w base v xs) (B : Nat) (sv : Value) (ys : List UInt8) (hb : Bytes B w sv ys) (hlen : xs.length + ys.length ≤ 140737488355328) (hbase : base ≤ w.heap.size) :
    ∃ v' w', (Builtin.append_ #[25, 25] ty #[v, sv]).run P w = .ok v' w' ∧ OwnB w' base v' (xs ++ ys) ∧ w.grownBy w' v.ownBlock ∧ (v'.ownBlock = v.ownBlock ∨ v'.ownBlock = some w.heap.size) := by
  obtain ⟨A, cap, rfl, _, hA⟩ := hb
  rcases A with _ | ad
  · have hn : ys = [] := by
      rcases Nat.eq_zero_or_pos ys.length with h0 | h0
      · exact List.eq_nil_of_length_eq_zero h0
      · obtain ⟨b, off, h, _⟩ := hA h0
        cases h
    subst hn
    refine ⟨v, w, ?_, by simpa using hown, World.grownBy.refl w _, .inl rfl⟩
    rcases hown.2 with ⟨rfl, h0⟩ | ⟨g, cap', cur, rfl, _, _, hnc, _⟩
    · simp [Builtin.append_, run_underlying ht, sizeOf, typeInfo, hi, Builtin.lenOf, Builtin.firstCells]
    · simp [Builtin.append_, run_underlying ht, sizeOf, typeInfo, hi, Builtin.lenOf, Builtin.firstCells, hnc, storeCells]
  · have hcells : ∀ j u, (ys.map enc)[j]? = some u → w.cell? (ad.add j) = some u := by
      intro j u hu
      have hj : j < ys.length := by simpa using (List.getElem?_eq_some_iff.1 hu).1
      obtain ⟨b, off, h, _, hc⟩ := hA (by omega)
      injection h with h
      subst h
      rw [addr_add, hc j hj]
      rw [List.getElem?_map, List.getElem?_eq_getElem hj] at hu
      rw [List.getElem?_eq_getElem hj]
      exact hu
    obtain ⟨v', w', hrun, h2, h3, _, h5⟩ := run_append_own_at (P := P) w base 25 ty 5 i (.int .u8 0) 1 1 ht hi hz hsize hby rfl (by omega) v xs.length (xs.map enc) hown ad ys.length cap (ys.map enc) (by simp) hcells
      (by intro u hu; obtain ⟨c, _, rfl⟩ := List.mem_map.1 hu; rfl) (by unfold maxLen; omega) (by omega) hbase
    exact ⟨v', w', hrun, by unfold OwnB; simpa using h2, h3, h5⟩

theorem wp_app {P : Program} (w : World) {o : Oper} {a : Act} {K : Act → World → Prop} {Q : Exit → Act → World → Prop} (s x : Operand)
    (ho : o.op = .call { callee := .builtin .append, args := #[s, x], argTypes := #[25, 25] })
    (base : Nat) (i : TypeInfo) (ht : P.underlying 25 = some (.slice 5)) (hi : P.info? 5 = some i) (hz : i.zero = some (.int .u8 0)) (hsize : i.size = 1) (hby : i.bytes = 1)
    (v : Value) (xs : List UInt8) (hs : a.eval s = v) (hown : OwnB w base v xs) (B : Nat) (sv : Value) (ys : List UInt8) (hx : a.eval x = sv) (hb : Bytes B w sv ys) (hlen : xs.length + ys.length ≤ 140737488355328) (hbase : base ≤ w.heap.size)
    (h : ∀ v' w', OwnB w' base v' (xs ++ ys) → w.grownBy w' v.ownBlock → (v'.ownBlock = v.ownBlock ∨ v'.ownBlock = some w.heap.size) → K (a.put o.dst v') w') : o.wp P a w K Q := by
  obtain ⟨v', w', hrun, h2, h3, h4⟩ := run_app (P := P) w base o.type i ht hi hz hsize hby v xs hown B sv ys hb hlen hbase
  unfold Oper.wp execOp
  simp only [ho, resolve, invoke, builtin, Sem.run_bind, Sem.run_pure, Result.andThen_ok, List.map_toArray, List.map_cons, List.map_nil, hs, hx, hrun]
  exact h v' w' h2 h3 h4

theorem wpList_app {P : Program} (w : World) {ops : Array Oper} {rest : List Oper} {o : Oper} {a : Act} {Q : Exit → Act → World → Prop} (hgd : o.guard = none) (s x : Operand)
    (ho : o.op = .call { callee := .builtin .append, args := #[s, x], argTypes := #[25, 25] })
    (base : Nat) (i : TypeInfo) (ht : P.underlying 25 = some (.slice 5)) (hi : P.info? 5 = some i) (hz : i.zero = some (.int .u8 0)) (hsize : i.size = 1) (hby : i.bytes = 1)
    (v : Value) (xs : List UInt8) (hs : a.eval s = v) (hown : OwnB w base v xs) (B : Nat) (sv : Value) (ys : List UInt8) (hx : a.eval x = sv) (hb : Bytes B w sv ys) (hlen : xs.length + ys.length ≤ 140737488355328) (hbase : base ≤ w.heap.size)
    (h : ∀ v' w', OwnB w' base v' (xs ++ ys) → w.grownBy w' v.ownBlock → (v'.ownBlock = v.ownBlock ∨ v'.ownBlock = some w.heap.size) → wpList P ops Q rest (a.put o.dst v') w') : wpList P ops Q (o :: rest) a w :=
  wpList_plain hgd fun _ hK => wp_app w s x ho base i ht hi hz hsize hby v xs hs hown B sv ys hx hb hlen hbase fun v' w' h2 h3 h4 => hK _ _ (h v' w' h2 h3 h4)

theorem step_app {P : Program} (w : World) {ops : Array Oper} {o : Oper} {a : Act} {K : Act → World → Prop} {Q : Exit → Act → World → Prop} {E : Prop} (hgd : o.guard = none) (s x : Operand)
    (ho : o.op = .call { callee := .builtin .append, args := #[s, x], argTypes := #[25, 25] })
    (base : Nat) (i : TypeInfo) (ht : P.underlying 25 = some (.slice 5)) (hi : P.info? 5 = some i) (hz : i.zero = some (.int .u8 0)) (hsize : i.size = 1) (hby : i.bytes = 1)
    (v : Value) (xs : List UInt8) (hs : a.eval s = v) (hown : OwnB w base v xs) (B : Nat) (sv : Value) (ys : List UInt8) (hx : a.eval x = sv) (hb : Bytes B w sv ys) (hlen : xs.length + ys.length ≤ 140737488355328) (hbase : base ≤ w.heap.size)
    (h : ∀ v' w', OwnB w' base v' (xs ++ ys) → w.grownBy w' v.ownBlock → (v'.ownBlock = v.ownBlock ∨ v'.ownBlock = some w.heap.size) → K (a.put o.dst v') w') :
    if Region.wanted o (yielded ops a.tmps) = true then Oper.wp P o a w K Q else E := by
  have hw : Region.wanted o (yielded ops a.tmps) = true := by simp [Region.wanted, hgd]
  rw [if_pos hw]
  exact wp_app w s x ho base i ht hi hz hsize hby v xs hs hown B sv ys hx hb hlen hbase h

/-- string(v). -/
theorem run_text {P : Program} (w : World) (dst : TypeId) (ht : P.underlying 25 = some (.slice 5)) (he : P.underlying 5 = some (.int .u8)) (hd : P.underlying dst = some .string)
    {B : Nat} {v : Value} {l : List UInt8} (h : Bytes B w v l) : (convert 25 dst v).run P w = .ok (.string ⟨l.toArray⟩) w := by
  obtain ⟨A, cap, rfl, _, hA⟩ := h
  rcases A with _ | ad
  · have hn : l = [] := by
      rcases Nat.eq_zero_or_pos l.length with h0 | h0
      · exact List.eq_nil_of_length_eq_zero h0
      · obtain ⟨b, off, h, _⟩ := hA h0
        cases h
    subst hn
    exact run_convert_bytes_nil w _ _ ht he _ _ _ hd
  · refine run_convert_bytes_back w _ _ _ ad cap l ht he hd fun j hj => ?_
    obtain ⟨b, off, h, _, hc⟩ := hA (by omega)
    injection h with h
    subst h
    rw [addr_add, hc j hj, List.getElem?_eq_getElem hj]; rfl

/-- A slice of integers that came in: it is nil; or it leads to a row of 'cap' cells, the numbers 'zs'. -/
def IsRow (k : IntKind) (w : World) (a : Option Addr) (len cap : Nat) (zs : List Int) : Prop :=
  (a = none ∧ len = 0 ∧ cap = 0 ∧ zs = []) ∨
  ∃ x, a = some x ∧ len ≤ cap ∧ cap ≤ maxLen ∧ zs.length = cap ∧ (∀ i, i < zs.length → w.cell? (x.add i) = some (.int k (zs.getD i 0))) ∧ ∀ n ∈ zs, (Lit.int k n).wf = true

theorem wf_u8 {n : Int} (h : (Lit.int .u8 n).wf = true) : 0 ≤ n ∧ n < 256 := by
  have := bounds_u8 h
  omega
theorem wf_u32 {n : Int} (h : (Lit.int .u32 n).wf = true) : ∃ s : Nat, n = (s : Int) ∧ s < 4294967296 := by
  have := bounds_u32 h
  exact ⟨n.toNat, by omega, by omega⟩

theorem row_bytes {w : World} {a : Option Addr} {len cap : Nat} {zs : List Int} (h : IsRow .u8 w a len cap zs) : ∃ l : List UInt8, l.length = len ∧ Bytes w.heap.size w (.slice a len cap) l := by
  rcases h with ⟨rfl, rfl, rfl, rfl⟩ | ⟨x, rfl, hl, _, hz, hcell, hwz⟩
  · exact ⟨[], rfl, Bytes.nil_ _ _ _ _⟩
  · have hlen : ((zs.take len).map fun z => UInt8.ofNat z.toNat).length = len := by rw [List.length_map, List.length_take]; omega
    refine ⟨(zs.take len).map fun z => UInt8.ofNat z.toNat, hlen, ?_⟩
    unfold Bytes
    rw [hlen]
    refine ⟨some x, cap, rfl, hl, fun hp => ?_⟩
    obtain ⟨b, off, spot⟩ := x
    have hc := hcell 0 (by omega)
    have hspot : spot = none := by simpa [Addr.add] using World.cell?_spot hc
    subst hspot
    refine ⟨b, off, rfl, ?_, fun j hj => ?_⟩
    · have := block_lt_of_cell hc
      simpa [Addr.add] using this
    · have hj' : j < zs.length := by omega
      rw [← addr_add, hcell j hj']
      have hw := wf_u8 (hwz _ (List.getElem_mem hj'))
      have e : ((zs.take len).map fun z => UInt8.ofNat z.toNat)[j]?.getD 0 = UInt8.ofNat zs[j].toNat := by
        rw [List.getElem?_map, List.getElem?_take_of_lt hj, List.getElem?_eq_getElem hj']; rfl
      rw [e, List.getD_eq_getElem?_getD, List.getElem?_eq_getElem hj']
      have : ((UInt8.ofNat zs[j].toNat).toNat : Int) = zs[j] := by
        have e2 : (UInt8.ofNat zs[j].toNat).toNat = zs[j].toNat % 256 := by simp
        omega
      rw [this]; rfl
/-- Block g holds the bytes l. -/
def Row (w : World) (g : Nat) (l : List UInt8) : Prop := Blk w g 5 (l.map enc).toArray
theorem Row.set_ {w : World} {g : Nat} {l : List UInt8} (h : Row w g l) (k : Nat) (c : UInt8) : Row (w.setCell ⟨g, k, none⟩ (.int .u8 (c.toNat : Int))) g (l.set k c) := by
  have e : ((l.set k c).map enc).toArray = ((l.map enc).toArray).setIfInBounds k (.int .u8 (c.toNat : Int)) := by
    rw [List.map_set, List.setIfInBounds_toArray]; rfl
  unfold Row
  rw [e]
  exact Blk.set_ h k _
theorem Row.far {w : World} {g : Nat} {l : List UInt8} (h : Row w g l) {p : Addr} (hp : g ≠ p.block) (u : Value) : Row (w.setCell p u) g l := Blk.far h hp u
theorem Row.cell {w : World} {g : Nat} {l : List UInt8} (h : Row w g l) {k : Nat} (hk : k < l.length) : w.cell? ⟨g, k, none⟩ = some (.int .u8 ((l[k]?.getD 0).toNat : Int)) := by
  have h' : Blk w g 5 (l.map enc).toArray := h
  rw [h'.cell k, List.getElem?_toArray, List.getElem?_map, List.getElem?_eq_getElem hk]; rfl
theorem Row.frozen {w : World} {g : Nat} {l : List UInt8} (h : Row w g l) (k : Nat) : w.frozen? ⟨g, k, none⟩ = false := Blk.frozen h k
theorem Row.lt {w : World} {g : Nat} {l : List UInt8} (h : Row w g l) : g < w.heap.size := Blk.lt h
theorem Row.bytes {w : World} {g : Nat} {l : List UInt8} (h : Row w g l) {n : Nat} (hn : l.length = n) : Bytes w.heap.size w (.slice (some ⟨g, 0, none⟩) n n) l := by
  subst hn
  exact ⟨_, _, rfl, Nat.le_refl _, fun _ => ⟨g, 0, rfl, h.lt, fun j hj => by rw [Nat.zero_add]; exact h.cell hj⟩⟩
theorem Row.made (w : World) (n : Nat) : Row (w.alloc (.cells (madeCells #[.int .u8 0] n) 5)) w.heap.size (List.replicate n 0) := by
  have e : ((List.replicate n (0 : UInt8)).map enc).toArray = madeCells #[.int .u8 0] n := by
    apply Array.toList_inj.1
    rw [toList_madeCells_one, List.map_replicate]; rfl
  unfold Row
  rw [e]
  exact Blk.new w _ _
theorem Row.alloc {w : World} {g : Nat} {l : List UInt8} (h : Row w g l) (o : Obj) : Row (w.alloc o) g l := Blk.alloc h o

theorem byte_lt (c : UInt8) : c.toNat < 256 := by have := c.toNat_lt; omega
theorem bits_u8 (a b : UInt8) : bits .xor .u8 (a.toNat : Int) (b.toNat : Int) = ((a ^^^ b).toNat : Int) := by
  rw [u8_xor_nat _ _ (byte_lt a) (byte_lt b), UInt8.toNat_xor]
theorem u8_of {n : Int} (h : (Lit.int .u8 n).wf = true) : ∃ c : UInt8, n = (c.toNat : Int) := by
  have hw := wf_u8 h
  refine ⟨UInt8.ofNat n.toNat, ?_⟩
  have e2 : (UInt8.ofNat n.toNat).toNat = n.toNat % 256 := by simp
  omega
theorem u8_mod (n : Int) : ∃ c : UInt8, n % 256 = (c.toNat : Int) := by
  refine ⟨UInt8.ofNat (n % 256).toNat, ?_⟩
  have e2 : (UInt8.ofNat (n % 256).toNat).toNat = (n % 256).toNat % 256 := by simp
  omega

theorem Bytes.take_ {B : Nat} {w : World} {A : Option Addr} {n cap : Nat} {l : List UInt8} (h : Bytes B w (.slice A n cap) l) {m : Nat} (hm : m ≤ n) : Bytes B w (.slice A m cap) (l.take m) := by
  obtain ⟨A', cap', e, hc, hA⟩ := h
  injection e with e1 e2 e3
  subst e1 e2 e3
  have hl : (l.take m).length = m := by rw [List.length_take]; omega
  refine ⟨A, cap, by rw [hl], by omega, fun hp => ?_⟩
  obtain ⟨b, off, e, hb, hcell⟩ := hA (by omega)
  exact ⟨b, off, e, hb, fun j hj => by rw [hcell j (by omega), List.getElem?_take_of_lt (by omega)]⟩
theorem Bytes.drop_ {B : Nat} {w : World} {A : Option Addr} {n cap : Nat} {l : List UInt8} (h : Bytes B w (.slice A n cap) l) {m : Nat} (hm : m ≤ n) (_hne : cap ≠ m) :
    Bytes B w (.slice (Option.map (fun x => x.add m) A) (n - m) (cap - m)) (l.drop m) := by
  obtain ⟨A', cap', e, hc, hA⟩ := h
  injection e with e1 e2 e3
  subst e1 e2 e3
  refine ⟨_, cap - m, by rw [List.length_drop], by rw [List.length_drop]; omega, fun hp => ?_⟩
  rw [List.length_drop] at hp
  obtain ⟨b, off, rfl, hb, hcell⟩ := hA (by omega)
  refine ⟨b, off + m, by rw [Option.map_some, addr_add], hb, fun j hj => ?_⟩
  rw [List.length_drop] at hj
  rw [Nat.add_assoc, hcell (m + j) (by omega), List.getElem?_drop]

end Go.Proofs.YtggdlklkjnbbjaaGreatDoor.C
