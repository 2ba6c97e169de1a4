/- Four, bytes, copied, cutOff. -/
import Derived.Test.YtkgfahmajhfgbaaMem2
import Derived.Deep.QuietTactic
import Derived.BigQuiet
import Derived.Deep.RegionWith
import Derived.Outline
namespace Go.Proofs.Ytkgfahmajhfgbaa
open Go.RowKit

def le4 (n : Nat) : List UInt8 := [UInt8.ofNat n, UInt8.ofNat (n / 256), UInt8.ofNat (n / 65536), UInt8.ofNat (n / 16777216)]
theorem le4_cells (x : Nat) (hx : x < 4294967296) : ((le4 x).map enc).toArray = #[.int .u8 ((x : Int) % 256), .int .u8 ((x : Int) / 256 % 256), .int .u8 ((x : Int) / 65536 % 256), .int .u8 ((x : Int) / 16777216)] := by
  have e : ∀ n : Nat, ((UInt8.ofNat n).toNat : Int) = (n : Int) % 256 := by intro n; simp
  simp only [le4, enc, List.map_cons, List.map_nil, e]
  rw [show ((x / 16777216 : Nat) : Int) % 256 = (x : Int) / 16777216 by omega, show ((x / 256 : Nat) : Int) = (x : Int) / 256 by omega, show ((x / 65536 : Nat) : Int) = (x : Int) / 65536 by omega]

set_option maxHeartbeats 400000 in
theorem four_any (x : Nat) (hx : x < 4294967296) (w : World) :
    Calls Try.prog 19 #[.int .u32 (x : Int)] w fun e w' => e = .returned (.slice (some ⟨w.heap.size, 0, none⟩) 4 4) ∧ w.alloc (.cells ((le4 x).map enc).toArray 5) = w' := by
  go_enter Try.func19, Try.ntmps19
  go_wp2
  go_ret
  exact ⟨rfl, by rw [le4_cells x hx]⟩

theorem four_bytes (x : Nat) (w : World) : Bytes (w.heap.size + 1) (w.alloc (.cells ((le4 x).map enc).toArray 5)) (.slice (some ⟨w.heap.size, 0, none⟩) 4 4) (le4 x) := by
  refine ⟨_, 4, rfl, Nat.le_refl _, fun _ => ⟨w.heap.size, 0, rfl, by omega, fun j hj => ?_⟩⟩
  rw [Nat.zero_add, (Blk.new w _ _).cell j]
  rw [List.getElem?_toArray, List.getElem?_map, List.getElem?_eq_getElem hj]; rfl

set_option maxHeartbeats 400000 in
theorem bytes_any (x : Nat) (hx : x < 4294967296) (w : World) :
    Calls Try.prog 30 #[.int .u32 (x : Int)] w fun e w' => e = .returned (.agg ((le4 x).map enc).toArray) ∧ w.alloc (.cells ((le4 x).map enc).toArray 40) = w' := by
  go_enter Try.func30, Try.ntmps30
  go_wp2
  refine bodyPost_ret (results_cell_row rfl _ _ w.heap.size _ _ _ _ rfl (heap_alloc_new w _) Try.underlying40 rfl (by kernel_rfl)) rfl ?_
  rw [le4_cells x hx]
  exact ⟨rfl, rfl⟩

set_option maxHeartbeats 400000 in
theorem copied_any (v : Value) (l : List UInt8) (k : Nat) (hlen : l.length + k ≤ 140737488355328) (w : World) (hb : Bytes w.heap.size w v l) :
    Calls Try.prog 26 #[v, .int .i64 (k : Int)] w fun e w' => ∃ v', e = .returned v' ∧ OwnB w' w.heap.size v' l ∧ Below w.heap.size w w' := by
  obtain ⟨i0, hi, hz0, hz1, hz2⟩ := info_parts Try.infoByte
  have hmk := run_make (P := Try.prog) w 24 5 i0 (.int .u8 0) Try.underlying24 hi hz0 .i64 .i64 0 ((l.length : Int) + (k : Int)) (by omega) (by omega) (by rw [hz2]; omega) (by omega)
  rw [hz1, Nat.mul_one, show ((l.length : Int) + (k : Int)).toNat = l.length + k by omega, show (0 : Int).toNat = 0 from rfl] at hmk
  have hown : OwnB (w.alloc (.cells (madeCells #[.int .u8 0] (l.length + k)) 5)) w.heap.size (.slice (some ⟨w.heap.size, 0, none⟩) 0 (l.length + k)) [] :=
    World.ownsRow_made w _ (l.length + k) (Nat.le_refl _) (by unfold maxLen; omega) (by rw [size_madeCells, Nat.mul_one])
  have hb1 : Bytes w.heap.size (w.alloc (.cells (madeCells #[.int .u8 0] (l.length + k)) 5)) v l := hb.below ((Below.refl _ w).alloc (Nat.le_refl _) _)
  have HO := Lib.hid hown
  have HB := Lib.hid hb1
  clear hown hb1
  obtain ⟨A, cap, rfl, _, _⟩ := id hb
  clear hb
  go_enter Try.func26, Try.ntmps26
  go_wp2_with (at_builtin; refine wpList_app _ rfl _ _ rfl w.heap.size i0 Try.underlying24 hi hz0 hz1 hz2 _ [] rfl HO.out w.heap.size _ l rfl HB.out (by simp; omega) (by simp) ?_; intro v' w1 hown1 hgrow1 _)
  go_ret
  refine ⟨_, rfl, by simpa using hown1, ?_⟩
  exact below_grown ((Below.refl _ w).alloc (Nat.le_refl _) _) hgrow1 (by simp) (fun k e => by cases e; exact Nat.le_refl _)

theorem Bytes.take_ {B : Nat} {w : World} {A : Option Addr} {n cap : Nat} {l : List UInt8} (h : Bytes B w (.slice A n cap) l) {m : Nat} (hm : m ≤ n) : Bytes B w (.slice A m cap) (l.take m) := by
  obtain ⟨A', cap', e, hc, hA⟩ := h
  injection e with e1 e2 e3
  subst e1 e2 e3
  have hl : (l.take m).length = m := by rw [List.length_take]; omega
  refine ⟨A, cap, by rw [hl], by omega, fun hp => ?_⟩
  obtain ⟨b, off, e, hb, hcell⟩ := hA (by omega)
  exact ⟨b, off, e, hb, fun j hj => by rw [hcell j (by omega), List.getElem?_take_of_lt (by omega)]⟩
theorem Bytes.drop_ {B : Nat} {w : World} {A : Option Addr} {n cap : Nat} {l : List UInt8} (h : Bytes B w (.slice A n cap) l) {m : Nat} (hm : m ≤ n) (_hne : cap ≠ m) :
    Bytes B w (.slice (Option.map (fun x => x.add m) A) (n - m) (cap - m)) (l.drop m) := by
  obtain ⟨A', cap', e, hc, hA⟩ := h
  injection e with e1 e2 e3
  subst e1 e2 e3
  refine ⟨_, cap - m, by rw [List.length_drop], by rw [List.length_drop]; omega, fun hp => ?_⟩
  rw [List.length_drop] at hp
  obtain ⟨b, off, rfl, hb, hcell⟩ := hA (by omega)
  refine ⟨b, off + m, by rw [Option.map_some, addr_add], hb, fun j hj => ?_⟩
  rw [List.length_drop] at hj
  rw [Nat.add_assoc, hcell (m + j) (by omega), List.getElem?_drop]

/-- What cutOff hands back. -/
def Cut (w : World) (l : List UInt8) (k : Nat) (e : Ending) (w' : World) : Prop :=
  ∃ v1 v2, e = .returned (.tuple #[v1, v2, .bool true]) ∧ Bytes w.heap.size w v1 (l.take (l.length - k)) ∧ Bytes w.heap.size w v2 (l.drop (l.length - k)) ∧ w' = w.drew

set_option maxHeartbeats 400000 in
theorem cut_any (v : Value) (l : List UInt8) (k : Nat) (hlen : l.length ≤ 140737488355328) (w : World) (hb : Bytes w.heap.size w v l) (hk : k ≤ l.length) :
    Calls Try.prog 24 #[v, .int .i64 (k : Int)] w (Cut w l k) := by
  obtain ⟨A, cap, rfl, hcap, _⟩ := id hb
  have h0 : ¬ ((l.length : Int) - (k : Int) < 0) := by omega
  go_enter Try.func24, Try.ntmps24
  go_wp2
  go_region
  all_goals go_wp2
  · subst_vars
    go_ret3
    have hz : l.drop (l.length - k) = [] := List.drop_eq_nil_of_le (by omega)
    exact ⟨_, _, rfl, hb.take_ (by omega), by rw [hz, show l.length - (l.length - k) = 0 by omega]; exact Bytes.nil_ _ _ _ _, rfl⟩
  · have hne : cap ≠ l.length - k := by assumption
    go_ret3
    exact ⟨_, _, rfl, hb.take_ (by omega), hb.drop_ (by omega) hne, rfl⟩

set_option maxHeartbeats 400000 in
theorem cut_no (v : Value) (l : List UInt8) (k : Nat) (hlen : l.length ≤ 140737488355328) (hk2 : k ≤ 9223372036854775807) (w : World) (hb : Bytes w.heap.size w v l) (hk : l.length < k) :
    Calls Try.prog 24 #[v, .int .i64 (k : Int)] w fun e w' => e = .returned (.tuple #[.slice none 0 0, .slice none 0 0, .bool false]) ∧ w = w' := by
  obtain ⟨A, cap, rfl, _, _⟩ := id hb
  have h0 : (l.length : Int) - (k : Int) < 0 := by omega
  go_enter Try.func24, Try.ntmps24
  go_wp2
  go_ret3
  exact ⟨rfl, rfl⟩

theorem run_arrayAt {P : Program} (W : World) {t e : TypeId} {n : Nat} (h : P.underlying t = some (.array n e)) (a : Addr) (len cap : Nat) (hn : n ≤ len) :
    (Instr.arrayAt t (.slice (some a) len cap)).run P W = .ok (.pointer (some a)) W := by
  simp [Instr.arrayAt, run_underlying h, Nat.not_lt.2 hn]

theorem eq4 (a0 a1 a2 a3 b0 b1 b2 b3 : Int) (w : World) : (Op.equalIn 10000 40 (.agg #[.int .u8 a0, .int .u8 a1, .int .u8 a2, .int .u8 a3]) (.agg #[.int .u8 b0, .int .u8 b1, .int .u8 b2, .int .u8 b3])).run Try.prog w
    = .ok (a0 == b0 && (a1 == b1 && (a2 == b2 && a3 == b3))) w := by
  have u3 := Try.underlying5
  have ag3 := Try.isAgg5
  have z3 := Try.sizeOf5
  rw [show (10000 : Nat) = 9999 + 1 from rfl, Op.equalIn]
  simp only [Sem.run_bind, run_underlying Try.underlying40, Result.andThen_ok]
  simp only [Std.Legacy.Range.forIn_eq_forIn_range', Std.Legacy.Range.size, Nat.sub_zero, Nat.add_sub_cancel, Nat.div_one, List.range'_succ, List.range'_zero, List.forIn_cons, List.forIn_nil]
  go_simp
  by_cases h0 : a0 = b0 <;> by_cases h1 : a1 = b1 <;> by_cases h2 : a2 = b2 <;> by_cases h3 : a3 = b3 <;> simp [h0, h1, h2, h3]

theorem enc_inj {a b : UInt8} : ((a.toNat : Int) == (b.toNat : Int)) = decide (a = b) := by
  rw [Bool.eq_iff_iff, beq_iff_eq, decide_eq_true_iff]
  constructor
  · intro h; exact UInt8.toNat_inj.1 (by omega)
  · rintro rfl; rfl

theorem eq_le4 (l0 l1 l2 l3 : UInt8) (x : Nat) (w : World) : (Op.equalIn 10000 40 (.agg #[.int .u8 (l0.toNat : Int), .int .u8 (l1.toNat : Int), .int .u8 (l2.toNat : Int), .int .u8 (l3.toNat : Int)]) (.agg ((le4 x).map enc).toArray)).run Try.prog w
    = .ok (decide ([l0, l1, l2, l3] = le4 x)) w := by
  have h := eq4 l0.toNat l1.toNat l2.toNat l3.toNat (UInt8.ofNat x).toNat (UInt8.ofNat (x / 256)).toNat (UInt8.ofNat (x / 65536)).toNat (UInt8.ofNat (x / 16777216)).toNat w
  rw [enc_inj, enc_inj, enc_inj, enc_inj] at h
  refine h.trans ?_
  congr 1
  unfold le4
  simp only [List.cons.injEq, and_true, Bool.decide_and]

set_option maxHeartbeats 400000 in
theorem stands_any (x : Nat) (hx : x < 4294967296) (v : Value) (l : List UInt8) (hl : l.length = 4) (w : World) (hb : Bytes w.heap.size w v l) :
    Calls Try.prog 25 #[.int .u32 (x : Int), v] w fun e w' => e = .returned (.bool (decide (l = le4 x))) ∧ Below w.heap.size w w' := by
  obtain ⟨A, cap, rfl, _, hA⟩ := id hb
  obtain ⟨b, off, rfl, hbl, hcell⟩ := hA (by omega)
  obtain ⟨l0, l1, l2, l3, rfl⟩ : ∃ l0 l1 l2 l3, l = [l0, l1, l2, l3] := by
    match l, hl with
    | [a, b, c, d], _ => exact ⟨a, b, c, d, rfl⟩
  have c0 := hcell 0 (by simp)
  have c1 := hcell 1 (by simp)
  have c2 := hcell 2 (by simp)
  have c3 := hcell 3 (by simp)
  simp only [List.getElem?_cons_zero, List.getElem?_cons_succ, Option.getD_some, Nat.add_zero] at c0 c1 c2 c3
  clear hcell hA hb
  have harr := fun W : World => run_arrayAt (P := Try.prog) W Try.underlying40 ⟨b, off, none⟩ 4 cap (by omega)
  have heq := fun W : World => eq_le4 l0 l1 l2 l3 x W
  go_enter Try.func25, Try.ntmps25
  go_wp2
  go_region_with (go_at_call 30; refine (bytes_any x hx _).mono ?_; rintro e w' ⟨rfl, rfl⟩)
  all_goals go_wp2
  all_goals go_ret
  all_goals exact ⟨rfl, (((Below.refl _ w).alloc (Nat.le_refl _) _).drew)⟩
end Go.Proofs.Ytkgfahmajhfgbaa
