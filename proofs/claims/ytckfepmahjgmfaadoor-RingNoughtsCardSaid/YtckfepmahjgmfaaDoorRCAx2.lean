/- Words for memory: a block that is known whole; a slice that reads as a list of bytes, or of lists; bytes that the call itself laid, and what is appended to them; what came in. What gives up, and what tells with what number: need, answered; what is a cell's length. The plain mathematics of cells: lists by places; lists put upon one another; places of bits. Cells: cellOf, nought, under, folded; of what length lists are. Of what length lists are: lengthOf; Zero, Xor. Zero, Xor. The places of bits of bytes, one behind the other. The places of bits: what bits hands back goes over them; Len8. Check, IsZero, Bits. Cut: bytes filled up, and cut. Cut. Lists laid one behind the other: slices.Grow, slices.Concat. Glue. Which lists are the same: Same, and the document's; few. The document's Put, Xor. -/
import Derived.Test.YtckfepmahjgmfaaDoorRows
import Derived.Test.YtckfepmahjgmfaaDoorRSA
import Derived.Test.YtckfepmahjgmfaaDoorRSAx1
import Derived.WalkKit
import Derived.WalkSpells
import Derived.WalkLawsBesides
import Derived.Laws.BitsAllLaws
import Derived.Lib.Hide
import Derived.Below
import Derived.Laws.OwnMore
import Derived.Deep.Draws
import Derived.Laws.Rows
import Derived.RangeFuncNested
import Derived.Maps.AppendAt
import Derived.Deep.AppendLies
import Derived.Laws.BytesArg
import Derived.ProofKit
import Derived.OpenShut
import Derived.Deep.DeepCutAuto
import Derived.Deep.RegionHeld3
import Derived.BigRegion
import Derived.Deep.QuietTactic
import Derived.BigQuiet
import Derived.Deep.RegionWith
import Derived.Outline
import Derived.Recover
import Derived.Defers
import Derived.Shelf.Abstract
import Derived.Lib.BitFns
import Derived.WalkMore
import Derived.RangeFuncBound
import Derived.RangeFuncCalls
import Derived.RangeFuncLeaves
import Derived.Shelf.RegionOpen
import Derived.OwnWalkIn
import Derived.TacticsInMore
import Derived.LoopNIn
import Derived.LoopIn
import Derived.Lib.Walk
import Derived.Lib.Small
import Derived.Laws.ShiftsVarLaws
import Derived.Lib.SliceRun
import Derived.ArgAppend
import Derived.Laws.IdiomCopy
import Derived.Lib.AppendZeros
import Derived.Deep.RegionLaw
import Derived.Test.YtckfepmahjgmfaaDoorRMAx1
import Derived.Test.YtckfepmahjgmfaaDoorRCA
import Derived.Test.YtckfepmahjgmfaaDoorRCAx1
namespace Go.Proofs.YtckfepmahjgmfaaDoor.C

theorem bitsTo_zero (j : Nat) (x : UInt8) : bitsTo j x 0 = [] := rfl
theorem bitsTo_yes (j : Nat) (x : UInt8) (i : Nat) (h : bit x i = true) : bitsTo j x (i + 1) = bitsTo j x i ++ [8 * j + i] := by
  unfold bitsTo; rw [List.range_succ, List.filter_append, List.map_append]; simp [h]
theorem bitsTo_no (j : Nat) (x : UInt8) (i : Nat) (h : bit x i = false) : bitsTo j x (i + 1) = bitsTo j x i := by
  unfold bitsTo; rw [List.range_succ, List.filter_append, List.map_append]; simp [h]
theorem bitsTo_len (j : Nat) (x : UInt8) (i : Nat) : (bitsTo j x i).length ≤ i := by
  unfold bitsTo
  rw [List.length_map]
  have := List.length_filter_le (bit x) (List.range i)
  simpa using this
theorem below_len : ∀ n : Fin 256, n.val < 2 ^ Lib.bitLen n.val := by decide +kernel
theorem bitLen_le (x : UInt8) : Lib.bitLen x.toNat ≤ 8 := Lib.bitLen_le8 ⟨x.toNat, by have := x.toNat_lt; omega⟩
theorem bit_behind (x : UInt8) (t : Nat) (h : Lib.bitLen x.toNat ≤ t) : bit x t = false := by
  have h1 := below_len ⟨x.toNat, by have := x.toNat_lt; omega⟩
  have h2 : x.toNat < 2 ^ t := Nat.lt_of_lt_of_le h1 (Nat.pow_le_pow_right (by omega) h)
  unfold bit
  rw [Nat.div_eq_of_lt h2]; rfl
theorem bitsTo_more (j : Nat) (x : UInt8) (i : Nat) (h : Lib.bitLen x.toNat ≤ i) : bitsTo j x i = bitsTo j x (Lib.bitLen x.toNat) := by
  obtain ⟨d, rfl⟩ : ∃ d, i = Lib.bitLen x.toNat + d := ⟨i - Lib.bitLen x.toNat, by omega⟩
  clear h
  induction d with
  | zero => rfl
  | succ d ih => rw [← Nat.add_assoc, bitsTo_no _ _ _ (bit_behind x _ (by omega)), ih]

theorem came_none (l : List UInt8) : came l 0 0 = [] := rfl
theorem came_all (l : List UInt8) : came l l.length 0 = places l := by unfold came places; rw [bitsTo_zero, List.append_nil]
theorem came_over (l : List UInt8) (k i : Nat) (h : Lib.bitLen (at_ l k).toNat ≤ i) : came l k i = came l (k + 1) 0 := by
  unfold came
  rw [bitsTo_zero, List.append_nil, List.range_succ, List.flatMap_append, bitsTo_more _ _ i h, ← bitsTo_more _ _ 8 (bitLen_le _)]
  simp
theorem came_yes (l : List UInt8) (k i : Nat) (h : bit (at_ l k) i = true) : came l k (i + 1) = came l k i ++ [8 * k + i] := by
  unfold came; rw [bitsTo_yes _ _ _ h, List.append_assoc]
theorem came_no (l : List UInt8) (k i : Nat) (h : bit (at_ l k) i = false) : came l k (i + 1) = came l k i := by
  unfold came; rw [bitsTo_no _ _ _ h]
theorem came_len (l : List UInt8) (k i : Nat) : (came l k i).length ≤ 8 * k + i := by
  have h : ((List.range k).flatMap fun j => bitsTo j (at_ l j) 8).length ≤ 8 * k := by
    induction k with
    | zero => simp
    | succ k ih =>
      rw [List.range_succ, List.flatMap_append, List.length_append]
      have := bitsTo_len k (at_ l k) 8
      simp only [List.flatMap_cons, List.flatMap_nil, List.append_nil]
      omega
  unfold came
  rw [List.length_append]
  have := bitsTo_len k (at_ l k) i
  omega
theorem bitsTo_prefix (j : Nat) (x : UInt8) (i d : Nat) : bitsTo j x i <+: bitsTo j x (i + d) := by
  induction d with
  | zero => exact List.prefix_refl _
  | succ d ih =>
    refine ih.trans ?_
    rw [← Nat.add_assoc]
    cases h : bit x (i + d)
    · rw [bitsTo_no _ _ _ h]
      exact List.prefix_refl _
    · rw [bitsTo_yes _ _ _ h]
      exact List.prefix_append _ _
theorem came_prefix (l : List UInt8) (k i : Nat) (hk : k < l.length) (hi : i ≤ 8) : came l k i <+: places l := by
  obtain ⟨d, hd⟩ : ∃ d, l.length = k + 1 + d := ⟨l.length - (k + 1), by omega⟩
  unfold places
  rw [hd]
  clear hd hk
  induction d with
  | zero =>
    obtain ⟨e, he⟩ : ∃ e, i + e = 8 := ⟨8 - i, by omega⟩
    unfold came
    rw [Nat.add_zero, List.range_succ, List.flatMap_append]
    simp only [List.flatMap_cons, List.flatMap_nil, List.append_nil]
    exact (List.prefix_append_right_inj _).2 (by
      have := bitsTo_prefix k (at_ l k) i e
      rwa [he] at this)
  | succ d ih =>
    refine ih.trans ?_
    rw [← Nat.add_assoc, List.range_succ, List.flatMap_append]
    exact List.prefix_append _ _
end Go.Proofs.YtckfepmahjgmfaaDoor.C

namespace Go.Proofs.YtckfepmahjgmfaaDoor.C
open Go.RowKit Go.Shelf
attribute [local go_sem] Oper.semAt_some

theorem len8_int (x : Int) (w : World) (h0 : 0 ≤ x) (h1 : x ≤ 255) : Calls Tryd.prog 89 #[.int .u8 x] w fun e w' => e = .returned (.int .i64 (Lib.bitLen x.toNat)) ∧ w' = w := by
  have e : wrap64 (Lib.len8 x) = (Lib.bitLen x.toNat : Int) := by
    have e0 := Lib.len8_eq ⟨x.toNat, by omega⟩
    have l := Lib.bitLen_le8 ⟨x.toNat, by omega⟩
    simp only [Int.toNat_of_nonneg h0] at e0
    simp only at l
    rw [e0]
    unfold wrap64
    omega
  go_enter Tryd.func89, Tryd.ntmps89
  go_wp2
  go_ret
  exact ⟨ret_i64 e, rfl⟩
theorem len8_any (x : UInt8) (w : World) : Calls Tryd.prog 89 #[.int .u8 (x.toNat : Int)] w fun e w' => e = .returned (.int .i64 (Lib.bitLen x.toNat : Nat)) ∧ w' = w := by
  have hx := byte_lt x
  have h := len8_int (x.toNat : Int) w (by omega) (by omega)
  rwa [Int.toNat_natCast] at h
theorem bit_and (x : UInt8) (i : Nat) : bits .and .u8 ((x.toNat : Int) / 2 ^ i) 1 = if bit x i = true then 1 else 0 := by
  have hx := byte_lt x
  have hd : x.toNat / 2 ^ i < 256 := Nat.lt_of_le_of_lt (Nat.div_le_self _ _) hx
  rw [show (x.toNat : Int) / 2 ^ i = ((x.toNat / 2 ^ i : Nat) : Int) by push_cast; rfl, show (1 : Int) = ((1 : Nat) : Int) from rfl, u8_and_nat _ 1 hd (by omega), Nat.and_one_is_mod]
  unfold bit
  by_cases h : x.toNat / 2 ^ i % 2 = 1
  · rw [h]; simp
  · rw [show x.toNat / 2 ^ i % 2 = 0 by omega]; simp

set_option maxHeartbeats 400000 in
theorem bits_any (v : Value) (l : List UInt8) {B : Nat} (w : World) (hb : Bytes B w v l) : Calls Tryd.prog 68 #[v] w fun e w' => e = .returned (.func (.func 88) #[] #[.pointer (some ⟨w.heap.size, 0, none⟩)]) ∧ w' = w.alloc (.cells #[v] 65) := by
  obtain ⟨A, cap, rfl, _, _⟩ := hb
  have hmf := make_func
  go_enter Tryd.func68, Tryd.ntmps68
  go_wp2
  go_ret
  exact ⟨rfl, rfl⟩

theorem keeps_put {P : Nat → Prop} {N : Nat} (hP : ∀ b, P b → b < N) (W : World) (l : Nat) (o o' : Obj) (hl : N ≤ l) (_ : W.heap[l]? = some o) (_ : o.isCells = false) (_ : o.isWalk = false) : Keeps P W (W.putObj l o') := fun b hb => World.putObj_heap_other (by have := hP b hb; omega)
theorem Bytes.toP {n : Nat} {W : World} {v : Value} {l : List UInt8} (h : Bytes n W v l) : BytesP (· < n) W v l := h
set_option maxRecDepth 100000 in
set_option maxHeartbeats 2000000 in
theorem bits1_in (n : Nat) (hn : 1 ≤ n) (l Bs : Nat) (P : Nat → Prop) (sv : Value) (ls : List UInt8) (J Jx : List Nat → World → Prop)
    (hlen : ls.length ≤ 1152921504606846975)
    (hY : ∀ (pre : List Nat) (x : Nat) (W : World), J pre W → pre.length < 8 * ls.length + 1 → YieldAt Fence.wide (n - 1) Tryd.prog l #[.int .i64 (x : Int)] W fun e W' => (e = .returned (.bool true) ∧ J (pre ++ [x]) W' ∧ Keeps P W W') ∨ (e = .returned (.bool false) ∧ Jx (pre ++ [x]) W'))
    (W : World) (hBs : W.cell? ⟨Bs, 0, none⟩ = some sv) (hM : BytesP P W sv ls) (h0 : J [] W) :
    CallsIn Fence.wide n Tryd.prog 88 #[.func (.yield l) #[] #[], .pointer (some ⟨Bs, 0, none⟩)] W fun e W' => (∃ v, e = .returned v) ∧ ((∃ xs, xs = places ls ∧ J xs W') ∨ (∃ pre, (pre <+: places ls ∧ pre ≠ []) ∧ Jx pre W')) := by
  obtain ⟨A, cap, rfl, _, hA⟩ := hM
  refine callsIn_of_wp Tryd.func88 rfl trivial ?_ rfl
  simp only [Tryd.ntmps88, List.size_toArray, List.length_cons, List.length_nil, Nat.reduceAdd, Nat.reduceSub, Array.replicate_succ, Array.replicate_zero, List.push_toArray, List.append_toArray, List.nil_append, List.cons_append]
  gi_wp2
  refine wpIn_scope_wide ?_
  refine wpIn_seq_k fun K hK => wpIn_label (hK _ _ ?_)
  clear hK K
  gi_wp2
  gi_loopw [8] (fun i wr => ∃ k : Nat, k ≤ ls.length ∧ i = .int .i64 k ∧ Hid (J (came ls k 0) wr) ∧ Keeps P W wr) (fun i _ => ls.length - (intOf i).toNat)
  case atStart => exact ⟨0, Nat.zero_le _, rfl, Lib.hid (by rw [came_none]; exact h0), Keeps.refl _ _⟩
  case round =>
    obtain ⟨k, hk, rfl, hJ, hB⟩ := hrel
    by_cases hlt : k < ls.length
    · have hdec : decide ((k : Int) < (ls.length : Int)) = true := by simp; omega
      obtain ⟨b, off, rfl, hb, hcell⟩ := hA (by omega)
      have hcx : wr.cell? ⟨b, off + k, none⟩ = some (.int .u8 ((at_ ls k).toNat : Int)) := (hB.cell (p := ⟨b, off + k, none⟩) hb).trans (hcell k hlt)
      have HY := fun i => came_yes ls k i
      have HN := fun i => came_no ls k i
      have HO : Hid (∀ i, Lib.bitLen (at_ ls k).toNat ≤ i → came ls k i = came ls (k + 1) 0) := fun i => came_over ls k i
      have HP : Hid (∀ i, i < 8 → bit (at_ ls k) i = true → came ls k i ++ [8 * k + i] <+: places ls) := fun i hi h => by rw [← came_yes ls k i h]; exact came_prefix ls k (i + 1) hlt hi
      have HYh := Lib.hid HY
      have HNh := Lib.hid HN
      clear HY HN hcell
      generalize at_ ls k = x at hcx HYh HNh HO HP
      have hL8 := Lib.hid (fun W : World => len8_any x W)
      have hb8 := bitLen_le x
      generalize hbl : Lib.bitLen x.toNat = bl at hL8 hb8 HO
      gi_wp2_with (refine ⟨trivial, ?_⟩; gi_at_call 89; refine (callsIn_wide.2 (hL8.out _)).mono ?_; rintro e w1 ⟨rfl, rfl⟩)
      gi_loopw [15] (fun j wi => ∃ i : Nat, i ≤ bl ∧ j = .int .i64 i ∧ Hid (J (came ls k i) wi) ∧ Keeps P W wi) (fun j _ => bl - (intOf j).toNat)
      case atStart => exact ⟨0, Nat.zero_le _, rfl, hJ, hB⟩
      case round =>
        obtain ⟨i, hi, rfl, hJi, hBi⟩ := hrel
        by_cases hlt2 : i < bl
        · have hdec2 : decide ((i : Int) < (bl : Int)) = true := by simp; omega
          have hx8 := byte_lt x
          have hcl := came_len ls k i
          have hba := bit_and x i
          by_cases hbit : bit x i = true
          · rw [if_pos hbit] at hba
            have HC := Lib.hid (HYh.out i hbit)
            obtain ⟨fn, tmps, assign, body, hy, hR⟩ := hY _ (8 * k + i) wr hJi.out (by omega)
            rw [show ((8 * k + i : Nat) : Int) = 8 * (k : Int) + (i : Int) by omega] at hy
            gi_wp2
            refine hR.mono ?_
            rintro e W3 (⟨rfl, hJ3, hk3⟩ | ⟨rfl, hJx3⟩)
            · gi_wp2
              go_roundw
              case rel => exact ⟨i + 1, by omega, by go_num, Lib.hid (by rw [HC.out]; exact hJ3), hBi.trans hk3⟩
              case measure => simp [intOf]; omega
            · gi_wp2
              rw [Exit.noGoto_normal]
              go_end0
              exact ⟨⟨_, rfl⟩, .inr ⟨_, ⟨HP.out i (by omega) hbit, by simp⟩, hJx3⟩⟩
          · rw [if_neg hbit] at hba
            have HC := Lib.hid (HNh.out i (by simpa using hbit))
            gi_wp2
            refine ⟨nofun, ?_⟩
            gi_wp2
            go_roundw
            case rel => exact ⟨i + 1, by omega, by go_num, Lib.hid (by rw [HC.out]; exact hJi.out), hBi⟩
            case measure => simp [intOf]; omega
        · obtain rfl : i = bl := by omega
          have hdec2 : decide ((i : Int) < (i : Int)) = false := by simp
          gi_wp2
          go_roundw
          case rel => exact ⟨k + 1, by omega, by go_num, Lib.hid (by rw [← HO.out i (Nat.le_refl _)]; exact hJi.out), hBi⟩
          case measure => simp [intOf]; omega
    · obtain rfl : k = ls.length := by omega
      gi_wp2
      rw [Exit.noGoto_normal]
      go_end0
      exact ⟨⟨_, rfl⟩, .inl ⟨_, (came_all ls), hJ.out⟩⟩

theorem bits_stops (n : Nat) (hn : 1 ≤ n) (Bs : Nat) (P : Nat → Prop) (sv : Value) (ls : List UInt8) (hlen : ls.length ≤ 1152921504606846975) (w : World) (hBs : Bs < w.heap.size) (hP : ∀ b, P b → b < w.heap.size)
    (hc : w.cell? ⟨Bs, 0, none⟩ = some sv) (hM : BytesP P w sv ls) :
    SeqStopsK Fence.wide n Tryd.prog 88 #[.pointer (some ⟨Bs, 0, none⟩)] (fun x : Nat => #[Value.int .i64 (x : Int)]) (Keeps P) (fun xs => xs = places ls) (fun pre => pre <+: places ls ∧ pre ≠ []) (8 * ls.length + 1) w := fun l J Jx W hW _ _ hY h0 =>
  bits1_in n hn l Bs P sv ls J Jx hlen hY W ((hW.cell (p := ⟨Bs, 0, none⟩) hBs).trans hc) (hM.keep fun b hb => hW.block b (hP b hb)) h0

theorem enter_bits1 : Enters Tryd.prog 88 := enters_of Tryd.func88 (by kernel_rfl) rfl

end Go.Proofs.YtckfepmahjgmfaaDoor.C

namespace Go.Proofs.YtckfepmahjgmfaaDoor.C
open Go.RowKit Go.Shelf

theorem Fresh.toP {base : Nat} {W : World} {v : Value} {l : List UInt8} (h : Fresh base W v l) : BytesP (fun b => base ≤ b ∧ b < W.heap.size) W v l := by
  obtain ⟨A, cap, e, hc, hA⟩ := h
  refine ⟨A, cap, e, hc, fun hp => ?_⟩
  obtain ⟨b, off, e2, h1, h2, hcell⟩ := hA hp
  exact ⟨b, off, e2, ⟨h1, h2⟩, hcell⟩
end Go.Proofs.YtckfepmahjgmfaaDoor.C

