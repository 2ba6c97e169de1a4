/- The places of bits: what bits hands back goes over them; Len8. -/
import Derived.Test.YtjkpmhannmbgfaaCwD
import Derived.Test.YtjkpmhannmbgfaaCBits
import Derived.RangeFuncNested
import Derived.WalkMore
import Derived.Outline
import Derived.RangeFuncBound
import Derived.RangeFuncCalls
import Derived.RangeFuncLeaves
import Derived.Shelf.Abstract
import Derived.Shelf.RegionOpen
import Derived.OwnWalkIn
import Derived.TacticsInMore
import Derived.LoopNIn
import Derived.LoopIn
import Derived.Lib.Walk
import Derived.Lib.Small
import Derived.Laws.ShiftsVarLaws
namespace Go.Proofs.Ytjkpmhannmbgfaa
open Go.RowKit Go.Shelf
attribute [local go_sem] Oper.semAt_some

theorem ret_i64 {a b : Int} (h : a = b) : Ending.returned (.int .i64 a) = .returned (.int .i64 b) := by rw [h]
theorem len8_int (x : Int) (w : World) (h0 : 0 ≤ x) (h1 : x ≤ 255) : Calls Try.prog 54 #[.int .u8 x] w fun e w' => e = .returned (.int .i64 (Lib.bitLen x.toNat)) ∧ w' = w := by
  have e : wrap64 (Lib.len8 x) = (Lib.bitLen x.toNat : Int) := by
    have e0 := Lib.len8_eq ⟨x.toNat, by omega⟩
    have l := Lib.bitLen_le8 ⟨x.toNat, by omega⟩
    simp only [Int.toNat_of_nonneg h0] at e0
    simp only at l
    rw [e0]
    unfold wrap64
    omega
  go_enter Try.func54, Try.ntmps54
  go_wp2
  go_ret
  exact ⟨ret_i64 e, rfl⟩
theorem len8_any (x : UInt8) (w : World) : Calls Try.prog 54 #[.int .u8 (x.toNat : Int)] w fun e w' => e = .returned (.int .i64 (Lib.bitLen x.toNat : Nat)) ∧ w' = w := by
  have hx := byte_lt x
  have h := len8_int (x.toNat : Int) w (by omega) (by omega)
  rwa [Int.toNat_natCast] at h
theorem bit_and (x : UInt8) (i : Nat) : bits .and .u8 ((x.toNat : Int) / 2 ^ i) 1 = if bit x i = true then 1 else 0 := by
  have hx := byte_lt x
  have hd : x.toNat / 2 ^ i < 256 := Nat.lt_of_le_of_lt (Nat.div_le_self _ _) hx
  rw [show (x.toNat : Int) / 2 ^ i = ((x.toNat / 2 ^ i : Nat) : Int) by push_cast; rfl, show (1 : Int) = ((1 : Nat) : Int) from rfl, u8_and_nat _ 1 hd (by omega), Nat.and_one_is_mod]
  unfold bit
  by_cases h : x.toNat / 2 ^ i % 2 = 1
  · rw [h]; simp
  · rw [show x.toNat / 2 ^ i % 2 = 0 by omega]; simp

set_option maxHeartbeats 400000 in
theorem bits_any (v : Value) (l : List UInt8) {B : Nat} (w : World) (hb : Bytes B w v l) : Calls Try.prog 38 #[v] w fun e w' => e = .returned (.func (.func 53) #[] #[.pointer (some ⟨w.heap.size, 0, none⟩)]) ∧ w' = w.alloc (.cells #[v] 52) := by
  obtain ⟨A, cap, rfl, _, _⟩ := hb
  have hmf := make_func
  go_enter Try.func38, Try.ntmps38
  go_wp2
  go_ret
  exact ⟨rfl, rfl⟩

/-- The blocks of which P speaks lie as they lay. -/
def Keeps (P : Nat → Prop) (W W' : World) : Prop := ∀ b, P b → W'.heap[b]? = W.heap[b]?
theorem Keeps.refl (P : Nat → Prop) (W : World) : Keeps P W W := fun _ _ => rfl
theorem Keeps.trans {P : Nat → Prop} {A B C : World} (h : Keeps P A B) (k : Keeps P B C) : Keeps P A C := fun b hb => (k b hb).trans (h b hb)
theorem Keeps.cell {P : Nat → Prop} {A B : World} (h : Keeps P A B) {p : Addr} (hp : P p.block) : B.cell? p = A.cell? p := World.cell?_of_block (h p.block hp)
theorem keeps_put {P : Nat → Prop} {N : Nat} (hP : ∀ b, P b → b < N) (W : World) (l : Nat) (o o' : Obj) (hl : N ≤ l) (_ : W.heap[l]? = some o) (_ : o.isCells = false) (_ : o.isWalk = false) : Keeps P W (W.putObj l o') := fun b hb => World.putObj_heap_other (by have := hP b hb; omega)
/-- The value v reads as the bytes l, in a block of which P speaks. -/
def BytesP (P : Nat → Prop) (W : World) (v : Value) (l : List UInt8) : Prop :=
  ∃ A cap, v = .slice A l.length cap ∧ l.length ≤ cap ∧ (0 < l.length → ∃ b off, A = some ⟨b, off, none⟩ ∧ P b ∧ ∀ j, j < l.length → W.cell? ⟨b, off + j, none⟩ = some (.int .u8 ((l[j]?.getD 0).toNat : Int)))
theorem Bytes.toP {n : Nat} {W : World} {v : Value} {l : List UInt8} (h : Bytes n W v l) : BytesP (· < n) W v l := h
theorem BytesP.keep {P : Nat → Prop} {W W' : World} {v : Value} {l : List UInt8} (h : BytesP P W v l) (hk : Keeps P W W') : BytesP P W' v l := by
  obtain ⟨A, cap, e, hc, hA⟩ := h
  refine ⟨A, cap, e, hc, fun hp => ?_⟩
  obtain ⟨b, off, e2, hb, hcell⟩ := hA hp
  exact ⟨b, off, e2, hb, fun j hj => (hk.cell (p := ⟨b, off + j, none⟩) hb).trans (hcell j hj)⟩

theorem wpIn_scope_wide {n : Nat} {P : Program} {Q : Exit → Act → World → Prop} {a : Act} {w : World} {c : Code} (h : c.wpIn Fence.wide n P (Exit.noGoto Q) a w) : (Code.scope c).wpIn Fence.wide n P Q a w :=
  wpIn_wide.2 (wp_scope_straight (wpIn_wide.1 h))

set_option maxRecDepth 100000 in
set_option maxHeartbeats 2000000 in
theorem bits1_in (n : Nat) (hn : 1 ≤ n) (l Bs : Nat) (P : Nat → Prop) (sv : Value) (ls : List UInt8) (J Jx : List Nat → World → Prop)
    (hlen : ls.length ≤ 1152921504606846975)
    (hY : ∀ (pre : List Nat) (x : Nat) (W : World), J pre W → pre.length < 8 * ls.length + 1 → YieldAt Fence.wide (n - 1) Try.prog l #[.int .i64 (x : Int)] W fun e W' => (e = .returned (.bool true) ∧ J (pre ++ [x]) W' ∧ Keeps P W W') ∨ (e = .returned (.bool false) ∧ Jx (pre ++ [x]) W'))
    (W : World) (hBs : W.cell? ⟨Bs, 0, none⟩ = some sv) (hM : BytesP P W sv ls) (h0 : J [] W) :
    CallsIn Fence.wide n Try.prog 53 #[.func (.yield l) #[] #[], .pointer (some ⟨Bs, 0, none⟩)] W fun e W' => (∃ v, e = .returned v) ∧ ((∃ xs, xs = places ls ∧ J xs W') ∨ (∃ pre, (pre <+: places ls ∧ pre ≠ []) ∧ Jx pre W')) := by
  obtain ⟨A, cap, rfl, _, hA⟩ := hM
  refine callsIn_of_wp Try.func53 rfl trivial ?_ rfl
  simp only [Try.ntmps53, List.size_toArray, List.length_cons, List.length_nil, Nat.reduceAdd, Nat.reduceSub, Array.replicate_succ, Array.replicate_zero, List.push_toArray, List.append_toArray, List.nil_append, List.cons_append]
  gi_wp2
  refine wpIn_scope_wide ?_
  refine wpIn_seq_k fun K hK => wpIn_label (hK _ _ ?_)
  clear hK K
  gi_wp2
  gi_loopw [8] (fun i wr => ∃ k : Nat, k ≤ ls.length ∧ i = .int .i64 k ∧ Hid (J (came ls k 0) wr) ∧ Keeps P W wr) (fun i _ => ls.length - (intOf i).toNat)
  case atStart => exact ⟨0, Nat.zero_le _, rfl, Lib.hid (by rw [came_none]; exact h0), Keeps.refl _ _⟩
  case round =>
    obtain ⟨k, hk, rfl, hJ, hB⟩ := hrel
    by_cases hlt : k < ls.length
    · have hdec : decide ((k : Int) < (ls.length : Int)) = true := by simp; omega
      obtain ⟨b, off, rfl, hb, hcell⟩ := hA (by omega)
      have hcx : wr.cell? ⟨b, off + k, none⟩ = some (.int .u8 ((at_ ls k).toNat : Int)) := (hB.cell (p := ⟨b, off + k, none⟩) hb).trans (hcell k hlt)
      have HY := fun i => came_yes ls k i
      have HN := fun i => came_no ls k i
      have HO : Hid (∀ i, Lib.bitLen (at_ ls k).toNat ≤ i → came ls k i = came ls (k + 1) 0) := fun i => came_over ls k i
      have HP : Hid (∀ i, i < 8 → bit (at_ ls k) i = true → came ls k i ++ [8 * k + i] <+: places ls) := fun i hi h => by rw [← came_yes ls k i h]; exact came_prefix ls k (i + 1) hlt hi
      have HYh := Lib.hid HY
      have HNh := Lib.hid HN
      clear HY HN hcell
      generalize at_ ls k = x at hcx HYh HNh HO HP
      have hL8 := Lib.hid (fun W : World => len8_any x W)
      have hb8 := bitLen_le x
      generalize hbl : Lib.bitLen x.toNat = bl at hL8 hb8 HO
      gi_wp2_with (refine ⟨trivial, ?_⟩; gi_at_call 54; refine (callsIn_wide.2 (hL8.out _)).mono ?_; rintro e w1 ⟨rfl, rfl⟩)
      gi_loopw [15] (fun j wi => ∃ i : Nat, i ≤ bl ∧ j = .int .i64 i ∧ Hid (J (came ls k i) wi) ∧ Keeps P W wi) (fun j _ => bl - (intOf j).toNat)
      case atStart => exact ⟨0, Nat.zero_le _, rfl, hJ, hB⟩
      case round =>
        obtain ⟨i, hi, rfl, hJi, hBi⟩ := hrel
        by_cases hlt2 : i < bl
        · have hdec2 : decide ((i : Int) < (bl : Int)) = true := by simp; omega
          have hx8 := byte_lt x
          have hcl := came_len ls k i
          have hba := bit_and x i
          by_cases hbit : bit x i = true
          · rw [if_pos hbit] at hba
            have HC := Lib.hid (HYh.out i hbit)
            obtain ⟨fn, tmps, assign, body, hy, hR⟩ := hY _ (8 * k + i) wr hJi.out (by omega)
            rw [show ((8 * k + i : Nat) : Int) = 8 * (k : Int) + (i : Int) by omega] at hy
            gi_wp2
            refine hR.mono ?_
            rintro e W3 (⟨rfl, hJ3, hk3⟩ | ⟨rfl, hJx3⟩)
            · gi_wp2
              go_roundw
              case rel => exact ⟨i + 1, by omega, by go_num, Lib.hid (by rw [HC.out]; exact hJ3), hBi.trans hk3⟩
              case measure => simp [intOf]; omega
            · gi_wp2
              rw [Exit.noGoto_normal]
              go_end0
              exact ⟨⟨_, rfl⟩, .inr ⟨_, ⟨HP.out i (by omega) hbit, by simp⟩, hJx3⟩⟩
          · rw [if_neg hbit] at hba
            have HC := Lib.hid (HNh.out i (by simpa using hbit))
            gi_wp2
            refine ⟨nofun, ?_⟩
            gi_wp2
            go_roundw
            case rel => exact ⟨i + 1, by omega, by go_num, Lib.hid (by rw [HC.out]; exact hJi.out), hBi⟩
            case measure => simp [intOf]; omega
        · obtain rfl : i = bl := by omega
          have hdec2 : decide ((i : Int) < (i : Int)) = false := by simp
          gi_wp2
          go_roundw
          case rel => exact ⟨k + 1, by omega, by go_num, Lib.hid (by rw [← HO.out i (Nat.le_refl _)]; exact hJi.out), hBi⟩
          case measure => simp [intOf]; omega
    · obtain rfl : k = ls.length := by omega
      gi_wp2
      rw [Exit.noGoto_normal]
      go_end0
      exact ⟨⟨_, rfl⟩, .inl ⟨_, (came_all ls), hJ.out⟩⟩

theorem bits_stops (n : Nat) (hn : 1 ≤ n) (Bs : Nat) (P : Nat → Prop) (sv : Value) (ls : List UInt8) (hlen : ls.length ≤ 1152921504606846975) (w : World) (hBs : Bs < w.heap.size) (hP : ∀ b, P b → b < w.heap.size)
    (hc : w.cell? ⟨Bs, 0, none⟩ = some sv) (hM : BytesP P w sv ls) :
    SeqStopsK Fence.wide n Try.prog 53 #[.pointer (some ⟨Bs, 0, none⟩)] (fun x : Nat => #[Value.int .i64 (x : Int)]) (Keeps P) (fun xs => xs = places ls) (fun pre => pre <+: places ls ∧ pre ≠ []) (8 * ls.length + 1) w := fun l J Jx W hW _ _ hY h0 =>
  bits1_in n hn l Bs P sv ls J Jx hlen hY W ((hW.cell (p := ⟨Bs, 0, none⟩) hBs).trans hc) (hM.keep fun b hb => hW.block b (hP b hb)) h0

theorem enter_bits1 : Enters Try.prog 53 := enters_of Try.func53 (by kernel_rfl) rfl

set_option maxRecDepth 100000 in
set_option maxHeartbeats 1000000 in
theorem noBit_any (v : Value) (l : List UInt8) (w : World) (hb : Bytes w.heap.size w v l) (hlen : l.length ≤ 1152921504606846975) :
    Calls Try.prog 36 #[v] w fun e w' => e = .returned (.bool (decide (places l = []))) ∧ Below w.heap.size w w' := by
  have hb1 := hb.below ((Below.refl _ w).alloc (Nat.le_refl _) (.cells #[.bool false] 4))
  have HB := Lib.hid (fun W : World => fun h => bits_any v l (B := w.heap.size) W h)
  obtain ⟨A, cap, rfl, _, _⟩ := id hb
  refine (callsIn_wide (n := 5)).1 ?_
  refine callsIn_of_wp_marks Try.func36 rfl trivial ?_ rfl
  simp only [Try.ntmps36, List.size_toArray, List.length_cons, List.length_nil, Nat.reduceAdd, Nat.reduceSub, Array.replicate_succ, Array.replicate_zero, List.push_toArray, List.append_toArray, List.nil_append, List.cons_append]
  gi_wp2_with (refine ⟨trivial, ?_⟩; gi_at_call 38; refine (callsIn_wide.2 (HB.out _ hb1)).mono ?_; rintro e w1 ⟨rfl, rfl⟩)
  have hB3 : Below w.heap.size w ((w.alloc (.cells #[.bool false] 4)).alloc (.cells #[.slice A l.length cap] 52)) := ((Below.refl _ w).alloc (Nat.le_refl _) _).alloc (by simp) _
  have bX := (Blk.new (w.alloc (.cells #[.bool false] 4)) 52 #[.slice A l.length cap]).one
  rw [World.size_alloc] at bX
  have b0 : Blk ((w.alloc (.cells #[.bool false] 4)).alloc (.cells #[.slice A l.length cap] 52)) w.heap.size 4 #[.bool false] := (Blk.new w _ _).alloc _
  refine wpIn_rangeFunc_ownG rfl (by omega) (gf := 53) (lb := #[.pointer (some ⟨w.heap.size + 1, 0, none⟩)]) rfl trivial enter_bits1
    (bits_stops _ (by omega) (w.heap.size + 1) (· < w.heap.size) _ l hlen _ (by simp) (by simp; omega) bX (hb.below hB3).toP) Keeps.trans (keeps_put (by simp; omega)) (Below.refl _ _) (fun _ => rfl)
    (fun pre W => pre = [] ∧ Blk W w.heap.size 4 #[.bool false] ∧ Below w.heap.size w W)
    (fun c _ W => c = .ret ∧ Blk W w.heap.size 4 #[.bool false] ∧ Below w.heap.size w W)
    (OwnFrom.and (ownFrom_pure _ _) (OwnFrom.and (Own.from (Blk.own w.heap.size 4 (fun _ : List Nat => #[.bool false])) _) (ownFrom_below (Nat.le_refl _) (by simp; omega))))
    (fun c => OwnFrom.and (ownFrom_pure _ (fun _ => c = .ret)) (OwnFrom.and (Own.from (Blk.own w.heap.size 4 (fun _ : List Nat => #[.bool false])) _) (ownFrom_below (Nat.le_refl _) (by simp; omega))))
    ⟨rfl, b0, hB3⟩
    (fun x => { tmps := #[.slice A l.length cap, undef, .pointer (some ⟨w.heap.size, 0, none⟩), .slice A l.length cap, .func (.func 53) #[] #[.pointer (some ⟨w.heap.size + 1, 0, none⟩)], .int .i64 (x : Int)], defers := [] }) ?assign ?body ?done ?stop
  case assign =>
    intro l x W K hK
    gi_wp2
    simpa using hK
  case body =>
    rintro l pre x W ⟨rfl, hb0, hB⟩ _
    have c0 := hb0.one
    have f0 := hb0.frozen 0
    gi_wp2
    exact ⟨(KeepsOthers.setCell _ _ _).from _, rfl, hb0.set_ 0 _, hB.setCell (Nat.le_refl _) _⟩
  case done =>
    rintro D ys W hD rfl ⟨hnil, hb0, hB⟩ hK
    have c0 := hb0.one
    have f0 := hb0.frozen 0
    gi_wp2
    have hK' := (KeepsOthers.setCell W ⟨w.heap.size, 0, none⟩ (.bool true)).same D _ hK rfl
    refine ⟨by simp, .inl ⟨_, _, rfl, run_takeDeferred hK', ?_⟩⟩
    have hb1 : Blk ((W.setCell ⟨w.heap.size, 0, none⟩ (.bool true)).putObj D (.deferred none)) w.heap.size 4 #[.bool true] :=
      Blk.own w.heap.size 4 (fun _ : Unit => #[.bool true]) () _ _ _ (hb0.set_ 0 (.bool true)) (grownBy_putObj' _ D (.deferred none)) (fun r e => by cases e; exact ⟨_, hK', rfl⟩)
    have c1 := hb1.one
    refine ⟨.bool true, by simp [results, Try.results36, go_sem, c1], ?_, ?_⟩
    · exact ret_bool (decide_eq_true hnil).symm
    · exact (hB.setCell (Nat.le_refl _) _).trans (belowK_b (w := w) (Nat.le_refl _) _ D _ _ (by simp at hD; omega) hK' rfl rfl)
  case stop =>
    rintro D c pre W hD ⟨hpre, hne⟩ ⟨rfl, hb0, hB⟩ hK
    gi_wp2
    refine ⟨by simp, .inl ⟨_, _, rfl, run_takeDeferred hK, ?_⟩⟩
    have hb1 : Blk (W.putObj D (.deferred none)) w.heap.size 4 #[.bool false] :=
      Blk.own w.heap.size 4 (fun _ : Unit => #[.bool false]) () _ _ _ hb0 (grownBy_putObj' _ D (.deferred none)) (fun r e => by cases e; exact ⟨_, hK, rfl⟩)
    have c1 := hb1.one
    refine ⟨.bool false, by simp [results, Try.results36, go_sem, c1], ?_, ?_⟩
    · refine ret_bool (decide_eq_false fun h => hne ?_).symm
      rw [h] at hpre
      exact List.prefix_nil.1 hpre
    · exact hB.trans (belowK_b (w := w) (Nat.le_refl _) _ D _ _ (by simp at hD; omega) hK rfl rfl)
end Go.Proofs.Ytjkpmhannmbgfaa
