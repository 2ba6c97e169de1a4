/- The bytes of lists, one behind the other: what eachByte hands back goes over them. -/
import Derived.Test.YtkgfahmajhfgbaaWalkC
import Derived.RangeFuncNested
import Derived.WalkMore
import Derived.Outline
import Derived.RangeFuncBound
import Derived.RangeFuncCalls
import Derived.RangeFuncLeaves
import Derived.Shelf.Abstract
import Derived.Shelf.RegionOpen
import Derived.OwnWalkIn
import Derived.TacticsInMore
import Derived.LoopNIn
import Derived.LoopIn
namespace Go.Proofs.Ytkgfahmajhfgbaa
open Go.RowKit Go.Shelf
attribute [local go_sem] Oper.semAt_some

set_option maxHeartbeats 400000 in
theorem each_in (F : Fence) (n : Nat) (h : F.fn 28) (hro : F.round = none) (a : Option Addr) (len cap : Nat) (w : World) :
    CallsIn F n Try.prog 28 #[.slice a len cap] w fun e w' => e = .returned (.func (.func 33) #[] #[.pointer (some ⟨w.heap.size, 0, none⟩)]) ∧ w' = w.alloc (.cells #[.slice a len cap] 22) := by
  refine callsIn_of_wp Try.func28 rfl h ?_ hro
  simp only [Try.ntmps28, List.size_toArray, List.length_cons, List.length_nil, Nat.reduceAdd, Nat.reduceSub, Array.replicate_succ, Array.replicate_zero, List.push_toArray, List.append_toArray, List.nil_append, List.cons_append]
  gi_wp2
  go_ret
  exact ⟨rfl, rfl⟩


theorem wpIn_scope_wide {n : Nat} {P : Program} {Q : Exit → Act → World → Prop} {a : Act} {w : World} {c : Code} (h : c.wpIn Fence.wide n P (Exit.noGoto Q) a w) : (Code.scope c).wpIn Fence.wide n P Q a w :=
  wpIn_wide.2 (wp_scope_straight (wpIn_wide.1 h))

/-- What has come when k lists are over, and j bytes of the next one. -/
def came (ls : List (List UInt8)) (k j : Nat) : List UInt8 := (ls.take k).flatten ++ ((ls[k]?.getD []).take j)
theorem came_next (ls : List (List UInt8)) (k j : Nat) (hj : j < (ls[k]?.getD []).length) : came ls k (j + 1) = came ls k j ++ [(ls[k]?.getD [])[j]?.getD 0] := by
  unfold came
  rw [List.take_succ_eq_append_getElem hj, List.append_assoc, List.getElem?_eq_getElem hj]
  rfl
theorem came_over (ls : List (List UInt8)) (k : Nat) (hk : k < ls.length) : came ls k (ls[k]?.getD []).length = came ls (k + 1) 0 := by
  unfold came
  rw [List.getElem?_eq_getElem hk, List.take_succ_eq_append_getElem hk, List.flatten_append]
  simp
theorem came_all (ls : List (List UInt8)) : came ls ls.length 0 = ls.flatten := by simp [came]
theorem came_le (ls : List (List UInt8)) (k i : Nat) : (came ls k i).length ≤ ls.flatten.length := by
  by_cases hk : k < ls.length
  · have e : ls.flatten = (ls.take k).flatten ++ (ls[k] ++ (ls.drop (k + 1)).flatten) := by
      rw [← List.flatten_cons, ← List.drop_eq_getElem_cons hk, ← List.flatten_append, List.take_append_drop]
    unfold came
    rw [e, List.getElem?_eq_getElem hk]
    simp only [List.length_append, Option.getD_some, List.length_take]
    omega
  · unfold came
    rw [List.getElem?_eq_none (by omega), List.take_of_length_le (by omega)]
    simp
theorem came_none (ls : List (List UInt8)) : came ls 0 0 = [] := by simp [came]

set_option maxRecDepth 100000 in
set_option maxHeartbeats 2000000 in
theorem each1_in (n : Nat) (hn : 1 ≤ n) (l Bs n₀ : Nat) (sv : Value) (ls : List (List UInt8)) (J Jx : List UInt8 → World → Prop)
    (hlen : ∀ j : Nat, (ls[j]?.getD []).length ≤ 140737488351232) (hlen2 : ls.length ≤ 140737488351232)
    (hY : ∀ pre x W, J pre W → pre.length < ls.flatten.length + 1 → YieldAt Fence.wide (n - 1) Try.prog l #[.int .u8 (x.toNat : Int)] W fun e W' => (e = .returned (.bool true) ∧ J (pre ++ [x]) W' ∧ Below n₀ W W') ∨ (e = .returned (.bool false) ∧ Jx (pre ++ [x]) W'))
    (W : World) (hBs : W.cell? ⟨Bs, 0, none⟩ = some sv) (hM : Many n₀ W sv ls) (h0 : J [] W) :
    CallsIn Fence.wide n Try.prog 33 #[.func (.yield l) #[] #[], .pointer (some ⟨Bs, 0, none⟩)] W fun e W' => (∃ v, e = .returned v) ∧ ((∃ xs, xs = ls.flatten ∧ J xs W') ∨ (∃ pre, True ∧ Jx pre W')) := by
  obtain ⟨A, cap, rfl, _, hA⟩ := hM
  refine callsIn_of_wp Try.func33 rfl trivial ?_ rfl
  simp only [Try.ntmps33, List.size_toArray, List.length_cons, List.length_nil, Nat.reduceAdd, Nat.reduceSub, Array.replicate_succ, Array.replicate_zero, List.push_toArray, List.append_toArray, List.nil_append, List.cons_append]
  gi_wp2
  refine wpIn_scope_wide ?_
  refine wpIn_seq_k fun K hK => wpIn_label (hK _ _ ?_)
  clear hK K
  gi_wp2
  gi_loopw [9] (fun i wr => ∃ k : Nat, k ≤ ls.length ∧ i = .int .i64 k ∧ Hid (J (came ls k 0) wr) ∧ Below n₀ W wr) (fun i _ => ls.length - (intOf i).toNat)
  case atStart => exact ⟨0, Nat.zero_le _, rfl, Lib.hid (by rw [came_none]; exact h0), Below.refl _ _⟩
  case round =>
    obtain ⟨k, hk, rfl, hJ, hB⟩ := hrel
    by_cases hlt : k < ls.length
    · have hdec : decide ((k : Int) < (ls.length : Int)) = true := by simp; omega
      obtain ⟨b, off, rfl, hb, hcell⟩ := hA (by omega)
      obtain ⟨u, hu, A1, cap1, rfl, _, hA1⟩ := hcell k hlt
      have hcx : wr.cell? ⟨b, off + k, none⟩ = some (.slice A1 (ls[k]?.getD []).length cap1) := (hB.cell (p := ⟨b, off + k, none⟩) hb).trans hu
      have hl1 := hlen k
      have HN : Hid (∀ i, i < (ls[k]?.getD []).length → came ls k (i + 1) = came ls k i ++ [(ls[k]?.getD [])[i]?.getD 0]) := fun i hi => came_next ls k i hi
      have HO : Hid (came ls k (ls[k]?.getD []).length = came ls (k + 1) 0) := came_over ls k hlt
      clear hu hcell
      generalize ls[k]?.getD [] = lk at hcx hA1 hl1 HN HO
      gi_wp2
      gi_loopw [15] (fun j wi => ∃ i : Nat, i ≤ lk.length ∧ j = .int .i64 i ∧ Hid (J (came ls k i) wi) ∧ Below n₀ W wi) (fun j _ => lk.length - (intOf j).toNat)
      case atStart => exact ⟨0, Nat.zero_le _, rfl, hJ, hB⟩
      case round =>
        obtain ⟨i, hi, rfl, hJi, hBi⟩ := hrel
        by_cases hlt2 : i < lk.length
        · obtain ⟨b1, off1, rfl, hb1, hcell1⟩ := hA1 (by omega)
          have hc1 : wr.cell? ⟨b1, off1 + i, none⟩ = some (.int .u8 ((lk[i]?.getD 0).toNat : Int)) := (hBi.cell (p := ⟨b1, off1 + i, none⟩) hb1).trans (hcell1 i hlt2)
          have HC : Hid (came ls k (i + 1) = came ls k i ++ [lk[i]?.getD 0]) := HN.out i hlt2
          clear hcell1
          generalize lk[i]?.getD 0 = c at hc1 HC
          have hx8 := byte_lt c
          have hdec2 : decide ((i : Int) < (lk.length : Int)) = true := by simp; omega
          obtain ⟨fn, tmps, assign, body, hy, hR⟩ := hY _ c wr hJi.out (by have := came_le ls k i; omega)
          gi_wp2
          refine hR.mono ?_
          rintro e W3 (⟨rfl, hJ3, hk3⟩ | ⟨rfl, hJx3⟩)
          · gi_wp2
            go_roundw
            case rel => exact ⟨i + 1, by omega, by go_num, Lib.hid (by rw [HC.out]; exact hJ3), hBi.trans hk3⟩
            case measure => simp [intOf]; omega
          · gi_wp2
            rw [Exit.noGoto_normal]
            go_end0
            exact ⟨⟨_, rfl⟩, .inr ⟨_, trivial, hJx3⟩⟩
        · obtain rfl : i = lk.length := by omega
          gi_wp2
          go_roundw
          case rel => exact ⟨k + 1, by omega, by go_num, Lib.hid (by rw [← HO.out]; exact hJi.out), hBi⟩
          case measure => simp [intOf]; omega
    · obtain rfl : k = ls.length := by omega
      gi_wp2
      rw [Exit.noGoto_normal]
      go_end0
      exact ⟨⟨_, rfl⟩, .inl ⟨_, (came_all ls), hJ.out⟩⟩

theorem each_stops (n : Nat) (hn : 1 ≤ n) (Bs n₀ : Nat) (sv : Value) (ls : List (List UInt8)) (hlen : ∀ j : Nat, (ls[j]?.getD []).length ≤ 140737488351232) (hlen2 : ls.length ≤ 140737488351232) (w : World) (hBs : Bs < w.heap.size) (hn₀ : n₀ ≤ w.heap.size)
    (hc : w.cell? ⟨Bs, 0, none⟩ = some sv) (hM : Many n₀ w sv ls) :
    SeqStopsK Fence.wide n Try.prog 33 #[.pointer (some ⟨Bs, 0, none⟩)] (fun x : UInt8 => #[Value.int .u8 (x.toNat : Int)]) (Below n₀) (fun xs => xs = ls.flatten) (fun _ => True) (ls.flatten.length + 1) w := fun l J Jx W hW _ _ hY h0 =>
  each1_in n hn l Bs n₀ sv ls J Jx hlen hlen2 hY W ((hW.cell (p := ⟨Bs, 0, none⟩) hBs).trans hc) (hM.below (hW.mono hn₀)) h0

end Go.Proofs.Ytkgfahmajhfgbaa
