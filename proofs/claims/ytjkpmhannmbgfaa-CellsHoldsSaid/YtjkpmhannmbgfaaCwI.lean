/- Lists laid one behind the other: slices.Grow, slices.Concat. -/
import Derived.Test.YtjkpmhannmbgfaaCwH
import Derived.Lib.AppendZeros
namespace Go.Proofs.Ytjkpmhannmbgfaa
open Go.RowKit Go.Shelf

theorem size_zeroCells (n : Nat) : (Builtin.zeroCells #[.int .u8 0] n).size = n := by simp [Builtin.zeroCells]

theorem wpList_zeros (w : World) {ops : Array Oper} {rest : List Oper} {o : Oper} {a : Act} {Q : Exit → Act → World → Prop} (hgd : o.guard = none) (s x : Operand)
    (ho : o.op = .call { callee := .builtin .append, args := #[s, x], argTypes := #[25, 3] }) (n : Nat) (h0 : 0 < n) (hn : n ≤ 140737488355328)
    (hs : a.eval s = .slice none 0 0) (hx : a.eval x = .int .i64 (n : Int))
    (h : ∀ c w', OwnB w' w.heap.size (.slice (some ⟨w.heap.size, 0, none⟩) 0 c) [] → Below w.heap.size w w' → n ≤ c → wpList Try.prog ops Q rest (a.put o.dst (.slice (some ⟨w.heap.size, 0, none⟩) n c)) w') : wpList Try.prog ops Q (o :: rest) a w :=
  wpList_plain hgd fun K hK => by
    obtain ⟨i0, hi, hz0, hz1, hz2⟩ := info_parts Try.infoByte
    have hrun := Lib.run_append_nil_zeros (P := Try.prog) w 25 3 o.type 5 i0 (.int .u8 0) .i64 .i64 Try.underlying25 Try.underlying3 hi hz0 n h0 (by omega) (by omega) (by rw [hz2]; omega)
    have hge := grownCap_ge w n 0 5
    have hle := grownCap_le_maxLen w n 0 5 (by unfold maxLen; omega)
    generalize grownCap w n 0 5 = c at *
    have hsz : (Builtin.zeroCells (Value.int .u8 0).cells n ++ Builtin.zeroCells (Value.int .u8 0).cells (c - n)).size = c * 1 := by
      rw [Array.size_append, show (Value.int .u8 0).cells = #[.int .u8 0] from rfl, size_zeroCells, size_zeroCells]; omega
    generalize Builtin.zeroCells (Value.int .u8 0).cells n ++ Builtin.zeroCells (Value.int .u8 0).cells (c - n) = cs at *
    unfold Oper.wp execOp
    simp only [ho, resolve, invoke, builtin, Sem.run_bind, Sem.run_pure, Result.andThen_ok, List.map_toArray, List.map_cons, List.map_nil, hs, hx, hrun]
    exact hK _ _ (h c _ (World.ownsRow_made w.drew cs c (Nat.le_refl _) hle hsz) ((Below.refl w.heap.size w).drew.alloc (Nat.le_refl _) _) hge)

theorem own_nil (w : World) (base : Nat) : OwnB w base (.slice none 0 0) [] := World.ownsRow_nil w base _ 1

set_option maxHeartbeats 400000 in
theorem grow_any (n : Nat) (hn : n ≤ 140737488355328) (w : World) :
    Calls Try.prog 57 #[.slice none 0 0, .int .i64 (n : Int)] w fun e w' => ∃ v, e = .returned v ∧ OwnB w' w.heap.size v [] ∧ Below w.heap.size w w' := by
  by_cases h0 : n = 0
  · subst h0
    go_enter Try.func57, Try.ntmps57
    go_wp2
    go_ret
    exact ⟨_, rfl, own_nil _ _, Below.refl _ _⟩
  · have hp : 0 < n := by omega
    have d1 : decide ((n : Int) < 0) = false := by simp
    have d2 : decide (0 < (n : Int)) = true := by simp; omega
    go_enter Try.func57, Try.ntmps57
    go_wp2_with (at_builtin; refine wpList_zeros _ rfl _ _ rfl n hp hn rfl rfl ?_; intro c w1 hown hB1 hc)
    go_ret
    exact ⟨_, rfl, hown, hB1⟩

theorem flat_next (ls : List (List UInt8)) (k : Nat) (hk : k < ls.length) : (ls.take (k + 1)).flatten = (ls.take k).flatten ++ (ls[k]?.getD []) := by
  rw [List.take_succ_eq_append_getElem hk, List.flatten_append, List.getElem?_eq_getElem hk]; simp
theorem flat_le (ls : List (List UInt8)) (k : Nat) : (ls.take k).flatten.length ≤ ls.flatten.length := by
  have e : ls.flatten = (ls.take k).flatten ++ (ls.drop k).flatten := by rw [← List.flatten_append, List.take_append_drop]
  rw [e, List.length_append]; omega

set_option maxHeartbeats 1000000 in
theorem concat_any (v : Value) (ls : List (List UInt8)) (hls : ls.length ≤ 1048576) (htot : ls.flatten.length ≤ 1048576) (w : World) (hM : Many w.heap.size w v ls) :
    Calls Try.prog 56 #[v] w fun e w' => ∃ v', e = .returned v' ∧ OwnB w' w.heap.size v' ls.flatten ∧ Below w.heap.size w w' := by
  obtain ⟨A, cap, rfl, _, _⟩ := id hM
  obtain ⟨i0, hi, hz0, hz1, hz2⟩ := info_parts Try.infoByte
  go_enter Try.func56, Try.ntmps56
  go_wp2_with fail
  go_loop [3, 11] (fun s i => ∃ k : Nat, k ≤ ls.length ∧ i = .int .i64 k ∧ s = .int .i64 ((ls.take k).flatten.length : Int)) (fun _ i => ls.length - (intOf i).toNat)
  case atStart => exact ⟨0, Nat.zero_le _, rfl, rfl⟩
  case round =>
    obtain ⟨k, hk, rfl, rfl⟩ := hrel
    by_cases hlt : k < ls.length
    · have hdec : decide ((k : Int) < (ls.length : Int)) = true := by simp; omega
      obtain ⟨b, off, rfl, hb, hrow⟩ := many_at hM (by omega)
      obtain ⟨A1, cp, hc, _⟩ := hrow k hlt
      have HF : Hid ((ls.take (k + 1)).flatten.length = (ls.take k).flatten.length + (ls[k]?.getD []).length) := by
        unfold Hid; rw [flat_next ls k hlt, List.length_append]
      have hle := flat_le ls (k + 1)
      rw [HF.out] at hle
      clear hrow
      generalize (ls[k]?.getD []).length = m at hc HF hle
      generalize (ls.take k).flatten.length = s at HF hle
      have d1 : decide (((s : Int) + (m : Int)) < 0) = false := by simp; omega
      go_wp2
      go_round
      case rel => exact ⟨k + 1, by omega, by go_num, by rw [HF.out]; go_num⟩
      case measure => simp [intOf]; omega
    · obtain rfl : k = ls.length := by omega
      have e1 : decide ((ls.length : Int) < (ls.length : Int)) = false := by simp
      rw [List.take_length]
      have HT := Lib.hid htot
      have HLE := Lib.hid (fun k => flat_le ls k)
      generalize ls.flatten.length = T at HT HLE htot
      have HG := Lib.hid (grow_any T (by omega) w)
      go_wp2_with (go_at_call 57; refine HG.out.mono ?_; rintro e w1 ⟨v1, rfl, hown1, hB1⟩)
      go_loopw [6, 27] (fun v i wr => ∃ k : Nat, k ≤ ls.length ∧ i = .int .i64 k ∧ OwnB wr w.heap.size v (ls.take k).flatten ∧ Below w.heap.size w wr) (fun _ i _ => ls.length - (intOf i).toNat)
      case atStart => exact ⟨0, Nat.zero_le _, rfl, hown1, hB1⟩
      case round =>
        obtain ⟨k, hk, rfl, hown, hB⟩ := hrel
        by_cases hlt : k < ls.length
        · have hdec : decide ((k : Int) < (ls.length : Int)) = true := by simp; omega
          obtain ⟨b, off, rfl, hb, hrow⟩ := many_at hM (by omega)
          obtain ⟨A1, cp, hc, hby⟩ := hrow k hlt
          have hc1 := (hB.cell (p := ⟨b, off + k, none⟩) hb).trans hc
          have hby1 := hby.below hB
          have HF := Lib.hid (flat_next ls k hlt)
          have hle := HLE.out (k + 1)
          rw [HF.out, List.length_append] at hle
          clear hrow hc hby
          generalize ls[k]?.getD [] = r at hc1 hby1 HF hle
          generalize (ls.take k).flatten = p at HF hle hown
          have HO := Lib.hid hown
          have HB := Lib.hid hby1
          clear hown hby1
          go_wp2_with (at_builtin; refine wpList_app _ rfl _ _ rfl w.heap.size i0 Try.underlying25 hi hz0 hz1 hz2 _ p rfl HO.out w.heap.size _ r rfl HB.out (by have := HT.out; omega) hB.size ?_; intro v' w2 hown2 hgrow2 _)
          go_roundw
          case rel => exact ⟨k + 1, by omega, by go_num, by rw [HF.out]; exact hown2, below_grown hB hgrow2 hB.size (fun g e => (World.ownsRow.lt HO.out g e).1)⟩
          case measure => simp [intOf]; omega
        · obtain rfl : k = ls.length := by omega
          have e1 : decide ((ls.length : Int) < (ls.length : Int)) = false := by simp
          rw [List.take_length] at hown
          go_wp2
          go_ret
          exact ⟨_, rfl, hown, hB⟩
end Go.Proofs.Ytjkpmhannmbgfaa
