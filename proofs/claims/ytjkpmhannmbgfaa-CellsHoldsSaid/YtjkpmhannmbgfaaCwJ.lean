/- Glue. -/
import Derived.Test.YtjkpmhannmbgfaaCwI
namespace Go.Proofs.Ytjkpmhannmbgfaa
open Go.RowKit Go.Shelf

theorem lengthOf_alike (ls : List (List UInt8)) (v : Value) (w : World) (hM : Many w.heap.size w v ls) (hls : ls.length ≤ 140737488351232) (hal : Alike ls) :
    Calls Try.prog 31 #[v] w fun e w' => e = .returned (.int .i64 ((ls[0]?.getD []).length : Int)) ∧ Below w.heap.size w w' := by
  by_cases h0 : ls = []
  · subst h0
    refine (lengthOf_none v w hM).mono ?_
    rintro e w' ⟨rfl, rfl⟩
    exact ⟨rfl, Below.refl _ _⟩
  · rcases hal with h | ⟨hc, ha⟩
    · exact absurd h h0
    · exact lengthOf_yes ls v w (Nat.le_refl _) hM hls (List.length_pos_iff.2 h0) hc ha

theorem flat_alike (ls : List (List UInt8)) (n : Nat) (h : AllLen n ls) : ls.flatten.length = ls.length * n := by
  induction ls with
  | nil => simp
  | cons a ls ih =>
    have h1 : a.length = n := h 0 (by simp)
    have h2 := ih fun j hj => by
      have := h (j + 1) (by simpa using hj)
      simpa using this
    rw [List.flatten_cons, List.length_append, h2, h1, List.length_cons, Nat.succ_mul]; omega
theorem flat_of (ls : List (List UInt8)) (hal : Alike ls) : ls.flatten.length = ls.length * (ls[0]?.getD []).length := by
  rcases hal with rfl | ⟨_, h⟩
  · rfl
  · exact flat_alike ls _ h

theorem Fresh.take_ {base : Nat} {w : World} {A : Option Addr} {n cap : Nat} {l : List UInt8} (h : Fresh base w (.slice A n cap) l) {m : Nat} (hm : m ≤ n) : Fresh base w (.slice A m m) (l.take m) := by
  obtain ⟨A', cap', e, hc, hA⟩ := h
  injection e with e1 e2 e3
  subst e1 e2 e3
  have hl : (l.take m).length = m := by rw [List.length_take]; omega
  refine ⟨A, m, by rw [hl], by omega, fun hp => ?_⟩
  obtain ⟨b, off, e, h1, h2, hcell⟩ := hA (by omega)
  exact ⟨b, off, e, h1, h2, fun j hj => by rw [hcell j (by omega), List.getElem?_take_of_lt (by omega)]⟩

set_option maxHeartbeats 400000 in
theorem glued_mid (v : Value) (ls : List (List UInt8)) (n m T : Nat) (hls : ls.length ≤ 10000) (hn : n ≤ 64) (w : World) (hM : Many w.heap.size w v ls) (hal : Alike ls) (hn0 : (ls[0]?.getD []).length = n) (hT : ls.flatten.length = T) (hTn : ls.length * n = T)
    (hm : m ≤ T) (hmax : T - m < max n 1) :
    Calls Try.prog 46 #[v, .int .i64 (m : Int)] w fun e w' => (places (ls.flatten.drop m) = [] → ∃ v', e = .returned v' ∧ Fresh w.heap.size w' v' (ls.flatten.take m)) ∧ (places (ls.flatten.drop m) ≠ [] → e = .panicked gaveUp) ∧ Below w.heap.size w w' := by
  have hTle : T ≤ 640000 := by
    have := Nat.mul_le_mul hls hn
    omega
  have HL := lengthOf_alike ls v w hM (by omega) hal
  rw [hn0] at HL
  have HC := fun (W : World) (hB : Below w.heap.size w W) => concat_any v ls (by omega) (by omega) W ((hM.below hB).more hB.size)
  have HL' := Lib.hid HL
  have HC' := Lib.hid HC
  have hmul : (ls.length : Int) * (n : Int) = (T : Int) := by rw [← hTn]; push_cast; rfl
  have wT := wrap64_nat T (by omega)
  obtain ⟨A, cap, rfl, _, _⟩ := id hM
  have d1 : decide ((0 : Int) ≤ (m : Int)) = true := by simp
  have d2 : decide ((0 : Int) ≤ (T : Int) - (m : Int)) = true := by simp; omega
  have d3 : decide ((T : Int) - (m : Int) < max (n : Int) 1) = true := by
    rw [decide_eq_true_iff]
    rw [Nat.max_def] at hmax
    rw [Int.max_def]
    split <;> split at hmax <;> omega
  clear HL HC hM hal hn0 hTn hmax
  generalize ls.flatten = F at *
  go_enter Try.func46, Try.ntmps46
  go_wp2_with (first
    | (go_at_call 31; refine HL'.out.mono ?_; rintro e w1 ⟨rfl, hB1⟩)
    | (go_at_call 41; refine (need_yes _).mono ?_; rintro e w' ⟨rfl, rfl⟩))
  refine (HC'.out w1 hB1).mono ?_
  rintro e w2 ⟨v2, rfl, hown2, hB2⟩
  have hF2 := OwnB.fresh hown2
  have hB12 := Below.next hB1 hB2
  obtain ⟨A2, cap2, rfl⟩ := hF2.bytes.form hT
  obtain ⟨_, _, hE, hcap2, _⟩ := id hF2
  injection hE with hE1 hE2 hE3
  subst hE1 hE3
  obtain ⟨A3, hA3⟩ : ∃ A3, (if cap2 = m then A2 else Option.map (fun x => x.add m) A2) = A3 := ⟨_, rfl⟩
  have hb3 : Bytes w2.heap.size w2 (.slice A3 (T - m) (cap2 - m)) (F.drop m) := by
    by_cases hq : cap2 = m
    · have hz : F.drop m = [] := List.drop_eq_nil_of_le (by omega)
      rw [hz, show T - m = 0 by omega]
      exact Bytes.nil_ _ _ _ _
    · rw [← hA3, if_neg hq]
      exact hF2.bytes.drop_ hm hq
  have HB3 := Lib.hid (noBit_any _ (F.drop m) w2 hb3 (by rw [List.length_drop]; omega))
  have HF2 := Lib.hid (hF2.take_ hm)
  have HB12 := Lib.hid hB12
  rw [hT] at hcap2
  have hmc : (m : Int) ≤ (cap2 : Int) := by omega
  clear hF2 hown2 hb3 hE2 hB12
  by_cases hz : places (F.drop m) = []
  · rw [decide_eq_true hz] at HB3
    go_wp2_with (first
      | (go_at_call 36; refine HB3.out.mono ?_; rintro e w3 ⟨rfl, hB3⟩)
      | (go_at_call 41; refine (need_yes _).mono ?_; rintro e w' ⟨rfl, rfl⟩))
    go_ret
    exact ⟨fun _ => ⟨_, rfl, (HF2.out.below hB3).less hB1.size⟩, fun h => absurd hz h, Below.next HB12.out hB3⟩
  · rw [decide_eq_false hz] at HB3
    go_wp2_with (first
      | (go_at_call 36; refine HB3.out.mono ?_; rintro e w3 ⟨rfl, hB3⟩)
      | (go_at_call 41; refine (need_no _).mono ?_; rintro e w' ⟨rfl, rfl⟩))
    exact ⟨rfl, fun h => absurd h hz, fun _ => rfl, Below.next HB12.out hB3⟩

set_option maxHeartbeats 400000 in
theorem glued_bad (v : Value) (ls : List (List UInt8)) (n T : Nat) (many : Int) (hw : many ≤ 9223372036854775807) (hls : ls.length ≤ 10000) (hn : n ≤ 64) (w : World) (hM : Many w.heap.size w v ls) (hal : Alike ls) (hn0 : (ls[0]?.getD []).length = n)
    (hTn : ls.length * n = T) (hbad : ¬ (0 ≤ many ∧ 0 ≤ (T : Int) - many ∧ (T : Int) - many < max (n : Int) 1)) :
    Calls Try.prog 46 #[v, .int .i64 many] w fun e w' => e = .panicked gaveUp ∧ Below w.heap.size w w' := by
  have hTle : T ≤ 640000 := by
    have := Nat.mul_le_mul hls hn
    omega
  have HL := lengthOf_alike ls v w hM (by omega) hal
  rw [hn0] at HL
  have HL' := Lib.hid HL
  have hmul : (ls.length : Int) * (n : Int) = (T : Int) := by rw [← hTn]; push_cast; rfl
  have wT := wrap64_nat T (by omega)
  obtain ⟨A, cap, rfl, _, _⟩ := id hM
  clear HL hM hal hn0 hTn
  by_cases h1 : 0 ≤ many
  · have d1 : decide ((0 : Int) ≤ many) = true := by simpa using h1
    by_cases h2 : 0 ≤ (T : Int) - many
    · have d2 : decide ((0 : Int) ≤ (T : Int) - many) = true := by simpa using h2
      have d3 : decide ((T : Int) - many < max (n : Int) 1) = false := decide_eq_false fun h => hbad ⟨h1, h2, h⟩
      clear hbad
      go_enter Try.func46, Try.ntmps46
      go_wp2_with (first
        | (go_at_call 31; refine HL'.out.mono ?_; rintro e w1 ⟨rfl, hB1⟩)
        | (go_at_call 41; refine (need_no _).mono ?_; rintro e w' ⟨rfl, rfl⟩))
      exact ⟨rfl, rfl, hB1⟩
    · have d2 : decide ((0 : Int) ≤ (T : Int) - many) = false := by simpa using h2
      clear hbad
      go_enter Try.func46, Try.ntmps46
      go_wp2_with (first
        | (go_at_call 31; refine HL'.out.mono ?_; rintro e w1 ⟨rfl, hB1⟩)
        | (go_at_call 41; refine (need_no _).mono ?_; rintro e w' ⟨rfl, rfl⟩))
      exact ⟨rfl, rfl, hB1⟩
  · have d1 : decide ((0 : Int) ≤ many) = false := by simpa using h1
    clear hbad
    go_enter Try.func46, Try.ntmps46
    go_wp2_with (first
      | (go_at_call 31; refine HL'.out.mono ?_; rintro e w1 ⟨rfl, hB1⟩)
      | (go_at_call 41; refine (need_no _).mono ?_; rintro e w' ⟨rfl, rfl⟩))
    exact ⟨rfl, rfl, hB1⟩

set_option maxHeartbeats 400000 in
theorem glued_odd (v : Value) (ls : List (List UInt8)) (many : Int) (hls : ls.length ≤ 10000) (w : World) (hM : Many w.heap.size w v ls) (hno : ¬ Alike ls) :
    Calls Try.prog 46 #[v, .int .i64 many] w fun e w' => e = .panicked gaveUp ∧ Below w.heap.size w w' := by
  have HL := Lib.hid (lengthOf_no ls v w (Nat.le_refl _) hM (by omega) hno)
  obtain ⟨A, cap, rfl, _, _⟩ := id hM
  clear hM hno
  go_enter Try.func46, Try.ntmps46
  go_wp2_with (go_at_call 31; refine HL.out.mono ?_; rintro e w1 ⟨rfl, hB1⟩)
  exact ⟨rfl, rfl, hB1⟩

/-- So many bytes of cells can be glued. -/
def GlueOk (ls : List (List UInt8)) (many : Int) : Prop :=
  Alike ls ∧ (0 ≤ many ∧ 0 ≤ (ls.flatten.length : Int) - many ∧ (ls.flatten.length : Int) - many < max ((ls[0]?.getD []).length : Int) 1) ∧ places (ls.flatten.drop many.toNat) = []

theorem head_le {ls : List (List UInt8)} (h : Alike ls) : (ls[0]?.getD []).length ≤ 64 := by
  rcases h with rfl | h
  · simp
  · exact h.1.2

theorem glued_yes (v : Value) (ls : List (List UInt8)) (many : Int) (hls : ls.length ≤ 10000) (w : World) (hM : Many w.heap.size w v ls) (hok : GlueOk ls many) :
    Calls Try.prog 46 #[v, .int .i64 many] w fun e w' => ∃ v', e = .returned v' ∧ Fresh w.heap.size w' v' (ls.flatten.take many.toNat) ∧ Below w.heap.size w w' := by
  obtain ⟨hal, ⟨h1, h2, h3⟩, hz⟩ := hok
  obtain ⟨m, rfl⟩ := Int.eq_ofNat_of_zero_le h1
  rw [Int.toNat_natCast] at hz ⊢
  refine (glued_mid v ls _ m _ hls (head_le hal) w hM hal rfl rfl (flat_of ls hal).symm (by omega) ?_).mono ?_
  · rw [Int.max_def] at h3
    rw [Nat.max_def]
    split <;> split at h3 <;> omega
  · rintro e w' ⟨ha, _, hB⟩
    obtain ⟨v', e1, hF⟩ := ha hz
    exact ⟨v', e1, hF, hB⟩

theorem glued_no (v : Value) (ls : List (List UInt8)) (many : Int) (hw : many ≤ 9223372036854775807) (hls : ls.length ≤ 10000) (w : World) (hM : Many w.heap.size w v ls) (hno : ¬ GlueOk ls many) :
    Calls Try.prog 46 #[v, .int .i64 many] w fun e w' => e = .panicked gaveUp ∧ Below w.heap.size w w' := by
  by_cases hal : Alike ls
  · by_cases hb : 0 ≤ many ∧ 0 ≤ (ls.flatten.length : Int) - many ∧ (ls.flatten.length : Int) - many < max ((ls[0]?.getD []).length : Int) 1
    · have hz : ¬ places (ls.flatten.drop many.toNat) = [] := fun h => hno ⟨hal, hb, h⟩
      obtain ⟨h1, h2, h3⟩ := hb
      obtain ⟨m, rfl⟩ := Int.eq_ofNat_of_zero_le h1
      rw [Int.toNat_natCast] at hz
      refine (glued_mid v ls _ m _ hls (head_le hal) w hM hal rfl rfl (flat_of ls hal).symm (by omega) ?_).mono ?_
      · rw [Int.max_def] at h3
        rw [Nat.max_def]
        split <;> split at h3 <;> omega
      · rintro e w' ⟨_, hb, hB⟩
        exact ⟨hb hz, hB⟩
    · refine glued_bad v ls _ _ many hw hls (head_le hal) w hM hal rfl (flat_of ls hal).symm hb
  · exact glued_odd v ls many hls w hM hal

theorem enter_glue (args : Array Value) (w : World) : (callFunc 45 args).run Try.prog w = .ok (.enter 45 args) w := (enters_of Try.func45 (by kernel_rfl) rfl) args w

set_option maxHeartbeats 400000 in
theorem glue1_yes (v : Value) (many : Int) (gl gm : Nat) (w : World) (R : Ending → World → Prop) (cl : w.cell? ⟨gl, 0, none⟩ = some v) (cm : w.cell? ⟨gm, 0, none⟩ = some (.int .i64 many))
    (h : Calls Try.prog 46 #[v, .int .i64 many] w fun e w' => ∃ v', e = .returned v' ∧ R e w') :
    Calls Try.prog 45 #[.pointer (some ⟨gl, 0, none⟩), .pointer (some ⟨gm, 0, none⟩)] w R := by
  go_enter Try.func45, Try.ntmps45
  go_wp2_with (go_at_call 46; refine h.mono ?_; rintro e w1 ⟨v', rfl, hR⟩)
  exact hR

set_option maxHeartbeats 400000 in
theorem glue1_no (v : Value) (many : Int) (gl gm : Nat) (w : World) (cl : w.cell? ⟨gl, 0, none⟩ = some v) (cm : w.cell? ⟨gm, 0, none⟩ = some (.int .i64 many))
    (h : Calls Try.prog 46 #[v, .int .i64 many] w fun e w' => e = .panicked gaveUp ∧ Below w.heap.size w w') :
    Calls Try.prog 45 #[.pointer (some ⟨gl, 0, none⟩), .pointer (some ⟨gm, 0, none⟩)] w fun e w' => e = .panicked gaveUp ∧ Below w.heap.size w w' := by
  go_enter Try.func45, Try.ntmps45
  go_wp2_with (go_at_call 46; refine h.mono ?_; rintro e w1 ⟨rfl, hB⟩)
  exact ⟨rfl, rfl, hB⟩

set_option maxHeartbeats 400000 in
theorem glue_yes (v : Value) (ls : List (List UInt8)) (many : Int) (hls : ls.length ≤ 10000) (w : World) (hM : Many w.heap.size w v ls) (hok : GlueOk ls many) :
    Calls Try.prog 22 #[v, .int .i64 many] w fun e w' => ∃ v', e = .returned (.tuple #[v', .int .i64 0]) ∧ Fresh w.heap.size w' v' (ls.flatten.take many.toNat) ∧ Below w.heap.size w w' := by
  have hmf := make_func
  obtain ⟨W0, hW0⟩ : ∃ W0, (w.alloc (.cells #[v] 22)).alloc (.cells #[.int .i64 many] 3) = W0 := ⟨_, rfl⟩
  have b0 : Blk W0 w.heap.size 22 #[v] := by rw [← hW0]; exact (Blk.new w _ _).alloc _
  have b1 : Blk W0 (w.heap.size + 1) 3 #[.int .i64 many] := by
    rw [← hW0]; have := Blk.new (w.alloc (.cells #[v] 22)) 3 #[.int .i64 many]; rwa [World.size_alloc] at this
  have hB0 : Below w.heap.size w W0 := by rw [← hW0]; exact ((Below.refl _ w).alloc (Nat.le_refl _) _).alloc (by simp) _
  have hs0 : W0.heap.size = w.heap.size + 2 := by rw [← hW0]; simp
  have HA := Lib.hid (answeredB_yes 45 #[.pointer (some ⟨w.heap.size, 0, none⟩), .pointer (some ⟨w.heap.size + 1, 0, none⟩)] W0 (fun u W => Fresh (W0.heap.size + 1) W u (ls.flatten.take many.toNat)) (fun W => enter_glue _ W)
    (fun W hBW hlt => glue1_yes v many w.heap.size (w.heap.size + 1) W _ (b0.below hBW (by omega)).one (b1.below hBW (by omega)).one
      ((glued_yes v ls many hls W (((hM.below hB0).more hB0.size).below hBW |>.more hBW.size) hok).mono (by rintro e w' ⟨u, rfl, hF, hB'⟩; exact ⟨u, rfl, u, rfl, hF.less hlt, hB'⟩)))
    (fun v W hF => hF.set_ (by simp) _))
  obtain ⟨A, cap, rfl, _, _⟩ := id hM
  clear b0 b1
  go_enter Try.func22, Try.ntmps22
  go_wp2_with (go_at_call 27; refine HA.out.mono ?_; rintro e w1 ⟨v, rfl, hF, hBr⟩)
  go_ret2
  exact ⟨v, rfl, hF.less (by omega), hB0.trans (hBr.mono (by omega))⟩

set_option maxHeartbeats 400000 in
theorem glue_no (v : Value) (ls : List (List UInt8)) (many : Int) (hw : many ≤ 9223372036854775807) (hls : ls.length ≤ 10000) (w : World) (hM : Many w.heap.size w v ls) (hno : ¬ GlueOk ls many) :
    Calls Try.prog 22 #[v, .int .i64 many] w fun e w' => e = .returned (.tuple #[.slice none 0 0, .int .i64 2]) ∧ Below w.heap.size w w' := by
  have hmf := make_func
  obtain ⟨W0, hW0⟩ : ∃ W0, (w.alloc (.cells #[v] 22)).alloc (.cells #[.int .i64 many] 3) = W0 := ⟨_, rfl⟩
  have b0 : Blk W0 w.heap.size 22 #[v] := by rw [← hW0]; exact (Blk.new w _ _).alloc _
  have b1 : Blk W0 (w.heap.size + 1) 3 #[.int .i64 many] := by
    rw [← hW0]; have := Blk.new (w.alloc (.cells #[v] 22)) 3 #[.int .i64 many]; rwa [World.size_alloc] at this
  have hB0 : Below w.heap.size w W0 := by rw [← hW0]; exact ((Below.refl _ w).alloc (Nat.le_refl _) _).alloc (by simp) _
  have hs0 : W0.heap.size = w.heap.size + 2 := by rw [← hW0]; simp
  have HA := Lib.hid (answeredB_no 45 #[.pointer (some ⟨w.heap.size, 0, none⟩), .pointer (some ⟨w.heap.size + 1, 0, none⟩)] W0 (fun W => enter_glue _ W)
    (fun W hBW hlt => glue1_no v many w.heap.size (w.heap.size + 1) W (b0.below hBW (by omega)).one (b1.below hBW (by omega)).one
      (glued_no v ls many hw hls W (((hM.below hB0).more hB0.size).below hBW |>.more hBW.size) hno)))
  obtain ⟨A, cap, rfl, _, _⟩ := id hM
  clear b0 b1
  go_enter Try.func22, Try.ntmps22
  go_wp2_with (go_at_call 27; refine HA.out.mono ?_; rintro e w1 ⟨rfl, hBr⟩)
  go_ret2
  exact ⟨rfl, hB0.trans (hBr.mono (by omega))⟩
end Go.Proofs.Ytjkpmhannmbgfaa
