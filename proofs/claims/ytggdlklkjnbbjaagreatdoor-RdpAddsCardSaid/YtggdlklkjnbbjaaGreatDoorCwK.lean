/- Which lists are the same: Same, and the document's; few. -/
import Derived.Test.YtggdlklkjnbbjaaGreatDoorCwJ
namespace Go.Proofs.YtggdlklkjnbbjaaGreatDoor.C
open Go.RowKit Go.Shelf

def text (l : List UInt8) : ByteArray := ⟨l.toArray⟩
theorem text_inj {a b : List UInt8} (h : text a = text b) : a = b := by
  have : (text a).data.toList = (text b).data.toList := by rw [h]
  simpa [text] using this
theorem texts_differ {a b : List UInt8} (h : ¬ a = b) : ((text a).toList == (text b).toList) = false := by
  rw [beq_eq_false_iff_ne]
  intro e
  rw [ByteArray.toList_eq, ByteArray.toList_eq] at e
  exact h (text_inj (WideShapes.bytes_inj e))
theorem run_txt {B : Nat} {v : Value} {l : List UInt8} (w : World) (h : Bytes B w v l) : (convert 25 9 v).run Tryz.prog w = .ok (.string (text l)) w :=
  run_text w 9 Tryz.underlying25 Tryz.underlying5 Tryz.underlying9 h

theorem enter_equal (args : Array Value) (w : World) : (callFunc 122 args).run Tryz.prog w = .ok (.enter 122 args) w := (enters_of Tryz.func122 (by kernel_rfl) rfl) args w

set_option maxHeartbeats 400000 in
theorem equal_any {B B' : Nat} (v1 v2 : Value) (a b : List UInt8) (w : World) (h1 : Bytes B w v1 a) (h2 : Bytes B' w v2 b) :
    Calls Tryz.prog 122 #[v1, v2] w fun e w' => e = .returned (.bool (decide (a = b))) ∧ w = w' := by
  have c1 := run_txt w h1
  have c2 := run_txt w h2
  by_cases h : a = b
  · subst h
    rw [decide_eq_true rfl]
    clear h1 h2
    generalize text a = s at c1 c2
    go_enter Tryz.func122, Tryz.ntmps122
    go_wp2
    go_ret
    exact ⟨by simp, rfl⟩
  · have hn := texts_differ h
    rw [decide_eq_false h]
    clear h1 h2 h
    generalize text a = s at c1 hn
    generalize text b = t at c2 hn
    go_enter Tryz.func122, Tryz.ntmps122
    go_wp2
    go_ret
    exact ⟨rfl, rfl⟩

theorem same_iff (ls os : List (List UInt8)) : ls = os ↔ ls.length = os.length ∧ ∀ j, j < ls.length → (ls[j]?.getD []) = (os[j]?.getD []) := by
  constructor
  · rintro rfl; exact ⟨rfl, fun _ _ => rfl⟩
  · rintro ⟨h1, h2⟩
    apply List.ext_getElem h1
    intro j hj hj2
    have := h2 j hj
    rwa [List.getElem?_eq_getElem hj, List.getElem?_eq_getElem hj2] at this

set_option maxHeartbeats 400000 in
theorem equalFunc_any {B B' : Nat} (v1 v2 : Value) (ls os : List (List UInt8)) (w : World) (h1 : Many B w v1 ls) (h2 : Many B' w v2 os) (hls : ls.length ≤ 140737488351232) (_hos : os.length ≤ 140737488351232) (b : Bool) (hb : b = true ↔ ls = os) :
    Calls Tryz.prog 140 #[v1, v2, .func (.func 122) #[] #[]] w fun e w' => e = .returned (.bool b) ∧ w = w' := by
  obtain ⟨A1, cap1, rfl, _, _⟩ := id h1
  obtain ⟨A2, cap2, rfl, _, _⟩ := id h2
  have hent := enter_equal
  rw [same_iff] at hb
  by_cases hl : ls.length = os.length
  · have HLn := Lib.hid hl
    rw [hl]
    rw [hl] at hls
    clear hl
    go_enter Tryz.func140, Tryz.ntmps140
    go_wp2
    go_loop [17] (fun i => ∃ k : Nat, k ≤ os.length ∧ i = .int .i64 k ∧ Hid (∀ j, j < k → (ls[j]?.getD []) = (os[j]?.getD []))) (fun i => os.length - (intOf i).toNat)
    case atStart => exact ⟨0, Nat.zero_le _, rfl, Lib.hid fun j hj => absurd hj (by omega)⟩
    case round =>
      obtain ⟨k, hk, rfl, HA⟩ := hrel
      by_cases hlt : k < os.length
      · have hdec : decide ((k : Int) < (os.length : Int)) = true := by simp; omega
        obtain ⟨b1, off1, rfl, _, hrow1⟩ := many_at h1 (by have := HLn.out; omega)
        obtain ⟨B1, cp1, hc1, hB1⟩ := hrow1 k (by have := HLn.out; omega)
        obtain ⟨b2, off2, rfl, _, hrow2⟩ := many_at h2 (by omega)
        obtain ⟨B2, cp2, hc2, hB2⟩ := hrow2 k hlt
        have HE := Lib.hid (equal_any _ _ _ _ w hB1 hB2)
        have HL : Hid ((ls[k]?.getD []) = (os[k]?.getD []) → ∀ j, j < k + 1 → (ls[j]?.getD []) = (os[j]?.getD [])) := by
          intro h j hj
          rcases Nat.lt_or_ge j k with h1 | h1
          · exact HA.out j h1
          · obtain rfl : j = k := by omega
            exact h
        have HM : Hid (¬ (ls[k]?.getD []) = (os[k]?.getD []) → ¬ b = true) := fun h h2 => h ((hb.1 h2).2 k (by have := HLn.out; omega))
        clear hrow1 hrow2 hB1 hB2
        generalize ls[k]?.getD [] = x at hc1 HE HL HM
        generalize os[k]?.getD [] = y at hc2 HE HL HM
        have hk2 : (k : Int) < (os.length : Int) := by omega
        by_cases hxy : x = y
        · rw [decide_eq_true hxy] at HE
          have HL2 := Lib.hid (HL.out hxy)
          subst hxy
          clear HL HM
          go_wp2_with (go_at_call 122; refine HE.out.mono ?_; rintro e w2 ⟨rfl, rfl⟩)
          go_round
          case rel => exact ⟨k + 1, by omega, by go_num, HL2⟩
          case measure => simp [intOf]; omega
        · rw [decide_eq_false hxy] at HE
          have HM2 := Lib.hid (HM.out hxy)
          clear HL HM hxy
          go_wp2_with (go_at_call 122; refine HE.out.mono ?_; rintro e w2 ⟨rfl, rfl⟩)
          go_ret
          exact ⟨ret_bool (Bool.eq_false_iff.2 HM2.out).symm, rfl⟩
      · obtain rfl : k = os.length := by omega
        have e1 : decide ((os.length : Int) < (os.length : Int)) = false := by simp
        go_wp2
        go_ret
        exact ⟨ret_bool (hb.2 ⟨HLn.out, fun j hj => HA.out j (by have := HLn.out; omega)⟩).symm, rfl⟩
  · have e0 : ((ls.length : Int) != (os.length : Int)) = true := by rw [bne_iff_ne]; omega
    have hbf : b = false := Bool.eq_false_iff.2 fun h => hl (hb.1 h).1
    subst hbf
    go_enter Tryz.func140, Tryz.ntmps140
    go_wp2
    go_ret
    exact ⟨rfl, rfl⟩

set_option maxHeartbeats 400000 in
theorem same_any {B B' : Nat} (v1 v2 : Value) (ls os : List (List UInt8)) (w : World) (h1 : Many B w v1 ls) (h2 : Many B' w v2 os) (hls : ls.length ≤ 140737488351232) (hos : os.length ≤ 140737488351232) :
    Calls Tryz.prog 109 #[v1, v2] w fun e w' => e = .returned (.bool (decide (ls = os))) ∧ w = w' := by
  have H := Lib.hid (equalFunc_any v1 v2 ls os w h1 h2 hls hos (decide (ls = os)) decide_eq_true_iff)
  obtain ⟨A1, cap1, rfl, _, _⟩ := id h1
  obtain ⟨A2, cap2, rfl, _, _⟩ := id h2
  generalize decide (ls = os) = d at H
  go_enter Tryz.func109, Tryz.ntmps109
  go_wp2_with (go_at_call 140; refine H.out.mono ?_; rintro e w2 ⟨rfl, rfl⟩)
  go_ret
  exact ⟨rfl, rfl⟩

theorem below_drewN {B : Nat} {a w : World} (h : Below B a w) (n : Nat) : Below B a (w.drewN n) := ⟨h.os, h.tape, h.output, h.size, h.block⟩

set_option maxHeartbeats 400000 in
theorem rsame_any {B B' : Nat} (v1 v2 : Value) (ls os : List (List UInt8)) (w : World) (h1 : Many B w v1 ls) (h2 : Many B' w v2 os) (hls : ls.length ≤ 140737488351232) (_hos : os.length ≤ 140737488351232) :
    Calls Tryz.prog 104 #[v1, v2] w fun e w' => e = .returned (.bool (decide (ls = os))) ∧ Below w.heap.size w w' := by
  obtain ⟨A1, cap1, rfl, _, _⟩ := id h1
  obtain ⟨A2, cap2, rfl, _, _⟩ := id h2
  have hb := same_iff ls os
  by_cases hl : ls.length = os.length
  · have e0 : ((ls.length : Int) != (os.length : Int)) = false := by rw [hl]; simp
    go_enter Tryz.func104, Tryz.ntmps104
    go_wp2
    go_loopw [5] (fun i wr => ∃ k : Nat, k ≤ ls.length ∧ i = .int .i64 k ∧ Hid (∀ j, j < k → (ls[j]?.getD []) = (os[j]?.getD [])) ∧ Below w.heap.size w wr ∧ Hid (∀ p, wr.cell? p = w.cell? p)) (fun i _ => ls.length - (intOf i).toNat)
    case atStart => exact ⟨0, Nat.zero_le _, rfl, (Lib.hid fun j hj => absurd hj (by omega)), Below.refl _ _, Lib.hid fun _ => rfl⟩
    case round =>
      obtain ⟨k, hk, rfl, HA, hBr, HK⟩ := hrel
      by_cases hlt : k < ls.length
      · have hdec : decide ((k : Int) < (ls.length : Int)) = true := by simp; omega
        obtain ⟨b1, off1, rfl, _, hrow1⟩ := many_at (h1.keep (fun p _ => HK.out p)) (by omega)
        obtain ⟨B1, cp1, hc1, hB1⟩ := hrow1 k hlt
        obtain ⟨b2, off2, rfl, _, hrow2⟩ := many_at (h2.keep (fun p _ => HK.out p)) (by omega)
        obtain ⟨B2, cp2, hc2, hB2⟩ := hrow2 k (by omega)
        have t1 := run_txt wr hB1
        have t2 := run_txt wr hB2
        have t3 := fun n => run_txt (wr.drewN n) (hB1.keep (W' := wr.drewN n) fun _ _ => rfl)
        have t4 := fun n => run_txt (wr.drewN n) (hB2.keep (W' := wr.drewN n) fun _ _ => rfl)
        have HL : Hid ((ls[k]?.getD []) = (os[k]?.getD []) → ∀ j, j < k + 1 → (ls[j]?.getD []) = (os[j]?.getD [])) := by
          intro h j hj
          rcases Nat.lt_or_ge j k with h1 | h1
          · exact HA.out j h1
          · obtain rfl : j = k := by omega
            exact h
        have HM : Hid (¬ (ls[k]?.getD []) = (os[k]?.getD []) → ¬ ls = os) := fun h h2 => h ((hb.1 h2).2 k hlt)
        have HT : Hid ((ls[k]?.getD []) = (os[k]?.getD []) ∨ ((text (ls[k]?.getD [])).toList == (text (os[k]?.getD [])).toList) = false) := by
          by_cases h : (ls[k]?.getD []) = (os[k]?.getD [])
          · exact .inl h
          · exact .inr (texts_differ h)
        clear hrow1 hrow2 hB1 hB2 hb
        generalize ls[k]?.getD [] = x at *
        generalize os[k]?.getD [] = y at *
        have hk2 : (k : Int) < (os.length : Int) := by omega
        by_cases hxy : x = y
        · have HL2 := Lib.hid (HL.out hxy)
          subst hxy
          clear HT HM HL
          generalize text x = s at *
          go_wp2
          go_quiet (fail)
          go_wp2
          go_roundw
          case rel => exact ⟨k + 1, by omega, by go_num, HL2, below_drewN hBr _, Lib.hid fun p => HK.out p⟩
          case measure => simp [intOf]; omega
        · have hn := HT.out.resolve_left hxy
          have HM2 := Lib.hid (HM.out hxy)
          clear HT HM HL hxy
          generalize text x = s at *
          generalize text y = t at *
          go_wp2
          go_quiet (fail)
          go_wp2
          go_ret
          exact ⟨ret_bool (decide_eq_false HM2.out).symm, below_drewN hBr _⟩
      · obtain rfl : k = ls.length := by omega
        have e1 : decide ((ls.length : Int) < (ls.length : Int)) = false := by simp
        go_wp2
        go_ret
        exact ⟨ret_bool (decide_eq_true (hb.2 ⟨hl, HA.out⟩)).symm, hBr⟩
  · have e0 : ((ls.length : Int) != (os.length : Int)) = true := by rw [bne_iff_ne]; omega
    have hbf : ¬ ls = os := fun h => hl (hb.1 h).1
    rw [decide_eq_false hbf]
    go_enter Tryz.func104, Tryz.ntmps104
    go_wp2
    go_ret
    exact ⟨rfl, Below.refl _ _⟩

/-- The lists are few and short. -/
def Few (ls : List (List UInt8)) : Prop := ls.length ≤ 40 ∧ ∀ j, j < ls.length → (ls[j]?.getD []).length ≤ 100

end Go.Proofs.YtggdlklkjnbbjaaGreatDoor.C
