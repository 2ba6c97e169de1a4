/- The document's Glue. -/
import Derived.Test.YtjkpmhannmbgfaaCwN
namespace Go.Proofs.Ytjkpmhannmbgfaa
open Go.RowKit Go.Shelf

theorem no_bit : ∀ n : Fin 256, (∀ t : Fin 8, n.val / 2 ^ t.val % 2 ≠ 1) → n.val = 0 := by decide +kernel
theorem bits_nil_iff (j : Nat) (x : UInt8) : bitsTo j x 8 = [] ↔ x = 0 := by
  constructor
  · intro h
    unfold bitsTo at h
    rw [List.map_eq_nil_iff, List.filter_eq_nil_iff] at h
    have h2 := no_bit ⟨x.toNat, by have := x.toNat_lt; omega⟩ (fun t => by
      have := h t.val (List.mem_range.2 t.isLt)
      unfold bit at this
      simpa using this)
    exact UInt8.toNat_inj.1 (by simpa using h2)
  · rintro rfl; rfl
theorem places_nil_iff (l : List UInt8) : places l = [] ↔ ∀ j, j < l.length → at_ l j = 0 := by
  unfold places
  rw [List.flatMap_eq_nil_iff]
  constructor
  · intro h j hj
    exact (bits_nil_iff j _).1 (h j (List.mem_range.2 hj))
  · intro h j hj
    exact (bits_nil_iff j _).2 (h j (List.mem_range.1 hj))
theorem drop_nil_iff (l : List UInt8) (m : Nat) : places (l.drop m) = [] ↔ ∀ j, m ≤ j → j < l.length → at_ l j = 0 := by
  rw [places_nil_iff]
  constructor
  · intro h j h1 h2
    have := h (j - m) (by rw [List.length_drop]; omega)
    unfold at_ at this ⊢
    rw [List.getElem?_drop, show m + (j - m) = j by omega] at this
    exact this
  · intro h j hj
    rw [List.length_drop] at hj
    have := h (m + j) (by omega) (by omega)
    unfold at_ at this ⊢
    rw [List.getElem?_drop]
    exact this

theorem Fresh.cut_ {base : Nat} {w : World} {A : Option Addr} {n cap : Nat} {l : List UInt8} (h : Fresh base w (.slice A n cap) l) {m : Nat} (hm : m ≤ n) : Fresh base w (.slice A m cap) (l.take m) := by
  obtain ⟨A', cap', e, hc, hA⟩ := h
  injection e with e1 e2 e3
  subst e1 e2 e3
  have hl : (l.take m).length = m := by rw [List.length_take]; omega
  refine ⟨A, cap, by rw [hl], by omega, fun hp => ?_⟩
  obtain ⟨b, off, e, h1, h2, hcell⟩ := hA (by omega)
  exact ⟨b, off, e, h1, h2, fun j hj => by rw [hcell j (by omega), List.getElem?_take_of_lt (by omega)]⟩

theorem alike_iff (ls : List (List UInt8)) : Alike ls ↔ ∀ j, j < ls.length → Cell (ls[j]?.getD []) ∧ (ls[j]?.getD []).length = (ls[0]?.getD []).length := by
  constructor
  · rintro (rfl | ⟨hc, ha⟩) j hj
    · simp at hj
    · refine ⟨?_, ha j hj⟩
      have e1 := ha j hj
      unfold Cell at hc ⊢
      omega
  · intro h
    rcases Nat.eq_zero_or_pos ls.length with h0 | h0
    · exact .inl (List.eq_nil_of_length_eq_zero h0)
    · exact .inr ⟨(h 0 h0).1, fun j hj => (h j hj).2⟩

/-- What the document's Glue hands back. -/
def Glued (w : World) (ls : List (List UInt8)) (many : Int) (e : Ending) (w' : World) : Prop :=
  (GlueOk ls many → ∃ v', e = .returned (.tuple #[v', .bool true]) ∧ Fresh w.heap.size w' v' (ls.flatten.take many.toNat)) ∧ (¬ GlueOk ls many → e = .returned (.tuple #[.slice none 0 0, .bool false])) ∧ Below w.heap.size w w'

set_option maxHeartbeats 600000 in
theorem rglue_any (v : Value) (ls : List (List UInt8)) (many : Int) (hw1 : -9223372036854775808 ≤ many) (hw : many ≤ 9223372036854775807) (hls : ls.length ≤ 10000) (w : World) (hM : Many w.heap.size w v ls) :
    Calls Try.prog 25 #[v, .int .i64 many] w (Glued w ls many) := by
  obtain ⟨A, cap, rfl, _, _⟩ := id hM
  obtain ⟨i0, hi, hz0, hz1, hz2⟩ := info_parts Try.infoByte
  have hbad : Hid (∀ k, k < ls.length → ¬ (Cell (ls[k]?.getD []) ∧ (ls[k]?.getD []).length = (ls[0]?.getD []).length) → ¬ GlueOk ls many) := fun k hk h hg => h ((alike_iff ls).1 hg.1 k hk)
  go_enter Try.func25, Try.ntmps25
  go_wp2_with fail
  go_loopw [6, 7] (fun v i wr => ∃ k : Nat, k ≤ ls.length ∧ i = .int .i64 k ∧ OwnB wr w.heap.size v (ls.take k).flatten ∧ (ls.take k).flatten.length ≤ 64 * k ∧ Hid (∀ j, j < k → Cell (ls[j]?.getD []) ∧ (ls[j]?.getD []).length = (ls[0]?.getD []).length) ∧ Below w.heap.size w wr) (fun _ i _ => ls.length - (intOf i).toNat)
  case atStart => exact ⟨0, Nat.zero_le _, rfl, own_nil _ _, by simp, (Lib.hid fun j hj => absurd hj (by omega)), Below.refl _ _⟩
  case round =>
    obtain ⟨k, hk, rfl, hown, htot, HA, hB⟩ := hrel
    by_cases hlt : k < ls.length
    · have h0 : 0 < ls.length := by omega
      obtain ⟨b1, off, rfl, hb1, hrow⟩ := many_at hM h0
      obtain ⟨A0, cp0, hcz, _⟩ := hrow 0 h0
      rw [Nat.add_zero] at hcz
      have hc0 := (hB.cell (p := ⟨b1, off, none⟩) hb1).trans hcz
      have hdec : decide ((k : Int) < (ls.length : Int)) = true := by simp; omega
      obtain ⟨A1, cp1, hck, hBy⟩ := hrow k hlt
      have hc1 := (hB.cell (p := ⟨b1, off + k, none⟩) hb1).trans hck
      have hBy1 := hBy.below hB
      have HR := Lib.hid (fun n => right_any _ _ (wr.drewN n) (hBy1.keep (W' := wr.drewN n) fun _ _ => rfl))
      have HB := Lib.hid (fun n => hBy1.keep (W' := wr.drewN n) fun _ _ => rfl)
      have HN := Lib.hid (hbad.out k hlt)
      have HF := Lib.hid (flat_next ls k hlt)
      have HL : Hid (Cell (ls[k]?.getD []) ∧ (ls[k]?.getD []).length = (ls[0]?.getD []).length → ∀ j, j < k + 1 → Cell (ls[j]?.getD []) ∧ (ls[j]?.getD []).length = (ls[0]?.getD []).length) := by
        intro h j hj
        rcases Nat.lt_or_ge j k with h1 | h1
        · exact HA.out j h1
        · obtain rfl : j = k := by omega
          exact h
      have HO := Lib.hid (fun n : Nat => (hown.grown_ (⟨rfl, rfl, rfl, Nat.le_refl _, fun _ _ _ => rfl⟩ : wr.grownBy (wr.drewN n) none)))
      clear hck hBy hBy1 hcz hrow hown
      generalize ls[k]?.getD [] = x at hc1 HR HB HN HL HF
      generalize (ls[0]?.getD []).length = n0 at hc0 HN HL
      generalize (ls.take k).flatten = p at *
      by_cases hcx : Cell x
      · rw [decide_eq_true hcx] at HR
        by_cases hxn : x.length = n0
        · have HL2 := Lib.hid (HL.out ⟨hcx, hxn⟩)
          have e1 : ((x.length : Int) != (x.length : Int)) = false := by simp
          have hx64 := hcx.2
          subst hxn
          clear HL HN hcx
          go_wp2
          go_quiet ((go_at_call 19; refine (HR.out _).mono ?_; rintro e w' ⟨rfl, rfl⟩; exact ⟨rfl, _, rfl⟩))
          go_wp2_with (at_builtin; refine wpList_app _ rfl _ _ rfl w.heap.size i0 Try.underlying25 hi hz0 hz1 hz2 _ p rfl (HO.out _) w.heap.size _ x rfl (HB.out _) (by omega) hB.size ?_; intro v' w2 hown2 hgrow2 _)
          go_roundw
          case rel => exact ⟨k + 1, by omega, by go_num, by rw [HF.out]; exact hown2, by rw [HF.out, List.length_append]; omega, HL2, below_grown (below_drewN hB _) hgrow2 hB.size (fun g e => (World.ownsRow.lt (HO.out 0) g e).1)⟩
          case measure => simp [intOf]; omega
        · have HN2 := Lib.hid (HN.out fun h => hxn h.2)
          have e1 : ((x.length : Int) != (n0 : Int)) = true := by rw [bne_iff_ne]; omega
          clear HL HN hcx hxn
          go_wp2
          go_quiet ((go_at_call 19; refine (HR.out _).mono ?_; rintro e w' ⟨rfl, rfl⟩; exact ⟨rfl, _, rfl⟩))
          go_wp2
          go_ret2
          exact ⟨fun h => absurd h HN2.out, fun _ => rfl, below_drewN hB _⟩
      · have HN2 := Lib.hid (HN.out fun h => hcx h.1)
        rw [decide_eq_false hcx] at HR
        clear HL HN hcx
        go_wp2
        go_quiet ((go_at_call 19; refine (HR.out _).mono ?_; rintro e w' ⟨rfl, rfl⟩; exact ⟨rfl, _, rfl⟩))
        go_wp2
        go_ret2
        exact ⟨fun h => absurd h HN2.out, fun _ => rfl, below_drewN hB _⟩
    · obtain rfl : k = ls.length := by omega
      have e1 : decide ((ls.length : Int) < (ls.length : Int)) = false := by simp
      have hal : Alike ls := (alike_iff ls).2 HA.out
      have hcell0 : 0 < ls.length → Cell (ls[0]?.getD []) := fun h => (HA.out 0 h).1
      have hT0 := flat_of ls hal
      rw [List.take_length] at hown htot
      have hGlue : Hid (GlueOk ls many ↔ (0 ≤ many ∧ 0 ≤ (ls.flatten.length : Int) - many ∧ (ls.flatten.length : Int) - many < max ((ls[0]?.getD []).length : Int) 1) ∧ places (ls.flatten.drop many.toNat) = []) := ⟨fun h => h.2, fun h => ⟨hal, h⟩⟩
      have hG : Hid (∀ e w', Glued w ls many e w' ↔ (GlueOk ls many → ∃ v', e = .returned (.tuple #[v', .bool true]) ∧ Fresh w.heap.size w' v' (ls.flatten.take many.toNat)) ∧ (¬ GlueOk ls many → e = .returned (.tuple #[.slice none 0 0, .bool false])) ∧ Below w.heap.size w w') := fun _ _ => Iff.rfl
      have hzero : 0 < ls.length ∨ (ls.length = 0 ∧ ls.flatten.length = 0) := by
        rcases Nat.eq_zero_or_pos ls.length with h | h
        · exact .inr ⟨h, by rw [hT0, h, Nat.zero_mul]⟩
        · exact .inl h
      have hc0 : 0 < ls.length → ∃ b1 off A0 cp0, A = some ⟨b1, off, none⟩ ∧ wr.cell? ⟨b1, off, none⟩ = some (.slice A0 (ls[0]?.getD []).length cp0) := by
        intro h0
        obtain ⟨b1, off, rfl, hb1, hrow⟩ := many_at hM h0
        obtain ⟨A0, cp0, hcz, _⟩ := hrow 0 h0
        rw [Nat.add_zero] at hcz
        exact ⟨b1, off, A0, cp0, rfl, (hB.cell (p := ⟨b1, off, none⟩) hb1).trans hcz⟩
      have hF := OwnB.fresh hown
      clear hT0 hbad hal HA hown hM
      generalize hFl : ls.flatten = F at *
      have HFL := Lib.hid hFl
      clear hFl
      generalize hn0 : (ls[0]?.getD []).length = n0 at *
      have hn0' : 0 < ls.length → 1 ≤ n0 := fun h => by rw [← hn0]; exact (hcell0 h).1
      clear hcell0 hn0
      obtain ⟨Aa, ca, rfl⟩ := hF.bytes.form (n := F.length) rfl
      obtain ⟨_, _, hE, hca, hFA⟩ := id hF
      injection hE with hE1 hE2 hE3
      subst hE1 hE3
      by_cases hm0 : many < 0
      · have d1 : decide (many < 0) = true := by simpa using hm0
        have hno : ¬ GlueOk ls many := fun h => by have := (hGlue.out.1 h).1.1; omega
        have HNo := Lib.hid hno
        clear hno hc0 hzero hFA
        go_wp2
        go_ret2
        exact ⟨fun h => absurd h HNo.out, fun _ => rfl, hB⟩
      · have d1 : decide (many < 0) = false := by simpa using hm0
        by_cases hmT : (F.length : Int) < many
        · have d2 : decide ((F.length : Int) < many) = true := by simpa using hmT
          have hno : ¬ GlueOk ls many := fun h => by have := (hGlue.out.1 h).1.2.1; omega
          have HNo := Lib.hid hno
          clear hno hc0 hzero hFA
          go_wp2
          go_ret2
          exact ⟨fun h => absurd h HNo.out, fun _ => rfl, hB⟩
        · have d2 : decide ((F.length : Int) < many) = false := by simpa using hmT
          obtain ⟨m, rfl⟩ := Int.eq_ofNat_of_zero_le (show 0 ≤ many by omega)
          have hmF : m ≤ F.length := by omega
          have hT : Hid (GlueOk ls (m : Int) ↔ ((F.length : Int) - (m : Int) < max (n0 : Int) 1) ∧ places (F.drop m) = []) := by
            unfold Hid
            rw [hGlue.out, Int.toNat_natCast]
            exact ⟨fun h => ⟨h.1.2.2, h.2⟩, fun h => ⟨⟨by omega, by omega, h.1⟩, h.2⟩⟩
          clear hm0 hmT hG
          rcases hzero with h0 | ⟨h0, hF0⟩
          · have d3 : decide ((0 : Int) < (ls.length : Int)) = true := by simp; omega
            obtain ⟨b1, off, A0, cp0, rfl, hcz⟩ := hc0 h0
            have hn1 := hn0' h0
            have hmx : max (n0 : Int) 1 = (n0 : Int) := by rw [Int.max_def]; split <;> omega
            rw [hmx] at hT
            by_cases hg : n0 ≤ F.length - m
            · have d4 : decide ((n0 : Int) ≤ (F.length : Int) - (m : Int)) = true := by simp; omega
              have hno : ¬ GlueOk ls (m : Int) := fun h => by have := (hT.out.1 h).1; omega
              have HNo := Lib.hid hno
              clear hno hFA hmx
              go_wp2
              go_ret2
              exact ⟨fun h => absurd h HNo.out, fun _ => rfl, hB⟩
            · have d4 : decide ((n0 : Int) ≤ (F.length : Int) - (m : Int)) = false := decide_eq_false (by omega)
              have hkey : GlueOk ls (m : Int) ↔ places (F.drop m) = [] := ⟨fun h => (hT.out.1 h).2, fun h => hT.out.2 ⟨by omega, h⟩⟩
              clear hmx
              have HKey := Lib.hid hkey
              clear hkey
              go_wp2
              go_loop [8] (fun i => ∃ i' : Nat, m ≤ i' ∧ i' ≤ F.length ∧ i = .int .i64 i' ∧ Hid (∀ j, m ≤ j → j < i' → at_ F j = 0)) (fun i => F.length - (intOf i).toNat)
              case atStart => exact ⟨m, Nat.le_refl _, hmF, rfl, Lib.hid fun j h1 h2 => absurd h2 (by omega)⟩
              case round =>
                obtain ⟨i, hmi, hi, rfl, HZ⟩ := hrel
                by_cases hlt : i < F.length
                · have hdec : decide ((i : Int) < (F.length : Int)) = true := by simp; omega
                  obtain ⟨b, off, rfl, _, _, hcell⟩ := hFA (by omega)
                  have hcx : wr.cell? ⟨b, off + i, none⟩ = some (.int .u8 ((at_ F i).toNat : Int)) := hcell i hlt
                  clear hcell hFA
                  by_cases hz : at_ F i = 0
                  · rw [hz] at hcx
                    have hcx' : wr.cell? ⟨b, off + i, none⟩ = some (.int .u8 0) := hcx
                    clear hcx
                    go_wp2
                    go_round
                    case rel =>
                      refine ⟨i + 1, by omega, by omega, by go_num, Lib.hid fun j h1 h2 => ?_⟩
                      by_cases hji : j = i
                      · rw [hji]; exact hz
                      · exact HZ.out j h1 (by omega)
                    case measure => simp [intOf]; omega
                  · have hne : (((at_ F i).toNat : Int) != 0) = true := by
                      rw [bne_iff_ne]
                      intro h
                      exact hz (UInt8.toNat_inj.1 (by simpa using h))
                    have hno : ¬ GlueOk ls (m : Int) := fun h => hz ((drop_nil_iff F m).1 (HKey.out.1 h) i hmi hlt)
                    have HNo := Lib.hid hno
                    clear hno hz
                    generalize ((at_ F i).toNat : Int) = z at *
                    go_wp2
                    go_ret2
                    exact ⟨fun h => absurd h HNo.out, fun _ => rfl, hB⟩
                · obtain rfl : i = F.length := by omega
                  have hdec : decide ((F.length : Int) < (F.length : Int)) = false := by simp
                  have hyes : GlueOk ls (m : Int) := HKey.out.2 ((drop_nil_iff F m).2 fun j h1 h2 => HZ.out j h1 h2)
                  have HY := Lib.hid hyes
                  have HF := Lib.hid (hF.cut_ hmF)
                  have hmc : (m : Int) ≤ (ca : Int) := by omega
                  clear hyes hFA hF
                  go_wp2
                  go_ret2
                  refine ⟨fun _ => ⟨_, rfl, ?_⟩, fun h => absurd HY.out h, hB⟩
                  rw [Int.toNat_natCast, HFL.out]
                  exact HF.out
          · have d3 : decide ((0 : Int) < (ls.length : Int)) = false := decide_eq_false (by omega)
            have hkey : GlueOk ls (m : Int) ↔ places (F.drop m) = [] := ⟨fun h => (hT.out.1 h).2, fun h => hT.out.2 ⟨by rw [Int.max_def]; split <;> omega, h⟩⟩
            have h0n : ¬ 0 < ls.length := by omega
            have HL0 := Lib.hid h0
            have HF0 := Lib.hid hF0
            clear hF0 h0
            have HKey := Lib.hid hkey
            clear hkey
            go_wp2
            go_loop [8] (fun i => ∃ i' : Nat, m ≤ i' ∧ i' ≤ F.length ∧ i = .int .i64 i' ∧ Hid (∀ j, m ≤ j → j < i' → at_ F j = 0)) (fun i => F.length - (intOf i).toNat)
            case atStart => exact ⟨m, Nat.le_refl _, hmF, rfl, Lib.hid fun j h1 h2 => absurd h2 (by omega)⟩
            case round =>
              obtain ⟨i, hmi, hi, rfl, HZ⟩ := hrel
              by_cases hlt : i < F.length
              · have hdec : decide ((i : Int) < (F.length : Int)) = true := by simp; omega
                obtain ⟨b, off, rfl, _, _, hcell⟩ := hFA (by omega)
                have hcx : wr.cell? ⟨b, off + i, none⟩ = some (.int .u8 ((at_ F i).toNat : Int)) := hcell i hlt
                clear hcell hFA
                by_cases hz : at_ F i = 0
                · rw [hz] at hcx
                  have hcx' : wr.cell? ⟨b, off + i, none⟩ = some (.int .u8 0) := hcx
                  clear hcx
                  go_wp2
                  go_round
                  case rel =>
                    refine ⟨i + 1, by omega, by omega, by go_num, Lib.hid fun j h1 h2 => ?_⟩
                    by_cases hji : j = i
                    · rw [hji]; exact hz
                    · exact HZ.out j h1 (by omega)
                  case measure => simp [intOf]; omega
                · have hne : (((at_ F i).toNat : Int) != 0) = true := by
                    rw [bne_iff_ne]
                    intro h
                    exact hz (UInt8.toNat_inj.1 (by simpa using h))
                  have hno : ¬ GlueOk ls (m : Int) := fun h => hz ((drop_nil_iff F m).1 (HKey.out.1 h) i hmi hlt)
                  have HNo := Lib.hid hno
                  clear hno hz
                  generalize ((at_ F i).toNat : Int) = z at *
                  go_wp2
                  go_ret2
                  exact ⟨fun h => absurd h HNo.out, fun _ => rfl, hB⟩
              · obtain rfl : i = F.length := by omega
                have hdec : decide ((F.length : Int) < (F.length : Int)) = false := by simp
                have hyes : GlueOk ls (m : Int) := HKey.out.2 ((drop_nil_iff F m).2 fun j h1 h2 => HZ.out j h1 h2)
                have HY := Lib.hid hyes
                have HF := Lib.hid (hF.cut_ hmF)
                have hmc : (m : Int) ≤ (ca : Int) := by omega
                clear hyes hFA hF
                go_wp2
                go_ret2
                refine ⟨fun _ => ⟨_, rfl, ?_⟩, fun h => absurd HY.out h, hB⟩
                rw [Int.toNat_natCast, HFL.out]
                exact HF.out
end Go.Proofs.Ytjkpmhannmbgfaa
