/- The document's Put, Xor. -/
import Derived.Test.YtjkpmhannmbgfaaCwK
import Derived.Deep.RegionLaw
namespace Go.Proofs.Ytjkpmhannmbgfaa
open Go.RowKit Go.Shelf

theorem OwnB.grown_ {w w' : World} {base : Nat} {v : Value} {l : List UInt8} (h : OwnB w base v l) (hg : w.grownBy w' none) : OwnB w' base v l :=
  World.ownsRow.kept h hg (by cases hv : v.ownBlock <;> simp)
theorem grown_drew {a w : World} {row : Option Nat} (h : a.grownBy w row) : a.grownBy w.drew row := ⟨h.os, h.tape, h.output, h.size, h.block⟩
theorem one_bytes (w : World) (c : UInt8) : Bytes (w.heap.size + 1) (w.alloc (.cells #[.int .u8 (c.toNat : Int)] 5)) (.slice (some ⟨w.heap.size, 0, none⟩) 1 1) [c] := by
  refine ⟨_, 1, rfl, Nat.le_refl _, fun _ => ⟨w.heap.size, 0, rfl, by omega, fun j hj => ?_⟩⟩
  obtain rfl : j = 0 := by simpa using hj
  exact (Blk.new w _ _).one

theorem xorB_take (a b : List UInt8) (k : Nat) (hk : k < a.length) : (xorB a b).take (k + 1) = (xorB a b).take k ++ [at_ a k ^^^ at_ b k] := by
  rw [List.take_succ_eq_append_getElem (by rw [xorB_len]; exact hk)]
  have := xorB_at a b k hk
  unfold at_ at this ⊢
  rw [List.getElem?_eq_getElem (by rw [xorB_len]; exact hk)] at this
  rw [← this]; rfl

set_option maxHeartbeats 600000 in
theorem rput_any (v1 v2 : Value) (a b : List UInt8) (w : World) (h1 : Bytes w.heap.size w v1 a) (h2 : Bytes w.heap.size w v2 b) (hl : a.length ≤ b.length) (hlen : a.length ≤ 1000000) :
    Calls Try.prog 33 #[v1, v2] w fun e w' => ∃ v', e = .returned v' ∧ OwnB w' w.heap.size v' (xorB a b) ∧ Below w.heap.size w w' := by
  obtain ⟨i0, hi, hz0, hz1, hz2⟩ := info_parts Try.infoByte
  obtain ⟨A1, cap1, rfl, _, hA1⟩ := h1
  obtain ⟨A2, cap2, rfl, _, hA2⟩ := h2
  go_enter Try.func33, Try.ntmps33
  go_wp2
  go_loopw [5, 6] (fun v i wr => ∃ k : Nat, k ≤ a.length ∧ i = .int .i64 k ∧ OwnB wr w.heap.size v ((xorB a b).take k) ∧ Below w.heap.size w wr) (fun _ i _ => a.length - (intOf i).toNat)
  case atStart => exact ⟨0, Nat.zero_le _, rfl, own_nil _ _, Below.refl _ _⟩
  case round =>
    obtain ⟨k, hk, rfl, hown, hB⟩ := hrel
    by_cases hlt : k < a.length
    · have hdec : decide ((k : Int) < (a.length : Int)) = true := by simp; omega
      have hk2 : (k : Int) < (b.length : Int) := by omega
      obtain ⟨b1, o1, rfl, hb1, hcell1⟩ := hA1 (by omega)
      obtain ⟨b2, o2, rfl, hb2, hcell2⟩ := hA2 (by omega)
      have hc1 : wr.cell? ⟨b1, o1 + k, none⟩ = some (.int .u8 ((at_ a k).toNat : Int)) := (hB.cell (p := ⟨b1, o1 + k, none⟩) hb1).trans (hcell1 k hlt)
      have hc2 : wr.cell? ⟨b2, o2 + k, none⟩ = some (.int .u8 ((at_ b k).toNat : Int)) := (hB.cell (p := ⟨b2, o2 + k, none⟩) hb2).trans (hcell2 k (by omega))
      have HN := Lib.hid (xorB_take a b k hlt)
      have hx := bits_u8 (at_ a k) (at_ b k)
      have hpl : ((xorB a b).take k).length ≤ 1000000 := by rw [List.length_take]; omega
      have hs := hB.size
      clear hcell1 hcell2 hA1 hA2
      generalize at_ a k = x at *
      generalize at_ b k = y at *
      generalize (xorB a b).take k = p at *
      have HO := Lib.hid (hown.grown_ ((grown_drew (World.grownBy.refl wr none)).trans (World.grownBy_alloc wr.drew (.cells #[.int .u8 ((x ^^^ y).toNat : Int)] 5) none)))
      have HY := Lib.hid (one_bytes wr.drew (x ^^^ y))
      have hbl1 : b1 < wr.heap.size := by omega
      have hbl2 : b2 < wr.heap.size := by omega
      go_wp2
      go_region_law (refine step_app _ rfl (.tmp 13) (.tmp 23) rfl w.heap.size i0 Try.underlying25 hi hz0 hz1 hz2 _ p rfl HO.out (wr.drew.heap.size + 1) _ [x ^^^ y] rfl HY.out (by simp; omega) (by simp; omega) ?_; intro v2 w2 hown2 hgrow2 _)
      all_goals go_wp2
      all_goals go_roundw
      all_goals (first
        | exact ⟨k + 1, by omega, by go_num, by rw [HN.out]; exact hown2, below_grown (hB.drew.alloc hB.size _) hgrow2 (by simp; omega) (fun g e => (World.ownsRow.lt hown g e).1)⟩
        | (simp [intOf]; omega))
    · obtain rfl : k = a.length := by omega
      have e1 : decide ((a.length : Int) < (a.length : Int)) = false := by simp
      rw [List.take_of_length_le (by rw [xorB_len]; exact Nat.le_refl _)] at hown
      go_wp2
      go_ret
      exact ⟨_, rfl, hown, hB⟩

theorem alike_not {ls : List (List UInt8)} {k : Nat} (hk : k < ls.length) (h : ¬ (Cell (ls[k]?.getD []) ∧ (ls[k]?.getD []).length = (ls[0]?.getD []).length)) : ¬ XorOk ls := by
  rintro ⟨h0, hc, ha⟩
  refine h ⟨?_, ha k hk⟩
  have e1 := ha k hk
  unfold Cell at hc ⊢
  omega
theorem alike_all {ls : List (List UInt8)} (h0 : 0 < ls.length) (h : ∀ j, j < ls.length → Cell (ls[j]?.getD []) ∧ (ls[j]?.getD []).length = (ls[0]?.getD []).length) : XorOk ls :=
  ⟨h0, (h 0 h0).1, fun j hj => (h j hj).2⟩

theorem Fresh.grown_ {base : Nat} {W W' : World} {v : Value} {l : List UInt8} (h : Fresh base W v l) (hg : W.grownBy W' none) : Fresh base W' v l :=
  h.keep hg.size fun p _ hp => World.cell?_of_block (hg.block p.block hp (by simp))

set_option maxHeartbeats 400000 in
theorem rxor_any (v : Value) (ls : List (List UInt8)) (w : World) (hM : Many w.heap.size w v ls) (hls : ls.length ≤ 100000) :
    Calls Try.prog 13 #[v] w fun e w' => (XorOk ls → ∃ v', e = .returned (.tuple #[v', .bool true]) ∧ Fresh w.heap.size w' v' (xorOf ls)) ∧ (¬ XorOk ls → e = .returned (.tuple #[.slice none 0 0, .bool false])) ∧ Below w.heap.size w w' := by
  obtain ⟨A, cap, rfl, _, _⟩ := id hM
  rcases Nat.eq_zero_or_pos ls.length with h0 | h0
  · have e0 : ((ls.length : Int) == 0) = true := by rw [h0]; rfl
    have hno : ¬ XorOk ls := fun h => by have := h.1; omega
    go_enter Try.func13, Try.ntmps13
    go_wp2
    go_ret2
    exact ⟨fun h => absurd h hno, fun _ => rfl, Below.refl _ _⟩
  · have e0 : ((ls.length : Int) == 0) = false := by rw [beq_eq_false_iff_ne]; omega
    have hnot := Lib.hid (fun k => @alike_not ls k)
    have hall := Lib.hid (@alike_all ls h0)
    go_enter Try.func13, Try.ntmps13
    go_wp2
    go_loopw [4] (fun i wr => ∃ k : Nat, k ≤ ls.length ∧ i = .int .i64 k ∧ Hid (∀ j, j < k → Cell (ls[j]?.getD []) ∧ (ls[j]?.getD []).length = (ls[0]?.getD []).length) ∧ Below w.heap.size w wr) (fun i _ => ls.length - (intOf i).toNat)
    case atStart => exact ⟨0, Nat.zero_le _, rfl, (Lib.hid fun j hj => absurd hj (by omega)), Below.refl _ _⟩
    case round =>
      obtain ⟨k, hk, rfl, HA, hB⟩ := hrel
      obtain ⟨b1, off, rfl, hb1, hrow⟩ := many_at hM h0
      obtain ⟨A0, cp0, hcz, _⟩ := hrow 0 h0
      rw [Nat.add_zero] at hcz
      have hc0 := (hB.cell (p := ⟨b1, off, none⟩) hb1).trans hcz
      by_cases hlt : k < ls.length
      · have hdec : decide ((k : Int) < (ls.length : Int)) = true := by simp; omega
        obtain ⟨A1, cp1, hck, hBy⟩ := hrow k hlt
        have hc1 := (hB.cell (p := ⟨b1, off + k, none⟩) hb1).trans hck
        have hBy1 := hBy.below hB
        have HR := Lib.hid (fun n => right_any _ _ (wr.drewN n) (hBy1.keep (W' := wr.drewN n) fun _ _ => rfl))
        have HN := Lib.hid (hnot.out k hlt)
        have HL : Hid (Cell (ls[k]?.getD []) ∧ (ls[k]?.getD []).length = (ls[0]?.getD []).length → ∀ j, j < k + 1 → Cell (ls[j]?.getD []) ∧ (ls[j]?.getD []).length = (ls[0]?.getD []).length) := by
          intro h j hj
          rcases Nat.lt_or_ge j k with h1 | h1
          · exact HA.out j h1
          · obtain rfl : j = k := by omega
            exact h
        clear hck hBy hBy1 hcz hrow
        generalize ls[k]?.getD [] = x at hc1 HR HN HL
        generalize (ls[0]?.getD []).length = n0 at hc0 HN HL
        by_cases hcx : Cell x
        · rw [decide_eq_true hcx] at HR
          by_cases hxn : x.length = n0
          · have HL2 := Lib.hid (HL.out ⟨hcx, hxn⟩)
            have e1 : ((x.length : Int) != (x.length : Int)) = false := by simp
            subst hxn
            clear HL HN hcx
            go_wp2
            go_quiet ((go_at_call 19; refine (HR.out _).mono ?_; rintro e w' ⟨rfl, rfl⟩; exact ⟨rfl, _, rfl⟩))
            go_wp2
            go_roundw
            case rel => exact ⟨k + 1, by omega, by go_num, HL2, below_drewN hB _⟩
            case measure => simp [intOf]; omega
          · have HN2 := Lib.hid (HN.out fun h => hxn h.2)
            have e1 : ((x.length : Int) != (n0 : Int)) = true := by rw [bne_iff_ne]; omega
            clear HL HN hcx hxn
            go_wp2
            go_quiet ((go_at_call 19; refine (HR.out _).mono ?_; rintro e w' ⟨rfl, rfl⟩; exact ⟨rfl, _, rfl⟩))
            go_wp2
            go_ret2
            exact ⟨fun h => absurd h HN2.out, fun _ => rfl, below_drewN hB _⟩
        · have HN2 := Lib.hid (HN.out fun h => hcx h.1)
          rw [decide_eq_false hcx] at HR
          clear HL HN hcx
          go_wp2
          go_quiet ((go_at_call 19; refine (HR.out _).mono ?_; rintro e w' ⟨rfl, rfl⟩; exact ⟨rfl, _, rfl⟩))
          go_wp2
          go_ret2
          exact ⟨fun h => absurd h HN2.out, fun _ => rfl, below_drewN hB _⟩
      · obtain rfl : k = ls.length := by omega
        have e1 : decide ((ls.length : Int) < (ls.length : Int)) = false := by simp
        have hok := hall.out HA.out
        have HOK := Lib.hid hok
        have hn64 := hok.2.1.2
        have hal := hok.2.2
        have HX : Hid (xorOf ls = xors (List.replicate (ls[0]?.getD []).length 0) ls) := rfl
        clear hrow hcz hnot hall HA hok
        generalize (ls[0]?.getD []).length = n0 at *
        obtain ⟨i0, hi, hz0, hz1, hz2⟩ := info_parts Try.infoByte
        have hmk := fun W : World => run_make (P := Try.prog) W 25 5 i0 (.int .u8 0) Try.underlying25 hi hz0 .i64 .i64 (n0 : Int) (n0 : Int) (by omega) (by omega) (by rw [hz2]; omega) (by omega)
        simp only [hz1, Nat.mul_one, Int.toNat_natCast] at hmk
        obtain ⟨wz, hwz⟩ : ∃ x, x = wr := ⟨_, rfl⟩
        subst hwz
        go_wp2
        go_loopw [5, 6] (fun v i wr => ∃ k : Nat, k ≤ ls.length ∧ i = .int .i64 k ∧ Fresh w.heap.size wr v (xors (List.replicate n0 0) (ls.take k)) ∧ Below w.heap.size w wr) (fun _ i _ => ls.length - (intOf i).toNat)
        case atStart => exact ⟨0, Nat.zero_le _, rfl, (Row.made wz n0).fresh hB.size (by simp), hB.alloc hB.size _⟩
        case round =>
          obtain ⟨k, hk, rfl, hF, hB2⟩ := hrel
          by_cases hlt : k < ls.length
          · have hdec : decide ((k : Int) < (ls.length : Int)) = true := by simp; omega
            obtain ⟨b1', off', hE, hb1', hrow⟩ := many_at hM h0
            injection hE with hE
            injection hE with hE1 hE2
            subst hE1 hE2
            obtain ⟨A1, cp1, hck, hBy⟩ := hrow k hlt
            have hc1 := (hB2.cell (p := ⟨b1, off + k, none⟩) hb1).trans hck
            have hxl : (xors (List.replicate n0 0) (ls.take k)).length = n0 := by rw [xors_len, List.length_replicate]
            have hlk := hal k hlt
            obtain ⟨Av, capv, rfl⟩ := hF.bytes.form hxl
            have HP := Lib.hid (rput_any _ _ (xors (List.replicate n0 0) (ls.take k)) (ls[k]?.getD []) wr hF.bytes ((hBy.below hB2).more hB2.size) (by omega) (by omega))
            have HN := Lib.hid (xors_next (List.replicate n0 0) ls k hlt)
            rw [hlk] at hc1 HP
            clear hck hBy hrow hlk hxl
            generalize xors (List.replicate n0 0) (ls.take k) = p at HN HP
            generalize ls[k]?.getD [] = x at *
            go_wp2_with (go_at_call 33; refine HP.out.mono ?_; rintro e w2 ⟨v2, rfl, hown2, hB3⟩)
            go_roundw
            case rel => exact ⟨k + 1, by omega, by go_num, by rw [HN.out]; exact hown2.fresh.less hB2.size, Below.next hB2 hB3⟩
            case measure => simp [intOf]; omega
          · obtain rfl : k = ls.length := by omega
            have e1 : decide ((ls.length : Int) < (ls.length : Int)) = false := by simp
            rw [List.take_length, ← HX.out] at hF
            go_wp2
            go_ret2
            exact ⟨fun _ => ⟨_, rfl, hF⟩, fun h => absurd HOK.out h, hB2⟩
end Go.Proofs.Ytjkpmhannmbgfaa
