/- The law ModSums answers true for every input and leaves its arguments as they were. -/
import Derived.Test.YtoljflkfhdaipaaDoorMLawKit
import Derived.Test.YtoljflkfhdaipaaDoorCards
import Derived.Test.YtoljflkfhdaipaaDoorTie
import Derived.SevenTiedAt
namespace Go.Proofs.YtoljflkfhdaipaaDoor.modSums
open Go.ChangeShapes Go.WideShapes Go.ChangeAt Go.RowKit Go.Shelf
set_option linter.unusedVariables false

theorem prm_lt {k : Nat} (hk : k < 6) : prm[k]? = some (prm[k]?.getD 0) := by
  rw [List.getElem?_eq_getElem (show k < prm.length from hk)]; rfl

set_option maxRecDepth 100000 in
set_option maxHeartbeats 4000000 in
theorem walk (p n a b : Int) (w : World) (hL : Laid w) (_w0 : -9223372036854775808 ≤ p ∧ p ≤ 9223372036854775807) (wn : -9223372036854775808 ≤ n ∧ n ≤ 9223372036854775807) (_w1 : -9223372036854775808 ≤ a ∧ a ≤ 9223372036854775807) (_w2 : -9223372036854775808 ≤ b ∧ b ≤ 9223372036854775807) :
    Calls Tryd.prog 3 #[.int .i64 p, .int .i64 n, .int .i64 a, .int .i64 b] w fun e w' => e = .returned (.bool true) ∧ Below w.heap.size w w' := by
  have HP := Lib.hid (primes_any w hL)
  go_enter Tryd.func3, Tryd.ntmps3
  go_wp2_with fail
  refine HP.out.mono ?_
  rintro e w1 ⟨g, rfl, hg, hB1⟩
  go_wp2_with fail
  refine (rprimes_any _).mono ?_
  rintro e w2 ⟨rfl, hw2⟩
  have hB2 : Below w.heap.size w w2 := by rw [← hw2]; exact hB1.alloc hB1.size _
  have cA := Lib.hid (prm_at g w2 45 (by rw [← hw2]; exact hg.alloc _))
  have cB := Lib.hid (prm_at w1.heap.size w2 3 (by rw [← hw2]; exact Blk.new _ _ _))
  have hL2 := hL.next hB2
  clear hw2 hB1 hg HP
  go_wp2
  go_loopw [11] (fun i wr => ∃ k : Nat, k ≤ 6 ∧ i = .int .i64 k ∧ ∃ q, wr = w2.drewN q) (fun i _ => 6 - (intOf i).toNat)
  case atStart => exact ⟨0, by omega, rfl, 0, rfl⟩
  case round =>
    obtain ⟨k, hk, rfl, q, rfl⟩ := hrel
    by_cases hlt : k < 6
    · have hdec : decide ((k : Int) < 6) = true := by simp; omega
      have c1 : w2.cell? ⟨g, k, none⟩ = some (.int .i64 (prm[k]?.getD 0)) := cA.out k hlt
      have c2 : w2.cell? ⟨w1.heap.size, k, none⟩ = some (.int .i64 (prm[k]?.getD 0)) := cB.out k hlt
      have i1 : (0 : Int) ≤ (k : Int) := by omega
      have i2 : (k : Int) < 6 := by omega
      generalize prm[k]?.getD 0 = x at *
      have hne : ((x : Int) != x) = false := by simp
      go_wp2
      go_quiet (fail)
      go_wp2
      go_roundw
      case rel => exact ⟨k + 1, by omega, by go_num, _, rfl⟩
      case measure => simp [intOf]; omega
    · obtain rfl : k = 6 := by omega
      have hdec : decide (((6 : Nat) : Int) < 6) = false := by simp
      obtain ⟨V, hV⟩ : ∃ V, w2.drewN q = V := ⟨_, rfl⟩
      have hBV : Below w.heap.size w V := by rw [← hV]; exact below_drewN hB2 _
      have hLV := hL.next hBV
      rw [hV]
      clear hV hL2 hB2 cA cB hk hlt
      --CASES
      have t1 : ∀ x, toldB 0 2 false x = true := fun x => by simp [toldB]
      have t2 : ∀ x, toldB x 0 true x = true := fun x => by simp [toldB]
      have HAa := Lib.hid (fun W => at_any p a W)
      have HAb := Lib.hid (fun W => at_any p b W)
      have HR := Lib.hid (fun W => right_any p W)
      have HC := Lib.hid (fun W h => check_any p W h)
      by_cases hp : p ∈ prm
      · have hb := prm_bounds hp
        rw [decide_eq_true hp] at HR
        rw [if_pos hp] at HC
        have HO := Lib.hid (fun W h => (modOf_any p n W h wn.1 wn.2).mono fun _ _ h => tells_yes hp h)
        have RO := Lib.hid (fun W => rof_any p n W (by omega) (by omega) wn.1 wn.2)
        by_cases ha : 0 ≤ a ∧ a < p
        · rw [decide_eq_true ha] at HAa
          by_cases hbb : 0 ≤ b ∧ b < p
          · rw [decide_eq_true hbb] at HAb
            have hF : Fine p [a, b] := fine_two.2 ⟨hp, ha, hbb⟩
            have MA := Lib.hid (fun W h => (add_any p a b W h).mono fun _ _ h => tells_yes hF h)
            have MS := Lib.hid (fun W h => (sub_any p a b W h).mono fun _ _ h => tells_yes hF h)
            have MM := Lib.hid (fun W h => (mul_any p a b W h).mono fun _ _ h => tells_yes hF h)
            have RS := Lib.hid (fun W => rof_any p (a - b) W (by omega) (by omega) (by omega) (by omega))
            clear hF hp
            obtain ⟨a0, a1⟩ := ha
            obtain ⟨b0, b1⟩ := hbb
            have m1 := Int.mul_nonneg a0 b0
            have m2 : a * b ≤ 1000 := by have := Int.mul_le_mul (show a ≤ 17 by omega) (show b ≤ 17 by omega) b0 (by omega); omega
            generalize n % p = nn at *
            obtain ⟨z, HZ⟩ : ∃ z, Hid (a * b = z) := ⟨_, Lib.hid rfl⟩
            have z0 : 0 ≤ z := by rw [← HZ.out]; exact m1
            have z1 : z ≤ 1000 := by rw [← HZ.out]; exact m2
            rw [HZ.out] at MM
            clear m1 m2
            have g1 := Int.emod_nonneg (a + b) (show p ≠ 0 by omega)
            have g2 := Int.emod_lt_of_pos (a + b) (show 0 < p by omega)
            have g3 := Int.emod_nonneg z (show p ≠ 0 by omega)
            have g4 := Int.emod_lt_of_pos z (show 0 < p by omega)
            obtain ⟨s1, H1⟩ : ∃ s, Hid ((a + b) % p = s) := ⟨_, Lib.hid rfl⟩
            obtain ⟨s3, H3⟩ : ∃ s, Hid (z % p = s) := ⟨_, Lib.hid rfl⟩
            rw [H1.out] at MA g1 g2
            rw [H3.out] at MM g3 g4
            generalize (a - b) % p = s2 at *
            go_wp2_with (first
              | (go_at_call 10; refine (HR.out _).mono ?_; rintro e vx ⟨rfl, hX⟩; have hLV := hLV.next hX; have hBV := below_in hBV hX)
              | (go_at_call 11; refine (HO.out _ hLV).mono ?_; rintro e vx ⟨rfl, hX⟩; have hLV := hLV.next hX; have hBV := below_in hBV hX)
              | (go_at_call 13; refine (HC.out _ hLV).mono ?_; rintro e vx ⟨rfl, hX⟩; have hLV := hLV.next hX; have hBV := below_in hBV hX)
              | (go_at_call 16; refine (MA.out _ hLV).mono ?_; rintro e vx ⟨rfl, hX⟩; have hLV := hLV.next hX; have hBV := below_in hBV hX)
              | (go_at_call 17; refine (MS.out _ hLV).mono ?_; rintro e vx ⟨rfl, hX⟩; have hLV := hLV.next hX; have hBV := below_in hBV hX)
              | (go_at_call 18; refine (MM.out _ hLV).mono ?_; rintro e vx ⟨rfl, hX⟩; have hLV := hLV.next hX; have hBV := below_in hBV hX)
              | (go_at_call 14; refine (RO.out _).mono ?_; rintro e vx ⟨rfl, rfl⟩)
              | (go_at_call_of 15 (Value.int IntKind.i64 a); refine (HAa.out _).mono ?_; rintro e vx ⟨rfl, rfl⟩)
              | (go_at_call_of 15 (Value.int IntKind.i64 b); refine (HAb.out _).mono ?_; rintro e vx ⟨rfl, rfl⟩)
              | (go_at_call 12; refine (num_any _ _).mono ?_; rintro e vx ⟨rfl, rfl⟩)
              | (go_at_call 19; refine (told_any _ _ _ _ _).mono ?_; rintro e vx ⟨rfl, rfl⟩)
              | (go_at_call 20; refine (works_in _ hLV hBV).mono ?_; rintro e vx ⟨rfl, hX⟩))
            have k1 : IntKind.i64.wrap (a + b) = a + b := IntWalk.i64_in _ (by omega)
            have k2 : IntKind.i64.wrap (a - b) = a - b := IntWalk.i64_in _ (by omega)
            have k3 : IntKind.i64.wrap (a * b) = z := by rw [HZ.out]; exact IntWalk.i64_in _ (by omega)
            have k4 : (a + b).tmod p = s1 := by rw [Int.tmod_eq_emod_of_nonneg (by omega)]; exact H1.out
            have k5 : z.tmod p = s3 := by rw [Int.tmod_eq_emod_of_nonneg z0]; exact H3.out
            have k6 : IntKind.i64.wrap s1 = s1 := IntWalk.i64_in _ (by omega)
            have k7 : IntKind.i64.wrap s3 = s3 := IntWalk.i64_in _ (by omega)
            have k8 : (p == 0) = false := by simp; omega
            go_quiet ((go_at_call 14; refine (RS.out _).mono ?_; rintro e w' ⟨rfl, rfl⟩; exact ⟨rfl, _, rfl⟩))
            obtain ⟨U, hU⟩ : ∃ U, vx.drewN nq = U := ⟨_, rfl⟩
            have hBU : Below w.heap.size w U := by rw [← hU]; exact below_drewN hBV _
            rw [hU]
            clear hU k1 k2 k3 k4 k5 k6 k7 k8
            have hLV := hL.next hBU
            have hBV := hBU
            go_wp2_with (first
              | (go_at_call 10; refine (HR.out _).mono ?_; rintro e vx ⟨rfl, hX⟩; have hLV := hLV.next hX; have hBV := below_in hBV hX)
              | (go_at_call 11; refine (HO.out _ hLV).mono ?_; rintro e vx ⟨rfl, hX⟩; have hLV := hLV.next hX; have hBV := below_in hBV hX)
              | (go_at_call 13; refine (HC.out _ hLV).mono ?_; rintro e vx ⟨rfl, hX⟩; have hLV := hLV.next hX; have hBV := below_in hBV hX)
              | (go_at_call 16; refine (MA.out _ hLV).mono ?_; rintro e vx ⟨rfl, hX⟩; have hLV := hLV.next hX; have hBV := below_in hBV hX)
              | (go_at_call 17; refine (MS.out _ hLV).mono ?_; rintro e vx ⟨rfl, hX⟩; have hLV := hLV.next hX; have hBV := below_in hBV hX)
              | (go_at_call 18; refine (MM.out _ hLV).mono ?_; rintro e vx ⟨rfl, hX⟩; have hLV := hLV.next hX; have hBV := below_in hBV hX)
              | (go_at_call 14; refine (RO.out _).mono ?_; rintro e vx ⟨rfl, rfl⟩)
              | (go_at_call_of 15 (Value.int IntKind.i64 a); refine (HAa.out _).mono ?_; rintro e vx ⟨rfl, rfl⟩)
              | (go_at_call_of 15 (Value.int IntKind.i64 b); refine (HAb.out _).mono ?_; rintro e vx ⟨rfl, rfl⟩)
              | (go_at_call 12; refine (num_any _ _).mono ?_; rintro e vx ⟨rfl, rfl⟩)
              | (go_at_call 19; refine (told_any _ _ _ _ _).mono ?_; rintro e vx ⟨rfl, rfl⟩)
              | (go_at_call 20; refine (works_in _ hLV hBV).mono ?_; rintro e vx ⟨rfl, hX⟩))
            go_ret
            exact ⟨rfl, hX⟩
          · rw [decide_eq_false hbb] at HAb
            have hF : ¬ Fine p [a, b] := fun h => hbb (fine_two.1 h).2.2
            have MA := Lib.hid (fun W h => (add_any p a b W h).mono fun _ _ h => tells_no hF h)
            have MS := Lib.hid (fun W h => (sub_any p a b W h).mono fun _ _ h => tells_no hF h)
            have MM := Lib.hid (fun W h => (mul_any p a b W h).mono fun _ _ h => tells_no hF h)
            clear hF hp hbb
            generalize n % p = nn at *
            go_wp2_with (first
              | (go_at_call 10; refine (HR.out _).mono ?_; rintro e vx ⟨rfl, hX⟩; have hLV := hLV.next hX; have hBV := below_in hBV hX)
              | (go_at_call 11; refine (HO.out _ hLV).mono ?_; rintro e vx ⟨rfl, hX⟩; have hLV := hLV.next hX; have hBV := below_in hBV hX)
              | (go_at_call 13; refine (HC.out _ hLV).mono ?_; rintro e vx ⟨rfl, hX⟩; have hLV := hLV.next hX; have hBV := below_in hBV hX)
              | (go_at_call 16; refine (MA.out _ hLV).mono ?_; rintro e vx ⟨rfl, hX⟩; have hLV := hLV.next hX; have hBV := below_in hBV hX)
              | (go_at_call 17; refine (MS.out _ hLV).mono ?_; rintro e vx ⟨rfl, hX⟩; have hLV := hLV.next hX; have hBV := below_in hBV hX)
              | (go_at_call 18; refine (MM.out _ hLV).mono ?_; rintro e vx ⟨rfl, hX⟩; have hLV := hLV.next hX; have hBV := below_in hBV hX)
              | (go_at_call 14; refine (RO.out _).mono ?_; rintro e vx ⟨rfl, rfl⟩)
              | (go_at_call_of 15 (Value.int IntKind.i64 a); refine (HAa.out _).mono ?_; rintro e vx ⟨rfl, rfl⟩)
              | (go_at_call_of 15 (Value.int IntKind.i64 b); refine (HAb.out _).mono ?_; rintro e vx ⟨rfl, rfl⟩)
              | (go_at_call 12; refine (num_any _ _).mono ?_; rintro e vx ⟨rfl, rfl⟩)
              | (go_at_call 19; refine (told_any _ _ _ _ _).mono ?_; rintro e vx ⟨rfl, rfl⟩)
              | (go_at_call 20; refine (works_in _ hLV hBV).mono ?_; rintro e vx ⟨rfl, hX⟩))
            go_ret
            exact ⟨rfl, hX⟩
        · rw [decide_eq_false ha] at HAa
          have hF : ¬ Fine p [a, b] := fun h => ha (fine_two.1 h).2.1
          have MA := Lib.hid (fun W h => (add_any p a b W h).mono fun _ _ h => tells_no hF h)
          have MS := Lib.hid (fun W h => (sub_any p a b W h).mono fun _ _ h => tells_no hF h)
          have MM := Lib.hid (fun W h => (mul_any p a b W h).mono fun _ _ h => tells_no hF h)
          clear hF hp ha
          generalize n % p = nn at *
          go_wp2_with (first
            | (go_at_call 10; refine (HR.out _).mono ?_; rintro e vx ⟨rfl, hX⟩; have hLV := hLV.next hX; have hBV := below_in hBV hX)
            | (go_at_call 11; refine (HO.out _ hLV).mono ?_; rintro e vx ⟨rfl, hX⟩; have hLV := hLV.next hX; have hBV := below_in hBV hX)
            | (go_at_call 13; refine (HC.out _ hLV).mono ?_; rintro e vx ⟨rfl, hX⟩; have hLV := hLV.next hX; have hBV := below_in hBV hX)
            | (go_at_call 16; refine (MA.out _ hLV).mono ?_; rintro e vx ⟨rfl, hX⟩; have hLV := hLV.next hX; have hBV := below_in hBV hX)
            | (go_at_call 17; refine (MS.out _ hLV).mono ?_; rintro e vx ⟨rfl, hX⟩; have hLV := hLV.next hX; have hBV := below_in hBV hX)
            | (go_at_call 18; refine (MM.out _ hLV).mono ?_; rintro e vx ⟨rfl, hX⟩; have hLV := hLV.next hX; have hBV := below_in hBV hX)
            | (go_at_call 14; refine (RO.out _).mono ?_; rintro e vx ⟨rfl, rfl⟩)
            | (go_at_call_of 15 (Value.int IntKind.i64 a); refine (HAa.out _).mono ?_; rintro e vx ⟨rfl, rfl⟩)
            | (go_at_call_of 15 (Value.int IntKind.i64 b); refine (HAb.out _).mono ?_; rintro e vx ⟨rfl, rfl⟩)
            | (go_at_call 12; refine (num_any _ _).mono ?_; rintro e vx ⟨rfl, rfl⟩)
            | (go_at_call 19; refine (told_any _ _ _ _ _).mono ?_; rintro e vx ⟨rfl, rfl⟩)
            | (go_at_call 20; refine (works_in _ hLV hBV).mono ?_; rintro e vx ⟨rfl, hX⟩))
          go_ret
          exact ⟨rfl, hX⟩
      · rw [decide_eq_false hp] at HR
        rw [if_neg hp] at HC
        have HO := Lib.hid (fun W h => (modOf_any p n W h wn.1 wn.2).mono fun _ _ h => tells_no hp h)
        have hF : ¬ Fine p [a, b] := fun h => hp (fine_two.1 h).1
        have MA := Lib.hid (fun W h => (add_any p a b W h).mono fun _ _ h => tells_no hF h)
        have MS := Lib.hid (fun W h => (sub_any p a b W h).mono fun _ _ h => tells_no hF h)
        have MM := Lib.hid (fun W h => (mul_any p a b W h).mono fun _ _ h => tells_no hF h)
        clear hF hp
        go_wp2_with (first
          | (go_at_call 10; refine (HR.out _).mono ?_; rintro e vx ⟨rfl, hX⟩; have hLV := hLV.next hX; have hBV := below_in hBV hX)
          | (go_at_call 11; refine (HO.out _ hLV).mono ?_; rintro e vx ⟨rfl, hX⟩; have hLV := hLV.next hX; have hBV := below_in hBV hX)
          | (go_at_call 13; refine (HC.out _ hLV).mono ?_; rintro e vx ⟨rfl, hX⟩; have hLV := hLV.next hX; have hBV := below_in hBV hX)
          | (go_at_call 16; refine (MA.out _ hLV).mono ?_; rintro e vx ⟨rfl, hX⟩; have hLV := hLV.next hX; have hBV := below_in hBV hX)
          | (go_at_call 17; refine (MS.out _ hLV).mono ?_; rintro e vx ⟨rfl, hX⟩; have hLV := hLV.next hX; have hBV := below_in hBV hX)
          | (go_at_call 18; refine (MM.out _ hLV).mono ?_; rintro e vx ⟨rfl, hX⟩; have hLV := hLV.next hX; have hBV := below_in hBV hX)
            | (go_at_call_of 15 (Value.int IntKind.i64 a); refine (HAa.out _).mono ?_; rintro e vx ⟨rfl, rfl⟩)
          | (go_at_call_of 15 (Value.int IntKind.i64 b); refine (HAb.out _).mono ?_; rintro e vx ⟨rfl, rfl⟩)
          | (go_at_call 12; refine (num_any _ _).mono ?_; rintro e vx ⟨rfl, rfl⟩)
          | (go_at_call 19; refine (told_any _ _ _ _ _).mono ?_; rintro e vx ⟨rfl, rfl⟩)
          | (go_at_call 20; refine (works_in _ hLV hBV).mono ?_; rintro e vx ⟨rfl, hX⟩))
        go_ret
        exact ⟨rfl, hX⟩

set_option maxRecDepth 100000 in
theorem lifted (os : Os) (started : os.Started) (H : Type) (enc : TypeId × Value → H) :
    ReturnsInHanded {} Tryd.checked os 3 .any (fun w args => (Rows.modSumsSpec.pre enc Tryd.prog Tryd.f3 [] false w args ∧ laidMetH Tryd.prog laidL w) ∧ sizedMet enc Tryd.prog Tryd.f3 (OpenSpec.ofChange Rows.modSumsSpec) false w args)
      (Rows.modSumsSpec.post enc Tryd.prog Tryd.f3 false true false false) := by
  refine returnsInHanded_of_change_and (C := Tryd.checked) (X := fun w _ => laidMetH Tryd.prog laidL w) (fun _ _ _ hh h => h.of_heap hh) own started (by kernel_rfl) Tryd.func3
    (ChangeSpec.witness_shaped (enc := enc) (C := Tryd.checked) (os := os) (X := fun w _ => laidMetH Tryd.prog laidL w) false (World.doorLaid Tryd.prog 200 os) #[.int .i64 0, .int .i64 0, .int .i64 0, .int .i64 0] 8 rfl (World.shaped_of_RefB (by kernel_rfl) (by kernel_rfl)) (by kernel_rfl) (by kernel_rfl) (by kernel_rfl) (door_met os _)) ?_
  intro W base args ds gs before hval0 hW _ _ hL0 _
  have hL := laid_of hL0
  have hval : ∀ (j : Nat) t v, Tryd.f3.params[j]? = some t → args[j]? = some v → Value.okWide Tryd.prog W .any base t v := hval0
  have hW' := hW
  obtain ⟨p, q, hA0, hV, rfl, hfz, hnd⟩ := hW
  have hA : DataW.TrodAll enc Tryd.prog W 0 (fun _ => true) true Tryd.f3.params.toList args.toList ds p := hA0
  rw [Tryd.params3] at hA hval
  obtain ⟨v0, vs0, d0, ds0, p0, q0, hargs, rfl, rfl, h0, r0⟩ := trodAll_cons hA
  obtain ⟨v1, vs1, d1, ds1, p1, q1, rfl, rfl, rfl, h1, r1⟩ := trodAll_cons r0
  obtain ⟨v2, vs2, d2, ds2, p2, q2, rfl, rfl, rfl, h2, r2⟩ := trodAll_cons r1
  obtain ⟨v3, vs3, d3, ds3, p3, q3, rfl, rfl, rfl, h3, r3⟩ := trodAll_cons r2
  obtain ⟨rfl, rfl, rfl⟩ := trodAll_nil r3
  obtain rfl : args = #[v0, v1, v2, v3] := by cases args; simp_all
  obtain ⟨rfl, rfl⟩ := trodVars_none hV
  obtain ⟨a0, rfl, rfl, rfl, w0⟩ := open_int Tryd.underlying3 (hval 0 3 v0 rfl rfl) h0
  obtain ⟨a1, rfl, rfl, rfl, w1⟩ := open_int Tryd.underlying3 (hval 1 3 v1 rfl rfl) h1
  obtain ⟨a2, rfl, rfl, rfl, w2⟩ := open_int Tryd.underlying3 (hval 2 3 v2 rfl rfl) h2
  obtain ⟨a3, rfl, rfl, rfl, w3⟩ := open_int Tryd.underlying3 (hval 3 3 v3 rfl rfl) h3
  clear hA0 hval0
  simp only [List.append_nil] at hW'
  refine (walk a0 a1 a2 a3 W hL (wf_i64 w0) (wf_i64 w1) (wf_i64 w2) (wf_i64 w3)).mono fun e W' ⟨he, bel⟩ => ?_
  subst he
  exact ⟨_, rfl, _, _, _, [], _, [], hW', trodAll_mk1 (shut_bool Tryd.underlying4 _), (trodAll_cons_mk (shut_int Tryd.underlying3 w0) (trodAll_cons_mk (shut_int Tryd.underlying3 w1) (trodAll_cons_mk (shut_int Tryd.underlying3 w2) (trodAll_cons_mk (shut_int Tryd.underlying3 w3) trodAll_mk0)))), rfl, bel.frame _, fun h => by cases h⟩

theorem over : Rows.modSumsRow.holds Tryd.pinned (OpenSpec.ofChange Rows.modSumsSpec) :=
  OpenClaim.holds_of_wide 3 Tryd.f3 rfl rfl rfl rfl rfl rfl rfl ⟨rfl, rfl, rfl, rfl, rfl⟩ rfl rfl rfl rfl rfl (by kernel_rfl) Tryd.func3 (by kernel_rfl)
    (of_decide_eq_true (by kernel_rfl)) (by unfold Func.isWrapper; first | (rw [if_pos (by decide +kernel)]; kernel_rfl) | (rw [if_neg (by decide +kernel)]; exact ⟨rfl, rfl⟩))
    (fun os started H enc _ => lifted os started H enc)

/-- The tied card: the row, and the tie that is given. -/
theorem modSums_holds : Rows.ModSumsCardSaid :=
  Claim7.holds_tied_plain_at .later [] [.data] true _ false over (fun _ h => by cases h) (by kernel_rfl) (fun _ h => by cases h) modSums_row_tie rfl ⟨rfl, rfl⟩ (by kernel_rfl) rfl
    (fun f fn hf hfn => by
      obtain rfl : f = 3 := Option.some.inj ((show Tryd.prog.funcNamed "palisade/palisadelaw03.ModSums" = some 3 by kernel_rfl).symm.trans hf) |>.symm
      obtain rfl : fn = Tryd.f3 := (Option.some.inj (Tryd.func3.symm.trans hfn)).symm
      exact ⟨by kernel_rfl, fun j t ht => by
        rw [Tryd.params3] at ht
        have hm : t ∈ [3, 3, 3, 3] := by simpa using Array.mem_of_getElem? ht
        have hall : ([3, 3, 3, 3].all fun u => !Tryd.prog.wantsStandIn u) = true := by kernel_rfl
        exact (show Tryd.prog.wantsStandIn t = false by simpa using List.all_eq_true.1 hall t hm)⟩)
    (by kernel_rfl)
end Go.Proofs.YtoljflkfhdaipaaDoor.modSums
