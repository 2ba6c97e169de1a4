/- The law CrcSeals answers true for every input and leaves its arguments as they were. -/
import Derived.Test.YtkgfahmajhfgbaaWalkJ
import Derived.ShutString
import Derived.ChangeOld
namespace Go.Proofs.Ytkgfahmajhfgbaa.crcSeals
open Go.ChangeShapes Go.WideShapes Go.ChangeAt Go.RowKit
open Go.ChangeMaps (open_string shut_string)
set_option linter.unusedVariables false


theorem text_append (a b : List UInt8) : text a ++ text b = text (a ++ b) := by
  apply ByteArray.ext
  rw [ByteArray.data_append]
  simp [text]

theorem tx (W : World) (v : Value) (l : List UInt8) (B : Nat) (h : Bytes B W v l) {s : ByteArray} (hs : text l = s) : (convert 24 9 v).run Try.prog W = .ok (.string s) W := by
  subst hs
  exact run_text (P := Try.prog) W 9 Try.underlying24 Try.underlying5 Try.underlying9 h

set_option maxRecDepth 100000 in
set_option maxHeartbeats 2000000 in
theorem mid (v : Value) (l : List UInt8) (w : World) (hl : l.length ≤ 4000) (hb : Bytes w.heap.size w v l) :
    Calls Try.prog 5 #[v] w fun e w' => e = .returned (.bool true) ∧ Below w.heap.size w w' := by
  have S1 := Lib.hid (seal_yes v l (by omega) w hb)
  have O1 := Lib.hid (fun (W : World) (u : Value) (hu : Bytes W.heap.size W u (l ++ le4 (sum l))) => open_yes u _ (by rw [List.length_append, le4_len]; omega) W hu (seals_seal l))
  rw [body_seal] at O1
  have R1 := Lib.hid (fun (W : World) (hB : Below w.heap.size w W) => ropen_any v l (by omega) W ((hb.below hB).more hB.size))
  have RS := Lib.hid (fun (W : World) (hB : Below w.heap.size w W) => rsum_any v l (by omega) W ((hb.below hB).more hB.size))
  have f1 := four_any (sum l) (sum_lt l)
  have f4 := four_bytes (sum l)
  generalize ((le4 (sum l)).map enc).toArray = C4 at f1 f4
  have F1 := Lib.hid f1
  have F4 := Lib.hid f4
  have HCAT : Hid (text l ++ text (le4 (sum l)) = text (l ++ le4 (sum l))) := text_append _ _
  obtain ⟨sS, hsS⟩ : ∃ s, text (l ++ le4 (sum l)) = s := ⟨_, rfl⟩
  have T1 := Lib.hid hsS
  rw [hsS] at HCAT
  clear hsS
  have HB := Lib.hid hb
  obtain ⟨A0, cap0, rfl, _⟩ := hb.slice_form
  clear f1 f4 hb
  have hdec : decide ((4000 : Int) < (l.length : Int)) = false := by simp; omega
  by_cases hs : Seals l
  · skip
    have O2 := Lib.hid (fun (W : World) (hB : Below w.heap.size w W) => open_yes (.slice A0 l.length cap0) l (by omega) W ((HB.out.below hB).more hB.size) hs)
    go_enter Try.func5, Try.ntmps5
    go_wp2_with fail
    refine S1.out.mono ?_
    rintro e w1 ⟨v1, rfl, hown1, hB1⟩
    go_wp2_with fail
    refine (O1.out w1 v1 hown1.bytes).mono ?_
    rintro e w2 ⟨v2, rfl, hown2, hB2⟩
    have q2 := Below.next hB1 hB2
    go_wp2_with fail
    refine (O2.out w2 q2).mono ?_
    rintro e w3 ⟨v3, rfl, hown3, hB3⟩
    have q3 := Below.next q2 hB3
    go_wp2_with fail
    refine (R1.out w3 q3).mono ?_
    rintro e w4 ⟨hy, hn, hB4⟩
    obtain ⟨v4, rfl, hown4⟩ := hy hs
    clear hy hn
    have q4 := Below.next q3 hB4
    have x1 := (hown1.bytes.below (Below.next hB2 (Below.next hB3 hB4)))
    have x2 := (hown2.bytes.below (Below.next hB3 hB4))
    have x0 := (HB.out.below q4)
    have a5 : Below w4.heap.size w4 ((w4.alloc (.cells C4 5)).drew) := ((Below.refl _ w4).alloc (Nat.le_refl _) _).drew
    have g1 := Below.next hB2 (Below.next hB3 hB4)
    have g2 := Below.next hB3 hB4
    have r1 := tx w4.drew v1 _ _ x1 T1.out
    have r2 := tx w4.drew v2 _ _ x2 rfl
    have r0 := tx w4.drew (.slice A0 l.length cap0) _ _ x0 rfl
    have r4 := tx ((w4.alloc (.cells C4 5)).drew) _ _ _ (F4.out w4) rfl
    have r5 := tx ((w4.alloc (.cells C4 5)).drew) v1 _ _ ((x1.more g1.size).below a5) T1.out
    have r6 := tx ((w4.alloc (.cells C4 5)).drew) v2 _ _ ((x2.more g2.size).below a5) rfl
    have r7 := tx ((w4.alloc (.cells C4 5)).drew) (.slice A0 l.length cap0) _ _ ((x0.more q4.size).below a5) rfl
    have r8 := tx ((w4.alloc (.cells C4 5)).drew) v3 _ _ (((hown3.bytes.below hB4).more hB4.size).below a5) rfl
    have r9 := tx ((w4.alloc (.cells C4 5)).drew) v4 _ _ (hown4.bytes.below a5) rfl
    generalize text (body l) = sP at r8 r9
    have z1 : (text l).size + (text (le4 (sum l))).size ≤ 9223372036854775807 := by
      have e1 : (text l).size = l.length := by simp [text, ByteArray.size]
      have e2 : (text (le4 (sum l))).size = 4 := by simp [text, ByteArray.size, le4_len]
      omega
    generalize text l = sB at z1 HCAT r0 r2 r6 r7
    generalize text (le4 (sum l)) = s4 at z1 HCAT r4
    have z2 : ¬ (9223372036854775807 < sB.size + s4.size) := by omega
    have hcat := HCAT.out
    have FF := Lib.hid (F1.out)
    clear x1 x2 x0 hown1 hown2
    go_wp2_with fail
    go_region_held_law (fun W => (convert 24 9 v1).run Try.prog W = .ok (.string sS) W ∧ (convert 24 9 v2).run Try.prog W = .ok (.string sB) W ∧ (convert 24 9 (.slice A0 l.length cap0)).run Try.prog W = .ok (.string sB) W) (first | exact ⟨r1, r2, r0⟩ | exact ⟨r5, r6, r7⟩) (first
      | (go_at_call 18; refine (num_any _ _).mono ?_; rintro e wa ⟨rfl, rfl⟩)
      | (go_at_call 13; refine (RS.out _ ?_).mono ?_; exact q4.drew; rintro e wb ⟨rfl, rfl⟩)
      | (go_at_call 19; refine (FF.out _).mono ?_; rintro e wc ⟨rfl, rfl⟩))
    all_goals go_wp2_with (first | (go_at_call 18; refine (num_any _ _).mono ?_; rintro e wd ⟨rfl, rfl⟩) | (go_at_call 10; refine (works_any _).mono ?_; rintro e we ⟨rfl, hBe⟩))
    all_goals go_ret
    all_goals exact ⟨rfl, Below.next q4 (Below.next a5 hBe)⟩
  · skip
    have O2 := Lib.hid (fun (W : World) (hB : Below w.heap.size w W) => open_no (.slice A0 l.length cap0) l (by omega) W ((HB.out.below hB).more hB.size) hs)
    go_enter Try.func5, Try.ntmps5
    go_wp2_with fail
    refine S1.out.mono ?_
    rintro e w1 ⟨v1, rfl, hown1, hB1⟩
    go_wp2_with fail
    refine (O1.out w1 v1 hown1.bytes).mono ?_
    rintro e w2 ⟨v2, rfl, hown2, hB2⟩
    have q2 := Below.next hB1 hB2
    go_wp2_with fail
    refine (O2.out w2 q2).mono ?_
    rintro e w3 ⟨rfl, hB3⟩
    have q3 := Below.next q2 hB3
    go_wp2_with fail
    refine (R1.out w3 q3).mono ?_
    rintro e w4 ⟨hy, hn, hB4⟩
    obtain rfl := hn hs
    clear hy hn
    have q4 := Below.next q3 hB4
    have x1 := (hown1.bytes.below (Below.next hB2 (Below.next hB3 hB4)))
    have x2 := (hown2.bytes.below (Below.next hB3 hB4))
    have x0 := (HB.out.below q4)
    have a5 : Below w4.heap.size w4 ((w4.alloc (.cells C4 5)).drew) := ((Below.refl _ w4).alloc (Nat.le_refl _) _).drew
    have g1 := Below.next hB2 (Below.next hB3 hB4)
    have g2 := Below.next hB3 hB4
    have r1 := tx w4.drew v1 _ _ x1 T1.out
    have r2 := tx w4.drew v2 _ _ x2 rfl
    have r0 := tx w4.drew (.slice A0 l.length cap0) _ _ x0 rfl
    have r4 := tx ((w4.alloc (.cells C4 5)).drew) _ _ _ (F4.out w4) rfl
    have r5 := tx ((w4.alloc (.cells C4 5)).drew) v1 _ _ ((x1.more g1.size).below a5) T1.out
    have r6 := tx ((w4.alloc (.cells C4 5)).drew) v2 _ _ ((x2.more g2.size).below a5) rfl
    have r7 := tx ((w4.alloc (.cells C4 5)).drew) (.slice A0 l.length cap0) _ _ ((x0.more q4.size).below a5) rfl
    have r8 := tx ((w4.alloc (.cells C4 5)).drew) (.slice none 0 0) [] w4.heap.size (Bytes.nil_ _ _ _ _) rfl
    generalize text [] = sP at r8
    have z1 : (text l).size + (text (le4 (sum l))).size ≤ 9223372036854775807 := by
      have e1 : (text l).size = l.length := by simp [text, ByteArray.size]
      have e2 : (text (le4 (sum l))).size = 4 := by simp [text, ByteArray.size, le4_len]
      omega
    generalize text l = sB at z1 HCAT r0 r2 r6 r7
    generalize text (le4 (sum l)) = s4 at z1 HCAT r4
    have z2 : ¬ (9223372036854775807 < sB.size + s4.size) := by omega
    have hcat := HCAT.out
    have FF := Lib.hid (F1.out)
    clear x1 x2 x0 hown1 hown2
    go_wp2_with fail
    go_region_held_law (fun W => (convert 24 9 v1).run Try.prog W = .ok (.string sS) W ∧ (convert 24 9 v2).run Try.prog W = .ok (.string sB) W ∧ (convert 24 9 (.slice A0 l.length cap0)).run Try.prog W = .ok (.string sB) W) (first | exact ⟨r1, r2, r0⟩ | exact ⟨r5, r6, r7⟩) (first
      | (go_at_call 18; refine (num_any _ _).mono ?_; rintro e wa ⟨rfl, rfl⟩)
      | (go_at_call 13; refine (RS.out _ ?_).mono ?_; exact q4.drew; rintro e wb ⟨rfl, rfl⟩)
      | (go_at_call 19; refine (FF.out _).mono ?_; rintro e wc ⟨rfl, rfl⟩))
    all_goals go_wp2_with (first | (go_at_call 18; refine (num_any _ _).mono ?_; rintro e wd ⟨rfl, rfl⟩) | (go_at_call 10; refine (works_any _).mono ?_; rintro e we ⟨rfl, hBe⟩))
    all_goals go_ret
    all_goals exact ⟨rfl, Below.next q4 (Below.next a5 hBe)⟩

theorem walk (a0 : Option Addr) (len0 cap0 : Nat) (z0 : List Int) (w : World) (w0 : IsRow .u8 w a0 len0 cap0 z0) :
    Calls Try.prog 5 #[.slice a0 len0 cap0] w fun e w' => e = .returned (.bool true) ∧ Below w.heap.size w w' := by
  obtain ⟨l, rfl, hb⟩ := row_bytes w0
  by_cases hl : l.length ≤ 4000
  · exact mid _ l w hl hb
  · have hdec : decide ((4000 : Int) < (l.length : Int)) = true := by simp; omega
    clear hl
    go_enter Try.func5, Try.ntmps5
    go_wp2_with (go_at_call 10; refine (works_any _).mono ?_; rintro e w3 ⟨rfl, hB3⟩)
    go_ret
    exact ⟨rfl, hB3⟩

set_option maxRecDepth 100000 in
theorem lifted (os : Os) (started : os.Started) (H : Type) (enc : TypeId × Value → H) :
    ReturnsInHanded {} Try.checked os 5 .any (Rows.crcSealsSpec.pre6 enc Try.prog Try.f5 Rows.crcSealsRow.domain false) (Rows.crcSealsSpec.post enc Try.prog Try.f5 false true false false) := by
  refine returnsInHanded_of_change (C := Try.checked) own started (by kernel_rfl) Try.func5
    (ChangeSpec.witness6 (enc := enc) (C := Try.checked) false ⟨#[], #[.slice none 0 0], []⟩ 8 (by kernel_rfl) (by kernel_rfl) (by kernel_rfl) (by kernel_rfl)) ?_
  intro W base args ds gs before hval0 hW hcnd _
  have hval : ∀ (j : Nat) t v, Try.f5.params[j]? = some t → args[j]? = some v → Value.okWide Try.prog W .any base t v := hval0
  have hW' := hW
  obtain ⟨p, q, hA0, hV, rfl, hfz, hnd⟩ := hW
  have hA : DataW.TrodAll enc Try.prog W 0 (fun _ => true) true Try.f5.params.toList args.toList ds p := hA0
  rw [Try.params5] at hA hval
  obtain ⟨v0, vs0, d0, ds0, p0, q0, hargs, rfl, rfl, h0, r0⟩ := trodAll_cons hA
  obtain ⟨rfl, rfl, rfl⟩ := trodAll_nil r0
  obtain rfl : args = #[v0] := by cases args; simp_all
  obtain ⟨rfl, rfl⟩ := trodVars_none hV
  obtain ⟨a0, len0, cap0, rfl⟩ := okWide_slice Try.underlying24 (hval 0 24 v0 rfl rfl)
  have k0 := h0
  have lt0 : ∀ x ∈ p0, x.block < W.heap.size := by obtain ⟨m, hm⟩ := k0; exact DataW.trod_lt m _ _ _ hm
  obtain ⟨z0, w0⟩ : ∃ zs, IsRow .u8 W a0 len0 cap0 zs := by
    obtain ⟨fuel, hf⟩ := h0
    rcases open_ints Try.underlying24 Try.underlying5 (by kernel_rfl) hf with ⟨hcs, _⟩ | ⟨x, l, c, zs, hcs, _, hl, hm, hz, _, hcell, hwz⟩
    · simp [Value.cells] at hcs
      obtain ⟨rfl, rfl, rfl⟩ := hcs
      exact ⟨[], .inl ⟨rfl, rfl, rfl, rfl⟩⟩
    · simp [Value.cells] at hcs
      obtain ⟨rfl, rfl, rfl⟩ := hcs
      exact ⟨zs, .inr ⟨_, rfl, hl, hm, by simpa using hz, hcell, hwz⟩⟩
  clear hA0 hval0
  refine (walk a0 len0 cap0 z0 W w0).mono fun e W' ⟨he, bel⟩ => ?_
  subst he
  exact ⟨_, rfl, _, _, _, [], _, [], hW', trodAll_mk1 (shut_bool Try.underlying4 _), (trodAll_cons_mk (Below.trod laidOut (by kernel_rfl) (of_decide_eq_true (by kernel_rfl)) k0 bel lt0) trodAll_mk0), rfl, bel.frame _, fun h => by cases h⟩

theorem over : Rows.crcSealsRow.holds Try.pinned (OpenSpec.ofChange Rows.crcSealsSpec) :=
  OpenClaim.holds_of_wide 5 Try.f5 rfl rfl rfl rfl rfl rfl rfl ⟨rfl, rfl, rfl, rfl, rfl⟩ rfl rfl rfl rfl rfl (by kernel_rfl) Try.func5 (by kernel_rfl)
    (of_decide_eq_true (by kernel_rfl)) (by unfold Func.isWrapper; first | (rw [if_pos (by decide +kernel)]; kernel_rfl) | (rw [if_neg (by decide +kernel)]; exact ⟨rfl, rfl⟩))
    (fun os started H enc _ => lifted os started H enc)

theorem crcSeals_holds : Rows.CrcSealsSaid := over
end Go.Proofs.Ytkgfahmajhfgbaa.crcSeals
