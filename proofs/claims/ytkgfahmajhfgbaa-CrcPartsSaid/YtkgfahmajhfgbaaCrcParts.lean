/- The law CrcParts answers true for every input and leaves its arguments as they were. -/
import Derived.Test.YtkgfahmajhfgbaaRowKit
import Derived.ShutString
import Derived.ChangeOld
namespace Go.Proofs.Ytkgfahmajhfgbaa.crcParts
open Go.ChangeShapes Go.WideShapes Go.ChangeAt Go.RowKit
open Go.ChangeMaps (open_string shut_string)
set_option linter.unusedVariables false


theorem many_of {V w : World} {g : Nat} {t : TypeId} {vs : List Value} {ls : List (List UInt8)} (h : Blk V g t vs.toArray) (hB : Below w.heap.size w V) (hl : vs.length = ls.length)
    (hb : ∀ j, j < ls.length → Bytes w.heap.size w (vs[j]?.getD undef) (ls[j]?.getD [])) {n : Nat} (hn : ls.length = n) : Many V.heap.size V (.slice (some ⟨g, 0, none⟩) n n) ls := by
  subst hn
  refine ⟨_, _, rfl, Nat.le_refl _, fun _ => ⟨g, 0, rfl, h.lt, fun j hj => ⟨vs[j]?.getD undef, ?_, ((hb j hj).below hB).more hB.size⟩⟩⟩
  rw [Nat.zero_add, h.cell j, List.getElem?_toArray, List.getElem?_eq_getElem (by omega)]; rfl

/-- The sum of lists that were laid in a row, in whatever later world. -/
theorem sum_row {w : World} (vs : List Value) (ls : List (List UInt8)) (hl : vs.length = ls.length) (hb : ∀ j, j < ls.length → Bytes w.heap.size w (vs[j]?.getD undef) (ls[j]?.getD []))
    (hlen : ∀ j : Nat, (ls[j]?.getD []).length ≤ 140737488351232) (hlen2 : ls.length ≤ 140737488351232) {n : Nat} (hn : ls.length = n) {s : Nat} (hs : sum ls.flatten = s) (V : World) (g : Nat) (hB : Below w.heap.size w V) (h : Blk V g 24 vs.toArray) :
    Calls Try.prog 11 #[.slice (some ⟨g, 0, none⟩) n n] V fun e w' => e = .returned (.int .u32 (s : Int)) ∧ Below w.heap.size w w' := by
  subst hs
  refine (sum_any _ ls hlen hlen2 V (many_of h hB hl hb hn)).mono ?_
  rintro e w' ⟨rfl, hB'⟩
  exact ⟨rfl, Below.next hB hB'⟩

theorem more_in {w : World} (s : Nat) (hs : s < 4294967296) (v : Value) (l : List UInt8) (hlen : l.length ≤ 140737488351232) (hb : Bytes w.heap.size w v l) {r : Nat} (hr : more s l = r) (V : World) (hB : Below w.heap.size w V) :
    Calls Try.prog 12 #[.int .u32 (s : Int), v] V fun e w' => e = .returned (.int .u32 (r : Int)) ∧ Below w.heap.size w w' := by
  subst hr
  refine (more_any s hs v l hlen V ((hb.below hB).more hB.size)).mono ?_
  rintro e w' ⟨rfl, hB'⟩
  exact ⟨rfl, Below.next hB hB'⟩

theorem works_in {w : World} (V : World) (hB : Below w.heap.size w V) : Calls Try.prog 10 #[] V fun e w' => e = .returned (.bool true) ∧ Below w.heap.size w w' := by
  refine (works_any V).mono ?_
  rintro e w' ⟨rfl, hB'⟩
  exact ⟨rfl, Below.next hB hB'⟩

theorem sum_split (l : List UInt8) (k : Nat) : more (sum (l.take k)) (l.drop k) = sum l := by
  unfold sum
  rw [← more_append, List.take_append_drop]

set_option maxRecDepth 100000 in
set_option maxHeartbeats 700000 in
theorem mid (a0 A2 : Option Addr) (l : List UInt8) (cap0 k : Nat) (w : World) (hl : l.length ≤ 4000) (hk : k ≤ l.length) (hcap : l.length ≤ cap0) (hb : Bytes w.heap.size w (.slice a0 l.length cap0) l)
    (hif : (if cap0 = k then a0 else Option.map (fun x => x.add k) a0) = A2) (b2 : Bytes w.heap.size w (.slice A2 (l.length - k) (cap0 - k)) (l.drop k)) :
    Calls Try.prog 9 #[.slice a0 l.length cap0, .int .i64 (k : Int)] w fun e w' => e = .returned (.bool true) ∧ Below w.heap.size w w' := by
  have d1 : decide ((4000 : Int) < (l.length : Int)) = false := by simp; omega
  have d2 : decide ((k : Int) < 0) = false := by simp
  have d3 : decide ((l.length : Int) < (k : Int)) = false := by simp; omega
  have b1 := hb.take_ hk
  have hsl := sum_lt l
  have lk : (l.take k).length ≤ 4000 := by rw [List.length_take]; omega
  have ld : (l.drop k).length ≤ 4000 := by rw [List.length_drop]; omega
  have H3 := Lib.hid (sum_row [.slice a0 l.length cap0] [l] rfl (fun j hj => by match j, hj with | 0, _ => exact hb) (fun j => by match j with | 0 => exact Nat.le_trans hl (by omega) | j + 1 => exact Nat.zero_le _) (by simp) (n := 1) rfl (s := sum l) (by simp))
  have S3 := Lib.hid (sum_row [.slice a0 k cap0, .slice none 0 0, .slice A2 (l.length - k) (cap0 - k)] [l.take k, [], l.drop k] rfl (fun j hj => by match j, hj with | 0, _ => exact b1 | 1, _ => exact Bytes.nil_ _ _ _ _ | 2, _ => exact b2)
    (fun j => by match j with | 0 => exact Nat.le_trans lk (by omega) | 1 => exact Nat.zero_le _ | 2 => exact Nat.le_trans ld (by omega) | j + 3 => exact Nat.zero_le _) (by simp) (n := 3) rfl (s := sum l) (by simp))
  have S1 := Lib.hid (sum_row [.slice a0 k cap0] [l.take k] rfl (fun j hj => by match j, hj with | 0, _ => exact b1) (fun j => by match j with | 0 => exact Nat.le_trans lk (by omega) | j + 1 => exact Nat.zero_le _) (by simp) (n := 1) rfl (s := sum (l.take k)) (by simp))
  have M1 := Lib.hid (more_in (sum (l.take k)) (sum_lt _) _ _ (Nat.le_trans ld (by omega)) b2 (r := sum l) (sum_split l k))
  have M2 := Lib.hid (more_in (sum l) hsl (.slice none 0 0) [] (by simp) (Bytes.nil_ w.heap.size w none 0) (r := sum l) (more_nil _))
  generalize sum (l.take k) = x1 at *
  generalize sum l = x at *
  clear b1 b2 hb hl hsl lk ld
  have i1 : (0 : Int) ≤ (k : Int) := by omega
  have i2 : (k : Int) ≤ (cap0 : Int) := by omega
  have i3 : (k : Int) ≤ (l.length : Int) := by omega
  go_enter Try.func9, Try.ntmps9
  go_wp2_with (go_at_call 11; refine (H3.out _ _ ((Below.refl _ w).alloc (Nat.le_refl _) _) (Blk.new w _ _)).mono ?_; rintro e wa ⟨rfl, hBa⟩)
  go_region_held3 (fun _ => True) (exact trivial) (first
    | (go_at_call_of 11 (3 : Nat); refine (S3.out _ _ ?_ ?_).mono ?_; exact (hBa.alloc hBa.size _).drew; exact Blk.new wa _ _; rintro e wb ⟨rfl, hBb⟩)
    | (go_at_call_of 11 (1 : Nat); refine (S1.out _ _ ?_ ?_).mono ?_; exact hBb.alloc hBb.size _; exact Blk.new wb _ _; rintro e wc ⟨rfl, hBc⟩)
    | (go_at_call_of 12 (Value.int IntKind.u32 (x1 : Int)); refine (M1.out _ ?_).mono ?_; exact hBc; rintro e wd ⟨rfl, hBd⟩)
    | (go_at_call_of 12 (Value.int IntKind.u32 (x : Int)); refine (M2.out _ ?_).mono ?_; exact hBd; rintro e we ⟨rfl, hBe⟩)
    | (go_at_call 10; refine (works_in (w := w) _ ?_).mono ?_; exact hBe; rintro e wf ⟨rfl, hBf⟩))
  all_goals go_wp2
  all_goals go_ret
  all_goals exact ⟨rfl, hBf⟩

theorem walk (a0 : Option Addr) (len0 cap0 : Nat) (z0 : List Int) (a1 : Int) (w : World) (w0 : IsRow .u8 w a0 len0 cap0 z0) (w1 : (Lit.int .i64 a1).wf = true) :
    Calls Try.prog 9 #[.slice a0 len0 cap0, .int .i64 a1] w fun e w' => e = .returned (.bool true) ∧ Below w.heap.size w w' := by
  obtain ⟨l, rfl, hb⟩ := row_bytes w0
  clear w0
  by_cases hl : l.length ≤ 4000
  · have d1 : decide ((4000 : Int) < (l.length : Int)) = false := by simp; omega
    by_cases h0 : a1 < 0
    · have d2 : decide (a1 < 0) = true := by simpa using h0
      go_enter Try.func9, Try.ntmps9
      go_wp2_with (go_at_call 10; refine (works_any _).mono ?_; rintro e w3 ⟨rfl, hB3⟩)
      go_ret
      exact ⟨rfl, hB3⟩
    · have d2 : decide (a1 < 0) = false := by simpa using h0
      by_cases h1 : (l.length : Int) < a1
      · have d3 : decide ((l.length : Int) < a1) = true := by simpa using h1
        go_enter Try.func9, Try.ntmps9
        go_wp2_with (go_at_call 10; refine (works_any _).mono ?_; rintro e w3 ⟨rfl, hB3⟩)
        go_ret
        exact ⟨rfl, hB3⟩
      · obtain ⟨k, rfl⟩ := Int.eq_ofNat_of_zero_le (show 0 ≤ a1 by omega)
        obtain ⟨_, _, hE, hcap, _⟩ := id hb
        injection hE with hE1 hE2 hE3
        subst hE1 hE3
        have hk : k ≤ l.length := by omega
        by_cases hne : cap0 = k
        · refine mid a0 a0 l cap0 k w hl hk hcap hb (if_pos hne) ?_
          have hz : l.drop k = [] := List.drop_eq_nil_of_le (by omega)
          rw [hz, show l.length - k = 0 by omega]
          exact Bytes.nil_ _ _ _ _
        · exact mid a0 _ l cap0 k w hl hk hcap hb (if_neg hne) (hb.drop_ hk hne)
  · have d1 : decide ((4000 : Int) < (l.length : Int)) = true := by simp; omega
    go_enter Try.func9, Try.ntmps9
    go_wp2_with (go_at_call 10; refine (works_any _).mono ?_; rintro e w3 ⟨rfl, hB3⟩)
    go_ret
    exact ⟨rfl, hB3⟩

set_option maxRecDepth 100000 in
theorem lifted (os : Os) (started : os.Started) (H : Type) (enc : TypeId × Value → H) :
    ReturnsInHanded {} Try.checked os 9 .any (Rows.crcPartsSpec.pre6 enc Try.prog Try.f9 Rows.crcPartsRow.domain false) (Rows.crcPartsSpec.post enc Try.prog Try.f9 false true false false) := by
  refine returnsInHanded_of_change (C := Try.checked) own started (by kernel_rfl) Try.func9
    (ChangeSpec.witness6 (enc := enc) (C := Try.checked) false ⟨#[], #[.slice none 0 0, .int .i64 0], []⟩ 8 (by kernel_rfl) (by kernel_rfl) (by kernel_rfl) (by kernel_rfl)) ?_
  intro W base args ds gs before hval0 hW hcnd _
  have hval : ∀ (j : Nat) t v, Try.f9.params[j]? = some t → args[j]? = some v → Value.okWide Try.prog W .any base t v := hval0
  have hW' := hW
  obtain ⟨p, q, hA0, hV, rfl, hfz, hnd⟩ := hW
  have hA : DataW.TrodAll enc Try.prog W 0 (fun _ => true) true Try.f9.params.toList args.toList ds p := hA0
  rw [Try.params9] at hA hval
  obtain ⟨v0, vs0, d0, ds0, p0, q0, hargs, rfl, rfl, h0, r0⟩ := trodAll_cons hA
  obtain ⟨v1, vs1, d1, ds1, p1, q1, rfl, rfl, rfl, h1, r1⟩ := trodAll_cons r0
  obtain ⟨rfl, rfl, rfl⟩ := trodAll_nil r1
  obtain rfl : args = #[v0, v1] := by cases args; simp_all
  obtain ⟨rfl, rfl⟩ := trodVars_none hV
  obtain ⟨a0, len0, cap0, rfl⟩ := okWide_slice Try.underlying24 (hval 0 24 v0 rfl rfl)
  have k0 := h0
  have lt0 : ∀ x ∈ p0, x.block < W.heap.size := by obtain ⟨m, hm⟩ := k0; exact DataW.trod_lt m _ _ _ hm
  obtain ⟨z0, w0⟩ : ∃ zs, IsRow .u8 W a0 len0 cap0 zs := by
    obtain ⟨fuel, hf⟩ := h0
    rcases open_ints Try.underlying24 Try.underlying5 (by kernel_rfl) hf with ⟨hcs, _⟩ | ⟨x, l, c, zs, hcs, _, hl, hm, hz, _, hcell, hwz⟩
    · simp [Value.cells] at hcs
      obtain ⟨rfl, rfl, rfl⟩ := hcs
      exact ⟨[], .inl ⟨rfl, rfl, rfl, rfl⟩⟩
    · simp [Value.cells] at hcs
      obtain ⟨rfl, rfl, rfl⟩ := hcs
      exact ⟨zs, .inr ⟨_, rfl, hl, hm, by simpa using hz, hcell, hwz⟩⟩
  obtain ⟨a1, rfl, rfl, rfl, w1⟩ := open_int Try.underlying3 (hval 1 3 v1 rfl rfl) h1
  clear hA0 hval0
  refine (walk a0 len0 cap0 z0 a1 W w0 w1).mono fun e W' ⟨he, bel⟩ => ?_
  subst he
  exact ⟨_, rfl, _, _, _, [], _, [], hW', trodAll_mk1 (shut_bool Try.underlying4 _), (trodAll_cons_mk (Below.trod laidOut (by kernel_rfl) (of_decide_eq_true (by kernel_rfl)) k0 bel lt0) (trodAll_cons_mk (shut_int Try.underlying3 w1) trodAll_mk0)), rfl, bel.frame _, fun h => by cases h⟩

theorem over : Rows.crcPartsRow.holds Try.pinned (OpenSpec.ofChange Rows.crcPartsSpec) :=
  OpenClaim.holds_of_wide 9 Try.f9 rfl rfl rfl rfl rfl rfl rfl ⟨rfl, rfl, rfl, rfl, rfl⟩ rfl rfl rfl rfl rfl (by kernel_rfl) Try.func9 (by kernel_rfl)
    (of_decide_eq_true (by kernel_rfl)) (by unfold Func.isWrapper; first | (rw [if_pos (by decide +kernel)]; kernel_rfl) | (rw [if_neg (by decide +kernel)]; exact ⟨rfl, rfl⟩))
    (fun os started H enc _ => lifted os started H enc)

theorem crcParts_holds : Rows.CrcPartsSaid := over
end Go.Proofs.Ytkgfahmajhfgbaa.crcParts
