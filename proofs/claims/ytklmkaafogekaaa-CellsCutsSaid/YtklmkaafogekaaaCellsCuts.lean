/- The law CellsCuts answers true for every input and leaves its arguments as they were. -/
import Derived.Test.YtklmkaafogekaaaCLawKit
namespace Go.Proofs.Ytklmkaafogekaaa.cellsCuts
open Go.ChangeShapes Go.WideShapes Go.ChangeAt Go.RowKit Go.Shelf
set_option linter.unusedVariables false

theorem tab_add (a b : Nat) (f : Nat → UInt8) : tab (a + b) f = tab a f ++ tab b (fun i => f (a + i)) := by
  unfold tab
  rw [List.range_add, List.map_append, List.map_map]; rfl
theorem flat_tab (n : Nat) (f : Nat → UInt8) (q : Nat) : ((List.range q).map fun j => tab n (fun i => f (j * n + i))).flatten = tab (q * n) f := by
  induction q with
  | zero => simp [tab]
  | succ q ih =>
    rw [List.range_succ, List.map_append, List.flatten_append, ih, Nat.succ_mul, tab_add]
    simp
theorem flat_cut (n : Nat) (l : List UInt8) : (cutL n l).flatten = tab (cellsFor l.length n * n) (at_ l) := flat_tab n (at_ l) _
theorem tab_take (N m : Nat) (f : Nat → UInt8) (h : m ≤ N) : (tab N f).take m = tab m f := by
  obtain ⟨d, rfl⟩ : ∃ d, N = m + d := ⟨N - m, by omega⟩
  rw [tab_add, List.take_append_of_le_length (by rw [tab_len]; exact Nat.le_refl _), List.take_of_length_le (by rw [tab_len]; exact Nat.le_refl _)]
theorem cut_back (n : Nat) (h1 : 1 ≤ n) (l : List UInt8) : (cutL n l).flatten.take l.length = l := by
  rw [flat_cut, tab_take _ _ _ (cellsFor_room _ _ h1), ← tab_of]
theorem cut_glue (n : Nat) (h1 : 1 ≤ n) (h64 : n ≤ 64) (l : List UInt8) : GlueOk (cutL n l) (l.length : Int) := by
  have hr := cellsFor_room l.length n h1
  have hl := cellsFor_le l.length n h1
  have hlen : ∀ j, j < (cutL n l).length → ((cutL n l)[j]?.getD []).length = n := by
    intro j hj
    rw [cutL_len] at hj
    rw [cutL_at n l j hj, tab_len]
  have hal : Alike (cutL n l) := (alike_iff _).2 fun j hj => ⟨by unfold Cell; rw [hlen j hj]; omega, by rw [hlen j hj, hlen 0 (by omega)]⟩
  refine ⟨hal, ⟨by omega, ?_, ?_⟩, ?_⟩
  · rw [flat_cut, tab_len]; omega
  · rw [flat_cut, tab_len]
    rcases Nat.eq_zero_or_pos (cellsFor l.length n) with h | h
    · rw [h, Nat.zero_mul]; rw [Int.max_def]; split <;> omega
    · rw [hlen 0 (by rw [cutL_len]; exact h)]
      have hlt := (lt_cellsFor l.length n (cellsFor l.length n - 1) h1).2 (by omega)
      have : (cellsFor l.length n - 1) * n + n = cellsFor l.length n * n := by rw [← Nat.succ_mul]; congr 1; omega
      rw [Int.max_def]; split <;> omega
  · rw [flat_cut, Int.toNat_natCast, drop_nil_iff]
    intro j hj hjl
    rw [tab_len] at hjl
    rw [tab_at _ _ _ hjl]
    unfold at_
    rw [List.getElem?_eq_none (by omega)]; rfl
theorem cut_few (n : Nat) (h1 : 1 ≤ n) (l : List UInt8) : (cutL n l).length ≤ l.length + n := by
  rw [cutL_len]
  have e1 := cellsFor_le l.length n h1
  have e2 := Nat.le_mul_of_pos_right (cellsFor l.length n) h1
  omega

set_option maxHeartbeats 600000 in
theorem walk (v : Value) (l : List UInt8) (a : Int) (w : World) (hb : Bytes w.heap.size w v l) (wa : (Lit.int .i64 a).wf = true) :
    Calls Try.prog 5 #[v, .int .i64 a] w fun e w' => e = .returned (.bool true) ∧ Below w.heap.size w w' := by
  by_cases h500 : l.length ≤ 500
  · have d0 : decide ((500 : Int) < (l.length : Int)) = false := by simp; omega
    by_cases hn : 1 ≤ a ∧ a ≤ 64
    · have d1 : decide (a < 1) = false := by simp; omega
      have d2 : decide (64 < a) = false := by simp; omega
      obtain ⟨n, rfl⟩ := Int.eq_ofNat_of_zero_le (show 0 ≤ a by omega)
      have h1 : 1 ≤ n := by omega
      have h64 : n ≤ 64 := by omega
      have HC := Lib.hid (cut_yes v l n h1 h64 (by omega) w hb)
      have hfew := cut_few n h1 l
      have hq : (cutL n l).length ≤ 10000 := by omega
      have HG := Lib.hid (fun (W : World) (u : Value) (hM : Many W.heap.size W u (cutL n l)) => glue_yes u (cutL n l) (l.length : Int) hq W hM (cut_glue n h1 h64 l))
      have HR := Lib.hid (fun (W : World) (hB : Below w.heap.size w W) => rcut_any v l n h1 h64 (by omega) W ((hb.below hB).more hB.size))
      have HS := Lib.hid (fun (W : World) (u1 u2 : Value) (hM1 : Many W.heap.size W u1 (cutL n l)) (hM2 : Many W.heap.size W u2 (cutL n l)) => rsame_any u1 u2 (cutL n l) (cutL n l) W hM1 hM2 (by omega) (by omega))
      have HT : Hid ((cutL n l).flatten.take (l.length : Int).toNat = l) := by
        unfold Hid
        rw [Int.toNat_natCast]; exact cut_back n h1 l
      rw [decide_eq_true rfl] at HS
      have hbt := Lib.hid hb
      obtain ⟨A, cap, rfl, _, _⟩ := id hb
      clear hb hfew hq
      generalize hcl : cutL n l = cl at *
      clear hcl
      go_enter Try.func5, Try.ntmps5
      go_wp2_with fail
      refine HC.out.mono ?_
      rintro e w1 ⟨vl, rfl, hFl, hB1⟩
      obtain ⟨Al, cpl, rfl, _⟩ := id hFl
      go_wp2_with fail
      refine (HG.out w1 _ hFl.many).mono ?_
      rintro e w2 ⟨vo, rfl, hFo, hB2⟩
      rw [HT.out] at hFo
      have hFl2 := hFl.below hB2
      have hB12 := Below.next hB1 hB2
      obtain ⟨Ao, co, rfl⟩ := hFo.bytes.form (n := l.length) rfl
      have HM := Lib.hid hFl2.many
      have HO := Lib.hid hFo.bytes
      clear hFl hFl2 hFo HC HG HT
      go_wp2_with (first
        | (go_at_call 14; refine (num_any _ _).mono ?_; rintro e w' ⟨rfl, rfl⟩)
        | (go_at_call 24; refine (HR.out _ hB12).mono ?_; rintro e w3 ⟨vr, rfl, hFr, hB3⟩; have hB13 := Below.next hB12 hB3)
        | (go_at_call 23; refine (HS.out w3 _ _ ((HM.out.below hB3).more hB3.size) hFr.many).mono ?_; rintro e w4 ⟨rfl, hB4⟩; have hB14 := Below.next hB13 hB4; have c1 := run_txt w4 ((HO.out.below hB3).below (hB4.mono hB3.size)); have c2 := run_txt w4 (hbt.out.below hB14))
        | (go_at_call 11; refine (works_in _ hB14).mono ?_; rintro e wf ⟨rfl, hBf⟩))
      go_ret
      exact ⟨rfl, hBf⟩
    · have HC := Lib.hid (cut_no v l a hn w hb)
      obtain ⟨A, cap, rfl, _, _⟩ := id hb
      clear hb
      by_cases h1 : a < 1
      · have d1 : decide (a < 1) = true := by simpa using h1
        go_enter Try.func5, Try.ntmps5
        go_wp2_with (first
          | (go_at_call 21; refine HC.out.mono ?_; rintro e w1 ⟨rfl, hB1⟩)
          | (go_at_call 14; refine (num_any _ _).mono ?_; rintro e w' ⟨rfl, rfl⟩)
          | (go_at_call 11; refine (works_in _ hB1).mono ?_; rintro e wf ⟨rfl, hBf⟩))
        go_ret
        exact ⟨rfl, hBf⟩
      · have d1 : decide (a < 1) = false := by simpa using h1
        have d2 : decide (64 < a) = true := by simp; omega
        go_enter Try.func5, Try.ntmps5
        go_wp2_with (first
          | (go_at_call 21; refine HC.out.mono ?_; rintro e w1 ⟨rfl, hB1⟩)
          | (go_at_call 14; refine (num_any _ _).mono ?_; rintro e w' ⟨rfl, rfl⟩)
          | (go_at_call 11; refine (works_in _ hB1).mono ?_; rintro e wf ⟨rfl, hBf⟩))
        go_ret
        exact ⟨rfl, hBf⟩
  · have d0 : decide ((500 : Int) < (l.length : Int)) = true := by simp; omega
    obtain ⟨A, cap, rfl, _, _⟩ := id hb
    go_enter Try.func5, Try.ntmps5
    go_wp2_with (go_at_call 11; refine (works_any _).mono ?_; rintro e wf ⟨rfl, hBf⟩)
    go_ret
    exact ⟨rfl, hBf⟩

set_option maxRecDepth 100000 in
theorem lifted (os : Os) (started : os.Started) (H : Type) (enc : TypeId × Value → H) :
    ReturnsInHanded {} Try.checked os 5 .any (Rows.cellsCutsSpec.pre6 enc Try.prog Try.f5 Rows.cellsCutsRow.domain false) (Rows.cellsCutsSpec.post enc Try.prog Try.f5 false true false false) := by
  refine returnsInHanded_of_change (C := Try.checked) own started (by kernel_rfl) Try.func5
    (ChangeSpec.witness6 (enc := enc) (C := Try.checked) false ⟨#[], #[.slice none 0 0, .int .i64 0], []⟩ 8 (by kernel_rfl) (by kernel_rfl) (by kernel_rfl) (by kernel_rfl)) ?_
  intro W base args ds gs before hval0 hW hcnd _
  have hval : ∀ (j : Nat) t v, Try.f5.params[j]? = some t → args[j]? = some v → Value.okWide Try.prog W .any base t v := hval0
  have hW' := hW
  obtain ⟨p, q, hA0, hV, rfl, hfz, hnd⟩ := hW
  have hA : DataW.TrodAll enc Try.prog W 0 (fun _ => true) true Try.f5.params.toList args.toList ds p := hA0
  rw [Try.params5] at hA hval
  obtain ⟨v0, vs0, d0, ds0, p0, q0, hargs, rfl, rfl, h0, r0⟩ := trodAll_cons hA
  obtain ⟨v1, vs1, d1, ds1, p1, q1, rfl, rfl, rfl, h1, r1⟩ := trodAll_cons r0
  obtain ⟨rfl, rfl, rfl⟩ := trodAll_nil r1
  obtain rfl : args = #[v0, v1] := by cases args; simp_all
  obtain ⟨rfl, rfl⟩ := trodVars_none hV
  obtain ⟨a0, len0, cap0, rfl⟩ := okWide_slice Try.underlying25 (hval 0 25 v0 rfl rfl)
  have k0 := h0
  have lt0 : ∀ x ∈ p0, x.block < W.heap.size := by obtain ⟨m, hm⟩ := k0; exact DataW.trod_lt m _ _ _ hm
  obtain ⟨z0, w0⟩ : ∃ zs, IsRow .u8 W a0 len0 cap0 zs := by
    obtain ⟨fuel, hf⟩ := h0
    rcases open_ints Try.underlying25 Try.underlying5 (by kernel_rfl) hf with ⟨hcs, _⟩ | ⟨x, l, c, zs, hcs, _, hl, hm, hz, _, hcell, hwz⟩
    · simp [Value.cells] at hcs
      obtain ⟨rfl, rfl, rfl⟩ := hcs
      exact ⟨[], .inl ⟨rfl, rfl, rfl, rfl⟩⟩
    · simp [Value.cells] at hcs
      obtain ⟨rfl, rfl, rfl⟩ := hcs
      exact ⟨zs, .inr ⟨_, rfl, hl, hm, by simpa using hz, hcell, hwz⟩⟩
  obtain ⟨l0, _, hb0⟩ := row_bytes w0
  obtain ⟨a1, rfl, rfl, rfl, w1⟩ := open_int Try.underlying3 (hval 1 3 v1 rfl rfl) h1
  clear hA0 hval0
  refine (walk _ l0 a1 W hb0 w1).mono fun e W' ⟨he, bel⟩ => ?_
  subst he
  exact ⟨_, rfl, _, _, _, [], _, [], hW', trodAll_mk1 (shut_bool Try.underlying4 _), (trodAll_cons_mk (Below.trod laidOut (by kernel_rfl) (of_decide_eq_true (by kernel_rfl)) k0 bel lt0) (trodAll_cons_mk (shut_int Try.underlying3 w1) trodAll_mk0)), rfl, bel.frame _, fun h => by cases h⟩

theorem over : Rows.cellsCutsRow.holds Try.pinned (OpenSpec.ofChange Rows.cellsCutsSpec) :=
  OpenClaim.holds_of_wide 5 Try.f5 rfl rfl rfl rfl rfl rfl rfl ⟨rfl, rfl, rfl, rfl, rfl⟩ rfl rfl rfl rfl rfl (by kernel_rfl) Try.func5 (by kernel_rfl)
    (of_decide_eq_true (by kernel_rfl)) (by unfold Func.isWrapper; first | (rw [if_pos (by decide +kernel)]; kernel_rfl) | (rw [if_neg (by decide +kernel)]; exact ⟨rfl, rfl⟩))
    (fun os started H enc _ => lifted os started H enc)

theorem cellsCuts_holds : Rows.CellsCutsSaid := over
end Go.Proofs.Ytklmkaafogekaaa.cellsCuts
