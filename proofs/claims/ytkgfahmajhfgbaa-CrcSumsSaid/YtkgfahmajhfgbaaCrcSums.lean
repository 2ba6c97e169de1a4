/- The law CrcSums answers true for every input and leaves its arguments as they were. -/
import Derived.Test.YtkgfahmajhfgbaaLawKit
import Derived.Deep.Matrix
import Derived.ShutString
import Derived.ChangeOld
namespace Go.Proofs.Ytkgfahmajhfgbaa.crcSums
open Go.ChangeShapes Go.WideShapes Go.ChangeAt Go.RowKit
set_option linter.unusedVariables false

theorem flat_next (ls : List (List UInt8)) (k : Nat) (hk : k < ls.length) : (ls.take (k + 1)).flatten = (ls.take k).flatten ++ (ls[k]?.getD []) := by
  rw [List.take_succ_eq_append_getElem hk, List.flatten_append, List.getElem?_eq_getElem hk]; simp
theorem sum_next (ls : List (List UInt8)) (k : Nat) (hk : k < ls.length) : more (sum (ls.take k).flatten) (ls[k]?.getD []) = sum (ls.take (k + 1)).flatten := by
  rw [flat_next ls k hk]
  unfold sum
  rw [← more_append]
theorem at_row {w : World} {A : Option Addr} {cap : Nat} {ls : List (List UInt8)} (h : Many w.heap.size w (.slice A ls.length cap) ls) (hp : 0 < ls.length) :
    ∃ b off, A = some ⟨b, off, none⟩ ∧ b < w.heap.size ∧ ∀ j, j < ls.length → ∃ B cp, w.cell? ⟨b, off + j, none⟩ = some (.slice B (ls[j]?.getD []).length cp) ∧ Bytes w.heap.size w (.slice B (ls[j]?.getD []).length cp) (ls[j]?.getD []) := by
  obtain ⟨A', cap', e, _, hA⟩ := h
  injection e with e1 _ e3
  subst e1 e3
  obtain ⟨b, off, e2, hb, hc⟩ := hA hp
  refine ⟨b, off, e2, hb, fun j hj => ?_⟩
  obtain ⟨u, hu, hB⟩ := hc j hj
  obtain ⟨B, cp, rfl, _⟩ := hB.slice_form
  exact ⟨B, cp, hu, hB⟩

set_option maxRecDepth 100000 in
set_option maxHeartbeats 2000000 in
theorem mid (A : Option Addr) (cap : Nat) (ls : List (List UInt8)) (w : World) (hl : ls.length ≤ 20) (hM : Many w.heap.size w (.slice A ls.length cap) ls) :
    Calls Try.prog 3 #[.slice A ls.length cap] w fun e w' => e = .returned (.bool true) ∧ Below w.heap.size w w' := by
  have d1 : decide ((20 : Int) < (ls.length : Int)) = false := by simp; omega
  obtain ⟨i0, hi, hz0, hz1, hz2⟩ := info_parts Try.infoByte
  go_enter Try.func3, Try.ntmps3
  go_wp2_with fail
  go_loopw [3, 4] (fun v i wr => ∃ k : Nat, k ≤ ls.length ∧ i = .int .i64 k ∧ OwnB wr w.heap.size v (ls.take k).flatten ∧ (ls.take k).flatten.length ≤ 8000 ∧ (∀ j, j < k → (ls[j]?.getD []).length ≤ 4000) ∧ Below w.heap.size w wr) (fun _ i _ => ls.length - (intOf i).toNat)
  case atStart => exact ⟨0, Nat.zero_le _, rfl, own_nil _ _, by simp, fun j h => absurd h (by omega), Below.refl _ _⟩
  case round =>
    obtain ⟨k, hk, rfl, hown, htot, hlen, hBk⟩ := hrel
    obtain ⟨A1, cap1, rfl⟩ := hown.bytes.form (n := (ls.take k).flatten.length) rfl
    by_cases hlt : k < ls.length
    · have e1 : decide ((k : Int) < (ls.length : Int)) = true := by simp; omega
      obtain ⟨b, off, rfl, hb, hrow⟩ := at_row hM (by omega)
      obtain ⟨B, cp, hc, hB⟩ := hrow k hlt
      have hc1 := (hBk.cell (p := ⟨b, off + k, none⟩) hb).trans hc
      have hB1 := hB.below hBk
      have HF := Lib.hid (flat_next ls k hlt)
      have HL : Hid ((ls[k]?.getD []).length ≤ 4000 → ∀ j, j < k + 1 → (ls[j]?.getD []).length ≤ 4000) := by
        unfold Hid
        intro h j hj
        rcases Nat.lt_or_ge j k with h1 | h1
        · exact hlen j h1
        · obtain rfl : j = k := by omega
          exact h
      clear hc hrow hB hlen
      generalize ls[k]?.getD [] = r at hc1 hB1 HF HL
      generalize (ls.take k).flatten = a at hown htot HF
      by_cases h4 : r.length ≤ 4000
      · have e2 : decide ((4000 : Int) < (r.length : Int)) = false := by simp; omega
        by_cases h5 : a.length ≤ 4000
        · have e3 : decide ((4000 : Int) < (a.length : Int)) = false := by simp; omega
          go_wp2_with (refine wpList_app _ rfl (.tmp 29) (.tmp 33) rfl w.heap.size i0 Try.underlying24 hi hz0 hz1 hz2 _ a rfl hown w.heap.size _ r rfl hB1 (by omega) hBk.size ?_; intro v' w' hown' hgrow' hat')
          go_roundw
          case rel => exact ⟨k + 1, by omega, by go_num, by rw [HF.out]; exact hown', by rw [HF.out, List.length_append]; omega, HL.out h4, below_grown hBk hgrow' hBk.size (fun g e => (World.ownsRow.lt hown g e).1)⟩
          case measure => simp [intOf]; omega
        · have e3 : decide ((4000 : Int) < (a.length : Int)) = true := by simp; omega
          go_wp2_with (go_at_call 10; refine (works_any _).mono ?_; rintro e w3 ⟨rfl, hB3⟩)
          go_ret
          exact ⟨rfl, Below.next hBk hB3⟩
      · have e2 : decide ((4000 : Int) < (r.length : Int)) = true := by simp; omega
        go_wp2_with (go_at_call 10; refine (works_any _).mono ?_; rintro e w3 ⟨rfl, hB3⟩)
        go_ret
        exact ⟨rfl, Below.next hBk hB3⟩
    · obtain rfl : k = ls.length := by omega
      have e1 : decide ((ls.length : Int) < (ls.length : Int)) = false := by simp
      rw [List.take_length] at hown htot
      generalize hfl : ls.flatten = fl at hown htot
      obtain ⟨wz, hwz⟩ : ∃ x, x = wr := ⟨_, rfl⟩
      subst hwz
      rw [List.take_length, hfl]
      go_wp2_with fail
      refine (sum_any (.slice none 0 0) [] (fun j => by simp) (by simp) wz (Many.nil_ _ _ _ _)).mono ?_
      rintro e w2 ⟨rfl, hB2⟩
      have hBytes := hown.bytes
      have hBk2 := Below.next hBk hB2
      have hlen2 : ∀ j : Nat, (ls[j]?.getD []).length ≤ 140737488351232 := by
        intro j
        rcases Nat.lt_or_ge j ls.length with h1 | h1
        · exact Nat.le_trans (hlen j h1) (by omega)
        · rw [List.getElem?_eq_none h1]; simp
      clear hown
      go_wp2_with fail
      go_loopw [5, 6] (fun m i wr => ∃ k : Nat, k ≤ ls.length ∧ i = .int .i64 k ∧ m = .int .u32 ((sum (ls.take k).flatten : Nat) : Int) ∧ Below wz.heap.size wz wr) (fun _ i _ => ls.length - (intOf i).toNat)
      case atStart => exact ⟨0, Nat.zero_le _, rfl, by simp, hB2⟩
      case round =>
        obtain ⟨k, hk, rfl, rfl, hBq⟩ := hrel
        have hBkq := Below.next hBk hBq
        by_cases hlt : k < ls.length
        · have e1 : decide ((k : Int) < (ls.length : Int)) = true := by simp; omega
          obtain ⟨b, off, rfl, hb, hrow⟩ := at_row hM (by omega)
          obtain ⟨B, cp, hc, hB⟩ := hrow k hlt
          have hc1 := (hBkq.cell (p := ⟨b, off + k, none⟩) hb).trans hc
          have hB1 := hB.below hBkq
          have HF := Lib.hid (sum_next ls k hlt)
          have HM := Lib.hid (more_any (sum (ls.take k).flatten) (sum_lt _) _ _ (hlen2 k) wr (hB1.more hBkq.size))
          clear hc hrow hB
          generalize hr : ls[k]?.getD [] = r at hc1 hB1 HF HM
          generalize sum (ls.take k).flatten = a at HF HM
          go_wp2_with (go_at_call 12; refine HM.out.mono ?_; rintro e w3 ⟨rfl, hB3⟩)
          go_roundw
          case rel => exact ⟨k + 1, by omega, by go_num, by rw [HF.out], Below.next hBq hB3⟩
          case measure => simp [intOf]; omega
        · obtain rfl : k = ls.length := by omega
          have e1 : decide ((ls.length : Int) < (ls.length : Int)) = false := by simp
          rw [List.take_length, hfl]
          have y1 := (hBytes.below hBq).more hBq.size
          have HS := Lib.hid (sum_any _ ls hlen2 (by omega) wr ((hM.below hBkq).more hBkq.size))
          rw [hfl] at HS
          have HR := Lib.hid (fun (W : World) (hB : Below wr.heap.size wr W) => rsum_any _ fl (by omega) W ((y1.below hB).more hB.size))
          clear hfl hM hBytes hlen hlen2
          generalize sum fl = x at HS HR
          go_wp2_with fail
          refine HS.out.mono ?_
          rintro e w3 ⟨rfl, hB3⟩
          go_wp2_with (first
            | (go_at_call 13; refine (HR.out _ hB3).mono ?_; rintro e w4 ⟨rfl, rfl⟩)
            | (go_at_call 10; refine (works_any _).mono ?_; rintro e w5 ⟨rfl, hB5⟩))
          go_ret
          exact ⟨rfl, Below.next hBkq (Below.next hB3 hB5)⟩

theorem walk (v : Value) (ls : List (List UInt8)) (w : World) (hM : Many w.heap.size w v ls) :
    Calls Try.prog 3 #[v] w fun e w' => e = .returned (.bool true) ∧ Below w.heap.size w w' := by
  obtain ⟨A, cap, rfl, _⟩ := id hM
  by_cases hl : ls.length ≤ 20
  · exact mid A cap ls w hl hM
  · have d1 : decide ((20 : Int) < (ls.length : Int)) = true := by simp; omega
    go_enter Try.func3, Try.ntmps3
    go_wp2_with (go_at_call 10; refine (works_any _).mono ?_; rintro e w3 ⟨rfl, hB3⟩)
    go_ret
    exact ⟨rfl, hB3⟩

theorem many_rows {w : World} {a : Addr} {len cap : Nat} (hl : len ≤ cap) {A : Nat → Option Addr} {L C : Nat → Nat} {Z : Nat → List Int}
    (h : ∀ r, r < cap → w.cell? (a.add r) = some (.slice (A r) (L r) (C r)) ∧ IsRow .u8 w (A r) (L r) (C r) (Z r)) : ∃ ls : List (List UInt8), Many w.heap.size w (.slice (some a) len cap) ls := by
  have each : ∀ r, ∃ l : List UInt8, r < cap → l.length = L r ∧ Bytes w.heap.size w (.slice (A r) (L r) (C r)) l := by
    intro r
    by_cases hr : r < cap
    · obtain ⟨l, h1, h2⟩ := row_bytes (h r hr).2
      exact ⟨l, fun _ => ⟨h1, h2⟩⟩
    · exact ⟨[], fun h => absurd h hr⟩
  let f : Nat → List UInt8 := fun r => (each r).choose
  have hf : ∀ r, r < cap → (f r).length = L r ∧ Bytes w.heap.size w (.slice (A r) (L r) (C r)) (f r) := fun r => (each r).choose_spec
  have hlen : ((List.range len).map f).length = len := by simp
  refine ⟨(List.range len).map f, some a, cap, by rw [hlen], by rw [hlen]; exact hl, fun hp => ?_⟩
  rw [hlen] at hp ⊢
  obtain ⟨b, off, spot⟩ := a
  have hc := (h 0 (by omega)).1
  have hspot : spot = none := by simpa [Addr.add] using World.cell?_spot hc
  subst hspot
  refine ⟨b, off, rfl, ?_, fun j hj => ⟨.slice (A j) (L j) (C j), ?_, ?_⟩⟩
  · have := block_lt_of_cell hc
    simpa [Addr.add] using this
  · rw [← addr_add]; exact (h j (by omega)).1
  · have e : ((List.range len).map f)[j]?.getD [] = f j := by
      rw [List.getElem?_map, List.getElem?_range hj]; rfl
    rw [e]
    exact (hf j (by omega)).2

set_option maxRecDepth 100000 in
theorem lifted (os : Os) (started : os.Started) (H : Type) (enc : TypeId × Value → H) :
    ReturnsInHanded {} Try.checked os 3 .any (Rows.crcSumsSpec.pre6 enc Try.prog Try.f3 Rows.crcSumsRow.domain false) (Rows.crcSumsSpec.post enc Try.prog Try.f3 false true false false) := by
  refine returnsInHanded_of_change (C := Try.checked) own started (by kernel_rfl) Try.func3
    (ChangeSpec.witness6 (enc := enc) (C := Try.checked) false ⟨#[], #[.slice none 0 0], []⟩ 8 (by kernel_rfl) (by kernel_rfl) (by kernel_rfl) (by kernel_rfl)) ?_
  intro W base args ds gs before hval0 hW hcnd _
  have hval : ∀ (j : Nat) t v, Try.f3.params[j]? = some t → args[j]? = some v → Value.okWide Try.prog W .any base t v := hval0
  have hW' := hW
  obtain ⟨p, q, hA0, hV, rfl, hfz, hnd⟩ := hW
  have hA : DataW.TrodAll enc Try.prog W 0 (fun _ => true) true Try.f3.params.toList args.toList ds p := hA0
  rw [Try.params3] at hA hval
  obtain ⟨v0, vs0, d0, ds0, p0, q0, hargs, rfl, rfl, h0, r0⟩ := trodAll_cons hA
  obtain ⟨rfl, rfl, rfl⟩ := trodAll_nil r0
  obtain rfl : args = #[v0] := by cases args; simp_all
  obtain ⟨rfl, rfl⟩ := trodVars_none hV
  obtain ⟨a0, len0, cap0, rfl⟩ := okWide_slice Try.underlying22 (hval 0 22 v0 rfl rfl)
  have k0 := h0
  have lt0 : ∀ x ∈ p0, x.block < W.heap.size := by obtain ⟨m, hm⟩ := k0; exact DataW.trod_lt m _ _ _ hm
  obtain ⟨ls, hM⟩ : ∃ ls, Many W.heap.size W (.slice a0 len0 cap0) ls := by
    obtain ⟨fuel, hf⟩ := h0
    rcases Deep.open_int_rows Try.underlying22 Try.underlying24 Try.underlying5 (by kernel_rfl) (by kernel_rfl) hf with ⟨hcs, _⟩ | ⟨x, l, c, AA, LL, CC, ZZ, hcs, _, hl, hm, _, hrows⟩
    · simp [Value.cells] at hcs
      obtain ⟨rfl, rfl, rfl⟩ := hcs
      exact ⟨[], Many.nil_ _ _ _ _⟩
    · simp [Value.cells] at hcs
      obtain ⟨rfl, rfl, rfl⟩ := hcs
      refine many_rows hl (A := AA) (L := LL) (C := CC) (Z := ZZ) fun r hr => ?_
      obtain ⟨q1, q2, q3, q4, q5, q6, q7⟩ := hrows r hr
      refine ⟨q1, ?_⟩
      cases hAr : AA r with
      | none =>
        have hC := q6 hAr
        refine .inl ⟨rfl, by omega, hC, List.eq_nil_of_length_eq_zero (by omega)⟩
      | some x => exact .inr ⟨x, rfl, q2, q3, q4, fun i hi => (q7 x hAr).2 i (by omega), q5⟩
  clear hA0 hval0
  refine (walk _ ls W hM).mono fun e W' ⟨he, bel⟩ => ?_
  subst he
  exact ⟨_, rfl, _, _, _, [], _, [], hW', trodAll_mk1 (shut_bool Try.underlying4 _), (trodAll_cons_mk (Below.trod laidOut (by kernel_rfl) (of_decide_eq_true (by kernel_rfl)) k0 bel lt0) trodAll_mk0), rfl, bel.frame _, fun h => by cases h⟩

theorem over : Rows.crcSumsRow.holds Try.pinned (OpenSpec.ofChange Rows.crcSumsSpec) :=
  OpenClaim.holds_of_wide 3 Try.f3 rfl rfl rfl rfl rfl rfl rfl ⟨rfl, rfl, rfl, rfl, rfl⟩ rfl rfl rfl rfl rfl (by kernel_rfl) Try.func3 (by kernel_rfl)
    (of_decide_eq_true (by kernel_rfl)) (by unfold Func.isWrapper; first | (rw [if_pos (by decide +kernel)]; kernel_rfl) | (rw [if_neg (by decide +kernel)]; exact ⟨rfl, rfl⟩))
    (fun os started H enc _ => lifted os started H enc)

theorem crcSums_holds : Rows.CrcSumsSaid := over
end Go.Proofs.Ytkgfahmajhfgbaa.crcSums
