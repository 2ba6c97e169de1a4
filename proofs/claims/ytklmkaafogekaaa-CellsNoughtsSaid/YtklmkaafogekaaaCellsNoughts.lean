/- The law CellsNoughts answers true for every input and leaves its arguments as they were. -/
import Derived.Test.YtklmkaafogekaaaCLawKit
namespace Go.Proofs.Ytklmkaafogekaaa.cellsNoughts
open Go.ChangeShapes Go.WideShapes Go.ChangeAt Go.RowKit Go.Shelf
set_option linter.unusedVariables false

theorem two_many {w : World} {v1 v2 : Value} {l1 l2 : List UInt8} (V : World) (hB : Below w.heap.size w V) (h1 : Bytes w.heap.size w v1 l1) (h2 : Bytes V.heap.size V v2 l2) :
    Many (V.alloc (.cells #[v1, v2] 25)).heap.size (V.alloc (.cells #[v1, v2] 25)) (.slice (some ⟨V.heap.size, 0, none⟩) 2 2) [l1, l2] := Many.two ((h1.below hB).more hB.size) h2

theorem xor_zero (l : List UInt8) : xorB (List.replicate l.length 0) l = l := by
  unfold xorB
  rw [List.length_replicate]
  conv => rhs; rw [tab_of l]
  refine tab_ext fun j hj => ?_
  have : at_ (List.replicate l.length (0 : UInt8)) j = 0 := by simp [at_, hj]
  rw [this, UInt8.zero_xor]
theorem xor_self (l : List UInt8) : xorB l l = List.replicate l.length 0 := by
  rw [show List.replicate l.length (0 : UInt8) = tab l.length (fun _ => 0) by unfold tab; rw [List.map_const', List.length_range]]
  exact tab_ext fun j _ => UInt8.xor_self
theorem xor_nought (l : List UInt8) : xorB l (List.replicate l.length 0) = l := by
  conv => rhs; rw [tab_of l]
  refine tab_ext fun j hj => ?_
  have : at_ (List.replicate l.length (0 : UInt8)) j = 0 := by simp [at_, hj]
  rw [this, UInt8.xor_zero]
theorem two_self (l : List UInt8) : xorOf [l, l] = List.replicate l.length 0 := by
  show xorB (xorB (List.replicate l.length 0) l) l = _
  rw [xor_zero, xor_self]
theorem two_nought (l : List UInt8) : xorOf [l, List.replicate l.length 0] = l := by
  show xorB (xorB (List.replicate l.length 0) l) _ = _
  rw [xor_zero, xor_nought]
theorem ok_self {a b : List UInt8} (hc : Cell a) (hl : b.length = a.length) : XorOk [a, b] := ⟨by simp, hc, fun j hj => by match j, hj with | 0, _ => rfl | 1, _ => exact hl⟩
theorem no_self {a b : List UInt8} (hc : ¬ Cell a) : ¬ XorOk [a, b] := fun h => hc h.2.1
theorem nought_zero (n : Nat) : places (List.replicate n 0) = [] := by
  rw [places_nil_iff]
  intro j hj
  rw [List.length_replicate] at hj
  simp [at_, hj]

set_option maxHeartbeats 600000 in
theorem walk (v : Value) (l : List UInt8) (w : World) (hb : Bytes w.heap.size w v l) :
    Calls Try.prog 8 #[v] w fun e w' => e = .returned (.bool true) ∧ Below w.heap.size w w' := by
  by_cases h100 : l.length ≤ 100
  · have d1 : decide ((100 : Int) < (l.length : Int)) = false := by simp; omega
    by_cases hc : Cell l
    · obtain ⟨h1, h64⟩ := id hc
      have d2 : decide ((l.length : Int) < 1) = false := by simp; omega
      have d3 : decide ((64 : Int) < (l.length : Int)) = false := by simp; omega
      have HZ := Lib.hid (zero_yes l.length h1 h64 w)
      have HX := Lib.hid (fun (V : World) (hB : Below w.heap.size w V) => xor_yes [l, l] _ _ (Nat.le_refl _) (two_many V hB hb ((hb.below hB).more hB.size)) (by simp) (ok_self hc rfl))
      have HY := Lib.hid (fun (V : World) (hB : Below w.heap.size w V) (u : Value) (hu : Bytes V.heap.size V u (List.replicate l.length 0)) => xor_yes [l, List.replicate l.length 0] _ _ (Nat.le_refl _) (two_many V hB hb hu) (by simp) (ok_self hc (by simp)))
      have HI := Lib.hid (fun (V : World) (u : Value) (hu : Bytes V.heap.size V u (List.replicate l.length 0)) => isZero_any u _ V hu)
      rw [two_self] at HX
      rw [two_nought] at HY
      have hd : decide (Cell (List.replicate l.length 0) ∧ places (List.replicate l.length 0) = []) = true := decide_eq_true ⟨by unfold Cell; rw [List.length_replicate]; exact hc, nought_zero _⟩
      rw [hd] at HI
      have hbt := Lib.hid hb
      obtain ⟨A, cap, rfl, _, _⟩ := id hb
      clear hb hc hd
      have hrl : (List.replicate l.length (0 : UInt8)).length = l.length := by simp
      generalize List.replicate l.length (0 : UInt8) = z at *
      go_enter Try.func8, Try.ntmps8
      go_wp2_with fail
      refine HZ.out.mono ?_
      rintro e w1 ⟨vz, rfl, hFz, hB1⟩
      obtain ⟨Az, cz, rfl⟩ := hFz.bytes.form hrl
      go_wp2_with fail
      refine (HX.out w1 hB1).mono ?_
      rintro e w2 ⟨vx, rfl, hFx, hB2⟩
      have hB12 : Below w1.heap.size w1 w2 := ((Below.refl _ w1).alloc (Nat.le_refl _) _).trans (hB2.mono (by simp))
      have hBw2 := Below.next hB1 hB12
      obtain ⟨Ax, cx, rfl⟩ := hFx.bytes.form hrl
      have hFz2 := hFz.below hB12
      go_wp2_with fail
      refine (HY.out w2 hBw2 _ hFz2.bytes).mono ?_
      rintro e w3 ⟨vy, rfl, hFy, hB3⟩
      have hB23 : Below w2.heap.size w2 w3 := ((Below.refl _ w2).alloc (Nat.le_refl _) _).trans (hB3.mono (by simp))
      have hBw3 := Below.next hBw2 hB23
      obtain ⟨Ay, cy, rfl⟩ := hFy.bytes.form (n := l.length) rfl
      have hbx := hFx.bytes.below hB23
      have hbz := hFz2.bytes.below hB23
      have c1 := run_txt w3 hbx
      have c2 := run_txt w3 hbz
      have HYb := Lib.hid hFy.bytes
      have HIx := Lib.hid (HI.out w3 _ (hbx.more hB23.size))
      clear hFz hFx hFy hFz2 hbx hbz HZ HX HY HI hrl
      go_wp2_with (first
        | (go_at_call 14; refine (num_any _ _).mono ?_; rintro e w' ⟨rfl, rfl⟩)
        | (go_at_call 16; refine HIx.out.mono ?_; rintro e w4 ⟨rfl, hB4⟩; have hBw4 := Below.next hBw3 hB4; have c3 := run_txt w4 (HYb.out.below hB4); have c4 := run_txt w4 (hbt.out.below hBw4))
        | (go_at_call 11; refine (works_in _ hBw4).mono ?_; rintro e wf ⟨rfl, hBf⟩))
      go_ret
      exact ⟨rfl, hBf⟩
    · have hnot : ¬ (1 ≤ (l.length : Int) ∧ (l.length : Int) ≤ 64) := fun h => hc (by unfold Cell; omega)
      have HZ := Lib.hid (zero_no (l.length : Int) hnot w)
      have HX := Lib.hid (fun (V : World) (hB : Below w.heap.size w V) => xor_no [l, l] _ _ (Nat.le_refl _) (two_many V hB hb ((hb.below hB).more hB.size)) (by simp) (no_self hc))
      have HY := Lib.hid (fun (V : World) (hB : Below w.heap.size w V) => xor_no [l, []] _ _ (Nat.le_refl _) (two_many V hB hb (Bytes.nil_ V.heap.size V none 0)) (by simp) (no_self hc))
      obtain ⟨A, cap, rfl, _, _⟩ := id hb
      have key : ∀ b : Bool, decide ((l.length : Int) < 1) = b → Calls Try.prog 8 #[.slice A l.length cap] w fun e w' => e = .returned (.bool true) ∧ Below w.heap.size w w' := by
        intro b hbb
        have d3 : b = true ∨ decide ((64 : Int) < (l.length : Int)) = true := by
          rcases Bool.eq_false_or_eq_true b with h | h
          · exact .inl h
          · right
            rw [h] at hbb
            have := of_decide_eq_false hbb
            rw [decide_eq_true_iff]; unfold Cell at hc; omega
        clear hb hc hnot
        rcases d3 with rfl | d3
        · go_enter Try.func8, Try.ntmps8
          go_wp2_with fail
          refine HZ.out.mono ?_
          rintro e w1 ⟨rfl, hB1⟩
          go_wp2_with fail
          refine (HX.out w1 hB1).mono ?_
          rintro e w2 ⟨rfl, hB2⟩
          have hBw2 := Below.next hB1 (((Below.refl _ w1).alloc (Nat.le_refl _) _).trans (hB2.mono (by simp)))
          go_wp2_with fail
          refine (HY.out w2 hBw2).mono ?_
          rintro e w3 ⟨rfl, hB3⟩
          have hBw3 := Below.next hBw2 (((Below.refl _ w2).alloc (Nat.le_refl _) _).trans (hB3.mono (by simp)))
          go_wp2_with (first
            | (go_at_call 14; refine (num_any _ _).mono ?_; rintro e w' ⟨rfl, rfl⟩)
            | (go_at_call 11; refine (works_in _ hBw3).mono ?_; rintro e wf ⟨rfl, hBf⟩))
          go_ret
          exact ⟨rfl, hBf⟩
        · rcases Bool.eq_false_or_eq_true b with rfl | rfl
          · exfalso
            have := of_decide_eq_true hbb
            have := of_decide_eq_true d3
            omega
          · go_enter Try.func8, Try.ntmps8
            go_wp2_with fail
            refine HZ.out.mono ?_
            rintro e w1 ⟨rfl, hB1⟩
            go_wp2_with fail
            refine (HX.out w1 hB1).mono ?_
            rintro e w2 ⟨rfl, hB2⟩
            have hBw2 := Below.next hB1 (((Below.refl _ w1).alloc (Nat.le_refl _) _).trans (hB2.mono (by simp)))
            go_wp2_with fail
            refine (HY.out w2 hBw2).mono ?_
            rintro e w3 ⟨rfl, hB3⟩
            have hBw3 := Below.next hBw2 (((Below.refl _ w2).alloc (Nat.le_refl _) _).trans (hB3.mono (by simp)))
            go_wp2_with (first
              | (go_at_call 14; refine (num_any _ _).mono ?_; rintro e w' ⟨rfl, rfl⟩)
              | (go_at_call 11; refine (works_in _ hBw3).mono ?_; rintro e wf ⟨rfl, hBf⟩))
            go_ret
            exact ⟨rfl, hBf⟩
      exact key _ rfl
  · have d1 : decide ((100 : Int) < (l.length : Int)) = true := by simp; omega
    obtain ⟨A, cap, rfl, _, _⟩ := id hb
    go_enter Try.func8, Try.ntmps8
    go_wp2_with (go_at_call 11; refine (works_any _).mono ?_; rintro e wf ⟨rfl, hBf⟩)
    go_ret
    exact ⟨rfl, hBf⟩

set_option maxRecDepth 100000 in
theorem lifted (os : Os) (started : os.Started) (H : Type) (enc : TypeId × Value → H) :
    ReturnsInHanded {} Try.checked os 8 .any (Rows.cellsNoughtsSpec.pre6 enc Try.prog Try.f8 Rows.cellsNoughtsRow.domain false) (Rows.cellsNoughtsSpec.post enc Try.prog Try.f8 false true false false) := by
  refine returnsInHanded_of_change (C := Try.checked) own started (by kernel_rfl) Try.func8
    (ChangeSpec.witness6 (enc := enc) (C := Try.checked) false ⟨#[], #[.slice none 0 0], []⟩ 8 (by kernel_rfl) (by kernel_rfl) (by kernel_rfl) (by kernel_rfl)) ?_
  intro W base args ds gs before hval0 hW hcnd _
  have hval : ∀ (j : Nat) t v, Try.f8.params[j]? = some t → args[j]? = some v → Value.okWide Try.prog W .any base t v := hval0
  have hW' := hW
  obtain ⟨p, q, hA0, hV, rfl, hfz, hnd⟩ := hW
  have hA : DataW.TrodAll enc Try.prog W 0 (fun _ => true) true Try.f8.params.toList args.toList ds p := hA0
  rw [Try.params8] at hA hval
  obtain ⟨v0, vs0, d0, ds0, p0, q0, hargs, rfl, rfl, h0, r0⟩ := trodAll_cons hA
  obtain ⟨rfl, rfl, rfl⟩ := trodAll_nil r0
  obtain rfl : args = #[v0] := by cases args; simp_all
  obtain ⟨rfl, rfl⟩ := trodVars_none hV
  obtain ⟨a0, len0, cap0, rfl⟩ := okWide_slice Try.underlying25 (hval 0 25 v0 rfl rfl)
  have k0 := h0
  have lt0 : ∀ x ∈ p0, x.block < W.heap.size := by obtain ⟨m, hm⟩ := k0; exact DataW.trod_lt m _ _ _ hm
  obtain ⟨z0, w0⟩ : ∃ zs, IsRow .u8 W a0 len0 cap0 zs := by
    obtain ⟨fuel, hf⟩ := h0
    rcases open_ints Try.underlying25 Try.underlying5 (by kernel_rfl) hf with ⟨hcs, _⟩ | ⟨x, l, c, zs, hcs, _, hl, hm, hz, _, hcell, hwz⟩
    · simp [Value.cells] at hcs
      obtain ⟨rfl, rfl, rfl⟩ := hcs
      exact ⟨[], .inl ⟨rfl, rfl, rfl, rfl⟩⟩
    · simp [Value.cells] at hcs
      obtain ⟨rfl, rfl, rfl⟩ := hcs
      exact ⟨zs, .inr ⟨_, rfl, hl, hm, by simpa using hz, hcell, hwz⟩⟩
  obtain ⟨l0, _, hb0⟩ := row_bytes w0
  clear hA0 hval0
  refine (walk _ l0 W hb0).mono fun e W' ⟨he, bel⟩ => ?_
  subst he
  exact ⟨_, rfl, _, _, _, [], _, [], hW', trodAll_mk1 (shut_bool Try.underlying4 _), (trodAll_cons_mk (Below.trod laidOut (by kernel_rfl) (of_decide_eq_true (by kernel_rfl)) k0 bel lt0) trodAll_mk0), rfl, bel.frame _, fun h => by cases h⟩

theorem over : Rows.cellsNoughtsRow.holds Try.pinned (OpenSpec.ofChange Rows.cellsNoughtsSpec) :=
  OpenClaim.holds_of_wide 8 Try.f8 rfl rfl rfl rfl rfl rfl rfl ⟨rfl, rfl, rfl, rfl, rfl⟩ rfl rfl rfl rfl rfl (by kernel_rfl) Try.func8 (by kernel_rfl)
    (of_decide_eq_true (by kernel_rfl)) (by unfold Func.isWrapper; first | (rw [if_pos (by decide +kernel)]; kernel_rfl) | (rw [if_neg (by decide +kernel)]; exact ⟨rfl, rfl⟩))
    (fun os started H enc _ => lifted os started H enc)

theorem cellsNoughts_holds : Rows.CellsNoughtsSaid := over
end Go.Proofs.Ytklmkaafogekaaa.cellsNoughts
