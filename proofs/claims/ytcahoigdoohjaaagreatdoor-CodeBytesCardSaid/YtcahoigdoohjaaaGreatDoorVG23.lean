/- - -/
import Derived.Test.YtcahoigdoohjaaaGreatDoorVG22
import Derived.Test.YtcahoigdoohjaaaGreatDoorVG13
import Derived.Test.YtcahoigdoohjaaaGreatDoorVG6
import Derived.Test.YtcahoigdoohjaaaGreatDoorVSA
import Derived.Test.YtcahoigdoohjaaaGreatDoorVG1
import Derived.Deep.Matrix
import Derived.ShutString
import Derived.ChangeOld
namespace Go.Proofs.YtcahoigdoohjaaaGreatDoor.Cd
open Go.RowKit Go.Shelf Go.Maps Go.Proofs.YtcahoigdoohjaaaGreatDoor.C Go.Proofs.YtcahoigdoohjaaaGreatDoor.E Go.Proofs.YtcahoigdoohjaaaGreatDoor.Q
set_option linter.unusedSimpArgs false
set_option linter.unusedVariables false
attribute [local go_sem] Oper.semAt_some

theorem enter_change1 : ∀ args W, (callFunc 69 args).run Tryz.prog W = .ok (.enter 69 args) W := enters_of Tryz.func69 (by kernel_rfl) rfl
set_option maxRecDepth 100000 in
set_option maxHeartbeats 2000000 in
theorem change_yes {B : Nat} (k p : Int) (v : Value) (s : List (List (List UInt8))) (x y : Int) (c : List UInt8) (vc : Value) (h : AllK k p s) (hc : c.length = (firstC s).length) (hx : 0 ≤ x ∧ x < p - shortN k) (hy : 0 ≤ y ∧ y < p - 1) (w : World) (hL : Laid w) (hB : B ≤ w.heap.size) (hC : Cols B w v s) (hb : Bytes B w vc c) :
    Calls Tryz.prog 29 #[.agg #[.int .i64 k, .int .i64 p], v, .agg #[.int .i64 x, .int .i64 y], vc] w fun e w' => ∃ A m cc A2 n2 c2, e = .returned (.tuple #[.slice A m cc, .slice A2 n2 c2, .int .i64 0]) ∧ sepC.R (fun b => w.heap.size ≤ b ∧ b < w'.heap.size) w' (.slice A m cc) (chgK k p s x y c) ∧ ReadP w'.heap.size w' (.slice A2 n2 c2) (touL k p x y) ∧ Below w.heap.size w w' := by
  have hln := all_len h
  have hne := (chg_list h.1.1 hx hy).2.2
  obtain ⟨A, cap, rfl, _, _⟩ := id hC
  obtain ⟨Ac, capc, rfl, _, _⟩ := id hb
  obtain ⟨W2, hW2⟩ : ∃ W2, ((((w).alloc (.cells #[.int .i64 k, .int .i64 p] 24)).alloc (.cells #[.slice A s.length cap] 28)).alloc (.cells #[.int .i64 x, .int .i64 y] 57)).alloc (.cells #[.slice Ac c.length capc] 32) = W2 := ⟨_, rfl⟩
  have hBW : Below w.heap.size w W2 := by rw [← hW2]; exact ((below_two w _ _).alloc (by simp; omega) _).alloc (by simp; omega) _
  have S2 : Hid (W2.heap.size = w.heap.size + 4) := by unfold Hid; rw [← hW2]; simp
  have b0 : Blk W2 (w.heap.size) 24 #[.int .i64 k, .int .i64 p] := by rw [← hW2]; exact (((Blk.new (w) 24 #[.int .i64 k, .int .i64 p]).alloc (.cells #[.slice A s.length cap] 28)).alloc (.cells #[.int .i64 x, .int .i64 y] 57)).alloc (.cells #[.slice Ac c.length capc] 32)
  have b1 : Blk W2 (w.heap.size + 1) 28 #[.slice A s.length cap] := by rw [← hW2]; exact ((Blk.at_size (Blk.new ((w).alloc (.cells #[.int .i64 k, .int .i64 p] 24)) 28 #[.slice A s.length cap]) (by simp)).alloc (.cells #[.int .i64 x, .int .i64 y] 57)).alloc (.cells #[.slice Ac c.length capc] 32)
  have b2 : Blk W2 (w.heap.size + 2) 57 #[.int .i64 x, .int .i64 y] := by rw [← hW2]; exact (Blk.at_size (Blk.new (((w).alloc (.cells #[.int .i64 k, .int .i64 p] 24)).alloc (.cells #[.slice A s.length cap] 28)) 57 #[.int .i64 x, .int .i64 y]) (by simp)).alloc (.cells #[.slice Ac c.length capc] 32)
  have b3 : Blk W2 (w.heap.size + 3) 32 #[.slice Ac c.length capc] := by rw [← hW2]; exact Blk.at_size (Blk.new ((((w).alloc (.cells #[.int .i64 k, .int .i64 p] 24)).alloc (.cells #[.slice A s.length cap] 28)).alloc (.cells #[.int .i64 x, .int .i64 y] 57)) 32 #[.slice Ac c.length capc]) (by simp)
  have hL2 := hL.next hBW
  have HA := Lib.hid (ans_H_yes 69 #[.pointer (some ⟨w.heap.size, 0, none⟩), .pointer (some ⟨w.heap.size + 1, 0, none⟩), .pointer (some ⟨w.heap.size + 2, 0, none⟩), .pointer (some ⟨w.heap.size + 3, 0, none⟩)] W2 (fun u W => ∃ A m cc A2 n2 c2, u = .agg #[.slice A m cc, .slice A2 n2 c2] ∧ sepC.R (fun b => W2.heap.size + 2 ≤ b ∧ b < W.heap.size) W (.slice A m cc) (chgK k p s x y c) ∧ ReadP W.heap.size W (.slice A2 n2 c2) (touL k p x y)) (enter_change1 _) (fun u W W' hP e0 e1 hk hsz => by
    obtain ⟨A, m, cc, A2, n2, c2, rfl, h1, g9, cap9, e9, hg9, hc9⟩ := hP
    have h0 : 0 < (touL k p x y).length := List.length_pos_iff.2 hne
    have hn0 : g9 ≠ W2.heap.size := fun e => by
      have h2 := (hc9 0 h0).1
      rw [e, Nat.zero_mul, e0.cell 0] at h2
      cases h2
    have hn1 : g9 ≠ W2.heap.size + 1 := fun e => by
      have h2 := (hc9 0 h0).2
      rw [e, Nat.zero_mul, e1.cell 1] at h2
      cases h2
    refine ⟨A, m, cc, A2, n2, c2, rfl, sepC.imp (sepC.keep h1 fun q hq => hk q (by have h3 : W2.heap.size + 2 ≤ q ∧ q < W.heap.size := hq; constructor <;> omega)) (fun q hq => by rw [← hsz]; exact hq), g9, cap9, e9, by rw [← hsz]; exact hg9, fun i hi => ⟨(World.cell?_of_block (hk g9 ⟨hn0, hn1⟩)).trans (hc9 i hi).1, (World.cell?_of_block (hk g9 ⟨hn0, hn1⟩)).trans (hc9 i hi).2⟩⟩) (fun U hU hsU => by
    have hLU := hL2.next hU
    have hBU := below_in hBW hU
    have hCU := hC.below (hBU.mono hB)
    have hbU := hb.below (hBU.mono hB)
    have hBu := Nat.le_trans hB hBU.size
    have HQ := Lib.hid (fun (V : World) (hV : Below U.heap.size U V) => asked_yes (B := B) 48 k p (.slice A s.length cap) s (by have h2 := many_cols k p; rwa [← h.1.2] at h2) h.1.1 V (hLU.next hV) (Nat.le_trans hBu hV.size) (hCU.below (hV.mono hBu)) (by omega) h.2)
    have HCH := Lib.hid (fun (V : World) (hV : Below U.heap.size U V) => changed_yes (B := B) k p (.slice A s.length cap) s x y c (.slice Ac c.length capc) h hc hx hy V (hLU.next hV) (Nat.le_trans hBu hV.size) (hCU.below (hV.mono hBu)) (hbU.below (hV.mono hBu)))
    have HSS : Hid (∀ V, Below U.heap.size U V → (fun U : World => U.cell? ⟨w.heap.size, 0, none⟩ = some (.int .i64 k) ∧ U.cell? ⟨w.heap.size, 1, none⟩ = some (.int .i64 p) ∧ U.cell? ⟨w.heap.size + 1, 0, none⟩ = some (.slice A s.length cap) ∧ U.cell? ⟨w.heap.size + 2, 0, none⟩ = some (.int .i64 x) ∧ U.cell? ⟨w.heap.size + 2, 1, none⟩ = some (.int .i64 y) ∧ U.cell? ⟨w.heap.size + 3, 0, none⟩ = some (.slice Ac c.length capc)) V) := fun V hV => ⟨((b0.below hU b0.lt).below hV (b0.below hU b0.lt).lt).cell 0, ((b0.below hU b0.lt).below hV (b0.below hU b0.lt).lt).cell 1, ((b1.below hU b1.lt).below hV (b1.below hU b1.lt).lt).cell 0, ((b2.below hU b2.lt).below hV (b2.below hU b2.lt).lt).cell 0, ((b2.below hU b2.lt).below hV (b2.below hU b2.lt).lt).cell 1, ((b3.below hU b3.lt).below hV (b3.below hU b3.lt).lt).cell 0⟩
    have HSV : Hid (∀ V u1 u2, (fun U : World => U.cell? ⟨w.heap.size, 0, none⟩ = some (.int .i64 k) ∧ U.cell? ⟨w.heap.size, 1, none⟩ = some (.int .i64 p) ∧ U.cell? ⟨w.heap.size + 1, 0, none⟩ = some (.slice A s.length cap) ∧ U.cell? ⟨w.heap.size + 2, 0, none⟩ = some (.int .i64 x) ∧ U.cell? ⟨w.heap.size + 2, 1, none⟩ = some (.int .i64 y) ∧ U.cell? ⟨w.heap.size + 3, 0, none⟩ = some (.slice Ac c.length capc)) V → (fun U : World => U.cell? ⟨w.heap.size, 0, none⟩ = some (.int .i64 k) ∧ U.cell? ⟨w.heap.size, 1, none⟩ = some (.int .i64 p) ∧ U.cell? ⟨w.heap.size + 1, 0, none⟩ = some (.slice A s.length cap) ∧ U.cell? ⟨w.heap.size + 2, 0, none⟩ = some (.int .i64 x) ∧ U.cell? ⟨w.heap.size + 2, 1, none⟩ = some (.int .i64 y) ∧ U.cell? ⟨w.heap.size + 3, 0, none⟩ = some (.slice Ac c.length capc)) ((V.setCell ⟨U.heap.size, 0, none⟩ u1).setCell ⟨U.heap.size, 1, none⟩ u2)) := fun V u1 u2 hS => by
      have h0 := (b0.below hU b0.lt).lt
      have h1 := (b1.below hU b1.lt).lt
      have h2 := (b2.below hU b2.lt).lt
      have h3 := (b3.below hU b3.lt).lt
      have hkk : ∀ q : Addr, q.block < U.heap.size → ((V.setCell ⟨U.heap.size, 0, none⟩ u1).setCell ⟨U.heap.size, 1, none⟩ u2).cell? q = V.cell? q := fun q hq => World.cell?_of_block ((Below.heap_setCell _ ⟨U.heap.size, 1, none⟩ u2 q.block (Nat.ne_of_lt hq)).trans (Below.heap_setCell V ⟨U.heap.size, 0, none⟩ u1 q.block (Nat.ne_of_lt hq)))
      obtain ⟨q0, q1, q2, q3, q4, q5⟩ := hS
      exact ⟨(hkk ⟨w.heap.size, 0, none⟩ h0).trans q0, (hkk ⟨w.heap.size, 1, none⟩ h0).trans q1, (hkk ⟨w.heap.size + 1, 0, none⟩ h1).trans q2, (hkk ⟨w.heap.size + 2, 0, none⟩ h2).trans q3, (hkk ⟨w.heap.size + 2, 1, none⟩ h2).trans q4, (hkk ⟨w.heap.size + 3, 0, none⟩ h3).trans q5⟩
    have hBz := below_one U (.cells #[.slice none 0 0, .slice none 0 0] 106)
    have bz := Blk.new U 106 #[.slice none 0 0, .slice none 0 0]
    have HNE : Hid (0 < (touL k p x y).length) := List.length_pos_iff.2 hne
    have hlU : W2.heap.size ≤ U.heap.size := hU.size
    clear hb hC hCU hbU b0 b1 b2 b3 hW2 hL hL2 hLU h hc hx hy hln hne
    generalize touL k p x y = tl at *
    generalize chgK k p s x y c = cg at *
    generalize s.length = N at *
    generalize c.length = nc at *
    obtain ⟨Uz, hUz⟩ : ∃ Uz, U.alloc (.cells #[.slice none 0 0, .slice none 0 0] 106) = Uz := ⟨_, rfl⟩
    rw [hUz] at hBz bz
    refine (callsIn_wide (n := 9)).1 ?_
    refine callsIn_of_wp_marks Tryz.func69 rfl trivial ?_ rfl
    simp only [Tryz.ntmps69, List.size_toArray, List.length_cons, List.length_nil, Nat.reduceAdd, Nat.reduceSub, Array.replicate_succ, Array.replicate_zero, List.push_toArray, List.append_toArray, List.nil_append, List.cons_append]
    gi_wp2_with fail
    have hBx : Below Uz.heap.size Uz Uz.drew := (Below.refl _ _).drew
    have HSS2 := Lib.hid (fun (V : World) (hV : Below Uz.heap.size Uz V) => HSS.out V (below_in hBz hV))
    have hS : (fun U : World => U.cell? ⟨w.heap.size, 0, none⟩ = some (.int .i64 k) ∧ U.cell? ⟨w.heap.size, 1, none⟩ = some (.int .i64 p) ∧ U.cell? ⟨w.heap.size + 1, 0, none⟩ = some (.slice A N cap) ∧ U.cell? ⟨w.heap.size + 2, 0, none⟩ = some (.int .i64 x) ∧ U.cell? ⟨w.heap.size + 2, 1, none⟩ = some (.int .i64 y) ∧ U.cell? ⟨w.heap.size + 3, 0, none⟩ = some (.slice Ac nc capc)) Uz.drew := HSS2.out _ hBx
    refine wpIn_mono (region_HF (Q := NoPanic _) (S := (fun U : World => U.cell? ⟨w.heap.size, 0, none⟩ = some (.int .i64 k) ∧ U.cell? ⟨w.heap.size, 1, none⟩ = some (.int .i64 p) ∧ U.cell? ⟨w.heap.size + 1, 0, none⟩ = some (.slice A N cap) ∧ U.cell? ⟨w.heap.size + 2, 0, none⟩ = some (.int .i64 x) ∧ U.cell? ⟨w.heap.size + 2, 1, none⟩ = some (.int .i64 y) ∧ U.cell? ⟨w.heap.size + 3, 0, none⟩ = some (.slice Ac nc capc))) (by kernel_rfl) ?_) NoPanic.imp
    refine anyHF_take (i := 0) (d := 5) (v := .agg #[.int .i64 k, .int .i64 p]) (by kernel_rfl) rfl (by kernel_rfl) (by kernel_rfl) (by kernel_rfl) rfl (fun _ _ _ h => h) ⟨Or.inl ⟨by rfl, fun w hS => by obtain ⟨h0, h1, h2, h3, h4, h5⟩ := hS; go_simp⟩, fun _ => rfl⟩ hS ?_
    simp only [List.setIfInBounds_toArray, List.set_cons_zero, List.set_cons_succ]
    refine anyHF_take (i := 1) (d := 6) (v := .slice A N cap) (by kernel_rfl) rfl (by kernel_rfl) (by kernel_rfl) (by kernel_rfl) rfl (fun _ _ _ h => h) ⟨Or.inl ⟨by rfl, fun w hS => by obtain ⟨h0, h1, h2, h3, h4, h5⟩ := hS; go_simp⟩, fun _ => rfl⟩ hS ?_
    simp only [List.setIfInBounds_toArray, List.set_cons_zero, List.set_cons_succ]
    refine anyHF_take (i := 3) (d := 8) (v := .agg #[.int .i64 x, .int .i64 y]) (by kernel_rfl) rfl (by kernel_rfl) (by kernel_rfl) (by kernel_rfl) rfl (fun _ _ _ h => h) ⟨Or.inl ⟨by rfl, fun w hS => by obtain ⟨h0, h1, h2, h3, h4, h5⟩ := hS; go_simp⟩, fun _ => rfl⟩ hS ?_
    simp only [List.setIfInBounds_toArray, List.set_cons_zero, List.set_cons_succ]
    refine anyHF_take (i := 4) (d := 9) (v := .slice Ac nc capc) (by kernel_rfl) rfl (by kernel_rfl) (by kernel_rfl) (by kernel_rfl) rfl (fun _ _ _ h => h) ⟨Or.inl ⟨by rfl, fun w hS => by obtain ⟨h0, h1, h2, h3, h4, h5⟩ := hS; go_simp⟩, fun _ => rfl⟩ hS ?_
    simp only [List.setIfInBounds_toArray, List.set_cons_zero, List.set_cons_succ]
    refine anyHF_one (i := 2) (by kernel_rfl) rfl (by kernel_rfl) (by rfl) ?_
    gi_wp2_with fail
    refine ⟨trivial, (callsIn_wide.2 (HQ.out _ (below_in hBz hBx))).mono ?_⟩
    rintro e wn ⟨rfl, hB1⟩
    replace hBx := below_in hBx hB1
    clear hS
    have hS : (fun U : World => U.cell? ⟨w.heap.size, 0, none⟩ = some (.int .i64 k) ∧ U.cell? ⟨w.heap.size, 1, none⟩ = some (.int .i64 p) ∧ U.cell? ⟨w.heap.size + 1, 0, none⟩ = some (.slice A N cap) ∧ U.cell? ⟨w.heap.size + 2, 0, none⟩ = some (.int .i64 x) ∧ U.cell? ⟨w.heap.size + 2, 1, none⟩ = some (.int .i64 y) ∧ U.cell? ⟨w.heap.size + 3, 0, none⟩ = some (.slice Ac nc capc)) wn := HSS2.out _ hBx
    gi_wp2
    try (refine ⟨hS, ?_⟩)
    refine anyHF_one (i := 5) (by kernel_rfl) rfl (by kernel_rfl) (by rfl) ?_
    gi_wp2_with fail
    refine ⟨trivial, (callsIn_wide.2 (HCH.out _ (below_in hBz hBx))).mono ?_⟩
    rintro e wm ⟨cA, cn, cc, hA, hn, hc2, rfl, hsep, hrd, hB2⟩
    have hsn := hBx.size
    replace hBx := below_in hBx hB2
    clear hS
    have hS : (fun U : World => U.cell? ⟨w.heap.size, 0, none⟩ = some (.int .i64 k) ∧ U.cell? ⟨w.heap.size, 1, none⟩ = some (.int .i64 p) ∧ U.cell? ⟨w.heap.size + 1, 0, none⟩ = some (.slice A N cap) ∧ U.cell? ⟨w.heap.size + 2, 0, none⟩ = some (.int .i64 x) ∧ U.cell? ⟨w.heap.size + 2, 1, none⟩ = some (.int .i64 y) ∧ U.cell? ⟨w.heap.size + 3, 0, none⟩ = some (.slice Ac nc capc)) wm := HSS2.out _ hBx
    gi_wp2
    try (refine ⟨hS, ?_⟩)
    refine anyHF_one (i := 6) (by kernel_rfl) rfl (by kernel_rfl) (by rfl) ?_
    have bzm := bz.below hBx bz.lt
    have g0 := bzm.cell 0
    have g1 := bzm.cell 1
    have f0 := bzm.frozen 0
    have f1 := bzm.frozen 1
    simp only [List.getElem?_toArray, List.getElem?_cons_zero, List.getElem?_cons_succ] at g0 g1
    have hSV : (fun U : World => U.cell? ⟨w.heap.size, 0, none⟩ = some (.int .i64 k) ∧ U.cell? ⟨w.heap.size, 1, none⟩ = some (.int .i64 p) ∧ U.cell? ⟨w.heap.size + 1, 0, none⟩ = some (.slice A N cap) ∧ U.cell? ⟨w.heap.size + 2, 0, none⟩ = some (.int .i64 x) ∧ U.cell? ⟨w.heap.size + 2, 1, none⟩ = some (.int .i64 y) ∧ U.cell? ⟨w.heap.size + 3, 0, none⟩ = some (.slice Ac nc capc)) ((wm.setCell ⟨U.heap.size, 0, none⟩ (.slice cA cn cc)).setCell ⟨U.heap.size, 1, none⟩ (.slice hA hn hc2)) := HSV.out _ _ _ hS
    gi_wp2_with fail
    try (refine ⟨hSV, ?_⟩)
    refine anyHF_done (by kernel_rfl) ?_ _
    refine NoPanic.normal ?_
    have r := (bzm.set_ 0 (.slice cA cn cc)).set_ 1 (.slice hA hn hc2)
    have r0 := r.cell 0
    have r1 := r.cell 1
    simp only [List.setIfInBounds_toArray, List.set_cons_zero, List.set_cons_succ, List.getElem?_toArray, List.getElem?_cons_zero, List.getElem?_cons_succ] at r0 r1
    have hkk : ∀ q : Nat, q ≠ U.heap.size → ((wm.setCell ⟨U.heap.size, 0, none⟩ (.slice cA cn cc)).setCell ⟨U.heap.size, 1, none⟩ (.slice hA hn hc2)).heap[q]? = wm.heap[q]? := fun q hq => (Below.heap_setCell _ ⟨U.heap.size, 1, none⟩ _ q hq).trans (Below.heap_setCell wm ⟨U.heap.size, 0, none⟩ _ q hq)
    have hsz : ((wm.setCell ⟨U.heap.size, 0, none⟩ (.slice cA cn cc)).setCell ⟨U.heap.size, 1, none⟩ (.slice hA hn hc2)).heap.size = wm.heap.size := by simp
    have hU1 : U.heap.size < Uz.heap.size := bz.lt
    have hg0 := bzm.cell 0
    gi_wp2
    refine ⟨.agg #[.slice cA cn cc, .slice hA hn hc2], by simp [results, Tryz.results69, go_sem, r0, r1], cA, cn, cc, hA, hn, hc2, rfl, ⟨cA, cn, cc, hA, hn, hc2, rfl, ?_, ?_⟩, ?_⟩
    · refine sepC.imp (sepC.keep hsep fun q hq => hkk q (by have h9 : wn.heap.size < q ∧ q < wm.heap.size := hq; omega)) fun q hq => ?_
      have h9 : wn.heap.size < q ∧ q < wm.heap.size := hq
      rw [hsz]
      exact ⟨by omega, h9.2⟩
    · obtain ⟨g9, cap9, e9, hg9, hc9⟩ := hrd
      have hne9 : g9 ≠ U.heap.size := fun e => by
        have h1 := (hc9 0 HNE.out).1
        rw [e, Nat.zero_mul, hg0] at h1
        cases h1
      refine ⟨g9, cap9, e9, by rw [hsz]; exact hg9, fun i hi => ⟨?_, ?_⟩⟩
      · exact (World.cell?_of_block (hkk g9 hne9)).trans (hc9 i hi).1
      · exact (World.cell?_of_block (hkk g9 hne9)).trans (hc9 i hi).2
    · exact ((below_in hBz hBx).setCell (by show U.heap.size ≤ U.heap.size; omega) _).setCell (by show U.heap.size ≤ U.heap.size; omega) _
    ))
  clear hb hC b0 b1 b2 b3 hL2 h hc hx hy hln hL
  obtain ⟨tl, htl⟩ : ∃ tl, touL k p x y = tl := ⟨_, rfl⟩
  rw [htl] at HA hne ⊢
  have HNE2 : Hid (0 < tl.length) := List.length_pos_iff.2 hne
  clear htl hne
  generalize chgK k p s x y c = cg at *
  generalize s.length = N at *
  generalize c.length = nc at *
  go_enter Tryz.func29, Tryz.ntmps29
  have hmf : ∀ (fn : Fn) (first cap : Array Value) (w : World), (Instr.makeFunc fn first cap).run Tryz.prog w = .ok (.func fn first cap) w := fun _ _ _ _ => rfl
  go_wp2_with (go_at_call 68; refine HA.out.mono ?_; rintro e w1 ⟨u, rfl, ⟨cA, cn, cc, hA, hn, hc2, rfl, hsep, hrd⟩, hB1⟩)
  have bq := Blk.new w1 106 #[.slice cA cn cc, .slice hA hn hc2]
  have hBq := below_one w1 (.cells #[.slice cA cn cc, .slice hA hn hc2] 106)
  have c0 := bq.cell 0
  have c1 := bq.cell 1
  simp only [List.getElem?_toArray, List.getElem?_cons_zero, List.getElem?_cons_succ] at c0 c1
  obtain ⟨wq, hwq⟩ : ∃ wq, w1.alloc (.cells #[.slice cA cn cc, .slice hA hn hc2] 106) = wq := ⟨_, rfl⟩
  rw [hwq] at hBq c0 c1 ⊢
  go_region
  go_wp2
  go_ret3
  have s2 := S2.out
  have hsw := hBW.size
  refine ⟨cA, cn, cc, hA, hn, hc2, rfl, ?_, ?_, below_in (below_in hBW hB1) hBq.drew⟩
  · refine sepC.imp (sepC.keep hsep fun q hq => hBq.drew.block q (by have h9 : W2.heap.size + 2 ≤ q ∧ q < w1.heap.size := hq; omega)) fun q hq => ?_
    have h9 : W2.heap.size + 2 ≤ q ∧ q < w1.heap.size := hq
    have h10 := hBq.drew.size
    exact ⟨by omega, by omega⟩
  · exact hrd.next hBq.drew
end Go.Proofs.YtcahoigdoohjaaaGreatDoor.Cd

namespace Go.Proofs.YtcahoigdoohjaaaGreatDoor.Cd
open Go.RowKit Go.Shelf Go.Maps Go.Proofs.YtcahoigdoohjaaaGreatDoor.C Go.Proofs.YtcahoigdoohjaaaGreatDoor.E Go.Proofs.YtcahoigdoohjaaaGreatDoor.Q
set_option linter.unusedSimpArgs false
set_option linter.unusedVariables false

set_option maxHeartbeats 400000 in
theorem num_any (n : Int) (w : World) : Calls Tryz.prog 15 #[.int .i64 n] w fun e w' => e = .returned (.int .i64 n) ∧ w = w' := by
  go_enter Tryz.func15, Tryz.ntmps15
  go_wp2
  go_ret
  exact ⟨rfl, rfl⟩
def os_fst (w : World) : List Obj := [.cells #[.int .u8 1] 5,
  .cells #[.int .u8 2] 5,
  .cells #[.slice (some ⟨w.heap.size + 0, 0, none⟩) 1 1, .slice (some ⟨w.heap.size + 1, 0, none⟩) 1 1] 32,
  .cells #[.int .u8 4] 5,
  .cells #[.int .u8 8] 5,
  .cells #[.slice (some ⟨w.heap.size + 3, 0, none⟩) 1 1, .slice (some ⟨w.heap.size + 4, 0, none⟩) 1 1] 32,
  .cells #[.int .u8 5] 5,
  .cells #[.int .u8 10] 5,
  .cells #[.slice (some ⟨w.heap.size + 6, 0, none⟩) 1 1, .slice (some ⟨w.heap.size + 7, 0, none⟩) 1 1] 32,
  .cells #[.int .u8 11] 5,
  .cells #[.int .u8 6] 5,
  .cells #[.slice (some ⟨w.heap.size + 9, 0, none⟩) 1 1, .slice (some ⟨w.heap.size + 10, 0, none⟩) 1 1] 32,
  .cells #[.slice (some ⟨w.heap.size + 2, 0, none⟩) 2 2, .slice (some ⟨w.heap.size + 5, 0, none⟩) 2 2, .slice (some ⟨w.heap.size + 8, 0, none⟩) 2 2, .slice (some ⟨w.heap.size + 11, 0, none⟩) 2 2] 62]
theorem cols_fst (w : World) : Cols (allocs w (os_fst w)).heap.size (allocs w (os_fst w)) (.slice (some ⟨w.heap.size + 12, 0, none⟩) 4 4) [[[1], [2]], [[4], [8]], [[5], [10]], [[11], [6]]] := by
  refine cols_of (allocs_blk w (os_fst w) 12 _ _ rfl) rfl (by omega) fun j hj => ?_
  have hj3 : j = 0 ∨ j = 1 ∨ j = 2 ∨ j = 3 := by omega
  rcases hj3 with rfl | rfl | rfl | rfl
  · exact ⟨_, rfl, many_two (allocs_blk w (os_fst w) 2 _ _ rfl) (allocs_blk w (os_fst w) 0 _ _ rfl) (allocs_blk w (os_fst w) 1 _ _ rfl)⟩
  · exact ⟨_, rfl, many_two (allocs_blk w (os_fst w) 5 _ _ rfl) (allocs_blk w (os_fst w) 3 _ _ rfl) (allocs_blk w (os_fst w) 4 _ _ rfl)⟩
  · exact ⟨_, rfl, many_two (allocs_blk w (os_fst w) 8 _ _ rfl) (allocs_blk w (os_fst w) 6 _ _ rfl) (allocs_blk w (os_fst w) 7 _ _ rfl)⟩
  · exact ⟨_, rfl, many_two (allocs_blk w (os_fst w) 11 _ _ rfl) (allocs_blk w (os_fst w) 9 _ _ rfl) (allocs_blk w (os_fst w) 10 _ _ rfl)⟩
def os_snd (w : World) : List Obj := [.cells #[.int .u8 1] 5,
  .cells #[.int .u8 2] 5,
  .cells #[.slice (some ⟨w.heap.size + 0, 0, none⟩) 1 1, .slice (some ⟨w.heap.size + 1, 0, none⟩) 1 1] 32,
  .cells #[.int .u8 0] 5,
  .cells #[.int .u8 8] 5,
  .cells #[.slice (some ⟨w.heap.size + 3, 0, none⟩) 1 1, .slice (some ⟨w.heap.size + 4, 0, none⟩) 1 1] 32,
  .cells #[.int .u8 1] 5,
  .cells #[.int .u8 10] 5,
  .cells #[.slice (some ⟨w.heap.size + 6, 0, none⟩) 1 1, .slice (some ⟨w.heap.size + 7, 0, none⟩) 1 1] 32,
  .cells #[.int .u8 11] 5,
  .cells #[.int .u8 2] 5,
  .cells #[.slice (some ⟨w.heap.size + 9, 0, none⟩) 1 1, .slice (some ⟨w.heap.size + 10, 0, none⟩) 1 1] 32,
  .cells #[.slice (some ⟨w.heap.size + 2, 0, none⟩) 2 2, .slice (some ⟨w.heap.size + 5, 0, none⟩) 2 2, .slice (some ⟨w.heap.size + 8, 0, none⟩) 2 2, .slice (some ⟨w.heap.size + 11, 0, none⟩) 2 2] 62]
theorem cols_snd (w : World) : Cols (allocs w (os_snd w)).heap.size (allocs w (os_snd w)) (.slice (some ⟨w.heap.size + 12, 0, none⟩) 4 4) [[[1], [2]], [[0], [8]], [[1], [10]], [[11], [2]]] := by
  refine cols_of (allocs_blk w (os_snd w) 12 _ _ rfl) rfl (by omega) fun j hj => ?_
  have hj3 : j = 0 ∨ j = 1 ∨ j = 2 ∨ j = 3 := by omega
  rcases hj3 with rfl | rfl | rfl | rfl
  · exact ⟨_, rfl, many_two (allocs_blk w (os_snd w) 2 _ _ rfl) (allocs_blk w (os_snd w) 0 _ _ rfl) (allocs_blk w (os_snd w) 1 _ _ rfl)⟩
  · exact ⟨_, rfl, many_two (allocs_blk w (os_snd w) 5 _ _ rfl) (allocs_blk w (os_snd w) 3 _ _ rfl) (allocs_blk w (os_snd w) 4 _ _ rfl)⟩
  · exact ⟨_, rfl, many_two (allocs_blk w (os_snd w) 8 _ _ rfl) (allocs_blk w (os_snd w) 6 _ _ rfl) (allocs_blk w (os_snd w) 7 _ _ rfl)⟩
  · exact ⟨_, rfl, many_two (allocs_blk w (os_snd w) 11 _ _ rfl) (allocs_blk w (os_snd w) 9 _ _ rfl) (allocs_blk w (os_snd w) 10 _ _ rfl)⟩
theorem fill_row : wholeL 2 3 (fillL (datN 2 3) ((3 : Int) - 1).toNat (1 : Int).toNat [1, 4, 2, 8]) = [[[1], [2]], [[4], [8]], [[5], [10]], [[11], [6]]] := by decide +kernel
theorem chg_row : chgK 2 3 [[[1], [2]], [[4], [8]], [[5], [10]], [[11], [6]]] 1 0 [0] = [[[1], [2]], [[0], [8]], [[1], [10]], [[11], [2]]] := by decide +kernel
theorem tou_row : touL 2 3 1 0 = [(2, 0), (3, 1)] := by decide +kernel
theorem fill_ok : FillOk 2 3 [1, 4, 2, 8] 1 := ⟨⟨by decide, by decide⟩, by decide, by decide⟩
theorem row_all : AllK 2 3 [[[1], [2]], [[4], [8]], [[5], [10]], [[11], [6]]] := by
  have hok : DataK 2 3 (fillL (datN 2 3) ((3 : Int) - 1).toNat (1 : Int).toNat [1, 4, 2, 8]) := ⟨⟨⟨by decide, by decide⟩, by decide⟩, right_of (by decide) (by decide) (fill_grid _ _ _ _) (by decide)⟩
  rw [← fill_row]
  exact (whole_all hok).1
attribute [local go_sem] Oper.semAt_some
set_option maxRecDepth 100000 in
set_option maxHeartbeats 4000000 in
theorem works_any (w : World) (hL : Laid w) : Calls Tryz.prog 12 #[] w fun e w' => e = .returned (.bool true) ∧ Below w.heap.size w w' := by
  have HF := Lib.hid (fun (U : World) (v : Value) (hU : Laid U) (hb : Bytes U.heap.size U v [1, 4, 2, 8]) => by
    have h := fill_yes 2 3 v [1, 4, 2, 8] 1 fill_ok U hU hb
    rw [fill_row] at h
    exact h)
  have HC := Lib.hid (fun (U : World) (v vc : Value) (hU : Laid U) (hC : Cols U.heap.size U v [[[1], [2]], [[4], [8]], [[5], [10]], [[11], [6]]]) (hb : Bytes U.heap.size U vc [0]) => by
    have h := change_yes (B := U.heap.size) 2 3 v [[[1], [2]], [[4], [8]], [[5], [10]], [[11], [6]]] 1 0 [0] vc row_all rfl (by decide) (by decide) U hU (Nat.le_refl _) hC hb
    rw [chg_row, tou_row] at h
    exact h)
  have HS := Lib.hid (fun (U : World) (v v2 : Value) (h1 : Cols U.heap.size U v [[[1], [2]], [[4], [8]], [[5], [10]], [[11], [6]]]) (h2 : Cols U.heap.size U v2 [[[1], [2]], [[4], [8]], [[5], [10]], [[11], [6]]]) => same6_any v v2 _ _ U h1 h2 (Nat.le_refl _) (Nat.le_refl _) (fun j => (by rcases j with _ | _ | _ | _ | j <;> simp)) (fun j => (by rcases j with _ | _ | _ | _ | j <;> simp)) (by simp) (by simp))
  have HZ := Lib.hid (fun (U : World) (v v2 : Value) (h1 : Cols U.heap.size U v [[[1], [2]], [[0], [8]], [[1], [10]], [[11], [2]]]) (h2 : Cols U.heap.size U v2 [[[1], [2]], [[0], [8]], [[1], [10]], [[11], [2]]]) => same6_any v v2 _ _ U h1 h2 (Nat.le_refl _) (Nat.le_refl _) (fun j => (by rcases j with _ | _ | _ | _ | j <;> simp)) (fun j => (by rcases j with _ | _ | _ | _ | j <;> simp)) (by simp) (by simp))
  have HP := Lib.hid (fun (U : World) (v v2 : Value) (h1 : ReadA U v [(2, 0), (3, 1)]) (h2 : ReadA U v2 [(2, 0), (3, 1)]) => same_yes v v2 [(2, 0), (3, 1)] (by simp) U h1 h2)
  simp only [decide_true] at HS HZ
  have hBz := below_one w (.cells #[.int .i64 2, .int .i64 3] 24)
  have bz := Blk.new w 24 #[.int .i64 2, .int .i64 3]
  obtain ⟨wb, hwb⟩ : ∃ wb, w.alloc (.cells #[.int .i64 2, .int .i64 3] 24) = wb := ⟨_, rfl⟩
  rw [hwb] at hBz bz
  obtain ⟨wc, hwc⟩ : ∃ wc, wb.alloc (.cells #[.int .u8 1, .int .u8 4, .int .u8 2, .int .u8 8] 5) = wc := ⟨_, rfl⟩
  have hBc : Below wb.heap.size wb wc := by rw [← hwc]; exact below_one wb _
  have bc : Blk wc wb.heap.size 5 #[.int .u8 1, .int .u8 4, .int .u8 2, .int .u8 8] := by rw [← hwc]; exact Blk.new wb _ _
  have hby : Bytes wc.heap.size wc (.slice (some ⟨wb.heap.size, 0, none⟩) 4 4) [1, 4, 2, 8] := ⟨_, 4, rfl, Nat.le_refl _, fun _ => ⟨wb.heap.size, 0, rfl, bc.lt, fun j hj => by
    have hj4 : j = 0 ∨ j = 1 ∨ j = 2 ∨ j = 3 := by have : j < 4 := hj; omega
    rcases hj4 with rfl | rfl | rfl | rfl <;> exact bc.cell _⟩⟩
  have c0 := bz.cell 0
  have c1 := bz.cell 1
  simp only [List.getElem?_toArray, List.getElem?_cons_zero, List.getElem?_cons_succ] at c0 c1
  have HF1 := Lib.hid (HF.out wc _ (hL.next (below_in hBz hBc)) hby)
  clear hby bc HF
  go_enter Tryz.func12, Tryz.ntmps12
  go_wp2_with fail
  refine HF1.out.mono ?_
  rintro e w1 ⟨A1, n1, k1, rfl, hs1, hB1⟩
  obtain rfl : n1 = 4 := by obtain ⟨A9, c9, e9, _⟩ := hs1; injection e9
  have hB01 := below_in hBc hB1
  replace bz := bz.below hB01 bz.lt
  clear c0 c1
  have c0 := bz.cell 0
  have c1 := bz.cell 1
  simp only [List.getElem?_toArray, List.getElem?_cons_zero, List.getElem?_cons_succ] at c0 c1
  have hcA : Cols w1.heap.size w1 (.slice A1 4 k1) [[[1], [2]], [[4], [8]], [[5], [10]], [[11], [6]]] := colsR_iff.1 (colsR.imp (sepC_cols hs1) fun q hq => hq.2)
  obtain ⟨w2, hw2⟩ : ∃ w2, w1.alloc (.cells #[.int .u8 0] 5) = w2 := ⟨_, rfl⟩
  have hB2 : Below w1.heap.size w1 w2 := by rw [← hw2]; exact below_one w1 _
  have b2 : Blk w2 w1.heap.size 5 #[.int .u8 0] := by rw [← hw2]; exact Blk.new w1 _ _
  have hby2 : Bytes w2.heap.size w2 (.slice (some ⟨w1.heap.size, 0, none⟩) 1 1) [0] := ⟨_, 1, rfl, Nat.le_refl _, fun _ => ⟨w1.heap.size, 0, rfl, b2.lt, fun j hj => by
    have hj4 : j = 0 := by have : j < 1 := hj; omega
    subst hj4
    exact b2.cell _⟩⟩
  have hW2 := below_in hBz (below_in hB01 hB2)
  have HC1 := Lib.hid (HC.out w2 _ _ (hL.next hW2) ((hcA.below hB2).more hB2.size) hby2)
  clear hby2 b2 HC hs1 HF1
  go_wp2_with fail
  refine HC1.out.mono ?_
  rintro e w3 ⟨A3, n3, k3, A4, n4, k4, rfl, hs3, hr3, hB3⟩
  obtain rfl : n3 = 4 := by obtain ⟨A9, c9, e9, _⟩ := hs3; injection e9
  obtain rfl : n4 = 2 := by obtain ⟨g9, c9, e9, _⟩ := hr3; injection e9
  have hcB : Cols w3.heap.size w3 (.slice A3 4 k3) [[[1], [2]], [[0], [8]], [[1], [10]], [[11], [2]]] := colsR_iff.1 (colsR.imp (sepC_cols hs3) fun q hq => hq.2)
  have hB13 := below_in hB2 hB3
  have hcA3 := (hcA.below hB13).more hB13.size
  have hW3 := below_in hW2 hB3
  have hF4 := cols_fst w3
  have hB4 := allocs_below w3 (os_fst w3)
  have hcA4 := (hcA3.below hB4).more hB4.size
  clear hs3 hcA hcA3 hB1 hB2 HC1 bz hB01 hB13 hB3
  go_wp2_with (first
    | (go_at_call 15; refine (num_any _ _).mono ?_; rintro e w' ⟨rfl, rfl⟩)
    | fail)
  refine (HS.out _ _ _ hcA4 hF4).mono ?_
  rintro e w5 ⟨rfl, hB5⟩
  have hB35 := below_in hB4 hB5
  have hG6 := cols_snd w5
  have hB6 := allocs_below w5 (os_snd w5)
  have hB36 := below_in hB35 hB6
  have hcB6 := (hcB.below hB36).more hB36.size
  clear hcA4 hF4 hcB
  go_wp2_with fail
  refine (HZ.out _ _ _ hcB6 hG6).mono ?_
  rintro e w7 ⟨rfl, hB7⟩
  have hB37 := below_in hB36 hB7
  have hr7 := ReadP.next hr3 hB37
  obtain ⟨w8, hw8⟩ : ∃ w8, w7.alloc (.cells #[.int .i64 2, .int .i64 0, .int .i64 3, .int .i64 1] 57) = w8 := ⟨_, rfl⟩
  have hB8 : Below w7.heap.size w7 w8 := by rw [← hw8]; exact below_one w7 _
  have b8 : Blk w8 w7.heap.size 57 #[.int .i64 2, .int .i64 0, .int .i64 3, .int .i64 1] := by rw [← hw8]; exact Blk.new w7 _ _
  have hr8 := (ReadP.readA hr7).next hB8
  have hq8 : ReadA w8 (.slice (some ⟨w7.heap.size, 0, none⟩) 2 2) [(2, 0), (3, 1)] := ⟨_, 2, rfl, fun j hj => ⟨w7.heap.size, rfl, b8.lt, by
    have hj2 : j = 0 ∨ j = 1 := by have : j < 2 := hj; omega
    rcases hj2 with rfl | rfl
    · exact ⟨b8.cell 0, b8.cell 1⟩
    · exact ⟨b8.cell 2, b8.cell 3⟩⟩⟩
  have HP8 := Lib.hid (HP.out w8 _ _ hr8 hq8)
  clear hcB6 hG6 hr3 hr7 hr8 hq8 b8
  go_wp2_with fail
  refine HP8.out.mono ?_
  rintro e w9 ⟨rfl, hB9⟩
  go_wp2
  go_ret
  exact ⟨rfl, below_in hW3 (below_in hB37 (below_in hB8 hB9))⟩
end Go.Proofs.YtcahoigdoohjaaaGreatDoor.Cd

namespace Go.Proofs.YtcahoigdoohjaaaGreatDoor.Cd
open Go.RowKit Go.Shelf Go.Maps Go.Proofs.YtcahoigdoohjaaaGreatDoor.C Go.Proofs.YtcahoigdoohjaaaGreatDoor.E Go.Proofs.YtcahoigdoohjaaaGreatDoor.Q
set_option linter.unusedSimpArgs false
set_option linter.unusedVariables false


set_option maxRecDepth 100000 in
set_option maxHeartbeats 2000000 in
theorem only_any {B : Nat} (v : Value) (css : List (List (List UInt8))) (k : Nat) (w : World) (hB : B ≤ w.heap.size) (hC : Cols B w v css) (hl1 : css.length ≤ 1000) (hk64 : k ≤ 100) (hall : ∀ j, j < css.length → (css[j]?.getD []).length ≤ 1000 ∧ ∀ i, i < (css[j]?.getD []).length → k < ((css[j]?.getD [])[i]?.getD []).length) :
    Calls Tryz.prog 40 #[v, .int .i64 (k : Int)] w fun e w' => ∃ u, e = .returned u ∧ Cols w'.heap.size w' u (onlyOf k css) ∧ Below w.heap.size w w' := by
  obtain ⟨A, cap, rfl, _, _⟩ := id hC
  have HALL := Lib.hid hall
  clear hall
  obtain ⟨n0, hn0⟩ : ∃ n0, css.length = n0 := ⟨_, rfl⟩
  have HN0 := Lib.hid hn0
  have HCC := Lib.hid hC
  rw [hn0] at hl1 ⊢
  clear hn0 hC
  go_enter Tryz.func40, Tryz.ntmps40
  go_wp2
  go_loopw [5, 6] (fun v i wr => ∃ m : Nat, m ≤ n0 ∧ i = .int .i64 m ∧ RowC (fun _ => True) wr w.heap.size v ((onlyOf k css).take m) ∧ Below w.heap.size w wr) (fun _ i _ => n0 - (intOf i).toNat)
  case atStart => exact ⟨0, Nat.zero_le _, rfl, RowG.nil _ _ _ _ _ _, Below.refl _ _⟩
  case round =>
    obtain ⟨m, hm, rfl, hrow, hBr⟩ := hrel
    by_cases hlt : m < n0
    · have hdec : decide ((m : Int) < (n0 : Int)) = true := by simp; omega
      obtain ⟨b1, off1, cq1, e1, hcq, hb1, hrow1⟩ := HCC.out.at_ (by have := HN0.out; omega)
      injection e1 with e1 _ _
      subst e1
      obtain ⟨u1, hc1, hm1⟩ := hrow1 m (by have := HN0.out; omega)
      obtain ⟨A3, cap3, rfl, _, _⟩ := id hm1
      obtain ⟨hcl, hck⟩ := HALL.out m (by have := HN0.out; omega)
      have HNX : Hid ((onlyOf k css).take (m + 1) = (onlyOf k css).take m ++ [onlyCol k (css[m]?.getD [])]) := map_next _ [] css (by have := HN0.out; omega)
      have HPL : Hid (((onlyOf k css).take m).length ≤ 1000) := by unfold Hid; rw [List.length_take]; omega
      have HC1 := Lib.hid hc1
      have HM1 := Lib.hid hm1
      have HCK := Lib.hid hck
      clear hrow1 hc1 hm1 hck
      generalize css[m]?.getD [] = cs at *
      generalize (onlyOf k css).take m = pre at *
      obtain ⟨n1, hn1⟩ : ∃ n1, cs.length = n1 := ⟨_, rfl⟩
      have HN1 := Lib.hid hn1
      rw [hn1] at hcl HC1 HM1
      have hc1 := (hBr.cell (p := ⟨b1, off1 + m, none⟩) (Nat.lt_of_lt_of_le hb1 hB)).trans HC1.out
      clear hn1
      have i1 : (0 : Int) ≤ (m : Int) := by omega
      have i2 : (m : Int) < (n0 : Int) := by omega
      have HROW := Lib.hid hrow
      have hvlt := fun b e => RowG.own_lt hrow b e
      have HVLT := Lib.hid hvlt
      have HVLE := Lib.hid (fun b e => RowG.own_le hrow b e)
      obtain ⟨wq, hwq⟩ : ∃ x, x = wr := ⟨_, rfl⟩
      subst hwq
      clear hrow hvlt
      go_wp2
      go_loopw [7, 8] (fun v2 i wr => ∃ r : Nat, r ≤ n1 ∧ i = .int .i64 r ∧ RowM (fun b => b < wq.heap.size ∧ some b ≠ u5.ownBlock) wr wq.heap.size v2 ((onlyCol k cs).take r) ∧ Below wq.heap.size wq wr) (fun _ i _ => n1 - (intOf i).toNat)
      case atStart => exact ⟨0, Nat.zero_le _, rfl, RowG.nil _ _ _ _ _ _, Below.refl _ _⟩
      case round =>
        obtain ⟨r, hr, rfl, hrow2, hBs⟩ := hrel
        have hBws := below_in hBr hBs
        have hc2 := (hBs.cell (p := ⟨b1, off1 + m, none⟩) (Nat.lt_of_lt_of_le hb1 (Nat.le_trans hB hBr.size))).trans hc1
        by_cases hlt2 : r < n1
        · have hdec2 : decide ((r : Int) < (n1 : Int)) = true := by simp; omega
          have hm1 := HM1.out
          rw [← HN1.out] at hm1
          obtain ⟨b2, off2, e2, hb2, hrow3⟩ := many_at hm1 (by have := HN1.out; omega)
          obtain ⟨A4, cp4, hc3, hby⟩ := hrow3 r (by have := HN1.out; omega)
          have hkl := HCK.out r (by have := HN1.out; omega)
          have HNX2 : Hid ((onlyCol k cs).take (r + 1) = (onlyCol k cs).take r ++ [[at_ (cs[r]?.getD []) k]]) := map_next (fun l => [at_ l k]) [] cs (by have := HN1.out; omega)
          have HPL2 : Hid (((onlyCol k cs).take r).length ≤ 1000) := by unfold Hid; rw [List.length_take]; omega
          clear hrow3 hm1
          obtain ⟨b4, off4, rfl, hb4, hcap4, hbp⟩ := byte_at hby hkl
          subst e2
          generalize (cs[r]?.getD []).length = n2 at *
          generalize at_ (cs[r]?.getD []) k = c at *
          generalize (onlyCol k cs).take r = pre2 at *
          have c3 := (hBws.cell (p := ⟨b2, off2 + r, none⟩) (Nat.lt_of_lt_of_le hb2 hB)).trans hc3
          have j1 : (0 : Int) ≤ (r : Int) := by omega
          have j2 : (r : Int) < (n1 : Int) := by omega
          have k0 : (0 : Int) ≤ (k : Int) := by omega
          have k1 : (k : Int) + 1 ≤ (cp4 : Int) := by omega
          have k2 : ¬ cp4 = k := by omega
          clear hby hc3 hkl
          have hcells : Below wr.heap.size wr (wr.alloc (.cells #[.slice (some ⟨b4, off4 + k, none⟩) 1 (cp4 - k)] 32)) := below_one wr _
          have HROWM := Lib.hid (RowG.below hrow2 hcells)
          have HBLK := Lib.hid (Blk.new wr 32 #[.slice (some ⟨b4, off4 + k, none⟩) 1 (cp4 - k)])
          have hle7 := fun b e => RowG.own_le hrow2 b e
          have hwq := hBr.size
          have HBY : Hid (BytesP (fun b => b < (wr.alloc (.cells #[.slice (some ⟨b4, off4 + k, none⟩) 1 (cp4 - k)] 32)).heap.size ∧ some b ≠ u7.ownBlock ∧ (b < wq.heap.size ∧ some b ≠ u5.ownBlock)) (wr.alloc (.cells #[.slice (some ⟨b4, off4 + k, none⟩) 1 (cp4 - k)] 32)) (.slice (some ⟨b4, off4 + k, none⟩) 1 (cp4 - k)) [c]) :=
            bytesR.imp (bytesR.below hbp (fun b hb => hb) ((below_in hBws hcells).mono hB)) fun b hb => by
              have h1 : b < B := hb
              have h2 := hBws.size
              have h3 := hcells.size
              exact ⟨by omega, fun e => by have := hle7 b e.symm; omega, by omega, fun e => by have := HVLE.out b e.symm; omega⟩
          have hbs := hBs.size
          have hcs := hcells.size
          clear hbp hrow2
          go_wp2_with (at_builtin; refine wpList_pushM (T := 62) _ rfl _ _ rfl Tryz.underlying62 pre2 rfl HROWM.out wr.heap.size 32 _ [c] rfl HBLK.out HBY.out (by have := HPL2.out; omega) (by omega) ?_; intro v' w2 hrow4 hgrow hown)
          go_roundw
          case rel => exact ⟨r + 1, by omega, by go_num, by rw [HNX2.out]; exact hrow4, below_grown (below_in hBs hcells) hgrow (by omega) (fun g e => hle7 g e)⟩
          case measure => simp [intOf]; omega
        · obtain rfl : r = n1 := by omega
          have e1 : decide ((r : Int) < (r : Int)) = false := by simp
          have HTK : Hid ((onlyCol k cs).take r = onlyCol k cs) := by unfold Hid; rw [List.take_of_length_le]; unfold onlyCol; rw [List.length_map, HN1.out]; exact Nat.le_refl _
          rw [HTK.out] at hrow2
          obtain ⟨A7, cp7, hu7, _, _⟩ := id (RowM.many hrow2 (S := fun _ => True) (fun _ _ _ => trivial))
          subst hu7
          generalize (onlyCol k cs).length = n7 at *
          have hcells : Below wr.heap.size wr (wr.alloc (.cells #[.slice A7 n7 cp7] 62)) := below_one wr _
          have HROWC := Lib.hid (RowG.below HROW.out (below_in hBs hcells))
          have HBLK := Lib.hid (Blk.new wr 62 #[.slice A7 n7 cp7])
          have HCP : Hid (manyR.R (fun b => b < (wr.alloc (.cells #[.slice A7 n7 cp7] 62)).heap.size ∧ some b ≠ u5.ownBlock ∧ True) (wr.alloc (.cells #[.slice A7 n7 cp7] 62)) (.slice A7 n7 cp7) (onlyCol k cs)) :=
            RowM.many (RowG.below hrow2 hcells) fun b hb hq => ⟨hb, by
              rcases hq with h | h
              · exact h.2
              · exact fun e => by have := HVLT.out b e.symm; omega, trivial⟩
          have hbs := hBs.size
          have hcs := hcells.size
          have hwq := hBr.size
          clear hrow2
          go_wp2_with (at_builtin; refine wpList_pushC (T := 25) _ rfl _ _ rfl Tryz.underlying25 pre rfl HROWC.out wr.heap.size 62 _ (onlyCol k cs) rfl HBLK.out HCP.out (by have := HPL.out; omega) (by omega) ?_; intro v' w2 hrow4 hgrow hown)
          go_roundw
          case rel => exact ⟨m + 1, by omega, by go_num, by rw [HNX.out]; exact hrow4, below_grown (below_in hBr (below_in hBs hcells)) hgrow (by omega) (fun g e => HVLE.out g e)⟩
          case measure => simp [intOf]; omega
    · obtain rfl : m = n0 := by omega
      have e1 : decide ((m : Int) < (m : Int)) = false := by simp
      have HE : Hid ((onlyOf k css).take m = onlyOf k css) := by unfold Hid; rw [List.take_of_length_le]; unfold onlyOf; rw [List.length_map, HN0.out]; exact Nat.le_refl _
      rw [HE.out] at hrow
      go_wp2
      go_ret
      exact ⟨_, rfl, RowC.cols hrow, hBr⟩

set_option maxRecDepth 100000 in
set_option maxHeartbeats 2000000 in
theorem ref9Right_any {B : Nat} (k p : Int) (v : Value) (css : List (List (List UInt8))) (w : World) (hB : B ≤ w.heap.size) (hC : Cols B w v css) (hlen : css.length ≤ 1000) (b : Bool) (hb : b = true ↔ AllK k p css) :
    Calls Tryz.prog 17 #[.agg #[.int .i64 k, .int .i64 p], v] w fun e w' => e = .returned (.bool b) ∧ Below w.heap.size w w' := by
  obtain ⟨A, cap, rfl, _, _⟩ := id hC
  have hBz := below_one w (.cells #[.int .i64 k, .int .i64 p] 24)
  have bz := Blk.new w 24 #[.int .i64 k, .int .i64 p]
  obtain ⟨wb, hwb⟩ : ∃ wb, w.alloc (.cells #[.int .i64 k, .int .i64 p] 24) = wb := ⟨_, rfl⟩
  rw [hwb] at hBz bz
  have c0 := bz.cell 0
  have c1 := bz.cell 1
  simp only [List.getElem?_toArray, List.getElem?_cons_zero, List.getElem?_cons_succ] at c0 c1
  have HRT := Lib.hid (refRight_any k p wb)
  by_cases hR : RightC k p
  case neg =>
    have hbf : b = false := Bool.eq_false_iff.2 fun h => hR (hb.1 h).1.1
    subst hbf
    clear hC hb hlen
    go_enter Tryz.func17, Tryz.ntmps17
    go_wp2_with (go_at_call 19; refine HRT.out.mono ?_; rintro e w1 ⟨_, h2, hB1⟩; obtain rfl := h2 hR)
    go_ret
    exact ⟨rfl, below_in hBz hB1⟩
  have HCO := Lib.hid (fun (U : World) => refCols_any k p hR U)
  by_cases hn : (css.length : Int) = p - shortN k + madeN k
  case neg =>
    have hbf : b = false := Bool.eq_false_iff.2 fun h => hn (hb.1 h).1.2
    subst hbf
    have hnn : ((css.length : Int) == p - shortN k + madeN k) = false := beq_eq_false_iff_ne.2 hn
    clear hC hb hlen hn
    generalize css.length = N at *
    go_enter Tryz.func17, Tryz.ntmps17
    go_wp2_with (first
      | (go_at_call 19; refine HRT.out.mono ?_; rintro e w1 ⟨h1, _, hB1⟩; obtain rfl := h1 hR; replace bz := bz.below hB1 bz.lt; clear c0 c1; have c0 := bz.cell 0; have c1 := bz.cell 1; simp only [List.getElem?_toArray, List.getElem?_cons_zero, List.getElem?_cons_succ] at c0 c1)
      | (go_at_call 52; refine (HCO.out _).mono ?_; rintro e w2 ⟨rfl, hB2⟩))
    go_ret
    exact ⟨rfl, below_in hBz (below_in hB1 hB2)⟩
  have HR6 := Lib.hid (fun (U : World) (hU : Below wb.heap.size wb U) => right6_any (B := B) p (.slice A css.length cap) css U (Nat.le_trans hB (below_in hBz hU).size) (hC.below ((below_in hBz hU).mono hB)) hlen b (hb.trans ⟨fun h => h.2, fun h => ⟨⟨hR, hn⟩, h⟩⟩))
  have hnn : ((css.length : Int) == p - shortN k + madeN k) = true := by simpa using hn
  clear hC hb hlen hn
  generalize css.length = N at *
  go_enter Tryz.func17, Tryz.ntmps17
  go_wp2_with (first
    | (go_at_call 19; refine HRT.out.mono ?_; rintro e w1 ⟨h1, _, hB1⟩; obtain rfl := h1 hR; replace bz := bz.below hB1 bz.lt; clear c0 c1; have c0 := bz.cell 0; have c1 := bz.cell 1; simp only [List.getElem?_toArray, List.getElem?_cons_zero, List.getElem?_cons_succ] at c0 c1)
    | (go_at_call 52; refine (HCO.out _).mono ?_; rintro e w2 ⟨rfl, hB2⟩; have hB12 := below_in hB1 hB2; replace bz := bz.below hB2 bz.lt; clear c0 c1; have c0 := bz.cell 0; have c1 := bz.cell 1; simp only [List.getElem?_toArray, List.getElem?_cons_zero, List.getElem?_cons_succ] at c0 c1)
    | (go_at_call 21; refine (HR6.out _ hB12).mono ?_; rintro e w3 ⟨rfl, hB3⟩))
  go_ret
  exact ⟨rfl, below_in hBz (below_in hB12 hB3)⟩
end Go.Proofs.YtcahoigdoohjaaaGreatDoor.Cd

namespace Go.Proofs.YtcahoigdoohjaaaGreatDoor.E
open Go.RowKit Go.Shelf Go.Proofs.YtcahoigdoohjaaaGreatDoor.C Go.ChangeShapes Go.WideShapes
set_option linter.unusedSimpArgs false
set_option linter.unusedVariables false

theorem many_rows {w : World} {a : Addr} {len cap : Nat} (hl : len ≤ cap) {A : Nat → Option Addr} {L C : Nat → Nat} {Z : Nat → List Int}
    (h : ∀ r, r < cap → w.cell? (a.add r) = some (.slice (A r) (L r) (C r)) ∧ IsRow .u8 w (A r) (L r) (C r) (Z r)) : ∃ ls : List (List UInt8), Many w.heap.size w (.slice (some a) len cap) ls := by
  have each : ∀ r, ∃ l : List UInt8, r < cap → l.length = L r ∧ Bytes w.heap.size w (.slice (A r) (L r) (C r)) l := by
    intro r
    by_cases hr : r < cap
    · obtain ⟨l, h1, h2⟩ := row_bytes (h r hr).2
      exact ⟨l, fun _ => ⟨h1, h2⟩⟩
    · exact ⟨[], fun h => absurd h hr⟩
  let f : Nat → List UInt8 := fun r => (each r).choose
  have hf : ∀ r, r < cap → (f r).length = L r ∧ Bytes w.heap.size w (.slice (A r) (L r) (C r)) (f r) := fun r => (each r).choose_spec
  have hlen : ((List.range len).map f).length = len := by simp
  refine ⟨(List.range len).map f, some a, cap, by rw [hlen], by rw [hlen]; exact hl, fun hp => ?_⟩
  rw [hlen] at hp ⊢
  obtain ⟨b, off, spot⟩ := a
  have hc := (h 0 (by omega)).1
  have hspot : spot = none := by simpa [Addr.add] using World.cell?_spot hc
  subst hspot
  refine ⟨b, off, rfl, ?_, fun j hj => ⟨.slice (A j) (L j) (C j), ?_, ?_⟩⟩
  · have := block_lt_of_cell hc
    simpa [Addr.add] using this
  · rw [← addr_add]; exact (h j (by omega)).1
  · have e : ((List.range len).map f)[j]?.getD [] = f j := by
      rw [List.getElem?_map, List.getElem?_range hj]; rfl
    rw [e]
    exact (hf j (by omega)).2
theorem open_col {H : Type} {enc : TypeId × Value → H} {W : World} {base fuel : Nat} {v : Value} {x : DataW H × List MemPlace} (hf : DataW.trod enc Tryz.prog W base (fun _ => true) true fuel 62 [v] = some x) : ∃ ls, Many W.heap.size W v ls := by
  rcases Deep.open_int_rows Tryz.underlying62 Tryz.underlying32 Tryz.underlying5 (by kernel_rfl) (by kernel_rfl) hf with ⟨hcs, _⟩ | ⟨x, l, c, AA, LL, CC, ZZ, hcs, _, hl, hm, _, hrows⟩
  · obtain rfl : v = .slice none 0 0 := by simpa using hcs
    exact ⟨[], Many.nil_ _ _ _ _⟩
  · obtain rfl : v = .slice (some x) l c := by simpa using hcs
    refine many_rows hl (A := AA) (L := LL) (C := CC) (Z := ZZ) fun r hr => ?_
    obtain ⟨q1, q2, q3, q4, q5, q6, q7⟩ := hrows r hr
    refine ⟨q1, ?_⟩
    cases hAr : AA r with
    | none =>
      have hC := q6 hAr
      refine .inl ⟨rfl, by omega, hC, List.eq_nil_of_length_eq_zero (by omega)⟩
    | some x => exact .inr ⟨x, rfl, q2, q3, q4, fun i hi => (q7 x hAr).2 i (by omega), q5⟩
theorem open_cols {H : Type} {enc : TypeId × Value → H} {W : World} {base fuel : Nat} {v : Value} {x : DataW H × List MemPlace} (hf : DataW.trod enc Tryz.prog W base (fun _ => true) true fuel 25 [v] = some x) : ∃ css, Cols W.heap.size W v css := by
  rcases Deep.open_slice1 Tryz.underlying25 (by kernel_rfl) hf with ⟨hcs, _⟩ | ⟨a, len, cap, m, n, V, D, Pl, hcs, hb, hl, hm, hmm, hxx, hx⟩
  · obtain rfl : v = .slice none 0 0 := by simpa using hcs
    exact ⟨[], none, 0, rfl, Nat.le_refl _, fun h => absurd h (by simp)⟩
  · obtain rfl : v = .slice (some a) len cap := by simpa using hcs
    simp only [if_true] at hmm
    have hmm' := hmm.symm
    subst hmm'
    have each : ∀ r, ∃ ls : List (List UInt8), r < cap → W.cell? (a.add r) = some (V r) ∧ Many W.heap.size W (V r) ls := by
      intro r
      by_cases hr : r < cap
      · obtain ⟨ls, h1⟩ := open_col (hx r hr).2
        exact ⟨ls, fun _ => ⟨(hx r hr).1, h1⟩⟩
      · exact ⟨[], fun h => absurd h hr⟩
    let f : Nat → List (List UInt8) := fun r => (each r).choose
    have hff : ∀ r, r < cap → W.cell? (a.add r) = some (V r) ∧ Many W.heap.size W (V r) (f r) := fun r => (each r).choose_spec
    have hlen : ((List.range len).map f).length = len := by simp
    refine ⟨(List.range len).map f, some a, cap, by rw [hlen], by rw [hlen]; exact hl, fun hp => ?_⟩
    rw [hlen] at hp ⊢
    obtain ⟨b, off, spot⟩ := a
    have hc := (hff 0 (by omega)).1
    have hspot : spot = none := by simpa [Addr.add] using World.cell?_spot hc
    subst hspot
    refine ⟨b, off, rfl, ?_, fun j hj => ⟨V j, ?_, ?_⟩⟩
    · have := block_lt_of_cell hc
      simpa [Addr.add] using this
    · rw [← addr_add]; exact (hff j (by omega)).1
    · have e : ((List.range len).map f)[j]?.getD [] = f j := by
        rw [List.getElem?_map, List.getElem?_range hj]; rfl
      rw [e]
      exact (hff j (by omega)).2
theorem wf_i64 {n : Int} (h : (Lit.int .i64 n).wf = true) : -9223372036854775808 ≤ n ∧ n ≤ 9223372036854775807 := by
  have := bounds_i64 h
  omega
end Go.Proofs.YtcahoigdoohjaaaGreatDoor.E

