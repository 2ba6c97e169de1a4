/- ring: a column moved. ring: rows that lie apart from some blocks; what is made row by row. ring: what is made row by row. -/
import Derived.Test.YtckfepmahjgmfaaDoorRTG3
import Derived.Test.YtckfepmahjgmfaaDoorRTCA
import Derived.Deep.WholeRow
namespace Go.Proofs.YtckfepmahjgmfaaDoor.Rg
open Go.RowKit Go.Shelf Go.Maps Go.Proofs.YtckfepmahjgmfaaDoor.C Go.Proofs.YtckfepmahjgmfaaDoor.E
set_option linter.unusedSimpArgs false
set_option linter.unusedVariables false
attribute [local go_sem] Oper.semAt_some

theorem one_nils (x : Int) : ∀ v ∈ [Value.int .i64 x, .slice none 0 0, .slice none 0 0, .slice none 0 0, .slice none 0 0, .slice none 0 0, .slice none 0 0, .slice none 0 0, .slice none 0 0, .slice none 0 0, .slice none 0 0, .slice none 0 0, .slice none 0 0, .slice none 0 0, .slice none 0 0, .slice none 0 0, .slice none 0 0, .slice none 0 0], v.oneCell' = true := by
  intro v hv
  simp at hv
  rcases hv with rfl | rfl <;> rfl
theorem moved_slots (P : Nat) (hp : (P : Int) ∈ prm) (b : Int) (b0 : 0 ≤ b) (b1 : b < P) (vs us : List Value) (hu : us.length = 18) (r : Nat) (hr : r < P) : (mvL vs us 0 (walkN (P : Int) b 1))[r + 1]? = some (vs[(((r : Int) - b) % P).toNat + 1]?.getD undef) := by
  have hb := prm_bounds hp
  have h1 : (1 : Int) % (P : Int) = 1 := Int.emod_eq_of_lt (by omega) (by omega)
  have hi : (1 : Int) % (P : Int) * 1 % (P : Int) = 1 := by rw [h1]; exact h1
  rw [walkN_yes (fine_one.2 ⟨hp, b0, b1⟩), Int.toNat_natCast]
  have h0 := Int.emod_nonneg ((r : Int) - b) (show (P : Int) ≠ 0 by omega)
  have h2 := Int.emod_lt_of_pos ((r : Int) - b) (show (0 : Int) < P by omega)
  have e1 : ((r : Int) - b) % (P : Int) * 1 % (P : Int) = ((r : Int) - b) % (P : Int) := by rw [Int.mul_one, Int.emod_emod_of_dvd _ (Int.dvd_refl _)]
  have hc := walk_comes P (by omega) b (r : Int) (1 % (P : Int)) 1 hi (by omega) (by omega)
  rw [e1] at hc
  rw [mvL_at vs r (walkL P b (1 % (P : Int))) us 0 (((r : Int) - b) % (P : Int)).toNat ?_ (walk_nodup P b _ 1 hi) ?_, Nat.zero_add]
  · intro x hx
    have := walk_in P (by omega) b (1 % (P : Int)) x hx
    omega
  · unfold walkL
    rw [List.getElem?_map, List.getElem?_range (by omega), Option.map_some, hc]
set_option maxRecDepth 100000 in
set_option maxHeartbeats 4000000 in
theorem moved_any {B : Nat} (P Q n : Nat) (hQ : P = Q + 1) (hp : (P : Int) ∈ prm) (f : Nat → List UInt8) (vs : List Value) (by_ : Int) (y1 : -9223372036854775808 ≤ by_) (y2 : by_ ≤ 9223372036854775807) (w : World) (hL : Laid w) (hB : B ≤ w.heap.size) (hV : ColV B w P n f vs) :
    Calls Tryd.prog 56 #[.agg vs.toArray, .int .i64 by_] w fun e w' => ∃ us, e = .returned (.agg us.toArray) ∧ ColV B w' P n (fun r => f (((r : Int) - by_) % P).toNat) us ∧ Below w.heap.size w w' := by
  have hpb := prm_bounds hp
  have hVB := Lib.hid (fun (U : World) (hU : Below w.heap.size w U) => hV.below (hU.mono hB))
  obtain ⟨hl, h0, hr, h1c⟩ := hV
  obtain ⟨WX, hWX⟩ : ∃ x, ((w.alloc (.cells vs.toArray 57)).alloc (.cells #[.int .i64 0, .slice none 0 0, .slice none 0 0, .slice none 0 0, .slice none 0 0, .slice none 0 0, .slice none 0 0, .slice none 0 0, .slice none 0 0, .slice none 0 0, .slice none 0 0, .slice none 0 0, .slice none 0 0, .slice none 0 0, .slice none 0 0, .slice none 0 0, .slice none 0 0, .slice none 0 0] 57)) = x := ⟨_, rfl⟩
  have hBX : Below w.heap.size w WX := by rw [← hWX]; exact below_two w _ _
  have bX0 : Blk WX w.heap.size 57 vs.toArray := by rw [← hWX]; exact (Blk.new w _ _).alloc _
  have bX1 : Blk WX (w.heap.size + 1) 57 #[.int .i64 0, .slice none 0 0, .slice none 0 0, .slice none 0 0, .slice none 0 0, .slice none 0 0, .slice none 0 0, .slice none 0 0, .slice none 0 0, .slice none 0 0, .slice none 0 0, .slice none 0 0, .slice none 0 0, .slice none 0 0, .slice none 0 0, .slice none 0 0, .slice none 0 0, .slice none 0 0] := by rw [← hWX]; exact Blk.second w _ _ _
  have sX : WX.heap.size = w.heap.size + 2 := by rw [← hWX]; simp
  obtain ⟨WA, hWA⟩ : ∃ x, ((WX.alloc (.cells #[.int .i64 0, .slice none 0 0, .slice none 0 0, .slice none 0 0, .slice none 0 0, .slice none 0 0, .slice none 0 0, .slice none 0 0, .slice none 0 0, .slice none 0 0, .slice none 0 0, .slice none 0 0, .slice none 0 0, .slice none 0 0, .slice none 0 0, .slice none 0 0, .slice none 0 0, .slice none 0 0] 57)).alloc (.cells #[.int .i64 0] 3)) = x := ⟨_, rfl⟩
  have hBA : Below WX.heap.size WX WA := by rw [← hWA]; exact below_two WX _ _
  have bA2 : Blk WA WX.heap.size 57 #[.int .i64 0, .slice none 0 0, .slice none 0 0, .slice none 0 0, .slice none 0 0, .slice none 0 0, .slice none 0 0, .slice none 0 0, .slice none 0 0, .slice none 0 0, .slice none 0 0, .slice none 0 0, .slice none 0 0, .slice none 0 0, .slice none 0 0, .slice none 0 0, .slice none 0 0, .slice none 0 0] := by rw [← hWA]; exact (Blk.new WX _ _).alloc _
  have bA3 : Blk WA (WX.heap.size + 1) 3 #[.int .i64 0] := by rw [← hWA]; exact Blk.second WX _ _ _
  have sA : WA.heap.size = WX.heap.size + 2 := by rw [← hWA]; simp
  have HST : (storeVar 57 ⟨WX.heap.size, 0, none⟩ (.agg #[.int .i64 (P : Int), .slice none 0 0, .slice none 0 0, .slice none 0 0, .slice none 0 0, .slice none 0 0, .slice none 0 0, .slice none 0 0, .slice none 0 0, .slice none 0 0, .slice none 0 0, .slice none 0 0, .slice none 0 0, .slice none 0 0, .slice none 0 0, .slice none 0 0, .slice none 0 0, .slice none 0 0])).run Tryd.prog WA = .ok () (WA.setRow WX.heap.size #[.int .i64 (P : Int), .slice none 0 0, .slice none 0 0, .slice none 0 0, .slice none 0 0, .slice none 0 0, .slice none 0 0, .slice none 0 0, .slice none 0 0, .slice none 0 0, .slice none 0 0, .slice none 0 0, .slice none 0 0, .slice none 0 0, .slice none 0 0, .slice none 0 0, .slice none 0 0, .slice none 0 0]) := store_col0 bA2 rfl rfl (one_nils _)
  have bR3 : Blk (WA.setRow WX.heap.size #[.int .i64 (P : Int), .slice none 0 0, .slice none 0 0, .slice none 0 0, .slice none 0 0, .slice none 0 0, .slice none 0 0, .slice none 0 0, .slice none 0 0, .slice none 0 0, .slice none 0 0, .slice none 0 0, .slice none 0 0, .slice none 0 0, .slice none 0 0, .slice none 0 0, .slice none 0 0, .slice none 0 0]) (WX.heap.size + 1) 3 #[.int .i64 0] := bA3.farRow (by omega) _
  obtain ⟨W2, hW2⟩ : ∃ x, (WA.setRow WX.heap.size #[.int .i64 (P : Int), .slice none 0 0, .slice none 0 0, .slice none 0 0, .slice none 0 0, .slice none 0 0, .slice none 0 0, .slice none 0 0, .slice none 0 0, .slice none 0 0, .slice none 0 0, .slice none 0 0, .slice none 0 0, .slice none 0 0, .slice none 0 0, .slice none 0 0, .slice none 0 0, .slice none 0 0]).setCell ⟨WX.heap.size + 1, 0, none⟩ (.int .i64 0) = x := ⟨_, rfl⟩
  have q2 : Blk W2 WX.heap.size 57 #[.int .i64 (P : Int), .slice none 0 0, .slice none 0 0, .slice none 0 0, .slice none 0 0, .slice none 0 0, .slice none 0 0, .slice none 0 0, .slice none 0 0, .slice none 0 0, .slice none 0 0, .slice none 0 0, .slice none 0 0, .slice none 0 0, .slice none 0 0, .slice none 0 0, .slice none 0 0, .slice none 0 0] := by rw [← hW2]; exact (bA2.setRow _).far (by show WX.heap.size ≠ WX.heap.size + 1; omega) _
  have q3 : Blk W2 (WX.heap.size + 1) 3 #[.int .i64 0] := by rw [← hW2]; exact bR3.set_ 0 _
  have q0 : Blk W2 w.heap.size 57 vs.toArray := by rw [← hW2]; exact ((bX0.below hBA bX0.lt).farRow (by omega) _).far (by show w.heap.size ≠ WX.heap.size + 1; omega) _
  have q1 : Blk W2 (w.heap.size + 1) 57 #[.int .i64 0, .slice none 0 0, .slice none 0 0, .slice none 0 0, .slice none 0 0, .slice none 0 0, .slice none 0 0, .slice none 0 0, .slice none 0 0, .slice none 0 0, .slice none 0 0, .slice none 0 0, .slice none 0 0, .slice none 0 0, .slice none 0 0, .slice none 0 0, .slice none 0 0, .slice none 0 0] := by rw [← hW2]; exact ((bX1.below hBA bX1.lt).farRow (by omega) _).far (by show w.heap.size + 1 ≠ WX.heap.size + 1; omega) _
  have hBW : Below w.heap.size w W2 := by rw [← hW2]; exact (C.below_setRow (below_in hBX hBA) (by omega) _).setCell (by show w.heap.size ≤ WX.heap.size + 1; omega) _
  have s2 : W2.heap.size = WX.heap.size + 2 := by rw [← hW2]; simp [World.setRow, sA]
  have k0 := bX0.cell 0
  rw [List.getElem?_toArray, h0] at k0
  have k3 := bR3.one
  have k4 := bR3.frozen 0
  obtain ⟨b, hb⟩ : ∃ b, by_ % (P : Int) = b := ⟨_, rfl⟩
  have b1 : 0 ≤ b := by rw [← hb]; exact Int.emod_nonneg _ (by omega)
  have b2 : b < (P : Int) := by rw [← hb]; exact Int.emod_lt_of_pos _ (by omega)
  have HPL : Hid (∀ U : World, Below w.heap.size w U → Calls Tryd.prog 57 #[.agg vs.toArray, .int .i64 by_] U fun e w' => e = .returned (.int .i64 b) ∧ Below U.heap.size U w') := fun U hU => by
    have := place_any P vs hp h0 by_ y1 y2 U (hL.next hU)
    rwa [hb] at this
  have HWK := Lib.hid (fun (U : World) (hU : Below w.heap.size w U) => modWalk_anyO (P : Int) b 1 (fine_one.2 ⟨hp, b1, b2⟩) U (hL.next hU) (by omega) (by omega))
  have HSS : Hid (∀ U, Below W2.heap.size W2 U → (fun U : World => U.cell? ⟨w.heap.size, 0, none⟩ = some (.int .i64 (P : Int)) ∧ LoadIs Tryd.prog 57 ⟨w.heap.size, 0, none⟩ (.agg vs.toArray) U) U) := fun U hU => ⟨by
    have := (q0.below hU q0.lt).cell 0
    rwa [List.getElem?_toArray, h0] at this, load_col0 (q0.below hU q0.lt) hl⟩
  have hBx := (Below.refl W2.heap.size W2).drew
  obtain ⟨ws, hws⟩ : ∃ ws, (vs.drop 1).take 17 = ws := ⟨_, rfl⟩
  have hwl : ws.length = 17 := by rw [← hws, List.length_take, List.length_drop]; omega
  have HLW := Lib.hid (fun (X : World) (hX : Blk X w.heap.size 57 vs.toArray) => (by
    have := load_whole hX 1 (by omega)
    rwa [hws] at this : LoadIs Tryd.prog 55 ⟨w.heap.size, 1, none⟩ (.agg ws.toArray) X))
  have HCE := Lib.hid (fun (k : Nat) (hk : k < P) (X : World) (u : Value) (hu : vs[k + 1]? = some u) => cell_any ws k u hwl (by rw [← hws, ws_get hl k (by omega), hu]) X)
  have HR := Lib.hid hr
  have HVS := Lib.hid (⟨hl, h0, h1c⟩ : _ ∧ _ ∧ _)
  have HQ := Lib.hid hQ
  have HPP := Lib.hid hp
  have HBY := Lib.hid hb
  have HSX := Lib.hid sX
  have HS2 := Lib.hid s2
  clear hl h0 hr h1c hws hwl bX0 bX1 bA2 bA3 bR3 sX sA s2 hQ hp hb hBX hBA hL
  refine (callsIn_wide (n := 9)).1 ?_
  refine callsIn_of_wp_marks Tryd.func56 rfl trivial ?_ rfl
  simp only [Tryd.ntmps56, List.size_toArray, List.length_cons, List.length_nil, Nat.reduceAdd, Nat.reduceSub, Array.replicate_succ, Array.replicate_zero, List.push_toArray, List.append_toArray, List.nil_append, List.cons_append]
  gi_wp2_with (refine wpListIn_storeS rfl rfl rfl rfl HST ?_)
  clear HST hWX hWA hW2 k0 k3 k4
  have hS : (fun U : World => U.cell? ⟨w.heap.size, 0, none⟩ = some (.int .i64 (P : Int)) ∧ LoadIs Tryd.prog 57 ⟨w.heap.size, 0, none⟩ (.agg vs.toArray) U) W2.drew := HSS.out _ hBx
  refine wpIn_mono (region_HF (Q := NoPanic _) (S := (fun U : World => U.cell? ⟨w.heap.size, 0, none⟩ = some (.int .i64 (P : Int)) ∧ LoadIs Tryd.prog 57 ⟨w.heap.size, 0, none⟩ (.agg vs.toArray) U)) (by kernel_rfl) ?_) NoPanic.imp
  refine anyHF_take (i := 0) (d := 11) (v := .pointer (some ⟨w.heap.size, 0, none⟩)) (by kernel_rfl) rfl (by kernel_rfl) (by kernel_rfl) (by kernel_rfl) rfl (fun _ _ _ h => h) ⟨Or.inl ⟨by rfl, fun w hS => by obtain ⟨h0, h1⟩ := hS; go_simp⟩, fun _ => rfl⟩ hS ?_
  simp only [List.setIfInBounds_toArray, List.set_cons_zero, List.set_cons_succ]
  refine anyHF_take (i := 1) (d := 12) (v := .int .i64 (P : Int)) (by kernel_rfl) rfl (by kernel_rfl) (by kernel_rfl) (by kernel_rfl) rfl (fun _ _ _ h => h) ⟨Or.inl ⟨by rfl, fun w hS => by obtain ⟨h0, h1⟩ := hS; go_simp⟩, fun _ => rfl⟩ hS ?_
  simp only [List.setIfInBounds_toArray, List.set_cons_zero, List.set_cons_succ]
  refine anyHF_take (i := 2) (d := 13) (v := .agg vs.toArray) (by kernel_rfl) rfl (by kernel_rfl) (by kernel_rfl) (by kernel_rfl) rfl (fun _ _ _ h => h) ⟨Or.inl ⟨by rfl, fun w hS => by obtain ⟨h0, h1⟩ := hS; exact exec_load rfl rfl (by first | exact h1)⟩, fun _ => rfl⟩ hS ?_
  simp only [List.setIfInBounds_toArray, List.set_cons_zero, List.set_cons_succ]
  refine anyHF_take (i := 3) (d := 14) (v := .int .i64 by_) (by kernel_rfl) rfl (by kernel_rfl) (by kernel_rfl) (by kernel_rfl) rfl (fun _ _ _ h => h) ⟨Or.inl ⟨by rfl, fun w hS => by obtain ⟨h0, h1⟩ := hS; go_simp⟩, fun _ => rfl⟩ hS ?_
  simp only [List.setIfInBounds_toArray, List.set_cons_zero, List.set_cons_succ]
  refine anyHF_one (i := 4) (by kernel_rfl) rfl (by kernel_rfl) (by rfl) ?_
  gi_wp2_with fail
  refine ⟨trivial, (callsIn_wide.2 (HPL.out _ (below_in hBW hBx))).mono ?_⟩
  rintro e w1 ⟨rfl, hB1⟩
  replace hBx := below_in hBx hB1
  clear hS
  have hS : (fun U : World => U.cell? ⟨w.heap.size, 0, none⟩ = some (.int .i64 (P : Int)) ∧ LoadIs Tryd.prog 57 ⟨w.heap.size, 0, none⟩ (.agg vs.toArray) U) w1 := HSS.out _ hBx
  gi_wp2
  try (refine ⟨hS, ?_⟩)
  refine anyHF_one (i := 5) (by kernel_rfl) rfl (by kernel_rfl) (by rfl) ?_
  gi_wp2_with fail
  refine ⟨trivial, (callsIn_wide.2 (HWK.out _ (below_in hBW hBx))).mono ?_⟩
  rintro e w2 ⟨v', rfl, ⟨gf, lb, rfl, eg, hgo⟩, hB2⟩
  have hBx1 := hBx
  replace hBx := below_in hBx hB2
  clear hS
  have hS : (fun U : World => U.cell? ⟨w.heap.size, 0, none⟩ = some (.int .i64 (P : Int)) ∧ LoadIs Tryd.prog 57 ⟨w.heap.size, 0, none⟩ (.agg vs.toArray) U) w2 := HSS.out _ hBx
  gi_wp2
  try (refine ⟨hS, ?_⟩)
  refine anyHF_done (by kernel_rfl) ?_ _
  refine NoPanic.normal ?_
  have hlen : (walkN (P : Int) b 1).length = P := by rw [walkN_yes (fine_one.2 ⟨HPP.out, b1, b2⟩), walkL_len, Int.toNat_natCast]
  have hsz1 := hBx1.size
  have hszb := hB2.size
  have sX := HSX.out
  have s2 := HS2.out
  have h16 : WX.heap.size + 2 ≤ w1.heap.size := by omega
  clear hS sX s2
  gi_wp2_with fail
  refine wpIn_rangeActO rfl (by omega) (gf := gf) (lb := lb) rfl trivial eg (hgo _ (by omega)) (fun h h' => h.trans h') (fun X l' ob hl' hlX _ => Keep.putFar X (by omega) ob) (Below.refl _ _) (fun _ => rfl)
    (fun (pre : List Int) X => Blk X w.heap.size 57 vs.toArray ∧ Blk X (w.heap.size + 1) 57 #[.int .i64 0, .slice none 0 0, .slice none 0 0, .slice none 0 0, .slice none 0 0, .slice none 0 0, .slice none 0 0, .slice none 0 0, .slice none 0 0, .slice none 0 0, .slice none 0 0, .slice none 0 0, .slice none 0 0, .slice none 0 0, .slice none 0 0, .slice none 0 0, .slice none 0 0, .slice none 0 0] ∧ Blk X WX.heap.size 57 (mvL vs [.int .i64 (P : Int), .slice none 0 0, .slice none 0 0, .slice none 0 0, .slice none 0 0, .slice none 0 0, .slice none 0 0, .slice none 0 0, .slice none 0 0, .slice none 0 0, .slice none 0 0, .slice none 0 0, .slice none 0 0, .slice none 0 0, .slice none 0 0, .slice none 0 0, .slice none 0 0, .slice none 0 0] 0 pre).toArray ∧ Blk X (WX.heap.size + 1) 3 #[.int .i64 (pre.length : Int)] ∧ Below w.heap.size w X) (fun _ _ _ => False) ?hI (fun c s o X Y row hs _ _ => hs.2.elim) ?h0 ?act (fun x : Int => 0 ≤ x ∧ x < (P : Int)) ?assign ?body ?done (fun D c pre W _ _ h => h.elim)
  case h0 => exact ⟨q0.below hBx q0.lt, q1.below hBx q1.lt, q2.below hBx q2.lt, q3.below hBx q3.lt, below_in hBW hBx⟩
  case hI =>
    have sX := HSX.out
    exact FarO.and (farO_pure _ (fun _ o => o = none)) (FarO.and (farO_blk (by omega) _ (fun _ => vs.toArray)) (FarO.and (farO_blk (by omega) _ (fun _ => _)) (FarO.and (farO_blk (by omega) _ (fun pre : List Int => (mvL vs [.int .i64 (P : Int), .slice none 0 0, .slice none 0 0, .slice none 0 0, .slice none 0 0, .slice none 0 0, .slice none 0 0, .slice none 0 0, .slice none 0 0, .slice none 0 0, .slice none 0 0, .slice none 0 0, .slice none 0 0, .slice none 0 0, .slice none 0 0, .slice none 0 0, .slice none 0 0, .slice none 0 0] 0 pre).toArray)) (FarO.and (farO_blk (by omega) _ (fun pre : List Int => #[.int .i64 (pre.length : Int)])) (farO_below (Nat.le_refl _) (by omega))))))
  case assign =>
    intro l' pre x X K hsz hi hok hK
    gi_wp2
    exact hK _ (Below.refl _ _) (Keep.refl _ _ _) hi hok
  case body =>
    rintro l' pre x X hsz ⟨p0, p1, p2, p3, hbX⟩ ⟨x0, x1⟩ hln
    rw [hlen] at hln
    obtain ⟨r, rfl⟩ : ∃ r : Nat, x = (r : Int) := ⟨x.toNat, by omega⟩
    have sX := HSX.out
    obtain ⟨k, hk⟩ : ∃ k, pre.length = k := ⟨_, rfl⟩
    rw [hk] at p3 hln
    obtain ⟨us, hus⟩ : ∃ us, mvL vs [.int .i64 (P : Int), .slice none 0 0, .slice none 0 0, .slice none 0 0, .slice none 0 0, .slice none 0 0, .slice none 0 0, .slice none 0 0, .slice none 0 0, .slice none 0 0, .slice none 0 0, .slice none 0 0, .slice none 0 0, .slice none 0 0, .slice none 0 0, .slice none 0 0, .slice none 0 0, .slice none 0 0] 0 pre = us := ⟨_, rfl⟩
    have hul : us.length = 18 := by rw [← hus, mvL_len]; rfl
    obtain ⟨nk, u, hu, yk⟩ := HR.out k hln
    obtain ⟨Au, cu, eu, _, _⟩ := id yk
    rw [nk] at eu
    subst eu
    have hnext : mvL vs [.int .i64 (P : Int), .slice none 0 0, .slice none 0 0, .slice none 0 0, .slice none 0 0, .slice none 0 0, .slice none 0 0, .slice none 0 0, .slice none 0 0, .slice none 0 0, .slice none 0 0, .slice none 0 0, .slice none 0 0, .slice none 0 0, .slice none 0 0, .slice none 0 0, .slice none 0 0, .slice none 0 0] 0 (pre ++ [(r : Int)]) = us.set (1 + r) (.slice Au n cu) := by rw [mvL_snoc, hus, hk, Nat.zero_add, Int.toNat_natCast, hu, Nat.add_comm 1 r]; rfl
    rw [hus] at p2
    have hlw := HLW.out X p0
    have hce := HCE.out k hln X _ hu
    have c3 := p3.one
    have i1 : (0 : Int) ≤ (k : Int) := by omega
    have i2 : (k : Int) < 17 := by omega
    have i3 : (0 : Int) ≤ (r : Int) := by omega
    have i4 : (r : Int) < 17 := by omega
    have hwr : IntKind.i64.wrap ((k : Int) + 1) = (k : Int) + 1 := IntWalk.i64_in _ (by omega)
    have HUS := Lib.hid hus
    have HK := Lib.hid hk
    have HUL := Lib.hid hul
    have HN := Lib.hid hnext
    have HS := Lib.hid sX
    clear hus hk hul hnext sX x0 x1 hlen hu yk nk
    gi_wp2_with (refine wpListIn_loadS rfl rfl rfl hlw ?_)
    refine ⟨trivial, (CallsIn.inRound l' (callsIn_wide.2 hce)).mono ?_⟩
    rintro e X1 ⟨rfl, hB1⟩
    have r2 := p2.below hB1 p2.lt
    have r3 := p3.below hB1 p3.lt
    obtain ⟨old, hold⟩ : ∃ old, X1.cell? ⟨WX.heap.size, 1 + r, none⟩ = some old := ⟨_, by rw [r2.cell, List.getElem?_toArray, List.getElem?_eq_getElem (by have := HUL.out; omega)]⟩
    have hfz := r2.frozen (1 + r)
    have d3 : (X1.setCell ⟨WX.heap.size, 1 + r, none⟩ (.slice Au n cu)).cell? ⟨WX.heap.size + 1, 0, none⟩ = some (.int .i64 (k : Int)) := (r3.far (by show WX.heap.size + 1 ≠ WX.heap.size; omega) _).one
    have e3 : (X1.setCell ⟨WX.heap.size, 1 + r, none⟩ (.slice Au n cu)).frozen? ⟨WX.heap.size + 1, 0, none⟩ = false := (r3.far (by show WX.heap.size + 1 ≠ WX.heap.size; omega) _).frozen 0
    gi_wp2_with fail
    have sX := HS.out
    have hO : Only (fun b => b = WX.heap.size ∨ b = WX.heap.size + 1) X ((X1.setCell ⟨WX.heap.size, 1 + r, none⟩ (.slice Au n cu)).setCell ⟨WX.heap.size + 1, 0, none⟩ (.int .i64 ((k : Int) + 1))) := (Only.below hB1).trans ((Only.set (.inl rfl) _).trans (Only.set (.inr rfl) _))
    have hl2 : w1.heap.size + (w2.heap.size - w1.heap.size) ≤ X.heap.size := by omega
    refine ⟨none, .inl rfl, hO.since (fun b hb => by omega), hO.keep hl2 (fun b hb => by omega), rfl, ?_⟩
    rw [HN.out]
    refine ⟨hO.blk p0 (by omega), hO.blk p1 (by omega), ?_, ?_, ((below_in hbX hB1).setCell (by show w.heap.size ≤ WX.heap.size; omega) _).setCell (by show w.heap.size ≤ WX.heap.size + 1; omega) _⟩
    · have := (r2.set_ (1 + r) (.slice Au n cu)).far (p := ⟨WX.heap.size + 1, 0, none⟩) (by show WX.heap.size ≠ WX.heap.size + 1; omega) (.int .i64 ((k : Int) + 1))
      rwa [List.setIfInBounds_toArray] at this
    · have := (r3.far (p := ⟨WX.heap.size, 1 + r, none⟩) (by show WX.heap.size + 1 ≠ WX.heap.size; omega) (.slice Au n cu)).set_ 0 (.int .i64 ((k : Int) + 1))
      rw [List.length_append, HK.out]
      exact this
  case done =>
    rintro D xs X hD rfl ⟨p0, p1, p2, p3, hbX⟩ hK
    have sX := HSX.out
    have hms := moved_slots P HPP.out b b1 b2 vs [.int .i64 (P : Int), .slice none 0 0, .slice none 0 0, .slice none 0 0, .slice none 0 0, .slice none 0 0, .slice none 0 0, .slice none 0 0, .slice none 0 0, .slice none 0 0, .slice none 0 0, .slice none 0 0, .slice none 0 0, .slice none 0 0, .slice none 0 0, .slice none 0 0, .slice none 0 0, .slice none 0 0] rfl
    have hml := mvL_len vs (walkN (P : Int) b 1) [.int .i64 (P : Int), .slice none 0 0, .slice none 0 0, .slice none 0 0, .slice none 0 0, .slice none 0 0, .slice none 0 0, .slice none 0 0, .slice none 0 0, .slice none 0 0, .slice none 0 0, .slice none 0 0, .slice none 0 0, .slice none 0 0, .slice none 0 0, .slice none 0 0, .slice none 0 0, .slice none 0 0] 0
    have hmz := mvL_zero vs (walkN (P : Int) b 1) [.int .i64 (P : Int), .slice none 0 0, .slice none 0 0, .slice none 0 0, .slice none 0 0, .slice none 0 0, .slice none 0 0, .slice none 0 0, .slice none 0 0, .slice none 0 0, .slice none 0 0, .slice none 0 0, .slice none 0 0, .slice none 0 0, .slice none 0 0, .slice none 0 0, .slice none 0 0, .slice none 0 0] 0
    have hm1 := mvL_one vs HVS.out.2.2 (walkN (P : Int) b 1) [.int .i64 (P : Int), .slice none 0 0, .slice none 0 0, .slice none 0 0, .slice none 0 0, .slice none 0 0, .slice none 0 0, .slice none 0 0, .slice none 0 0, .slice none 0 0, .slice none 0 0, .slice none 0 0, .slice none 0 0, .slice none 0 0, .slice none 0 0, .slice none 0 0, .slice none 0 0, .slice none 0 0] 0 (by have := HVS.out.1; omega) (one_nils _)
    generalize mvL vs [.int .i64 (P : Int), .slice none 0 0, .slice none 0 0, .slice none 0 0, .slice none 0 0, .slice none 0 0, .slice none 0 0, .slice none 0 0, .slice none 0 0, .slice none 0 0, .slice none 0 0, .slice none 0 0, .slice none 0 0, .slice none 0 0, .slice none 0 0, .slice none 0 0, .slice none 0 0, .slice none 0 0] 0 (walkN (P : Int) b 1) = us at *
    have hul : us.length = 18 := hml
    have HLD := load_col0 p2 hul
    have HSD := store_col0 (cs := [.int .i64 0, .slice none 0 0, .slice none 0 0, .slice none 0 0, .slice none 0 0, .slice none 0 0, .slice none 0 0, .slice none 0 0, .slice none 0 0, .slice none 0 0, .slice none 0 0, .slice none 0 0, .slice none 0 0, .slice none 0 0, .slice none 0 0, .slice none 0 0, .slice none 0 0, .slice none 0 0]) p1 rfl hul hm1
    have z1 := p1.setRow us.toArray
    have hKz : (X.setRow (w.heap.size + 1) us.toArray).heap[D]? = some (.deferred (some [])) := (setRow_other X _ D _ (by omega)).trans hK
    have hbz := C.below_setRow hbX (show w.heap.size ≤ w.heap.size + 1 by omega) us.toArray
    have HF : Hid (ColV B ((X.setRow (w.heap.size + 1) us.toArray).putObj D (.deferred none)) P n (fun r => f (((r : Int) - by_) % P).toNat) us ∧ LoadIs Tryd.prog 57 ⟨w.heap.size + 1, 0, none⟩ (.agg us.toArray) ((X.setRow (w.heap.size + 1) us.toArray).putObj D (.deferred none)) ∧ Below w.heap.size w ((X.setRow (w.heap.size + 1) us.toArray).putObj D (.deferred none))) := by
      have hWf : Below w.heap.size w ((X.setRow (w.heap.size + 1) us.toArray).putObj D (.deferred none)) := hbz.trans (belowK_b (w := w) (Nat.le_refl _) _ D _ _ (by have := hbz.size; omega) hKz rfl rfl)
      refine ⟨⟨hul, by rw [hmz]; rfl, fun r hr => ?_, hm1⟩, ?_, hWf⟩
      · have e1 : ((r : Int) - b) % (P : Int) = ((r : Int) - by_) % (P : Int) := by rw [← HBY.out, Int.sub_emod, Int.emod_emod_of_dvd _ (Int.dvd_refl _), ← Int.sub_emod]
        have h0 := Int.emod_nonneg ((r : Int) - by_) (show (P : Int) ≠ 0 by omega)
        have h2 := Int.emod_lt_of_pos ((r : Int) - by_) (show (0 : Int) < P by omega)
        obtain ⟨nk, u, hu, yk⟩ := (hVB.out _ hWf).2.2.1 (((r : Int) - by_) % (P : Int)).toNat (by omega)
        have := hms r hr
        rw [e1, hu] at this
        exact ⟨nk, u, this, yk⟩
      · exact load_col0 ((World.putObj_heap_other (by omega)).trans z1) hul
    clear hms hml hmz hm1
    gi_wp2_with (first | refine wpListIn_loadS rfl rfl rfl HLD ?_ | refine wpListIn_storeS rfl rfl rfl rfl HSD ?_)
    refine ⟨by simp, .inl ⟨_, _, rfl, run_takeDeferred hKz, ?_⟩⟩
    exact ⟨_, results_cell rfl rfl HF.out.2.1, us, rfl, HF.out.1, HF.out.2.2⟩
end Go.Proofs.YtckfepmahjgmfaaDoor.Rg

namespace Go.Proofs.YtckfepmahjgmfaaDoor.Rg
open Go.RowKit Go.Shelf Go.Proofs.YtckfepmahjgmfaaDoor.C Go.Proofs.YtckfepmahjgmfaaDoor.E
set_option linter.unusedSimpArgs false
set_option linter.unusedVariables false

/-- The slice value v reads as the bytes l; they lie in no block of A. -/
def BytesA (A : Nat → Prop) (W : World) (v : Value) (l : List UInt8) : Prop :=
  ∃ a cap, v = .slice a l.length cap ∧ l.length ≤ cap ∧ (0 < l.length → ∃ b off, a = some ⟨b, off, none⟩ ∧ b < W.heap.size ∧ ¬ A b ∧ ∀ j, j < l.length → W.cell? ⟨b, off + j, none⟩ = some (.int .u8 ((l[j]?.getD 0).toNat : Int)))
section
variable {A A' : Nat → Prop} {X Y : World} {v : Value} {l : List UInt8} {B base : Nat}
theorem BytesA.bytes (h : BytesA A X v l) : Bytes X.heap.size X v l := by
  obtain ⟨a, cap, e, hc, hA⟩ := h
  refine ⟨a, cap, e, hc, fun hp => ?_⟩
  obtain ⟨b, off, e2, hb, _, hcell⟩ := hA hp
  exact ⟨b, off, e2, hb, hcell⟩
theorem BytesA.of_fresh (h : Fresh base X v l) (hA : ∀ b, A b → b < base) : BytesA A X v l := by
  obtain ⟨a, cap, e, hc, hb⟩ := h
  refine ⟨a, cap, e, hc, fun hp => ?_⟩
  obtain ⟨b, off, e2, h1, h2, hcell⟩ := hb hp
  exact ⟨b, off, e2, h2, fun e => by have := hA b e; omega, hcell⟩
theorem BytesA.of_bytes (h : Bytes B X v l) (hB : B ≤ X.heap.size) (hA : ∀ b, A b → B ≤ b) : BytesA A X v l := by
  obtain ⟨a, cap, e, hc, hb⟩ := h
  refine ⟨a, cap, e, hc, fun hp => ?_⟩
  obtain ⟨b, off, e2, h1, hcell⟩ := hb hp
  exact ⟨b, off, e2, by omega, fun e => by have := hA b e; omega, hcell⟩
theorem BytesA.less (h : BytesA A X v l) (hA : ∀ b, A' b → A b) : BytesA A' X v l := by
  obtain ⟨a, cap, e, hc, hb⟩ := h
  refine ⟨a, cap, e, hc, fun hp => ?_⟩
  obtain ⟨b, off, e2, h1, h2, hcell⟩ := hb hp
  exact ⟨b, off, e2, h1, fun e => h2 (hA b e), hcell⟩
theorem BytesA.only (h : BytesA A X v l) (ho : Only A X Y) : BytesA A Y v l := by
  obtain ⟨a, cap, e, hc, hb⟩ := h
  refine ⟨a, cap, e, hc, fun hp => ?_⟩
  obtain ⟨b, off, e2, h1, h2, hcell⟩ := hb hp
  exact ⟨b, off, e2, Nat.lt_of_lt_of_le h1 ho.1, h2, fun j hj => (World.cell?_of_block (ho.2 b h1 h2)).trans (hcell j hj)⟩
theorem fresh_only (h : Fresh base X v l) (ho : Only A X Y) (hA : ∀ b, A b → b < base) : Fresh base Y v l := by
  obtain ⟨a, cap, e, hc, hb⟩ := h
  refine ⟨a, cap, e, hc, fun hp => ?_⟩
  obtain ⟨b, off, e2, h1, h2, hcell⟩ := hb hp
  exact ⟨b, off, e2, h1, Nat.lt_of_lt_of_le h2 ho.1, fun j hj => (World.cell?_of_block (ho.2 b h2 (fun e => by have := hA b e; omega))).trans (hcell j hj)⟩
theorem fresh_slice (h : Fresh base X v l) : ∃ a c, v = .slice a l.length c := by
  obtain ⟨a, cap, e, _⟩ := h
  exact ⟨a, cap, e⟩
end
/-- The first i cells of a row of slices are told, all in no block of A. -/
def ToldA (A : Nat → Prop) (W : World) (F : Nat → List UInt8) (i : Nat) (ts : List Value) : Prop := ∀ j, j < i → ∃ u, ts[j]? = some u ∧ BytesA A W u (F j)
def ToldF (base : Nat) (W : World) (F : Nat → List UInt8) (i : Nat) (ts : List Value) : Prop := ∀ j, j < i → ∃ u, ts[j]? = some u ∧ Fresh base W u (F j)
section
variable {A : Nat → Prop} {X Y : World} {F : Nat → List UInt8} {i base : Nat} {ts : List Value}
theorem ToldA.only (h : ToldA A X F i ts) (ho : Only A X Y) : ToldA A Y F i ts := fun j hj => by obtain ⟨u, h1, h2⟩ := h j hj; exact ⟨u, h1, h2.only ho⟩
theorem ToldF.less {base' : Nat} (h : ToldF base X F i ts) (hb : base' ≤ base) : ToldF base' X F i ts := fun j hj => by obtain ⟨u, h1, h2⟩ := h j hj; exact ⟨u, h1, fresh_more h2 hb⟩
theorem ToldF.only (h : ToldF base X F i ts) (ho : Only A X Y) (hA : ∀ b, A b → b < base) : ToldF base Y F i ts := fun j hj => by obtain ⟨u, h1, h2⟩ := h j hj; exact ⟨u, h1, fresh_only h2 ho hA⟩
theorem ToldA.next {u : Value} (h : ToldA A X F i ts) (hi : i < ts.length) (hu : BytesA A X u (F i)) : ToldA A X F (i + 1) (ts.set i u) := fun j hj => by
  by_cases e : j = i
  · subst e
    exact ⟨u, List.getElem?_set_self hi, hu⟩
  · obtain ⟨v, h1, h2⟩ := h j (by omega)
    exact ⟨v, by rw [List.getElem?_set_ne (Ne.symm e)]; exact h1, h2⟩
theorem ToldF.next {u : Value} (h : ToldF base X F i ts) (hi : i < ts.length) (hu : Fresh base X u (F i)) : ToldF base X F (i + 1) (ts.set i u) := fun j hj => by
  by_cases e : j = i
  · subst e
    exact ⟨u, List.getElem?_set_self hi, hu⟩
  · obtain ⟨v, h1, h2⟩ := h j (by omega)
    exact ⟨v, by rw [List.getElem?_set_ne (Ne.symm e)]; exact h1, h2⟩
theorem ToldA.many {k g : Nat} {t : TypeId} (h : ToldA A X F k ts) (hk : ts.length = k) (hb : Blk X g t ts.toArray) : Many X.heap.size X (.slice (some ⟨g, 0, none⟩) k k) ((List.range k).map F) := by
  refine ⟨_, k, by rw [List.length_map, List.length_range], by rw [List.length_map, List.length_range]; exact Nat.le_refl _, fun _ => ⟨g, 0, rfl, hb.lt, fun j hj => ?_⟩⟩
  rw [List.length_map, List.length_range] at hj
  obtain ⟨u, h1, h2⟩ := h j hj
  refine ⟨u, by rw [Nat.zero_add, hb.cell, List.getElem?_toArray]; exact h1, ?_⟩
  rw [List.getElem?_map, List.getElem?_range hj]
  exact h2.bytes
theorem ToldF.many {k g : Nat} {t : TypeId} (h : ToldF base X F k ts) (hk : ts.length = k) (hb : Blk X g t ts.toArray) (hg : base ≤ g) : FreshMany base X (.slice (some ⟨g, 0, none⟩) k k) ((List.range k).map F) := by
  refine ⟨_, k, by rw [List.length_map, List.length_range], by rw [List.length_map, List.length_range]; exact Nat.le_refl _, fun _ => ⟨g, 0, rfl, hg, hb.lt, fun j hj => ?_⟩⟩
  rw [List.length_map, List.length_range] at hj
  obtain ⟨u, h1, h2⟩ := h j hj
  refine ⟨u, by rw [Nat.zero_add, hb.cell, List.getElem?_toArray]; exact h1, ?_⟩
  rw [List.getElem?_map, List.getElem?_range hj]
  exact h2
end
theorem many_ok {k n : Nat} {F : Nat → List UInt8} (hk : 1 ≤ k) (h1 : 1 ≤ n) (h64 : n ≤ 64) (h : ∀ i, i < k → (F i).length = n) : XorOk ((List.range k).map F) := by
  have h0 : (((List.range k).map F)[0]?.getD []).length = n := by
    rw [List.getElem?_map, List.getElem?_range (by omega)]
    exact h 0 (by omega)
  refine ⟨by simp; omega, by unfold Cell; omega, fun j hj => ?_⟩
  rw [List.length_map, List.length_range] at hj
  rw [h0, List.getElem?_map, List.getElem?_range hj]
  exact h j hj
section
variable {F : Fence} {n : Nat} {P : Program} {md : Region.Mode} {ops : Array Oper} {Q : Exit → Act → World → Prop} {S : World → Prop}
theorem anyHF_both {i j : Nat} {oi oj : Oper} {k : Nat} {listed : Array Bool} {a : Act} {w : World} (hr : Region.ready md ops listed = [i, j]) (hi : ops[i]? = some oi) (hj : ops[j]? = some oj) (hwi : Region.wanted oi (yielded ops a.tmps) = true) (hwj : Region.wanted oj (yielded ops a.tmps) = true)
    (h1 : Oper.wpIn F n P oi a w (fun a' w' => S w' ∧ anyHF F n P md ops Q S k (listed.setIfInBounds i true) a' w') Q) (h2 : Oper.wpIn F n P oj a w (fun a' w' => S w' ∧ anyHF F n P md ops Q S k (listed.setIfInBounds j true) a' w') Q) : anyHF F n P md ops Q S (k + 1) listed a w :=
  ⟨fun h0 => (by rw [hr] at h0; cases h0), fun m hm => by
    rw [hr] at hm
    simp only [List.mem_cons, List.not_mem_nil, or_false] at hm
    rcases hm with rfl | rfl
    · unfold wpOpIn
      rw [hi]
      simp only [hwi, if_true]
      exact h1
    · unfold wpOpIn
      rw [hj]
      simp only [hwj, if_true]
      exact h2⟩
end
theorem made_nils (n : Nat) : madeCells #[.slice none 0 0] n = (List.replicate n (Value.slice none 0 0)).toArray := by
  apply Array.toList_inj.1
  rw [toList_madeCells_one]
end Go.Proofs.YtckfepmahjgmfaaDoor.Rg

namespace Go.Proofs.YtckfepmahjgmfaaDoor.Rg
open Go.RowKit Go.Shelf Go.Maps Go.Proofs.YtckfepmahjgmfaaDoor.C Go.Proofs.YtckfepmahjgmfaaDoor.E
set_option linter.unusedSimpArgs false
set_option linter.unusedVariables false
attribute [local go_sem] Oper.semAt_some

theorem Tryd.infoSlc : (Tryd.prog.info? 48).map (fun i => (i.zero, i.size, i.bytes)) = some (some (.slice none 0 0), 1, 24) := by kernel_rfl
theorem Blk.at_ {w : World} {g g' : Nat} {t : TypeId} {cs : Array Value} (h : Blk w g t cs) (e : g = g') : Blk w g' t cs := e ▸ h
set_option maxRecDepth 100000 in
set_option maxHeartbeats 4000000 in
theorem rowsK_any (P Q k n : Nat) (hQ : P = Q + 1) (hP : P ≤ 17) (hk : 1 ≤ k) (hk2 : k ≤ 100) (h1 : 1 ≤ n) (h64 : n ≤ 64) (gl capl fs : Nat) (vss : Nat → List Value) (G : Nat → Nat → List UInt8) (w : World) (efs : ∀ args W, (callFunc fs args).run Tryd.prog W = .ok (.enter fs args) W)
    (hld : ∀ U, Below w.heap.size w U → ∀ i, i < k → (vss i).length = 18 ∧ (∀ v ∈ vss i, v.oneCell' = true) ∧ LoadIs Tryd.prog 57 ⟨gl, i * 18, none⟩ (.agg (vss i).toArray) U)
    (hG : ∀ i, i < k → ∀ r, r < Q → (G i r).length = n)
    (hc : ∀ U, Below w.heap.size w U → ∀ i, i < k → ∀ r, r < Q → Calls Tryd.prog fs #[.agg (vss i).toArray, .int .i64 (r : Int)] U fun e w' => ∃ u, e = .returned u ∧ BytesA (fun b => w.heap.size ≤ b ∧ b < U.heap.size) w' u (G i r) ∧ Below U.heap.size U w') :
    Calls Tryd.prog 54 #[.int .i64 (P : Int), .func (.func fs) #[] #[], .slice (some ⟨gl, 0, none⟩) k capl] w fun e w' => ∃ v, e = .returned v ∧ FreshMany w.heap.size w' v ((List.range Q).map fun r => xorOf ((List.range k).map fun i => G i r)) ∧ Below w.heap.size w w' := by
  obtain ⟨i0, hi0, hz0, hz1, hz2⟩ := info_parts Tryd.infoSlc
  have hmkQ := fun W : World => run_make (P := Tryd.prog) W 23 48 i0 (.slice none 0 0) Tryd.underlying23 hi0 hz0 .i64 .i64 (Q : Int) (Q : Int) (by omega) (by omega) (by rw [hz2]; omega) (by omega)
  have hmkK := fun W : World => run_make (P := Tryd.prog) W 22 48 i0 (.slice none 0 0) Tryd.underlying22 hi0 hz0 .i64 .i64 (k : Int) (k : Int) (by omega) (by omega) (by rw [hz2]; omega) (by omega)
  simp only [hz1, Nat.mul_one, Int.toNat_natCast, show (Value.slice none 0 0).cells = #[.slice none 0 0] from rfl] at hmkQ hmkK
  clear hz0 hz1 hz2 hi0
  have HC := Lib.hid hc
  have HG := Lib.hid hG
  have HLD := Lib.hid hld
  have hPQ : (P : Int) - 1 = (Q : Int) := by omega
  have hwQ : IntKind.i64.wrap (Q : Int) = (Q : Int) := IntWalk.i64_in _ (by omega)
  have HQ := Lib.hid hQ
  clear hc hG hld hQ
  refine (callsIn_wide (n := 9)).1 ?_
  refine callsIn_of_wp_marks Tryd.func54 rfl trivial ?_ rfl
  simp only [Tryd.ntmps54, List.size_toArray, List.length_cons, List.length_nil, Nat.reduceAdd, Nat.reduceSub, Array.replicate_succ, Array.replicate_zero, List.push_toArray, List.append_toArray, List.nil_append, List.cons_append]
  gi_wp2_with fail
  refine wpIn_mono (Q := (fun e a V => e = Exit.normal ∧ ∃ gm gt, a = ({ tmps := #[.int .i64 (P : Int), .func (.func fs) #[] #[], .slice (some ⟨gl, 0, none⟩) k capl, undef, undef, undef, .slice none 0 0, .slice (some ⟨gm, 0, none⟩) Q Q, .slice (some ⟨gt, 0, none⟩) k k, undef, undef, undef, .int .i64 (P : Int), .int .i64 (Q : Int), .slice (some ⟨gm, 0, none⟩) Q Q, .slice (some ⟨gl, 0, none⟩) k capl, .int .i64 (k : Int), .slice (some ⟨gt, 0, none⟩) k k, undef, undef, undef, undef, undef, undef, undef, undef, undef, undef, undef, undef, undef, undef, undef, undef, undef, undef, undef, undef, undef, undef, undef, undef, undef, undef, undef], defers := [] } : Act) ∧ gm ≠ gt ∧ w.heap.size ≤ gm ∧ w.heap.size ≤ gt ∧ Blk V gm 48 (madeCells #[.slice none 0 0] Q) ∧ Blk V gt 48 (madeCells #[.slice none 0 0] k) ∧ Below w.heap.size w V)) (region_HF (S := fun _ => True) (by kernel_rfl) ?_) ?_
  · clear HC HG HLD
    refine anyHF_take (i := 0) (d := 12) (v := .int .i64 (P : Int)) (by kernel_rfl) rfl (by kernel_rfl) (by kernel_rfl) (by kernel_rfl) rfl (fun _ _ _ h => by cases h.1) ⟨Or.inl ⟨by rfl, fun w hS => by go_simp⟩, fun _ => rfl⟩ trivial ?_
    simp only [List.setIfInBounds_toArray, List.set_cons_zero, List.set_cons_succ]
    refine anyHF_take (i := 1) (d := 13) (v := .int .i64 (Q : Int)) (by kernel_rfl) rfl (by kernel_rfl) (by kernel_rfl) (by kernel_rfl) rfl (fun _ _ _ h => by cases h.1) ⟨Or.inl ⟨by rfl, fun w hS => by go_simp⟩, fun _ => rfl⟩ trivial ?_
    simp only [List.setIfInBounds_toArray, List.set_cons_zero, List.set_cons_succ]
    refine anyHF_take (i := 3) (d := 15) (v := .slice (some ⟨gl, 0, none⟩) k capl) (by kernel_rfl) rfl (by kernel_rfl) (by kernel_rfl) (by kernel_rfl) rfl (fun _ _ _ h => by cases h.1) ⟨Or.inl ⟨by rfl, fun w hS => by go_simp⟩, fun _ => rfl⟩ trivial ?_
    simp only [List.setIfInBounds_toArray, List.set_cons_zero, List.set_cons_succ]
    refine anyHF_take (i := 4) (d := 16) (v := .int .i64 (k : Int)) (by kernel_rfl) rfl (by kernel_rfl) (by kernel_rfl) (by kernel_rfl) rfl (fun _ _ _ h => by cases h.1) ⟨Or.inl ⟨by rfl, fun w hS => by go_simp⟩, fun _ => rfl⟩ trivial ?_
    simp only [List.setIfInBounds_toArray, List.set_cons_zero, List.set_cons_succ]
    refine anyHF_both (i := 2) (j := 5) (by kernel_rfl) rfl rfl (by rfl) (by rfl) ?ca ?cb
    case ca =>
      gi_wp2
      try (refine ⟨trivial, ?_⟩)
      refine anyHF_both (i := 5) (j := 6) (by kernel_rfl) rfl rfl (by rfl) (by rfl) ?caa ?cab
      case caa =>
        gi_wp2
        try (refine ⟨trivial, ?_⟩)
        refine anyHF_one (i := 6) (by kernel_rfl) rfl (by kernel_rfl) (by rfl) ?_
        gi_wp2
        try (refine ⟨trivial, ?_⟩)
        refine anyHF_one (i := 7) (by kernel_rfl) rfl (by kernel_rfl) (by rfl) ?_
        gi_wp2
        try (refine ⟨trivial, ?_⟩)
        refine anyHF_done (by kernel_rfl) ?_ _
        exact ⟨rfl, _, _, rfl, by simp, by simp, by simp, (Blk.new w.drew _ _).alloc _, Blk.at_ (Blk.new (w.drew.alloc _) _ _) (by simp), (below_two w _ _).drew⟩
      case cab =>
        gi_wp2
        try (refine ⟨trivial, ?_⟩)
        refine anyHF_one (i := 5) (by kernel_rfl) rfl (by kernel_rfl) (by rfl) ?_
        gi_wp2
        try (refine ⟨trivial, ?_⟩)
        refine anyHF_one (i := 7) (by kernel_rfl) rfl (by kernel_rfl) (by rfl) ?_
        gi_wp2
        try (refine ⟨trivial, ?_⟩)
        refine anyHF_done (by kernel_rfl) ?_ _
        exact ⟨rfl, _, _, rfl, by simp, by simp, by simp, (Blk.new w.drew _ _).alloc _, Blk.at_ (Blk.new (w.drew.alloc _) _ _) (by simp), (below_two w _ _).drew⟩
    case cb =>
      gi_wp2
      try (refine ⟨trivial, ?_⟩)
      refine anyHF_one (i := 2) (by kernel_rfl) rfl (by kernel_rfl) (by rfl) ?_
      gi_wp2
      try (refine ⟨trivial, ?_⟩)
      refine anyHF_one (i := 6) (by kernel_rfl) rfl (by kernel_rfl) (by rfl) ?_
      gi_wp2
      try (refine ⟨trivial, ?_⟩)
      refine anyHF_one (i := 7) (by kernel_rfl) rfl (by kernel_rfl) (by rfl) ?_
      gi_wp2
      try (refine ⟨trivial, ?_⟩)
      refine anyHF_done (by kernel_rfl) ?_ _
      exact ⟨rfl, _, _, rfl, by simp, by simp, by simp, Blk.at_ (Blk.new (w.drew.alloc _) _ _) (by simp), (Blk.new w.drew _ _).alloc _, (below_two w _ _).drew⟩
  rintro e a V ⟨rfl, gm, gt, rfl, hmt, hgm, hgt, bM, bT, hBV⟩
  clear hmkQ hmkK hPQ hwQ
  rw [made_nils] at bM bT
  have lM : (List.replicate Q (Value.slice none 0 0)).length = Q := List.length_replicate
  have lT : (List.replicate k (Value.slice none 0 0)).length = k := List.length_replicate
  generalize List.replicate Q (Value.slice none 0 0) = ms0 at *
  generalize List.replicate k (Value.slice none 0 0) = ts0 at *
  have hVm := bM.lt
  have hVt := bT.lt
  gi_wp2_with fail
  gi_loopw [20] (fun x wr => ∃ (i : Nat) (ms ts : List Value), i ≤ Q ∧ x = .int .i64 (i : Int) ∧ Hid (Blk wr gm 48 ms.toArray ∧ ms.length = Q ∧ ToldF V.heap.size wr (fun r => xorOf ((List.range k).map fun i => G i r)) i ms ∧ Blk wr gt 48 ts.toArray ∧ ts.length = k ∧ Below w.heap.size w wr ∧ V.heap.size ≤ wr.heap.size)) (fun x _ => Q - (intOf x).toNat)
  case atStart => exact ⟨0, ms0, ts0, Nat.zero_le _, rfl, Lib.hid ⟨bM, lM, fun j hj => absurd hj (by omega), bT, lT, hBV, Nat.le_refl _⟩⟩
  case round =>
    obtain ⟨i, ms, ts, hi, rfl, HS⟩ := hrel
    clear bM bT lM lT
    by_cases hlt : i < Q
    · have hdec : decide ((i : Int) < (Q : Int)) = true := by simp; omega
      obtain ⟨wo, hwo⟩ : ∃ x, x = wr := ⟨_, rfl⟩
      subst hwo
      gi_wp2_with fail
      gi_loopw [25] (fun x wr => ∃ (j : Nat) (ts : List Value), j ≤ k ∧ x = .int .i64 (j : Int) ∧ Hid (Blk wr gm 48 ms.toArray ∧ ms.length = Q ∧ ToldF V.heap.size wr (fun r => xorOf ((List.range k).map fun i => G i r)) i ms ∧ Blk wr gt 48 ts.toArray ∧ ts.length = k ∧ ToldA (fun b => b = gm ∨ b = gt) wr (fun j => G j i) j ts ∧ Below w.heap.size w wr ∧ V.heap.size ≤ wr.heap.size)) (fun x _ => k - (intOf x).toNat)
      case atStart =>
        obtain ⟨h1, h2, h3, h4, h5, h6, h7⟩ := HS.out
        exact ⟨0, ts, Nat.zero_le _, rfl, Lib.hid ⟨h1, h2, h3, h4, h5, fun j hj => absurd hj (by omega), h6, h7⟩⟩
      case round =>
        obtain ⟨j, ts', hj, rfl, HI⟩ := hrel
        by_cases hjk : j < k
        · have hdecj : decide ((j : Int) < (k : Int)) = true := by simp; omega
          obtain ⟨a1, a2, a3, a4, a5, a6, a7, a8⟩ := HI.out
          have hldU := HLD.out wr a7 j hjk
          have hstn := run_storeVar_new (P := Tryd.prog) wr 57 #[.int .i64 0, .slice none 0 0, .slice none 0 0, .slice none 0 0, .slice none 0 0, .slice none 0 0, .slice none 0 0, .slice none 0 0, .slice none 0 0, .slice none 0 0, .slice none 0 0, .slice none 0 0, .slice none 0 0, .slice none 0 0, .slice none 0 0, .slice none 0 0, .slice none 0 0, .slice none 0 0] (vss j).toArray (by rw [List.size_toArray, hldU.1]; kernel_rfl) (by rw [List.size_toArray, List.size_toArray, hldU.1]; rfl) (by rw [Array.all_eq_true_iff_forall_mem]; intro v hv; exact hldU.2.1 v (by simpa using hv))
          obtain ⟨wv, hwv⟩ : ∃ x, wr.alloc (.cells (vss j).toArray 57) = x := ⟨_, rfl⟩
          have hBx : Below wr.heap.size wr wv := by rw [← hwv]; exact below_one wr _
          have bv : Blk wv wr.heap.size 57 (vss j).toArray := by rw [← hwv]; exact Blk.new wr _ _
          have hldv := load_col0 bv hldU.1
          have hl2 := hldU.2.2
          have hcall := HC.out wv (below_in a7 hBx) j hjk i hlt
          rw [hwv] at hstn
          clear bv hldU
          have hnl := HG.out j hjk i hlt
          have i1 : (0 : Int) ≤ (j : Int) := by omega
          have i2 : (j : Int) < (k : Int) := by omega
          have i3 : (0 : Int) ≤ (i : Int) := by omega
          have hwj : IntKind.i64.wrap ((j : Int) + 1) = (j : Int) + 1 := IntWalk.i64_in _ (by omega)
          clear a1 a2 a3 a4 a5 a6 hlt hdec hjk
          gi_wp2_with (first | refine wpListIn_loadS rfl rfl rfl hl2 ?_ | refine wpListIn_loadS rfl rfl rfl hldv ?_ | refine wpListIn_storeS rfl rfl rfl rfl hstn ?_)
          refine ⟨trivial, (callsIn_wide.2 hcall).mono ?_⟩
          rintro e w5 ⟨u, rfl, hu, hB5⟩
          have hX5 := below_in hBx hB5
          obtain ⟨ua, uc, eu, _⟩ := id hu
          rw [hnl] at eu
          subst eu
          obtain ⟨b1, b2, b3, b4, b5, b6, b7, b8⟩ := HI.out
          have t4 := b4.below hX5 b4.lt
          obtain ⟨old, hold⟩ : ∃ old, w5.cell? ⟨gt, j, none⟩ = some old := ⟨_, by rw [t4.cell, List.getElem?_toArray, List.getElem?_eq_getElem (by omega)]⟩
          have hfz := t4.frozen j
          clear b1 b2 b3 b4 b5 b6 b7 b8
          gi_wp2_with fail
          obtain ⟨b1, b2, b3, b4, b5, b6, b7, b8⟩ := HI.out
          have hO : Only (fun b => b = gm ∨ b = gt) wr (w5.setCell ⟨gt, j, none⟩ (.slice ua n uc)) := (Only.below hX5).trans (Only.set (.inr rfl) _)
          have hOt : Only (fun b => b = gt) wr (w5.setCell ⟨gt, j, none⟩ (.slice ua n uc)) := (Only.below hX5).trans (Only.set (A := fun b => b = gt) (p := ⟨gt, j, none⟩) rfl _)
          have hOs : Only (fun b => b = gm ∨ b = gt) w5 (w5.setCell ⟨gt, j, none⟩ (.slice ua n uc)) := Only.set (.inr rfl) _
          have hsx := hX5.size
          have hsb := hBx.size
          have hlm := b1.lt
          have hlg := b4.lt
          have hfin : Blk (w5.setCell ⟨gt, j, none⟩ (.slice ua n uc)) gm 48 ms.toArray ∧ ms.length = Q ∧ ToldF V.heap.size (w5.setCell ⟨gt, j, none⟩ (.slice ua n uc)) (fun r => xorOf ((List.range k).map fun i => G i r)) i ms ∧ Blk (w5.setCell ⟨gt, j, none⟩ (.slice ua n uc)) gt 48 (ts'.set j (.slice ua n uc)).toArray ∧ (ts'.set j (.slice ua n uc)).length = k ∧ ToldA (fun b => b = gm ∨ b = gt) (w5.setCell ⟨gt, j, none⟩ (.slice ua n uc)) (fun j => G j i) (j + 1) (ts'.set j (.slice ua n uc)) ∧ Below w.heap.size w (w5.setCell ⟨gt, j, none⟩ (.slice ua n uc)) ∧ V.heap.size ≤ (w5.setCell ⟨gt, j, none⟩ (.slice ua n uc)).heap.size := by
            refine ⟨hOt.blk b1 hmt, b2, b3.only hOt (fun b e => by have e : b = gt := e; omega), ?_, by rw [List.length_set]; exact b5, (b6.only hO).next (by omega) ?_, (below_in b7 hX5).setCell (by show w.heap.size ≤ gt; omega) _, by simp; omega⟩
            · have := t4.set_ j (.slice ua n uc)
              rwa [List.setIfInBounds_toArray] at this
            · exact (hu.less (fun b e => by have e : b = gm ∨ b = gt := e; omega)).only hOs
          have HF := Lib.hid hfin
          clear hfin hO hOt hOs b1 b2 b3 b4 b5 b6 b7 b8 hu t4 hnl
          go_roundw
          case rel => exact ⟨j + 1, _, by omega, by go_num, HF⟩
          case measure => simp [intOf]; omega
        · obtain rfl : j = k := by omega
          have hdecj : decide ((j : Int) < (j : Int)) = false := by simp
          obtain ⟨b1, b2, b3, b4, b5, b6, b7, b8⟩ := HI.out
          have HUP := Lib.hid (upon_any _ _ wr (Nat.le_refl _) (b6.many b5 b4) (by rw [List.length_map, List.length_range]; omega) (many_ok hk h1 h64 (fun x hx => HG.out x hx i hlt)))
          have hxl : (xorOf ((List.range j).map fun x => G x i)).length = n := by
            rw [xorOf_len, List.getElem?_map, List.getElem?_range (by omega)]
            exact HG.out 0 (by omega) i hlt
          have i3 : (0 : Int) ≤ (i : Int) := by omega
          have hwi : IntKind.i64.wrap ((i : Int) + 1) = (i : Int) + 1 := IntWalk.i64_in _ (by have := HQ.out; omega)
          have HXL := Lib.hid hxl
          clear b1 b2 b3 b4 b5 b6 hxl
          gi_wp2_with fail
          refine ⟨trivial, (callsIn_wide.2 HUP.out).mono ?_⟩
          rintro e w5 ⟨u, rfl, hu, hB5⟩
          obtain ⟨ua, uc, eu⟩ := fresh_slice hu
          rw [HXL.out] at eu
          subst eu
          obtain ⟨b1, b2, b3, b4, b5, b6, _, _⟩ := HI.out
          have t1 := b1.below hB5 b1.lt
          obtain ⟨old, hold⟩ : ∃ old, w5.cell? ⟨gm, i, none⟩ = some old := ⟨_, by rw [t1.cell, List.getElem?_toArray, List.getElem?_eq_getElem (by omega)]⟩
          have hfz := t1.frozen i
          clear b1 b2 b3 b4 b5 b6
          gi_wp2_with fail
          obtain ⟨b1, b2, b3, b4, b5, b6, _, _⟩ := HI.out
          have hO : Only (fun b => b = gm) wr (w5.setCell ⟨gm, i, none⟩ (.slice ua n uc)) := (Only.below hB5).trans (Only.set (A := fun b => b = gm) (p := ⟨gm, i, none⟩) rfl _)
          have hOs : Only (fun b => b = gm) w5 (w5.setCell ⟨gm, i, none⟩ (.slice ua n uc)) := Only.set (A := fun b => b = gm) (p := ⟨gm, i, none⟩) rfl _
          have hsb := hB5.size
          have hlm := b1.lt
          have hfin : Blk (w5.setCell ⟨gm, i, none⟩ (.slice ua n uc)) gm 48 (ms.set i (.slice ua n uc)).toArray ∧ (ms.set i (.slice ua n uc)).length = Q ∧ ToldF V.heap.size (w5.setCell ⟨gm, i, none⟩ (.slice ua n uc)) (fun r => xorOf ((List.range j).map fun i => G i r)) (i + 1) (ms.set i (.slice ua n uc)) ∧ Blk (w5.setCell ⟨gm, i, none⟩ (.slice ua n uc)) gt 48 ts'.toArray ∧ ts'.length = j ∧ Below w.heap.size w (w5.setCell ⟨gm, i, none⟩ (.slice ua n uc)) ∧ V.heap.size ≤ (w5.setCell ⟨gm, i, none⟩ (.slice ua n uc)).heap.size := by
            refine ⟨?_, by rw [List.length_set]; exact b2, (b3.only hO (fun b e => by have e : b = gm := e; omega)).next (by omega) ?_, hO.blk b4 (fun e => hmt (Eq.symm e)), b5, (below_in b7 hB5).setCell (by show w.heap.size ≤ gm; omega) _, by simp; omega⟩
            · have := t1.set_ i (.slice ua n uc)
              rwa [List.setIfInBounds_toArray] at this
            · exact fresh_only (fresh_more hu b8) hOs (fun b e => by have e : b = gm := e; omega)
          have HF := Lib.hid hfin
          clear hfin hO hOs b1 b2 b3 b4 b5 b6 hu t1
          go_roundw
          case rel => exact ⟨i + 1, _, _, by omega, by go_num, HF⟩
          case measure => simp [intOf]; omega
    · obtain rfl : i = Q := by omega
      have hdec : decide ((i : Int) < (i : Int)) = false := by simp
      obtain ⟨b1, b2, b3, b4, b5, b6, b7⟩ := HS.out
      have HFM := Lib.hid ((b3.less (base' := w.heap.size) (by have := hBV.size; omega)).many b2 b1 hgm)
      gi_wp2_with fail
      exact ⟨_, by simp [results, Tryd.results54, go_sem], _, rfl, HFM.out, b6⟩
end Go.Proofs.YtckfepmahjgmfaaDoor.Rg

