/- ring: the mathematics of turned, stretched and slackened columns, byte by byte. The laws of ring: contracts as the laws want them. -/
import Derived.Test.YtckfepmahjgmfaaDoorRTG9
import Derived.Test.YtckfepmahjgmfaaDoorRTG6
namespace Go.Proofs.YtckfepmahjgmfaaDoor.Rg
open Go.RowKit Go.Shelf Go.Proofs.YtckfepmahjgmfaaDoor.C Go.Proofs.YtckfepmahjgmfaaDoor.E
set_option linter.unusedSimpArgs false
set_option linter.unusedVariables false

/-- A function of rows, whatever number they are told by; nought in the last one. -/
def Per (P : Nat) (x : Int → UInt8) : Prop := (∀ r s : Int, r % (P : Int) = s % (P : Int) → x r = x s) ∧ x (-1) = 0
def tu (a : Int) (x : Int → UInt8) (r : Int) : UInt8 := x (r - a) ^^^ x (-1 - a)
def st (a : Int) (x : Int → UInt8) (r : Int) : UInt8 := x r ^^^ tu a x r
theorem mod_sub {P : Nat} {r s : Int} (h : r % (P : Int) = s % (P : Int)) (a : Int) : (r - a) % (P : Int) = (s - a) % (P : Int) := by
  rw [Int.sub_emod, h, ← Int.sub_emod]
theorem Per.tu {P : Nat} {x : Int → UInt8} (h : Per P x) (a : Int) : Per P (tu a x) :=
  ⟨fun r s e => by unfold Rg.tu; rw [h.1 _ _ (mod_sub e a)], by unfold Rg.tu; exact UInt8.xor_self⟩
theorem Per.add {P : Nat} {x y : Int → UInt8} (h : Per P x) (h' : Per P y) : Per P (fun r => x r ^^^ y r) :=
  ⟨fun r s e => by show x r ^^^ y r = x s ^^^ y s; rw [h.1 _ _ e, h'.1 _ _ e], by show x (-1) ^^^ y (-1) = 0; rw [h.2, h'.2]; rfl⟩
theorem Per.st {P : Nat} {x : Int → UInt8} (h : Per P x) (a : Int) : Per P (st a x) := h.add (h.tu a)
/-- A column's byte, its row told by any number. -/
def Bt (P Q n : Nat) (c : List (List UInt8)) (j : Nat) (r : Int) : UInt8 := at_ (wholeF Q n c (r % (P : Int)).toNat) j
theorem at_nought (n j : Nat) : at_ (List.replicate n 0) j = 0 := by
  unfold at_
  rw [List.getElem?_replicate]
  split <;> rfl
theorem last_mod {P Q : Nat} (hQ : P = Q + 1) : (-1 : Int) % (P : Int) = (Q : Int) := by
  rw [show (-1 : Int) = (Q : Int) + (P : Int) * (-1) by omega, Int.add_mul_emod_self_left, Int.emod_eq_of_lt (by omega) (by omega)]
theorem Bt.per {P Q n : Nat} (hQ : P = Q + 1) (c : List (List UInt8)) (j : Nat) : Per P (Bt P Q n c j) :=
  ⟨fun r s e => by unfold Bt; rw [e], by unfold Bt wholeF; rw [last_mod hQ, Int.toNat_natCast, if_neg (Nat.lt_irrefl _)]; exact at_nought n j⟩
theorem row_lt {P Q : Nat} (hQ : P = Q + 1) (r : Int) : (∃ i : Nat, i < Q ∧ r % (P : Int) = (i : Int)) ∨ r % (P : Int) = (-1) % (P : Int) := by
  have h2 := Int.emod_nonneg r (show (P : Int) ≠ 0 by omega)
  have h3 := Int.emod_lt_of_pos r (show (0 : Int) < P by omega)
  rw [last_mod hQ]
  by_cases h : r % (P : Int) = (Q : Int)
  · exact .inr h
  · exact .inl ⟨(r % (P : Int)).toNat, by omega, by omega⟩
theorem row_get (Q : Nat) (F : Nat → List UInt8) {i : Nat} (hi : i < Q) : (((List.range Q).map F)[i]?).getD [] = F i := by
  rw [List.getElem?_map, List.getElem?_range hi]
  rfl
theorem made_good {Q n : Nat} (h1 : 1 ≤ n) (h64 : n ≤ 64) (F : Nat → List UInt8) (hF : ∀ i, i < Q → (F i).length = n) : GoodC Q n ((List.range Q).map F) :=
  ⟨by simp, fun r hr => by rw [row_get Q F hr]; exact ⟨by unfold Cell; rw [hF r hr]; exact ⟨h1, h64⟩, hF r hr⟩⟩
theorem bt_at {P Q n : Nat} (hQ : P = Q + 1) (c : List (List UInt8)) (j : Nat) {i : Nat} (hi : i < Q) {r : Int} (hr : r % (P : Int) = (i : Int)) : Bt P Q n c j r = at_ (c[i]?.getD []) j := by
  unfold Bt wholeF
  rw [hr, Int.toNat_natCast, if_pos hi]
/-- What is made row by row, its bytes told by a function of any row's number. -/
theorem bt_made {P Q n : Nat} (hQ : P = Q + 1) (F : Nat → List UInt8) (j : Nat) (G : Int → UInt8) (hG : Per P G) (h : ∀ i, i < Q → at_ (F i) j = G (i : Int)) (r : Int) : Bt P Q n ((List.range Q).map F) j r = G r := by
  rcases row_lt hQ r with ⟨i, hi, e⟩ | e
  · rw [bt_at hQ _ j hi e, row_get Q F hi, h i hi]
    exact hG.1 _ _ (by rw [e, Int.emod_eq_of_lt (by omega) (by omega)])
  · rw [(Bt.per hQ _ j).1 _ _ e, (Bt.per hQ _ j).2, hG.1 _ _ e, hG.2]
theorem col_ext {P Q n : Nat} (hQ : P = Q + 1) {c d : List (List UInt8)} (hc : GoodC Q n c) (hd : GoodC Q n d) (h : ∀ j r, Bt P Q n c j r = Bt P Q n d j r) : c = d := by
  refine List.ext_getElem? fun i => ?_
  by_cases hi : i < Q
  · have h1 : (c[i]?.getD []) = (d[i]?.getD []) := ext_at ((hc.2 i hi).2.trans (hd.2 i hi).2.symm) fun j => by
      have := h j (i : Int)
      rwa [bt_at hQ c j hi (Int.emod_eq_of_lt (by omega) (by omega)), bt_at hQ d j hi (Int.emod_eq_of_lt (by omega) (by omega))] at this
    obtain ⟨u, hu⟩ : ∃ u, c[i]? = some u := ⟨_, List.getElem?_eq_getElem (by rw [hc.1]; exact hi)⟩
    obtain ⟨v, hv⟩ : ∃ v, d[i]? = some v := ⟨_, List.getElem?_eq_getElem (by rw [hd.1]; exact hi)⟩
    rw [hu, hv] at h1 ⊢
    exact congrArg some h1
  · rw [List.getElem?_eq_none (by rw [hc.1]; omega), List.getElem?_eq_none (by rw [hd.1]; omega)]
theorem whole_len {Q n : Nat} {c : List (List UInt8)} (hc : GoodC Q n c) (r : Nat) : (wholeF Q n c r).length = n := by
  unfold wholeF
  split
  · exact (hc.2 r ‹_›).2
  · simp
theorem mv_len {P Q n : Nat} {c : List (List UInt8)} (hc : GoodC Q n c) (b : Int) (r : Nat) : (mvF P b (wholeF Q n c) r).length = n := whole_len hc _
theorem at_mv {P Q n : Nat} (c : List (List UInt8)) (b : Int) (r j : Nat) : at_ (mvF P b (wholeF Q n c) r) j = Bt P Q n c j ((r : Int) - b) := rfl
theorem at_two {n : Nat} {a b : List UInt8} (ha : a.length = n) (hb : b.length = n) (j : Nat) : at_ (xorOf [a, b]) j = at_ a j ^^^ at_ b j := by
  rw [at_xorOf (n := n) (by simp) (by intro l hl; simp only [List.mem_cons, List.not_mem_nil, or_false] at hl; rcases hl with rfl | rfl <;> assumption)]
  simp [xa]
theorem len_two {n : Nat} {a b : List UInt8} (ha : a.length = n) (hb : b.length = n) : (xorOf [a, b]).length = n :=
  xorOf_len_of (by simp) (by intro l hl; simp only [List.mem_cons, List.not_mem_nil, or_false] at hl; rcases hl with rfl | rfl <;> assumption)
theorem xorOf_one (a : List UInt8) : xorOf [a] = a := by
  refine ext_at (xorOf_len_of (by simp) (by simp)) fun j => ?_
  rw [at_xorOf (n := a.length) (by simp) (by simp)]
  simp [xa]
/-- The column turned, as it is told. -/
def turnC (P Q n : Nat) (c : List (List UInt8)) (b : Int) : List (List UInt8) := (List.range Q).map fun r => xorOf [mvF P b (wholeF Q n c) r, mvF P b (wholeF Q n c) Q]
theorem turn_row (P Q n : Nat) (c : List (List UInt8)) (b : Int) : rowK 1 Q (fun _ r => xorOf [mvF P b (wholeF Q n c) r, mvF P b (wholeF Q n c) Q]) = turnC P Q n c b := by
  unfold rowK turnC
  refine List.map_congr_left fun r _ => ?_
  exact xorOf_one _
theorem turn_good {P Q n : Nat} (h1 : 1 ≤ n) (h64 : n ≤ 64) {c : List (List UInt8)} (hc : GoodC Q n c) (b : Int) : GoodC Q n (turnC P Q n c b) :=
  made_good h1 h64 _ fun i _ => len_two (mv_len hc b i) (mv_len hc b Q)
theorem bt_turn {P Q n : Nat} (hQ : P = Q + 1) {c : List (List UInt8)} (hc : GoodC Q n c) (b : Int) (j : Nat) (r : Int) : Bt P Q n (turnC P Q n c b) j r = tu b (Bt P Q n c j) r := by
  refine bt_made hQ _ j _ ((Bt.per hQ c j).tu b) (fun i hi => ?_) r
  rw [at_two (mv_len hc b i) (mv_len hc b Q), at_mv, at_mv]
  unfold tu
  rw [(Bt.per hQ c j).1 ((Q : Int) - b) (-1 - b) (mod_sub (by rw [last_mod hQ, Int.emod_eq_of_lt (by omega) (by omega)]) b)]
/-- The column stretched. -/
def strC (P Q n : Nat) (c : List (List UInt8)) (b : Int) : List (List UInt8) := rowK 2 Q (fun i r => if i = 0 then xorOf [wholeF Q n c r, wholeF Q n c Q] else xorOf [mvF P b (wholeF Q n c) r, mvF P b (wholeF Q n c) Q])
theorem str_good {P Q n : Nat} (h1 : 1 ≤ n) (h64 : n ≤ 64) {c : List (List UInt8)} (hc : GoodC Q n c) (b : Int) : GoodC Q n (strC P Q n c b) :=
  made_good h1 h64 _ fun i _ => len_two (len_two (whole_len hc i) (whole_len hc Q)) (len_two (mv_len hc b i) (mv_len hc b Q))
theorem bt_str {P Q n : Nat} (hQ : P = Q + 1) {c : List (List UInt8)} (hc : GoodC Q n c) (b : Int) (j : Nat) (r : Int) : Bt P Q n (strC P Q n c b) j r = st b (Bt P Q n c j) r := by
  refine bt_made hQ _ j _ ((Bt.per hQ c j).st b) (fun i hi => ?_) r
  show at_ (xorOf [xorOf [wholeF Q n c i, wholeF Q n c Q], xorOf [mvF P b (wholeF Q n c) i, mvF P b (wholeF Q n c) Q]]) j = _
  rw [at_two (len_two (whole_len hc i) (whole_len hc Q)) (len_two (mv_len hc b i) (mv_len hc b Q)), at_two (whole_len hc i) (whole_len hc Q), at_two (mv_len hc b i) (mv_len hc b Q), at_mv, at_mv]
  unfold st tu
  rw [(Bt.per hQ c j).1 ((Q : Int) - b) (-1 - b) (mod_sub (by rw [last_mod hQ, Int.emod_eq_of_lt (by omega) (by omega)]) b)]
  have e1 : at_ (wholeF Q n c i) j = Bt P Q n c j (i : Int) := by unfold Bt; rw [Int.emod_eq_of_lt (by omega) (by omega), Int.toNat_natCast]
  have e2 : at_ (wholeF Q n c Q) j = 0 := by unfold wholeF; rw [if_neg (Nat.lt_irrefl _)]; exact at_nought n j
  rw [e1, e2, UInt8.xor_zero]
theorem put_good {Q n : Nat} (h1 : 1 ≤ n) (h64 : n ≤ 64) {a b : List (List UInt8)} (ha : GoodC Q n a) : GoodC Q n (putC a b) := by
  unfold putC
  rw [ha.1]
  exact made_good h1 h64 _ fun i hi => by rw [xorB_len]; exact (ha.2 i hi).2
theorem bt_put {P Q n : Nat} (hQ : P = Q + 1) {a b : List (List UInt8)} (ha : GoodC Q n a) (hb : GoodC Q n b) (j : Nat) (r : Int) : Bt P Q n (putC a b) j r = Bt P Q n a j r ^^^ Bt P Q n b j r := by
  unfold putC
  rw [ha.1]
  refine bt_made hQ _ j _ ((Bt.per hQ a j).add (Bt.per hQ b j)) (fun i hi => ?_) r
  show _ = Bt P Q n a j i ^^^ Bt P Q n b j i
  rw [at_xorB _ _ _ ((hb.2 i hi).2.trans (ha.2 i hi).2.symm), bt_at hQ a j hi (Int.emod_eq_of_lt (by omega) (by omega)), bt_at hQ b j hi (Int.emod_eq_of_lt (by omega) (by omega))]
end Go.Proofs.YtckfepmahjgmfaaDoor.Rg

namespace Go.Proofs.YtckfepmahjgmfaaDoor.Rg
open Go.RowKit Go.Shelf Go.Proofs.YtckfepmahjgmfaaDoor.C Go.Proofs.YtckfepmahjgmfaaDoor.E
set_option linter.unusedSimpArgs false
set_option linter.unusedVariables false
attribute [local go_sem] Oper.semAt_some

theorem cols_one {W : World} {B g : Nat} {va : Value} {a : List (List UInt8)} (h : Blk W g 23 #[va]) (h1 : Many B W va a) (hg : g < B) : Cols B W (.slice (some ⟨g, 0, none⟩) 1 1) [a] := by
  obtain ⟨A, cap, rfl, _, _⟩ := id h1
  exact ⟨some ⟨g, 0, none⟩, 1, rfl, Nat.le_refl _, fun _ => ⟨g, 0, rfl, hg, fun j hj => by
    obtain rfl : j = 0 := (by have : j < 1 := hj; omega)
    exact ⟨_, h.cell 0, h1⟩⟩⟩
/-- What columns are that may be. -/
theorem right_yes {p : Int} {css : List (List (List UInt8))} (h : RightD p css) (h0 : 0 < css.length) : ∃ P Q n : Nat, p = (P : Int) ∧ P = Q + 1 ∧ (P : Int) ∈ prm ∧ 1 ≤ n ∧ n ≤ 64 ∧ (firstC css).length = n ∧ ∀ j, j < css.length → GoodC Q n (css[j]?.getD []) := by
  have hb := prm_bounds h.1
  have hg := (rightD_iff h.1 h0).1 h
  obtain ⟨P, rfl⟩ : ∃ P : Nat, p = (P : Int) := ⟨p.toNat, by omega⟩
  have h1 := ((hg 0 h0).2 0 (by omega))
  refine ⟨P, P - 1, _, rfl, by omega, h.1, ?_, ?_, rfl, fun j hj => ?_⟩
  · rw [← h1.2]; exact h1.1.1
  · rw [← h1.2]; exact h1.1.2
  · have := hg j hj
    rwa [show ((P : Int) - 1).toNat = P - 1 by omega] at this
theorem ok_of {P Q n : Nat} (hQ : P = Q + 1) (hp : (P : Int) ∈ prm) (h1 : 1 ≤ n) (h64 : n ≤ 64) {c : List (List UInt8)} (hc : GoodC Q n c) : ColOk P n c := ⟨hp, by rw [show P - 1 = Q by omega]; exact hc, h1, h64⟩
theorem out_slice {B Q n : Nat} {W : World} {u : Value} {c : List (List UInt8)} (h : FreshMany B W u c) (hc : GoodC Q n c) : ∃ A k, u = .slice A Q k ∧ Many W.heap.size W (.slice A Q k) c := by
  have hm := h.many
  obtain ⟨A, cap, e, _⟩ := id h
  rw [hc.1] at e
  subst e
  exact ⟨A, cap, rfl, hm⟩
/-- A prime, the number of its rows, a cell's length. -/
structure Dims (P Q n : Nat) : Prop where
  hQ : P = Q + 1
  hp : (P : Int) ∈ prm
  h1 : 1 ≤ n
  h64 : n ≤ 64
variable {P Q n : Nat}
theorem turnY (d : Dims P Q n) (b : Int) (y1 : -9223372036854775808 ≤ b) (y2 : b ≤ 9223372036854775807) (c : List (List UInt8)) (hc : GoodC Q n c) (v : Value) (w : World) (hL : Laid w) (hM : Many w.heap.size w v c) :
    Calls Tryd.prog 14 #[.int .i64 (P : Int), v, .int .i64 b] w fun e w' => ∃ A k, e = .returned (.tuple #[.slice A Q k, .int .i64 0]) ∧ Many w'.heap.size w' (.slice A Q k) (turnC P Q n c b) ∧ Below w.heap.size w w' := by
  refine (turn_yes P Q n d.hQ c v b y1 y2 (ok_of d.hQ d.hp d.h1 d.h64 hc) w hL (Nat.le_refl _) hM).mono ?_
  rintro e w' ⟨u, rfl, hf, hB⟩
  rw [turn_row] at hf
  obtain ⟨A, k, rfl, hm⟩ := out_slice hf (turn_good d.h1 d.h64 hc b)
  exact ⟨A, k, rfl, hm, hB⟩
theorem strY (d : Dims P Q n) (b : Int) (y1 : -9223372036854775808 ≤ b) (y2 : b ≤ 9223372036854775807) (c : List (List UInt8)) (hc : GoodC Q n c) (v : Value) (w : World) (hL : Laid w) (hM : Many w.heap.size w v c) :
    Calls Tryd.prog 15 #[.int .i64 (P : Int), v, .int .i64 b] w fun e w' => ∃ A k, e = .returned (.tuple #[.slice A Q k, .int .i64 0]) ∧ Many w'.heap.size w' (.slice A Q k) (strC P Q n c b) ∧ Below w.heap.size w w' := by
  refine (stretch_yes P Q n d.hQ c v b y1 y2 (ok_of d.hQ d.hp d.h1 d.h64 hc) w hL (Nat.le_refl _) hM).mono ?_
  rintro e w' ⟨u, rfl, hf, hB⟩
  obtain ⟨A, k, rfl, hm⟩ := out_slice hf (str_good d.h1 d.h64 hc b)
  exact ⟨A, k, rfl, hm, hB⟩
end Go.Proofs.YtckfepmahjgmfaaDoor.Rg

