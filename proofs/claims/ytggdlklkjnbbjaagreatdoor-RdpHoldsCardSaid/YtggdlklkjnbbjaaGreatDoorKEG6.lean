/- EVENODD's Check: all columns; what is the same. EVENODD: what is made belongs together with what it is made of. EVENODD's Check: whether columns are those that are made. EVENOdecide (encOf p (css.take p.toNat) = css.drop p.toNat): Check. The document's Put: columns of one shape, put upon one another. The mathematics of EVENODD: what is made is linear; all cells made, put upon one another, are the adjuster. The document's answers for EVENODD: a nought; columns put upon one another. EvenoddHolds: what is called, of two lists of columns that are right. -/
import Derived.Test.YtggdlklkjnbbjaaGreatDoorKEG4
import Derived.Test.YtggdlklkjnbbjaaGreatDoorKEG2
import Derived.Test.YtggdlklkjnbbjaaGreatDoorKCA
namespace Go.Proofs.YtggdlklkjnbbjaaGreatDoor.E
open Go.RowKit Go.Shelf Go.Proofs.YtggdlklkjnbbjaaGreatDoor.C
set_option linter.unusedSimpArgs false
set_option linter.unusedVariables false

set_option maxHeartbeats 400000 in
theorem all_any (p : Int) (hR : RightC 1 p) (w : World) (hL : Laid w) : Calls Tryz.prog 62 #[.int .i64 p] w fun e w' => e = .returned (.int .i64 (p + 2)) ∧ Below w.heap.size w w' := by
  have HC := Lib.hid (fun W hL => (shapeCols_any 1 p W hL).mono fun _ _ h => (⟨h.1 hR, h.2.2⟩ : _ ∧ _))
  rw [show shortN 1 = 0 from rfl, show madeN 1 = 2 from rfl, Int.sub_zero] at HC
  clear hR
  go_enter Tryz.func62, Tryz.ntmps62
  go_wp2_with (first
    | (go_at_call 86; refine (code_any p _).mono ?_; rintro e w1 ⟨rfl, hB1⟩; replace hL := hL.next hB1)
    | (go_at_call 106; refine (HC.out _ hL).mono ?_; rintro e w2 ⟨rfl, hB2⟩)
    | (go_at_call 84; refine (sureI _ _).mono ?_; rintro e w3 ⟨rfl, rfl⟩))
  go_ret
  exact ⟨rfl, below_in hB1 hB2⟩
theorem enter_all : ∀ args W, (callFunc 62 args).run Tryz.prog W = .ok (.enter 62 args) W := enters_of Tryz.func62 (by kernel_rfl) rfl
/-- All columns of the prime p, that belong together. -/
def AllOk (p : Int) (css : List (List (List UInt8))) : Prop := RightC 1 p ∧ (css.length : Int) = p + 2 ∧ TogOk (p - 1).toNat css

set_option maxRecDepth 100000 in
set_option maxHeartbeats 1000000 in
theorem askedA_yes {B : Nat} (p : Int) (v : Value) (css : List (List (List UInt8))) (w : World) (hL : Laid w) (hB : B ≤ w.heap.size) (hC : Cols B w v css) (hlen : css.length ≤ 1000) (hok : AllOk p css) :
    Calls Tryz.prog 41 #[.int .i64 p, .func (.func 62) #[] #[], v] w fun e w' => e = .returned (.agg #[.int .i64 p, v]) ∧ Below w.heap.size w w' := by
  obtain ⟨hR, hn, ht⟩ := hok
  have HP := Lib.hid (fun W hL => primeOf_yes p hR W hL)
  have HD := Lib.hid (fun W hL => all_any p hR W hL)
  have HT := Lib.hid (fun W hL hB hC => together_yes (B := B) p (p - 1).toNat hR (by have := hR.und.p1; omega) v css W hL hB hC hlen ht)
  have hent := enter_all
  obtain ⟨A, cap, rfl, _, _⟩ := id hC
  have hnn : ((css.length : Int) == p + 2) = true := by simpa using hn
  clear hR hn ht
  have hBz := below_one w (.cells #[.int .i64 0, .slice none 0 0] 65)
  have bz := Blk.new w 65 #[.int .i64 0, .slice none 0 0]
  have hL1 := hL.next hBz
  go_enter Tryz.func41, Tryz.ntmps41
  go_wp2_with fail
  refine (HP.out _ hL1).mono ?_
  rintro e w1 ⟨rfl, hB1⟩
  have hBa := below_in hBz hB1
  have hL2 := hL.next hBa
  replace bz := bz.below hB1 bz.lt
  clear hBz hB1 hL1 HP
  go_wp2_with fail
  refine (HD.out _ hL2).mono ?_
  rintro e w2 ⟨rfl, hB1⟩
  have hBb := below_in hBa hB1
  have hL3 := hL.next hBb
  replace bz := bz.below hB1 bz.lt
  clear hBa hB1 hL2 HD
  go_wp2_with (go_at_call 83; refine (need_yes _).mono ?_; rintro e w' ⟨rfl, rfl⟩)
  refine (HT.out _ hL3 (Nat.le_trans hB hBb.size) (hC.below (hBb.mono hB))).mono ?_
  rintro e w3 ⟨rfl, hB1⟩
  have hBc := below_in hBb hB1
  replace bz := bz.below hB1 bz.lt
  have g0 := bz.cell 0
  have g1 := bz.cell 1
  have f0 := bz.frozen 0
  have f1 := bz.frozen 1
  simp only [List.getElem?_toArray, List.getElem?_cons_zero, List.getElem?_cons_succ] at g0 g1
  clear hBb hB1 hL3 HT hC
  go_wp2
  have r := (bz.set_ 0 (.int .i64 p)).set_ 1 (.slice A css.length cap)
  have r0 := r.cell 0
  have r1 := r.cell 1
  simp only [List.setIfInBounds_toArray, List.set_cons_zero, List.set_cons_succ, List.getElem?_toArray, List.getElem?_cons_zero, List.getElem?_cons_succ] at r0 r1
  exact bodyPost_ret (v := .agg #[.int .i64 p, .slice A css.length cap]) (by simp [results, Tryz.results41, go_sem, r0, r1]) rfl ⟨rfl, (hBc.setCell (by simp) _).setCell (by simp) _⟩

set_option maxRecDepth 100000 in
set_option maxHeartbeats 1000000 in
theorem askedA_no {B : Nat} (p : Int) (v : Value) (css : List (List (List UInt8))) (w : World) (hL : Laid w) (hB : B ≤ w.heap.size) (hC : Cols B w v css) (hlen : css.length ≤ 1000) (hcl : ∀ j, j < css.length → (css[j]?.getD []).length ≤ 1000) (hno : ¬ AllOk p css) :
    Calls Tryz.prog 41 #[.int .i64 p, .func (.func 62) #[] #[], v] w fun e w' => e = .panicked gaveUp ∧ Below w.heap.size w w' := by
  have hent := enter_all
  obtain ⟨A, cap, rfl, _, _⟩ := id hC
  have hBz := below_one w (.cells #[.int .i64 0, .slice none 0 0] 65)
  have hL1 := hL.next hBz
  by_cases hR : RightC 1 p
  case neg =>
    have HP := Lib.hid (fun W hL => primeOf_no p hR W hL)
    clear hR hno
    go_enter Tryz.func41, Tryz.ntmps41
    go_wp2_with (go_at_call 49; refine (HP.out _ hL1).mono ?_; rintro e w1 ⟨rfl, hB1⟩)
    exact ⟨rfl, rfl, below_in hBz hB1⟩
  have HP := Lib.hid (fun W hL => primeOf_yes p hR W hL)
  have HD := Lib.hid (fun W hL => all_any p hR W hL)
  by_cases hn : (css.length : Int) = p + 2
  case neg =>
    have hnn : ((css.length : Int) == p + 2) = false := by simpa using hn
    clear hR hno hn
    go_enter Tryz.func41, Tryz.ntmps41
    go_wp2_with fail
    refine (HP.out _ hL1).mono ?_
    rintro e w1 ⟨rfl, hB1⟩
    have hBa := below_in hBz hB1
    have hL2 := hL.next hBa
    clear hBz hB1 hL1 HP
    go_wp2_with fail
    refine (HD.out _ hL2).mono ?_
    rintro e w2 ⟨rfl, hB1⟩
    have hBb := below_in hBa hB1
    clear hBa hB1 hL2 HD
    go_wp2_with (go_at_call 83; refine (need_no _).mono ?_; rintro e w' ⟨rfl, rfl⟩)
    exact ⟨rfl, rfl, hBb⟩
  have HT := Lib.hid (fun W hL hB hC => together_no (B := B) p (p - 1).toNat hR (by have := hR.und.p1; omega) (.slice A css.length cap) css W hL hB hC hlen hcl (fun h => hno ⟨hR, hn, h⟩))
  have hnn : ((css.length : Int) == p + 2) = true := by simpa using hn
  clear hR hno hn
  go_enter Tryz.func41, Tryz.ntmps41
  go_wp2_with fail
  refine (HP.out _ hL1).mono ?_
  rintro e w1 ⟨rfl, hB1⟩
  have hBa := below_in hBz hB1
  have hL2 := hL.next hBa
  clear hBz hB1 hL1 HP
  go_wp2_with fail
  refine (HD.out _ hL2).mono ?_
  rintro e w2 ⟨rfl, hB1⟩
  have hBb := below_in hBa hB1
  have hL3 := hL.next hBb
  clear hBa hB1 hL2 HD
  go_wp2_with (go_at_call 83; refine (need_yes _).mono ?_; rintro e w' ⟨rfl, rfl⟩)
  refine (HT.out _ hL3 (Nat.le_trans hB hBb.size) (hC.below (hBb.mono hB))).mono ?_
  rintro e w3 ⟨rfl, hB1⟩
  go_wp2
  exact ⟨rfl, rfl, below_in hBb hB1⟩

theorem enter_same1 (args : Array Value) (w : World) : (callFunc 108 args).run Tryz.prog w = .ok (.enter 108 args) w := (enters_of Tryz.func108 (by kernel_rfl) rfl) args w
set_option maxHeartbeats 400000 in
theorem same1_any {B B' : Nat} (v1 v2 : Value) (ls os : List (List UInt8)) (w : World) (h1 : Many B w v1 ls) (h2 : Many B' w v2 os) (hls : ls.length ≤ 100000) (hos : os.length ≤ 100000) :
    Calls Tryz.prog 108 #[v1, v2] w fun e w' => e = .returned (.bool (decide (ls = os))) ∧ w = w' := by
  have H := Lib.hid (C.same_any v1 v2 ls os w h1 h2 (by omega) (by omega))
  obtain ⟨A1, cap1, rfl, _, _⟩ := id h1
  obtain ⟨A2, cap2, rfl, _, _⟩ := id h2
  generalize decide (ls = os) = d at *
  go_enter Tryz.func108, Tryz.ntmps108
  go_wp2_with (go_at_call 109; refine H.out.mono ?_; rintro e w2 ⟨rfl, rfl⟩)
  go_ret
  exact ⟨rfl, rfl⟩
theorem same3c_iff (ls os : List (List (List UInt8))) : ls = os ↔ ls.length = os.length ∧ ∀ j, j < ls.length → (ls[j]?.getD []) = (os[j]?.getD []) := by
  constructor
  · rintro rfl
    exact ⟨rfl, fun _ _ => rfl⟩
  · rintro ⟨h1, h2⟩
    apply List.ext_getElem h1
    intro j hj hj2
    have := h2 j hj
    rwa [List.getElem?_eq_getElem hj, List.getElem?_eq_getElem hj2] at this
set_option maxRecDepth 100000 in
set_option maxHeartbeats 1000000 in
theorem equalFuncC_any {B B' : Nat} (v1 v2 : Value) (ls os : List (List (List UInt8))) (w : World) (h1 : Cols B w v1 ls) (h2 : Cols B' w v2 os) (hls : ls.length ≤ 1000) (hos : os.length ≤ 1000) (hl1 : ∀ j : Nat, (ls[j]?.getD []).length ≤ 1000) (hl2 : ∀ j : Nat, (os[j]?.getD []).length ≤ 1000) (b : Bool) (hb : b = true ↔ ls = os) :
    Calls Tryz.prog 107 #[v1, v2, .func (.func 108) #[] #[]] w fun e w' => e = .returned (.bool b) ∧ w = w' := by
  obtain ⟨A1, cap1, rfl, _, _⟩ := id h1
  obtain ⟨A2, cap2, rfl, _, _⟩ := id h2
  have hent := enter_same1
  have HLS := Lib.hid hl1
  have HOS := Lib.hid hl2
  clear hl1 hl2
  rw [same3c_iff] at hb
  by_cases hl : ls.length = os.length
  · have HLn := Lib.hid hl
    rw [hl]
    rw [hl] at hls
    clear hl
    go_enter Tryz.func107, Tryz.ntmps107
    go_wp2
    go_loop [17] (fun i => ∃ k : Nat, k ≤ os.length ∧ i = .int .i64 k ∧ Hid (∀ j, j < k → (ls[j]?.getD []) = (os[j]?.getD []))) (fun i => os.length - (intOf i).toNat)
    case atStart => exact ⟨0, Nat.zero_le _, rfl, Lib.hid fun j hj => absurd hj (by omega)⟩
    case round =>
      obtain ⟨k, hk, rfl, HA⟩ := hrel
      by_cases hlt : k < os.length
      · have hdec : decide ((k : Int) < (os.length : Int)) = true := by simp; omega
        obtain ⟨b1, off1, cq1, e1, _, _, hrow1⟩ := h1.at_ (by have := HLn.out; omega)
        injection e1 with e1 _ e1c
        subst e1
        subst e1c
        obtain ⟨u1, hc1, hm1⟩ := hrow1 k (by have := HLn.out; omega)
        obtain ⟨b2, off2, cq2, e2, _, _, hrow2⟩ := h2.at_ (by omega)
        injection e2 with e2 _ e2c
        subst e2
        subst e2c
        obtain ⟨u2, hc2, hm2⟩ := hrow2 k hlt
        have HE := Lib.hid (same1_any _ _ _ _ w hm1 hm2 (by have := HLS.out k; omega) (by have := HOS.out k; omega))
        have HL : Hid ((ls[k]?.getD []) = (os[k]?.getD []) → ∀ j, j < k + 1 → (ls[j]?.getD []) = (os[j]?.getD [])) := by
          intro h j hj
          rcases Nat.lt_or_ge j k with h1 | h1
          · exact HA.out j h1
          · obtain rfl : j = k := by omega
            exact h
        have HM : Hid (¬ (ls[k]?.getD []) = (os[k]?.getD []) → ¬ b = true) := fun h h2 => h ((hb.1 h2).2 k (by have := HLn.out; omega))
        obtain ⟨A3, cap3, rfl, _, _⟩ := id hm1
        obtain ⟨A4, cap4, rfl, _, _⟩ := id hm2
        clear hrow1 hrow2 hm1 hm2
        generalize ls[k]?.getD [] = x at *
        generalize os[k]?.getD [] = y at *
        have hk2 : (k : Int) < (os.length : Int) := by omega
        by_cases hxy : x = y
        · rw [decide_eq_true hxy] at HE
          have HL2 := Lib.hid (HL.out hxy)
          clear HL HM hxy
          go_wp2_with fail
          refine HE.out.mono ?_
          rintro e w2 ⟨rfl, rfl⟩
          go_wp2
          go_round
          case rel => exact ⟨k + 1, by omega, by go_num, HL2⟩
          case measure => simp [intOf]; omega
        · rw [decide_eq_false hxy] at HE
          have HM2 := Lib.hid (HM.out hxy)
          clear HL HM hxy
          go_wp2_with fail
          refine HE.out.mono ?_
          rintro e w2 ⟨rfl, rfl⟩
          go_wp2
          go_ret
          exact ⟨ret_bool (Bool.eq_false_iff.2 HM2.out).symm, rfl⟩
      · obtain rfl : k = os.length := by omega
        have e1 : decide ((os.length : Int) < (os.length : Int)) = false := by simp
        go_wp2
        go_ret
        exact ⟨ret_bool (hb.2 ⟨HLn.out, fun j hj => HA.out j (by have := HLn.out; omega)⟩).symm, rfl⟩
  · have e0 : ((ls.length : Int) != (os.length : Int)) = true := by rw [bne_iff_ne]; omega
    have hbf : b = false := Bool.eq_false_iff.2 fun h => hl (hb.1 h).1
    subst hbf
    go_enter Tryz.func107, Tryz.ntmps107
    go_wp2
    go_ret
    exact ⟨rfl, rfl⟩
end Go.Proofs.YtggdlklkjnbbjaaGreatDoor.E

namespace Go.Proofs.YtggdlklkjnbbjaaGreatDoor.E
open Go.RowKit Go.Shelf Go.Proofs.YtggdlklkjnbbjaaGreatDoor.C
set_option linter.unusedSimpArgs false
set_option linter.unusedVariables false

theorem RowG.own_lt {α : Type} {r : Rep α} {t : TypeId} {d : α} {Q : Nat → Prop} {W : World} {base : Nat} {v : Value} {xs : List α} (h : RowG r t d Q W base v xs) (k : Nat) (e : v.ownBlock = some k) : k < W.heap.size := by
  obtain ⟨us, ho, _⟩ := h
  exact (World.ownsRow.lt ho k e).2
theorem map_next {α β : Type} (g : α → β) (d : α) (xs : List α) {k : Nat} (hk : k < xs.length) : (xs.map g).take (k + 1) = (xs.map g).take k ++ [g (xs[k]?.getD d)] := by
  rw [List.take_succ_eq_append_getElem (by rw [List.length_map]; exact hk), List.getElem_map, List.getElem?_eq_getElem hk]
  rfl
theorem enc_cells {p : Int} {css : List (List (List UInt8))} (h : DataOk p css) : (encOf p css).length = 2 ∧ ∀ j, j < 2 → ((encOf p css)[j]?.getD []).length = (p - 1).toNat ∧ ∀ i, i < (p - 1).toNat → (((encOf p css)[j]?.getD [])[i]?.getD []).length = (firstC css).length := by
  have hd := dataOk_n h
  refine ⟨rfl, fun j hj => ?_⟩
  have hj2 : j = 0 ∨ j = 1 := by omega
  rcases hj2 with rfl | rfl
  · exact ⟨rowsMade_len _, fun r hr => by show ((rowsMade (p - 1).toNat css)[r]?.getD []).length = _; rw [rowsMade_at h hr]; exact row_len h hr⟩
  · exact ⟨diagsMade_len _, fun r hr => by show ((diagsMade p (p - 1).toNat css)[r]?.getD []).length = _; rw [diagsMade_at h hr]; exact diag_len h (by omega)⟩
end Go.Proofs.YtggdlklkjnbbjaaGreatDoor.E

namespace Go.Proofs.YtggdlklkjnbbjaaGreatDoor.E
open Go.RowKit Go.Shelf Go.Proofs.YtggdlklkjnbbjaaGreatDoor.C
set_option linter.unusedSimpArgs false
set_option linter.unusedVariables false
attribute [local go_sem] Oper.semAt_some

section
variable {F : Fence} {n : Nat} {P : Program} {md : Region.Mode} {ops : Array Oper} {Q : Exit → Act → World → Prop} {S : World → Prop}
theorem anyHF_two {i j : Nat} {oi oj : Oper} {k : Nat} {listed : Array Bool} {a : Act} {w : World} (hr : Region.ready md ops listed = [i, j]) (hi : ops[i]? = some oi) (hj : ops[j]? = some oj) (hwi : Region.wanted oi (yielded ops a.tmps) = true) (hwj : Region.wanted oj (yielded ops a.tmps) = true)
    (h1 : Oper.wpIn F n P oi a w (fun a' w' => S w' ∧ anyHF F n P md ops Q S k (listed.setIfInBounds i true) a' w') Q) (h2 : Oper.wpIn F n P oj a w (fun a' w' => S w' ∧ anyHF F n P md ops Q S k (listed.setIfInBounds j true) a' w') Q) : anyHF F n P md ops Q S (k + 1) listed a w :=
  ⟨fun h0 => (by rw [hr] at h0; cases h0), fun m hm => by
    rw [hr] at hm
    simp only [List.mem_cons, List.not_mem_nil, or_false] at hm
    rcases hm with rfl | rfl
    · unfold wpOpIn
      rw [hi]
      simp only [hwi, if_true]
      exact h1
    · unfold wpOpIn
      rw [hj]
      simp only [hwj, if_true]
      exact h2⟩
end
theorem Cols.drop_ {B : Nat} {W : World} {b off n cap : Nat} {css : List (List (List UInt8))} (h : Cols B W (.slice (some ⟨b, off, none⟩) n cap) css) {m : Nat} (hm : m ≤ n) : Cols B W (.slice (some ⟨b, off + m, none⟩) (n - m) (cap - m)) (css.drop m) := by
  obtain ⟨A', cap', e, hc, hA⟩ := h
  injection e with e1 e2 e3
  subst e1 e2 e3
  have hl : (css.drop m).length = css.length - m := List.length_drop
  refine ⟨_, cap - m, by rw [hl], by omega, fun hp => ?_⟩
  obtain ⟨b2, off2, e, hb, hcell⟩ := hA (by omega)
  injection e with e
  injection e with e1 e2
  subst e1 e2
  refine ⟨b, off + m, rfl, hb, fun j hj => ?_⟩
  obtain ⟨u, h1, h2⟩ := hcell (m + j) (by omega)
  exact ⟨u, by rw [Nat.add_assoc]; exact h1, by rw [List.getElem?_drop]; exact h2⟩
theorem allOk_data {p : Int} {all : List (List (List UInt8))} (h : AllOk p all) : DataOk p (all.take p.toNat) := by
  obtain ⟨hR, hn, h0, hall⟩ := h
  have hpp := prm_bounds hR.2
  have hl : (all.take p.toNat).length = p.toNat := by rw [List.length_take]; omega
  have hj : ∀ j, j < p.toNat → (all.take p.toNat)[j]?.getD [] = all[j]?.getD [] := fun j hj => by rw [List.getElem?_take_of_lt hj]
  have hf : firstC (all.take p.toNat) = firstC all := by unfold firstC; rw [hj 0 (by omega)]
  refine ⟨hR, by rw [hl]; omega, by rw [hl]; omega, fun j hjl => ?_⟩
  rw [hl] at hjl
  rw [hj j hjl, hf]
  exact hall j (by omega)
set_option maxRecDepth 100000 in
set_option maxHeartbeats 400000 in
theorem areEncoded_any {B : Nat} (p : Int) (v : Value) (all : List (List (List UInt8))) (hok : AllOk p all) (w : World) (hL : Laid w) (hB : B ≤ w.heap.size) (hC : Cols B w v all) :
    Calls Tryz.prog 63 #[.agg #[.int .i64 p, v]] w fun e w' => e = .returned (.bool (decide (encOf p (all.take p.toNat) = all.drop p.toNat))) ∧ Below w.heap.size w w' := by
  have hpp := prm_bounds hok.1.2
  have hdo := allOk_data hok
  obtain ⟨P, rfl⟩ : ∃ P : Nat, p = (P : Int) := ⟨p.toNat, by omega⟩
  rw [Int.toNat_natCast] at hdo ⊢
  obtain ⟨b1, off1, cap, rfl, hcap, hb1, _⟩ := hC.at_ hok.2.2.1
  have hn : all.length = P + 2 := by have := hok.2.1; omega
  obtain ⟨N, hN⟩ : ∃ N, all.length = N := ⟨_, rfl⟩
  rw [hN] at hC hcap hn ⊢
  obtain ⟨W1, hW1⟩ : ∃ W1, w.alloc (.cells #[.int .i64 (P : Int), .slice (some ⟨b1, off1, none⟩) N cap] 65) = W1 := ⟨_, rfl⟩
  have b0 : Blk W1 w.heap.size 65 #[.int .i64 (P : Int), .slice (some ⟨b1, off1, none⟩) N cap] := by rw [← hW1]; exact Blk.new w _ _
  have hBW : Below w.heap.size w W1 := by rw [← hW1]; exact below_one w _
  have hL1 := hL.next hBW
  have hC1 := hC.below (hBW.mono hB)
  have hB1 : B ≤ W1.heap.size := Nat.le_trans hB hBW.size
  have HD := Lib.hid (fun (U : World) (hU : Below W1.heap.size W1 U) => data_any (P : Int) hok.1 U (hL1.next hU))
  have HENC := Lib.hid (fun (U : World) (hU : Below W1.heap.size W1 U) => encoded_any (P : Int) (.slice (some ⟨b1, off1, none⟩) P cap) (all.take P) hdo U (hL1.next hU) (Nat.le_trans hB1 hU.size) (Cols.take_ (hC1.below (hU.mono hB1)) (m := P) (by omega)))
  have hec := enc_cells hdo
  have hdl : ∀ j : Nat, ((all.drop P)[j]?.getD []).length ≤ 1000 := fun j => by
    rw [List.getElem?_drop]
    rcases Nat.lt_or_ge (P + j) N with h | h
    · have := (hok.2.2.2 (P + j) (by omega)).1
      omega
    · rw [List.getElem?_eq_none (by omega)]; simp
  have hel : ∀ j : Nat, ((encOf (P : Int) (all.take P))[j]?.getD []).length ≤ 1000 := fun j => by
    rcases Nat.lt_or_ge j 2 with h | h
    · have := (hec.2 j h).1; omega
    · rw [List.getElem?_eq_none (by have := hec.1; omega)]; simp
  have HEQ := Lib.hid (fun (U : World) (u : Value) (hU : Below W1.heap.size W1 U) (hu : Cols U.heap.size U u (encOf (P : Int) (all.take P))) => equalFuncC_any u (.slice (some ⟨b1, off1 + P, none⟩) 2 (cap - P)) (encOf (P : Int) (all.take P)) (all.drop P) U hu (by have h := Cols.drop_ (hC1.below (hU.mono hB1)) (m := P) (by omega); rw [hn, show P + 2 - P = 2 by omega] at h; exact h) (by have := hec.1; omega) (by rw [List.length_drop]; omega) hel hdl (decide (encOf (P : Int) (all.take P) = all.drop P)) decide_eq_true_iff)
  have c0 := b0.cell 0
  have c1 := b0.cell 1
  simp only [List.getElem?_toArray, List.getElem?_cons_zero, List.getElem?_cons_succ] at c0 c1
  have q1 : (0 : Int) ≤ (P : Int) := by omega
  have q2 : (P : Int) ≤ (cap : Int) := by omega
  have q3 : (P : Int) ≤ (N : Int) := by omega
  have q4 : ¬ cap = P := by omega
  have q5 : N - P = 2 := by omega
  have hen := hec.1
  clear hdl hel hec hok hdo hC hC1 hN hn
  generalize decide (encOf (P : Int) (all.take P) = all.drop P) = d at *
  generalize encOf (P : Int) (all.take P) = en at *
  refine (callsIn_wide (n := 9)).1 ?_
  refine callsIn_of_wp_marks Tryz.func63 rfl trivial ?_ rfl
  simp only [Tryz.ntmps63, List.size_toArray, List.length_cons, List.length_nil, Nat.reduceAdd, Nat.reduceSub, Array.replicate_succ, Array.replicate_zero, List.push_toArray, List.append_toArray, List.nil_append, List.cons_append]
  gi_wp2_with fail
  clear hW1
  have hS : (fun U : World => U.cell? ⟨w.heap.size, 0, none⟩ = some (.int .i64 (P : Int)) ∧ U.cell? ⟨w.heap.size, 1, none⟩ = some (.slice (some ⟨b1, off1, none⟩) N cap)) W1.drew := ⟨c0, c1⟩
  refine wpIn_mono (region_HF (Q := NoPanic _) (S := (fun U : World => U.cell? ⟨w.heap.size, 0, none⟩ = some (.int .i64 (P : Int)) ∧ U.cell? ⟨w.heap.size, 1, none⟩ = some (.slice (some ⟨b1, off1, none⟩) N cap))) (by kernel_rfl) ?_) NoPanic.imp
  refine anyHF_take (i := 0) (d := 4) (v := .pointer (some ⟨w.heap.size, 0, none⟩)) (by kernel_rfl) rfl (by kernel_rfl) (by kernel_rfl) (by kernel_rfl) rfl (fun _ _ _ h => h) ⟨Or.inl ⟨by rfl, fun w hS => by obtain ⟨h0, h1⟩ := hS; go_simp⟩, fun _ => rfl⟩ hS ?_
  simp only [List.setIfInBounds_toArray, List.set_cons_zero, List.set_cons_succ]
  refine anyHF_take (i := 1) (d := 5) (v := .int .i64 (P : Int)) (by kernel_rfl) rfl (by kernel_rfl) (by kernel_rfl) (by kernel_rfl) rfl (fun _ _ _ h => h) ⟨Or.inl ⟨by rfl, fun w hS => by obtain ⟨h0, h1⟩ := hS; go_simp⟩, fun _ => rfl⟩ hS ?_
  simp only [List.setIfInBounds_toArray, List.set_cons_zero, List.set_cons_succ]
  refine anyHF_take (i := 2) (d := 6) (v := .pointer (some ⟨w.heap.size, 1, none⟩)) (by kernel_rfl) rfl (by kernel_rfl) (by kernel_rfl) (by kernel_rfl) rfl (fun _ _ _ h => h) ⟨Or.inl ⟨by rfl, fun w hS => by obtain ⟨h0, h1⟩ := hS; go_simp⟩, fun _ => rfl⟩ hS ?_
  simp only [List.setIfInBounds_toArray, List.set_cons_zero, List.set_cons_succ]
  refine anyHF_take (i := 3) (d := 7) (v := .slice (some ⟨b1, off1, none⟩) N cap) (by kernel_rfl) rfl (by kernel_rfl) (by kernel_rfl) (by kernel_rfl) rfl (fun _ _ _ h => h) ⟨Or.inl ⟨by rfl, fun w hS => by obtain ⟨h0, h1⟩ := hS; go_simp⟩, fun _ => rfl⟩ hS ?_
  simp only [List.setIfInBounds_toArray, List.set_cons_zero, List.set_cons_succ]
  refine anyHF_take (i := 4) (d := 8) (v := .pointer (some ⟨w.heap.size, 0, none⟩)) (by kernel_rfl) rfl (by kernel_rfl) (by kernel_rfl) (by kernel_rfl) rfl (fun _ _ _ h => h) ⟨Or.inl ⟨by rfl, fun w hS => by obtain ⟨h0, h1⟩ := hS; go_simp⟩, fun _ => rfl⟩ hS ?_
  simp only [List.setIfInBounds_toArray, List.set_cons_zero, List.set_cons_succ]
  refine anyHF_take (i := 5) (d := 9) (v := .int .i64 (P : Int)) (by kernel_rfl) rfl (by kernel_rfl) (by kernel_rfl) (by kernel_rfl) rfl (fun _ _ _ h => h) ⟨Or.inl ⟨by rfl, fun w hS => by obtain ⟨h0, h1⟩ := hS; go_simp⟩, fun _ => rfl⟩ hS ?_
  simp only [List.setIfInBounds_toArray, List.set_cons_zero, List.set_cons_succ]
  refine anyHF_two (i := 6) (j := 9) (by kernel_rfl) rfl rfl (by rfl) (by rfl) ?ca ?cb
  case ca =>
    gi_wp2_with fail
    refine ⟨trivial, (callsIn_wide.2 (HD.out _ ((Below.refl _ _).drew))).mono ?_⟩
    rintro e wa ⟨rfl, hBn⟩
    replace hBn := below_undrew hBn
    clear hS
    have hS : (fun U : World => U.cell? ⟨w.heap.size, 0, none⟩ = some (.int .i64 (P : Int)) ∧ U.cell? ⟨w.heap.size, 1, none⟩ = some (.slice (some ⟨b1, off1, none⟩) N cap)) wa := ⟨(hBn.cell (p := ⟨w.heap.size, 0, none⟩) b0.lt).trans c0, (hBn.cell (p := ⟨w.heap.size, 1, none⟩) b0.lt).trans c1⟩
    gi_wp2
    try (refine ⟨hS, ?_⟩)
    refine anyHF_take (i := 7) (d := 11) (v := .slice (some ⟨b1, off1, none⟩) P cap) (by kernel_rfl) rfl (by kernel_rfl) (by kernel_rfl) (by kernel_rfl) rfl (fun _ _ _ h => h) ⟨Or.inl ⟨by rfl, fun w hS => by obtain ⟨h0, h1⟩ := hS; go_simp⟩, fun _ => rfl⟩ hS ?_
    simp only [List.setIfInBounds_toArray, List.set_cons_zero, List.set_cons_succ]
    refine anyHF_take (i := 8) (d := 12) (v := .agg #[.int .i64 (P : Int), .slice (some ⟨b1, off1, none⟩) P cap]) (by kernel_rfl) rfl (by kernel_rfl) (by kernel_rfl) (by kernel_rfl) rfl (fun _ _ _ h => h) ⟨Or.inl ⟨by rfl, fun w hS => by obtain ⟨h0, h1⟩ := hS; go_simp⟩, fun _ => rfl⟩ hS ?_
    simp only [List.setIfInBounds_toArray, List.set_cons_zero, List.set_cons_succ]
    have hBa := hBn
    refine anyHF_one (i := 9) (by kernel_rfl) rfl (by kernel_rfl) (by rfl) ?_
    have hBz : Below wa.heap.size wa (wa.alloc (.cells #[.int .i64 0, .slice none 0 0] 65)) := below_one wa _
    have bz : Blk (wa.alloc (.cells #[.int .i64 0, .slice none 0 0] 65)) wa.heap.size 65 #[.int .i64 0, .slice none 0 0] := Blk.new wa _ _
    replace hBn := below_in hBn hBz
    clear hS
    have hS : (fun U : World => U.cell? ⟨w.heap.size, 0, none⟩ = some (.int .i64 (P : Int)) ∧ U.cell? ⟨w.heap.size, 1, none⟩ = some (.slice (some ⟨b1, off1, none⟩) N cap)) (wa.alloc (.cells #[.int .i64 0, .slice none 0 0] 65)) := ⟨(hBn.cell (p := ⟨w.heap.size, 0, none⟩) b0.lt).trans c0, (hBn.cell (p := ⟨w.heap.size, 1, none⟩) b0.lt).trans c1⟩
    gi_wp2
    try (refine ⟨hS, ?_⟩)
    refine anyHF_one (i := 10) (by kernel_rfl) rfl (by kernel_rfl) (by rfl) ?_
    replace bz : Blk (wa.alloc (.cells #[.int .i64 (P : Int), .slice (some ⟨b1, off1, none⟩) P cap] 65)) wa.heap.size 65 #[.int .i64 (P : Int), .slice (some ⟨b1, off1, none⟩) P cap] := Blk.new wa _ _
    have hW2 := below_in hBa (below_one wa (.cells #[.int .i64 (P : Int), .slice (some ⟨b1, off1, none⟩) P cap] 65))
    clear hS
    gi_wp2
    obtain ⟨W2, hWW⟩ : ∃ W2, (wa.alloc (.cells #[.int .i64 (P : Int), .slice (some ⟨b1, off1, none⟩) P cap] 65)) = W2 := ⟨_, rfl⟩
    try rw [hWW]
    try rw [hWW] at bz hW2
    clear hWW
    have hS : (fun U : World => U.cell? ⟨w.heap.size, 0, none⟩ = some (.int .i64 (P : Int)) ∧ U.cell? ⟨w.heap.size, 1, none⟩ = some (.slice (some ⟨b1, off1, none⟩) N cap)) W2 := ⟨(hW2.cell (p := ⟨w.heap.size, 0, none⟩) b0.lt).trans c0, (hW2.cell (p := ⟨w.heap.size, 1, none⟩) b0.lt).trans c1⟩
    refine ⟨hS, ?_⟩
    refine anyHF_done (by kernel_rfl) ?_ _
    refine NoPanic.normal ?_
    gi_wp2_with fail
    have hB2 : Below W2.heap.size W2 W2 := Below.refl _ _
    have HSS := Lib.hid (fun (U : World) (hU : Below W2.heap.size W2 U) => (⟨((below_in hW2 hU).cell (p := ⟨w.heap.size, 0, none⟩) b0.lt).trans c0, ((below_in hW2 hU).cell (p := ⟨w.heap.size, 1, none⟩) b0.lt).trans c1, (hU.cell (p := ⟨wa.heap.size, 0, none⟩) bz.lt).trans (bz.cell 0), (hU.cell (p := ⟨wa.heap.size, 1, none⟩) bz.lt).trans (bz.cell 1)⟩ : (fun U : World => U.cell? ⟨w.heap.size, 0, none⟩ = some (.int .i64 (P : Int)) ∧ U.cell? ⟨w.heap.size, 1, none⟩ = some (.slice (some ⟨b1, off1, none⟩) N cap) ∧ U.cell? ⟨wa.heap.size, 0, none⟩ = some (.int .i64 (P : Int)) ∧ U.cell? ⟨wa.heap.size, 1, none⟩ = some (.slice (some ⟨b1, off1, none⟩) P cap)) U))
    have HEN := Lib.hid (fun (U : World) (hU : Below W2.heap.size W2 U) => HENC.out U (below_in hW2 hU))
    gi_wp2_with fail
    have hS : (fun U : World => U.cell? ⟨w.heap.size, 0, none⟩ = some (.int .i64 (P : Int)) ∧ U.cell? ⟨w.heap.size, 1, none⟩ = some (.slice (some ⟨b1, off1, none⟩) N cap) ∧ U.cell? ⟨wa.heap.size, 0, none⟩ = some (.int .i64 (P : Int)) ∧ U.cell? ⟨wa.heap.size, 1, none⟩ = some (.slice (some ⟨b1, off1, none⟩) P cap)) W2.drew := HSS.out _ hB2.drew
    refine wpIn_mono (region_HF (Q := NoPanic _) (S := (fun U : World => U.cell? ⟨w.heap.size, 0, none⟩ = some (.int .i64 (P : Int)) ∧ U.cell? ⟨w.heap.size, 1, none⟩ = some (.slice (some ⟨b1, off1, none⟩) N cap) ∧ U.cell? ⟨wa.heap.size, 0, none⟩ = some (.int .i64 (P : Int)) ∧ U.cell? ⟨wa.heap.size, 1, none⟩ = some (.slice (some ⟨b1, off1, none⟩) P cap))) (by kernel_rfl) ?_) NoPanic.imp
    refine anyHF_take (i := 0) (d := 13) (v := .agg #[.int .i64 (P : Int), .slice (some ⟨b1, off1, none⟩) P cap]) (by kernel_rfl) rfl (by kernel_rfl) (by kernel_rfl) (by kernel_rfl) rfl (fun _ _ _ h => h) ⟨Or.inl ⟨by rfl, fun w hS => by obtain ⟨h0, h1, h2, h3⟩ := hS; go_simp⟩, fun _ => rfl⟩ hS ?_
    simp only [List.setIfInBounds_toArray, List.set_cons_zero, List.set_cons_succ]
    refine anyHF_take (i := 2) (d := 15) (v := .pointer (some ⟨w.heap.size, 1, none⟩)) (by kernel_rfl) rfl (by kernel_rfl) (by kernel_rfl) (by kernel_rfl) rfl (fun _ _ _ h => h) ⟨Or.inl ⟨by rfl, fun w hS => by obtain ⟨h0, h1, h2, h3⟩ := hS; go_simp⟩, fun _ => rfl⟩ hS ?_
    simp only [List.setIfInBounds_toArray, List.set_cons_zero, List.set_cons_succ]
    refine anyHF_take (i := 3) (d := 16) (v := .slice (some ⟨b1, off1, none⟩) N cap) (by kernel_rfl) rfl (by kernel_rfl) (by kernel_rfl) (by kernel_rfl) rfl (fun _ _ _ h => h) ⟨Or.inl ⟨by rfl, fun w hS => by obtain ⟨h0, h1, h2, h3⟩ := hS; go_simp⟩, fun _ => rfl⟩ hS ?_
    simp only [List.setIfInBounds_toArray, List.set_cons_zero, List.set_cons_succ]
    refine anyHF_take (i := 4) (d := 17) (v := .pointer (some ⟨w.heap.size, 0, none⟩)) (by kernel_rfl) rfl (by kernel_rfl) (by kernel_rfl) (by kernel_rfl) rfl (fun _ _ _ h => h) ⟨Or.inl ⟨by rfl, fun w hS => by obtain ⟨h0, h1, h2, h3⟩ := hS; go_simp⟩, fun _ => rfl⟩ hS ?_
    simp only [List.setIfInBounds_toArray, List.set_cons_zero, List.set_cons_succ]
    refine anyHF_take (i := 5) (d := 18) (v := .int .i64 (P : Int)) (by kernel_rfl) rfl (by kernel_rfl) (by kernel_rfl) (by kernel_rfl) rfl (fun _ _ _ h => h) ⟨Or.inl ⟨by rfl, fun w hS => by obtain ⟨h0, h1, h2, h3⟩ := hS; go_simp⟩, fun _ => rfl⟩ hS ?_
    simp only [List.setIfInBounds_toArray, List.set_cons_zero, List.set_cons_succ]
    refine anyHF_one (i := 1) (by kernel_rfl) rfl (by kernel_rfl) (by rfl) ?_
    gi_wp2_with fail
    refine ⟨trivial, (callsIn_wide.2 (HEN.out _ (hB2.drew))).mono ?_⟩
    rintro e wn ⟨u, rfl, hu, hBn⟩
    replace hBn := below_undrew hBn
    replace hB2 := below_in hB2 hBn
    obtain ⟨Au, cu, hue, _, _⟩ := id hu
    have hue2 : u = .slice Au 2 cu := by rw [hue, hen]
    subst hue2
    clear hue
    clear hS
    have hS : (fun U : World => U.cell? ⟨w.heap.size, 0, none⟩ = some (.int .i64 (P : Int)) ∧ U.cell? ⟨w.heap.size, 1, none⟩ = some (.slice (some ⟨b1, off1, none⟩) N cap) ∧ U.cell? ⟨wa.heap.size, 0, none⟩ = some (.int .i64 (P : Int)) ∧ U.cell? ⟨wa.heap.size, 1, none⟩ = some (.slice (some ⟨b1, off1, none⟩) P cap)) wn := HSS.out _ hB2
    gi_wp2
    try (refine ⟨hS, ?_⟩)
    refine anyHF_one (i := 6) (by kernel_rfl) rfl (by kernel_rfl) (by rfl) ?_
    gi_wp2_with fail
    refine ⟨trivial, (callsIn_wide.2 (HD.out _ (below_in hW2 hB2))).mono ?_⟩
    rintro e wn ⟨rfl, hBn⟩
    replace hB2 := below_in hB2 hBn
    replace hu := Cols.more (hu.below hBn) hBn.size
    clear hS
    have hS : (fun U : World => U.cell? ⟨w.heap.size, 0, none⟩ = some (.int .i64 (P : Int)) ∧ U.cell? ⟨w.heap.size, 1, none⟩ = some (.slice (some ⟨b1, off1, none⟩) N cap) ∧ U.cell? ⟨wa.heap.size, 0, none⟩ = some (.int .i64 (P : Int)) ∧ U.cell? ⟨wa.heap.size, 1, none⟩ = some (.slice (some ⟨b1, off1, none⟩) P cap)) wn := HSS.out _ hB2
    gi_wp2
    try (refine ⟨hS, ?_⟩)
    refine anyHF_take (i := 7) (d := 20) (v := .slice (some ⟨b1, off1 + P, none⟩) 2 (cap - P)) (by kernel_rfl) rfl (by kernel_rfl) (by kernel_rfl) (by kernel_rfl) rfl (fun _ _ _ h => h) ⟨Or.inl ⟨by rfl, fun w hS => by obtain ⟨h0, h1, h2, h3⟩ := hS; go_simp⟩, fun _ => rfl⟩ hS ?_
    simp only [List.setIfInBounds_toArray, List.set_cons_zero, List.set_cons_succ]
    refine anyHF_one (i := 8) (by kernel_rfl) rfl (by kernel_rfl) (by rfl) ?_
    gi_wp2_with fail
    refine ⟨trivial, (callsIn_wide.2 (HEQ.out _ _ (below_in hW2 hB2) hu)).mono ?_⟩
    rintro e wn ⟨rfl, rfl⟩
    gi_wp2
    try (refine ⟨hS, ?_⟩)
    refine anyHF_one (i := 9) (by kernel_rfl) rfl (by kernel_rfl) (by rfl) ?_
    gi_wp2
    refine anyHF_done (by kernel_rfl) ?_ _
    refine NoPanic.normal ?_
    gi_wp2
    exact ⟨.bool d, by simp [results, Tryz.results63, go_sem], rfl, below_in hBW (below_in hW2 hB2)⟩
  case cb =>
    have hBz : Below W1.heap.size W1 (W1.alloc (.cells #[.int .i64 0, .slice none 0 0] 65)) := below_one W1 _
    have bz : Blk (W1.alloc (.cells #[.int .i64 0, .slice none 0 0] 65)) W1.heap.size 65 #[.int .i64 0, .slice none 0 0] := Blk.new W1 _ _
    clear hS
    have hS : (fun U : World => U.cell? ⟨w.heap.size, 0, none⟩ = some (.int .i64 (P : Int)) ∧ U.cell? ⟨w.heap.size, 1, none⟩ = some (.slice (some ⟨b1, off1, none⟩) N cap)) (W1.alloc (.cells #[.int .i64 0, .slice none 0 0] 65)) := ⟨(hBz.cell (p := ⟨w.heap.size, 0, none⟩) b0.lt).trans c0, (hBz.cell (p := ⟨w.heap.size, 1, none⟩) b0.lt).trans c1⟩
    gi_wp2
    try (refine ⟨hS, ?_⟩)
    refine anyHF_one (i := 6) (by kernel_rfl) rfl (by kernel_rfl) (by rfl) ?_
    gi_wp2_with fail
    refine ⟨trivial, (callsIn_wide.2 (HD.out _ hBz.drew)).mono ?_⟩
    rintro e wa ⟨rfl, hBn⟩
    replace hBn := below_undrew hBn
    replace bz := bz.below hBn bz.lt
    have hBa := below_in hBz hBn
    clear hS
    have hS : (fun U : World => U.cell? ⟨w.heap.size, 0, none⟩ = some (.int .i64 (P : Int)) ∧ U.cell? ⟨w.heap.size, 1, none⟩ = some (.slice (some ⟨b1, off1, none⟩) N cap)) wa := ⟨(hBa.cell (p := ⟨w.heap.size, 0, none⟩) b0.lt).trans c0, (hBa.cell (p := ⟨w.heap.size, 1, none⟩) b0.lt).trans c1⟩
    gi_wp2
    try (refine ⟨hS, ?_⟩)
    refine anyHF_take (i := 7) (d := 11) (v := .slice (some ⟨b1, off1, none⟩) P cap) (by kernel_rfl) rfl (by kernel_rfl) (by kernel_rfl) (by kernel_rfl) rfl (fun _ _ _ h => h) ⟨Or.inl ⟨by rfl, fun w hS => by obtain ⟨h0, h1⟩ := hS; go_simp⟩, fun _ => rfl⟩ hS ?_
    simp only [List.setIfInBounds_toArray, List.set_cons_zero, List.set_cons_succ]
    refine anyHF_take (i := 8) (d := 12) (v := .agg #[.int .i64 (P : Int), .slice (some ⟨b1, off1, none⟩) P cap]) (by kernel_rfl) rfl (by kernel_rfl) (by kernel_rfl) (by kernel_rfl) rfl (fun _ _ _ h => h) ⟨Or.inl ⟨by rfl, fun w hS => by obtain ⟨h0, h1⟩ := hS; go_simp⟩, fun _ => rfl⟩ hS ?_
    simp only [List.setIfInBounds_toArray, List.set_cons_zero, List.set_cons_succ]
    refine anyHF_one (i := 10) (by kernel_rfl) rfl (by kernel_rfl) (by rfl) ?_
    have z0 : wa.cell? ⟨W1.heap.size, 0, none⟩ = some (.int .i64 0) := bz.cell 0
    have z1 : wa.cell? ⟨W1.heap.size, 1, none⟩ = some (.slice none 0 0) := bz.cell 1
    have zf0 : wa.frozen? ⟨W1.heap.size, 0, none⟩ = false := bz.frozen 0
    have zf1 : wa.frozen? ⟨W1.heap.size, 1, none⟩ = false := bz.frozen 1
    clear hS
    gi_wp2
    have hX := hBa.setCell (p := ⟨W1.heap.size, 0, none⟩) (Nat.le_refl _) (.int .i64 (P : Int))
    have hW2 := hX.setCell (p := ⟨W1.heap.size, 1, none⟩) (Nat.le_refl _) (.slice (some ⟨b1, off1, none⟩) P cap)
    replace bz : Blk ((wa.setCell ⟨W1.heap.size, 0, none⟩ (.int .i64 (P : Int))).setCell ⟨W1.heap.size, 1, none⟩ (.slice (some ⟨b1, off1, none⟩) P cap)) W1.heap.size 65 #[.int .i64 (P : Int), .slice (some ⟨b1, off1, none⟩) P cap] := (bz.set_ 0 (.int .i64 (P : Int))).set_ 1 (.slice (some ⟨b1, off1, none⟩) P cap)
    have hS0 := (hX.cell (p := ⟨w.heap.size, 0, none⟩) b0.lt).trans c0
    clear z0 z1 zf0 zf1 hX
    obtain ⟨W2, hWW⟩ : ∃ W2, ((wa.setCell ⟨W1.heap.size, 0, none⟩ (.int .i64 (P : Int))).setCell ⟨W1.heap.size, 1, none⟩ (.slice (some ⟨b1, off1, none⟩) P cap)) = W2 := ⟨_, rfl⟩
    rw [hWW]
    rw [hWW] at bz hW2
    clear hWW
    have hS : (fun U : World => U.cell? ⟨w.heap.size, 0, none⟩ = some (.int .i64 (P : Int)) ∧ U.cell? ⟨w.heap.size, 1, none⟩ = some (.slice (some ⟨b1, off1, none⟩) N cap)) W2 := ⟨(hW2.cell (p := ⟨w.heap.size, 0, none⟩) b0.lt).trans c0, (hW2.cell (p := ⟨w.heap.size, 1, none⟩) b0.lt).trans c1⟩
    refine ⟨⟨hS0, hS.2⟩, ?_⟩
    clear hS0
    refine anyHF_done (by kernel_rfl) ?_ _
    refine NoPanic.normal ?_
    gi_wp2_with fail
    have hB2 : Below W2.heap.size W2 W2 := Below.refl _ _
    have HSS := Lib.hid (fun (U : World) (hU : Below W2.heap.size W2 U) => (⟨((below_in hW2 hU).cell (p := ⟨w.heap.size, 0, none⟩) b0.lt).trans c0, ((below_in hW2 hU).cell (p := ⟨w.heap.size, 1, none⟩) b0.lt).trans c1, (hU.cell (p := ⟨W1.heap.size, 0, none⟩) bz.lt).trans (bz.cell 0), (hU.cell (p := ⟨W1.heap.size, 1, none⟩) bz.lt).trans (bz.cell 1)⟩ : (fun U : World => U.cell? ⟨w.heap.size, 0, none⟩ = some (.int .i64 (P : Int)) ∧ U.cell? ⟨w.heap.size, 1, none⟩ = some (.slice (some ⟨b1, off1, none⟩) N cap) ∧ U.cell? ⟨W1.heap.size, 0, none⟩ = some (.int .i64 (P : Int)) ∧ U.cell? ⟨W1.heap.size, 1, none⟩ = some (.slice (some ⟨b1, off1, none⟩) P cap)) U))
    have HEN := Lib.hid (fun (U : World) (hU : Below W2.heap.size W2 U) => HENC.out U (below_in hW2 hU))
    gi_wp2_with fail
    have hS : (fun U : World => U.cell? ⟨w.heap.size, 0, none⟩ = some (.int .i64 (P : Int)) ∧ U.cell? ⟨w.heap.size, 1, none⟩ = some (.slice (some ⟨b1, off1, none⟩) N cap) ∧ U.cell? ⟨W1.heap.size, 0, none⟩ = some (.int .i64 (P : Int)) ∧ U.cell? ⟨W1.heap.size, 1, none⟩ = some (.slice (some ⟨b1, off1, none⟩) P cap)) W2.drew := HSS.out _ hB2.drew
    refine wpIn_mono (region_HF (Q := NoPanic _) (S := (fun U : World => U.cell? ⟨w.heap.size, 0, none⟩ = some (.int .i64 (P : Int)) ∧ U.cell? ⟨w.heap.size, 1, none⟩ = some (.slice (some ⟨b1, off1, none⟩) N cap) ∧ U.cell? ⟨W1.heap.size, 0, none⟩ = some (.int .i64 (P : Int)) ∧ U.cell? ⟨W1.heap.size, 1, none⟩ = some (.slice (some ⟨b1, off1, none⟩) P cap))) (by kernel_rfl) ?_) NoPanic.imp
    refine anyHF_take (i := 0) (d := 13) (v := .agg #[.int .i64 (P : Int), .slice (some ⟨b1, off1, none⟩) P cap]) (by kernel_rfl) rfl (by kernel_rfl) (by kernel_rfl) (by kernel_rfl) rfl (fun _ _ _ h => h) ⟨Or.inl ⟨by rfl, fun w hS => by obtain ⟨h0, h1, h2, h3⟩ := hS; go_simp⟩, fun _ => rfl⟩ hS ?_
    simp only [List.setIfInBounds_toArray, List.set_cons_zero, List.set_cons_succ]
    refine anyHF_take (i := 2) (d := 15) (v := .pointer (some ⟨w.heap.size, 1, none⟩)) (by kernel_rfl) rfl (by kernel_rfl) (by kernel_rfl) (by kernel_rfl) rfl (fun _ _ _ h => h) ⟨Or.inl ⟨by rfl, fun w hS => by obtain ⟨h0, h1, h2, h3⟩ := hS; go_simp⟩, fun _ => rfl⟩ hS ?_
    simp only [List.setIfInBounds_toArray, List.set_cons_zero, List.set_cons_succ]
    refine anyHF_take (i := 3) (d := 16) (v := .slice (some ⟨b1, off1, none⟩) N cap) (by kernel_rfl) rfl (by kernel_rfl) (by kernel_rfl) (by kernel_rfl) rfl (fun _ _ _ h => h) ⟨Or.inl ⟨by rfl, fun w hS => by obtain ⟨h0, h1, h2, h3⟩ := hS; go_simp⟩, fun _ => rfl⟩ hS ?_
    simp only [List.setIfInBounds_toArray, List.set_cons_zero, List.set_cons_succ]
    refine anyHF_take (i := 4) (d := 17) (v := .pointer (some ⟨w.heap.size, 0, none⟩)) (by kernel_rfl) rfl (by kernel_rfl) (by kernel_rfl) (by kernel_rfl) rfl (fun _ _ _ h => h) ⟨Or.inl ⟨by rfl, fun w hS => by obtain ⟨h0, h1, h2, h3⟩ := hS; go_simp⟩, fun _ => rfl⟩ hS ?_
    simp only [List.setIfInBounds_toArray, List.set_cons_zero, List.set_cons_succ]
    refine anyHF_take (i := 5) (d := 18) (v := .int .i64 (P : Int)) (by kernel_rfl) rfl (by kernel_rfl) (by kernel_rfl) (by kernel_rfl) rfl (fun _ _ _ h => h) ⟨Or.inl ⟨by rfl, fun w hS => by obtain ⟨h0, h1, h2, h3⟩ := hS; go_simp⟩, fun _ => rfl⟩ hS ?_
    simp only [List.setIfInBounds_toArray, List.set_cons_zero, List.set_cons_succ]
    refine anyHF_one (i := 1) (by kernel_rfl) rfl (by kernel_rfl) (by rfl) ?_
    gi_wp2_with fail
    refine ⟨trivial, (callsIn_wide.2 (HEN.out _ (hB2.drew))).mono ?_⟩
    rintro e wn ⟨u, rfl, hu, hBn⟩
    replace hBn := below_undrew hBn
    replace hB2 := below_in hB2 hBn
    obtain ⟨Au, cu, hue, _, _⟩ := id hu
    have hue2 : u = .slice Au 2 cu := by rw [hue, hen]
    subst hue2
    clear hue
    clear hS
    have hS : (fun U : World => U.cell? ⟨w.heap.size, 0, none⟩ = some (.int .i64 (P : Int)) ∧ U.cell? ⟨w.heap.size, 1, none⟩ = some (.slice (some ⟨b1, off1, none⟩) N cap) ∧ U.cell? ⟨W1.heap.size, 0, none⟩ = some (.int .i64 (P : Int)) ∧ U.cell? ⟨W1.heap.size, 1, none⟩ = some (.slice (some ⟨b1, off1, none⟩) P cap)) wn := HSS.out _ hB2
    gi_wp2
    try (refine ⟨hS, ?_⟩)
    refine anyHF_one (i := 6) (by kernel_rfl) rfl (by kernel_rfl) (by rfl) ?_
    gi_wp2_with fail
    refine ⟨trivial, (callsIn_wide.2 (HD.out _ (below_in hW2 hB2))).mono ?_⟩
    rintro e wn ⟨rfl, hBn⟩
    replace hB2 := below_in hB2 hBn
    replace hu := Cols.more (hu.below hBn) hBn.size
    clear hS
    have hS : (fun U : World => U.cell? ⟨w.heap.size, 0, none⟩ = some (.int .i64 (P : Int)) ∧ U.cell? ⟨w.heap.size, 1, none⟩ = some (.slice (some ⟨b1, off1, none⟩) N cap) ∧ U.cell? ⟨W1.heap.size, 0, none⟩ = some (.int .i64 (P : Int)) ∧ U.cell? ⟨W1.heap.size, 1, none⟩ = some (.slice (some ⟨b1, off1, none⟩) P cap)) wn := HSS.out _ hB2
    gi_wp2
    try (refine ⟨hS, ?_⟩)
    refine anyHF_take (i := 7) (d := 20) (v := .slice (some ⟨b1, off1 + P, none⟩) 2 (cap - P)) (by kernel_rfl) rfl (by kernel_rfl) (by kernel_rfl) (by kernel_rfl) rfl (fun _ _ _ h => h) ⟨Or.inl ⟨by rfl, fun w hS => by obtain ⟨h0, h1, h2, h3⟩ := hS; go_simp⟩, fun _ => rfl⟩ hS ?_
    simp only [List.setIfInBounds_toArray, List.set_cons_zero, List.set_cons_succ]
    refine anyHF_one (i := 8) (by kernel_rfl) rfl (by kernel_rfl) (by rfl) ?_
    gi_wp2_with fail
    refine ⟨trivial, (callsIn_wide.2 (HEQ.out _ _ (below_in hW2 hB2) hu)).mono ?_⟩
    rintro e wn ⟨rfl, rfl⟩
    gi_wp2
    try (refine ⟨hS, ?_⟩)
    refine anyHF_one (i := 9) (by kernel_rfl) rfl (by kernel_rfl) (by rfl) ?_
    gi_wp2
    refine anyHF_done (by kernel_rfl) ?_ _
    refine NoPanic.normal ?_
    gi_wp2
    exact ⟨.bool d, by simp [results, Tryz.results63, go_sem], rfl, below_in hBW (below_in hW2 hB2)⟩
end Go.Proofs.YtggdlklkjnbbjaaGreatDoor.E

namespace Go.Proofs.YtggdlklkjnbbjaaGreatDoor.E
open Go.RowKit Go.Shelf Go.Proofs.YtggdlklkjnbbjaaGreatDoor.C
set_option linter.unusedSimpArgs false
set_option linter.unusedVariables false
theorem enter_check1 : ∀ args W, (callFunc 61 args).run Tryz.prog W = .ok (.enter 61 args) W := enters_of Tryz.func61 (by kernel_rfl) rfl
set_option maxRecDepth 100000 in
set_option maxHeartbeats 1000000 in
theorem check_yes {B : Nat} (p : Int) (v : Value) (css : List (List (List UInt8))) (hok : AllOk p css) (w : World) (hL : Laid w) (hB : B ≤ w.heap.size) (hC : Cols B w v css) :
    Calls Tryz.prog 22 #[.int .i64 p, v] w fun e w' => e = .returned (.tuple #[.bool (decide (encOf p (css.take p.toNat) = css.drop p.toNat)), .int .i64 0]) ∧ Below w.heap.size w w' := by
  have hpp := prm_bounds hok.1.2
  have hlen : css.length ≤ 1000 := by have := hok.2.1; omega
  obtain ⟨A, cap, rfl, _, _⟩ := id hC
  obtain ⟨W2, hW2⟩ : ∃ W2, (w.alloc (.cells #[.int .i64 p] 3)).alloc (.cells #[.slice A css.length cap] 22) = W2 := ⟨_, rfl⟩
  have b0 : Blk W2 w.heap.size 3 #[.int .i64 p] := by rw [← hW2]; exact (Blk.new w _ _).alloc _
  have b1 : Blk W2 (w.heap.size + 1) 22 #[.slice A css.length cap] := by rw [← hW2]; exact Blk.second w _ _ _
  have hBW : Below w.heap.size w W2 := by rw [← hW2]; exact below_two w _ _
  have hL2 := hL.next hBW
  have HA := Lib.hid (ans_T_yes 61 #[.pointer (some ⟨w.heap.size, 0, none⟩), .pointer (some ⟨w.heap.size + 1, 0, none⟩)] W2 (fun u W => u = .bool (decide (encOf p (css.take p.toNat) = css.drop p.toNat))) (enter_check1 _) (fun U hU _ => by
    have hLU := hL2.next hU
    have hBU := below_in hBW hU
    have hCU := hC.below (hBU.mono hB)
    have HQ := Lib.hid (askedA_yes (B := B) p (.slice A css.length cap) css U hLU (Nat.le_trans hB hBU.size) hCU hlen hok)
    have HE := Lib.hid (fun (V : World) (hV : Below U.heap.size U V) => areEncoded_any (B := B) p (.slice A css.length cap) css hok V (hLU.next hV) (Nat.le_trans hB (Nat.le_trans hBU.size hV.size)) (hCU.below (hV.mono (Nat.le_trans hB hBU.size))))
    have c0 := (b0.below hU b0.lt).one
    have c1 := (b1.below hU b1.lt).one
    clear hC hCU hok hlen b0 b1 hW2 hL hL2 hLU
    generalize decide (encOf p (css.take p.toNat) = css.drop p.toNat) = dd at *
    generalize css.length = n at *
    go_enter Tryz.func61, Tryz.ntmps61
    go_wp2_with (first
      | (go_at_call 41; refine HQ.out.mono ?_; rintro e w1 ⟨rfl, hB1⟩)
      | (go_at_call 63; refine (HE.out _ hB1).mono ?_; rintro e w2 ⟨rfl, hB2⟩))
    go_ret
    exact ⟨_, rfl, rfl, below_in hB1 hB2⟩))
  clear hC b0 b1 hL2 hok hlen
  generalize decide (encOf p (css.take p.toNat) = css.drop p.toNat) = dd at *
  generalize css.length = n at *
  go_enter Tryz.func22, Tryz.ntmps22
  have hmf : ∀ (fn : Fn) (first cap : Array Value) (w : World), (Instr.makeFunc fn first cap).run Tryz.prog w = .ok (.func fn first cap) w := fun _ _ _ _ => rfl
  go_wp2_with (go_at_call 60; refine HA.out.mono ?_; rintro e w1 ⟨u, W, rfl, rfl, bE, rfl, hB1⟩)
  go_ret2
  exact ⟨rfl, below_in hBW hB1⟩
set_option maxRecDepth 100000 in
set_option maxHeartbeats 1000000 in
theorem check_no {B : Nat} (p : Int) (v : Value) (css : List (List (List UInt8))) (w : World) (hL : Laid w) (hB : B ≤ w.heap.size) (hC : Cols B w v css) (hlen : css.length ≤ 1000) (hcl : ∀ j, j < css.length → (css[j]?.getD []).length ≤ 1000) (hno : ¬ AllOk p css) :
    Calls Tryz.prog 22 #[.int .i64 p, v] w fun e w' => e = .returned (.tuple #[.bool false, .int .i64 2]) ∧ Below w.heap.size w w' := by
  obtain ⟨A, cap, rfl, _, _⟩ := id hC
  obtain ⟨W2, hW2⟩ : ∃ W2, (w.alloc (.cells #[.int .i64 p] 3)).alloc (.cells #[.slice A css.length cap] 22) = W2 := ⟨_, rfl⟩
  have b0 : Blk W2 w.heap.size 3 #[.int .i64 p] := by rw [← hW2]; exact (Blk.new w _ _).alloc _
  have b1 : Blk W2 (w.heap.size + 1) 22 #[.slice A css.length cap] := by rw [← hW2]; exact Blk.second w _ _ _
  have hBW : Below w.heap.size w W2 := by rw [← hW2]; exact below_two w _ _
  have hL2 := hL.next hBW
  have HA := Lib.hid (ans_T_no 61 #[.pointer (some ⟨w.heap.size, 0, none⟩), .pointer (some ⟨w.heap.size + 1, 0, none⟩)] W2 (enter_check1 _) (fun U hU _ => by
    have hBU := below_in hBW hU
    have HQ := Lib.hid (askedA_no (B := B) p (.slice A css.length cap) css U (hL2.next hU) (Nat.le_trans hB hBU.size) (hC.below (hBU.mono hB)) hlen hcl hno)
    have c0 := (b0.below hU b0.lt).one
    have c1 := (b1.below hU b1.lt).one
    clear hC b0 b1 hW2 hL hL2 hno hcl hlen
    generalize css.length = n at *
    go_enter Tryz.func61, Tryz.ntmps61
    go_wp2_with (go_at_call 41; refine HQ.out.mono ?_; rintro e w1 ⟨rfl, hB1⟩)
    exact ⟨rfl, rfl, hB1⟩))
  clear hC b0 b1 hL2 hno hcl hlen
  generalize css.length = n at *
  go_enter Tryz.func22, Tryz.ntmps22
  have hmf : ∀ (fn : Fn) (first cap : Array Value) (w : World), (Instr.makeFunc fn first cap).run Tryz.prog w = .ok (.func fn first cap) w := fun _ _ _ _ => rfl
  go_wp2_with (go_at_call 60; refine HA.out.mono ?_; rintro e w1 ⟨rfl, hB1⟩)
  go_ret2
  exact ⟨rfl, below_in hBW hB1⟩
end Go.Proofs.YtggdlklkjnbbjaaGreatDoor.E

namespace Go.Proofs.YtggdlklkjnbbjaaGreatDoor.E
open Go.RowKit Go.Shelf Go.Proofs.YtggdlklkjnbbjaaGreatDoor.C
set_option linter.unusedSimpArgs false
set_option linter.unusedVariables false

def putCol (xs ys : List (List UInt8)) : List (List UInt8) := (List.range xs.length).map fun k => xorB (xs[k]?.getD []) (ys[k]?.getD [])
def putOf (a b : List (List (List UInt8))) : List (List (List UInt8)) := (List.range a.length).map fun i => putCol (a[i]?.getD []) (b[i]?.getD [])
section
variable {Q : Nat → Prop} {base : Nat} {v : Value}
end
end Go.Proofs.YtggdlklkjnbbjaaGreatDoor.E

namespace Go.Proofs.YtggdlklkjnbbjaaGreatDoor.E
open Go.RowKit Go.Shelf Go.Proofs.YtggdlklkjnbbjaaGreatDoor.C
set_option linter.unusedSimpArgs false
set_option linter.unusedVariables false

/-- All cells, row by row. -/
def grid (R n : Nat) : List (Nat × Nat) := (List.range R).flatMap fun r => (List.range n).map fun c => (c, r)
def slants (p : Int) : List (Nat × Nat) := (List.range p.toNat).flatMap fun (a : Nat) => diagAt p (a : Int) p.toNat
section
variable {p : Int} {a b css : List (List (List UInt8))}
theorem cell_put (c r : Nat) (hc : c < a.length) (hr : r < (a[c]?.getD []).length) : cellOf_ (putOf a b) c r = xorB (cellOf_ a c r) (cellOf_ b c r) := by
  unfold cellOf_ putOf
  rw [List.getElem?_map, List.getElem?_range hc]
  show (putCol (a[c]?.getD []) (b[c]?.getD []))[r]?.getD [] = _
  unfold putCol
  rw [List.getElem?_map, List.getElem?_range hr]
  rfl
theorem putOf_len : (putOf a b).length = a.length := by unfold putOf; rw [List.length_map, List.length_range]
theorem putOf_col {c : Nat} (hc : c < a.length) : (putOf a b)[c]?.getD [] = putCol (a[c]?.getD []) (b[c]?.getD []) := by
  unfold putOf
  rw [List.getElem?_map, List.getElem?_range hc]
  rfl
theorem putCol_len (xs ys : List (List UInt8)) : (putCol xs ys).length = xs.length := by unfold putCol; rw [List.length_map, List.length_range]
end
end Go.Proofs.YtggdlklkjnbbjaaGreatDoor.E

namespace Go.Proofs.YtggdlklkjnbbjaaGreatDoor.E
open Go.RowKit Go.Shelf Go.Proofs.YtggdlklkjnbbjaaGreatDoor.C
set_option linter.unusedSimpArgs false
set_option linter.unusedVariables false

end Go.Proofs.YtggdlklkjnbbjaaGreatDoor.E

namespace Go.Proofs.YtggdlklkjnbbjaaGreatDoor.E
open Go.RowKit Go.Shelf Go.Proofs.YtggdlklkjnbbjaaGreatDoor.C
set_option linter.unusedSimpArgs false
set_option linter.unusedVariables false
section
variable {p : Int} {a b : List (List (List UInt8))}
end
end Go.Proofs.YtggdlklkjnbbjaaGreatDoor.E

