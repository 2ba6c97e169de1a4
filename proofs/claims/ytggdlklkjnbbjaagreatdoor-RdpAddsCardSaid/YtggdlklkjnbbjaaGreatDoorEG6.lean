/- EVENODD's Check: all columns; what is the same. EVENODD: what is made belongs together with what it is made of. EVENODD's Check: whether columns are those that are made. EVENOdecide (encOf p (css.take p.toNat) = css.drop p.toNat): Check. The document's Put: columns of one shape, put upon one another. The mathematics of EVENODD: what is made is linear; all cells made, put upon one another, are the adjuster. The document's answers for EVENODD: a nought; columns put upon one another. EvenoddHolds: what is called, of two lists of columns that are right. -/
import Derived.Test.YtggdlklkjnbbjaaGreatDoorEG4
import Derived.Test.YtggdlklkjnbbjaaGreatDoorEG2
import Derived.Test.YtggdlklkjnbbjaaGreatDoorCwK
import Derived.Test.YtggdlklkjnbbjaaGreatDoorCwL
namespace Go.Proofs.YtggdlklkjnbbjaaGreatDoor.E
open Go.RowKit Go.Shelf Go.Proofs.YtggdlklkjnbbjaaGreatDoor.C
set_option linter.unusedSimpArgs false
set_option linter.unusedVariables false

set_option maxHeartbeats 400000 in
theorem all_any (p : Int) (hR : RightC 1 p) (w : World) (hL : Laid w) : Calls Tryz.prog 62 #[.int .i64 p] w fun e w' => e = .returned (.int .i64 (p + 2)) ∧ Below w.heap.size w w' := by
  have HC := Lib.hid (fun W hL => (shapeCols_any 1 p W hL).mono fun _ _ h => (⟨h.1 hR, h.2.2⟩ : _ ∧ _))
  rw [show shortN 1 = 0 from rfl, show madeN 1 = 2 from rfl, Int.sub_zero] at HC
  clear hR
  go_enter Tryz.func62, Tryz.ntmps62
  go_wp2_with (first
    | (go_at_call 86; refine (code_any p _).mono ?_; rintro e w1 ⟨rfl, hB1⟩; replace hL := hL.next hB1)
    | (go_at_call 106; refine (HC.out _ hL).mono ?_; rintro e w2 ⟨rfl, hB2⟩)
    | (go_at_call 84; refine (sureI _ _).mono ?_; rintro e w3 ⟨rfl, rfl⟩))
  go_ret
  exact ⟨rfl, below_in hB1 hB2⟩
theorem enter_all : ∀ args W, (callFunc 62 args).run Tryz.prog W = .ok (.enter 62 args) W := enters_of Tryz.func62 (by kernel_rfl) rfl
/-- All columns of the prime p, that belong together. -/
def AllOk (p : Int) (css : List (List (List UInt8))) : Prop := RightC 1 p ∧ (css.length : Int) = p + 2 ∧ TogOk (p - 1).toNat css

set_option maxRecDepth 100000 in
set_option maxHeartbeats 1000000 in
theorem askedA_yes {B : Nat} (p : Int) (v : Value) (css : List (List (List UInt8))) (w : World) (hL : Laid w) (hB : B ≤ w.heap.size) (hC : Cols B w v css) (hlen : css.length ≤ 1000) (hok : AllOk p css) :
    Calls Tryz.prog 41 #[.int .i64 p, .func (.func 62) #[] #[], v] w fun e w' => e = .returned (.agg #[.int .i64 p, v]) ∧ Below w.heap.size w w' := by
  obtain ⟨hR, hn, ht⟩ := hok
  have HP := Lib.hid (fun W hL => primeOf_yes p hR W hL)
  have HD := Lib.hid (fun W hL => all_any p hR W hL)
  have HT := Lib.hid (fun W hL hB hC => together_yes (B := B) p (p - 1).toNat hR (by have := hR.und.p1; omega) v css W hL hB hC hlen ht)
  have hent := enter_all
  obtain ⟨A, cap, rfl, _, _⟩ := id hC
  have hnn : ((css.length : Int) == p + 2) = true := by simpa using hn
  clear hR hn ht
  have hBz := below_one w (.cells #[.int .i64 0, .slice none 0 0] 65)
  have bz := Blk.new w 65 #[.int .i64 0, .slice none 0 0]
  have hL1 := hL.next hBz
  go_enter Tryz.func41, Tryz.ntmps41
  go_wp2_with fail
  refine (HP.out _ hL1).mono ?_
  rintro e w1 ⟨rfl, hB1⟩
  have hBa := below_in hBz hB1
  have hL2 := hL.next hBa
  replace bz := bz.below hB1 bz.lt
  clear hBz hB1 hL1 HP
  go_wp2_with fail
  refine (HD.out _ hL2).mono ?_
  rintro e w2 ⟨rfl, hB1⟩
  have hBb := below_in hBa hB1
  have hL3 := hL.next hBb
  replace bz := bz.below hB1 bz.lt
  clear hBa hB1 hL2 HD
  go_wp2_with (go_at_call 83; refine (need_yes _).mono ?_; rintro e w' ⟨rfl, rfl⟩)
  refine (HT.out _ hL3 (Nat.le_trans hB hBb.size) (hC.below (hBb.mono hB))).mono ?_
  rintro e w3 ⟨rfl, hB1⟩
  have hBc := below_in hBb hB1
  replace bz := bz.below hB1 bz.lt
  have g0 := bz.cell 0
  have g1 := bz.cell 1
  have f0 := bz.frozen 0
  have f1 := bz.frozen 1
  simp only [List.getElem?_toArray, List.getElem?_cons_zero, List.getElem?_cons_succ] at g0 g1
  clear hBb hB1 hL3 HT hC
  go_wp2
  have r := (bz.set_ 0 (.int .i64 p)).set_ 1 (.slice A css.length cap)
  have r0 := r.cell 0
  have r1 := r.cell 1
  simp only [List.setIfInBounds_toArray, List.set_cons_zero, List.set_cons_succ, List.getElem?_toArray, List.getElem?_cons_zero, List.getElem?_cons_succ] at r0 r1
  exact bodyPost_ret (v := .agg #[.int .i64 p, .slice A css.length cap]) (by simp [results, Tryz.results41, go_sem, r0, r1]) rfl ⟨rfl, (hBc.setCell (by simp) _).setCell (by simp) _⟩

set_option maxRecDepth 100000 in
set_option maxHeartbeats 1000000 in
theorem askedA_no {B : Nat} (p : Int) (v : Value) (css : List (List (List UInt8))) (w : World) (hL : Laid w) (hB : B ≤ w.heap.size) (hC : Cols B w v css) (hlen : css.length ≤ 1000) (hcl : ∀ j, j < css.length → (css[j]?.getD []).length ≤ 1000) (hno : ¬ AllOk p css) :
    Calls Tryz.prog 41 #[.int .i64 p, .func (.func 62) #[] #[], v] w fun e w' => e = .panicked gaveUp ∧ Below w.heap.size w w' := by
  have hent := enter_all
  obtain ⟨A, cap, rfl, _, _⟩ := id hC
  have hBz := below_one w (.cells #[.int .i64 0, .slice none 0 0] 65)
  have hL1 := hL.next hBz
  by_cases hR : RightC 1 p
  case neg =>
    have HP := Lib.hid (fun W hL => primeOf_no p hR W hL)
    clear hR hno
    go_enter Tryz.func41, Tryz.ntmps41
    go_wp2_with (go_at_call 49; refine (HP.out _ hL1).mono ?_; rintro e w1 ⟨rfl, hB1⟩)
    exact ⟨rfl, rfl, below_in hBz hB1⟩
  have HP := Lib.hid (fun W hL => primeOf_yes p hR W hL)
  have HD := Lib.hid (fun W hL => all_any p hR W hL)
  by_cases hn : (css.length : Int) = p + 2
  case neg =>
    have hnn : ((css.length : Int) == p + 2) = false := by simpa using hn
    clear hR hno hn
    go_enter Tryz.func41, Tryz.ntmps41
    go_wp2_with fail
    refine (HP.out _ hL1).mono ?_
    rintro e w1 ⟨rfl, hB1⟩
    have hBa := below_in hBz hB1
    have hL2 := hL.next hBa
    clear hBz hB1 hL1 HP
    go_wp2_with fail
    refine (HD.out _ hL2).mono ?_
    rintro e w2 ⟨rfl, hB1⟩
    have hBb := below_in hBa hB1
    clear hBa hB1 hL2 HD
    go_wp2_with (go_at_call 83; refine (need_no _).mono ?_; rintro e w' ⟨rfl, rfl⟩)
    exact ⟨rfl, rfl, hBb⟩
  have HT := Lib.hid (fun W hL hB hC => together_no (B := B) p (p - 1).toNat hR (by have := hR.und.p1; omega) (.slice A css.length cap) css W hL hB hC hlen hcl (fun h => hno ⟨hR, hn, h⟩))
  have hnn : ((css.length : Int) == p + 2) = true := by simpa using hn
  clear hR hno hn
  go_enter Tryz.func41, Tryz.ntmps41
  go_wp2_with fail
  refine (HP.out _ hL1).mono ?_
  rintro e w1 ⟨rfl, hB1⟩
  have hBa := below_in hBz hB1
  have hL2 := hL.next hBa
  clear hBz hB1 hL1 HP
  go_wp2_with fail
  refine (HD.out _ hL2).mono ?_
  rintro e w2 ⟨rfl, hB1⟩
  have hBb := below_in hBa hB1
  have hL3 := hL.next hBb
  clear hBa hB1 hL2 HD
  go_wp2_with (go_at_call 83; refine (need_yes _).mono ?_; rintro e w' ⟨rfl, rfl⟩)
  refine (HT.out _ hL3 (Nat.le_trans hB hBb.size) (hC.below (hBb.mono hB))).mono ?_
  rintro e w3 ⟨rfl, hB1⟩
  go_wp2
  exact ⟨rfl, rfl, below_in hBb hB1⟩

theorem enter_same1 (args : Array Value) (w : World) : (callFunc 108 args).run Tryz.prog w = .ok (.enter 108 args) w := (enters_of Tryz.func108 (by kernel_rfl) rfl) args w
set_option maxHeartbeats 400000 in
theorem same1_any {B B' : Nat} (v1 v2 : Value) (ls os : List (List UInt8)) (w : World) (h1 : Many B w v1 ls) (h2 : Many B' w v2 os) (hls : ls.length ≤ 100000) (hos : os.length ≤ 100000) :
    Calls Tryz.prog 108 #[v1, v2] w fun e w' => e = .returned (.bool (decide (ls = os))) ∧ w = w' := by
  have H := Lib.hid (C.same_any v1 v2 ls os w h1 h2 (by omega) (by omega))
  obtain ⟨A1, cap1, rfl, _, _⟩ := id h1
  obtain ⟨A2, cap2, rfl, _, _⟩ := id h2
  generalize decide (ls = os) = d at *
  go_enter Tryz.func108, Tryz.ntmps108
  go_wp2_with (go_at_call 109; refine H.out.mono ?_; rintro e w2 ⟨rfl, rfl⟩)
  go_ret
  exact ⟨rfl, rfl⟩
theorem same3c_iff (ls os : List (List (List UInt8))) : ls = os ↔ ls.length = os.length ∧ ∀ j, j < ls.length → (ls[j]?.getD []) = (os[j]?.getD []) := by
  constructor
  · rintro rfl
    exact ⟨rfl, fun _ _ => rfl⟩
  · rintro ⟨h1, h2⟩
    apply List.ext_getElem h1
    intro j hj hj2
    have := h2 j hj
    rwa [List.getElem?_eq_getElem hj, List.getElem?_eq_getElem hj2] at this
set_option maxRecDepth 100000 in
set_option maxHeartbeats 1000000 in
theorem equalFuncC_any {B B' : Nat} (v1 v2 : Value) (ls os : List (List (List UInt8))) (w : World) (h1 : Cols B w v1 ls) (h2 : Cols B' w v2 os) (hls : ls.length ≤ 1000) (hos : os.length ≤ 1000) (hl1 : ∀ j : Nat, (ls[j]?.getD []).length ≤ 1000) (hl2 : ∀ j : Nat, (os[j]?.getD []).length ≤ 1000) (b : Bool) (hb : b = true ↔ ls = os) :
    Calls Tryz.prog 107 #[v1, v2, .func (.func 108) #[] #[]] w fun e w' => e = .returned (.bool b) ∧ w = w' := by
  obtain ⟨A1, cap1, rfl, _, _⟩ := id h1
  obtain ⟨A2, cap2, rfl, _, _⟩ := id h2
  have hent := enter_same1
  have HLS := Lib.hid hl1
  have HOS := Lib.hid hl2
  clear hl1 hl2
  rw [same3c_iff] at hb
  by_cases hl : ls.length = os.length
  · have HLn := Lib.hid hl
    rw [hl]
    rw [hl] at hls
    clear hl
    go_enter Tryz.func107, Tryz.ntmps107
    go_wp2
    go_loop [17] (fun i => ∃ k : Nat, k ≤ os.length ∧ i = .int .i64 k ∧ Hid (∀ j, j < k → (ls[j]?.getD []) = (os[j]?.getD []))) (fun i => os.length - (intOf i).toNat)
    case atStart => exact ⟨0, Nat.zero_le _, rfl, Lib.hid fun j hj => absurd hj (by omega)⟩
    case round =>
      obtain ⟨k, hk, rfl, HA⟩ := hrel
      by_cases hlt : k < os.length
      · have hdec : decide ((k : Int) < (os.length : Int)) = true := by simp; omega
        obtain ⟨b1, off1, cq1, e1, _, _, hrow1⟩ := h1.at_ (by have := HLn.out; omega)
        injection e1 with e1 _ e1c
        subst e1
        subst e1c
        obtain ⟨u1, hc1, hm1⟩ := hrow1 k (by have := HLn.out; omega)
        obtain ⟨b2, off2, cq2, e2, _, _, hrow2⟩ := h2.at_ (by omega)
        injection e2 with e2 _ e2c
        subst e2
        subst e2c
        obtain ⟨u2, hc2, hm2⟩ := hrow2 k hlt
        have HE := Lib.hid (same1_any _ _ _ _ w hm1 hm2 (by have := HLS.out k; omega) (by have := HOS.out k; omega))
        have HL : Hid ((ls[k]?.getD []) = (os[k]?.getD []) → ∀ j, j < k + 1 → (ls[j]?.getD []) = (os[j]?.getD [])) := by
          intro h j hj
          rcases Nat.lt_or_ge j k with h1 | h1
          · exact HA.out j h1
          · obtain rfl : j = k := by omega
            exact h
        have HM : Hid (¬ (ls[k]?.getD []) = (os[k]?.getD []) → ¬ b = true) := fun h h2 => h ((hb.1 h2).2 k (by have := HLn.out; omega))
        obtain ⟨A3, cap3, rfl, _, _⟩ := id hm1
        obtain ⟨A4, cap4, rfl, _, _⟩ := id hm2
        clear hrow1 hrow2 hm1 hm2
        generalize ls[k]?.getD [] = x at *
        generalize os[k]?.getD [] = y at *
        have hk2 : (k : Int) < (os.length : Int) := by omega
        by_cases hxy : x = y
        · rw [decide_eq_true hxy] at HE
          have HL2 := Lib.hid (HL.out hxy)
          clear HL HM hxy
          go_wp2_with fail
          refine HE.out.mono ?_
          rintro e w2 ⟨rfl, rfl⟩
          go_wp2
          go_round
          case rel => exact ⟨k + 1, by omega, by go_num, HL2⟩
          case measure => simp [intOf]; omega
        · rw [decide_eq_false hxy] at HE
          have HM2 := Lib.hid (HM.out hxy)
          clear HL HM hxy
          go_wp2_with fail
          refine HE.out.mono ?_
          rintro e w2 ⟨rfl, rfl⟩
          go_wp2
          go_ret
          exact ⟨ret_bool (Bool.eq_false_iff.2 HM2.out).symm, rfl⟩
      · obtain rfl : k = os.length := by omega
        have e1 : decide ((os.length : Int) < (os.length : Int)) = false := by simp
        go_wp2
        go_ret
        exact ⟨ret_bool (hb.2 ⟨HLn.out, fun j hj => HA.out j (by have := HLn.out; omega)⟩).symm, rfl⟩
  · have e0 : ((ls.length : Int) != (os.length : Int)) = true := by rw [bne_iff_ne]; omega
    have hbf : b = false := Bool.eq_false_iff.2 fun h => hl (hb.1 h).1
    subst hbf
    go_enter Tryz.func107, Tryz.ntmps107
    go_wp2
    go_ret
    exact ⟨rfl, rfl⟩
end Go.Proofs.YtggdlklkjnbbjaaGreatDoor.E

namespace Go.Proofs.YtggdlklkjnbbjaaGreatDoor.E
open Go.RowKit Go.Shelf Go.Proofs.YtggdlklkjnbbjaaGreatDoor.C
set_option linter.unusedSimpArgs false
set_option linter.unusedVariables false

theorem RowG.own_lt {α : Type} {r : Rep α} {t : TypeId} {d : α} {Q : Nat → Prop} {W : World} {base : Nat} {v : Value} {xs : List α} (h : RowG r t d Q W base v xs) (k : Nat) (e : v.ownBlock = some k) : k < W.heap.size := by
  obtain ⟨us, ho, _⟩ := h
  exact (World.ownsRow.lt ho k e).2
theorem byte_at {B : Nat} {W : World} {A : Option Addr} {n cap : Nat} {l : List UInt8} (h : Bytes B W (.slice A n cap) l) {k : Nat} (hk : k < n) : ∃ b off, A = some ⟨b, off, none⟩ ∧ b < B ∧ n ≤ cap ∧ BytesP (· < B) W (.slice (some ⟨b, off + k, none⟩) 1 (cap - k)) [at_ l k] := by
  obtain ⟨A', cap', e, hc, hA⟩ := h
  injection e with e1 e2 e3
  subst e1 e2 e3
  obtain ⟨b, off, rfl, hb, hcell⟩ := hA (by omega)
  refine ⟨b, off, rfl, hb, hc, _, _, rfl, by simp; omega, fun _ => ⟨b, off + k, rfl, hb, fun j hj => ?_⟩⟩
  have : j = 0 := by simp at hj; exact hj
  subst this
  exact hcell k hk
theorem map_next {α β : Type} (g : α → β) (d : α) (xs : List α) {k : Nat} (hk : k < xs.length) : (xs.map g).take (k + 1) = (xs.map g).take k ++ [g (xs[k]?.getD d)] := by
  rw [List.take_succ_eq_append_getElem (by rw [List.length_map]; exact hk), List.getElem_map, List.getElem?_eq_getElem hk]
  rfl
theorem diagAt_in {p a : Int} (hp : 0 < p) {x : Nat × Nat} {n : Nat} (hx : x ∈ diagAt p a n) : x.1 < n ∧ (x.2 : Int) < p - 1 := by
  unfold diagAt at hx
  obtain ⟨i, hi, rfl⟩ := List.mem_map.1 hx
  obtain ⟨hi1, hi2⟩ := List.mem_filter.1 hi
  have h1 := of_decide_eq_true hi2
  have h2 : 0 ≤ (a - (i : Int)) % p := Int.emod_nonneg _ (by omega)
  exact ⟨List.mem_range.1 hi1, by show (((a - (i : Int)) % p).toNat : Int) < p - 1; omega⟩
/-- What is made belongs together with what it is made of. -/
theorem enc_with {p : Int} {css : List (List (List UInt8))} (h : DataOk p css) {cs : List (List UInt8)} (hcs : cs.length = (p - 1).toNat ∧ Cell (firstC css) ∧ AllLen (firstC css).length cs) : RightD p ([cs] ++ encOf p css) := by
  have hd := dataOk_n h
  have hf1 := togOk_first h.2.2
  have hrl : ∀ r, r < (p - 1).toNat → ((rowsMade (p - 1).toNat css)[r]?.getD []).length = (firstC css).length := fun r hr => by rw [rowsMade_at h hr]; exact row_len h hr
  have hdl : ∀ r, r < (p - 1).toNat → ((diagsMade p (p - 1).toNat css)[r]?.getD []).length = (firstC css).length := fun r hr => by rw [diagsMade_at h hr]; exact diag_len h (by omega)
  have hf : (firstC ([cs] ++ encOf p css)).length = (firstC css).length := hcs.2.2 0 (by omega)
  have hC : Cell (firstC ([cs] ++ encOf p css)) := by unfold Cell; omega
  refine ⟨h.1.2, by simp, fun j hj => ?_⟩
  have hj3 : j = 0 ∨ j = 1 ∨ j = 2 := by
    have : ([cs] ++ encOf p css).length = 3 := rfl
    omega
  rcases hj3 with rfl | rfl | rfl
  · exact ⟨hcs.1, hC, fun i hi => by rw [hf]; exact hcs.2.2 i hi⟩
  · exact ⟨rowsMade_len _, hC, fun i hi => by rw [hf]; exact hrl i (by rw [← rowsMade_len (p - 1).toNat (css := css)]; exact hi)⟩
  · exact ⟨diagsMade_len _, hC, fun i hi => by rw [hf]; exact hdl i (by rw [← diagsMade_len (p - 1).toNat (p := p) (css := css)]; exact hi)⟩
theorem enc_cells {p : Int} {css : List (List (List UInt8))} (h : DataOk p css) : (encOf p css).length = 2 ∧ ∀ j, j < 2 → ((encOf p css)[j]?.getD []).length = (p - 1).toNat ∧ ∀ i, i < (p - 1).toNat → (((encOf p css)[j]?.getD [])[i]?.getD []).length = (firstC css).length := by
  have hd := dataOk_n h
  refine ⟨rfl, fun j hj => ?_⟩
  have hj2 : j = 0 ∨ j = 1 := by omega
  rcases hj2 with rfl | rfl
  · exact ⟨rowsMade_len _, fun r hr => by show ((rowsMade (p - 1).toNat css)[r]?.getD []).length = _; rw [rowsMade_at h hr]; exact row_len h hr⟩
  · exact ⟨diagsMade_len _, fun r hr => by show ((diagsMade p (p - 1).toNat css)[r]?.getD []).length = _; rw [diagsMade_at h hr]; exact diag_len h (by omega)⟩
end Go.Proofs.YtggdlklkjnbbjaaGreatDoor.E

namespace Go.Proofs.YtggdlklkjnbbjaaGreatDoor.E
open Go.RowKit Go.Shelf Go.Proofs.YtggdlklkjnbbjaaGreatDoor.C
set_option linter.unusedSimpArgs false
set_option linter.unusedVariables false
attribute [local go_sem] Oper.semAt_some

section
variable {F : Fence} {n : Nat} {P : Program} {md : Region.Mode} {ops : Array Oper} {Q : Exit → Act → World → Prop} {S : World → Prop}
theorem anyHF_two {i j : Nat} {oi oj : Oper} {k : Nat} {listed : Array Bool} {a : Act} {w : World} (hr : Region.ready md ops listed = [i, j]) (hi : ops[i]? = some oi) (hj : ops[j]? = some oj) (hwi : Region.wanted oi (yielded ops a.tmps) = true) (hwj : Region.wanted oj (yielded ops a.tmps) = true)
    (h1 : Oper.wpIn F n P oi a w (fun a' w' => S w' ∧ anyHF F n P md ops Q S k (listed.setIfInBounds i true) a' w') Q) (h2 : Oper.wpIn F n P oj a w (fun a' w' => S w' ∧ anyHF F n P md ops Q S k (listed.setIfInBounds j true) a' w') Q) : anyHF F n P md ops Q S (k + 1) listed a w :=
  ⟨fun h0 => (by rw [hr] at h0; cases h0), fun m hm => by
    rw [hr] at hm
    simp only [List.mem_cons, List.not_mem_nil, or_false] at hm
    rcases hm with rfl | rfl
    · unfold wpOpIn
      rw [hi]
      simp only [hwi, if_true]
      exact h1
    · unfold wpOpIn
      rw [hj]
      simp only [hwj, if_true]
      exact h2⟩
end
theorem Cols.drop_ {B : Nat} {W : World} {b off n cap : Nat} {css : List (List (List UInt8))} (h : Cols B W (.slice (some ⟨b, off, none⟩) n cap) css) {m : Nat} (hm : m ≤ n) : Cols B W (.slice (some ⟨b, off + m, none⟩) (n - m) (cap - m)) (css.drop m) := by
  obtain ⟨A', cap', e, hc, hA⟩ := h
  injection e with e1 e2 e3
  subst e1 e2 e3
  have hl : (css.drop m).length = css.length - m := List.length_drop
  refine ⟨_, cap - m, by rw [hl], by omega, fun hp => ?_⟩
  obtain ⟨b2, off2, e, hb, hcell⟩ := hA (by omega)
  injection e with e
  injection e with e1 e2
  subst e1 e2
  refine ⟨b, off + m, rfl, hb, fun j hj => ?_⟩
  obtain ⟨u, h1, h2⟩ := hcell (m + j) (by omega)
  exact ⟨u, by rw [Nat.add_assoc]; exact h1, by rw [List.getElem?_drop]; exact h2⟩
theorem allOk_data {p : Int} {all : List (List (List UInt8))} (h : AllOk p all) : DataOk p (all.take p.toNat) := by
  obtain ⟨hR, hn, h0, hall⟩ := h
  have hpp := prm_bounds hR.2
  have hl : (all.take p.toNat).length = p.toNat := by rw [List.length_take]; omega
  have hj : ∀ j, j < p.toNat → (all.take p.toNat)[j]?.getD [] = all[j]?.getD [] := fun j hj => by rw [List.getElem?_take_of_lt hj]
  have hf : firstC (all.take p.toNat) = firstC all := by unfold firstC; rw [hj 0 (by omega)]
  refine ⟨hR, by rw [hl]; omega, by rw [hl]; omega, fun j hjl => ?_⟩
  rw [hl] at hjl
  rw [hj j hjl, hf]
  exact hall j (by omega)
set_option maxRecDepth 100000 in
set_option maxHeartbeats 400000 in
theorem areEncoded_any {B : Nat} (p : Int) (v : Value) (all : List (List (List UInt8))) (hok : AllOk p all) (w : World) (hL : Laid w) (hB : B ≤ w.heap.size) (hC : Cols B w v all) :
    Calls Tryz.prog 63 #[.agg #[.int .i64 p, v]] w fun e w' => e = .returned (.bool (decide (encOf p (all.take p.toNat) = all.drop p.toNat))) ∧ Below w.heap.size w w' := by
  have hpp := prm_bounds hok.1.2
  have hdo := allOk_data hok
  obtain ⟨P, rfl⟩ : ∃ P : Nat, p = (P : Int) := ⟨p.toNat, by omega⟩
  rw [Int.toNat_natCast] at hdo ⊢
  obtain ⟨b1, off1, cap, rfl, hcap, hb1, _⟩ := hC.at_ hok.2.2.1
  have hn : all.length = P + 2 := by have := hok.2.1; omega
  obtain ⟨N, hN⟩ : ∃ N, all.length = N := ⟨_, rfl⟩
  rw [hN] at hC hcap hn ⊢
  obtain ⟨W1, hW1⟩ : ∃ W1, w.alloc (.cells #[.int .i64 (P : Int), .slice (some ⟨b1, off1, none⟩) N cap] 65) = W1 := ⟨_, rfl⟩
  have b0 : Blk W1 w.heap.size 65 #[.int .i64 (P : Int), .slice (some ⟨b1, off1, none⟩) N cap] := by rw [← hW1]; exact Blk.new w _ _
  have hBW : Below w.heap.size w W1 := by rw [← hW1]; exact below_one w _
  have hL1 := hL.next hBW
  have hC1 := hC.below (hBW.mono hB)
  have hB1 : B ≤ W1.heap.size := Nat.le_trans hB hBW.size
  have HD := Lib.hid (fun (U : World) (hU : Below W1.heap.size W1 U) => data_any (P : Int) hok.1 U (hL1.next hU))
  have HENC := Lib.hid (fun (U : World) (hU : Below W1.heap.size W1 U) => encoded_any (P : Int) (.slice (some ⟨b1, off1, none⟩) P cap) (all.take P) hdo U (hL1.next hU) (Nat.le_trans hB1 hU.size) (Cols.take_ (hC1.below (hU.mono hB1)) (m := P) (by omega)))
  have hec := enc_cells hdo
  have hdl : ∀ j : Nat, ((all.drop P)[j]?.getD []).length ≤ 1000 := fun j => by
    rw [List.getElem?_drop]
    rcases Nat.lt_or_ge (P + j) N with h | h
    · have := (hok.2.2.2 (P + j) (by omega)).1
      omega
    · rw [List.getElem?_eq_none (by omega)]; simp
  have hel : ∀ j : Nat, ((encOf (P : Int) (all.take P))[j]?.getD []).length ≤ 1000 := fun j => by
    rcases Nat.lt_or_ge j 2 with h | h
    · have := (hec.2 j h).1; omega
    · rw [List.getElem?_eq_none (by have := hec.1; omega)]; simp
  have HEQ := Lib.hid (fun (U : World) (u : Value) (hU : Below W1.heap.size W1 U) (hu : Cols U.heap.size U u (encOf (P : Int) (all.take P))) => equalFuncC_any u (.slice (some ⟨b1, off1 + P, none⟩) 2 (cap - P)) (encOf (P : Int) (all.take P)) (all.drop P) U hu (by have h := Cols.drop_ (hC1.below (hU.mono hB1)) (m := P) (by omega); rw [hn, show P + 2 - P = 2 by omega] at h; exact h) (by have := hec.1; omega) (by rw [List.length_drop]; omega) hel hdl (decide (encOf (P : Int) (all.take P) = all.drop P)) decide_eq_true_iff)
  have c0 := b0.cell 0
  have c1 := b0.cell 1
  simp only [List.getElem?_toArray, List.getElem?_cons_zero, List.getElem?_cons_succ] at c0 c1
  have q1 : (0 : Int) ≤ (P : Int) := by omega
  have q2 : (P : Int) ≤ (cap : Int) := by omega
  have q3 : (P : Int) ≤ (N : Int) := by omega
  have q4 : ¬ cap = P := by omega
  have q5 : N - P = 2 := by omega
  have hen := hec.1
  clear hdl hel hec hok hdo hC hC1 hN hn
  generalize decide (encOf (P : Int) (all.take P) = all.drop P) = d at *
  generalize encOf (P : Int) (all.take P) = en at *
  refine (callsIn_wide (n := 9)).1 ?_
  refine callsIn_of_wp_marks Tryz.func63 rfl trivial ?_ rfl
  simp only [Tryz.ntmps63, List.size_toArray, List.length_cons, List.length_nil, Nat.reduceAdd, Nat.reduceSub, Array.replicate_succ, Array.replicate_zero, List.push_toArray, List.append_toArray, List.nil_append, List.cons_append]
  gi_wp2_with fail
  clear hW1
  have hS : (fun U : World => U.cell? ⟨w.heap.size, 0, none⟩ = some (.int .i64 (P : Int)) ∧ U.cell? ⟨w.heap.size, 1, none⟩ = some (.slice (some ⟨b1, off1, none⟩) N cap)) W1.drew := ⟨c0, c1⟩
  refine wpIn_mono (region_HF (Q := NoPanic _) (S := (fun U : World => U.cell? ⟨w.heap.size, 0, none⟩ = some (.int .i64 (P : Int)) ∧ U.cell? ⟨w.heap.size, 1, none⟩ = some (.slice (some ⟨b1, off1, none⟩) N cap))) (by kernel_rfl) ?_) NoPanic.imp
  refine anyHF_take (i := 0) (d := 4) (v := .pointer (some ⟨w.heap.size, 0, none⟩)) (by kernel_rfl) rfl (by kernel_rfl) (by kernel_rfl) (by kernel_rfl) rfl (fun _ _ _ h => h) ⟨Or.inl ⟨by rfl, fun w hS => by obtain ⟨h0, h1⟩ := hS; go_simp⟩, fun _ => rfl⟩ hS ?_
  simp only [List.setIfInBounds_toArray, List.set_cons_zero, List.set_cons_succ]
  refine anyHF_take (i := 1) (d := 5) (v := .int .i64 (P : Int)) (by kernel_rfl) rfl (by kernel_rfl) (by kernel_rfl) (by kernel_rfl) rfl (fun _ _ _ h => h) ⟨Or.inl ⟨by rfl, fun w hS => by obtain ⟨h0, h1⟩ := hS; go_simp⟩, fun _ => rfl⟩ hS ?_
  simp only [List.setIfInBounds_toArray, List.set_cons_zero, List.set_cons_succ]
  refine anyHF_take (i := 2) (d := 6) (v := .pointer (some ⟨w.heap.size, 1, none⟩)) (by kernel_rfl) rfl (by kernel_rfl) (by kernel_rfl) (by kernel_rfl) rfl (fun _ _ _ h => h) ⟨Or.inl ⟨by rfl, fun w hS => by obtain ⟨h0, h1⟩ := hS; go_simp⟩, fun _ => rfl⟩ hS ?_
  simp only [List.setIfInBounds_toArray, List.set_cons_zero, List.set_cons_succ]
  refine anyHF_take (i := 3) (d := 7) (v := .slice (some ⟨b1, off1, none⟩) N cap) (by kernel_rfl) rfl (by kernel_rfl) (by kernel_rfl) (by kernel_rfl) rfl (fun _ _ _ h => h) ⟨Or.inl ⟨by rfl, fun w hS => by obtain ⟨h0, h1⟩ := hS; go_simp⟩, fun _ => rfl⟩ hS ?_
  simp only [List.setIfInBounds_toArray, List.set_cons_zero, List.set_cons_succ]
  refine anyHF_take (i := 4) (d := 8) (v := .pointer (some ⟨w.heap.size, 0, none⟩)) (by kernel_rfl) rfl (by kernel_rfl) (by kernel_rfl) (by kernel_rfl) rfl (fun _ _ _ h => h) ⟨Or.inl ⟨by rfl, fun w hS => by obtain ⟨h0, h1⟩ := hS; go_simp⟩, fun _ => rfl⟩ hS ?_
  simp only [List.setIfInBounds_toArray, List.set_cons_zero, List.set_cons_succ]
  refine anyHF_take (i := 5) (d := 9) (v := .int .i64 (P : Int)) (by kernel_rfl) rfl (by kernel_rfl) (by kernel_rfl) (by kernel_rfl) rfl (fun _ _ _ h => h) ⟨Or.inl ⟨by rfl, fun w hS => by obtain ⟨h0, h1⟩ := hS; go_simp⟩, fun _ => rfl⟩ hS ?_
  simp only [List.setIfInBounds_toArray, List.set_cons_zero, List.set_cons_succ]
  refine anyHF_two (i := 6) (j := 9) (by kernel_rfl) rfl rfl (by rfl) (by rfl) ?ca ?cb
  case ca =>
    gi_wp2_with fail
    refine ⟨trivial, (callsIn_wide.2 (HD.out _ ((Below.refl _ _).drew))).mono ?_⟩
    rintro e wa ⟨rfl, hBn⟩
    replace hBn := below_undrew hBn
    clear hS
    have hS : (fun U : World => U.cell? ⟨w.heap.size, 0, none⟩ = some (.int .i64 (P : Int)) ∧ U.cell? ⟨w.heap.size, 1, none⟩ = some (.slice (some ⟨b1, off1, none⟩) N cap)) wa := ⟨(hBn.cell (p := ⟨w.heap.size, 0, none⟩) b0.lt).trans c0, (hBn.cell (p := ⟨w.heap.size, 1, none⟩) b0.lt).trans c1⟩
    gi_wp2
    try (refine ⟨hS, ?_⟩)
    refine anyHF_take (i := 7) (d := 11) (v := .slice (some ⟨b1, off1, none⟩) P cap) (by kernel_rfl) rfl (by kernel_rfl) (by kernel_rfl) (by kernel_rfl) rfl (fun _ _ _ h => h) ⟨Or.inl ⟨by rfl, fun w hS => by obtain ⟨h0, h1⟩ := hS; go_simp⟩, fun _ => rfl⟩ hS ?_
    simp only [List.setIfInBounds_toArray, List.set_cons_zero, List.set_cons_succ]
    refine anyHF_take (i := 8) (d := 12) (v := .agg #[.int .i64 (P : Int), .slice (some ⟨b1, off1, none⟩) P cap]) (by kernel_rfl) rfl (by kernel_rfl) (by kernel_rfl) (by kernel_rfl) rfl (fun _ _ _ h => h) ⟨Or.inl ⟨by rfl, fun w hS => by obtain ⟨h0, h1⟩ := hS; go_simp⟩, fun _ => rfl⟩ hS ?_
    simp only [List.setIfInBounds_toArray, List.set_cons_zero, List.set_cons_succ]
    have hBa := hBn
    refine anyHF_one (i := 9) (by kernel_rfl) rfl (by kernel_rfl) (by rfl) ?_
    have hBz : Below wa.heap.size wa (wa.alloc (.cells #[.int .i64 0, .slice none 0 0] 65)) := below_one wa _
    have bz : Blk (wa.alloc (.cells #[.int .i64 0, .slice none 0 0] 65)) wa.heap.size 65 #[.int .i64 0, .slice none 0 0] := Blk.new wa _ _
    replace hBn := below_in hBn hBz
    clear hS
    have hS : (fun U : World => U.cell? ⟨w.heap.size, 0, none⟩ = some (.int .i64 (P : Int)) ∧ U.cell? ⟨w.heap.size, 1, none⟩ = some (.slice (some ⟨b1, off1, none⟩) N cap)) (wa.alloc (.cells #[.int .i64 0, .slice none 0 0] 65)) := ⟨(hBn.cell (p := ⟨w.heap.size, 0, none⟩) b0.lt).trans c0, (hBn.cell (p := ⟨w.heap.size, 1, none⟩) b0.lt).trans c1⟩
    gi_wp2
    try (refine ⟨hS, ?_⟩)
    refine anyHF_one (i := 10) (by kernel_rfl) rfl (by kernel_rfl) (by rfl) ?_
    replace bz : Blk (wa.alloc (.cells #[.int .i64 (P : Int), .slice (some ⟨b1, off1, none⟩) P cap] 65)) wa.heap.size 65 #[.int .i64 (P : Int), .slice (some ⟨b1, off1, none⟩) P cap] := Blk.new wa _ _
    have hW2 := below_in hBa (below_one wa (.cells #[.int .i64 (P : Int), .slice (some ⟨b1, off1, none⟩) P cap] 65))
    clear hS
    gi_wp2
    obtain ⟨W2, hWW⟩ : ∃ W2, (wa.alloc (.cells #[.int .i64 (P : Int), .slice (some ⟨b1, off1, none⟩) P cap] 65)) = W2 := ⟨_, rfl⟩
    try rw [hWW]
    try rw [hWW] at bz hW2
    clear hWW
    have hS : (fun U : World => U.cell? ⟨w.heap.size, 0, none⟩ = some (.int .i64 (P : Int)) ∧ U.cell? ⟨w.heap.size, 1, none⟩ = some (.slice (some ⟨b1, off1, none⟩) N cap)) W2 := ⟨(hW2.cell (p := ⟨w.heap.size, 0, none⟩) b0.lt).trans c0, (hW2.cell (p := ⟨w.heap.size, 1, none⟩) b0.lt).trans c1⟩
    refine ⟨hS, ?_⟩
    refine anyHF_done (by kernel_rfl) ?_ _
    refine NoPanic.normal ?_
    gi_wp2_with fail
    have hB2 : Below W2.heap.size W2 W2 := Below.refl _ _
    have HSS := Lib.hid (fun (U : World) (hU : Below W2.heap.size W2 U) => (⟨((below_in hW2 hU).cell (p := ⟨w.heap.size, 0, none⟩) b0.lt).trans c0, ((below_in hW2 hU).cell (p := ⟨w.heap.size, 1, none⟩) b0.lt).trans c1, (hU.cell (p := ⟨wa.heap.size, 0, none⟩) bz.lt).trans (bz.cell 0), (hU.cell (p := ⟨wa.heap.size, 1, none⟩) bz.lt).trans (bz.cell 1)⟩ : (fun U : World => U.cell? ⟨w.heap.size, 0, none⟩ = some (.int .i64 (P : Int)) ∧ U.cell? ⟨w.heap.size, 1, none⟩ = some (.slice (some ⟨b1, off1, none⟩) N cap) ∧ U.cell? ⟨wa.heap.size, 0, none⟩ = some (.int .i64 (P : Int)) ∧ U.cell? ⟨wa.heap.size, 1, none⟩ = some (.slice (some ⟨b1, off1, none⟩) P cap)) U))
    have HEN := Lib.hid (fun (U : World) (hU : Below W2.heap.size W2 U) => HENC.out U (below_in hW2 hU))
    gi_wp2_with fail
    have hS : (fun U : World => U.cell? ⟨w.heap.size, 0, none⟩ = some (.int .i64 (P : Int)) ∧ U.cell? ⟨w.heap.size, 1, none⟩ = some (.slice (some ⟨b1, off1, none⟩) N cap) ∧ U.cell? ⟨wa.heap.size, 0, none⟩ = some (.int .i64 (P : Int)) ∧ U.cell? ⟨wa.heap.size, 1, none⟩ = some (.slice (some ⟨b1, off1, none⟩) P cap)) W2.drew := HSS.out _ hB2.drew
    refine wpIn_mono (region_HF (Q := NoPanic _) (S := (fun U : World => U.cell? ⟨w.heap.size, 0, none⟩ = some (.int .i64 (P : Int)) ∧ U.cell? ⟨w.heap.size, 1, none⟩ = some (.slice (some ⟨b1, off1, none⟩) N cap) ∧ U.cell? ⟨wa.heap.size, 0, none⟩ = some (.int .i64 (P : Int)) ∧ U.cell? ⟨wa.heap.size, 1, none⟩ = some (.slice (some ⟨b1, off1, none⟩) P cap))) (by kernel_rfl) ?_) NoPanic.imp
    refine anyHF_take (i := 0) (d := 13) (v := .agg #[.int .i64 (P : Int), .slice (some ⟨b1, off1, none⟩) P cap]) (by kernel_rfl) rfl (by kernel_rfl) (by kernel_rfl) (by kernel_rfl) rfl (fun _ _ _ h => h) ⟨Or.inl ⟨by rfl, fun w hS => by obtain ⟨h0, h1, h2, h3⟩ := hS; go_simp⟩, fun _ => rfl⟩ hS ?_
    simp only [List.setIfInBounds_toArray, List.set_cons_zero, List.set_cons_succ]
    refine anyHF_take (i := 2) (d := 15) (v := .pointer (some ⟨w.heap.size, 1, none⟩)) (by kernel_rfl) rfl (by kernel_rfl) (by kernel_rfl) (by kernel_rfl) rfl (fun _ _ _ h => h) ⟨Or.inl ⟨by rfl, fun w hS => by obtain ⟨h0, h1, h2, h3⟩ := hS; go_simp⟩, fun _ => rfl⟩ hS ?_
    simp only [List.setIfInBounds_toArray, List.set_cons_zero, List.set_cons_succ]
    refine anyHF_take (i := 3) (d := 16) (v := .slice (some ⟨b1, off1, none⟩) N cap) (by kernel_rfl) rfl (by kernel_rfl) (by kernel_rfl) (by kernel_rfl) rfl (fun _ _ _ h => h) ⟨Or.inl ⟨by rfl, fun w hS => by obtain ⟨h0, h1, h2, h3⟩ := hS; go_simp⟩, fun _ => rfl⟩ hS ?_
    simp only [List.setIfInBounds_toArray, List.set_cons_zero, List.set_cons_succ]
    refine anyHF_take (i := 4) (d := 17) (v := .pointer (some ⟨w.heap.size, 0, none⟩)) (by kernel_rfl) rfl (by kernel_rfl) (by kernel_rfl) (by kernel_rfl) rfl (fun _ _ _ h => h) ⟨Or.inl ⟨by rfl, fun w hS => by obtain ⟨h0, h1, h2, h3⟩ := hS; go_simp⟩, fun _ => rfl⟩ hS ?_
    simp only [List.setIfInBounds_toArray, List.set_cons_zero, List.set_cons_succ]
    refine anyHF_take (i := 5) (d := 18) (v := .int .i64 (P : Int)) (by kernel_rfl) rfl (by kernel_rfl) (by kernel_rfl) (by kernel_rfl) rfl (fun _ _ _ h => h) ⟨Or.inl ⟨by rfl, fun w hS => by obtain ⟨h0, h1, h2, h3⟩ := hS; go_simp⟩, fun _ => rfl⟩ hS ?_
    simp only [List.setIfInBounds_toArray, List.set_cons_zero, List.set_cons_succ]
    refine anyHF_one (i := 1) (by kernel_rfl) rfl (by kernel_rfl) (by rfl) ?_
    gi_wp2_with fail
    refine ⟨trivial, (callsIn_wide.2 (HEN.out _ (hB2.drew))).mono ?_⟩
    rintro e wn ⟨u, rfl, hu, hBn⟩
    replace hBn := below_undrew hBn
    replace hB2 := below_in hB2 hBn
    obtain ⟨Au, cu, hue, _, _⟩ := id hu
    have hue2 : u = .slice Au 2 cu := by rw [hue, hen]
    subst hue2
    clear hue
    clear hS
    have hS : (fun U : World => U.cell? ⟨w.heap.size, 0, none⟩ = some (.int .i64 (P : Int)) ∧ U.cell? ⟨w.heap.size, 1, none⟩ = some (.slice (some ⟨b1, off1, none⟩) N cap) ∧ U.cell? ⟨wa.heap.size, 0, none⟩ = some (.int .i64 (P : Int)) ∧ U.cell? ⟨wa.heap.size, 1, none⟩ = some (.slice (some ⟨b1, off1, none⟩) P cap)) wn := HSS.out _ hB2
    gi_wp2
    try (refine ⟨hS, ?_⟩)
    refine anyHF_one (i := 6) (by kernel_rfl) rfl (by kernel_rfl) (by rfl) ?_
    gi_wp2_with fail
    refine ⟨trivial, (callsIn_wide.2 (HD.out _ (below_in hW2 hB2))).mono ?_⟩
    rintro e wn ⟨rfl, hBn⟩
    replace hB2 := below_in hB2 hBn
    replace hu := Cols.more (hu.below hBn) hBn.size
    clear hS
    have hS : (fun U : World => U.cell? ⟨w.heap.size, 0, none⟩ = some (.int .i64 (P : Int)) ∧ U.cell? ⟨w.heap.size, 1, none⟩ = some (.slice (some ⟨b1, off1, none⟩) N cap) ∧ U.cell? ⟨wa.heap.size, 0, none⟩ = some (.int .i64 (P : Int)) ∧ U.cell? ⟨wa.heap.size, 1, none⟩ = some (.slice (some ⟨b1, off1, none⟩) P cap)) wn := HSS.out _ hB2
    gi_wp2
    try (refine ⟨hS, ?_⟩)
    refine anyHF_take (i := 7) (d := 20) (v := .slice (some ⟨b1, off1 + P, none⟩) 2 (cap - P)) (by kernel_rfl) rfl (by kernel_rfl) (by kernel_rfl) (by kernel_rfl) rfl (fun _ _ _ h => h) ⟨Or.inl ⟨by rfl, fun w hS => by obtain ⟨h0, h1, h2, h3⟩ := hS; go_simp⟩, fun _ => rfl⟩ hS ?_
    simp only [List.setIfInBounds_toArray, List.set_cons_zero, List.set_cons_succ]
    refine anyHF_one (i := 8) (by kernel_rfl) rfl (by kernel_rfl) (by rfl) ?_
    gi_wp2_with fail
    refine ⟨trivial, (callsIn_wide.2 (HEQ.out _ _ (below_in hW2 hB2) hu)).mono ?_⟩
    rintro e wn ⟨rfl, rfl⟩
    gi_wp2
    try (refine ⟨hS, ?_⟩)
    refine anyHF_one (i := 9) (by kernel_rfl) rfl (by kernel_rfl) (by rfl) ?_
    gi_wp2
    refine anyHF_done (by kernel_rfl) ?_ _
    refine NoPanic.normal ?_
    gi_wp2
    exact ⟨.bool d, by simp [results, Tryz.results63, go_sem], rfl, below_in hBW (below_in hW2 hB2)⟩
  case cb =>
    have hBz : Below W1.heap.size W1 (W1.alloc (.cells #[.int .i64 0, .slice none 0 0] 65)) := below_one W1 _
    have bz : Blk (W1.alloc (.cells #[.int .i64 0, .slice none 0 0] 65)) W1.heap.size 65 #[.int .i64 0, .slice none 0 0] := Blk.new W1 _ _
    clear hS
    have hS : (fun U : World => U.cell? ⟨w.heap.size, 0, none⟩ = some (.int .i64 (P : Int)) ∧ U.cell? ⟨w.heap.size, 1, none⟩ = some (.slice (some ⟨b1, off1, none⟩) N cap)) (W1.alloc (.cells #[.int .i64 0, .slice none 0 0] 65)) := ⟨(hBz.cell (p := ⟨w.heap.size, 0, none⟩) b0.lt).trans c0, (hBz.cell (p := ⟨w.heap.size, 1, none⟩) b0.lt).trans c1⟩
    gi_wp2
    try (refine ⟨hS, ?_⟩)
    refine anyHF_one (i := 6) (by kernel_rfl) rfl (by kernel_rfl) (by rfl) ?_
    gi_wp2_with fail
    refine ⟨trivial, (callsIn_wide.2 (HD.out _ hBz.drew)).mono ?_⟩
    rintro e wa ⟨rfl, hBn⟩
    replace hBn := below_undrew hBn
    replace bz := bz.below hBn bz.lt
    have hBa := below_in hBz hBn
    clear hS
    have hS : (fun U : World => U.cell? ⟨w.heap.size, 0, none⟩ = some (.int .i64 (P : Int)) ∧ U.cell? ⟨w.heap.size, 1, none⟩ = some (.slice (some ⟨b1, off1, none⟩) N cap)) wa := ⟨(hBa.cell (p := ⟨w.heap.size, 0, none⟩) b0.lt).trans c0, (hBa.cell (p := ⟨w.heap.size, 1, none⟩) b0.lt).trans c1⟩
    gi_wp2
    try (refine ⟨hS, ?_⟩)
    refine anyHF_take (i := 7) (d := 11) (v := .slice (some ⟨b1, off1, none⟩) P cap) (by kernel_rfl) rfl (by kernel_rfl) (by kernel_rfl) (by kernel_rfl) rfl (fun _ _ _ h => h) ⟨Or.inl ⟨by rfl, fun w hS => by obtain ⟨h0, h1⟩ := hS; go_simp⟩, fun _ => rfl⟩ hS ?_
    simp only [List.setIfInBounds_toArray, List.set_cons_zero, List.set_cons_succ]
    refine anyHF_take (i := 8) (d := 12) (v := .agg #[.int .i64 (P : Int), .slice (some ⟨b1, off1, none⟩) P cap]) (by kernel_rfl) rfl (by kernel_rfl) (by kernel_rfl) (by kernel_rfl) rfl (fun _ _ _ h => h) ⟨Or.inl ⟨by rfl, fun w hS => by obtain ⟨h0, h1⟩ := hS; go_simp⟩, fun _ => rfl⟩ hS ?_
    simp only [List.setIfInBounds_toArray, List.set_cons_zero, List.set_cons_succ]
    refine anyHF_one (i := 10) (by kernel_rfl) rfl (by kernel_rfl) (by rfl) ?_
    have z0 : wa.cell? ⟨W1.heap.size, 0, none⟩ = some (.int .i64 0) := bz.cell 0
    have z1 : wa.cell? ⟨W1.heap.size, 1, none⟩ = some (.slice none 0 0) := bz.cell 1
    have zf0 : wa.frozen? ⟨W1.heap.size, 0, none⟩ = false := bz.frozen 0
    have zf1 : wa.frozen? ⟨W1.heap.size, 1, none⟩ = false := bz.frozen 1
    clear hS
    gi_wp2
    have hX := hBa.setCell (p := ⟨W1.heap.size, 0, none⟩) (Nat.le_refl _) (.int .i64 (P : Int))
    have hW2 := hX.setCell (p := ⟨W1.heap.size, 1, none⟩) (Nat.le_refl _) (.slice (some ⟨b1, off1, none⟩) P cap)
    replace bz : Blk ((wa.setCell ⟨W1.heap.size, 0, none⟩ (.int .i64 (P : Int))).setCell ⟨W1.heap.size, 1, none⟩ (.slice (some ⟨b1, off1, none⟩) P cap)) W1.heap.size 65 #[.int .i64 (P : Int), .slice (some ⟨b1, off1, none⟩) P cap] := (bz.set_ 0 (.int .i64 (P : Int))).set_ 1 (.slice (some ⟨b1, off1, none⟩) P cap)
    have hS0 := (hX.cell (p := ⟨w.heap.size, 0, none⟩) b0.lt).trans c0
    clear z0 z1 zf0 zf1 hX
    obtain ⟨W2, hWW⟩ : ∃ W2, ((wa.setCell ⟨W1.heap.size, 0, none⟩ (.int .i64 (P : Int))).setCell ⟨W1.heap.size, 1, none⟩ (.slice (some ⟨b1, off1, none⟩) P cap)) = W2 := ⟨_, rfl⟩
    rw [hWW]
    rw [hWW] at bz hW2
    clear hWW
    have hS : (fun U : World => U.cell? ⟨w.heap.size, 0, none⟩ = some (.int .i64 (P : Int)) ∧ U.cell? ⟨w.heap.size, 1, none⟩ = some (.slice (some ⟨b1, off1, none⟩) N cap)) W2 := ⟨(hW2.cell (p := ⟨w.heap.size, 0, none⟩) b0.lt).trans c0, (hW2.cell (p := ⟨w.heap.size, 1, none⟩) b0.lt).trans c1⟩
    refine ⟨⟨hS0, hS.2⟩, ?_⟩
    clear hS0
    refine anyHF_done (by kernel_rfl) ?_ _
    refine NoPanic.normal ?_
    gi_wp2_with fail
    have hB2 : Below W2.heap.size W2 W2 := Below.refl _ _
    have HSS := Lib.hid (fun (U : World) (hU : Below W2.heap.size W2 U) => (⟨((below_in hW2 hU).cell (p := ⟨w.heap.size, 0, none⟩) b0.lt).trans c0, ((below_in hW2 hU).cell (p := ⟨w.heap.size, 1, none⟩) b0.lt).trans c1, (hU.cell (p := ⟨W1.heap.size, 0, none⟩) bz.lt).trans (bz.cell 0), (hU.cell (p := ⟨W1.heap.size, 1, none⟩) bz.lt).trans (bz.cell 1)⟩ : (fun U : World => U.cell? ⟨w.heap.size, 0, none⟩ = some (.int .i64 (P : Int)) ∧ U.cell? ⟨w.heap.size, 1, none⟩ = some (.slice (some ⟨b1, off1, none⟩) N cap) ∧ U.cell? ⟨W1.heap.size, 0, none⟩ = some (.int .i64 (P : Int)) ∧ U.cell? ⟨W1.heap.size, 1, none⟩ = some (.slice (some ⟨b1, off1, none⟩) P cap)) U))
    have HEN := Lib.hid (fun (U : World) (hU : Below W2.heap.size W2 U) => HENC.out U (below_in hW2 hU))
    gi_wp2_with fail
    have hS : (fun U : World => U.cell? ⟨w.heap.size, 0, none⟩ = some (.int .i64 (P : Int)) ∧ U.cell? ⟨w.heap.size, 1, none⟩ = some (.slice (some ⟨b1, off1, none⟩) N cap) ∧ U.cell? ⟨W1.heap.size, 0, none⟩ = some (.int .i64 (P : Int)) ∧ U.cell? ⟨W1.heap.size, 1, none⟩ = some (.slice (some ⟨b1, off1, none⟩) P cap)) W2.drew := HSS.out _ hB2.drew
    refine wpIn_mono (region_HF (Q := NoPanic _) (S := (fun U : World => U.cell? ⟨w.heap.size, 0, none⟩ = some (.int .i64 (P : Int)) ∧ U.cell? ⟨w.heap.size, 1, none⟩ = some (.slice (some ⟨b1, off1, none⟩) N cap) ∧ U.cell? ⟨W1.heap.size, 0, none⟩ = some (.int .i64 (P : Int)) ∧ U.cell? ⟨W1.heap.size, 1, none⟩ = some (.slice (some ⟨b1, off1, none⟩) P cap))) (by kernel_rfl) ?_) NoPanic.imp
    refine anyHF_take (i := 0) (d := 13) (v := .agg #[.int .i64 (P : Int), .slice (some ⟨b1, off1, none⟩) P cap]) (by kernel_rfl) rfl (by kernel_rfl) (by kernel_rfl) (by kernel_rfl) rfl (fun _ _ _ h => h) ⟨Or.inl ⟨by rfl, fun w hS => by obtain ⟨h0, h1, h2, h3⟩ := hS; go_simp⟩, fun _ => rfl⟩ hS ?_
    simp only [List.setIfInBounds_toArray, List.set_cons_zero, List.set_cons_succ]
    refine anyHF_take (i := 2) (d := 15) (v := .pointer (some ⟨w.heap.size, 1, none⟩)) (by kernel_rfl) rfl (by kernel_rfl) (by kernel_rfl) (by kernel_rfl) rfl (fun _ _ _ h => h) ⟨Or.inl ⟨by rfl, fun w hS => by obtain ⟨h0, h1, h2, h3⟩ := hS; go_simp⟩, fun _ => rfl⟩ hS ?_
    simp only [List.setIfInBounds_toArray, List.set_cons_zero, List.set_cons_succ]
    refine anyHF_take (i := 3) (d := 16) (v := .slice (some ⟨b1, off1, none⟩) N cap) (by kernel_rfl) rfl (by kernel_rfl) (by kernel_rfl) (by kernel_rfl) rfl (fun _ _ _ h => h) ⟨Or.inl ⟨by rfl, fun w hS => by obtain ⟨h0, h1, h2, h3⟩ := hS; go_simp⟩, fun _ => rfl⟩ hS ?_
    simp only [List.setIfInBounds_toArray, List.set_cons_zero, List.set_cons_succ]
    refine anyHF_take (i := 4) (d := 17) (v := .pointer (some ⟨w.heap.size, 0, none⟩)) (by kernel_rfl) rfl (by kernel_rfl) (by kernel_rfl) (by kernel_rfl) rfl (fun _ _ _ h => h) ⟨Or.inl ⟨by rfl, fun w hS => by obtain ⟨h0, h1, h2, h3⟩ := hS; go_simp⟩, fun _ => rfl⟩ hS ?_
    simp only [List.setIfInBounds_toArray, List.set_cons_zero, List.set_cons_succ]
    refine anyHF_take (i := 5) (d := 18) (v := .int .i64 (P : Int)) (by kernel_rfl) rfl (by kernel_rfl) (by kernel_rfl) (by kernel_rfl) rfl (fun _ _ _ h => h) ⟨Or.inl ⟨by rfl, fun w hS => by obtain ⟨h0, h1, h2, h3⟩ := hS; go_simp⟩, fun _ => rfl⟩ hS ?_
    simp only [List.setIfInBounds_toArray, List.set_cons_zero, List.set_cons_succ]
    refine anyHF_one (i := 1) (by kernel_rfl) rfl (by kernel_rfl) (by rfl) ?_
    gi_wp2_with fail
    refine ⟨trivial, (callsIn_wide.2 (HEN.out _ (hB2.drew))).mono ?_⟩
    rintro e wn ⟨u, rfl, hu, hBn⟩
    replace hBn := below_undrew hBn
    replace hB2 := below_in hB2 hBn
    obtain ⟨Au, cu, hue, _, _⟩ := id hu
    have hue2 : u = .slice Au 2 cu := by rw [hue, hen]
    subst hue2
    clear hue
    clear hS
    have hS : (fun U : World => U.cell? ⟨w.heap.size, 0, none⟩ = some (.int .i64 (P : Int)) ∧ U.cell? ⟨w.heap.size, 1, none⟩ = some (.slice (some ⟨b1, off1, none⟩) N cap) ∧ U.cell? ⟨W1.heap.size, 0, none⟩ = some (.int .i64 (P : Int)) ∧ U.cell? ⟨W1.heap.size, 1, none⟩ = some (.slice (some ⟨b1, off1, none⟩) P cap)) wn := HSS.out _ hB2
    gi_wp2
    try (refine ⟨hS, ?_⟩)
    refine anyHF_one (i := 6) (by kernel_rfl) rfl (by kernel_rfl) (by rfl) ?_
    gi_wp2_with fail
    refine ⟨trivial, (callsIn_wide.2 (HD.out _ (below_in hW2 hB2))).mono ?_⟩
    rintro e wn ⟨rfl, hBn⟩
    replace hB2 := below_in hB2 hBn
    replace hu := Cols.more (hu.below hBn) hBn.size
    clear hS
    have hS : (fun U : World => U.cell? ⟨w.heap.size, 0, none⟩ = some (.int .i64 (P : Int)) ∧ U.cell? ⟨w.heap.size, 1, none⟩ = some (.slice (some ⟨b1, off1, none⟩) N cap) ∧ U.cell? ⟨W1.heap.size, 0, none⟩ = some (.int .i64 (P : Int)) ∧ U.cell? ⟨W1.heap.size, 1, none⟩ = some (.slice (some ⟨b1, off1, none⟩) P cap)) wn := HSS.out _ hB2
    gi_wp2
    try (refine ⟨hS, ?_⟩)
    refine anyHF_take (i := 7) (d := 20) (v := .slice (some ⟨b1, off1 + P, none⟩) 2 (cap - P)) (by kernel_rfl) rfl (by kernel_rfl) (by kernel_rfl) (by kernel_rfl) rfl (fun _ _ _ h => h) ⟨Or.inl ⟨by rfl, fun w hS => by obtain ⟨h0, h1, h2, h3⟩ := hS; go_simp⟩, fun _ => rfl⟩ hS ?_
    simp only [List.setIfInBounds_toArray, List.set_cons_zero, List.set_cons_succ]
    refine anyHF_one (i := 8) (by kernel_rfl) rfl (by kernel_rfl) (by rfl) ?_
    gi_wp2_with fail
    refine ⟨trivial, (callsIn_wide.2 (HEQ.out _ _ (below_in hW2 hB2) hu)).mono ?_⟩
    rintro e wn ⟨rfl, rfl⟩
    gi_wp2
    try (refine ⟨hS, ?_⟩)
    refine anyHF_one (i := 9) (by kernel_rfl) rfl (by kernel_rfl) (by rfl) ?_
    gi_wp2
    refine anyHF_done (by kernel_rfl) ?_ _
    refine NoPanic.normal ?_
    gi_wp2
    exact ⟨.bool d, by simp [results, Tryz.results63, go_sem], rfl, below_in hBW (below_in hW2 hB2)⟩
end Go.Proofs.YtggdlklkjnbbjaaGreatDoor.E

namespace Go.Proofs.YtggdlklkjnbbjaaGreatDoor.E
open Go.RowKit Go.Shelf Go.Proofs.YtggdlklkjnbbjaaGreatDoor.C
set_option linter.unusedSimpArgs false
set_option linter.unusedVariables false
theorem enter_check1 : ∀ args W, (callFunc 61 args).run Tryz.prog W = .ok (.enter 61 args) W := enters_of Tryz.func61 (by kernel_rfl) rfl
set_option maxRecDepth 100000 in
set_option maxHeartbeats 1000000 in
theorem check_yes {B : Nat} (p : Int) (v : Value) (css : List (List (List UInt8))) (hok : AllOk p css) (w : World) (hL : Laid w) (hB : B ≤ w.heap.size) (hC : Cols B w v css) :
    Calls Tryz.prog 22 #[.int .i64 p, v] w fun e w' => e = .returned (.tuple #[.bool (decide (encOf p (css.take p.toNat) = css.drop p.toNat)), .int .i64 0]) ∧ Below w.heap.size w w' := by
  have hpp := prm_bounds hok.1.2
  have hlen : css.length ≤ 1000 := by have := hok.2.1; omega
  obtain ⟨A, cap, rfl, _, _⟩ := id hC
  obtain ⟨W2, hW2⟩ : ∃ W2, (w.alloc (.cells #[.int .i64 p] 3)).alloc (.cells #[.slice A css.length cap] 22) = W2 := ⟨_, rfl⟩
  have b0 : Blk W2 w.heap.size 3 #[.int .i64 p] := by rw [← hW2]; exact (Blk.new w _ _).alloc _
  have b1 : Blk W2 (w.heap.size + 1) 22 #[.slice A css.length cap] := by rw [← hW2]; exact Blk.second w _ _ _
  have hBW : Below w.heap.size w W2 := by rw [← hW2]; exact below_two w _ _
  have hL2 := hL.next hBW
  have HA := Lib.hid (ans_T_yes 61 #[.pointer (some ⟨w.heap.size, 0, none⟩), .pointer (some ⟨w.heap.size + 1, 0, none⟩)] W2 (fun u W => u = .bool (decide (encOf p (css.take p.toNat) = css.drop p.toNat))) (enter_check1 _) (fun U hU _ => by
    have hLU := hL2.next hU
    have hBU := below_in hBW hU
    have hCU := hC.below (hBU.mono hB)
    have HQ := Lib.hid (askedA_yes (B := B) p (.slice A css.length cap) css U hLU (Nat.le_trans hB hBU.size) hCU hlen hok)
    have HE := Lib.hid (fun (V : World) (hV : Below U.heap.size U V) => areEncoded_any (B := B) p (.slice A css.length cap) css hok V (hLU.next hV) (Nat.le_trans hB (Nat.le_trans hBU.size hV.size)) (hCU.below (hV.mono (Nat.le_trans hB hBU.size))))
    have c0 := (b0.below hU b0.lt).one
    have c1 := (b1.below hU b1.lt).one
    clear hC hCU hok hlen b0 b1 hW2 hL hL2 hLU
    generalize decide (encOf p (css.take p.toNat) = css.drop p.toNat) = dd at *
    generalize css.length = n at *
    go_enter Tryz.func61, Tryz.ntmps61
    go_wp2_with (first
      | (go_at_call 41; refine HQ.out.mono ?_; rintro e w1 ⟨rfl, hB1⟩)
      | (go_at_call 63; refine (HE.out _ hB1).mono ?_; rintro e w2 ⟨rfl, hB2⟩))
    go_ret
    exact ⟨_, rfl, rfl, below_in hB1 hB2⟩))
  clear hC b0 b1 hL2 hok hlen
  generalize decide (encOf p (css.take p.toNat) = css.drop p.toNat) = dd at *
  generalize css.length = n at *
  go_enter Tryz.func22, Tryz.ntmps22
  have hmf : ∀ (fn : Fn) (first cap : Array Value) (w : World), (Instr.makeFunc fn first cap).run Tryz.prog w = .ok (.func fn first cap) w := fun _ _ _ _ => rfl
  go_wp2_with (go_at_call 60; refine HA.out.mono ?_; rintro e w1 ⟨u, W, rfl, rfl, bE, rfl, hB1⟩)
  go_ret2
  exact ⟨rfl, below_in hBW hB1⟩
set_option maxRecDepth 100000 in
set_option maxHeartbeats 1000000 in
theorem check_no {B : Nat} (p : Int) (v : Value) (css : List (List (List UInt8))) (w : World) (hL : Laid w) (hB : B ≤ w.heap.size) (hC : Cols B w v css) (hlen : css.length ≤ 1000) (hcl : ∀ j, j < css.length → (css[j]?.getD []).length ≤ 1000) (hno : ¬ AllOk p css) :
    Calls Tryz.prog 22 #[.int .i64 p, v] w fun e w' => e = .returned (.tuple #[.bool false, .int .i64 2]) ∧ Below w.heap.size w w' := by
  obtain ⟨A, cap, rfl, _, _⟩ := id hC
  obtain ⟨W2, hW2⟩ : ∃ W2, (w.alloc (.cells #[.int .i64 p] 3)).alloc (.cells #[.slice A css.length cap] 22) = W2 := ⟨_, rfl⟩
  have b0 : Blk W2 w.heap.size 3 #[.int .i64 p] := by rw [← hW2]; exact (Blk.new w _ _).alloc _
  have b1 : Blk W2 (w.heap.size + 1) 22 #[.slice A css.length cap] := by rw [← hW2]; exact Blk.second w _ _ _
  have hBW : Below w.heap.size w W2 := by rw [← hW2]; exact below_two w _ _
  have hL2 := hL.next hBW
  have HA := Lib.hid (ans_T_no 61 #[.pointer (some ⟨w.heap.size, 0, none⟩), .pointer (some ⟨w.heap.size + 1, 0, none⟩)] W2 (enter_check1 _) (fun U hU _ => by
    have hBU := below_in hBW hU
    have HQ := Lib.hid (askedA_no (B := B) p (.slice A css.length cap) css U (hL2.next hU) (Nat.le_trans hB hBU.size) (hC.below (hBU.mono hB)) hlen hcl hno)
    have c0 := (b0.below hU b0.lt).one
    have c1 := (b1.below hU b1.lt).one
    clear hC b0 b1 hW2 hL hL2 hno hcl hlen
    generalize css.length = n at *
    go_enter Tryz.func61, Tryz.ntmps61
    go_wp2_with (go_at_call 41; refine HQ.out.mono ?_; rintro e w1 ⟨rfl, hB1⟩)
    exact ⟨rfl, rfl, hB1⟩))
  clear hC b0 b1 hL2 hno hcl hlen
  generalize css.length = n at *
  go_enter Tryz.func22, Tryz.ntmps22
  have hmf : ∀ (fn : Fn) (first cap : Array Value) (w : World), (Instr.makeFunc fn first cap).run Tryz.prog w = .ok (.func fn first cap) w := fun _ _ _ _ => rfl
  go_wp2_with (go_at_call 60; refine HA.out.mono ?_; rintro e w1 ⟨rfl, hB1⟩)
  go_ret2
  exact ⟨rfl, below_in hBW hB1⟩
end Go.Proofs.YtggdlklkjnbbjaaGreatDoor.E

namespace Go.Proofs.YtggdlklkjnbbjaaGreatDoor.E
open Go.RowKit Go.Shelf Go.Proofs.YtggdlklkjnbbjaaGreatDoor.C
set_option linter.unusedSimpArgs false
set_option linter.unusedVariables false

def putCol (xs ys : List (List UInt8)) : List (List UInt8) := (List.range xs.length).map fun k => xorB (xs[k]?.getD []) (ys[k]?.getD [])
def putOf (a b : List (List (List UInt8))) : List (List (List UInt8)) := (List.range a.length).map fun i => putCol (a[i]?.getD []) (b[i]?.getD [])
theorem putCol_next (xs ys : List (List UInt8)) {k : Nat} (hk : k < xs.length) : (putCol xs ys).take (k + 1) = (putCol xs ys).take k ++ [xorB (xs[k]?.getD []) (ys[k]?.getD [])] := by
  unfold putCol
  rw [map_next _ 0 _ (by rw [List.length_range]; exact hk), List.getElem?_range hk]
  rfl
theorem putOf_next (a b : List (List (List UInt8))) {k : Nat} (hk : k < a.length) : (putOf a b).take (k + 1) = (putOf a b).take k ++ [putCol (a[k]?.getD []) (b[k]?.getD [])] := by
  unfold putOf
  rw [map_next _ 0 _ (by rw [List.length_range]; exact hk), List.getElem?_range hk]
  rfl
section
variable {Q : Nat → Prop} {base : Nat} {v : Value}
theorem opIn_pushM {F : Fence} {nF : Nat} {T : TypeId} (w : World) {o : Oper} {a : Act} {K : Act → World → Prop} {QQ : Exit → Act → World → Prop} (s x : Operand)
    (ho : o.op = .call { callee := .builtin .append, args := #[s, x], argTypes := #[T, T] }) (hT : Tryz.prog.underlying T = some (.slice 25)) (ls : List (List UInt8)) (hs : a.eval s = v) (h : RowM Q w base v ls)
    (g : Nat) (tg : TypeId) (u : Value) (l : List UInt8) (hx : a.eval x = .slice (some ⟨g, 0, none⟩) 1 1) (hg : Blk w g tg #[u]) (hu : BytesP (fun b => b < w.heap.size ∧ some b ≠ v.ownBlock ∧ Q b) w u l) (hlen : ls.length ≤ 100000) (hbase : base ≤ w.heap.size)
    (hK : ∀ v' w', RowM Q w' base v' (ls ++ [l]) → w.grownBy w' v.ownBlock → (v'.ownBlock = v.ownBlock ∨ v'.ownBlock = some w.heap.size) → K (a.put o.dst v') w') : Oper.wpIn F nF Tryz.prog o a w K QQ := by
  obtain ⟨i, hi, hz0, hz1, hz2⟩ := info_parts Tryz.infoSlcE
  obtain ⟨v', w', hrun, h1, h2, h3⟩ := RowG.push i hi hz0 hz1 hz2 T o.type hT h g tg u l hg hu hlen hbase
  unfold Oper.wpIn
  refine ⟨by simp [Oper.about, ho, resolve, Target.leads, Sem.run_pure], ?_⟩
  rw [Oper.semAt_plain F _ _ (by rw [ho]; intro c hc'; cases hc')]
  simp [execOp, ho, resolve, invoke, builtin, hs, hx, hrun, Result.andThen, Oper.uponIn]
  exact hK v' w' h1 h2 h3
end
set_option maxRecDepth 100000 in
set_option maxHeartbeats 1000000 in
theorem puts_any {B : Nat} (v1 v2 : Value) (a b : List (List (List UInt8))) (w : World) (hB : B ≤ w.heap.size) (hC : Cols B w v1 a) (hD : Cols B w v2 b) (hl1 : a.length ≤ 1000) (hlb : a.length ≤ b.length)
    (hall : ∀ j, j < a.length → (a[j]?.getD []).length ≤ 1000 ∧ (a[j]?.getD []).length ≤ (b[j]?.getD []).length ∧ ∀ i, i < (a[j]?.getD []).length → ((a[j]?.getD [])[i]?.getD []).length = ((b[j]?.getD [])[i]?.getD []).length ∧ ((a[j]?.getD [])[i]?.getD []).length ≤ 1000) :
    Calls Tryz.prog 23 #[v1, v2] w fun e w' => ∃ u, e = .returned u ∧ Cols w'.heap.size w' u (putOf a b) ∧ Below w.heap.size w w' := by
  obtain ⟨A, cap, rfl, _, _⟩ := id hC
  obtain ⟨A', cap', rfl, _, _⟩ := id hD
  have HALL := Lib.hid hall
  clear hall
  obtain ⟨n0, hn0⟩ : ∃ n0, a.length = n0 := ⟨_, rfl⟩
  obtain ⟨N0, hN0⟩ : ∃ N0, b.length = N0 := ⟨_, rfl⟩
  have HN0 := Lib.hid hn0
  have HNB := Lib.hid hN0
  have HCC := Lib.hid hC
  have HDD := Lib.hid hD
  have HPN : Hid (∀ k, k < n0 → (putOf a b).take (k + 1) = (putOf a b).take k ++ [putCol (a[k]?.getD []) (b[k]?.getD [])]) := fun k hk => putOf_next a b (by rw [hn0]; exact hk)
  have HPL0 : Hid ((putOf a b).length = n0) := by unfold Hid putOf; rw [List.length_map, List.length_range, hn0]
  rw [hn0, hN0] at hlb
  rw [hn0] at hl1 ⊢
  rw [hN0]
  clear hn0 hN0 hC hD
  go_enter Tryz.func23, Tryz.ntmps23
  go_wp2
  go_loopw [5, 6] (fun v i wr => ∃ m : Nat, m ≤ n0 ∧ i = .int .i64 m ∧ RowC (fun _ => True) wr w.heap.size v ((putOf a b).take m) ∧ Below w.heap.size w wr) (fun _ i _ => n0 - (intOf i).toNat)
  case atStart => exact ⟨0, Nat.zero_le _, rfl, RowG.nil _ _ _ _ _ _, Below.refl _ _⟩
  case round =>
    obtain ⟨m, hm, rfl, hrow, hBr⟩ := hrel
    by_cases hlt : m < n0
    · have hdec : decide ((m : Int) < (n0 : Int)) = true := by simp; omega
      obtain ⟨b1, off1, cq1, e1, hcq, hb1, hrow1⟩ := HCC.out.at_ (by have := HN0.out; omega)
      obtain ⟨d1, off2, cq2, e2, hcq2, hd1, hrowd⟩ := HDD.out.at_ (by have := HNB.out; omega)
      rw [HN0.out] at e1 hcq
      rw [HNB.out] at e2 hcq2
      injection e1 with e1 _ e1c
      subst e1 e1c
      injection e2 with e2 _ e2c
      subst e2 e2c
      obtain ⟨u1, hc1, hm1⟩ := hrow1 m (by have := HN0.out; omega)
      obtain ⟨ud, hcd, hmd⟩ := hrowd m (by have := HNB.out; omega)
      obtain ⟨A3, cap3, rfl, _, _⟩ := id hm1
      obtain ⟨A4, cap4, rfl, _, _⟩ := id hmd
      obtain ⟨hcl, hcb, hck⟩ := HALL.out m (by have := HN0.out; omega)
      have HNX := Lib.hid (HPN.out m hlt)
      have HPL : Hid (((putOf a b).take m).length ≤ 1000) := by unfold Hid; rw [List.length_take]; omega
      have HC1 := Lib.hid hc1
      have HM1 := Lib.hid hm1
      have HCD := Lib.hid hcd
      have HMD := Lib.hid hmd
      have HCK := Lib.hid hck
      clear hrow1 hc1 hm1 hck hcd hmd hrowd
      generalize a[m]?.getD [] = xs at *
      generalize b[m]?.getD [] = ys at *
      generalize (putOf a b).take m = pre at *
      obtain ⟨n1, hn1⟩ : ∃ n1, xs.length = n1 := ⟨_, rfl⟩
      obtain ⟨N1, hN1⟩ : ∃ N1, ys.length = N1 := ⟨_, rfl⟩
      have HN1 := Lib.hid hn1
      have HNY := Lib.hid hN1
      rw [hn1, hN1] at hcb
      rw [hn1] at hcl HC1 HM1
      rw [hN1] at HCD HMD
      have hc1 := (hBr.cell (p := ⟨b1, off1 + m, none⟩) (Nat.lt_of_lt_of_le hb1 hB)).trans HC1.out
      have hcd := (hBr.cell (p := ⟨d1, off2 + m, none⟩) (Nat.lt_of_lt_of_le hd1 hB)).trans HCD.out
      clear hn1 hN1
      have i1 : (0 : Int) ≤ (m : Int) := by omega
      have i2 : (m : Int) < (n0 : Int) := by omega
      have i3 : (m : Int) < (N0 : Int) := by omega
      have HROW := Lib.hid hrow
      have hvlt := fun b e => RowG.own_lt hrow b e
      have HVLT := Lib.hid hvlt
      have HVLE := Lib.hid (fun b e => RowG.own_le hrow b e)
      obtain ⟨wq, hwq⟩ : ∃ x, x = wr := ⟨_, rfl⟩
      subst hwq
      clear hrow hvlt
      go_wp2
      go_loopw [7, 8] (fun v2 i wr => ∃ r : Nat, r ≤ n1 ∧ i = .int .i64 r ∧ RowM (fun b => some b ≠ u5.ownBlock) wr wq.heap.size v2 ((putCol xs ys).take r) ∧ Below wq.heap.size wq wr) (fun _ i _ => n1 - (intOf i).toNat)
      case atStart => exact ⟨0, Nat.zero_le _, rfl, RowG.nil _ _ _ _ _ _, Below.refl _ _⟩
      case round =>
        obtain ⟨r, hr, rfl, hrow2, hBs⟩ := hrel
        have hBws := below_in hBr hBs
        have hc2 := (hBs.cell (p := ⟨b1, off1 + m, none⟩) (Nat.lt_of_lt_of_le hb1 (Nat.le_trans hB hBr.size))).trans hc1
        by_cases hlt2 : r < n1
        · have hdec2 : decide ((r : Int) < (n1 : Int)) = true := by simp; omega
          obtain ⟨b2, off3, rfl, hb2, hrow3⟩ := many_at (by rw [HN1.out]; exact HM1.out : Many B w (.slice A3 xs.length cap3) xs) (by have := HN1.out; omega)
          obtain ⟨d2, off4, rfl, hd2, hrow4⟩ := many_at (by rw [HNY.out]; exact HMD.out : Many B w (.slice A4 ys.length cap4) ys) (by have := HNY.out; omega)
          obtain ⟨Aa, ca, hc3, hby⟩ := hrow3 r (by have := HN1.out; omega)
          obtain ⟨Ab, cb, hc4, hbyd⟩ := hrow4 r (by have := HNY.out; omega)
          obtain ⟨hll, hln⟩ := HCK.out r (by have := HN1.out; omega)
          have HNX2 := Lib.hid (putCol_next xs ys (k := r) (by have := HN1.out; omega))
          have HPL2 : Hid (((putCol xs ys).take r).length ≤ 1000) := by unfold Hid; rw [List.length_take]; omega
          clear hrow3 hrow4
          have HXL := Lib.hid hll
          have HXN := Lib.hid hln
          generalize xs[r]?.getD [] = xa1 at *
          generalize ys[r]?.getD [] = xb1 at *
          generalize (putCol xs ys).take r = pre2 at *
          obtain ⟨na, hna⟩ : ∃ na, xa1.length = na := ⟨_, rfl⟩
          obtain ⟨nb, hnb⟩ : ∃ nb, xb1.length = nb := ⟨_, rfl⟩
          have HLX : Hid ((xorB xa1 xb1).length = na) := by unfold Hid; rw [xorB_len]; exact hna
          rw [hna] at hc3 hby
          rw [hnb] at hc4 hbyd
          clear hna hnb hll hln
          have HXA := Lib.hid (fun (V : World) (hV : Below wq.heap.size wq V) => hby.below ((below_in hBr hV).mono hB))
          have HXB := Lib.hid (fun (V : World) (hV : Below wq.heap.size wq V) => hbyd.below ((below_in hBr hV).mono hB))
          have hbwq := hBr.size
          have HS4 := Lib.hid (fun (V : World) (hV : Below wq.heap.size wq V) => (⟨(hV.cell (p := ⟨b1, off1 + m, none⟩) (Nat.lt_of_lt_of_le hb1 (Nat.le_trans hB hbwq))).trans hc1, ((below_in hBr hV).cell (p := ⟨b2, off3 + r, none⟩) (Nat.lt_of_lt_of_le hb2 hB)).trans hc3, (hV.cell (p := ⟨d1, off2 + m, none⟩) (Nat.lt_of_lt_of_le hd1 (Nat.le_trans hB hbwq))).trans hcd, ((below_in hBr hV).cell (p := ⟨d2, off4 + r, none⟩) (Nat.lt_of_lt_of_le hd2 hB)).trans hc4⟩ : (fun V : World => V.cell? ⟨b1, off1 + m, none⟩ = some (.slice (some ⟨b2, off3, none⟩) n1 cap3) ∧ V.cell? ⟨b2, off3 + r, none⟩ = some (.slice Aa na ca) ∧ V.cell? ⟨d1, off2 + m, none⟩ = some (.slice (some ⟨d2, off4, none⟩) N1 cap4) ∧ V.cell? ⟨d2, off4 + r, none⟩ = some (.slice Ab nb cb)) V))
          have HSS := HS4
          have j1 : (0 : Int) ≤ (r : Int) := by omega
          have j2 : (r : Int) < (n1 : Int) := by omega
          have j3 : (r : Int) < (N1 : Int) := by omega
          have HVLT2 := Lib.hid (fun b e => RowG.own_lt hrow2 b e)
          have HVLE2 := Lib.hid (fun b e => RowG.own_le hrow2 b e)
          clear hby hbyd hc3 hc4
          go_wp2_with fail
          have hS : (fun V : World => V.cell? ⟨b1, off1 + m, none⟩ = some (.slice (some ⟨b2, off3, none⟩) n1 cap3) ∧ V.cell? ⟨b2, off3 + r, none⟩ = some (.slice Aa na ca) ∧ V.cell? ⟨d1, off2 + m, none⟩ = some (.slice (some ⟨d2, off4, none⟩) N1 cap4) ∧ V.cell? ⟨d2, off4 + r, none⟩ = some (.slice Ab nb cb)) wr.drew := HS4.out _ hBs.drew
          refine (wpIn_wide (n := 12)).1 (wpIn_mono (region_HF (Q := NoPanic _) (S := (fun V : World => V.cell? ⟨b1, off1 + m, none⟩ = some (.slice (some ⟨b2, off3, none⟩) n1 cap3) ∧ V.cell? ⟨b2, off3 + r, none⟩ = some (.slice Aa na ca) ∧ V.cell? ⟨d1, off2 + m, none⟩ = some (.slice (some ⟨d2, off4, none⟩) N1 cap4) ∧ V.cell? ⟨d2, off4 + r, none⟩ = some (.slice Ab nb cb))) (by kernel_rfl) ?_) NoPanic.imp)
          refine anyHF_take (i := 0) (d := 24) (v := u7) (by kernel_rfl) rfl (by kernel_rfl) (by kernel_rfl) (by kernel_rfl) rfl (fun _ _ _ h => h) ⟨Or.inl ⟨by rfl, fun w hS => by obtain ⟨h0, h1, h2, h3⟩ := hS; go_simp⟩, fun _ => rfl⟩ hS ?_
          simp only [List.setIfInBounds_toArray, List.set_cons_zero, List.set_cons_succ]
          refine anyHF_take (i := 1) (d := 25) (v := .slice (some ⟨b1, off1, none⟩) n0 cap) (by kernel_rfl) rfl (by kernel_rfl) (by kernel_rfl) (by kernel_rfl) rfl (fun _ _ _ h => h) ⟨Or.inl ⟨by rfl, fun w hS => by obtain ⟨h0, h1, h2, h3⟩ := hS; go_simp⟩, fun _ => rfl⟩ hS ?_
          simp only [List.setIfInBounds_toArray, List.set_cons_zero, List.set_cons_succ]
          refine anyHF_take (i := 2) (d := 26) (v := .int .i64 (m : Int)) (by kernel_rfl) rfl (by kernel_rfl) (by kernel_rfl) (by kernel_rfl) rfl (fun _ _ _ h => h) ⟨Or.inl ⟨by rfl, fun w hS => by obtain ⟨h0, h1, h2, h3⟩ := hS; go_simp⟩, fun _ => rfl⟩ hS ?_
          simp only [List.setIfInBounds_toArray, List.set_cons_zero, List.set_cons_succ]
          refine anyHF_take (i := 3) (d := 27) (v := .pointer (some ⟨b1, off1 + m, none⟩)) (by kernel_rfl) rfl (by kernel_rfl) (by kernel_rfl) (by kernel_rfl) rfl (fun _ _ _ h => h) ⟨Or.inl ⟨by rfl, fun w hS => by obtain ⟨h0, h1, h2, h3⟩ := hS; go_simp⟩, fun _ => rfl⟩ hS ?_
          simp only [List.setIfInBounds_toArray, List.set_cons_zero, List.set_cons_succ]
          refine anyHF_take (i := 4) (d := 28) (v := .slice (some ⟨b2, off3, none⟩) n1 cap3) (by kernel_rfl) rfl (by kernel_rfl) (by kernel_rfl) (by kernel_rfl) rfl (fun _ _ _ h => h) ⟨Or.inl ⟨by rfl, fun w hS => by obtain ⟨h0, h1, h2, h3⟩ := hS; go_simp⟩, fun _ => rfl⟩ hS ?_
          simp only [List.setIfInBounds_toArray, List.set_cons_zero, List.set_cons_succ]
          refine anyHF_take (i := 5) (d := 29) (v := .int .i64 (r : Int)) (by kernel_rfl) rfl (by kernel_rfl) (by kernel_rfl) (by kernel_rfl) rfl (fun _ _ _ h => h) ⟨Or.inl ⟨by rfl, fun w hS => by obtain ⟨h0, h1, h2, h3⟩ := hS; go_simp⟩, fun _ => rfl⟩ hS ?_
          simp only [List.setIfInBounds_toArray, List.set_cons_zero, List.set_cons_succ]
          refine anyHF_take (i := 6) (d := 30) (v := .pointer (some ⟨b2, off3 + r, none⟩)) (by kernel_rfl) rfl (by kernel_rfl) (by kernel_rfl) (by kernel_rfl) rfl (fun _ _ _ h => h) ⟨Or.inl ⟨by rfl, fun w hS => by obtain ⟨h0, h1, h2, h3⟩ := hS; go_simp⟩, fun _ => rfl⟩ hS ?_
          simp only [List.setIfInBounds_toArray, List.set_cons_zero, List.set_cons_succ]
          refine anyHF_take (i := 7) (d := 31) (v := .slice Aa na ca) (by kernel_rfl) rfl (by kernel_rfl) (by kernel_rfl) (by kernel_rfl) rfl (fun _ _ _ h => h) ⟨Or.inl ⟨by rfl, fun w hS => by obtain ⟨h0, h1, h2, h3⟩ := hS; go_simp⟩, fun _ => rfl⟩ hS ?_
          simp only [List.setIfInBounds_toArray, List.set_cons_zero, List.set_cons_succ]
          refine anyHF_take (i := 8) (d := 32) (v := .slice (some ⟨d1, off2, none⟩) N0 cap') (by kernel_rfl) rfl (by kernel_rfl) (by kernel_rfl) (by kernel_rfl) rfl (fun _ _ _ h => h) ⟨Or.inl ⟨by rfl, fun w hS => by obtain ⟨h0, h1, h2, h3⟩ := hS; go_simp⟩, fun _ => rfl⟩ hS ?_
          simp only [List.setIfInBounds_toArray, List.set_cons_zero, List.set_cons_succ]
          refine anyHF_take (i := 9) (d := 33) (v := .int .i64 (m : Int)) (by kernel_rfl) rfl (by kernel_rfl) (by kernel_rfl) (by kernel_rfl) rfl (fun _ _ _ h => h) ⟨Or.inl ⟨by rfl, fun w hS => by obtain ⟨h0, h1, h2, h3⟩ := hS; go_simp⟩, fun _ => rfl⟩ hS ?_
          simp only [List.setIfInBounds_toArray, List.set_cons_zero, List.set_cons_succ]
          refine anyHF_take (i := 10) (d := 34) (v := .pointer (some ⟨d1, off2 + m, none⟩)) (by kernel_rfl) rfl (by kernel_rfl) (by kernel_rfl) (by kernel_rfl) rfl (fun _ _ _ h => h) ⟨Or.inl ⟨by rfl, fun w hS => by obtain ⟨h0, h1, h2, h3⟩ := hS; go_simp⟩, fun _ => rfl⟩ hS ?_
          simp only [List.setIfInBounds_toArray, List.set_cons_zero, List.set_cons_succ]
          refine anyHF_take (i := 11) (d := 35) (v := .slice (some ⟨d2, off4, none⟩) N1 cap4) (by kernel_rfl) rfl (by kernel_rfl) (by kernel_rfl) (by kernel_rfl) rfl (fun _ _ _ h => h) ⟨Or.inl ⟨by rfl, fun w hS => by obtain ⟨h0, h1, h2, h3⟩ := hS; go_simp⟩, fun _ => rfl⟩ hS ?_
          simp only [List.setIfInBounds_toArray, List.set_cons_zero, List.set_cons_succ]
          refine anyHF_take (i := 12) (d := 36) (v := .int .i64 (r : Int)) (by kernel_rfl) rfl (by kernel_rfl) (by kernel_rfl) (by kernel_rfl) rfl (fun _ _ _ h => h) ⟨Or.inl ⟨by rfl, fun w hS => by obtain ⟨h0, h1, h2, h3⟩ := hS; go_simp⟩, fun _ => rfl⟩ hS ?_
          simp only [List.setIfInBounds_toArray, List.set_cons_zero, List.set_cons_succ]
          refine anyHF_take (i := 13) (d := 37) (v := .pointer (some ⟨d2, off4 + r, none⟩)) (by kernel_rfl) rfl (by kernel_rfl) (by kernel_rfl) (by kernel_rfl) rfl (fun _ _ _ h => h) ⟨Or.inl ⟨by rfl, fun w hS => by obtain ⟨h0, h1, h2, h3⟩ := hS; go_simp⟩, fun _ => rfl⟩ hS ?_
          simp only [List.setIfInBounds_toArray, List.set_cons_zero, List.set_cons_succ]
          refine anyHF_take (i := 14) (d := 38) (v := .slice Ab nb cb) (by kernel_rfl) rfl (by kernel_rfl) (by kernel_rfl) (by kernel_rfl) rfl (fun _ _ _ h => h) ⟨Or.inl ⟨by rfl, fun w hS => by obtain ⟨h0, h1, h2, h3⟩ := hS; go_simp⟩, fun _ => rfl⟩ hS ?_
          simp only [List.setIfInBounds_toArray, List.set_cons_zero, List.set_cons_succ]
          refine anyHF_one (i := 15) (by kernel_rfl) rfl (by kernel_rfl) (by rfl) ?_
          gi_wp2_with fail
          refine ⟨trivial, (callsIn_wide.2 (rput_any _ _ xa1 xb1 _ ((HXA.out _ (hBs.drew)).more (by have := hBs.size; simp; omega)) ((HXB.out _ (hBs.drew)).more (by have := hBs.size; simp; omega)) (Nat.le_of_eq HXL.out) (by have := HXN.out; omega))).mono ?_⟩
          rintro e wn ⟨v', rfl, hown, hBn⟩
          replace hBn := below_undrew hBn
          have hfr := hown.fresh
          obtain ⟨Ax, cx, hxe, _, _⟩ := id hfr
          rw [HLX.out] at hxe
          subst hxe
          clear hown
          clear hS
          have hS : (fun V : World => V.cell? ⟨b1, off1 + m, none⟩ = some (.slice (some ⟨b2, off3, none⟩) n1 cap3) ∧ V.cell? ⟨b2, off3 + r, none⟩ = some (.slice Aa na ca) ∧ V.cell? ⟨d1, off2 + m, none⟩ = some (.slice (some ⟨d2, off4, none⟩) N1 cap4) ∧ V.cell? ⟨d2, off4 + r, none⟩ = some (.slice Ab nb cb)) wn := HSS.out _ (below_in hBs hBn)
          gi_wp2
          try (refine ⟨hS, ?_⟩)
          refine anyHF_one (i := 16) (by kernel_rfl) rfl (by kernel_rfl) (by rfl) ?_
          have hcells : Below wn.heap.size wn (wn.alloc (.cells #[.slice Ax na cx] 25)) := below_one wn _
          have hBc := below_in hBn hcells
          have HROWM := Lib.hid (RowG.below hrow2 hBc)
          have HBLK := Lib.hid (Blk.new wn 25 #[.slice Ax na cx])
          have hss := hBs.size
          have hdr : wr.drew.heap.size = wr.heap.size := rfl
          have hbn := hBn.size
          have hcs := hcells.size
          have hwq := hBr.size
          have HBY : Hid (BytesP (fun b => b < (wn.alloc (.cells #[.slice Ax na cx] 25)).heap.size ∧ some b ≠ u7.ownBlock ∧ some b ≠ u5.ownBlock) (wn.alloc (.cells #[.slice Ax na cx] 25)) (.slice Ax na cx) (xorB xa1 xb1)) := by
            obtain ⟨A8, cp8, e8, h8, hA8⟩ := hfr.below hcells
            refine ⟨A8, cp8, by rw [← HLX.out] at e8 ⊢; exact e8, h8, fun hp => ?_⟩
            obtain ⟨b, off, q1, q2, q3, q4⟩ := hA8 hp
            exact ⟨b, off, q1, ⟨q3, fun e => by have := HVLT2.out b e.symm; omega, fun e => by have := HVLT.out b e.symm; omega⟩, q4⟩
          clear hfr hS
          have hS : (fun V : World => V.cell? ⟨b1, off1 + m, none⟩ = some (.slice (some ⟨b2, off3, none⟩) n1 cap3) ∧ V.cell? ⟨b2, off3 + r, none⟩ = some (.slice Aa na ca) ∧ V.cell? ⟨d1, off2 + m, none⟩ = some (.slice (some ⟨d2, off4, none⟩) N1 cap4) ∧ V.cell? ⟨d2, off4 + r, none⟩ = some (.slice Ab nb cb)) (wn.alloc (.cells #[.slice Ax na cx] 25)) := HSS.out _ (below_in hBs hBc)
          gi_wp2
          try (refine ⟨hS, ?_⟩)
          refine anyHF_one (i := 17) (by kernel_rfl) rfl (by kernel_rfl) (by rfl) ?_
          refine opIn_pushM (T := 44) (v := u7) _ (.tmp 24) (.tmp 40) rfl Tryz.underlying44 pre2 rfl HROWM.out wn.heap.size 25 _ (xorB xa1 xb1) rfl HBLK.out HBY.out (by have := HPL2.out; omega) (by omega) ?_
          intro v' w4 hrow4 hgrow4 hown4
          clear hS
          have hB4 : Below wq.heap.size wq w4 := below_grown (below_in hBs hBc) hgrow4 (by omega) (fun g e => HVLE2.out g e)
          have hS : (fun V : World => V.cell? ⟨b1, off1 + m, none⟩ = some (.slice (some ⟨b2, off3, none⟩) n1 cap3) ∧ V.cell? ⟨b2, off3 + r, none⟩ = some (.slice Aa na ca) ∧ V.cell? ⟨d1, off2 + m, none⟩ = some (.slice (some ⟨d2, off4, none⟩) N1 cap4) ∧ V.cell? ⟨d2, off4 + r, none⟩ = some (.slice Ab nb cb)) w4 := HS4.out _ hB4
          gi_wp2_with fail
          try (refine ⟨hS, ?_⟩)
          refine anyHF_one (i := 18) (by kernel_rfl) rfl (by kernel_rfl) (by rfl) ?_
          gi_wp2
          refine anyHF_done (by kernel_rfl) ?_ _
          refine NoPanic.normal ?_
          clear hS
          gi_wp2_with fail
          go_wp2
          go_roundw
          case rel => exact ⟨r + 1, by omega, by go_num, by rw [HNX2.out]; exact hrow4, hB4⟩
          case measure => simp [intOf]; omega
        · obtain rfl : r = n1 := by omega
          have e1 : decide ((r : Int) < (r : Int)) = false := by simp
          have HTK : Hid ((putCol xs ys).take r = putCol xs ys) := by unfold Hid; rw [List.take_of_length_le]; unfold putCol; rw [List.length_map, List.length_range, HN1.out]; exact Nat.le_refl _
          rw [HTK.out] at hrow2
          obtain ⟨A7, cp7, hu7, _, _⟩ := id (RowM.many hrow2 (S := fun _ => True) (fun _ _ _ => trivial))
          subst hu7
          generalize (putCol xs ys).length = n7 at *
          have hcells : Below wr.heap.size wr (wr.alloc (.cells #[.slice A7 n7 cp7] 44)) := below_one wr _
          have HROWC := Lib.hid (RowG.below HROW.out (below_in hBs hcells))
          have HBLK := Lib.hid (Blk.new wr 44 #[.slice A7 n7 cp7])
          have HCP : Hid (manyR.R (fun b => b < (wr.alloc (.cells #[.slice A7 n7 cp7] 44)).heap.size ∧ some b ≠ u5.ownBlock ∧ True) (wr.alloc (.cells #[.slice A7 n7 cp7] 44)) (.slice A7 n7 cp7) (putCol xs ys)) :=
            RowM.many (RowG.below hrow2 hcells) fun b hb hq => ⟨hb, by
              rcases hq with h | h
              · exact h
              · exact fun e => by have := HVLT.out b e.symm; omega, trivial⟩
          have hbs := hBs.size
          have hcs := hcells.size
          have hwq := hBr.size
          clear hrow2
          go_wp2_with (at_builtin; refine wpList_pushC (T := 22) _ rfl _ _ rfl Tryz.underlying22 pre rfl HROWC.out wr.heap.size 44 _ (putCol xs ys) rfl HBLK.out HCP.out (by have := HPL.out; omega) (by omega) ?_; intro v' w2 hrow4 hgrow hown)
          go_roundw
          case rel => exact ⟨m + 1, by omega, by go_num, by rw [HNX.out]; exact hrow4, below_grown (below_in hBr (below_in hBs hcells)) hgrow (by omega) (fun g e => HVLE.out g e)⟩
          case measure => simp [intOf]; omega
    · obtain rfl : m = n0 := by omega
      have e1 : decide ((m : Int) < (m : Int)) = false := by simp
      have HE : Hid ((putOf a b).take m = putOf a b) := by unfold Hid; rw [List.take_of_length_le]; rw [HPL0.out]; exact Nat.le_refl _
      rw [HE.out] at hrow
      go_wp2
      go_ret
      exact ⟨_, rfl, RowC.cols hrow, hBr⟩
end Go.Proofs.YtggdlklkjnbbjaaGreatDoor.E

namespace Go.Proofs.YtggdlklkjnbbjaaGreatDoor.E
open Go.RowKit Go.Shelf Go.Proofs.YtggdlklkjnbbjaaGreatDoor.C
set_option linter.unusedSimpArgs false
set_option linter.unusedVariables false

theorem xa_xor {α : Type} (f g : α → UInt8) : ∀ l : List α, xa (l.map fun x => f x ^^^ g x) = xa (l.map f) ^^^ xa (l.map g)
  | [] => by simp [xa_nil]
  | x :: l => by
    rw [List.map_cons, List.map_cons, List.map_cons, xa_cons, xa_cons, xa_cons, xa_xor f g l, UInt8.xor_assoc, UInt8.xor_assoc, ← UInt8.xor_assoc (g x), UInt8.xor_comm (g x), UInt8.xor_assoc]
theorem xa_twice (z : UInt8) : ∀ n : Nat, xa ((List.range (2 * n)).map fun _ => z) = 0
  | 0 => rfl
  | n + 1 => by
    rw [show 2 * (n + 1) = 2 * n + 1 + 1 by omega, List.range_succ, List.range_succ, List.map_append, List.map_append, xa_append, xa_append, xa_twice z n]
    simp [xa_cons, xa_nil]
theorem xa_flat {α : Type} (f : α → List UInt8) : ∀ l : List α, xa (l.flatMap f) = xa (l.map fun x => xa (f x))
  | [] => rfl
  | x :: l => by rw [List.flatMap_cons, xa_append, List.map_cons, xa_cons, xa_flat f l]
/-- All cells, row by row. -/
def grid (R n : Nat) : List (Nat × Nat) := (List.range R).flatMap fun r => (List.range n).map fun c => (c, r)
def slants (p : Int) : List (Nat × Nat) := (List.range p.toNat).flatMap fun (a : Nat) => diagAt p (a : Int) p.toNat
theorem slants_perm {p : Int} (hp : p ∈ prm) : (slants p).Perm (grid (p - 1).toNat p.toNat) := by
  have h : (prm.all fun p => (slants p).isPerm (grid (p - 1).toNat p.toNat)) = true := by decide +kernel
  exact List.isPerm_iff.1 (List.all_eq_true.1 h p hp)
section
variable {p : Int} {a b css : List (List (List UInt8))}
theorem cell_put (c r : Nat) (hc : c < a.length) (hr : r < (a[c]?.getD []).length) : cellOf_ (putOf a b) c r = xorB (cellOf_ a c r) (cellOf_ b c r) := by
  unfold cellOf_ putOf
  rw [List.getElem?_map, List.getElem?_range hc]
  show (putCol (a[c]?.getD []) (b[c]?.getD []))[r]?.getD [] = _
  unfold putCol
  rw [List.getElem?_map, List.getElem?_range hr]
  rfl
theorem putOf_len : (putOf a b).length = a.length := by unfold putOf; rw [List.length_map, List.length_range]
theorem putOf_col {c : Nat} (hc : c < a.length) : (putOf a b)[c]?.getD [] = putCol (a[c]?.getD []) (b[c]?.getD []) := by
  unfold putOf
  rw [List.getElem?_map, List.getElem?_range hc]
  rfl
theorem putCol_len (xs ys : List (List UInt8)) : (putCol xs ys).length = xs.length := by unfold putCol; rw [List.length_map, List.length_range]
theorem put_ok (ha : DataOk p a) : DataOk p (putOf a b) ∧ (firstC (putOf a b)).length = (firstC a).length := by
  have hd := dataOk_n ha
  obtain ⟨hR, hn, h0, hall⟩ := ha
  have hf : firstC (putOf a b) = xorB (cellOf_ a 0 0) (cellOf_ b 0 0) := cell_put 0 0 h0 (by rw [(hall 0 h0).1]; omega)
  have hl : (firstC (putOf a b)).length = (firstC a).length := by rw [hf, xorB_len]; rfl
  refine ⟨⟨hR, by rw [putOf_len]; exact hn, by rw [putOf_len]; exact h0, fun j hj => ?_⟩, hl⟩
  rw [putOf_len] at hj
  have hcl : ((putOf a b)[j]?.getD []).length = (p - 1).toNat := by rw [putOf_col hj, putCol_len]; exact (hall j hj).1
  refine ⟨hcl, ?_, fun i hi => ?_⟩
  · have := (hall 0 h0).2.1
    unfold Cell at *
    rw [hl]
    exact this
  · rw [hcl] at hi
    have hc := cell_put (a := a) (b := b) j i hj (by rw [(hall j hj).1]; exact hi)
    unfold cellOf_ at hc
    rw [hc, xorB_len, hl]
    exact (hall j hj).2.2 i (by rw [(hall j hj).1]; exact hi)
theorem by_put (ha : DataOk p a) (hb : DataOk p b) (hl : (firstC a).length = (firstC b).length) (k : Nat) {c r : Nat} (hc : c < p.toNat) (hr : r < (p - 1).toNat) : by_ (putOf a b) k c r = by_ a k c r ^^^ by_ b k c r := by
  have hda := dataOk_n ha
  have hdb := dataOk_n hb
  unfold by_
  rw [cell_put c r (by omega) (by rw [(ha.2.2.2 c (by omega)).1]; exact hr), at_xorB]
  rw [togOk_cell ha.2.2 (by omega) hr, togOk_cell hb.2.2 (by omega) hr, hl]
theorem dg_put (ha : DataOk p a) (hb : DataOk p b) (hl : (firstC a).length = (firstC b).length) (k : Nat) (d : Int) : dg_ p (putOf a b) k d = dg_ p a k d ^^^ dg_ p b k d := by
  have hda := dataOk_n ha
  unfold dg_
  rw [← xa_xor]
  congr 1
  refine List.map_congr_left fun x hx => ?_
  have h1 := diagAt_in (by omega) hx
  exact by_put ha hb hl k (by omega) (by omega)
theorem enc_put (ha : DataOk p a) (hb : DataOk p b) (hl : (firstC a).length = (firstC b).length) : encOf p (putOf a b) = putOf (encOf p a) (encOf p b) := by
  have hda := dataOk_n ha
  obtain ⟨hz, hzl⟩ := put_ok (b := b) ha
  have hR : rowsMade (p - 1).toNat (putOf a b) = putCol (rowsMade (p - 1).toNat a) (rowsMade (p - 1).toNat b) := by
    unfold putCol
    rw [rowsMade_len]
    unfold rowsMade
    refine List.map_congr_left fun r hr => ?_
    rw [List.mem_range] at hr
    have e1 := rowsMade_at ha hr
    have e2 := rowsMade_at hb hr
    unfold rowsMade at e1 e2
    rw [e1, e2]
    refine ext_at (by rw [xorB_len, row_len hz hr, row_len ha hr, hzl]) fun j => ?_
    rw [at_xorB _ _ _ (by rw [row_len ha hr, row_len hb hr, hl]), at_row hz hr, at_row ha hr, at_row hb hr, ← xa_xor]
    congr 1
    refine List.map_congr_left fun c hc => ?_
    rw [List.mem_range] at hc
    exact by_put ha hb hl j hc hr
  have hD : diagsMade p (p - 1).toNat (putOf a b) = putCol (diagsMade p (p - 1).toNat a) (diagsMade p (p - 1).toNat b) := by
    unfold putCol
    rw [diagsMade_len]
    unfold diagsMade
    refine List.map_congr_left fun r hr => ?_
    rw [List.mem_range] at hr
    have e1 := diagsMade_at ha hr
    have e2 := diagsMade_at hb hr
    unfold diagsMade at e1 e2
    rw [e1, e2]
    have hrp : (r : Int) < p := by omega
    refine ext_at (by rw [xorB_len, diag_len hz hrp, diag_len ha hrp, hzl]) fun j => ?_
    rw [at_xorB _ _ _ (by rw [diag_len ha hrp, diag_len hb hrp, hl]), at_diagMade hz hrp, at_diagMade ha hrp, at_diagMade hb hrp, dg_put ha hb hl, dg_put ha hb hl]
    simp only [UInt8.xor_assoc]
    congr 1
    rw [← UInt8.xor_assoc, ← UInt8.xor_assoc, UInt8.xor_comm (dg_ p b j (p - 1))]
  unfold encOf
  rw [hR, hD]
  rfl
/-- All that is made, put upon one another, is the adjuster. -/
theorem all_made (h : DataOk p css) : xors (List.replicate (adjOf p css).length 0) (rowsMade (p - 1).toNat css ++ diagsMade p (p - 1).toNat css) = adjOf p css := by
  have hd := dataOk_n h
  have hpr : p ∈ prm := h.1.2
  have hal := adjOf_len h
  have hrl : ∀ l ∈ rowsMade (p - 1).toNat css ++ diagsMade p (p - 1).toNat css, l.length = (adjOf p css).length := by
    intro l hl'
    rw [hal]
    rcases List.mem_append.1 hl' with h1 | h1
    · unfold rowsMade at h1
      obtain ⟨r, hr, rfl⟩ := List.mem_map.1 h1
      exact row_len h (List.mem_range.1 hr)
    · unfold diagsMade at h1
      obtain ⟨r, hr, rfl⟩ := List.mem_map.1 h1
      have := List.mem_range.1 hr
      exact diag_len h (by omega)
  refine ext_at ?_ fun j => ?_
  · have := xors_len (List.replicate (adjOf p css).length 0) (rowsMade (p - 1).toNat css ++ diagsMade p (p - 1).toNat css)
    rw [this, List.length_replicate]
  rw [at_upon hrl, List.map_append, xa_append]
  have e1 : (rowsMade (p - 1).toNat css).map (at_ · j) = (List.range (p - 1).toNat).map fun r => xa ((List.range p.toNat).map fun c => by_ css j c r) := by
    unfold rowsMade
    rw [List.map_map]
    exact List.map_congr_left fun r hr => at_row h (List.mem_range.1 hr) j
  have e2 : (diagsMade p (p - 1).toNat css).map (at_ · j) = (List.range (p - 1).toNat).map fun (r : Nat) => dg_ p css j (p - 1) ^^^ dg_ p css j r := by
    unfold diagsMade
    rw [List.map_map]
    refine List.map_congr_left fun r hr => ?_
    have := List.mem_range.1 hr
    exact at_diagMade h (by omega) j
  have hev : ∃ n, (p - 1).toNat = 2 * n := by
    have : prm.all (fun p => (p - 1).toNat % 2 == 0) = true := by decide
    have h2 := List.all_eq_true.1 this p hpr
    exact ⟨(p - 1).toNat / 2, by simp at h2; omega⟩
  have hT : xa ((List.range p.toNat).map fun (a : Nat) => dg_ p css j a) = xa ((List.range (p - 1).toNat).map fun r => xa ((List.range p.toNat).map fun c => by_ css j c r)) := by
    have := xa_perm ((slants_perm hpr).map fun x : Nat × Nat => by_ css j x.1 x.2)
    unfold slants grid at this
    rw [List.map_flatMap, List.map_flatMap, xa_flat, xa_flat] at this
    refine Eq.trans ?_ (this.trans ?_)
    · rfl
    · congr 1
      refine List.map_congr_left fun r _ => ?_
      rw [List.map_map]
      rfl
  have hs : p.toNat = (p - 1).toNat + 1 := by omega
  rw [e1, e2, xa_xor, ← hT]
  obtain ⟨n, hn⟩ := hev
  rw [show xa ((List.range (p - 1).toNat).map fun (_ : Nat) => dg_ p css j (p - 1)) = 0 by rw [hn]; exact xa_twice _ n, UInt8.zero_xor, hs, List.range_succ, List.map_append, xa_append]
  rw [List.map_singleton, xa_cons, xa_nil, UInt8.xor_zero, UInt8.xor_comm, ← UInt8.xor_assoc, UInt8.xor_self, UInt8.zero_xor]
  unfold adjOf
  rw [at_diag h (by omega) (by omega)]
  congr 1
  omega
/-- What is made belongs together. -/
theorem enc_rightD (h : DataOk p css) : RightD p (encOf p css) := by
  have hd := dataOk_n h
  have hf1 := togOk_first h.2.2
  have he := enc_cells h
  have hf : (firstC (encOf p css)).length = (firstC css).length := (he.2 0 (by omega)).2 0 (by omega)
  have hC : Cell (firstC (encOf p css)) := by unfold Cell; omega
  refine ⟨h.1.2, by rw [he.1]; omega, fun j hj => ?_⟩
  rw [he.1] at hj
  refine ⟨(he.2 j hj).1, hC, fun i hi => ?_⟩
  rw [hf]
  exact (he.2 j hj).2 i (by rw [(he.2 j hj).1] at hi; exact hi)
/-- Data and what is made of them are all columns. -/
theorem all_ok (h : DataOk p css) : AllOk p (css ++ encOf p css) := by
  have hd := dataOk_n h
  have he := enc_cells h
  obtain ⟨hR, hn, h0, hall⟩ := h
  have hl : ∀ j, j < css.length → (css ++ encOf p css)[j]?.getD [] = css[j]?.getD [] := fun j hj => by rw [List.getElem?_append_left hj]
  have hf : firstC (css ++ encOf p css) = firstC css := by unfold firstC; rw [hl 0 h0]
  refine ⟨hR, by rw [List.length_append, he.1]; omega, by rw [List.length_append]; omega, fun j hj => ?_⟩
  rw [hf]
  rw [List.length_append, he.1] at hj
  rcases Nat.lt_or_ge j css.length with h1 | h1
  · rw [hl j h1]
    exact hall j h1
  · rw [List.getElem?_append_right h1]
    have h2 := he.2 (j - css.length) (by omega)
    refine ⟨h2.1, (hall 0 h0).2.1, fun i hi => ?_⟩
    rw [h2.1] at hi
    exact h2.2 i hi
end
end Go.Proofs.YtggdlklkjnbbjaaGreatDoor.E

namespace Go.Proofs.YtggdlklkjnbbjaaGreatDoor.E
open Go.RowKit Go.Shelf Go.Proofs.YtggdlklkjnbbjaaGreatDoor.C
set_option linter.unusedSimpArgs false
set_option linter.unusedVariables false

set_option maxHeartbeats 400000 in
theorem nought6_any (n : Nat) (hn : n ≤ 1000) (w : World) : Calls Tryz.prog 24 #[.int .i64 (n : Int)] w fun e w' => ∃ u, e = .returned u ∧ Bytes w'.heap.size w' u (List.replicate n 0) ∧ Below w.heap.size w w' := by
  obtain ⟨i0, hi, hz0, hz1, hz2⟩ := info_parts Tryz.infoByte
  have hmk := fun W : World => run_make (P := Tryz.prog) W 25 5 i0 (.int .u8 0) Tryz.underlying25 hi hz0 .i64 .i64 (n : Int) (n : Int) (by omega) (by omega) (by rw [hz2]; omega) (by omega)
  simp only [hz1, Nat.mul_one, Int.toNat_natCast] at hmk
  have hR := Row.made w n
  have hBz := below_one w (.cells (madeCells #[.int .u8 0] n) 5)
  go_enter Tryz.func24, Tryz.ntmps24
  go_wp2
  go_ret
  exact ⟨_, rfl, Row.bytes hR (by simp), hBz⟩
end Go.Proofs.YtggdlklkjnbbjaaGreatDoor.E

namespace Go.Proofs.YtggdlklkjnbbjaaGreatDoor.E
open Go.RowKit Go.Shelf Go.Proofs.YtggdlklkjnbbjaaGreatDoor.C
set_option linter.unusedSimpArgs false
set_option linter.unusedVariables false
/-- A block of no element is a row of the call's own. -/
theorem RowG.empty {α : Type} (r : Rep α) (t : TypeId) (d : α) (Q : Nat → Prop) {W : World} {base g : Nat} (hg : Blk W g t #[]) (hb : base ≤ g) : RowG r t d Q W base (.slice (some ⟨g, 0, none⟩) 0 0) [] :=
  ⟨[], ⟨rfl, .inr ⟨g, 0, #[], rfl, hb, hg, Nat.le_refl _, by unfold maxLen; omega, rfl, rfl⟩⟩, rfl, fun j y hy => by cases hy⟩
section
variable {p : Int} {a b : List (List (List UInt8))}
theorem put_data (ha : DataOk p a) (hb : DataOk p b) (hl : (firstC a).length = (firstC b).length) {B : Nat} (v1 v2 : Value) (w : World) (hB : B ≤ w.heap.size) (hC : Cols B w v1 a) (hD : Cols B w v2 b) :
    Calls Tryz.prog 23 #[v1, v2] w fun e w' => ∃ u, e = .returned u ∧ Cols w'.heap.size w' u (putOf a b) ∧ Below w.heap.size w w' := by
  have hd := dataOk_n ha
  have hde := dataOk_n hb
  have hf1 := togOk_first ha.2.2
  refine puts_any v1 v2 a b w hB hC hD (by omega) (by omega) (fun j hj => ?_)
  have h1 := ha.2.2.2 j hj
  have h2 := hb.2.2.2 j (by omega)
  refine ⟨by omega, by omega, fun i hi => ?_⟩
  have h3 := h1.2.2 i hi
  have h4 := h2.2.2 i (by omega)
  omega
theorem put_enc (ha : DataOk p a) (hb : DataOk p b) (hl : (firstC a).length = (firstC b).length) {B : Nat} (v1 v2 : Value) (w : World) (hB : B ≤ w.heap.size) (hC : Cols B w v1 (encOf p a)) (hD : Cols B w v2 (encOf p b)) :
    Calls Tryz.prog 23 #[v1, v2] w fun e w' => ∃ u, e = .returned u ∧ Cols w'.heap.size w' u (putOf (encOf p a) (encOf p b)) ∧ Below w.heap.size w w' := by
  have hd := dataOk_n ha
  have hf1 := togOk_first ha.2.2
  have hea := enc_cells ha
  have heb := enc_cells hb
  have e1 := hea.1
  have e2 := heb.1
  refine puts_any v1 v2 _ _ w hB hC hD (by omega) (by omega) (fun j hj => ?_)
  have h1 := hea.2 j (by omega)
  have h2 := heb.2 j (by omega)
  refine ⟨by omega, by omega, fun i hi => ?_⟩
  have h3 := h1.2 i (by omega)
  have h4 := h2.2 i (by omega)
  omega
theorem same_put (ha : DataOk p a) {B B' : Nat} (v1 v2 : Value) (w : World) (hB : B ≤ w.heap.size) (hB' : B' ≤ w.heap.size) (h1 : Cols B w v1 (putOf (encOf p a) (encOf p b))) (h2 : Cols B' w v2 (putOf (encOf p a) (encOf p b))) :
    Calls Tryz.prog 21 #[v1, v2] w fun e w' => e = .returned (.bool true) ∧ Below w.heap.size w w' := by
  have hd := dataOk_n ha
  have hea := enc_cells ha
  have e1 := hea.1
  have hpl : (putOf (encOf p a) (encOf p b)).length ≤ 1000 := by rw [putOf_len]; omega
  have hpc : ∀ j : Nat, ((putOf (encOf p a) (encOf p b))[j]?.getD []).length ≤ 1000 := fun j => by
    rcases Nat.lt_or_ge j 2 with h | h
    · rw [putOf_col (by omega), putCol_len, (hea.2 j h).1]; omega
    · rw [List.getElem?_eq_none (by rw [putOf_len]; omega)]; simp
  have := same6_any v1 v2 _ _ w h1 h2 hB hB' hpc hpc hpl hpl
  simpa using this
theorem check_all (ha : DataOk p a) (x : Value) (w : World) (hL : Laid w) (hX : Cols w.heap.size w x (a ++ encOf p a)) :
    Calls Tryz.prog 22 #[.int .i64 p, x] w fun e w' => e = .returned (.tuple #[.bool true, .int .i64 0]) ∧ Below w.heap.size w w' := by
  have hd := dataOk_n ha
  have hck : decide (encOf p ((a ++ encOf p a).take p.toNat) = (a ++ encOf p a).drop p.toNat) = true := by rw [← hd.1, List.take_left, List.drop_left]; simp
  have := check_yes p x _ (all_ok ha) w hL (Nat.le_refl _) hX
  rwa [hck] at this
theorem right_enc (ha : DataOk p a) {B : Nat} (x : Value) (w : World) (hB : B ≤ w.heap.size) (hX : Cols B w x (encOf p a)) : Calls Tryz.prog 15 #[.int .i64 p, x] w fun e w' => e = .returned (.bool true) ∧ Below w.heap.size w w' :=
  right6_any p x _ w hB hX (by simp [encOf]) true (by simp only [true_iff]; exact enc_rightD ha)
theorem wrap_p (h : DataOk p a) : IntKind.i64.wrap (p - 1) = (((p - 1).toNat : Nat) : Int) ∧ (p - 1).toNat ≤ 16 := by
  have hpp := prm_bounds h.1.2
  refine ⟨?_, by omega⟩
  rw [IntWalk.i64_in _ (by omega)]
  omega
theorem xors_two (z : List UInt8) {ra da : List (List UInt8)} {R t r : Nat} (hra : ra.length = R) (hda : da.length = R) (ht : t < 2) (hr : r < R) : xors z ((ra ++ da).take (t * R + (r + 1))) = xorB (xors z ((ra ++ da).take (t * R + r))) (([ra, da][t]?.getD [])[r]?.getD []) := by
  have hk : t * R + r < (ra ++ da).length := by
    rw [List.length_append, hra, hda]
    have : t * R ≤ 1 * R := Nat.mul_le_mul_right R (by omega)
    omega
  have hg : (ra ++ da)[t * R + r]?.getD [] = ([ra, da][t]?.getD [])[r]?.getD [] := by
    obtain rfl | rfl : t = 0 ∨ t = 1 := by omega
    · rw [Nat.zero_mul, Nat.zero_add, List.getElem?_append_left (by omega)]
      rfl
    · rw [Nat.one_mul, List.getElem?_append_right (by omega), show R + r - ra.length = r by omega]
      rfl
  rw [← Nat.add_assoc]
  unfold xors
  rw [List.take_add_one, List.foldl_append, ← hg, List.getElem?_eq_getElem hk]
  rfl
end
end Go.Proofs.YtggdlklkjnbbjaaGreatDoor.E
