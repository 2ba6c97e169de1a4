/- ring: the mathematics of turned, stretched and slackened columns, byte by byte. The laws of ring: contracts as the laws want them. IsZero. -/
import Derived.Test.YtckfepmahjgmfaaDoorRG9
import Derived.Test.YtckfepmahjgmfaaDoorRG9x1
import Derived.Test.YtckfepmahjgmfaaDoorRG9x2
import Derived.Test.YtckfepmahjgmfaaDoorRG6
import Derived.Test.YtckfepmahjgmfaaDoorRG6x1
import Derived.Test.YtckfepmahjgmfaaDoorRCA
import Derived.Test.YtckfepmahjgmfaaDoorRCAx1
import Derived.Test.YtckfepmahjgmfaaDoorRCAx2
import Derived.Test.YtckfepmahjgmfaaDoorRMAx1
import Derived.Test.YtckfepmahjgmfaaDoorRSAx1
import Derived.Test.YtckfepmahjgmfaaDoorRG1x1
import Derived.Test.YtckfepmahjgmfaaDoorRG2x1
import Derived.Test.YtckfepmahjgmfaaDoorRG3x1
import Derived.Test.YtckfepmahjgmfaaDoorRG3x2
import Derived.Test.YtckfepmahjgmfaaDoorRG10
import Derived.Test.YtckfepmahjgmfaaDoorRG10x1
namespace Go.Proofs.YtckfepmahjgmfaaDoor.Rg
open Go.RowKit Go.Shelf Go.Proofs.YtckfepmahjgmfaaDoor.C Go.Proofs.YtckfepmahjgmfaaDoor.E
set_option linter.unusedSimpArgs false
set_option linter.unusedVariables false

theorem st_st {x : Int → UInt8} (a b : Int) (r : Int) : st a (st b x) r = st b (st a x) r := by
  unfold st tu
  show x r ^^^ (x (r - b) ^^^ x (-1 - b)) ^^^ ((x (r - a) ^^^ (x (r - a - b) ^^^ x (-1 - b))) ^^^ (x (-1 - a) ^^^ (x (-1 - a - b) ^^^ x (-1 - b)))) = x r ^^^ (x (r - a) ^^^ x (-1 - a)) ^^^ ((x (r - b) ^^^ (x (r - b - a) ^^^ x (-1 - a))) ^^^ (x (-1 - b) ^^^ (x (-1 - b - a) ^^^ x (-1 - a))))
  rw [show r - a - b = r - b - a by omega, show -1 - a - b = -1 - b - a by omega]
  simp only [UInt8.xor_assoc, UInt8.xor_comm, xlc, xx, UInt8.xor_self, UInt8.xor_zero, UInt8.zero_xor]
theorem str_str {P Q n : Nat} (hQ : P = Q + 1) (h1 : 1 ≤ n) (h64 : n ≤ 64) {c : List (List UInt8)} (hc : GoodC Q n c) (a b : Int) : strC P Q n (strC P Q n c b) a = strC P Q n (strC P Q n c a) b := by
  refine col_ext hQ (str_good h1 h64 (str_good h1 h64 hc b) a) (str_good h1 h64 (str_good h1 h64 hc a) b) fun j r => ?_
  rw [bt_str hQ (str_good h1 h64 hc b), bt_str hQ (str_good h1 h64 hc a), show Bt P Q n (strC P Q n c b) j = st b (Bt P Q n c j) from funext fun r => bt_str hQ hc b j r, show Bt P Q n (strC P Q n c a) j = st a (Bt P Q n c j) from funext fun r => bt_str hQ hc a j r]
  exact st_st a b r
theorem slack_slack {P Q n : Nat} (hQ : P = Q + 1) (hp : (P : Int) ∈ prm) (h1 : 1 ≤ n) (h64 : n ≤ 64) {c : List (List UInt8)} (hc : GoodC Q n c) {a b : Int} (ha : a % (P : Int) ≠ 0) (hb : b % (P : Int) ≠ 0) :
    slackL P Q (wholeF Q n (slackL P Q (wholeF Q n c) a)) b = slackL P Q (wholeF Q n (slackL P Q (wholeF Q n c) b)) a := by
  have ga := slack_good hQ h1 h64 hc a
  have gb := slack_good hQ h1 h64 hc b
  have gab := slack_good hQ h1 h64 ga b
  have gba := slack_good hQ h1 h64 gb a
  refine str_inj hQ hp gab gba hb (str_inj hQ hp (str_good h1 h64 gab b) (str_good h1 h64 gba b) ha ?_)
  rw [str_slack hQ hp h1 h64 ga hb, str_slack hQ hp h1 h64 hc ha, str_str hQ h1 h64 gba, str_slack hQ hp h1 h64 gb ha, str_slack hQ hp h1 h64 hc hb]
end Go.Proofs.YtckfepmahjgmfaaDoor.Rg

namespace Go.Proofs.YtckfepmahjgmfaaDoor.Rg
open Go.RowKit Go.Shelf Go.Proofs.YtckfepmahjgmfaaDoor.C Go.Proofs.YtckfepmahjgmfaaDoor.E
set_option linter.unusedSimpArgs false
set_option linter.unusedVariables false
attribute [local go_sem] Oper.semAt_some

theorem cols_one {W : World} {B g : Nat} {va : Value} {a : List (List UInt8)} (h : Blk W g 23 #[va]) (h1 : Many B W va a) (hg : g < B) : Cols B W (.slice (some ⟨g, 0, none⟩) 1 1) [a] := by
  obtain ⟨A, cap, rfl, _, _⟩ := id h1
  exact ⟨some ⟨g, 0, none⟩, 1, rfl, Nat.le_refl _, fun _ => ⟨g, 0, rfl, hg, fun j hj => by
    obtain rfl : j = 0 := (by have : j < 1 := hj; omega)
    exact ⟨_, h.cell 0, h1⟩⟩⟩
variable {P Q n : Nat}
end Go.Proofs.YtckfepmahjgmfaaDoor.Rg

namespace Go.Proofs.YtckfepmahjgmfaaDoor.C
open Go.RowKit Go.Shelf
set_option linter.unusedSimpArgs false
set_option linter.unusedVariables false
attribute [local go_sem] Oper.semAt_some
set_option maxRecDepth 100000 in
set_option maxHeartbeats 1000000 in
theorem noBit_any (v : Value) (l : List UInt8) (w : World) (hb : Bytes w.heap.size w v l) (hlen : l.length ≤ 1152921504606846975) :
    Calls Tryd.prog 47 #[v] w fun e w' => e = .returned (.bool (decide (places l = []))) ∧ Below w.heap.size w w' := by
  have hb1 := hb.below ((Below.refl _ w).alloc (Nat.le_refl _) (.cells #[.bool false] 4))
  have HB := Lib.hid (fun W : World => fun h => bits_any v l (B := w.heap.size) W h)
  obtain ⟨A, cap, rfl, _, _⟩ := id hb
  refine (callsIn_wide (n := 5)).1 ?_
  refine callsIn_of_wp_marks Tryd.func47 rfl trivial ?_ rfl
  simp only [Tryd.ntmps47, List.size_toArray, List.length_cons, List.length_nil, Nat.reduceAdd, Nat.reduceSub, Array.replicate_succ, Array.replicate_zero, List.push_toArray, List.append_toArray, List.nil_append, List.cons_append]
  gi_wp2_with (refine ⟨trivial, ?_⟩; gi_at_call 68; refine (callsIn_wide.2 (HB.out _ hb1)).mono ?_; rintro e w1 ⟨rfl, rfl⟩)
  have hB3 : Below w.heap.size w ((w.alloc (.cells #[.bool false] 4)).alloc (.cells #[.slice A l.length cap] 65)) := ((Below.refl _ w).alloc (Nat.le_refl _) _).alloc (by simp) _
  have bX := (Blk.new (w.alloc (.cells #[.bool false] 4)) 65 #[.slice A l.length cap]).one
  rw [World.size_alloc] at bX
  have b0 : Blk ((w.alloc (.cells #[.bool false] 4)).alloc (.cells #[.slice A l.length cap] 65)) w.heap.size 4 #[.bool false] := (Blk.new w _ _).alloc _
  refine wpIn_rangeFunc_ownG rfl (by omega) (gf := 88) (lb := #[.pointer (some ⟨w.heap.size + 1, 0, none⟩)]) rfl trivial enter_bits1
    (bits_stops _ (by omega) (w.heap.size + 1) (· < w.heap.size) _ l hlen _ (by simp) (by simp; omega) bX (hb.below hB3).toP) Keeps.trans (keeps_put (by simp; omega)) (Below.refl _ _) (fun _ => rfl)
    (fun pre W => pre = [] ∧ Blk W w.heap.size 4 #[.bool false] ∧ Below w.heap.size w W)
    (fun c _ W => c = .ret ∧ Blk W w.heap.size 4 #[.bool false] ∧ Below w.heap.size w W)
    (OwnFrom.and (ownFrom_pure _ _) (OwnFrom.and (Own.from (Blk.own w.heap.size 4 (fun _ : List Nat => #[.bool false])) _) (ownFrom_below (Nat.le_refl _) (by simp; omega))))
    (fun c => OwnFrom.and (ownFrom_pure _ (fun _ => c = .ret)) (OwnFrom.and (Own.from (Blk.own w.heap.size 4 (fun _ : List Nat => #[.bool false])) _) (ownFrom_below (Nat.le_refl _) (by simp; omega))))
    ⟨rfl, b0, hB3⟩
    (fun x => { tmps := #[.slice A l.length cap, undef, .pointer (some ⟨w.heap.size, 0, none⟩), .slice A l.length cap, .func (.func 88) #[] #[.pointer (some ⟨w.heap.size + 1, 0, none⟩)], .int .i64 (x : Int)], defers := [] }) ?assign ?body ?done ?stop
  case assign =>
    intro l x W K hK
    gi_wp2
    simpa using hK
  case body =>
    rintro l pre x W ⟨rfl, hb0, hB⟩ _
    have c0 := hb0.one
    have f0 := hb0.frozen 0
    gi_wp2
    exact ⟨(KeepsOthers.setCell _ _ _).from _, rfl, hb0.set_ 0 _, hB.setCell (Nat.le_refl _) _⟩
  case done =>
    rintro D ys W hD rfl ⟨hnil, hb0, hB⟩ hK
    have c0 := hb0.one
    have f0 := hb0.frozen 0
    gi_wp2
    have hK' := (KeepsOthers.setCell W ⟨w.heap.size, 0, none⟩ (.bool true)).same D _ hK rfl
    refine ⟨by simp, .inl ⟨_, _, rfl, run_takeDeferred hK', ?_⟩⟩
    have hb1 : Blk ((W.setCell ⟨w.heap.size, 0, none⟩ (.bool true)).putObj D (.deferred none)) w.heap.size 4 #[.bool true] :=
      Blk.own w.heap.size 4 (fun _ : Unit => #[.bool true]) () _ _ _ (hb0.set_ 0 (.bool true)) (grownBy_putObj' _ D (.deferred none)) (fun r e => by cases e; exact ⟨_, hK', rfl⟩)
    have c1 := hb1.one
    refine ⟨.bool true, by simp [results, Tryd.results47, go_sem, c1], ?_, ?_⟩
    · exact ret_bool (decide_eq_true hnil).symm
    · exact (hB.setCell (Nat.le_refl _) _).trans (belowK_b (w := w) (Nat.le_refl _) _ D _ _ (by simp at hD; omega) hK' rfl rfl)
  case stop =>
    rintro D c pre W hD ⟨hpre, hne⟩ ⟨rfl, hb0, hB⟩ hK
    gi_wp2
    refine ⟨by simp, .inl ⟨_, _, rfl, run_takeDeferred hK, ?_⟩⟩
    have hb1 : Blk (W.putObj D (.deferred none)) w.heap.size 4 #[.bool false] :=
      Blk.own w.heap.size 4 (fun _ : Unit => #[.bool false]) () _ _ _ hb0 (grownBy_putObj' _ D (.deferred none)) (fun r e => by cases e; exact ⟨_, hK, rfl⟩)
    have c1 := hb1.one
    refine ⟨.bool false, by simp [results, Tryd.results47, go_sem, c1], ?_, ?_⟩
    · refine ret_bool (decide_eq_false fun h => hne ?_).symm
      rw [h] at hpre
      exact List.prefix_nil.1 hpre
    · exact hB.trans (belowK_b (w := w) (Nat.le_refl _) _ D _ _ (by simp at hD; omega) hK rfl rfl)
set_option maxHeartbeats 400000 in
theorem isZero_any (v : Value) (l : List UInt8) (w : World) (hb : Bytes w.heap.size w v l) :
    Calls Tryd.prog 27 #[v] w fun e w' => e = .returned (.bool (decide (Cell l ∧ places l = []))) ∧ Below w.heap.size w w' := by
  by_cases hc : Cell l
  · have H := Lib.hid (cellOf_yes v l w hb hc)
    have H2 := Lib.hid (fun (W : World) (hB : Below w.heap.size w W) => noBit_any v l W ((hb.below hB).more hB.size) (Nat.le_trans hc.2 (by omega)))
    obtain ⟨A, cap, rfl, _, _⟩ := hb
    have hd : decide (Cell l ∧ places l = []) = decide (places l = []) := by simp [hc]
    rw [hd]
    clear hd hc
    generalize decide (places l = []) = d at H2
    go_enter Tryd.func27, Tryd.ntmps27
    go_wp2_with (first
      | (go_at_call 46; refine H.out.mono ?_; rintro e w1 ⟨rfl, hB1⟩)
      | (go_at_call 47; refine (H2.out _ (hB1.alloc hB1.size _)).mono ?_; rintro e w2 ⟨rfl, hB2⟩))
    go_ret
    exact ⟨rfl, Below.next (hB1.alloc hB1.size _) hB2⟩
  · have H := Lib.hid (cellOf_no v l w hb hc)
    obtain ⟨A, cap, rfl, _, _⟩ := hb
    have hd : decide (Cell l ∧ places l = []) = false := decide_eq_false fun h => hc h.1
    rw [hd]
    clear hd hc
    go_enter Tryd.func27, Tryd.ntmps27
    go_wp2_with (go_at_call 46; refine H.out.mono ?_; rintro e w1 ⟨rfl, hB1⟩)
    go_ret
    exact ⟨rfl, hB1.alloc hB1.size _⟩
end Go.Proofs.YtckfepmahjgmfaaDoor.C

