/- RDP's laws: what they range over; numbers, the code, columns that are right. RDP's laws: the chapter's rows. The laws of STAR: the chapter's rows. The document's answers for STAR: Slant, Over. The laws of EVENODD: columns that came in. The laws of STAR: place, cell, turned. -/
import Derived.Test.YtcgnhfiadeceiaaGreatDoorJG15
import Derived.Test.YtcgnhfiadeceiaaGreatDoorJG8
import Derived.Test.YtcgnhfiadeceiaaGreatDoorJG11
import Derived.Test.YtcgnhfiadeceiaaGreatDoorJSA
import Derived.Test.YtcgnhfiadeceiaaGreatDoorJG1
import Derived.Deep.Matrix
import Derived.ShutString
import Derived.ChangeOld
import Derived.Test.YtcgnhfiadeceiaaGreatDoorJG6
namespace Go.Proofs.YtcgnhfiadeceiaaGreatDoor.R
open Go.RowKit Go.Shelf Go.Proofs.YtcgnhfiadeceiaaGreatDoor.C Go.Proofs.YtcgnhfiadeceiaaGreatDoor.E
set_option linter.unusedSimpArgs false
set_option linter.unusedVariables false

/-- Blocks where P holds lie as they lay. -/
def KeepP (P : Nat → Prop) (X Y : World) : Prop := X.heap.size ≤ Y.heap.size ∧ ∀ b, P b → Y.heap[b]? = X.heap[b]?
theorem KeepP.refl (P : Nat → Prop) (X : World) : KeepP P X X := ⟨Nat.le_refl _, fun _ _ => rfl⟩
theorem KeepP.trans {P : Nat → Prop} {X Y Z : World} (h : KeepP P X Y) (h' : KeepP P Y Z) : KeepP P X Z := ⟨Nat.le_trans h.1 h'.1, fun b hb => (h'.2 b hb).trans (h.2 b hb)⟩
theorem KeepP.below {P : Nat → Prop} {X Y : World} (h : Below X.heap.size X Y) (hP : ∀ b, P b → b < X.heap.size) : KeepP P X Y := ⟨h.size, fun b hb => h.block b (hP b hb)⟩
theorem KeepP.putFar {P : Nat → Prop} (X : World) {l : Nat} (hl : ¬ P l) (o : Obj) : KeepP P X (X.putObj l o) := ⟨by simp [World.putObj], fun b hb => World.putObj_heap_other (fun e => hl (e ▸ hb))⟩
theorem KeepP.setFar {P : Nat → Prop} (X : World) {p : Addr} (hp : ¬ P p.block) (v : Value) : KeepP P X (X.setCell p v) := ⟨by simp, fun b hb => Below.heap_setCell X p v b (fun e => hp (e ▸ hb))⟩
section
attribute [local go_sem] Oper.semAt_some
end
/-- The first m of three columns, as a row. -/
theorem rows3 (w : World) (m : Nat) (hm : m ≤ 3) : RowC (fun _ => True) (allocs w (os3 w)) w.heap.size (.slice (some ⟨w.heap.size + 9, 0, none⟩) m 3) (css3.take m) := by
  have b9 := allocs_blk w (os3 w) 9 _ _ rfl
  have hsz := allocs_size w (os3 w)
  have hos : (os3 w).length = 10 := rfl
  have hl3 : css3.length = 3 := rfl
  refine ⟨[.slice (some ⟨w.heap.size + 2, 0, none⟩) 2 2, .slice (some ⟨w.heap.size + 5, 0, none⟩) 2 2, .slice (some ⟨w.heap.size + 8, 0, none⟩) 2 2].take m, ?_, by rw [List.length_take, List.length_take, hl3]; rfl, fun j u hu => ?_⟩
  · have hml : ([.slice (some ⟨w.heap.size + 2, 0, none⟩) 2 2, .slice (some ⟨w.heap.size + 5, 0, none⟩) 2 2, .slice (some ⟨w.heap.size + 8, 0, none⟩) 2 2] : List Value).length = 3 := rfl
    refine ⟨by rw [Nat.mul_one], .inr ⟨w.heap.size + 9, 3, _, by rw [List.length_take, hml, Nat.min_eq_left hm], by omega, b9, by rw [List.length_take, hml]; omega, by unfold maxLen; omega, rfl, by rw [Nat.mul_one, List.length_take, hml, Nat.min_eq_left hm]⟩⟩
  · have hj3 : j < m := by
      rcases Nat.lt_or_ge j m with h | h
      · exact h
      · rw [List.getElem?_eq_none (by rw [List.length_take]; omega)] at hu; cases hu
    rw [List.getElem?_take_of_lt hj3] at hu ⊢
    have two : ∀ g ga gb (a b : UInt8), Blk (allocs w (os3 w)) g 28 #[.slice (some ⟨ga, 0, none⟩) 1 1, .slice (some ⟨gb, 0, none⟩) 1 1] → Blk (allocs w (os3 w)) ga 5 #[.int .u8 (a.toNat : Int)] → Blk (allocs w (os3 w)) gb 5 #[.int .u8 (b.toNat : Int)] → g < w.heap.size + 9 → ga < w.heap.size + 9 → gb < w.heap.size + 9 →
        manyR.R (fun b => b < (allocs w (os3 w)).heap.size ∧ some b ≠ (Value.slice (some ⟨w.heap.size + 9, 0, none⟩) m 3).ownBlock ∧ True) (allocs w (os3 w)) (.slice (some ⟨g, 0, none⟩) 2 2) [[a], [b]] := fun g ga gb a b h h1 h2 k k1 k2 => by
      have hP : ∀ x, x < w.heap.size + 9 → (x < (allocs w (os3 w)).heap.size ∧ some x ≠ (Value.slice (some ⟨w.heap.size + 9, 0, none⟩) m 3).ownBlock ∧ True) := fun x hx => ⟨by omega, fun e => by injection e with e; have e2 : x = w.heap.size + 9 := e; omega, trivial⟩
      have hone : ∀ {gx : Nat} {c : UInt8}, Blk (allocs w (os3 w)) gx 5 #[.int .u8 (c.toNat : Int)] → gx < w.heap.size + 9 → BytesP (fun b => b < (allocs w (os3 w)).heap.size ∧ some b ≠ (Value.slice (some ⟨w.heap.size + 9, 0, none⟩) m 3).ownBlock ∧ True) (allocs w (os3 w)) (.slice (some ⟨gx, 0, none⟩) 1 1) [c] := fun {gx c} hb hg => ⟨_, 1, rfl, Nat.le_refl _, fun _ => ⟨gx, 0, rfl, hP gx hg, fun j hj => by
        have : j = 0 := by simp at hj; omega
        subst this
        exact hb.one⟩⟩
      refine ⟨_, 2, rfl, Nat.le_refl _, fun _ => ⟨g, 0, rfl, hP g k, fun j hj => ?_⟩⟩
      have hj2 : j = 0 ∨ j = 1 := by have : j < 2 := hj; omega
      rcases hj2 with rfl | rfl
      · exact ⟨_, h.cell 0, hone h1 k1⟩
      · exact ⟨_, h.cell 1, hone h2 k2⟩
    have hj4 : j = 0 ∨ j = 1 ∨ j = 2 := by omega
    rcases hj4 with rfl | rfl | rfl <;> cases hu
    · exact two _ _ _ 1 2 (allocs_blk w (os3 w) 2 _ _ rfl) (allocs_blk w (os3 w) 0 _ _ rfl) (allocs_blk w (os3 w) 1 _ _ rfl) (by omega) (by omega) (by omega)
    · exact two _ _ _ 4 8 (allocs_blk w (os3 w) 5 _ _ rfl) (allocs_blk w (os3 w) 3 _ _ rfl) (allocs_blk w (os3 w) 4 _ _ rfl) (by omega) (by omega) (by omega)
    · exact two _ _ _ 16 32 (allocs_blk w (os3 w) 8 _ _ rfl) (allocs_blk w (os3 w) 6 _ _ rfl) (allocs_blk w (os3 w) 7 _ _ rfl) (by omega) (by omega) (by omega)
end Go.Proofs.YtcgnhfiadeceiaaGreatDoor.R

namespace Go.Proofs.YtcgnhfiadeceiaaGreatDoor.T
open Go.RowKit Go.Shelf Go.Proofs.YtcgnhfiadeceiaaGreatDoor.C Go.Proofs.YtcgnhfiadeceiaaGreatDoor.E Go.Proofs.YtcgnhfiadeceiaaGreatDoor.R
set_option linter.unusedSimpArgs false
set_option linter.unusedVariables false

set_option maxRecDepth 100000 in
set_option maxHeartbeats 1000000 in
theorem three_any (m : Nat) (hm : m ≤ 3) (w : World) : Calls Tryz.prog 29 #[.int .i64 (m : Int)] w fun e w' => ∃ g, e = .returned (.slice (some ⟨g, 0, none⟩) m 3) ∧ RowC (fun _ => True) w' w.heap.size (.slice (some ⟨g, 0, none⟩) m 3) (css3.take m) ∧ Below w.heap.size w w' := by
  have hc := rows3 w m hm
  have hb := allocs_below w (os3 w)
  have i1 : (0 : Int) ≤ (m : Int) := by omega
  have i2 : (m : Int) ≤ 3 := by omega
  go_enter Tryz.func29, Tryz.ntmps29
  go_wp2
  go_ret
  exact ⟨_, rfl, hc, hb⟩
def os_made (w : World) : List Obj := [.cells #[.int .u8 21] 5,
  .cells #[.int .u8 42] 5,
  .cells #[.slice (some ⟨w.heap.size + 0, 0, none⟩) 1 1, .slice (some ⟨w.heap.size + 1, 0, none⟩) 1 1] 28,
  .cells #[.int .u8 57] 5,
  .cells #[.int .u8 30] 5,
  .cells #[.slice (some ⟨w.heap.size + 3, 0, none⟩) 1 1, .slice (some ⟨w.heap.size + 4, 0, none⟩) 1 1] 28,
  .cells #[.int .u8 45] 5,
  .cells #[.int .u8 54] 5,
  .cells #[.slice (some ⟨w.heap.size + 6, 0, none⟩) 1 1, .slice (some ⟨w.heap.size + 7, 0, none⟩) 1 1] 28,
  .cells #[.slice (some ⟨w.heap.size + 2, 0, none⟩) 2 2, .slice (some ⟨w.heap.size + 5, 0, none⟩) 2 2, .slice (some ⟨w.heap.size + 8, 0, none⟩) 2 2] 50]
theorem cols_made (w : World) : Cols (allocs w (os_made w)).heap.size (allocs w (os_made w)) (.slice (some ⟨w.heap.size + 9, 0, none⟩) 3 3) [[[21], [42]], [[57], [30]], [[45], [54]]] := by
  refine cols_of (allocs_blk w (os_made w) 9 _ _ rfl) rfl (by omega) fun j hj => ?_
  have hj3 : j = 0 ∨ j = 1 ∨ j = 2 := by omega
  rcases hj3 with rfl | rfl | rfl
  · exact ⟨_, rfl, many_two (allocs_blk w (os_made w) 2 _ _ rfl) (allocs_blk w (os_made w) 0 _ _ rfl) (allocs_blk w (os_made w) 1 _ _ rfl)⟩
  · exact ⟨_, rfl, many_two (allocs_blk w (os_made w) 5 _ _ rfl) (allocs_blk w (os_made w) 3 _ _ rfl) (allocs_blk w (os_made w) 4 _ _ rfl)⟩
  · exact ⟨_, rfl, many_two (allocs_blk w (os_made w) 8 _ _ rfl) (allocs_blk w (os_made w) 6 _ _ rfl) (allocs_blk w (os_made w) 7 _ _ rfl)⟩
def os_turn (w : World) : List Obj := [.cells #[.int .u8 1] 5,
  .cells #[.int .u8 2] 5,
  .cells #[.slice (some ⟨w.heap.size + 0, 0, none⟩) 1 1, .slice (some ⟨w.heap.size + 1, 0, none⟩) 1 1] 28,
  .cells #[.int .u8 16] 5,
  .cells #[.int .u8 32] 5,
  .cells #[.slice (some ⟨w.heap.size + 3, 0, none⟩) 1 1, .slice (some ⟨w.heap.size + 4, 0, none⟩) 1 1] 28,
  .cells #[.int .u8 4] 5,
  .cells #[.int .u8 8] 5,
  .cells #[.slice (some ⟨w.heap.size + 6, 0, none⟩) 1 1, .slice (some ⟨w.heap.size + 7, 0, none⟩) 1 1] 28,
  .cells #[.slice (some ⟨w.heap.size + 2, 0, none⟩) 2 2, .slice (some ⟨w.heap.size + 5, 0, none⟩) 2 2, .slice (some ⟨w.heap.size + 8, 0, none⟩) 2 2] 50]
theorem cols_turn (w : World) : Cols (allocs w (os_turn w)).heap.size (allocs w (os_turn w)) (.slice (some ⟨w.heap.size + 9, 0, none⟩) 3 3) [[[1], [2]], [[16], [32]], [[4], [8]]] := by
  refine cols_of (allocs_blk w (os_turn w) 9 _ _ rfl) rfl (by omega) fun j hj => ?_
  have hj3 : j = 0 ∨ j = 1 ∨ j = 2 := by omega
  rcases hj3 with rfl | rfl | rfl
  · exact ⟨_, rfl, many_two (allocs_blk w (os_turn w) 2 _ _ rfl) (allocs_blk w (os_turn w) 0 _ _ rfl) (allocs_blk w (os_turn w) 1 _ _ rfl)⟩
  · exact ⟨_, rfl, many_two (allocs_blk w (os_turn w) 5 _ _ rfl) (allocs_blk w (os_turn w) 3 _ _ rfl) (allocs_blk w (os_turn w) 4 _ _ rfl)⟩
  · exact ⟨_, rfl, many_two (allocs_blk w (os_turn w) 8 _ _ rfl) (allocs_blk w (os_turn w) 6 _ _ rfl) (allocs_blk w (os_turn w) 7 _ _ rfl)⟩
def whole8 : List (List (List UInt8)) := css3 ++ [[[21], [42]], [[57], [30]], [[45], [54]]]
theorem slant3 : slOf 3 css3 (3 - 1) = [36] := by decide +kernel
theorem star3 : starOf 3 css3 = [[[21], [42]], [[57], [30]], [[45], [54]]] := by decide +kernel
theorem over3 : overOf css3 = [[[1], [2]], [[16], [32]], [[4], [8]]] := by decide +kernel
theorem check3 : (decide (starOf 3 (whole8.take (3 : Int).toNat) = whole8.drop (3 : Int).toNat)) = true := by decide +kernel
theorem all8 : AllS 3 whole8 := ⟨⟨by decide, by decide, fun j hj => by
  have hj3 : j = 0 ∨ j = 1 ∨ j = 2 ∨ j = 3 ∨ j = 4 ∨ j = 5 := by have : j < 6 := hj; omega
  rcases hj3 with rfl | rfl | rfl | rfl | rfl | rfl <;> exact ⟨rfl, by decide, fun k hk => by
    have hk2 : k = 0 ∨ k = 1 := by have : k < 2 := hk; omega
    rcases hk2 with rfl | rfl <;> rfl⟩⟩, by decide⟩
attribute [local go_sem] Oper.semAt_some
set_option maxRecDepth 100000 in
set_option maxHeartbeats 4000000 in
theorem works_any (w : World) (hL : Laid w) : Calls Tryz.prog 10 #[] w fun e w' => e = .returned (.bool true) ∧ Below w.heap.size w w' := by
  have HT := Lib.hid (fun U => three_any 3 (by omega) U)
  rw [show css3.take 3 = css3 from rfl] at HT
  have HA := Lib.hid (fun (U : World) (v : Value) (hU : Laid U) (hC : Cols U.heap.size U v css3) => adjuster_yes 3 v css3 ok3 U hU (Nat.le_refl _) hC)
  have HE := Lib.hid (fun (U : World) (v : Value) (hU : Laid U) (hC : Cols U.heap.size U v css3) => encode_yes 3 v css3 ok3 U hU (Nat.le_refl _) hC)
  have HO := Lib.hid (fun (U : World) (v : Value) (hU : Laid U) (hC : Cols U.heap.size U v css3) => over_yes 3 v css3 ok3 U hU (Nat.le_refl _) hC)
  have HK := Lib.hid (fun (U : World) (v : Value) (hU : Laid U) (hC : Cols U.heap.size U v whole8) => check_yes 3 v whole8 all8 U hU (Nat.le_refl _) hC)
  have HS := Lib.hid (fun (U : World) (v v2 : Value) (h1 : Cols U.heap.size U v [[[21], [42]], [[57], [30]], [[45], [54]]]) (h2 : Cols U.heap.size U v2 [[[21], [42]], [[57], [30]], [[45], [54]]]) => same6_any v v2 _ _ U h1 h2 (Nat.le_refl _) (Nat.le_refl _) (fun j => (by rcases j with _ | _ | _ | j <;> simp)) (fun j => (by rcases j with _ | _ | _ | j <;> simp)) (by simp) (by simp))
  have HZ := Lib.hid (fun (U : World) (v v2 : Value) (h1 : Cols U.heap.size U v [[[1], [2]], [[16], [32]], [[4], [8]]]) (h2 : Cols U.heap.size U v2 [[[1], [2]], [[16], [32]], [[4], [8]]]) => same6_any v v2 _ _ U h1 h2 (Nat.le_refl _) (Nat.le_refl _) (fun j => (by rcases j with _ | _ | _ | j <;> simp)) (fun j => (by rcases j with _ | _ | _ | j <;> simp)) (by simp) (by simp))
  simp only [decide_true] at HS HZ
  rw [slant3] at HA
  rw [star3] at HE
  rw [over3] at HO
  rw [check3] at HK
  have hl3 : css3.length = 3 := rfl
  go_enter Tryz.func10, Tryz.ntmps10
  go_wp2_with fail
  refine (HT.out _).mono ?_
  rintro e w1 ⟨g1, rfl, hr, hB⟩
  have hc := RowC.cols hr
  have hBw := hB
  clear hr
  go_wp2_with fail
  refine (HA.out _ _ (hL.next hBw) hc).mono ?_
  rintro e w2 ⟨s, rfl, hs, hB⟩
  replace hBw := below_in hBw hB
  obtain ⟨As, cs, hse, _, _⟩ := id hs
  have hse2 : s = .slice As 1 cs := hse
  subst hse2
  clear hc hB hse
  go_wp2_with fail
  refine (HT.out _).mono ?_
  rintro e w3 ⟨g3, rfl, hr, hB⟩
  replace hBw := below_in hBw hB
  replace hs := (hs.below hB).more hB.size
  have hc := RowC.cols hr
  clear hB hr
  go_wp2_with fail
  refine (HE.out _ _ (hL.next hBw) hc).mono ?_
  rintro e w4 ⟨l, rfl, hl, hB⟩
  replace hBw := below_in hBw hB
  replace hs := (hs.below hB).more hB.size
  obtain ⟨Al, cl, hle, _, _⟩ := id hl
  have hle2 : l = .slice Al 3 cl := hle
  subst hle2
  clear hc hB hle
  go_wp2_with fail
  refine (HT.out _).mono ?_
  rintro e w5 ⟨g5, rfl, hr, hB⟩
  replace hBw := below_in hBw hB
  replace hs := (hs.below hB).more hB.size
  replace hl := (hl.below hB).more hB.size
  have hc := RowC.cols hr
  clear hB hr
  go_wp2_with fail
  refine (HO.out _ _ (hL.next hBw) hc).mono ?_
  rintro e w6 ⟨o, rfl, ho, hB⟩
  replace hBw := below_in hBw hB
  replace hs := (hs.below hB).more hB.size
  replace hl := (hl.below hB).more hB.size
  clear hc hB
  go_wp2_with fail
  refine (HT.out _).mono ?_
  rintro e w7 ⟨g7, rfl, hr7, hB⟩
  have hlr : colsR.R (fun b => b < w7.heap.size ∧ some b ≠ (Value.slice (some ⟨g7, 0, none⟩) 3 3).ownBlock ∧ True) w7 (.slice Al 3 cl) [[[21], [42]], [[57], [30]], [[45], [54]]] := colsR.imp (hl.below hB) fun b hb => ⟨Nat.lt_of_lt_of_le hb hB.size, fun e => by have h1 := RowG.own_le hr7 b e.symm; omega, trivial⟩
  have HR7 := Lib.hid hr7
  have HD7 := Lib.hid hlr
  clear hr7 hlr
  have HBK := Lib.hid hB
  clear hB
  go_wp2_with (at_builtin; refine wpList_appC (T := 22) _ rfl _ _ rfl Tryz.underlying22 css3 [[[21], [42]], [[57], [30]], [[45], [54]]] rfl HR7.out rfl HD7.out (by simp) (by rw [hl3]; omega) (by simp) HBK.out.size ?_; intro v8 w8 hr8 hg8 ho8)
  have hB8 : Below w6.heap.size w6 w8 := below_grown HBK.out hg8 HBK.out.size (fun r e => RowG.own_le HR7.out r e)
  clear HBK HR7 HD7 hg8 ho8
  have hW8 := below_in hBw hB8
  have hc8 : Cols w8.heap.size w8 v8 whole8 := RowC.cols hr8
  clear hr8
  refine (HK.out _ _ (hL.next hW8) hc8).mono ?_
  rintro e w9 ⟨rfl, hB⟩
  replace hB8 := below_in hB8 hB
  replace hs := (hs.below hB8).more hB8.size
  replace hl := (hl.below hB8).more hB8.size
  replace ho := (ho.below hB8).more hB8.size
  replace hBw := below_in hBw hB8
  have t1 : (convert 28 9 (.slice As 1 cs)).run Tryz.prog w9 = .ok (.string ⟨#[36]⟩) w9 := run_txt w9 hs
  have hc2 := cols_made w9
  have hB2 := allocs_below w9 (os_made w9)
  have hl2 := (hl.below hB2).more hB2.size
  clear hs hl hc8 hB hB8
  go_wp2_with (first
    | (go_at_call 15; refine (num_any _ _).mono ?_; rintro e w' ⟨rfl, rfl⟩)
    | fail)
  refine (HS.out _ _ _ hl2 hc2).mono ?_
  rintro e w10 ⟨rfl, hB10⟩
  have hB9 := below_in hB2 hB10
  have hcT := cols_turn w10
  have hBT := allocs_below w10 (os_turn w10)
  have ho2 := (ho.below (below_in hB9 hBT)).more (below_in hB9 hBT).size
  clear hl2 hc2 ho
  go_wp2_with fail
  refine (HZ.out _ _ _ ho2 hcT).mono ?_
  rintro e w11 ⟨rfl, hB11⟩
  go_wp2
  go_ret
  exact ⟨rfl, below_in hBw (below_in hB9 (below_in hBT hB11))⟩
end Go.Proofs.YtcgnhfiadeceiaaGreatDoor.T

namespace Go.Proofs.YtcgnhfiadeceiaaGreatDoor.T
open Go.RowKit Go.Shelf Go.Proofs.YtcgnhfiadeceiaaGreatDoor.C Go.Proofs.YtcgnhfiadeceiaaGreatDoor.E
set_option linter.unusedSimpArgs false
set_option linter.unusedVariables false

theorem lineS_in (p N li : Int) {R : Nat} (hRR : p - 1 = (R : Int)) : inL R N.toNat (lineS p N li) := by
  intro z hz
  unfold lineS at hz
  have h1 := flatC_mem' (List.mem_filter.1 hz).1
  have h2 := spanL_mem h1.1
  omega
theorem lineS_len (p li : Int) {R N : Nat} (hRR : (p - 1).toNat = R) (h16 : R ≤ 16) (hN : N ≤ 20) : (lineS p (N : Int) li).length ≤ 1000 := by
  unfold lineS
  have h := grid_flat 0 (N : Int) p
  rw [Int.sub_zero, Int.toNat_natCast, hRR] at h
  rw [← h]
  exact Nat.le_trans (List.length_filter_le _ _) (Nat.le_trans (grid_len 0 R N 0 h16 hN (by omega)) (by omega))
set_option maxRecDepth 100000 in
set_option maxHeartbeats 2000000 in
theorem lineSlant_any {B : Nat} (k p li : Int) (hR : RightC k p) (v1 : Value) (css : List (List (List UInt8))) (n : Nat) (w : World) (hB : B ≤ w.heap.size) (hC : Cols B w v1 css) (h1 : 0 < css.length) (h20 : css.length ≤ 20) (hG : Grid (p - 1).toNat n css) (hn : n ≤ 1000) :
    Calls Tryz.prog 45 #[.agg #[.int .i64 k, .int .i64 p], v1, .int .i64 li, .bool true] w fun e w' => ∃ u, e = .returned u ∧ Bytes w'.heap.size w' u (uponL n css (lineS p (css.length : Int) li)) ∧ Below w.heap.size w w' := by
  obtain ⟨p1, p2, s1, s2, m1, m2⟩ := hR.und
  obtain ⟨b1, off1, cap, rfl, hcap, hb1, hrow0⟩ := hC.at_ h1
  obtain ⟨R, hRR⟩ : ∃ R : Nat, p - 1 = (R : Int) := ⟨(p - 1).toNat, by omega⟩
  have hRt : (p - 1).toNat = R := by omega
  have hR16 : R ≤ 16 := by omega
  have hR2 : 2 ≤ R := by omega
  rw [hRt] at hG
  have HDG := Lib.hid (fun (x y : Nat) (hx : x < 20) (hy : y < R) (W : World) => refSlant_any k p x y hR ⟨by omega, by omega⟩ ⟨by omega, by omega⟩ W)
  have HIN := Lib.hid (lineS_in p (css.length : Int) li hRR)
  have HLL := Lib.hid (lineS_len p li hRt hR16 h20)
  have HEND : Hid ((Go.Proofs.YtcgnhfiadeceiaaGreatDoor.grid 0 R css.length 0).filter (fun z => decide ((z.2 - z.1) % p = li)) = lineS p (css.length : Int) li) := by
    have h := grid_flat 0 (css.length : Int) p
    rw [Int.sub_zero, Int.toNat_natCast, hRt] at h
    unfold Hid lineS
    rw [← h]
  have HUP := Lib.hid (fun (V : World) (vl : Value) (hV : Below w.heap.size w V) (hl : ReadA V vl (lineS p (css.length : Int) li)) => upon6_any (B := B) (.slice (some ⟨b1, off1, none⟩) css.length cap) vl css _ R n V (Nat.le_trans hB hV.size) (hC.below (hV.mono hB)) hl hG (by have := HIN.out; rwa [Int.toNat_natCast] at this) hn HLL.out (by omega) (by omega))
  -- the first cell
  obtain ⟨u1, hc1, hm1⟩ := hrow0 0 h1
  obtain ⟨hcr, hce⟩ := hG 0 h1
  obtain ⟨A3, cap3, rfl, _, _⟩ := id hm1
  obtain ⟨b2, off3, rfl, hb2, hrow3⟩ := many_at hm1 (by omega)
  obtain ⟨Aa, ca, hc3, _⟩ := hrow3 0 (by omega)
  rw [hcr, Nat.add_zero] at hc1
  rw [hce 0 (by omega), Nat.add_zero] at hc3
  have HD1 := Lib.hid (fun (V : World) (hV : Below w.heap.size w V) => (⟨(hV.cell (p := ⟨b1, off1, none⟩) (Nat.lt_of_lt_of_le hb1 hB)).trans hc1, (hV.cell (p := ⟨b2, off3, none⟩) (Nat.lt_of_lt_of_le hb2 hB)).trans hc3⟩ : V.cell? ⟨b1, off1, none⟩ = some (.slice (some ⟨b2, off3, none⟩) R cap3) ∧ V.cell? ⟨b2, off3, none⟩ = some (.slice Aa n ca)))
  have b0 := Blk.new w 37 #[.int .i64 k, .int .i64 p]
  have hBW := below_one w (.cells #[.int .i64 k, .int .i64 p] 37)
  have hwp : IntKind.i64.wrap (p - 1) = (R : Int) := by rw [IntWalk.i64_in _ (by omega)]; omega
  have hwp2 : wrap64 (p - 1) = (R : Int) := (IntWalk.wrap64_in _ (by omega)).trans hRR
  clear hm1 hrow3 hcr hce hc1 hc3 hrow0 hC hG hRt hR HIN HLL s1 s2 m1 m2
  generalize hq : (fun z : Int × Int => decide ((z.2 - z.1) % p = li)) = q at HEND
  have HQ := Lib.hid (fun x y => (congrFun hq (x, y) : decide ((y - x) % p = li) = q (x, y)))
  clear hq
  generalize css.length = N at *
  generalize lineS p (N : Int) li = want at *
  go_enter Tryz.func45, Tryz.ntmps45
  go_wp2_with fail
  go_loopw [9, 10] (fun v i wr => ∃ j : Nat, j ≤ N ∧ i = .int .i64 j ∧ OwnA wr (w.heap.size + 1) v ((Go.Proofs.YtcgnhfiadeceiaaGreatDoor.grid 0 R j 0).filter q) ∧ Blk wr w.heap.size 37 #[.int .i64 k, .int .i64 p] ∧ Below w.heap.size w wr) (fun _ i _ => N - (intOf i).toNat)
  case atStart => exact ⟨0, by omega, rfl, ownA_nil _ _, b0, hBW⟩
  case round =>
    clear b0 hBW
    obtain ⟨j, hj, rfl, ho, b0, hB0⟩ := hrel
    have c0 := b0.cell 0; have c1 := b0.cell 1; simp only [List.getElem?_toArray, List.getElem?_cons_zero, List.getElem?_cons_succ] at c0 c1
    by_cases hlt : j < N
    · have hdec : decide ((j : Int) < (N : Int)) = true := by simp; omega
      go_wp2
      go_loopw [9, 11] (fun v i wz => ∃ n : Nat, n ≤ R ∧ i = .int .i64 n ∧ OwnA wz (w.heap.size + 1) v ((Go.Proofs.YtcgnhfiadeceiaaGreatDoor.grid 0 R j n).filter q) ∧ Blk wz w.heap.size 37 #[.int .i64 k, .int .i64 p] ∧ Below w.heap.size w wz) (fun _ i _ => R - (intOf i).toNat)
      case atStart => exact ⟨0, by omega, rfl, ho, b0, hB0⟩
      case round =>
        clear ho b0 hB0 c0 c1
        obtain ⟨r, hr, rfl, ho, b0, hB0⟩ := hrel
        have c0 := b0.cell 0; have c1 := b0.cell 1; simp only [List.getElem?_toArray, List.getElem?_cons_zero, List.getElem?_cons_succ] at c0 c1
        by_cases hlt2 : r < R
        · have hdec2 : decide ((r : Int) < (R : Int)) = true := by simp; omega
          have hfl : ((Go.Proofs.YtcgnhfiadeceiaaGreatDoor.grid 0 R j r).filter q).length ≤ 500 := Nat.le_trans (List.length_filter_le _ _) (grid_len 0 R j r hR16 (by omega) (by omega))
          have hBx := below_one wr (.cells #[.int .i64 j, .int .i64 r] 71)
          have b2 := Blk.new wr 71 #[.int .i64 j, .int .i64 r]
          replace ho := ho.below hBx
          replace b0 := b0.below hBx b0.lt
          replace hB0 := below_in hB0 hBx
          have d0 := b0.cell 0; have d1 := b0.cell 1; simp only [List.getElem?_toArray, List.getElem?_cons_zero, List.getElem?_cons_succ] at d0 d1
          have z0 := b2.cell 0; have z1 := b2.cell 1; simp only [List.getElem?_toArray, List.getElem?_cons_zero, List.getElem?_cons_succ] at z0 z1
          have HM := Lib.hid (HDG.out j r (by omega) hlt2)
          have hqq := HQ.out (j : Int) (r : Int)
          generalize ((r : Int) - (j : Int)) % p = dg at *
          cases hqz : q ((j : Int), (r : Int)) with
          | false =>
            rw [hqz] at hqq
            have hdl : (dg == li) = false := by simpa using hqq
            have hnx : (Go.Proofs.YtcgnhfiadeceiaaGreatDoor.grid 0 R j (r + 1)).filter q = (Go.Proofs.YtcgnhfiadeceiaaGreatDoor.grid 0 R j r).filter q := by rw [grid_one, List.filter_append]; simp [hqz]
            generalize (Go.Proofs.YtcgnhfiadeceiaaGreatDoor.grid 0 R j r).filter q = l at *
            have HN := Lib.hid hnx
            clear hnx hqq
            go_wp2_with (go_at_call 76; refine (HM.out _).mono ?_; rintro e w3 ⟨rfl, hB1⟩; replace ho := ho.below hB1; replace b0 := b0.below hB1 b0.lt; replace hB0 := below_in hB0 hB1)
            go_roundw
            case rel => exact ⟨r + 1, by omega, by go_num, by rw [HN.out]; exact ho, b0, hB0⟩
            case measure => simp [intOf]; omega
          | true =>
            rw [hqz] at hqq
            have hdl : (dg == li) = true := by simpa using hqq
            have hnx : (Go.Proofs.YtcgnhfiadeceiaaGreatDoor.grid 0 R j (r + 1)).filter q = (Go.Proofs.YtcgnhfiadeceiaaGreatDoor.grid 0 R j r).filter q ++ [((j : Int), (r : Int))] := by rw [grid_one, List.filter_append]; simp [hqz]
            generalize (Go.Proofs.YtcgnhfiadeceiaaGreatDoor.grid 0 R j r).filter q = l at *
            have HN := Lib.hid hnx
            clear hnx hqq
            go_wp2_with fail
            refine (HM.out _).mono ?_
            rintro e w3 ⟨rfl, hB1⟩
            replace ho := ho.below hB1
            replace b0 := b0.below hB1 b0.lt
            replace b2 := b2.below hB1 b2.lt
            replace hB0 := below_in hB0 hB1
            clear c0 c1 z0 z1 d0 d1
            have z0 := b2.cell 0; have z1 := b2.cell 1; simp only [List.getElem?_toArray, List.getElem?_cons_zero, List.getElem?_cons_succ] at z0 z1
            have hBy := below_one w3 (.cells #[.int .i64 j, .int .i64 r] 71)
            have HO := Lib.hid (ho.below hBy)
            have HU := Lib.hid (Blk.new w3 71 #[.int .i64 j, .int .i64 r])
            replace b0 := b0.below hBy b0.lt
            replace hB0 := below_in hB0 hBy
            have hs3 := hB0.size
            have hs4 := b0.lt
            have ho4 := ho.own_le
            have hn0 := ho.ne (g := w.heap.size) (by omega)
            go_wp2_with (at_builtin; refine wpList_code _ rfl _ _ 68 71 (.agg #[.int .i64 0, .int .i64 0]) 16 rfl Tryz.underlying68 Tryz.infoAt rfl (w.heap.size + 1) _ _ rfl _ HO.out _ 1 _ _ rfl HU.out (by omega) (by omega) (by omega) ?_; intro v2 w2 hown2 hgrow2)
            go_roundw
            case rel => exact ⟨r + 1, by omega, by go_num, by rw [HN.out]; exact OwnA.push hown2, b0.grown hgrow2 hn0, hB0.grown hgrow2 hB0.size (fun g e => by have := ho4 g e; omega)⟩
            case measure => simp [intOf]; omega
        · obtain rfl : r = R := by omega
          have hdec2 : decide ((r : Int) < (r : Int)) = false := by simp
          go_wp2
          go_roundw
          case rel => exact ⟨j + 1, by omega, by go_num, by rw [grid_row]; exact ho, b0, hB0⟩
          case measure => simp [intOf]; omega
    · obtain rfl : j = N := by omega
      have hdec : decide ((j : Int) < (j : Int)) = false := by simp
      obtain ⟨d1, d2⟩ := HD1.out _ hB0
      rw [HEND.out] at ho
      have z1 : (0 : Int) < (j : Int) := by omega
      have z2 : (0 : Int) < (R : Int) := by omega
      have z3 : ¬ R = 0 := by omega
      have z4 : ¬ j = 0 := by omega
      go_wp2_with (go_at_call 43; refine (HUP.out _ _ hB0 ho.readA).mono ?_; rintro e w3 ⟨u, rfl, hu, hB1⟩)
      go_ret
      exact ⟨_, rfl, hu.bytes, below_in hB0 hB1⟩
set_option maxHeartbeats 400000 in
/-- The document's Slant. -/
theorem slant8_any {B : Nat} (p li : Int) (hp : RightC 3 p) (v1 : Value) (css : List (List (List UInt8))) (n : Nat) (w : World) (hB : B ≤ w.heap.size) (hC : Cols B w v1 css) (h1 : 0 < css.length) (h20 : css.length ≤ 20) (hG : Grid (p - 1).toNat n css) (hn : n ≤ 1000) :
    Calls Tryz.prog 19 #[.int .i64 p, v1, .int .i64 li] w fun e w' => ∃ u, e = .returned u ∧ Bytes w'.heap.size w' u (uponL n css (lineS p (css.length : Int) li)) ∧ Below w.heap.size w w' := by
  have HL := Lib.hid (lineSlant_any 3 p li hp v1 css n w hB hC h1 h20 hG hn)
  obtain ⟨A, cap, rfl, _, _⟩ := id hC
  clear hC hG
  go_enter Tryz.func19, Tryz.ntmps19
  go_wp2_with (go_at_call 45; refine HL.out.mono ?_; rintro e w1 ⟨u, rfl, hu, hB1⟩)
  go_ret
  exact ⟨_, rfl, hu, hB1⟩
def fromEnd (css : List (List (List UInt8))) (m : Nat) : List (List (List UInt8)) := css.take 1 ++ (css.drop (m + 1)).reverse
theorem fromEnd_len (css : List (List (List UInt8))) (m : Nat) : (fromEnd css m).length ≤ css.length + 1 := by
  unfold fromEnd
  simp only [List.length_append, List.length_take, List.length_reverse, List.length_drop]
  omega
theorem fromEnd_next (css : List (List (List UInt8))) {m : Nat} (h : m + 1 < css.length) : fromEnd css m = fromEnd css (m + 1) ++ [css[m + 1]?.getD []] := by
  unfold fromEnd
  rw [List.drop_eq_getElem_cons h, List.reverse_cons, ← List.append_assoc, List.getElem?_eq_getElem h]
  rfl
set_option maxRecDepth 100000 in
set_option maxHeartbeats 2000000 in
/-- The document's Over. -/
theorem over8_any {B : Nat} (v1 : Value) (css : List (List (List UInt8))) (w : World) (hB : B ≤ w.heap.size) (hC : Cols B w v1 css) (h0 : 0 < css.length) (h20 : css.length ≤ 24) :
    Calls Tryz.prog 20 #[v1] w fun e w' => ∃ u, e = .returned u ∧ Cols w'.heap.size w' u (overOf css) ∧ Below w.heap.size w w' := by
  obtain ⟨b1, off1, cap, rfl, hcap, hb1, hrow0⟩ := hC.at_ h0
  obtain ⟨u9, hc9, hm9⟩ := hrow0 0 h0
  obtain ⟨A9, cap9, rfl, _, _⟩ := id hm9
  rw [Nat.add_zero] at hc9
  have HFL := Lib.hid (fun m => fromEnd_len css m)
  have HFN := Lib.hid (fun m h => fromEnd_next css (m := m) h)
  have HST : Hid ([css[0]?.getD []] = fromEnd css (css.length - 1)) := by
    unfold Hid fromEnd
    rw [show css.length - 1 + 1 = css.length by omega, List.drop_length, List.reverse_nil, List.append_nil]
    cases css with
    | nil => exact absurd h0 (by simp)
    | cons c cs => rfl
  have HEN : Hid (fromEnd css 0 = overOf css) := rfl
  have HROW := Lib.hid hrow0
  have b0 := Blk.new w 50 #[.slice A9 (css[0]?.getD []).length cap9]
  have hBW := below_one w (.cells #[.slice A9 (css[0]?.getD []).length cap9] 50)
  have hr0 : RowC (fun _ => True) (w.alloc (.cells #[.slice A9 (css[0]?.getD []).length cap9] 50)) w.heap.size (.slice (some ⟨w.heap.size, 0, none⟩) 1 1) [css[0]?.getD []] := RowG.one b0 (Nat.le_refl _) (manyR.imp (manyR_iff.2 (hm9.below (hBW.mono hB))) fun b hb => by have h1 : b < B := hb; exact ⟨by simp; omega, fun e => by injection e with e; have e2 : b = w.heap.size := e; omega, trivial⟩)
  rw [HST.out] at hr0
  clear hrow0 hC b0 hm9
  generalize css[0]?.getD [] = c9 at *
  generalize hn0 : css.length = n0 at *
  have q1 : (0 : Int) < (n0 : Int) := by omega
  have q2 : wrap64 ((n0 : Int) - 1) = ((n0 - 1 : Nat) : Int) := by rw [IntWalk.wrap64_in _ (by omega)]; omega
  have q3 : IntKind.i64.wrap ((n0 : Int) - 1) = ((n0 - 1 : Nat) : Int) := by rw [IntWalk.i64_in _ (by omega)]; omega
  have q4 : ¬ n0 = 0 := by omega
  go_enter Tryz.func20, Tryz.ntmps20
  go_wp2
  go_loopw [3, 4] (fun v i wr => ∃ m : Nat, m ≤ n0 - 1 ∧ i = .int .i64 m ∧ RowC (fun _ => True) wr w.heap.size v (fromEnd css m) ∧ Below w.heap.size w wr) (fun _ i _ => (intOf i).toNat)
  case atStart => exact ⟨n0 - 1, Nat.le_refl _, by go_num, hr0, hBW⟩
  case round =>
    obtain ⟨m, hm, rfl, hrow, hBr⟩ := hrel
    clear hr0 hBW
    by_cases hlt : 0 < m
    · obtain ⟨m, rfl⟩ : ∃ k, m = k + 1 := ⟨m - 1, by omega⟩
      have hdec : decide ((0 : Int) < ((m + 1 : Nat) : Int)) = true := by first | (simp; done) | (simp; omega)
      have hdec2 : decide (((m + 1 : Nat) : Int) > (0 : Int)) = true := by first | (simp; done) | (simp; omega)
      obtain ⟨u1, hc1, hm1⟩ := HROW.out (m + 1) (by omega)
      obtain ⟨A4, cap4, rfl, _, _⟩ := id hm1
      have hc2 := (hBr.cell (p := ⟨b1, off1 + (m + 1), none⟩) (Nat.lt_of_lt_of_le hb1 hB)).trans hc1
      have hnx := HFN.out m (by omega)
      have hm2 : Many B wr _ _ := hm1.below (hBr.mono hB)
      have HVLE := Lib.hid (fun b e => RowG.own_le hrow b e)
      have hpl : (fromEnd css (m + 1)).length ≤ 100 := by have := HFL.out (m + 1); omega
      clear hc1 hm1
      generalize css[m + 1]?.getD [] = xs at *
      generalize fromEnd css (m + 1) = pre at *
      generalize xs.length = n7 at *
      have i1 : (0 : Int) ≤ ((m + 1 : Nat) : Int) := by omega
      have i2 : ((m + 1 : Nat) : Int) < (n0 : Int) := by omega
      have i3 : wrap64 (((m + 1 : Nat) : Int) - 1) = (m : Int) := by rw [IntWalk.wrap64_in _ (by omega)]; omega
      have i4 : IntKind.i64.wrap (((m + 1 : Nat) : Int) - 1) = (m : Int) := by rw [IntWalk.i64_in _ (by omega)]; omega
      have hcells : Below wr.heap.size wr (wr.alloc (.cells #[.slice A4 n7 cap4] 50)) := below_one wr _
      have hszr := hBr.size
      have HROWC := Lib.hid (RowG.below hrow hcells)
      have HBLK := Lib.hid (Blk.new wr 50 #[.slice A4 n7 cap4])
      have HCP : Hid (manyR.R (fun b => b < (wr.alloc (.cells #[.slice A4 n7 cap4] 50)).heap.size ∧ some b ≠ u3.ownBlock ∧ True) (wr.alloc (.cells #[.slice A4 n7 cap4] 50)) (.slice A4 n7 cap4) xs) :=
        SliceP.imp (hm2.below (hcells.mono (Nat.le_trans hB hszr))) fun b hb => ⟨by have hb' : b < B := hb; simp; omega, fun e => by have := HVLE.out b e.symm; have hb' : b < B := hb; omega, trivial⟩
      have HT1 := Lib.hid (Int.toNat_natCast (m + 1))
      generalize hk : ((m + 1 : Nat) : Int) = k at *
      have hkt : k.toNat = m + 1 := by omega
      clear hrow hm2
      go_wp2_with (at_builtin; refine wpList_pushC (T := 22) _ rfl _ _ rfl Tryz.underlying22 pre rfl HROWC.out wr.heap.size 50 _ xs rfl HBLK.out HCP.out (by omega) (by simp; omega) ?_; intro v' w2 hrow4 hgrow hown)
      go_roundw
      case rel => exact ⟨m, by omega, by go_num, by rw [hnx]; exact hrow4, below_grown (below_in hBr hcells) hgrow (by simp; omega) (fun g e => HVLE.out g e)⟩
      case measure => simp [intOf]; omega
    · obtain rfl : m = 0 := by omega
      rw [HEN.out] at hrow
      go_wp2
      go_ret
      exact ⟨_, rfl, RowC.cols hrow, hBr⟩
end Go.Proofs.YtcgnhfiadeceiaaGreatDoor.T

namespace Go.Proofs.YtcgnhfiadeceiaaGreatDoor.E
open Go.RowKit Go.Shelf Go.Proofs.YtcgnhfiadeceiaaGreatDoor.C Go.ChangeShapes Go.WideShapes
set_option linter.unusedSimpArgs false
set_option linter.unusedVariables false

theorem many_rows {w : World} {a : Addr} {len cap : Nat} (hl : len ≤ cap) {A : Nat → Option Addr} {L C : Nat → Nat} {Z : Nat → List Int}
    (h : ∀ r, r < cap → w.cell? (a.add r) = some (.slice (A r) (L r) (C r)) ∧ IsRow .u8 w (A r) (L r) (C r) (Z r)) : ∃ ls : List (List UInt8), Many w.heap.size w (.slice (some a) len cap) ls := by
  have each : ∀ r, ∃ l : List UInt8, r < cap → l.length = L r ∧ Bytes w.heap.size w (.slice (A r) (L r) (C r)) l := by
    intro r
    by_cases hr : r < cap
    · obtain ⟨l, h1, h2⟩ := row_bytes (h r hr).2
      exact ⟨l, fun _ => ⟨h1, h2⟩⟩
    · exact ⟨[], fun h => absurd h hr⟩
  let f : Nat → List UInt8 := fun r => (each r).choose
  have hf : ∀ r, r < cap → (f r).length = L r ∧ Bytes w.heap.size w (.slice (A r) (L r) (C r)) (f r) := fun r => (each r).choose_spec
  have hlen : ((List.range len).map f).length = len := by simp
  refine ⟨(List.range len).map f, some a, cap, by rw [hlen], by rw [hlen]; exact hl, fun hp => ?_⟩
  rw [hlen] at hp ⊢
  obtain ⟨b, off, spot⟩ := a
  have hc := (h 0 (by omega)).1
  have hspot : spot = none := by simpa [Addr.add] using World.cell?_spot hc
  subst hspot
  refine ⟨b, off, rfl, ?_, fun j hj => ⟨.slice (A j) (L j) (C j), ?_, ?_⟩⟩
  · have := block_lt_of_cell hc
    simpa [Addr.add] using this
  · rw [← addr_add]; exact (h j (by omega)).1
  · have e : ((List.range len).map f)[j]?.getD [] = f j := by
      rw [List.getElem?_map, List.getElem?_range hj]; rfl
    rw [e]
    exact (hf j (by omega)).2
theorem open_col {H : Type} {enc : TypeId × Value → H} {W : World} {base fuel : Nat} {v : Value} {x : DataW H × List MemPlace} (hf : DataW.trod enc Tryz.prog W base (fun _ => true) true fuel 50 [v] = some x) : ∃ ls, Many W.heap.size W v ls := by
  rcases Deep.open_int_rows Tryz.underlying50 Tryz.underlying28 Tryz.underlying5 (by kernel_rfl) (by kernel_rfl) hf with ⟨hcs, _⟩ | ⟨x, l, c, AA, LL, CC, ZZ, hcs, _, hl, hm, _, hrows⟩
  · obtain rfl : v = .slice none 0 0 := by simpa using hcs
    exact ⟨[], Many.nil_ _ _ _ _⟩
  · obtain rfl : v = .slice (some x) l c := by simpa using hcs
    refine many_rows hl (A := AA) (L := LL) (C := CC) (Z := ZZ) fun r hr => ?_
    obtain ⟨q1, q2, q3, q4, q5, q6, q7⟩ := hrows r hr
    refine ⟨q1, ?_⟩
    cases hAr : AA r with
    | none =>
      have hC := q6 hAr
      refine .inl ⟨rfl, by omega, hC, List.eq_nil_of_length_eq_zero (by omega)⟩
    | some x => exact .inr ⟨x, rfl, q2, q3, q4, fun i hi => (q7 x hAr).2 i (by omega), q5⟩
theorem open_cols {H : Type} {enc : TypeId × Value → H} {W : World} {base fuel : Nat} {v : Value} {x : DataW H × List MemPlace} (hf : DataW.trod enc Tryz.prog W base (fun _ => true) true fuel 22 [v] = some x) : ∃ css, Cols W.heap.size W v css := by
  rcases Deep.open_slice1 Tryz.underlying22 (by kernel_rfl) hf with ⟨hcs, _⟩ | ⟨a, len, cap, m, n, V, D, Pl, hcs, hb, hl, hm, hmm, hxx, hx⟩
  · obtain rfl : v = .slice none 0 0 := by simpa using hcs
    exact ⟨[], none, 0, rfl, Nat.le_refl _, fun h => absurd h (by simp)⟩
  · obtain rfl : v = .slice (some a) len cap := by simpa using hcs
    simp only [if_true] at hmm
    have hmm' := hmm.symm
    subst hmm'
    have each : ∀ r, ∃ ls : List (List UInt8), r < cap → W.cell? (a.add r) = some (V r) ∧ Many W.heap.size W (V r) ls := by
      intro r
      by_cases hr : r < cap
      · obtain ⟨ls, h1⟩ := open_col (hx r hr).2
        exact ⟨ls, fun _ => ⟨(hx r hr).1, h1⟩⟩
      · exact ⟨[], fun h => absurd h hr⟩
    let f : Nat → List (List UInt8) := fun r => (each r).choose
    have hff : ∀ r, r < cap → W.cell? (a.add r) = some (V r) ∧ Many W.heap.size W (V r) (f r) := fun r => (each r).choose_spec
    have hlen : ((List.range len).map f).length = len := by simp
    refine ⟨(List.range len).map f, some a, cap, by rw [hlen], by rw [hlen]; exact hl, fun hp => ?_⟩
    rw [hlen] at hp ⊢
    obtain ⟨b, off, spot⟩ := a
    have hc := (hff 0 (by omega)).1
    have hspot : spot = none := by simpa [Addr.add] using World.cell?_spot hc
    subst hspot
    refine ⟨b, off, rfl, ?_, fun j hj => ⟨V j, ?_, ?_⟩⟩
    · have := block_lt_of_cell hc
      simpa [Addr.add] using this
    · rw [← addr_add]; exact (hff j (by omega)).1
    · have e : ((List.range len).map f)[j]?.getD [] = f j := by
        rw [List.getElem?_map, List.getElem?_range hj]; rfl
      rw [e]
      exact (hff j (by omega)).2
theorem wf_i64 {n : Int} (h : (Lit.int .i64 n).wf = true) : -9223372036854775808 ≤ n ∧ n ≤ 9223372036854775807 := by
  have := bounds_i64 h
  omega
end Go.Proofs.YtcgnhfiadeceiaaGreatDoor.E

