/- A range whose round is a known act; what abides from a block on. The laws of EVENODD: what they share: num, code, right. The columns of EVENODD: the adjuster; a cell of the column of diagonals. The columns of EVENODD: what is encoded. EVENODD: Adjuster and Encode. The laws of EVENODD: the chapter's rows. The laws of ring: num, right, told, the chapter's rows. ring: the document's Put. ring: the mathematics of turned, stretched and slackened columns, byte by byte. The laws of ring: contracts as the laws want them. ring: the document's Rows; what the law of rows keeps. -/
import Derived.Test.YtckfepmahjgmfaaDoorRRG6
import Derived.Test.YtckfepmahjgmfaaDoorRRMA
import Derived.Test.YtckfepmahjgmfaaDoorRRG2
import Derived.Laws.EntriesVeiled
import Derived.Test.YtckfepmahjgmfaaDoorRRG1
import Derived.Test.YtckfepmahjgmfaaDoorRRG8
import Derived.Test.YtckfepmahjgmfaaDoorRRG5
namespace Go.Proofs.YtckfepmahjgmfaaDoor.T
open Go.RowKit Go.Shelf Go.Proofs.YtckfepmahjgmfaaDoor.C Go.Proofs.YtckfepmahjgmfaaDoor.E
set_option linter.unusedSimpArgs false
set_option linter.unusedVariables false

theorem wpIn_rangeActT {α : Type} {F : Fence} {n : Nat} {P : Program} {g : Operand} {ps : Array Tmp} {assign body : Code} {Q : Exit → Act → World → Prop} {a : Act} {w : World}
    (hro : F.round = none) (h1 : 1 ≤ n) {gf : Nat} {lb : Array Value} (hg : a.eval g = .func (.func gf) #[] lb) (hFg : F.fn gf) (eg : ∀ args w, (callFunc gf args).run P w = .ok (.enter gf args) w)
    {encs : α → Array Value} {Ok : List α → α → World → Prop} {Kp : World → World → Prop} {S Sp : List α → Prop} {N : Nat} {w0 : World} (hseq : SeqT F (n - 1) P gf lb encs Ok Kp S Sp N w0)
    (hKt : ∀ {A B C : World}, Kp A B → Kp B C → Kp A C) (hKb : ∀ (W : World) (l : Nat) (ob : Obj), w.heap.size ≤ l → l < W.heap.size → (∃ r, W.heap[l]? = some (.loop r)) → Kp W (W.putObj l ob)) (hb0 : Below w0.heap.size w0 w) (hps : ∀ x, (encs x).size = ps.size)
    (I : List α → World → Prop) (Ix : Code → List α → World → Prop) (hI : FarO w.heap.size (fun pre o W => (o = fun _ => False) ∧ I pre W)) (hIx : ∀ c, FarO w.heap.size (fun pre o W => (o = fun _ => False) ∧ Ix c pre W)) (h0 : I [] w)
    (act : α → Act) (Pr : List α → α → World → Prop) (hPr : ∀ pre x (W : World) l ob r, W.heap[l]? = some (.loop r) → Pr pre x W → Pr pre x (W.putObj l ob))
    (hassign : ∀ (l : Nat) (pre : List α) (x : α) (W : World) (K : Act → World → Prop), w.heap.size ≤ W.heap.size → I pre W → Ok pre x W → (∀ W', Below W.heap.size W W' → Kp W W' → I pre W' → Pr pre x W' → K (act x) W') →
      assign.wpIn (F.inRound l) (n - 1 - 1) P (Exit.then K (fun _ _ _ => False)) { tmps := (ps.zip (encs x)).foldl (fun t (p, v) => t.setIfInBounds p v) a.tmps, defers := [] } W)
    (hbody : ∀ (l : Nat) (pre : List α) (x : α) (W : World), w.heap.size ≤ W.heap.size → I pre W → Pr pre x W → pre.length < N →
      body.wpIn (F.inRound l) (n - 1 - 1) P (postT w.heap.size Kp (fun pre o W => (o = fun _ => False) ∧ I pre W) (fun c pre o W => (o = fun _ => False) ∧ Ix c pre W) (pre ++ [x]) (fun _ => False) W) (act x) W)
    (hdone : ∀ (D : Nat) (xs : List α) (W : World), w.heap.size ≤ D → S xs → I xs W → W.heap[D]? = some (.deferred (some [])) → Q .normal { a with defers := { target := .collected D, args := #[] } :: a.defers } W)
    (hstop : ∀ (D : Nat) (c : Code) (pre : List α) (W : World), w.heap.size ≤ D → Sp pre → Ix c pre W → W.heap[D]? = some (.deferred (some [])) → c.wpIn F n P Q { a with defers := { target := .collected D, args := #[] } :: a.defers } W) :
    (Code.rangeFunc g ps assign body).wpIn F n P Q a w :=
  wpIn_rangeT hro h1 hg hFg eg hseq hKt hKb hb0 hps _ _ hI hIx (fun _ => False) (fun _ h => h.elim) ⟨rfl, h0⟩ (fun pre x o a' W => Pr pre x W ∧ a' = act x)
    (fun pre x o a' W l ob r hl _ _ h => ⟨hPr _ _ _ _ _ _ hl h.1, h.2⟩)
    (fun l pre x o W K hs hol hi hok hK => hassign l pre x W K hs hi.2 hok fun W' hb hk hi2 hp => hK _ _ (SinceO.below hb) hk ⟨hi.1, hi2⟩ ⟨hp, rfl⟩)
    (fun pre o W h => by obtain ⟨rfl, _⟩ := h; exact rowO_none W) (fun c pre o W h => by obtain ⟨rfl, _⟩ := h; exact rowO_none W)
    (fun l pre x o a' W hs hi ⟨hp, e⟩ hlt => by
      obtain ⟨rfl, hi⟩ := hi
      subst e
      exact hbody l pre x W hs hi hp hlt)
    (fun D xs o W hD _ hs hi hK _ => hdone D xs W hD hs hi.2 hK) (fun D c pre o W hD _ hs hi hK _ => hstop D c pre W hD hs hi.2 hK)
/-- What abides from a block on: cells below it. -/
theorem farO_turn {β : Type} {B n₀ N : Nat} {V : World} (q : β → Prop) (f : β → Array Value) (t : TypeId) (hN : N < B) (hn : n₀ ≤ V.heap.size) (hB : n₀ ≤ B) : FarO B (fun (s : β) (o : Nat → Prop) W => (o = fun _ => False) ∧ (q s ∧ Blk W N t (f s) ∧ Below n₀ V W)) := fun s o X Y row hs hgr hr =>
  ⟨hs.1, hs.2.1, hs.2.2.1.grown hgr (fun e => by have := (hr N e.symm).1; omega), hs.2.2.2.grown hgr (Nat.le_trans hn hs.2.2.2.size) fun r e => by have := (hr r e).1; omega⟩
end Go.Proofs.YtckfepmahjgmfaaDoor.T

namespace Go.Proofs.YtckfepmahjgmfaaDoor.E
open Go.RowKit Go.Shelf Go.Proofs.YtckfepmahjgmfaaDoor.C
set_option linter.unusedSimpArgs false
set_option linter.unusedVariables false
attribute [local go_sem] Oper.semAt_some

theorem Cols.more {B B' : Nat} {W : World} {v : Value} {css : List (List (List UInt8))} (h : Cols B W v css) (hB : B ≤ B') : Cols B' W v css := by
  obtain ⟨A, cap, e, hc, hA⟩ := h
  refine ⟨A, cap, e, hc, fun hp => ?_⟩
  obtain ⟨b, off, e2, hb, hcell⟩ := hA hp
  exact ⟨b, off, e2, by omega, fun j hj => by obtain ⟨u, h1, h2⟩ := hcell j hj; exact ⟨u, h1, h2.more hB⟩⟩
end Go.Proofs.YtckfepmahjgmfaaDoor.E

namespace Go.Proofs.YtckfepmahjgmfaaDoor.E
open Go.RowKit Go.Shelf Go.Proofs.YtckfepmahjgmfaaDoor.C
set_option linter.unusedSimpArgs false
set_option linter.unusedVariables false

def allocs (w : World) (os : List Obj) : World := os.foldl World.alloc w
theorem allocs_below (w : World) (os : List Obj) : Below w.heap.size w (allocs w os) := by
  induction os generalizing w with
  | nil => exact Below.refl _ _
  | cons o os ih => exact below_in (below_one w o) (ih (w.alloc o))
theorem allocs_blk (w : World) (os : List Obj) (k : Nat) (t : TypeId) (cs : Array Value) (h : os[k]? = some (.cells cs t)) : Blk (allocs w os) (w.heap.size + k) t cs := by
  induction os generalizing w k with
  | nil => cases h
  | cons o os ih =>
    cases k with
    | zero => cases h; exact (Blk.new w t cs).below (allocs_below _ os) (by simp)
    | succ k =>
      have h2 := ih (w.alloc o) k h
      rw [World.size_alloc] at h2
      rw [show w.heap.size + (k + 1) = w.heap.size + 1 + k by omega]
      exact h2
end Go.Proofs.YtckfepmahjgmfaaDoor.E

namespace Go.Proofs.YtckfepmahjgmfaaDoor.Rg
open Go.RowKit Go.Shelf Go.Proofs.YtckfepmahjgmfaaDoor.C Go.Proofs.YtckfepmahjgmfaaDoor.E Go.Proofs.YtckfepmahjgmfaaDoor.T
set_option linter.unusedSimpArgs false
set_option linter.unusedVariables false
attribute [local go_sem] Oper.semAt_some

set_option maxHeartbeats 400000 in
theorem num_any (n : Int) (w : World) : Calls Tryd.prog 25 #[.int .i64 n] w fun e w' => e = .returned (.int .i64 n) ∧ w = w' := by
  go_enter Tryd.func25, Tryd.ntmps25
  go_wp2
  go_ret
  exact ⟨rfl, rfl⟩
/-- The cells of the chapter's rows. -/
def osC (x y : Int) (w : World) : List Obj := [.cells #[.int .u8 x] 5, .cells #[.int .u8 y] 5,
  .cells #[.slice (some ⟨w.heap.size + 0, 0, none⟩) 1 1, .slice (some ⟨w.heap.size + 1, 0, none⟩) 1 1] 48]
theorem many_C (a b : UInt8) (x y : Int) (hx : x = a.toNat) (hy : y = b.toNat) (w : World) : Many (allocs w (osC x y w)).heap.size (allocs w (osC x y w)) (.slice (some ⟨w.heap.size + 2, 0, none⟩) 2 2) [[a], [b]] := by
  subst hx hy
  refine two_many (allocs_blk w (osC _ _ w) 2 _ _ rfl) ?_ ?_ (allocs_blk w (osC _ _ w) 2 _ _ rfl).lt
  · have k := allocs_blk w (osC a.toNat b.toNat w) 0 _ _ rfl
    exact ⟨_, 1, rfl, Nat.le_refl _, fun _ => ⟨_, 0, rfl, k.lt, fun j hj => by obtain rfl : j = 0 := (by have : j < 1 := hj; omega); exact k.cell _⟩⟩
  · have k := allocs_blk w (osC a.toNat b.toNat w) 1 _ _ rfl
    exact ⟨_, 1, rfl, Nat.le_refl _, fun _ => ⟨_, 0, rfl, k.lt, fun j hj => by obtain rfl : j = 0 := (by have : j < 1 := hj; omega); exact k.cell _⟩⟩
theorem row_t1 : rowK 1 2 (fun _ r => xorOf [mvF 3 1 (wholeF 2 1 [[1], [2]]) r, mvF 3 1 (wholeF 2 1 [[1], [2]]) 2]) = [[2], [3]] := by decide +kernel
theorem row_t2 : rowK 1 2 (fun _ r => xorOf [mvF 3 2 (wholeF 2 1 [[1], [2]]) r, mvF 3 2 (wholeF 2 1 [[1], [2]]) 2]) = [[3], [1]] := by decide +kernel
theorem row_s : rowK 2 2 (fun i r => if i = 0 then xorOf [wholeF 2 1 [[1], [2]] r, wholeF 2 1 [[1], [2]] 2] else xorOf [mvF 3 1 (wholeF 2 1 [[1], [2]]) r, mvF 3 1 (wholeF 2 1 [[1], [2]]) 2]) = [[3], [1]] := by decide +kernel
theorem row_d : slackL 3 2 (wholeF 2 1 [[3], [1]]) 1 = [[1], [2]] := by decide +kernel
theorem rows_w : rowsF 3 (walkN 3 (3 - 1) 2) = [1, 0] := by decide +kernel
/-- The rows' numbers behind one another. -/
def valN (l : List Int) : Int := l.foldl (fun n k => 10 * n + k + 1) 0
theorem valN_snoc (l : List Int) (x : Int) : valN (l ++ [x]) = 10 * valN l + x + 1 := by unfold valN; rw [List.foldl_append]; rfl
theorem col_ok (a b : UInt8) : ColOk 3 1 [[a], [b]] := ⟨by decide, ⟨rfl, fun k hk => (by
  have hk2 : k = 0 ∨ k = 1 := by have : k < 2 := hk; omega
  rcases hk2 with rfl | rfl <;> exact ⟨⟨by show 1 ≤ 1; omega, by show 1 ≤ 64; omega⟩, rfl⟩)⟩, by decide, by decide⟩
theorem below_to {g : Nat} {A X Y : World} (h : Below g A X) (h' : Below X.heap.size X Y) (hg : g ≤ X.heap.size := by omega) : Below g A Y := h.trans (h'.mono hg)
set_option maxRecDepth 100000 in
set_option maxHeartbeats 4000000 in
theorem works_any (w : World) (hL : Laid w) : Calls Tryd.prog 10 #[] w fun e w' => e = .returned (.bool true) ∧ Below w.heap.size w w' := by
  have HT1 := Lib.hid (fun (U : World) (v : Value) (hU : Laid U) (hM : Many U.heap.size U v [[1], [2]]) => by
    have h := turn_yes 3 2 1 rfl [[1], [2]] v 1 (by decide) (by decide) (col_ok 1 2) U hU (Nat.le_refl _) hM
    rw [row_t1] at h; rw [show ((3 : Nat) : Int) = 3 from rfl] at h; exact h)
  have HT2 := Lib.hid (fun (U : World) (v : Value) (hU : Laid U) (hM : Many U.heap.size U v [[1], [2]]) => by
    have h := turn_yes 3 2 1 rfl [[1], [2]] v 2 (by decide) (by decide) (col_ok 1 2) U hU (Nat.le_refl _) hM
    rw [row_t2] at h; rw [show ((3 : Nat) : Int) = 3 from rfl] at h; exact h)
  have HST := Lib.hid (fun (U : World) (v : Value) (hU : Laid U) (hM : Many U.heap.size U v [[1], [2]]) => by
    have h := stretch_yes 3 2 1 rfl [[1], [2]] v 1 (by decide) (by decide) (col_ok 1 2) U hU (Nat.le_refl _) hM
    rw [row_s] at h; rw [show ((3 : Nat) : Int) = 3 from rfl] at h; exact h)
  have HSD := Lib.hid (fun (U : World) (v : Value) (hU : Laid U) (hM : Many U.heap.size U v [[3], [1]]) => by
    have h := slacken_yes 3 2 1 rfl [[3], [1]] v 1 (by decide) (by decide) (col_ok 3 1) (by decide) U hU (Nat.le_refl _) hM
    rw [row_d] at h; rw [show ((3 : Nat) : Int) = 3 from rfl] at h; exact h)
  have HSZ := Lib.hid (fun (U : World) (v : Value) (hU : Laid U) (hM : Many U.heap.size U v [[3], [1]]) => by
    have h := slacken_zero 3 2 1 rfl [[3], [1]] v 3 (by decide) (by decide) (col_ok 3 1) (by decide) U hU (Nat.le_refl _) hM
    rw [show ((3 : Nat) : Int) = 3 from rfl] at h; exact h)
  have HRW := Lib.hid (fun (U : World) (hU : Laid U) => rowsT_yes 3 2 (by decide) (by decide) (by decide) U hU)
  have HSM := Lib.hid (fun (U : World) (v v2 : Value) (a b : UInt8) (h1 : Many U.heap.size U v [[a], [b]]) (h2 : Many U.heap.size U v2 [[a], [b]]) => sameCol_any v v2 _ _ U h1 h2 (by show 2 ≤ 100000; omega) (by show 2 ≤ 100000; omega))
  simp only [decide_true] at HSM
  refine (callsIn_wide (n := 9)).1 ?_
  refine callsIn_of_wp_marks Tryd.func10 rfl trivial ?_ rfl
  simp only [Tryd.ntmps10, List.size_toArray, List.length_cons, List.length_nil, Nat.reduceAdd, Nat.reduceSub, Array.replicate_succ, Array.replicate_zero, List.push_toArray, List.append_toArray, List.nil_append, List.cons_append]
  have hc := many_C 1 2 1 2 rfl rfl w
  have hBw := allocs_below w (osC 1 2 w)
  gi_wp2_with fail
  refine ⟨trivial, (callsIn_wide.2 (HT1.out _ _ (hL.next hBw) hc)).mono ?_⟩
  rintro e w1 ⟨ua, rfl, hf, hB⟩
  have ha := hf.many
  replace hc := (hc.below hB).more hB.size
  replace hBw := below_in hBw hB
  obtain ⟨A1, k1, rfl, _, _⟩ := id hf
  clear hf hB
  gi_wp2_with fail
  refine ⟨trivial, (callsIn_wide.2 (HT2.out _ _ (hL.next hBw) hc)).mono ?_⟩
  rintro e w2 ⟨ub, rfl, hf, hB⟩
  have hb := hf.many
  replace hc := (hc.below hB).more hB.size
  replace ha := (ha.below hB).more hB.size
  replace hBw := below_in hBw hB
  obtain ⟨A2, k2, rfl, _, _⟩ := id hf
  clear hf hB
  gi_wp2_with fail
  refine ⟨trivial, (callsIn_wide.2 (HST.out _ _ (hL.next hBw) hc)).mono ?_⟩
  rintro e w3 ⟨us, rfl, hf, hB⟩
  have hs := hf.many
  replace hc := (hc.below hB).more hB.size
  replace ha := (ha.below hB).more hB.size
  replace hb := (hb.below hB).more hB.size
  replace hBw := below_in hBw hB
  obtain ⟨A3, k3, rfl, _, _⟩ := id hf
  clear hf hB
  gi_wp2_with fail
  refine ⟨trivial, (callsIn_wide.2 (HSD.out _ _ (hL.next hBw) hs)).mono ?_⟩
  rintro e w4 ⟨ud, rfl, hf, hB⟩
  have hd := hf.many
  replace hc := (hc.below hB).more hB.size
  replace ha := (ha.below hB).more hB.size
  replace hb := (hb.below hB).more hB.size
  replace hs := (hs.below hB).more hB.size
  replace hBw := below_in hBw hB
  obtain ⟨A4, k4, rfl, _, _⟩ := id hf
  clear hf hB
  gi_wp2_with fail
  refine ⟨trivial, (callsIn_wide.2 (HSZ.out _ _ (hL.next hBw) hs)).mono ?_⟩
  rintro e w5 ⟨rfl, hB⟩
  have hB6 := below_one w5 (.cells #[.int .i64 0] 3)
  have b6 := Blk.new w5 3 #[.int .i64 0]
  replace hc := (hc.below hB).more hB.size
  replace ha := (ha.below hB).more hB.size
  replace hb := (hb.below hB).more hB.size
  replace hs := (hs.below hB).more hB.size
  replace hd := (hd.below hB).more hB.size
  replace hBw := below_in hBw hB
  have hbw5 := hBw.size
  clear hB
  gi_wp2_with fail
  have hmore : ∀ X : World, Below w5.heap.size w5 X → Many X.heap.size X (.slice A1 2 k1) [[2], [3]] ∧ Many X.heap.size X (.slice A2 2 k2) [[3], [1]] ∧ Many X.heap.size X (.slice A3 2 k3) [[3], [1]] ∧ Many X.heap.size X (.slice A4 2 k4) [[1], [2]] ∧ Many X.heap.size X (.slice (some ⟨w.heap.size + 1 + 1, 0, none⟩) 2 2) [[1], [2]] := fun X hB => ⟨(ha.below hB).more hB.size, (hb.below hB).more hB.size, (hs.below hB).more hB.size, (hd.below hB).more hB.size, (hc.below hB).more hB.size⟩
  have HMO := Lib.hid hmore
  clear hmore ha hb hs hd hc
  obtain ⟨W6, hW6⟩ : ∃ x, w5.alloc (.cells #[.int .i64 0] 3) = x := ⟨_, rfl⟩
  rw [hW6] at b6 hB6
  rw [hW6]
  have s6 : w5.heap.size < W6.heap.size := b6.lt
  replace hBw := below_in hBw hB6
  clear hW6
  obtain ⟨g, hg⟩ : ∃ x, w5.heap.size = x := ⟨_, rfl⟩
  rw [hg] at s6 b6 HMO hB6 hbw5 ⊢
  clear hg
  refine ⟨trivial, (callsIn_wide.2 (HRW.out _ (hL.next hBw))).mono ?_⟩
  rintro e w7 ⟨v7, rfl, ⟨gf7, lb7, rfl, _, heq7, _⟩, hB7⟩
  have hq7 := heq7 w7
  gi_wp2_with fail
  refine ⟨trivial, (callsIn_wide.2 (HRW.out _ (hL.next (below_in hBw hB7)))).mono ?_⟩
  rintro e w8 ⟨v8, rfl, ⟨gf, lb, rfl, hen, _, hsq⟩, hB8⟩
  have HSQ := Lib.hid hsq
  clear hsq hq7 heq7
  have h68 := below_in hB7 hB8
  have hs78 := hB7.size
  have hs88 := hB8.size
  have b8 : Blk w8 g 3 #[.int .i64 (valN [])] := b6.below h68 b6.lt
  clear b6
  have hwl : (walkN 3 (3 - 1) 2).length = 3 := by decide +kernel
  gi_wp2_with fail
  refine wpIn_rangeActT (N := (walkN 3 (3 - 1) 2).length) rfl (by omega) (gf := gf) (lb := lb) rfl trivial hen (HSQ.out 8 (by omega)) (fun h h' => h.trans h') (fun W l ob h1 _ _ => Keep.putFar W (by omega) ob) (Below.refl _ _) (fun _ => rfl)
    (fun pre X => (0 ≤ valN pre ∧ valN pre + 1 ≤ 100 ^ pre.length) ∧ Blk X g 3 #[.int .i64 (valN pre)] ∧ Below g w8 X)
    (fun c pre X => False ∧ Blk X g 3 #[.int .i64 (valN pre)] ∧ Below g w8 X)
    (farO_turn (fun pre : List Int => (0 ≤ valN pre ∧ valN pre + 1 ≤ 100 ^ pre.length)) (fun pre => #[.int .i64 (valN pre)]) 3 b8.lt (Nat.le_of_lt b8.lt) (Nat.le_of_lt b8.lt))
    (fun c => farO_turn (fun pre : List Int => False) (fun pre => #[.int .i64 (valN pre)]) 3 b8.lt (Nat.le_of_lt b8.lt) (Nat.le_of_lt b8.lt))
    ⟨⟨by decide, by decide⟩, b8, Below.refl _ _⟩ ?actA
    (fun pre z X => 0 ≤ z ∧ z < 3 - 1)
    (fun pre z W l ob r hl h => h)
    ?assignA ?bodyA ?doneA ?stopA
  case assignA =>
    intro l' pre z X K hsz hI2 hok hK
    have hK2 := hK X (Below.refl _ _) (Keep.refl _ _ _) hI2 hok
    clear hK hI2 hok
    gi_wp2
    exact hK2
  case bodyA =>
    rintro l' pre z X hsz ⟨⟨v0, v1⟩, hn, hB⟩ ⟨z0, z1⟩ hlen
    have cn := hn.one
    have fn := hn.frozen 0
    have hp1 : (100 : Int) ^ pre.length ≤ 10000 := by
      have : pre.length = 0 ∨ pre.length = 1 ∨ pre.length = 2 := by omega
      rcases this with h | h | h <;> rw [h] <;> decide
    have hvs := valN_snoc pre z
    have hlt := hn.lt
    have hps : (100 : Int) ^ (pre ++ [z]).length = 100 ^ pre.length * 100 := by rw [List.length_append]; exact Int.pow_succ ..
    have hT : Hid ((0 ≤ valN (pre ++ [z]) ∧ valN (pre ++ [z]) + 1 ≤ 100 ^ (pre ++ [z]).length) ∧ Blk (X.setCell ⟨g, 0, none⟩ (.int .i64 (10 * valN pre + z + 1))) g 3 #[.int .i64 (valN (pre ++ [z]))] ∧ Below g w8 (X.setCell ⟨g, 0, none⟩ (.int .i64 (10 * valN pre + z + 1)))) := by
      refine ⟨⟨by omega, by rw [hps]; omega⟩, ?_, hB.setCell (Nat.le_refl _) _⟩
      rw [hvs]
      exact hn.set_ 0 _
    have hks : Keep W6.heap.size (w8.heap.size - W6.heap.size) X (X.setCell ⟨g, 0, none⟩ (.int .i64 (10 * valN pre + z + 1))) := Keep.setCell X (by show g < W6.heap.size; omega) _
    have hks7 : Keep w7.heap.size (w8.heap.size - w7.heap.size) X (X.setCell ⟨g, 0, none⟩ (.int .i64 (10 * valN pre + z + 1))) := Keep.setCell X (by show g < w7.heap.size; omega) _
    have hss : Go.Proofs.YtckfepmahjgmfaaDoor.T.SinceO w8.heap.size (fun _ => False) X (X.setCell ⟨g, 0, none⟩ (.int .i64 (10 * valN pre + z + 1))) := ⟨by simp, fun b h1 h2 h3 => Below.heap_setCell X _ (.int .i64 (10 * valN pre + z + 1)) b (by show b ≠ g; omega)⟩
    generalize valN pre = vn at *
    clear hvs hps
    try dsimp only
    gi_wp2
    first
      | exact ⟨fun _ => False, Go.Proofs.YtckfepmahjgmfaaDoor.T.FreshO.refl _ _, hss, hks7, rfl, hT.out⟩
      | exact ⟨fun _ => False, Go.Proofs.YtckfepmahjgmfaaDoor.T.FreshO.refl _ _, hss, hks, rfl, hT.out⟩
  case stopA =>
    rintro D c pre X hD hsp ⟨h, _⟩ hK
    exact h.elim
  case doneA =>
    rintro D xs X hD hxs ⟨_, hn, hB⟩ hK
    subst hxs
    rw [rows_w, show valN [1, 0] = 21 from rfl] at hn
    have hB8X : Below g w5 X := (hB6.trans (h68.mono (by omega))).trans hB
    have hX0 := Below.refl X.heap.size X
    have cn := hn.one
    have hlt := hn.lt
    gi_wp2_with fail
    refine ⟨trivial, (callsIn_wide.2 (num_any _ _)).mono ?_⟩
    rintro e w' ⟨rfl, rfl⟩
    gi_wp2_with fail
    refine ⟨trivial, (callsIn_wide.2 (num_any _ _)).mono ?_⟩
    rintro e w' ⟨rfl, rfl⟩
    gi_wp2_with fail
    refine ⟨trivial, (callsIn_wide.2 (num_any _ _)).mono ?_⟩
    rintro e w' ⟨rfl, rfl⟩
    gi_wp2_with fail
    refine ⟨trivial, (callsIn_wide.2 (num_any _ _)).mono ?_⟩
    rintro e w' ⟨rfl, rfl⟩
    gi_wp2_with fail
    have hf1 := many_C 2 3 2 3 rfl rfl X
    have hBf := below_in hX0 (allocs_below X (osC 2 3 X))
    refine ⟨trivial, (callsIn_wide.2 (HSM.out _ _ _ 2 3 (HMO.out _ (below_to hB8X hBf)).1 hf1)).mono ?_⟩
    rintro e y1 ⟨rfl, hB⟩
    have hX1 := below_in hBf hB
    clear hB hBf
    clear hf1
    gi_wp2_with fail
    have hf2 := many_C 3 1 3 1 rfl rfl y1
    have hBf := below_in hX1 (allocs_below y1 (osC 3 1 y1))
    refine ⟨trivial, (callsIn_wide.2 (HSM.out _ _ _ 3 1 (HMO.out _ (below_to hB8X hBf)).2.1 hf2)).mono ?_⟩
    rintro e y2 ⟨rfl, hB⟩
    have hX2 := below_in hBf hB
    clear hB hBf
    clear hf2
    gi_wp2_with fail
    have hBf := hX2
    refine ⟨trivial, (callsIn_wide.2 (HSM.out _ _ _ 3 1 (HMO.out _ (below_to hB8X hBf)).2.2.1 (HMO.out _ (below_to hB8X hBf)).2.1)).mono ?_⟩
    rintro e y3 ⟨rfl, hB⟩
    have hX3 := below_in hBf hB
    clear hB hBf
    gi_wp2_with fail
    have hBf := hX3
    refine ⟨trivial, (callsIn_wide.2 (HSM.out _ _ _ 1 2 (HMO.out _ (below_to hB8X hBf)).2.2.2.1 (HMO.out _ (below_to hB8X hBf)).2.2.2.2)).mono ?_⟩
    rintro e y4 ⟨rfl, hB⟩
    have hX4 := below_in hBf hB
    clear hB hBf
    gi_wp2_with fail
    refine ⟨trivial, (callsIn_wide.2 (num_any _ _)).mono ?_⟩
    rintro e w' ⟨rfl, rfl⟩
    have cn4 := (hn.below hX4 hn.lt).one
    gi_wp2_with fail
    have hDl := (Array.getElem?_eq_some_iff.1 hK).1
    have hKf := (hX4.block D hDl).trans hK
    refine ⟨by simp, .inl ⟨_, _, rfl, run_takeDeferred hKf, ?_⟩⟩
    exact ⟨.bool true, by simp [results, Tryd.results10, go_sem], rfl, (((hBw.trans (h68.mono (by omega))).trans (hB.mono hbw5)).trans (hX4.mono (by omega))).trans (belowK_b (w := w) (Nat.le_refl _) _ D _ _ (by omega) hKf rfl rfl)⟩
end Go.Proofs.YtckfepmahjgmfaaDoor.Rg

namespace Go.Proofs.YtckfepmahjgmfaaDoor.Rg
open Go.RowKit Go.Shelf Go.Maps Go.Proofs.YtckfepmahjgmfaaDoor.C Go.Proofs.YtckfepmahjgmfaaDoor.E
set_option linter.unusedSimpArgs false
set_option linter.unusedVariables false
attribute [local go_sem] Oper.semAt_some

theorem map_next {α β : Type} (g : α → β) (d : α) (xs : List α) {k : Nat} (hk : k < xs.length) : (xs.map g).take (k + 1) = (xs.map g).take k ++ [g (xs[k]?.getD d)] := by
  rw [List.take_succ_eq_append_getElem (by rw [List.length_map]; exact hk), List.getElem_map, List.getElem?_eq_getElem hk]
  rfl
section
variable {Q : Nat → Prop} {base : Nat} {v : Value}
end
end Go.Proofs.YtckfepmahjgmfaaDoor.Rg

namespace Go.Proofs.YtckfepmahjgmfaaDoor.Rg
open Go.RowKit Go.Shelf Go.Proofs.YtckfepmahjgmfaaDoor.C Go.Proofs.YtckfepmahjgmfaaDoor.E
set_option linter.unusedSimpArgs false
set_option linter.unusedVariables false

/-- A function of rows, whatever number they are told by; nought in the last one. -/
def Per (P : Nat) (x : Int → UInt8) : Prop := (∀ r s : Int, r % (P : Int) = s % (P : Int) → x r = x s) ∧ x (-1) = 0
def tu (a : Int) (x : Int → UInt8) (r : Int) : UInt8 := x (r - a) ^^^ x (-1 - a)
def st (a : Int) (x : Int → UInt8) (r : Int) : UInt8 := x r ^^^ tu a x r
theorem mod_sub {P : Nat} {r s : Int} (h : r % (P : Int) = s % (P : Int)) (a : Int) : (r - a) % (P : Int) = (s - a) % (P : Int) := by
  rw [Int.sub_emod, h, ← Int.sub_emod]
theorem Per.tu {P : Nat} {x : Int → UInt8} (h : Per P x) (a : Int) : Per P (tu a x) :=
  ⟨fun r s e => by unfold Rg.tu; rw [h.1 _ _ (mod_sub e a)], by unfold Rg.tu; exact UInt8.xor_self⟩
theorem Per.add {P : Nat} {x y : Int → UInt8} (h : Per P x) (h' : Per P y) : Per P (fun r => x r ^^^ y r) :=
  ⟨fun r s e => by show x r ^^^ y r = x s ^^^ y s; rw [h.1 _ _ e, h'.1 _ _ e], by show x (-1) ^^^ y (-1) = 0; rw [h.2, h'.2]; rfl⟩
theorem Per.st {P : Nat} {x : Int → UInt8} (h : Per P x) (a : Int) : Per P (st a x) := h.add (h.tu a)
/-- The rows in the order of steps, the last one left out. -/
theorem rows_fin : ∀ p ∈ prm, ∀ s ∈ List.range 17, (s : Int) < p → s ≠ 0 → rowsF p (walkL p.toNat (p - 1) (s : Int)) = (List.range (p - 1).toNat).map (fun k : Nat => (p - 1 + ((k : Int) + 1) * (s : Int)) % p) := by decide +kernel
theorem mul_mod (P : Nat) (x m b : Int) : (x + m * (b % (P : Int))) % (P : Int) = (x + m * b) % (P : Int) := by
  rw [Int.add_emod, Int.mul_emod, Int.emod_emod_of_dvd _ (Int.dvd_refl _), ← Int.mul_emod, ← Int.add_emod]
theorem rows_are {P Q : Nat} (hQ : P = Q + 1) (hp : (P : Int) ∈ prm) {b : Int} (hb : b % (P : Int) ≠ 0) : rowsF P (walkN P ((P : Int) - 1) b) = (List.range Q).map (fun k : Nat => ((P : Int) - 1 + ((k : Int) + 1) * b) % (P : Int)) := by
  have hpb := prm_bounds hp
  have h0 := Int.emod_nonneg b (show (P : Int) ≠ 0 by omega)
  have h1 := Int.emod_lt_of_pos b (show (0 : Int) < P by omega)
  obtain ⟨s, hs⟩ : ∃ s : Nat, b % (P : Int) = (s : Int) := ⟨(b % (P : Int)).toNat, by omega⟩
  have h := rows_fin _ hp s (List.mem_range.2 (by omega)) (by omega) (by omega)
  rw [walkN_yes (fine_one.2 ⟨hp, by omega, by omega⟩), hs, h, show ((P : Int) - 1).toNat = Q by omega]
  refine List.map_congr_left fun k _ => ?_
  rw [← hs, mul_mod]
end Go.Proofs.YtckfepmahjgmfaaDoor.Rg

namespace Go.Proofs.YtckfepmahjgmfaaDoor.Rg
open Go.RowKit Go.Shelf Go.Proofs.YtckfepmahjgmfaaDoor.C Go.Proofs.YtckfepmahjgmfaaDoor.E
set_option linter.unusedSimpArgs false
set_option linter.unusedVariables false
attribute [local go_sem] Oper.semAt_some

/-- What columns are that may be. -/
theorem right_yes {p : Int} {css : List (List (List UInt8))} (h : RightD p css) (h0 : 0 < css.length) : ∃ P Q n : Nat, p = (P : Int) ∧ P = Q + 1 ∧ (P : Int) ∈ prm ∧ 1 ≤ n ∧ n ≤ 64 ∧ (firstC css).length = n ∧ ∀ j, j < css.length → GoodC Q n (css[j]?.getD []) := by
  have hb := prm_bounds h.1
  have hg := (rightD_iff h.1 h0).1 h
  obtain ⟨P, rfl⟩ : ∃ P : Nat, p = (P : Int) := ⟨p.toNat, by omega⟩
  have h1 := ((hg 0 h0).2 0 (by omega))
  refine ⟨P, P - 1, _, rfl, by omega, h.1, ?_, ?_, rfl, fun j hj => ?_⟩
  · rw [← h1.2]; exact h1.1.1
  · rw [← h1.2]; exact h1.1.2
  · have := hg j hj
    rwa [show ((P : Int) - 1).toNat = P - 1 by omega] at this
variable {P Q n : Nat}
theorem rem_zero {p : Nat} (a : Int) (h : a % (p : Int) = 0) : (a.tmod (p : Int)) = 0 := Int.tmod_eq_zero_of_dvd (Int.dvd_of_emod_eq_zero h)
theorem rem_not {p : Nat} (a : Int) (h : a % (p : Int) ≠ 0) : (a.tmod (p : Int)) ≠ 0 := fun e => h (Int.emod_eq_zero_of_dvd (Int.dvd_of_tmod_eq_zero e))
end Go.Proofs.YtckfepmahjgmfaaDoor.Rg

namespace Go.Proofs.YtckfepmahjgmfaaDoor.Rg
open Go.RowKit Go.Shelf Go.Proofs.YtckfepmahjgmfaaDoor.C Go.Proofs.YtckfepmahjgmfaaDoor.E
set_option linter.unusedSimpArgs false
set_option linter.unusedVariables false
attribute [local go_sem] Oper.semAt_some

/-- The rows of the document. -/
def rowsX (P Q : Nat) (o : Nat) : List Int := (List.range Q).map fun k : Nat => ((P : Int) - 1 + ((k : Int) + 1) * (o : Int)) % (P : Int)
theorem rowsX_len (P Q o : Nat) : (rowsX P Q o).length = Q := by unfold rowsX; simp
theorem rowsX_next (P Q o : Nat) {k : Nat} (hk : k < Q) : (rowsX P Q o).take (k + 1) = (rowsX P Q o).take k ++ [((P : Int) - 1 + ((k + 1 : Nat) : Int) * (o : Int)) % (P : Int)] := by
  unfold rowsX
  rw [map_next _ 0 _ (by rw [List.length_range]; exact hk), List.getElem?_range hk]
  rfl
theorem rowsX_is {P Q : Nat} (hQ : P = Q + 1) (hp : (P : Int) ∈ prm) {b : Int} (hb : b % (P : Int) ≠ 0) {o : Nat} (ho : b % (P : Int) = (o : Int)) : rowsX P Q o = rowsF P (walkN P ((P : Int) - 1) b) := by
  rw [rows_are hQ hp hb]
  unfold rowsX
  refine List.map_congr_left fun k _ => ?_
  rw [← ho, mul_mod]
theorem none_fin : ∀ p ∈ prm, rowsF p (walkL p.toNat (p - 1) 0) = [] := by decide +kernel
theorem rows_none {P : Nat} (hp : (P : Int) ∈ prm) {b : Int} (hb : b % (P : Int) = 0) : rowsF P (walkN P ((P : Int) - 1) b) = [] := by
  have hpb := prm_bounds hp
  rw [walkN_yes (fine_one.2 ⟨hp, by omega, by omega⟩), hb]
  exact none_fin _ hp
set_option maxRecDepth 100000 in
set_option maxHeartbeats 2000000 in
theorem rowsD_any (P Q o : Nat) (hQ : P = Q + 1) (hp : (P : Int) ∈ prm) (b : Int) (y1 : -9223372036854775808 ≤ b) (y2 : b ≤ 9223372036854775807) (ho : b % (P : Int) = (o : Int)) (w : World) :
    Calls Tryd.prog 23 #[.int .i64 (P : Int), .int .i64 b] w fun e w' => ∃ v, e = .returned v ∧ OwnI w' w.heap.size v (rowsX P Q o) ∧ Below w.heap.size w w' := by
  have hpb := prm_bounds hp
  have hoP : o < P := by have := Int.emod_lt_of_pos b (show (0 : Int) < P by omega); omega
  have HO1 := Lib.hid (fun W => rof_any (P : Int) b W (by omega) (by omega) y1 y2)
  rw [ho] at HO1
  have hPn : ((P : Int) == 0) = false := by rw [beq_eq_false_iff_ne]; omega
  have hPz : (P : Int) ≠ 0 := by omega
  have HQ := Lib.hid hQ
  clear hQ ho hp
  go_enter Tryd.func23, Tryd.ntmps23
  go_wp2_with fail
  go_loopw [5, 6] (fun v i wr => ∃ k : Nat, 1 ≤ k ∧ k ≤ P ∧ i = .int .i64 k ∧ OwnI wr w.heap.size v ((rowsX P Q o).take (k - 1)) ∧ Below w.heap.size w wr) (fun _ i _ => P - (intOf i).toNat)
  case atStart => exact ⟨1, Nat.le_refl _, by omega, rfl, ownI_nil _ _, Below.refl _ _⟩
  case round =>
    obtain ⟨k, hk1, hk, rfl, hown, hB⟩ := hrel
    by_cases hlt : k < P
    · have hdec : decide ((k : Int) < (P : Int)) = true := by simp; omega
      have i1 : (0 : Int) ≤ (k : Int) := by omega
      have i2 : (k : Int) ≤ 17 := by omega
      have i3 : (0 : Int) ≤ (o : Int) := by omega
      have i4 : (o : Int) ≤ 17 := by omega
      have z0 : (0 : Int) ≤ (k : Int) * (o : Int) := Int.mul_nonneg i1 i3
      have z1 : (k : Int) * (o : Int) ≤ 17 * 17 := Int.mul_le_mul i2 i4 i3 (by omega)
      have HT : Hid ((rowsX P Q o).take (k + 1 - 1) = (rowsX P Q o).take (k - 1) ++ [((P : Int) - 1 + (k : Int) * (o : Int)) % (P : Int)]) := by
        obtain ⟨m, rfl⟩ : ∃ m, k = m + 1 := ⟨k - 1, by omega⟩
        exact rowsX_next P Q o (by have := HQ.out; omega)
      have w1' : IntKind.i64.wrap ((k : Int) * (o : Int)) = (k : Int) * (o : Int) := IntWalk.i64_in _ (by omega)
      have w2' : IntKind.i64.wrap ((P : Int) - 1 + (k : Int) * (o : Int)) = (P : Int) - 1 + (k : Int) * (o : Int) := IntWalk.i64_in _ (by omega)
      have w0' : IntKind.i64.wrap ((P : Int) - 1) = (P : Int) - 1 := IntWalk.i64_in _ (by omega)
      have hrem : ((P : Int) - 1 + (k : Int) * (o : Int)).tmod (P : Int) = ((P : Int) - 1 + (k : Int) * (o : Int)) % (P : Int) := Int.tmod_eq_emod_of_nonneg (by omega)
      have hlen : ((rowsX P Q o).take (k - 1)).length ≤ 17 := by rw [List.length_take, rowsX_len]; omega
      generalize ((P : Int) - 1 + (k : Int) * (o : Int)) % (P : Int) = x at *
      have HO := Lib.hid (hown.grown_ (World.grownBy_alloc wr (.cells #[.int .i64 x] 3) none))
      have HU := Lib.hid (Blk.one (Blk.new wr 3 #[.int .i64 x]))
      go_wp2_with (first
        | (go_at_call 29; refine (HO1.out _).mono ?_; rintro e w1 ⟨rfl, rfl⟩)
        | (at_builtin; refine wpList_one _ rfl _ _ 37 3 (.int .i64 0) 8 rfl Tryd.underlying37 Tryd.infoInt rfl w.heap.size _ _ rfl _ HO.out ⟨wr.heap.size, 0, none⟩ 1 _ rfl HU.out rfl (by omega) (by omega) (by have := hB.size; simp; omega) ?_; intro v2 w2 hown2 hgrow2 _))
      go_roundw
      case rel =>
        refine ⟨k + 1, by omega, by omega, by go_num, ?_, below_grown (hB.alloc hB.size _) hgrow2 (by have := hB.size; simp; omega) (fun g e => (World.ownsRow.lt HO.out g e).1)⟩
        unfold OwnI
        rw [HT.out, List.map_append, List.length_append]
        exact hown2
      case measure => simp [intOf]; omega
    · have hkP : k - 1 = Q := by have := HQ.out; omega
      have hdec : decide ((k : Int) < (P : Int)) = false := by simp; omega
      rw [hkP, List.take_of_length_le (by rw [rowsX_len]; exact Nat.le_refl _)] at hown
      clear hkP
      go_wp2
      go_ret
      exact ⟨_, rfl, hown, hB⟩
/-- What stands at a turn's head. -/
def TurnR (w w8 : World) (g1 g2 : Nat) (many : Int) (Aw : Option Addr) (cw : Nat) (L : List Int) (V : World) : Prop :=
  Blk V w.heap.size 3 #[.int .i64 many] ∧ Blk V g1 4 #[.bool false] ∧ Blk V g2 37 #[.slice Aw L.length cw] ∧ Ints V.heap.size V (.slice Aw L.length cw) L ∧ Below w.heap.size w V ∧ Below w8.heap.size w8 V
theorem TurnR.next {w w8 V V' : World} {g1 g2 cw : Nat} {many : Int} {Aw : Option Addr} {L : List Int} (h : TurnR w w8 g1 g2 many Aw cw L V) (hB : Below V.heap.size V V') : TurnR w w8 g1 g2 many Aw cw L V' := by
  obtain ⟨h1, h2, h3, h4, h5, h6⟩ := h
  exact ⟨h1.below hB h1.lt, h2.below hB h2.lt, h3.below hB h3.lt, (h4.below hB).more hB.size, below_in h5 hB, below_in h6 hB⟩
theorem not_prefix (L : List Int) (pre : List Int) (x : Int) (h : pre.length < L.length → x ≠ L[pre.length]?.getD 0) : ¬ (pre ++ [x] <+: L) := by
  rintro ⟨t, ht⟩
  have hlen : pre.length < L.length := by
    have := congrArg List.length ht
    rw [List.length_append, List.length_append] at this
    simp at this
    omega
  refine h hlen ?_
  have e := congrArg (fun z : List Int => z[pre.length]?) ht
  rw [List.append_assoc, List.getElem?_append_right (Nat.le_refl _), Nat.sub_self] at e
  simp at e
  rw [← e]; rfl
end Go.Proofs.YtckfepmahjgmfaaDoor.Rg

