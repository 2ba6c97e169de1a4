/- ring: a settled cell. ring: a range whose round is a known act and whose body keeps no row of its own; columns that are moved. ring: walks by a step that has an inverse; columns turned, stretched, slackened, byte by byte. ring: a column moved. ring: rows that lie apart from some blocks; what is made row by row. -/
import Derived.Test.YtckfepmahjgmfaaDoorRRG2
import Derived.Test.YtckfepmahjgmfaaDoorRRG1
import Derived.Test.YtckfepmahjgmfaaDoorRRMA
import Derived.Test.YtckfepmahjgmfaaDoorRRCA
namespace Go.Proofs.YtckfepmahjgmfaaDoor.Rg
open Go.RowKit Go.Shelf Go.Maps Go.Proofs.YtckfepmahjgmfaaDoor.C Go.Proofs.YtckfepmahjgmfaaDoor.E
set_option linter.unusedSimpArgs false
set_option linter.unusedVariables false
attribute [local go_sem] Oper.semAt_some

theorem two_many {W : World} {B g : Nat} {t : TypeId} {va vb : Value} {a b : List UInt8} (h : Blk W g t #[va, vb]) (h1 : Bytes B W va a) (h2 : Bytes B W vb b) (hg : g < B) : Many B W (.slice (some ⟨g, 0, none⟩) 2 2) [a, b] := by
  refine ⟨some ⟨g, 0, none⟩, 2, rfl, by show 2 ≤ 2; omega, fun _ => ⟨g, 0, rfl, hg, fun j hj => ?_⟩⟩
  have hj2 : j < 2 := hj
  rcases (by omega : j = 0 ∨ j = 1) with rfl | rfl
  · exact ⟨va, h.cell 0, h1⟩
  · exact ⟨vb, h.cell 1, h2⟩
theorem two_ok {a b : List UInt8} (hl : b.length = a.length) (h1 : 1 ≤ a.length) (h64 : a.length ≤ 64) : XorOk [a, b] := by
  refine ⟨by simp, by show Cell a; unfold Cell; omega, fun j hj => ?_⟩
  have hj2 : j < 2 := hj
  rcases (by omega : j = 0 ∨ j = 1) with rfl | rfl
  · rfl
  · exact hl
theorem fresh_more {a b : Nat} {W : World} {v : Value} {l : List UInt8} (h : Fresh a W v l) (hb : b ≤ a) : Fresh b W v l := by
  obtain ⟨A, cap, e, hc, hA⟩ := h
  refine ⟨A, cap, e, hc, fun hp => ?_⟩
  obtain ⟨b', off, e2, hb1, hb2, hcell⟩ := hA hp
  exact ⟨b', off, e2, by omega, hb2, hcell⟩
theorem ws_get {vs : List Value} (hl : vs.length = 18) (r : Nat) (hr : r < 17) : ((vs.drop 1).take 17)[r]? = vs[r + 1]? := by
  rw [List.getElem?_take_of_lt hr, List.getElem?_drop, Nat.add_comm]
set_option maxRecDepth 100000 in
set_option maxHeartbeats 4000000 in
theorem settled_any {B : Nat} (P Q n : Nat) (hQ : P = Q + 1) (hP : P ≤ 17) (f : Nat → List UInt8) (vs : List Value) (row : Nat) (hrow : row < P) (h1 : 1 ≤ n) (h64 : n ≤ 64) (w : World) (hB : B ≤ w.heap.size) (hV : ColV B w P n f vs) :
    Calls Tryd.prog 55 #[.agg vs.toArray, .int .i64 (row : Int)] w fun e w' => ∃ u, e = .returned u ∧ Fresh w.heap.size w' u (xorOf [f row, f Q]) ∧ Below w.heap.size w w' := by
  obtain ⟨hl, h0, hr, h1c⟩ := hV
  obtain ⟨n1, u1, g1, y1⟩ := hr row hrow
  obtain ⟨n2, u2, g2, y2⟩ := hr Q (by omega)
  obtain ⟨A1, c1, e1, _, _⟩ := id y1
  obtain ⟨A2, c2, e2, _, _⟩ := id y2
  rw [n1] at e1
  rw [n2] at e2
  subst e1 e2
  obtain ⟨ws, hws⟩ : ∃ ws, (vs.drop 1).take 17 = ws := ⟨_, rfl⟩
  have hwl : ws.length = 17 := by rw [← hws, List.length_take, List.length_drop]; omega
  have k1 : ws[row]? = some (.slice A1 n c1) := by rw [← hws, ws_get hl row (by omega), g1]
  have k2 : ws[Q]? = some (.slice A2 n c2) := by rw [← hws, ws_get hl Q (by omega), g2]
  have hBz := below_one w (.cells vs.toArray 57)
  have bz := Blk.new w 57 vs.toArray
  obtain ⟨wb, hwb⟩ : ∃ x, w.alloc (.cells vs.toArray 57) = x := ⟨_, rfl⟩
  rw [hwb] at hBz bz
  have HC1 := Lib.hid (fun U => cell_any ws row _ hwl k1 U)
  have HC2 := Lib.hid (fun U => cell_any ws Q _ hwl k2 U)
  have HLA := Lib.hid (fun U => last_any P Q hQ vs hP h0 U)
  have HSS : Hid (∀ U, Below wb.heap.size wb U → (fun U : World => LoadIs Tryd.prog 57 ⟨w.heap.size, 0, none⟩ (.agg vs.toArray) U ∧ LoadIs Tryd.prog 55 ⟨w.heap.size, 1, none⟩ (.agg ws.toArray) U) U) := fun U hU => by
    have b := bz.below hU bz.lt
    refine ⟨?_, ?_⟩
    · exact load_col0 b hl
    · have := load_whole b 1 (by omega)
      rwa [hws] at this
  have HUP := Lib.hid (fun (U V : World) (hU : Below wb.heap.size wb U) (hV : Below U.heap.size U V) (bE : Blk V U.heap.size 48 #[.slice A1 n c1, .slice A2 n c2]) => by
    have hUV := below_in hBz (below_in hU hV)
    have hm := two_many bE ((y1.below (hUV.mono hB)).more (Nat.le_trans hB hUV.size)) ((y2.below (hUV.mono hB)).more (Nat.le_trans hB hUV.size)) bE.lt
    exact upon_any _ _ V (Nat.le_refl _) hm (by show 2 ≤ 1000; omega) (two_ok (by omega) (by omega) (by omega)))
  have hBx := (Below.refl wb.heap.size wb).drew
  have HF := Lib.hid (hBz.size)
  clear hl h0 hr h1c hws hwl k1 k2 g1 g2 bz n1 n2 hP hrow y1 y2
  refine (callsIn_wide (n := 9)).1 ?_
  refine callsIn_of_wp_marks Tryd.func55 rfl trivial ?_ rfl
  simp only [Tryd.ntmps55, List.size_toArray, List.length_cons, List.length_nil, Nat.reduceAdd, Nat.reduceSub, Array.replicate_succ, Array.replicate_zero, List.push_toArray, List.append_toArray, List.nil_append, List.cons_append]
  gi_wp2_with fail
  have hS : (fun U : World => LoadIs Tryd.prog 57 ⟨w.heap.size, 0, none⟩ (.agg vs.toArray) U ∧ LoadIs Tryd.prog 55 ⟨w.heap.size, 1, none⟩ (.agg ws.toArray) U) wb.drew := HSS.out _ hBx
  refine wpIn_mono (region_HF (Q := NoPanic _) (S := (fun U : World => LoadIs Tryd.prog 57 ⟨w.heap.size, 0, none⟩ (.agg vs.toArray) U ∧ LoadIs Tryd.prog 55 ⟨w.heap.size, 1, none⟩ (.agg ws.toArray) U)) (by kernel_rfl) ?_) NoPanic.imp
  refine anyHF_take (i := 0) (d := 5) (v := .pointer (some ⟨w.heap.size, 1, none⟩)) (by kernel_rfl) rfl (by kernel_rfl) (by kernel_rfl) (by kernel_rfl) rfl (fun _ _ _ h => h) ⟨Or.inl ⟨by rfl, fun w hS => by obtain ⟨h0, h1⟩ := hS; go_simp⟩, fun _ => rfl⟩ hS ?_
  simp only [List.setIfInBounds_toArray, List.set_cons_zero, List.set_cons_succ]
  refine anyHF_take (i := 1) (d := 6) (v := .agg ws.toArray) (by kernel_rfl) rfl (by kernel_rfl) (by kernel_rfl) (by kernel_rfl) rfl (fun _ _ _ h => h) ⟨Or.inl ⟨by rfl, fun w hS => by obtain ⟨h0, h1⟩ := hS; exact exec_load rfl rfl (by first | exact h0 | exact h1)⟩, fun _ => rfl⟩ hS ?_
  simp only [List.setIfInBounds_toArray, List.set_cons_zero, List.set_cons_succ]
  refine anyHF_take (i := 2) (d := 7) (v := .int .i64 (row : Int)) (by kernel_rfl) rfl (by kernel_rfl) (by kernel_rfl) (by kernel_rfl) rfl (fun _ _ _ h => h) ⟨Or.inl ⟨by rfl, fun w hS => by obtain ⟨h0, h1⟩ := hS; go_simp⟩, fun _ => rfl⟩ hS ?_
  simp only [List.setIfInBounds_toArray, List.set_cons_zero, List.set_cons_succ]
  refine anyHF_take (i := 4) (d := 9) (v := .pointer (some ⟨w.heap.size, 1, none⟩)) (by kernel_rfl) rfl (by kernel_rfl) (by kernel_rfl) (by kernel_rfl) rfl (fun _ _ _ h => h) ⟨Or.inl ⟨by rfl, fun w hS => by obtain ⟨h0, h1⟩ := hS; go_simp⟩, fun _ => rfl⟩ hS ?_
  simp only [List.setIfInBounds_toArray, List.set_cons_zero, List.set_cons_succ]
  refine anyHF_take (i := 5) (d := 10) (v := .agg ws.toArray) (by kernel_rfl) rfl (by kernel_rfl) (by kernel_rfl) (by kernel_rfl) rfl (fun _ _ _ h => h) ⟨Or.inl ⟨by rfl, fun w hS => by obtain ⟨h0, h1⟩ := hS; exact exec_load rfl rfl (by first | exact h0 | exact h1)⟩, fun _ => rfl⟩ hS ?_
  simp only [List.setIfInBounds_toArray, List.set_cons_zero, List.set_cons_succ]
  refine anyHF_take (i := 6) (d := 11) (v := .agg vs.toArray) (by kernel_rfl) rfl (by kernel_rfl) (by kernel_rfl) (by kernel_rfl) rfl (fun _ _ _ h => h) ⟨Or.inl ⟨by rfl, fun w hS => by obtain ⟨h0, h1⟩ := hS; exact exec_load rfl rfl (by first | exact h0 | exact h1)⟩, fun _ => rfl⟩ hS ?_
  simp only [List.setIfInBounds_toArray, List.set_cons_zero, List.set_cons_succ]
  refine anyHF_one (i := 3) (by kernel_rfl) rfl (by kernel_rfl) (by rfl) ?_
  gi_wp2_with fail
  refine ⟨trivial, (callsIn_wide.2 (HC1.out _)).mono ?_⟩
  rintro e w1 ⟨rfl, hB1⟩
  replace hBx := below_in hBx hB1
  clear hS
  have hS : (fun U : World => LoadIs Tryd.prog 57 ⟨w.heap.size, 0, none⟩ (.agg vs.toArray) U ∧ LoadIs Tryd.prog 55 ⟨w.heap.size, 1, none⟩ (.agg ws.toArray) U) w1 := HSS.out _ hBx
  gi_wp2
  try (refine ⟨hS, ?_⟩)
  refine anyHF_one (i := 7) (by kernel_rfl) rfl (by kernel_rfl) (by rfl) ?_
  gi_wp2_with fail
  refine ⟨trivial, (callsIn_wide.2 (HLA.out w1)).mono ?_⟩
  rintro e w2 ⟨rfl, hB2⟩
  replace hBx := below_in hBx hB2
  clear hS
  have hS : (fun U : World => LoadIs Tryd.prog 57 ⟨w.heap.size, 0, none⟩ (.agg vs.toArray) U ∧ LoadIs Tryd.prog 55 ⟨w.heap.size, 1, none⟩ (.agg ws.toArray) U) w2 := HSS.out _ hBx
  gi_wp2
  try (refine ⟨hS, ?_⟩)
  refine anyHF_one (i := 8) (by kernel_rfl) rfl (by kernel_rfl) (by rfl) ?_
  gi_wp2_with fail
  refine ⟨trivial, (callsIn_wide.2 (HC2.out w2)).mono ?_⟩
  rintro e w3 ⟨rfl, hB3⟩
  replace hBx := below_in hBx hB3
  clear hS
  have hS : (fun U : World => LoadIs Tryd.prog 57 ⟨w.heap.size, 0, none⟩ (.agg vs.toArray) U ∧ LoadIs Tryd.prog 55 ⟨w.heap.size, 1, none⟩ (.agg ws.toArray) U) w3 := HSS.out _ hBx
  gi_wp2
  try (refine ⟨hS, ?_⟩)
  refine anyHF_one (i := 9) (by kernel_rfl) rfl (by kernel_rfl) (by rfl) ?_
  have hBe : Below w3.heap.size w3 (w3.alloc (.cells #[.slice A1 n c1, .slice A2 n c2] 48)) := below_one w3 _
  have bE : Blk (w3.alloc (.cells #[.slice A1 n c1, .slice A2 n c2] 48)) w3.heap.size 48 #[.slice A1 n c1, .slice A2 n c2] := Blk.new w3 _ _
  obtain ⟨w4, hew4⟩ : ∃ x, (w3.alloc (.cells #[.slice A1 n c1, .slice A2 n c2] 48)) = x := ⟨_, rfl⟩
  rw [hew4] at hBe bE
  have hup := HUP.out w3 w4 hBx hBe bE
  replace hBx := below_in hBx hBe
  clear hS
  have hS : (fun U : World => LoadIs Tryd.prog 57 ⟨w.heap.size, 0, none⟩ (.agg vs.toArray) U ∧ LoadIs Tryd.prog 55 ⟨w.heap.size, 1, none⟩ (.agg ws.toArray) U) w4 := HSS.out _ hBx
  gi_wp2
  try rw [hew4]
  try (refine ⟨hS, ?_⟩)
  refine anyHF_one (i := 10) (by kernel_rfl) rfl (by kernel_rfl) (by rfl) ?_
  gi_wp2_with fail
  refine ⟨trivial, (callsIn_wide.2 (hup)).mono ?_⟩
  rintro e w5 ⟨u, rfl, hF, hB5⟩
  have hszx := hBx.size
  replace hBx := below_in hBx hB5
  clear hS
  have hS : (fun U : World => LoadIs Tryd.prog 57 ⟨w.heap.size, 0, none⟩ (.agg vs.toArray) U ∧ LoadIs Tryd.prog 55 ⟨w.heap.size, 1, none⟩ (.agg ws.toArray) U) w5 := HSS.out _ hBx
  gi_wp2
  try (refine ⟨hS, ?_⟩)
  refine anyHF_one (i := 11) (by kernel_rfl) rfl (by kernel_rfl) (by rfl) ?_
  gi_wp2
  refine anyHF_done (by kernel_rfl) ?_ _
  refine NoPanic.normal ?_
  gi_wp2
  refine ⟨_, by simp [results, Tryd.results55, go_sem], u, rfl, fresh_more hF ?_, below_in hBz hBx⟩
  have h3 := HF.out
  omega
end Go.Proofs.YtckfepmahjgmfaaDoor.Rg

namespace Go.Proofs.YtckfepmahjgmfaaDoor.Rg
open Go.RowKit Go.Shelf Go.Proofs.YtckfepmahjgmfaaDoor.C Go.Proofs.YtckfepmahjgmfaaDoor.E
set_option linter.unusedSimpArgs false
set_option linter.unusedVariables false

theorem wpIn_rangeActO {α : Type} {F : Fence} {n : Nat} {P : Program} {g : Operand} {ps : Array Tmp} {assign body : Code} {Q : Exit → Act → World → Prop} {a : Act} {w : World}
    (hro : F.round = none) (h1 : 1 ≤ n) {gf : Nat} {lb : Array Value} (hg : a.eval g = .func (.func gf) #[] lb) (hFg : F.fn gf) (eg : ∀ args w, (callFunc gf args).run P w = .ok (.enter gf args) w)
    {encs : α → Array Value} {Ok : α → World → Prop} {Kp : World → World → Prop} {S Sp : List α → Prop} {N : Nat} {w0 : World} (hseq : SeqO F (n - 1) P gf lb encs Ok Kp S Sp N w0)
    (hKt : ∀ {A B C : World}, Kp A B → Kp B C → Kp A C) (hKb : ∀ (W : World) (l : Nat) (ob : Obj), w.heap.size ≤ l → l < W.heap.size → (∃ r, W.heap[l]? = some (.loop r)) → Kp W (W.putObj l ob)) (hb0 : Below w0.heap.size w0 w) (hps : ∀ x, (encs x).size = ps.size)
    (I : List α → World → Prop) (Ix : Code → List α → World → Prop) (hI : FarO w.heap.size (fun pre (o : Option Nat) W => o = none ∧ I pre W)) (hIx : ∀ c, FarO w.heap.size (fun pre (o : Option Nat) W => o = none ∧ Ix c pre W)) (h0 : I [] w)
    (act : α → Act) (Pr : α → Prop)
    (hassign : ∀ (l : Nat) (pre : List α) (x : α) (W : World) (K : Act → World → Prop), w.heap.size ≤ W.heap.size → I pre W → Ok x W → (∀ W', Below W.heap.size W W' → Kp W W' → I pre W' → Pr x → K (act x) W') →
      assign.wpIn (F.inRound l) (n - 1 - 1) P (Exit.then K (fun _ _ _ => False)) { tmps := (ps.zip (encs x)).foldl (fun t (p, v) => t.setIfInBounds p v) a.tmps, defers := [] } W)
    (hbody : ∀ (l : Nat) (pre : List α) (x : α) (W : World), w.heap.size ≤ W.heap.size → I pre W → Pr x → pre.length < N →
      body.wpIn (F.inRound l) (n - 1 - 1) P (postO w.heap.size Kp (fun pre o W => o = none ∧ I pre W) (fun c pre o W => o = none ∧ Ix c pre W) (pre ++ [x]) none W) (act x) W)
    (hdone : ∀ (D : Nat) (xs : List α) (W : World), w.heap.size ≤ D → S xs → I xs W → W.heap[D]? = some (.deferred (some [])) → Q .normal { a with defers := { target := .collected D, args := #[] } :: a.defers } W)
    (hstop : ∀ (D : Nat) (c : Code) (pre : List α) (W : World), w.heap.size ≤ D → Sp pre → Ix c pre W → W.heap[D]? = some (.deferred (some [])) → c.wpIn F n P Q { a with defers := { target := .collected D, args := #[] } :: a.defers } W) :
    (Code.rangeFunc g ps assign body).wpIn F n P Q a w :=
  wpIn_rangeO hro h1 hg hFg eg hseq hKt hKb hb0 hps _ _ hI hIx none (fun _ h => by cases h) ⟨rfl, h0⟩ (fun x o a' W => Pr x ∧ a' = act x)
    (fun x o a' W l ob r hl h => h)
    (fun l pre x o W K hs hol hi hok hK => by
      obtain ⟨rfl, hi⟩ := hi
      exact hassign l pre x W K hs hi hok fun W' hb hk hi2 hp => hK _ _ (SinceO.below hb) hk ⟨rfl, hi2⟩ ⟨hp, rfl⟩)
    (fun pre o W h => by obtain ⟨rfl, _⟩ := h; exact rowO_none W) (fun c pre o W h => by obtain ⟨rfl, _⟩ := h; exact rowO_none W)
    (fun l pre x o a' W hs hi ⟨hp, e⟩ hlt => by
      obtain ⟨rfl, hi⟩ := hi
      subst e
      exact hbody l pre x W hs hi hp hlt)
    (fun D xs o W hD _ hs hi hK _ => hdone D xs W hD hs hi.2 hK) (fun D c pre o W hD _ hs hi hK _ => hstop D c pre W hD hs hi.2 hK)
/-- Nothing that lay but the blocks of A has changed. -/
def Only (A : Nat → Prop) (X Y : World) : Prop := X.heap.size ≤ Y.heap.size ∧ ∀ b, b < X.heap.size → ¬ A b → Y.heap[b]? = X.heap[b]?
section
variable {A : Nat → Prop} {X Y Z : World} {B : Nat}
theorem Only.refl (A : Nat → Prop) (X : World) : Only A X X := ⟨Nat.le_refl _, fun _ _ _ => rfl⟩
theorem Only.trans (h : Only A X Y) (k : Only A Y Z) : Only A X Z := ⟨Nat.le_trans h.1 k.1, fun b hb hn => (k.2 b (Nat.lt_of_lt_of_le hb h.1) hn).trans (h.2 b hb hn)⟩
theorem Only.below (h : Below X.heap.size X Y) : Only A X Y := ⟨h.size, fun b hb _ => h.block b hb⟩
theorem Only.set {p : Addr} (hp : A p.block) (v : Value) : Only A X (X.setCell p v) := ⟨by simp, fun b _ hn => Below.heap_setCell X p v b (fun e => hn (by rw [e]; exact hp))⟩
theorem Only.row {g : Nat} (hg : A g) (cs : Array Value) : Only A X (X.setRow g cs) := ⟨by simp [World.setRow], fun b _ hn => setRow_other X g b cs (fun e => hn (by rw [e]; exact hg))⟩
theorem Only.imp {A' : Nat → Prop} (h : Only A X Y) (hA : ∀ b, A b → A' b) : Only A' X Y := ⟨h.1, fun b hb hn => h.2 b hb (fun e => hn (hA b e))⟩
theorem Only.blk (h : Only A X Y) {g : Nat} {t : TypeId} {cs : Array Value} (hb : Blk X g t cs) (hn : ¬ A g) : Blk Y g t cs := (h.2 g hb.lt hn).trans hb
theorem Only.since (h : Only A X Y) (hA : ∀ b, A b → b < B) : SinceO B none X Y := ⟨h.1, fun b h1 h2 _ => h.2 b h2 (fun e => by have := hA b e; omega)⟩
theorem Only.keep (h : Only A X Y) {lo k : Nat} (hk : lo + k ≤ X.heap.size) (hA : ∀ b, A b → b < lo) : Keep lo k X Y := ⟨h.1, fun b h1 h2 => h.2 b (by omega) (fun e => by have := hA b e; omega)⟩
end
/-- Cells that went, each to its row. -/
def mvL (vs : List Value) : List Value → Nat → List Int → List Value
  | us, _, [] => us
  | us, k, x :: xs => mvL vs (us.set (x.toNat + 1) (vs[k + 1]?.getD undef)) (k + 1) xs
theorem mvL_snoc (vs : List Value) (x : Int) : ∀ (xs : List Int) (us : List Value) (k : Nat), mvL vs us k (xs ++ [x]) = (mvL vs us k xs).set (x.toNat + 1) (vs[k + xs.length + 1]?.getD undef)
  | [], us, k => rfl
  | y :: ys, us, k => by
    rw [List.cons_append, mvL, mvL, mvL_snoc vs x ys, List.length_cons]
    rw [show k + 1 + ys.length + 1 = k + (ys.length + 1) + 1 by omega]
theorem mvL_len (vs : List Value) : ∀ (xs : List Int) (us : List Value) (k : Nat), (mvL vs us k xs).length = us.length
  | [], us, k => rfl
  | y :: ys, us, k => by rw [mvL, mvL_len vs ys, List.length_set]
theorem mvL_zero (vs : List Value) : ∀ (xs : List Int) (us : List Value) (k : Nat), (mvL vs us k xs)[0]? = us[0]?
  | [], us, k => rfl
  | y :: ys, us, k => by rw [mvL, mvL_zero vs ys, List.getElem?_set_ne (by omega)]
theorem mvL_other (vs : List Value) (r : Nat) : ∀ (xs : List Int) (us : List Value) (k : Nat), (∀ x ∈ xs, x.toNat ≠ r) → (mvL vs us k xs)[r + 1]? = us[r + 1]?
  | [], us, k, _ => rfl
  | y :: ys, us, k, h => by
    rw [mvL, mvL_other vs r ys _ _ (fun x hx => h x (.tail _ hx)), List.getElem?_set_ne (by have := h y (.head _); omega)]
theorem mvL_at (vs : List Value) (r : Nat) : ∀ (xs : List Int) (us : List Value) (k j : Nat), (∀ x ∈ xs, 0 ≤ x ∧ x.toNat + 1 < us.length) → xs.Nodup → xs[j]? = some (r : Int) → (mvL vs us k xs)[r + 1]? = some (vs[k + j + 1]?.getD undef)
  | [], us, k, j, _, _, h => by simp at h
  | y :: ys, us, k, 0, hb, hn, h => by
    have e : y = (r : Int) := by simpa using h
    subst e
    have h1 := List.nodup_cons.1 hn
    rw [mvL, mvL_other vs r ys _ _ (fun x hx e => h1.1 (by
      have := (hb x (.tail _ hx)).1
      rw [show (r : Int) = x by omega]
      exact hx)), Int.toNat_natCast, List.getElem?_set_self (by have := (hb (r : Int) (.head _)).2; omega)]
  | y :: ys, us, k, j + 1, hb, hn, h => by
    have h1 := List.nodup_cons.1 hn
    rw [mvL, mvL_at vs r ys _ (k + 1) j (fun x hx => by rw [List.length_set]; exact hb x (.tail _ hx)) h1.2 (by simpa using h)]
    rw [show k + 1 + j + 1 = k + (j + 1) + 1 by omega]
theorem mvL_one (vs : List Value) (hv : ∀ v ∈ vs, v.oneCell' = true) : ∀ (xs : List Int) (us : List Value) (k : Nat), k + xs.length < vs.length → (∀ v ∈ us, v.oneCell' = true) → ∀ v ∈ mvL vs us k xs, v.oneCell' = true
  | [], us, k, _, h => h
  | y :: ys, us, k, hk, h => by
    rw [mvL]
    rw [List.length_cons] at hk
    refine mvL_one vs hv ys _ _ (by omega) fun v hm => ?_
    rcases List.mem_or_eq_of_mem_set hm with h1 | rfl
    · exact h _ h1
    · rw [List.getElem?_eq_getElem (by omega)]
      exact hv _ (List.getElem_mem _)
end Go.Proofs.YtckfepmahjgmfaaDoor.Rg

namespace Go.Proofs.YtckfepmahjgmfaaDoor.Rg
open Go.RowKit Go.Shelf Go.Proofs.YtckfepmahjgmfaaDoor.C Go.Proofs.YtckfepmahjgmfaaDoor.E
set_option linter.unusedSimpArgs false
set_option linter.unusedVariables false

theorem mul_in (p a b : Int) : a % p * b % p = a * b % p := by
  rw [Int.mul_emod, Int.emod_emod_of_dvd _ (Int.dvd_refl p), ← Int.mul_emod]
theorem add_in (p a b : Int) : (a + b % p) % p = (a + b) % p := by
  rw [Int.add_emod, Int.emod_emod_of_dvd _ (Int.dvd_refl p), ← Int.add_emod]
theorem mul_back (p s i a : Int) (h : s * i % p = 1) : a * s % p * i % p = a % p := by
  rw [mul_in, Int.mul_assoc, Int.mul_comm, ← mul_in, h, Int.one_mul]
theorem mul_back' (p s i a : Int) (h : s * i % p = 1) : a * i % p * s % p = a % p := mul_back p i s a (by rw [Int.mul_comm]; exact h)

theorem walk_inj (p : Nat) (x s i : Int) (h : s * i % (p : Int) = 1) {k k' : Nat} (hk : k < p) (hk' : k' < p) (e : walkAt p x s k = walkAt p x s k') : k = k' := by
  unfold walkAt at e
  have e2 : ((k : Int) * s) % (p : Int) = ((k' : Int) * s) % (p : Int) := by
    rw [Int.emod_eq_emod_iff_emod_sub_eq_zero] at e ⊢
    rw [show x + (k : Int) * s - (x + (k' : Int) * s) = (k : Int) * s - (k' : Int) * s by omega] at e
    exact e
  have e3 := congrArg (fun z => z * i % (p : Int)) e2
  simp only [mul_back _ _ _ _ h] at e3
  rw [Int.emod_eq_of_lt (by omega) (by omega), Int.emod_eq_of_lt (by omega) (by omega)] at e3
  omega
theorem walk_nodup (p : Nat) (x s i : Int) (h : s * i % (p : Int) = 1) : (walkL p x s).Nodup := by
  unfold walkL List.Nodup
  rw [List.pairwise_map]
  refine List.Pairwise.imp_of_mem ?_ (List.pairwise_lt_range (n := p))
  intro a b ha hb hlt e
  have := walk_inj p x s i h (List.mem_range.1 ha) (List.mem_range.1 hb) e
  omega
theorem walk_in (p : Nat) (hp : 0 < p) (x s : Int) : ∀ z ∈ walkL p x s, 0 ≤ z ∧ z < p := by
  intro z hz
  unfold walkL at hz
  obtain ⟨k, _, rfl⟩ := List.mem_map.1 hz
  exact walkAt_lt p hp x s k

theorem walk_comes (p : Nat) (hp : 0 < p) (x y s i : Int) (h : s * i % (p : Int) = 1) (y0 : 0 ≤ y) (y1 : y < p) : walkAt p x s ((y - x) % (p : Int) * i % (p : Int)).toNat = y := by
  have h0 := Int.emod_nonneg ((y - x) % (p : Int) * i) (show (p : Int) ≠ 0 by omega)
  unfold walkAt
  rw [Int.toNat_of_nonneg h0, ← add_in, mul_back' _ _ _ _ h, add_in, add_in, show x + (y - x) = y by omega, Int.emod_eq_of_lt y0 y1]

theorem inv_fact : ∀ p ∈ prm, ∀ m ∈ List.range 17, (m : Int) < p → m ≠ 0 → ∃ i ∈ List.range 17, (i : Int) < p ∧ (m : Int) * (i : Int) % p = 1 := by decide +kernel
theorem inv_ex (p : Int) (hp : p ∈ prm) (m : Int) (h0 : 0 ≤ m) (hm : m < p) (hne : m ≠ 0) : ∃ i : Int, 0 ≤ i ∧ i < p ∧ m * i % p = 1 := by
  have hb := prm_bounds hp
  obtain ⟨n, rfl⟩ : ∃ n : Nat, m = (n : Int) := ⟨m.toNat, by omega⟩
  obtain ⟨i, _, h1, h2⟩ := inv_fact p hp n (List.mem_range.2 (by omega)) hm (by omega)
  exact ⟨i, by omega, h1, h2⟩
end Go.Proofs.YtckfepmahjgmfaaDoor.Rg

namespace Go.Proofs.YtckfepmahjgmfaaDoor.Rg
open Go.RowKit Go.Shelf Go.Maps Go.Proofs.YtckfepmahjgmfaaDoor.C Go.Proofs.YtckfepmahjgmfaaDoor.E
set_option linter.unusedSimpArgs false
set_option linter.unusedVariables false
attribute [local go_sem] Oper.semAt_some

theorem one_nils (x : Int) : ∀ v ∈ [Value.int .i64 x, .slice none 0 0, .slice none 0 0, .slice none 0 0, .slice none 0 0, .slice none 0 0, .slice none 0 0, .slice none 0 0, .slice none 0 0, .slice none 0 0, .slice none 0 0, .slice none 0 0, .slice none 0 0, .slice none 0 0, .slice none 0 0, .slice none 0 0, .slice none 0 0, .slice none 0 0], v.oneCell' = true := by
  intro v hv
  simp at hv
  rcases hv with rfl | rfl <;> rfl
theorem moved_slots (P : Nat) (hp : (P : Int) ∈ prm) (b : Int) (b0 : 0 ≤ b) (b1 : b < P) (vs us : List Value) (hu : us.length = 18) (r : Nat) (hr : r < P) : (mvL vs us 0 (walkN (P : Int) b 1))[r + 1]? = some (vs[(((r : Int) - b) % P).toNat + 1]?.getD undef) := by
  have hb := prm_bounds hp
  have h1 : (1 : Int) % (P : Int) = 1 := Int.emod_eq_of_lt (by omega) (by omega)
  have hi : (1 : Int) % (P : Int) * 1 % (P : Int) = 1 := by rw [h1]; exact h1
  rw [walkN_yes (fine_one.2 ⟨hp, b0, b1⟩), Int.toNat_natCast]
  have h0 := Int.emod_nonneg ((r : Int) - b) (show (P : Int) ≠ 0 by omega)
  have h2 := Int.emod_lt_of_pos ((r : Int) - b) (show (0 : Int) < P by omega)
  have e1 : ((r : Int) - b) % (P : Int) * 1 % (P : Int) = ((r : Int) - b) % (P : Int) := by rw [Int.mul_one, Int.emod_emod_of_dvd _ (Int.dvd_refl _)]
  have hc := walk_comes P (by omega) b (r : Int) (1 % (P : Int)) 1 hi (by omega) (by omega)
  rw [e1] at hc
  rw [mvL_at vs r (walkL P b (1 % (P : Int))) us 0 (((r : Int) - b) % (P : Int)).toNat ?_ (walk_nodup P b _ 1 hi) ?_, Nat.zero_add]
  · intro x hx
    have := walk_in P (by omega) b (1 % (P : Int)) x hx
    omega
  · unfold walkL
    rw [List.getElem?_map, List.getElem?_range (by omega), Option.map_some, hc]
set_option maxRecDepth 100000 in
set_option maxHeartbeats 4000000 in
theorem moved_any {B : Nat} (P Q n : Nat) (hQ : P = Q + 1) (hp : (P : Int) ∈ prm) (f : Nat → List UInt8) (vs : List Value) (by_ : Int) (y1 : -9223372036854775808 ≤ by_) (y2 : by_ ≤ 9223372036854775807) (w : World) (hL : Laid w) (hB : B ≤ w.heap.size) (hV : ColV B w P n f vs) :
    Calls Tryd.prog 56 #[.agg vs.toArray, .int .i64 by_] w fun e w' => ∃ us, e = .returned (.agg us.toArray) ∧ ColV B w' P n (fun r => f (((r : Int) - by_) % P).toNat) us ∧ Below w.heap.size w w' := by
  have hpb := prm_bounds hp
  have hVB := Lib.hid (fun (U : World) (hU : Below w.heap.size w U) => hV.below (hU.mono hB))
  obtain ⟨hl, h0, hr, h1c⟩ := hV
  obtain ⟨WX, hWX⟩ : ∃ x, ((w.alloc (.cells vs.toArray 57)).alloc (.cells #[.int .i64 0, .slice none 0 0, .slice none 0 0, .slice none 0 0, .slice none 0 0, .slice none 0 0, .slice none 0 0, .slice none 0 0, .slice none 0 0, .slice none 0 0, .slice none 0 0, .slice none 0 0, .slice none 0 0, .slice none 0 0, .slice none 0 0, .slice none 0 0, .slice none 0 0, .slice none 0 0] 57)) = x := ⟨_, rfl⟩
  have hBX : Below w.heap.size w WX := by rw [← hWX]; exact below_two w _ _
  have bX0 : Blk WX w.heap.size 57 vs.toArray := by rw [← hWX]; exact (Blk.new w _ _).alloc _
  have bX1 : Blk WX (w.heap.size + 1) 57 #[.int .i64 0, .slice none 0 0, .slice none 0 0, .slice none 0 0, .slice none 0 0, .slice none 0 0, .slice none 0 0, .slice none 0 0, .slice none 0 0, .slice none 0 0, .slice none 0 0, .slice none 0 0, .slice none 0 0, .slice none 0 0, .slice none 0 0, .slice none 0 0, .slice none 0 0, .slice none 0 0] := by rw [← hWX]; exact Blk.second w _ _ _
  have sX : WX.heap.size = w.heap.size + 2 := by rw [← hWX]; simp
  obtain ⟨WA, hWA⟩ : ∃ x, ((WX.alloc (.cells #[.int .i64 0, .slice none 0 0, .slice none 0 0, .slice none 0 0, .slice none 0 0, .slice none 0 0, .slice none 0 0, .slice none 0 0, .slice none 0 0, .slice none 0 0, .slice none 0 0, .slice none 0 0, .slice none 0 0, .slice none 0 0, .slice none 0 0, .slice none 0 0, .slice none 0 0, .slice none 0 0] 57)).alloc (.cells #[.int .i64 0] 3)) = x := ⟨_, rfl⟩
  have hBA : Below WX.heap.size WX WA := by rw [← hWA]; exact below_two WX _ _
  have bA2 : Blk WA WX.heap.size 57 #[.int .i64 0, .slice none 0 0, .slice none 0 0, .slice none 0 0, .slice none 0 0, .slice none 0 0, .slice none 0 0, .slice none 0 0, .slice none 0 0, .slice none 0 0, .slice none 0 0, .slice none 0 0, .slice none 0 0, .slice none 0 0, .slice none 0 0, .slice none 0 0, .slice none 0 0, .slice none 0 0] := by rw [← hWA]; exact (Blk.new WX _ _).alloc _
  have bA3 : Blk WA (WX.heap.size + 1) 3 #[.int .i64 0] := by rw [← hWA]; exact Blk.second WX _ _ _
  have sA : WA.heap.size = WX.heap.size + 2 := by rw [← hWA]; simp
  have HST : (storeVar 57 ⟨WX.heap.size, 0, none⟩ (.agg #[.int .i64 (P : Int), .slice none 0 0, .slice none 0 0, .slice none 0 0, .slice none 0 0, .slice none 0 0, .slice none 0 0, .slice none 0 0, .slice none 0 0, .slice none 0 0, .slice none 0 0, .slice none 0 0, .slice none 0 0, .slice none 0 0, .slice none 0 0, .slice none 0 0, .slice none 0 0, .slice none 0 0])).run Tryd.prog WA = .ok () (WA.setRow WX.heap.size #[.int .i64 (P : Int), .slice none 0 0, .slice none 0 0, .slice none 0 0, .slice none 0 0, .slice none 0 0, .slice none 0 0, .slice none 0 0, .slice none 0 0, .slice none 0 0, .slice none 0 0, .slice none 0 0, .slice none 0 0, .slice none 0 0, .slice none 0 0, .slice none 0 0, .slice none 0 0, .slice none 0 0]) := store_col0 bA2 rfl rfl (one_nils _)
  have bR3 : Blk (WA.setRow WX.heap.size #[.int .i64 (P : Int), .slice none 0 0, .slice none 0 0, .slice none 0 0, .slice none 0 0, .slice none 0 0, .slice none 0 0, .slice none 0 0, .slice none 0 0, .slice none 0 0, .slice none 0 0, .slice none 0 0, .slice none 0 0, .slice none 0 0, .slice none 0 0, .slice none 0 0, .slice none 0 0, .slice none 0 0]) (WX.heap.size + 1) 3 #[.int .i64 0] := bA3.farRow (by omega) _
  obtain ⟨W2, hW2⟩ : ∃ x, (WA.setRow WX.heap.size #[.int .i64 (P : Int), .slice none 0 0, .slice none 0 0, .slice none 0 0, .slice none 0 0, .slice none 0 0, .slice none 0 0, .slice none 0 0, .slice none 0 0, .slice none 0 0, .slice none 0 0, .slice none 0 0, .slice none 0 0, .slice none 0 0, .slice none 0 0, .slice none 0 0, .slice none 0 0, .slice none 0 0]).setCell ⟨WX.heap.size + 1, 0, none⟩ (.int .i64 0) = x := ⟨_, rfl⟩
  have q2 : Blk W2 WX.heap.size 57 #[.int .i64 (P : Int), .slice none 0 0, .slice none 0 0, .slice none 0 0, .slice none 0 0, .slice none 0 0, .slice none 0 0, .slice none 0 0, .slice none 0 0, .slice none 0 0, .slice none 0 0, .slice none 0 0, .slice none 0 0, .slice none 0 0, .slice none 0 0, .slice none 0 0, .slice none 0 0, .slice none 0 0] := by rw [← hW2]; exact (bA2.setRow _).far (by show WX.heap.size ≠ WX.heap.size + 1; omega) _
  have q3 : Blk W2 (WX.heap.size + 1) 3 #[.int .i64 0] := by rw [← hW2]; exact bR3.set_ 0 _
  have q0 : Blk W2 w.heap.size 57 vs.toArray := by rw [← hW2]; exact ((bX0.below hBA bX0.lt).farRow (by omega) _).far (by show w.heap.size ≠ WX.heap.size + 1; omega) _
  have q1 : Blk W2 (w.heap.size + 1) 57 #[.int .i64 0, .slice none 0 0, .slice none 0 0, .slice none 0 0, .slice none 0 0, .slice none 0 0, .slice none 0 0, .slice none 0 0, .slice none 0 0, .slice none 0 0, .slice none 0 0, .slice none 0 0, .slice none 0 0, .slice none 0 0, .slice none 0 0, .slice none 0 0, .slice none 0 0, .slice none 0 0] := by rw [← hW2]; exact ((bX1.below hBA bX1.lt).farRow (by omega) _).far (by show w.heap.size + 1 ≠ WX.heap.size + 1; omega) _
  have hBW : Below w.heap.size w W2 := by rw [← hW2]; exact (C.below_setRow (below_in hBX hBA) (by omega) _).setCell (by show w.heap.size ≤ WX.heap.size + 1; omega) _
  have s2 : W2.heap.size = WX.heap.size + 2 := by rw [← hW2]; simp [World.setRow, sA]
  have k0 := bX0.cell 0
  rw [List.getElem?_toArray, h0] at k0
  have k3 := bR3.one
  have k4 := bR3.frozen 0
  obtain ⟨b, hb⟩ : ∃ b, by_ % (P : Int) = b := ⟨_, rfl⟩
  have b1 : 0 ≤ b := by rw [← hb]; exact Int.emod_nonneg _ (by omega)
  have b2 : b < (P : Int) := by rw [← hb]; exact Int.emod_lt_of_pos _ (by omega)
  have HPL : Hid (∀ U : World, Below w.heap.size w U → Calls Tryd.prog 57 #[.agg vs.toArray, .int .i64 by_] U fun e w' => e = .returned (.int .i64 b) ∧ Below U.heap.size U w') := fun U hU => by
    have := place_any P vs hp h0 by_ y1 y2 U (hL.next hU)
    rwa [hb] at this
  have HWK := Lib.hid (fun (U : World) (hU : Below w.heap.size w U) => modWalk_anyO (P : Int) b 1 (fine_one.2 ⟨hp, b1, b2⟩) U (hL.next hU) (by omega) (by omega))
  have HSS : Hid (∀ U, Below W2.heap.size W2 U → (fun U : World => U.cell? ⟨w.heap.size, 0, none⟩ = some (.int .i64 (P : Int)) ∧ LoadIs Tryd.prog 57 ⟨w.heap.size, 0, none⟩ (.agg vs.toArray) U) U) := fun U hU => ⟨by
    have := (q0.below hU q0.lt).cell 0
    rwa [List.getElem?_toArray, h0] at this, load_col0 (q0.below hU q0.lt) hl⟩
  have hBx := (Below.refl W2.heap.size W2).drew
  obtain ⟨ws, hws⟩ : ∃ ws, (vs.drop 1).take 17 = ws := ⟨_, rfl⟩
  have hwl : ws.length = 17 := by rw [← hws, List.length_take, List.length_drop]; omega
  have HLW := Lib.hid (fun (X : World) (hX : Blk X w.heap.size 57 vs.toArray) => (by
    have := load_whole hX 1 (by omega)
    rwa [hws] at this : LoadIs Tryd.prog 55 ⟨w.heap.size, 1, none⟩ (.agg ws.toArray) X))
  have HCE := Lib.hid (fun (k : Nat) (hk : k < P) (X : World) (u : Value) (hu : vs[k + 1]? = some u) => cell_any ws k u hwl (by rw [← hws, ws_get hl k (by omega), hu]) X)
  have HR := Lib.hid hr
  have HVS := Lib.hid (⟨hl, h0, h1c⟩ : _ ∧ _ ∧ _)
  have HQ := Lib.hid hQ
  have HPP := Lib.hid hp
  have HBY := Lib.hid hb
  have HSX := Lib.hid sX
  have HS2 := Lib.hid s2
  clear hl h0 hr h1c hws hwl bX0 bX1 bA2 bA3 bR3 sX sA s2 hQ hp hb hBX hBA hL
  refine (callsIn_wide (n := 9)).1 ?_
  refine callsIn_of_wp_marks Tryd.func56 rfl trivial ?_ rfl
  simp only [Tryd.ntmps56, List.size_toArray, List.length_cons, List.length_nil, Nat.reduceAdd, Nat.reduceSub, Array.replicate_succ, Array.replicate_zero, List.push_toArray, List.append_toArray, List.nil_append, List.cons_append]
  gi_wp2_with (refine wpListIn_storeS rfl rfl rfl rfl HST ?_)
  clear HST hWX hWA hW2 k0 k3 k4
  have hS : (fun U : World => U.cell? ⟨w.heap.size, 0, none⟩ = some (.int .i64 (P : Int)) ∧ LoadIs Tryd.prog 57 ⟨w.heap.size, 0, none⟩ (.agg vs.toArray) U) W2.drew := HSS.out _ hBx
  refine wpIn_mono (region_HF (Q := NoPanic _) (S := (fun U : World => U.cell? ⟨w.heap.size, 0, none⟩ = some (.int .i64 (P : Int)) ∧ LoadIs Tryd.prog 57 ⟨w.heap.size, 0, none⟩ (.agg vs.toArray) U)) (by kernel_rfl) ?_) NoPanic.imp
  refine anyHF_take (i := 0) (d := 11) (v := .pointer (some ⟨w.heap.size, 0, none⟩)) (by kernel_rfl) rfl (by kernel_rfl) (by kernel_rfl) (by kernel_rfl) rfl (fun _ _ _ h => h) ⟨Or.inl ⟨by rfl, fun w hS => by obtain ⟨h0, h1⟩ := hS; go_simp⟩, fun _ => rfl⟩ hS ?_
  simp only [List.setIfInBounds_toArray, List.set_cons_zero, List.set_cons_succ]
  refine anyHF_take (i := 1) (d := 12) (v := .int .i64 (P : Int)) (by kernel_rfl) rfl (by kernel_rfl) (by kernel_rfl) (by kernel_rfl) rfl (fun _ _ _ h => h) ⟨Or.inl ⟨by rfl, fun w hS => by obtain ⟨h0, h1⟩ := hS; go_simp⟩, fun _ => rfl⟩ hS ?_
  simp only [List.setIfInBounds_toArray, List.set_cons_zero, List.set_cons_succ]
  refine anyHF_take (i := 2) (d := 13) (v := .agg vs.toArray) (by kernel_rfl) rfl (by kernel_rfl) (by kernel_rfl) (by kernel_rfl) rfl (fun _ _ _ h => h) ⟨Or.inl ⟨by rfl, fun w hS => by obtain ⟨h0, h1⟩ := hS; exact exec_load rfl rfl (by first | exact h1)⟩, fun _ => rfl⟩ hS ?_
  simp only [List.setIfInBounds_toArray, List.set_cons_zero, List.set_cons_succ]
  refine anyHF_take (i := 3) (d := 14) (v := .int .i64 by_) (by kernel_rfl) rfl (by kernel_rfl) (by kernel_rfl) (by kernel_rfl) rfl (fun _ _ _ h => h) ⟨Or.inl ⟨by rfl, fun w hS => by obtain ⟨h0, h1⟩ := hS; go_simp⟩, fun _ => rfl⟩ hS ?_
  simp only [List.setIfInBounds_toArray, List.set_cons_zero, List.set_cons_succ]
  refine anyHF_one (i := 4) (by kernel_rfl) rfl (by kernel_rfl) (by rfl) ?_
  gi_wp2_with fail
  refine ⟨trivial, (callsIn_wide.2 (HPL.out _ (below_in hBW hBx))).mono ?_⟩
  rintro e w1 ⟨rfl, hB1⟩
  replace hBx := below_in hBx hB1
  clear hS
  have hS : (fun U : World => U.cell? ⟨w.heap.size, 0, none⟩ = some (.int .i64 (P : Int)) ∧ LoadIs Tryd.prog 57 ⟨w.heap.size, 0, none⟩ (.agg vs.toArray) U) w1 := HSS.out _ hBx
  gi_wp2
  try (refine ⟨hS, ?_⟩)
  refine anyHF_one (i := 5) (by kernel_rfl) rfl (by kernel_rfl) (by rfl) ?_
  gi_wp2_with fail
  refine ⟨trivial, (callsIn_wide.2 (HWK.out _ (below_in hBW hBx))).mono ?_⟩
  rintro e w2 ⟨v', rfl, ⟨gf, lb, rfl, eg, hgo⟩, hB2⟩
  have hBx1 := hBx
  replace hBx := below_in hBx hB2
  clear hS
  have hS : (fun U : World => U.cell? ⟨w.heap.size, 0, none⟩ = some (.int .i64 (P : Int)) ∧ LoadIs Tryd.prog 57 ⟨w.heap.size, 0, none⟩ (.agg vs.toArray) U) w2 := HSS.out _ hBx
  gi_wp2
  try (refine ⟨hS, ?_⟩)
  refine anyHF_done (by kernel_rfl) ?_ _
  refine NoPanic.normal ?_
  have hlen : (walkN (P : Int) b 1).length = P := by rw [walkN_yes (fine_one.2 ⟨HPP.out, b1, b2⟩), walkL_len, Int.toNat_natCast]
  have hsz1 := hBx1.size
  have hszb := hB2.size
  have sX := HSX.out
  have s2 := HS2.out
  have h16 : WX.heap.size + 2 ≤ w1.heap.size := by omega
  clear hS sX s2
  gi_wp2_with fail
  refine wpIn_rangeActO rfl (by omega) (gf := gf) (lb := lb) rfl trivial eg (hgo _ (by omega)) (fun h h' => h.trans h') (fun X l' ob hl' hlX _ => Keep.putFar X (by omega) ob) (Below.refl _ _) (fun _ => rfl)
    (fun (pre : List Int) X => Blk X w.heap.size 57 vs.toArray ∧ Blk X (w.heap.size + 1) 57 #[.int .i64 0, .slice none 0 0, .slice none 0 0, .slice none 0 0, .slice none 0 0, .slice none 0 0, .slice none 0 0, .slice none 0 0, .slice none 0 0, .slice none 0 0, .slice none 0 0, .slice none 0 0, .slice none 0 0, .slice none 0 0, .slice none 0 0, .slice none 0 0, .slice none 0 0, .slice none 0 0] ∧ Blk X WX.heap.size 57 (mvL vs [.int .i64 (P : Int), .slice none 0 0, .slice none 0 0, .slice none 0 0, .slice none 0 0, .slice none 0 0, .slice none 0 0, .slice none 0 0, .slice none 0 0, .slice none 0 0, .slice none 0 0, .slice none 0 0, .slice none 0 0, .slice none 0 0, .slice none 0 0, .slice none 0 0, .slice none 0 0, .slice none 0 0] 0 pre).toArray ∧ Blk X (WX.heap.size + 1) 3 #[.int .i64 (pre.length : Int)] ∧ Below w.heap.size w X) (fun _ _ _ => False) ?hI (fun c s o X Y row hs _ _ => hs.2.elim) ?h0 ?act (fun x : Int => 0 ≤ x ∧ x < (P : Int)) ?assign ?body ?done (fun D c pre W _ _ h => h.elim)
  case h0 => exact ⟨q0.below hBx q0.lt, q1.below hBx q1.lt, q2.below hBx q2.lt, q3.below hBx q3.lt, below_in hBW hBx⟩
  case hI =>
    have sX := HSX.out
    exact FarO.and (farO_pure _ (fun _ o => o = none)) (FarO.and (farO_blk (by omega) _ (fun _ => vs.toArray)) (FarO.and (farO_blk (by omega) _ (fun _ => _)) (FarO.and (farO_blk (by omega) _ (fun pre : List Int => (mvL vs [.int .i64 (P : Int), .slice none 0 0, .slice none 0 0, .slice none 0 0, .slice none 0 0, .slice none 0 0, .slice none 0 0, .slice none 0 0, .slice none 0 0, .slice none 0 0, .slice none 0 0, .slice none 0 0, .slice none 0 0, .slice none 0 0, .slice none 0 0, .slice none 0 0, .slice none 0 0, .slice none 0 0] 0 pre).toArray)) (FarO.and (farO_blk (by omega) _ (fun pre : List Int => #[.int .i64 (pre.length : Int)])) (farO_below (Nat.le_refl _) (by omega))))))
  case assign =>
    intro l' pre x X K hsz hi hok hK
    gi_wp2
    exact hK _ (Below.refl _ _) (Keep.refl _ _ _) hi hok
  case body =>
    rintro l' pre x X hsz ⟨p0, p1, p2, p3, hbX⟩ ⟨x0, x1⟩ hln
    rw [hlen] at hln
    obtain ⟨r, rfl⟩ : ∃ r : Nat, x = (r : Int) := ⟨x.toNat, by omega⟩
    have sX := HSX.out
    obtain ⟨k, hk⟩ : ∃ k, pre.length = k := ⟨_, rfl⟩
    rw [hk] at p3 hln
    obtain ⟨us, hus⟩ : ∃ us, mvL vs [.int .i64 (P : Int), .slice none 0 0, .slice none 0 0, .slice none 0 0, .slice none 0 0, .slice none 0 0, .slice none 0 0, .slice none 0 0, .slice none 0 0, .slice none 0 0, .slice none 0 0, .slice none 0 0, .slice none 0 0, .slice none 0 0, .slice none 0 0, .slice none 0 0, .slice none 0 0, .slice none 0 0] 0 pre = us := ⟨_, rfl⟩
    have hul : us.length = 18 := by rw [← hus, mvL_len]; rfl
    obtain ⟨nk, u, hu, yk⟩ := HR.out k hln
    obtain ⟨Au, cu, eu, _, _⟩ := id yk
    rw [nk] at eu
    subst eu
    have hnext : mvL vs [.int .i64 (P : Int), .slice none 0 0, .slice none 0 0, .slice none 0 0, .slice none 0 0, .slice none 0 0, .slice none 0 0, .slice none 0 0, .slice none 0 0, .slice none 0 0, .slice none 0 0, .slice none 0 0, .slice none 0 0, .slice none 0 0, .slice none 0 0, .slice none 0 0, .slice none 0 0, .slice none 0 0] 0 (pre ++ [(r : Int)]) = us.set (1 + r) (.slice Au n cu) := by rw [mvL_snoc, hus, hk, Nat.zero_add, Int.toNat_natCast, hu, Nat.add_comm 1 r]; rfl
    rw [hus] at p2
    have hlw := HLW.out X p0
    have hce := HCE.out k hln X _ hu
    have c3 := p3.one
    have i1 : (0 : Int) ≤ (k : Int) := by omega
    have i2 : (k : Int) < 17 := by omega
    have i3 : (0 : Int) ≤ (r : Int) := by omega
    have i4 : (r : Int) < 17 := by omega
    have hwr : IntKind.i64.wrap ((k : Int) + 1) = (k : Int) + 1 := IntWalk.i64_in _ (by omega)
    have HUS := Lib.hid hus
    have HK := Lib.hid hk
    have HUL := Lib.hid hul
    have HN := Lib.hid hnext
    have HS := Lib.hid sX
    clear hus hk hul hnext sX x0 x1 hlen hu yk nk
    gi_wp2_with (refine wpListIn_loadS rfl rfl rfl hlw ?_)
    refine ⟨trivial, (CallsIn.inRound l' (callsIn_wide.2 hce)).mono ?_⟩
    rintro e X1 ⟨rfl, hB1⟩
    have r2 := p2.below hB1 p2.lt
    have r3 := p3.below hB1 p3.lt
    obtain ⟨old, hold⟩ : ∃ old, X1.cell? ⟨WX.heap.size, 1 + r, none⟩ = some old := ⟨_, by rw [r2.cell, List.getElem?_toArray, List.getElem?_eq_getElem (by have := HUL.out; omega)]⟩
    have hfz := r2.frozen (1 + r)
    have d3 : (X1.setCell ⟨WX.heap.size, 1 + r, none⟩ (.slice Au n cu)).cell? ⟨WX.heap.size + 1, 0, none⟩ = some (.int .i64 (k : Int)) := (r3.far (by show WX.heap.size + 1 ≠ WX.heap.size; omega) _).one
    have e3 : (X1.setCell ⟨WX.heap.size, 1 + r, none⟩ (.slice Au n cu)).frozen? ⟨WX.heap.size + 1, 0, none⟩ = false := (r3.far (by show WX.heap.size + 1 ≠ WX.heap.size; omega) _).frozen 0
    gi_wp2_with fail
    have sX := HS.out
    have hO : Only (fun b => b = WX.heap.size ∨ b = WX.heap.size + 1) X ((X1.setCell ⟨WX.heap.size, 1 + r, none⟩ (.slice Au n cu)).setCell ⟨WX.heap.size + 1, 0, none⟩ (.int .i64 ((k : Int) + 1))) := (Only.below hB1).trans ((Only.set (.inl rfl) _).trans (Only.set (.inr rfl) _))
    have hl2 : w1.heap.size + (w2.heap.size - w1.heap.size) ≤ X.heap.size := by omega
    refine ⟨none, .inl rfl, hO.since (fun b hb => by omega), hO.keep hl2 (fun b hb => by omega), rfl, ?_⟩
    rw [HN.out]
    refine ⟨hO.blk p0 (by omega), hO.blk p1 (by omega), ?_, ?_, ((below_in hbX hB1).setCell (by show w.heap.size ≤ WX.heap.size; omega) _).setCell (by show w.heap.size ≤ WX.heap.size + 1; omega) _⟩
    · have := (r2.set_ (1 + r) (.slice Au n cu)).far (p := ⟨WX.heap.size + 1, 0, none⟩) (by show WX.heap.size ≠ WX.heap.size + 1; omega) (.int .i64 ((k : Int) + 1))
      rwa [List.setIfInBounds_toArray] at this
    · have := (r3.far (p := ⟨WX.heap.size, 1 + r, none⟩) (by show WX.heap.size + 1 ≠ WX.heap.size; omega) (.slice Au n cu)).set_ 0 (.int .i64 ((k : Int) + 1))
      rw [List.length_append, HK.out]
      exact this
  case done =>
    rintro D xs X hD rfl ⟨p0, p1, p2, p3, hbX⟩ hK
    have sX := HSX.out
    have hms := moved_slots P HPP.out b b1 b2 vs [.int .i64 (P : Int), .slice none 0 0, .slice none 0 0, .slice none 0 0, .slice none 0 0, .slice none 0 0, .slice none 0 0, .slice none 0 0, .slice none 0 0, .slice none 0 0, .slice none 0 0, .slice none 0 0, .slice none 0 0, .slice none 0 0, .slice none 0 0, .slice none 0 0, .slice none 0 0, .slice none 0 0] rfl
    have hml := mvL_len vs (walkN (P : Int) b 1) [.int .i64 (P : Int), .slice none 0 0, .slice none 0 0, .slice none 0 0, .slice none 0 0, .slice none 0 0, .slice none 0 0, .slice none 0 0, .slice none 0 0, .slice none 0 0, .slice none 0 0, .slice none 0 0, .slice none 0 0, .slice none 0 0, .slice none 0 0, .slice none 0 0, .slice none 0 0, .slice none 0 0] 0
    have hmz := mvL_zero vs (walkN (P : Int) b 1) [.int .i64 (P : Int), .slice none 0 0, .slice none 0 0, .slice none 0 0, .slice none 0 0, .slice none 0 0, .slice none 0 0, .slice none 0 0, .slice none 0 0, .slice none 0 0, .slice none 0 0, .slice none 0 0, .slice none 0 0, .slice none 0 0, .slice none 0 0, .slice none 0 0, .slice none 0 0, .slice none 0 0] 0
    have hm1 := mvL_one vs HVS.out.2.2 (walkN (P : Int) b 1) [.int .i64 (P : Int), .slice none 0 0, .slice none 0 0, .slice none 0 0, .slice none 0 0, .slice none 0 0, .slice none 0 0, .slice none 0 0, .slice none 0 0, .slice none 0 0, .slice none 0 0, .slice none 0 0, .slice none 0 0, .slice none 0 0, .slice none 0 0, .slice none 0 0, .slice none 0 0, .slice none 0 0] 0 (by have := HVS.out.1; omega) (one_nils _)
    generalize mvL vs [.int .i64 (P : Int), .slice none 0 0, .slice none 0 0, .slice none 0 0, .slice none 0 0, .slice none 0 0, .slice none 0 0, .slice none 0 0, .slice none 0 0, .slice none 0 0, .slice none 0 0, .slice none 0 0, .slice none 0 0, .slice none 0 0, .slice none 0 0, .slice none 0 0, .slice none 0 0, .slice none 0 0] 0 (walkN (P : Int) b 1) = us at *
    have hul : us.length = 18 := hml
    have HLD := load_col0 p2 hul
    have HSD := store_col0 (cs := [.int .i64 0, .slice none 0 0, .slice none 0 0, .slice none 0 0, .slice none 0 0, .slice none 0 0, .slice none 0 0, .slice none 0 0, .slice none 0 0, .slice none 0 0, .slice none 0 0, .slice none 0 0, .slice none 0 0, .slice none 0 0, .slice none 0 0, .slice none 0 0, .slice none 0 0, .slice none 0 0]) p1 rfl hul hm1
    have z1 := p1.setRow us.toArray
    have hKz : (X.setRow (w.heap.size + 1) us.toArray).heap[D]? = some (.deferred (some [])) := (setRow_other X _ D _ (by omega)).trans hK
    have hbz := C.below_setRow hbX (show w.heap.size ≤ w.heap.size + 1 by omega) us.toArray
    have HF : Hid (ColV B ((X.setRow (w.heap.size + 1) us.toArray).putObj D (.deferred none)) P n (fun r => f (((r : Int) - by_) % P).toNat) us ∧ LoadIs Tryd.prog 57 ⟨w.heap.size + 1, 0, none⟩ (.agg us.toArray) ((X.setRow (w.heap.size + 1) us.toArray).putObj D (.deferred none)) ∧ Below w.heap.size w ((X.setRow (w.heap.size + 1) us.toArray).putObj D (.deferred none))) := by
      have hWf : Below w.heap.size w ((X.setRow (w.heap.size + 1) us.toArray).putObj D (.deferred none)) := hbz.trans (belowK_b (w := w) (Nat.le_refl _) _ D _ _ (by have := hbz.size; omega) hKz rfl rfl)
      refine ⟨⟨hul, by rw [hmz]; rfl, fun r hr => ?_, hm1⟩, ?_, hWf⟩
      · have e1 : ((r : Int) - b) % (P : Int) = ((r : Int) - by_) % (P : Int) := by rw [← HBY.out, Int.sub_emod, Int.emod_emod_of_dvd _ (Int.dvd_refl _), ← Int.sub_emod]
        have h0 := Int.emod_nonneg ((r : Int) - by_) (show (P : Int) ≠ 0 by omega)
        have h2 := Int.emod_lt_of_pos ((r : Int) - by_) (show (0 : Int) < P by omega)
        obtain ⟨nk, u, hu, yk⟩ := (hVB.out _ hWf).2.2.1 (((r : Int) - by_) % (P : Int)).toNat (by omega)
        have := hms r hr
        rw [e1, hu] at this
        exact ⟨nk, u, this, yk⟩
      · exact load_col0 ((World.putObj_heap_other (by omega)).trans z1) hul
    clear hms hml hmz hm1
    gi_wp2_with (first | refine wpListIn_loadS rfl rfl rfl HLD ?_ | refine wpListIn_storeS rfl rfl rfl rfl HSD ?_)
    refine ⟨by simp, .inl ⟨_, _, rfl, run_takeDeferred hKz, ?_⟩⟩
    exact ⟨_, results_cell rfl rfl HF.out.2.1, us, rfl, HF.out.1, HF.out.2.2⟩
end Go.Proofs.YtckfepmahjgmfaaDoor.Rg

namespace Go.Proofs.YtckfepmahjgmfaaDoor.Rg
open Go.RowKit Go.Shelf Go.Proofs.YtckfepmahjgmfaaDoor.C Go.Proofs.YtckfepmahjgmfaaDoor.E
set_option linter.unusedSimpArgs false
set_option linter.unusedVariables false

/-- The slice value v reads as the bytes l; they lie in no block of A. -/
def BytesA (A : Nat → Prop) (W : World) (v : Value) (l : List UInt8) : Prop :=
  ∃ a cap, v = .slice a l.length cap ∧ l.length ≤ cap ∧ (0 < l.length → ∃ b off, a = some ⟨b, off, none⟩ ∧ b < W.heap.size ∧ ¬ A b ∧ ∀ j, j < l.length → W.cell? ⟨b, off + j, none⟩ = some (.int .u8 ((l[j]?.getD 0).toNat : Int)))
section
variable {A A' : Nat → Prop} {X Y : World} {v : Value} {l : List UInt8} {B base : Nat}
theorem BytesA.bytes (h : BytesA A X v l) : Bytes X.heap.size X v l := by
  obtain ⟨a, cap, e, hc, hA⟩ := h
  refine ⟨a, cap, e, hc, fun hp => ?_⟩
  obtain ⟨b, off, e2, hb, _, hcell⟩ := hA hp
  exact ⟨b, off, e2, hb, hcell⟩
theorem BytesA.of_fresh (h : Fresh base X v l) (hA : ∀ b, A b → b < base) : BytesA A X v l := by
  obtain ⟨a, cap, e, hc, hb⟩ := h
  refine ⟨a, cap, e, hc, fun hp => ?_⟩
  obtain ⟨b, off, e2, h1, h2, hcell⟩ := hb hp
  exact ⟨b, off, e2, h2, fun e => by have := hA b e; omega, hcell⟩
theorem BytesA.of_bytes (h : Bytes B X v l) (hB : B ≤ X.heap.size) (hA : ∀ b, A b → B ≤ b) : BytesA A X v l := by
  obtain ⟨a, cap, e, hc, hb⟩ := h
  refine ⟨a, cap, e, hc, fun hp => ?_⟩
  obtain ⟨b, off, e2, h1, hcell⟩ := hb hp
  exact ⟨b, off, e2, by omega, fun e => by have := hA b e; omega, hcell⟩
theorem BytesA.less (h : BytesA A X v l) (hA : ∀ b, A' b → A b) : BytesA A' X v l := by
  obtain ⟨a, cap, e, hc, hb⟩ := h
  refine ⟨a, cap, e, hc, fun hp => ?_⟩
  obtain ⟨b, off, e2, h1, h2, hcell⟩ := hb hp
  exact ⟨b, off, e2, h1, fun e => h2 (hA b e), hcell⟩
theorem BytesA.only (h : BytesA A X v l) (ho : Only A X Y) : BytesA A Y v l := by
  obtain ⟨a, cap, e, hc, hb⟩ := h
  refine ⟨a, cap, e, hc, fun hp => ?_⟩
  obtain ⟨b, off, e2, h1, h2, hcell⟩ := hb hp
  exact ⟨b, off, e2, Nat.lt_of_lt_of_le h1 ho.1, h2, fun j hj => (World.cell?_of_block (ho.2 b h1 h2)).trans (hcell j hj)⟩
theorem fresh_only (h : Fresh base X v l) (ho : Only A X Y) (hA : ∀ b, A b → b < base) : Fresh base Y v l := by
  obtain ⟨a, cap, e, hc, hb⟩ := h
  refine ⟨a, cap, e, hc, fun hp => ?_⟩
  obtain ⟨b, off, e2, h1, h2, hcell⟩ := hb hp
  exact ⟨b, off, e2, h1, Nat.lt_of_lt_of_le h2 ho.1, fun j hj => (World.cell?_of_block (ho.2 b h2 (fun e => by have := hA b e; omega))).trans (hcell j hj)⟩
theorem fresh_slice (h : Fresh base X v l) : ∃ a c, v = .slice a l.length c := by
  obtain ⟨a, cap, e, _⟩ := h
  exact ⟨a, cap, e⟩
end
/-- The first i cells of a row of slices are told, all in no block of A. -/
def ToldA (A : Nat → Prop) (W : World) (F : Nat → List UInt8) (i : Nat) (ts : List Value) : Prop := ∀ j, j < i → ∃ u, ts[j]? = some u ∧ BytesA A W u (F j)
def ToldF (base : Nat) (W : World) (F : Nat → List UInt8) (i : Nat) (ts : List Value) : Prop := ∀ j, j < i → ∃ u, ts[j]? = some u ∧ Fresh base W u (F j)
section
variable {A : Nat → Prop} {X Y : World} {F : Nat → List UInt8} {i base : Nat} {ts : List Value}
theorem ToldA.only (h : ToldA A X F i ts) (ho : Only A X Y) : ToldA A Y F i ts := fun j hj => by obtain ⟨u, h1, h2⟩ := h j hj; exact ⟨u, h1, h2.only ho⟩
theorem ToldF.less {base' : Nat} (h : ToldF base X F i ts) (hb : base' ≤ base) : ToldF base' X F i ts := fun j hj => by obtain ⟨u, h1, h2⟩ := h j hj; exact ⟨u, h1, fresh_more h2 hb⟩
theorem ToldF.only (h : ToldF base X F i ts) (ho : Only A X Y) (hA : ∀ b, A b → b < base) : ToldF base Y F i ts := fun j hj => by obtain ⟨u, h1, h2⟩ := h j hj; exact ⟨u, h1, fresh_only h2 ho hA⟩
theorem ToldA.next {u : Value} (h : ToldA A X F i ts) (hi : i < ts.length) (hu : BytesA A X u (F i)) : ToldA A X F (i + 1) (ts.set i u) := fun j hj => by
  by_cases e : j = i
  · subst e
    exact ⟨u, List.getElem?_set_self hi, hu⟩
  · obtain ⟨v, h1, h2⟩ := h j (by omega)
    exact ⟨v, by rw [List.getElem?_set_ne (Ne.symm e)]; exact h1, h2⟩
theorem ToldF.next {u : Value} (h : ToldF base X F i ts) (hi : i < ts.length) (hu : Fresh base X u (F i)) : ToldF base X F (i + 1) (ts.set i u) := fun j hj => by
  by_cases e : j = i
  · subst e
    exact ⟨u, List.getElem?_set_self hi, hu⟩
  · obtain ⟨v, h1, h2⟩ := h j (by omega)
    exact ⟨v, by rw [List.getElem?_set_ne (Ne.symm e)]; exact h1, h2⟩
theorem ToldA.many {k g : Nat} {t : TypeId} (h : ToldA A X F k ts) (hk : ts.length = k) (hb : Blk X g t ts.toArray) : Many X.heap.size X (.slice (some ⟨g, 0, none⟩) k k) ((List.range k).map F) := by
  refine ⟨_, k, by rw [List.length_map, List.length_range], by rw [List.length_map, List.length_range]; exact Nat.le_refl _, fun _ => ⟨g, 0, rfl, hb.lt, fun j hj => ?_⟩⟩
  rw [List.length_map, List.length_range] at hj
  obtain ⟨u, h1, h2⟩ := h j hj
  refine ⟨u, by rw [Nat.zero_add, hb.cell, List.getElem?_toArray]; exact h1, ?_⟩
  rw [List.getElem?_map, List.getElem?_range hj]
  exact h2.bytes
theorem ToldF.many {k g : Nat} {t : TypeId} (h : ToldF base X F k ts) (hk : ts.length = k) (hb : Blk X g t ts.toArray) (hg : base ≤ g) : FreshMany base X (.slice (some ⟨g, 0, none⟩) k k) ((List.range k).map F) := by
  refine ⟨_, k, by rw [List.length_map, List.length_range], by rw [List.length_map, List.length_range]; exact Nat.le_refl _, fun _ => ⟨g, 0, rfl, hg, hb.lt, fun j hj => ?_⟩⟩
  rw [List.length_map, List.length_range] at hj
  obtain ⟨u, h1, h2⟩ := h j hj
  refine ⟨u, by rw [Nat.zero_add, hb.cell, List.getElem?_toArray]; exact h1, ?_⟩
  rw [List.getElem?_map, List.getElem?_range hj]
  exact h2
end
theorem many_ok {k n : Nat} {F : Nat → List UInt8} (hk : 1 ≤ k) (h1 : 1 ≤ n) (h64 : n ≤ 64) (h : ∀ i, i < k → (F i).length = n) : XorOk ((List.range k).map F) := by
  have h0 : (((List.range k).map F)[0]?.getD []).length = n := by
    rw [List.getElem?_map, List.getElem?_range (by omega)]
    exact h 0 (by omega)
  refine ⟨by simp; omega, by unfold Cell; omega, fun j hj => ?_⟩
  rw [List.length_map, List.length_range] at hj
  rw [h0, List.getElem?_map, List.getElem?_range hj]
  exact h j hj
section
variable {F : Fence} {n : Nat} {P : Program} {md : Region.Mode} {ops : Array Oper} {Q : Exit → Act → World → Prop} {S : World → Prop}
theorem anyHF_both {i j : Nat} {oi oj : Oper} {k : Nat} {listed : Array Bool} {a : Act} {w : World} (hr : Region.ready md ops listed = [i, j]) (hi : ops[i]? = some oi) (hj : ops[j]? = some oj) (hwi : Region.wanted oi (yielded ops a.tmps) = true) (hwj : Region.wanted oj (yielded ops a.tmps) = true)
    (h1 : Oper.wpIn F n P oi a w (fun a' w' => S w' ∧ anyHF F n P md ops Q S k (listed.setIfInBounds i true) a' w') Q) (h2 : Oper.wpIn F n P oj a w (fun a' w' => S w' ∧ anyHF F n P md ops Q S k (listed.setIfInBounds j true) a' w') Q) : anyHF F n P md ops Q S (k + 1) listed a w :=
  ⟨fun h0 => (by rw [hr] at h0; cases h0), fun m hm => by
    rw [hr] at hm
    simp only [List.mem_cons, List.not_mem_nil, or_false] at hm
    rcases hm with rfl | rfl
    · unfold wpOpIn
      rw [hi]
      simp only [hwi, if_true]
      exact h1
    · unfold wpOpIn
      rw [hj]
      simp only [hwj, if_true]
      exact h2⟩
end
theorem made_nils (n : Nat) : madeCells #[.slice none 0 0] n = (List.replicate n (Value.slice none 0 0)).toArray := by
  apply Array.toList_inj.1
  rw [toList_madeCells_one]
end Go.Proofs.YtckfepmahjgmfaaDoor.Rg

