/- Structs of many cells, loaded and stored whole. ring: a column under way: its values; its cells. ring: a settled cell. ring: a range whose round is a known act and whose body keeps no row of its own;  -/
import Derived.BigFrame
import Derived.Deep.Matrix
import Derived.ShutString
import Derived.ChangeOld
import Derived.Laws.CopyOwn
import Derived.Laws.Tables
import Derived.Test.YtfihlelhpmjpaaaGreatDoorCRG3m10
import Derived.Test.YtfihlelhpmjpaaaGreatDoorCRG5
namespace Go.Proofs.YtfihlelhpmjpaaaGreatDoor.Rg
open Go.RowKit Go.Shelf Go.Proofs.YtfihlelhpmjpaaaGreatDoor.C Go.Proofs.YtfihlelhpmjpaaaGreatDoor.E
set_option linter.unusedSimpArgs false
set_option linter.unusedVariables false

section
variable {P : Program} {F : Fence} {n : Nat} {ops : Array Oper} {Q : Exit → Act → World → Prop} {rest : List Oper} {o : Oper} {a : Act} {w w' : World} {t : TypeId} {p x : Operand} {ad : Addr} {v : Value}
end
theorem load_whole {w : World} {g : Nat} {ty : TypeId} {cs : List Value} (h : Blk w g ty cs.toArray) (i : Nat) (hn : i + 17 ≤ cs.length) : LoadIs Tryz.prog 187 ⟨g, i, none⟩ (.agg ((cs.drop i).take 17).toArray) w :=
  loadVar_at h i 17 hn (by kernel_rfl) (by kernel_rfl)
end Go.Proofs.YtfihlelhpmjpaaaGreatDoor.Rg

namespace Go.Proofs.YtfihlelhpmjpaaaGreatDoor.Rg
open Go.RowKit Go.Shelf Go.Proofs.YtfihlelhpmjpaaaGreatDoor.C Go.Proofs.YtfihlelhpmjpaaaGreatDoor.E
set_option linter.unusedSimpArgs false
set_option linter.unusedVariables false
attribute [local go_sem] Oper.semAt_some

section
variable {B B' p n : Nat} {W W' : World} {f : Nat → List UInt8} {vs : List Value}
end
set_option maxHeartbeats 1000000 in
theorem cell_any (ws : List Value) (r : Nat) (u : Value) (hlen : ws.length = 17) (hr : ws[r]? = some u) (w : World) :
    Calls Tryz.prog 267 #[.agg ws.toArray, .int .i64 (r : Int)] w fun e w' => e = .returned u ∧ Below w.heap.size w w' := by
  have hlt : r < 17 := by have := (List.getElem?_eq_some_iff.1 hr).1; omega
  have b0 := Blk.new w 187 ws.toArray
  have c0 := b0.cell r
  rw [List.getElem?_toArray, hr] at c0
  have i1 : (0 : Int) ≤ (r : Int) := by omega
  have i2 : (r : Int) < 17 := by omega
  have i3 : r < 17 := by omega
  have hB := below_one w (.cells ws.toArray 187)
  clear hlen hr b0 hlt
  go_enter Tryz.func267, Tryz.ntmps267
  go_wp2
  go_ret
  exact ⟨rfl, hB⟩
set_option maxHeartbeats 1000000 in
theorem place_any (P : Nat) (vs : List Value) (hP : (P : Int) ∈ prm) (h0 : vs[0]? = some (.int .i64 (P : Int))) (n : Int) (n1 : -9223372036854775808 ≤ n) (n2 : n ≤ 9223372036854775807) (w : World) (hL : Laid w) :
    Calls Tryz.prog 268 #[.agg vs.toArray, .int .i64 n] w fun e w' => e = .returned (.int .i64 (n % (P : Int))) ∧ Below w.heap.size w w' := by
  have b0 := Blk.new w 189 vs.toArray
  have c0 := b0.cell 0
  rw [List.getElem?_toArray, h0] at c0
  have hB := below_one w (.cells vs.toArray 189)
  have HO := Lib.hid ((modOf_any (P : Int) n (w.alloc (.cells vs.toArray 189)) (hL.next hB) n1 n2).mono fun e w' h => (⟨h.1 hP, h.2.2⟩ : _ ∧ _))
  clear h0 b0 hP hL
  go_enter Tryz.func268, Tryz.ntmps268
  go_wp2_with (first
    | (go_at_call 182; refine HO.out.mono ?_; rintro e w1 ⟨rfl, hB1⟩)
    | (go_at_call 285; refine (sureI _ _).mono ?_; rintro e w2 ⟨rfl, rfl⟩))
  go_ret
  exact ⟨rfl, below_in hB hB1⟩
end Go.Proofs.YtfihlelhpmjpaaaGreatDoor.Rg

namespace Go.Proofs.YtfihlelhpmjpaaaGreatDoor.Rg
open Go.RowKit Go.Shelf Go.Maps Go.Proofs.YtfihlelhpmjpaaaGreatDoor.C Go.Proofs.YtfihlelhpmjpaaaGreatDoor.E
set_option linter.unusedSimpArgs false
set_option linter.unusedVariables false
attribute [local go_sem] Oper.semAt_some

theorem two_many {W : World} {B g : Nat} {t : TypeId} {va vb : Value} {a b : List UInt8} (h : Blk W g t #[va, vb]) (h1 : Bytes B W va a) (h2 : Bytes B W vb b) (hg : g < B) : Many B W (.slice (some ⟨g, 0, none⟩) 2 2) [a, b] := by
  refine ⟨some ⟨g, 0, none⟩, 2, rfl, by show 2 ≤ 2; omega, fun _ => ⟨g, 0, rfl, hg, fun j hj => ?_⟩⟩
  have hj2 : j < 2 := hj
  rcases (by omega : j = 0 ∨ j = 1) with rfl | rfl
  · exact ⟨va, h.cell 0, h1⟩
  · exact ⟨vb, h.cell 1, h2⟩
theorem two_ok {a b : List UInt8} (hl : b.length = a.length) (h1 : 1 ≤ a.length) (h64 : a.length ≤ 64) : XorOk [a, b] := by
  refine ⟨by simp, by show Cell a; unfold Cell; omega, fun j hj => ?_⟩
  have hj2 : j < 2 := hj
  rcases (by omega : j = 0 ∨ j = 1) with rfl | rfl
  · rfl
  · exact hl
theorem ws_get {vs : List Value} (hl : vs.length = 18) (r : Nat) (hr : r < 17) : ((vs.drop 1).take 17)[r]? = vs[r + 1]? := by
  rw [List.getElem?_take_of_lt hr, List.getElem?_drop, Nat.add_comm]
set_option maxRecDepth 100000 in
set_option maxHeartbeats 4000000 in
theorem settled_any {B : Nat} (P Q n : Nat) (hQ : P = Q + 1) (hP : P ≤ 17) (f : Nat → List UInt8) (vs : List Value) (row : Nat) (hrow : row < P) (h1 : 1 ≤ n) (h64 : n ≤ 64) (w : World) (hB : B ≤ w.heap.size) (hV : ColV B w P n f vs) :
    Calls Tryz.prog 223 #[.agg vs.toArray, .int .i64 (row : Int)] w fun e w' => ∃ u, e = .returned u ∧ Fresh w.heap.size w' u (xorOf [f row, f Q]) ∧ Below w.heap.size w w' := by
  obtain ⟨hl, h0, hr, h1c⟩ := hV
  obtain ⟨n1, u1, g1, y1⟩ := hr row hrow
  obtain ⟨n2, u2, g2, y2⟩ := hr Q (by omega)
  obtain ⟨A1, c1, e1, _, _⟩ := id y1
  obtain ⟨A2, c2, e2, _, _⟩ := id y2
  rw [n1] at e1
  rw [n2] at e2
  subst e1 e2
  obtain ⟨ws, hws⟩ : ∃ ws, (vs.drop 1).take 17 = ws := ⟨_, rfl⟩
  have hwl : ws.length = 17 := by rw [← hws, List.length_take, List.length_drop]; omega
  have k1 : ws[row]? = some (.slice A1 n c1) := by rw [← hws, ws_get hl row (by omega), g1]
  have k2 : ws[Q]? = some (.slice A2 n c2) := by rw [← hws, ws_get hl Q (by omega), g2]
  have hBz := below_one w (.cells vs.toArray 189)
  have bz := Blk.new w 189 vs.toArray
  obtain ⟨wb, hwb⟩ : ∃ x, w.alloc (.cells vs.toArray 189) = x := ⟨_, rfl⟩
  rw [hwb] at hBz bz
  have HC1 := Lib.hid (fun U => cell_any ws row _ hwl k1 U)
  have HC2 := Lib.hid (fun U => cell_any ws Q _ hwl k2 U)
  have HLA := Lib.hid (fun U => last_any P Q hQ vs hP h0 U)
  have HSS : Hid (∀ U, Below wb.heap.size wb U → (fun U : World => LoadIs Tryz.prog 189 ⟨w.heap.size, 0, none⟩ (.agg vs.toArray) U ∧ LoadIs Tryz.prog 187 ⟨w.heap.size, 1, none⟩ (.agg ws.toArray) U) U) := fun U hU => by
    have b := bz.below hU bz.lt
    refine ⟨?_, ?_⟩
    · exact load_col0 b hl
    · have := load_whole b 1 (by omega)
      rwa [hws] at this
  have HUP := Lib.hid (fun (U V : World) (hU : Below wb.heap.size wb U) (hV : Below U.heap.size U V) (bE : Blk V U.heap.size 57 #[.slice A1 n c1, .slice A2 n c2]) => by
    have hUV := below_in hBz (below_in hU hV)
    have hm := two_many bE ((y1.below (hUV.mono hB)).more (Nat.le_trans hB hUV.size)) ((y2.below (hUV.mono hB)).more (Nat.le_trans hB hUV.size)) bE.lt
    exact upon_any _ _ V (Nat.le_refl _) hm (by show 2 ≤ 1000; omega) (two_ok (by omega) (by omega) (by omega)))
  have hBx := (Below.refl wb.heap.size wb).drew
  have HF := Lib.hid (hBz.size)
  clear hl h0 hr h1c hws hwl k1 k2 g1 g2 bz n1 n2 hP hrow y1 y2
  refine (callsIn_wide (n := 9)).1 ?_
  refine callsIn_of_wp_marks Tryz.func223 rfl trivial ?_ rfl
  simp only [Tryz.ntmps223, List.size_toArray, List.length_cons, List.length_nil, Nat.reduceAdd, Nat.reduceSub, Array.replicate_succ, Array.replicate_zero, List.push_toArray, List.append_toArray, List.nil_append, List.cons_append]
  gi_wp2_with fail
  have hS : (fun U : World => LoadIs Tryz.prog 189 ⟨w.heap.size, 0, none⟩ (.agg vs.toArray) U ∧ LoadIs Tryz.prog 187 ⟨w.heap.size, 1, none⟩ (.agg ws.toArray) U) wb.drew := HSS.out _ hBx
  refine wpIn_mono (region_HF (Q := NoPanic _) (S := (fun U : World => LoadIs Tryz.prog 189 ⟨w.heap.size, 0, none⟩ (.agg vs.toArray) U ∧ LoadIs Tryz.prog 187 ⟨w.heap.size, 1, none⟩ (.agg ws.toArray) U)) (by kernel_rfl) ?_) NoPanic.imp
  refine anyHF_take (i := 0) (d := 5) (v := .pointer (some ⟨w.heap.size, 1, none⟩)) (by kernel_rfl) rfl (by kernel_rfl) (by kernel_rfl) (by kernel_rfl) rfl (fun _ _ _ h => h) ⟨Or.inl ⟨by rfl, fun w hS => by obtain ⟨h0, h1⟩ := hS; go_simp⟩, fun _ => rfl⟩ hS ?_
  simp only [List.setIfInBounds_toArray, List.set_cons_zero, List.set_cons_succ]
  refine anyHF_take (i := 1) (d := 6) (v := .agg ws.toArray) (by kernel_rfl) rfl (by kernel_rfl) (by kernel_rfl) (by kernel_rfl) rfl (fun _ _ _ h => h) ⟨Or.inl ⟨by rfl, fun w hS => by obtain ⟨h0, h1⟩ := hS; exact exec_load rfl rfl (by first | exact h0 | exact h1)⟩, fun _ => rfl⟩ hS ?_
  simp only [List.setIfInBounds_toArray, List.set_cons_zero, List.set_cons_succ]
  refine anyHF_take (i := 2) (d := 7) (v := .int .i64 (row : Int)) (by kernel_rfl) rfl (by kernel_rfl) (by kernel_rfl) (by kernel_rfl) rfl (fun _ _ _ h => h) ⟨Or.inl ⟨by rfl, fun w hS => by obtain ⟨h0, h1⟩ := hS; go_simp⟩, fun _ => rfl⟩ hS ?_
  simp only [List.setIfInBounds_toArray, List.set_cons_zero, List.set_cons_succ]
  refine anyHF_take (i := 4) (d := 9) (v := .pointer (some ⟨w.heap.size, 1, none⟩)) (by kernel_rfl) rfl (by kernel_rfl) (by kernel_rfl) (by kernel_rfl) rfl (fun _ _ _ h => h) ⟨Or.inl ⟨by rfl, fun w hS => by obtain ⟨h0, h1⟩ := hS; go_simp⟩, fun _ => rfl⟩ hS ?_
  simp only [List.setIfInBounds_toArray, List.set_cons_zero, List.set_cons_succ]
  refine anyHF_take (i := 5) (d := 10) (v := .agg ws.toArray) (by kernel_rfl) rfl (by kernel_rfl) (by kernel_rfl) (by kernel_rfl) rfl (fun _ _ _ h => h) ⟨Or.inl ⟨by rfl, fun w hS => by obtain ⟨h0, h1⟩ := hS; exact exec_load rfl rfl (by first | exact h0 | exact h1)⟩, fun _ => rfl⟩ hS ?_
  simp only [List.setIfInBounds_toArray, List.set_cons_zero, List.set_cons_succ]
  refine anyHF_take (i := 6) (d := 11) (v := .agg vs.toArray) (by kernel_rfl) rfl (by kernel_rfl) (by kernel_rfl) (by kernel_rfl) rfl (fun _ _ _ h => h) ⟨Or.inl ⟨by rfl, fun w hS => by obtain ⟨h0, h1⟩ := hS; exact exec_load rfl rfl (by first | exact h0 | exact h1)⟩, fun _ => rfl⟩ hS ?_
  simp only [List.setIfInBounds_toArray, List.set_cons_zero, List.set_cons_succ]
  refine anyHF_one (i := 3) (by kernel_rfl) rfl (by kernel_rfl) (by rfl) ?_
  gi_wp2_with fail
  refine ⟨trivial, (callsIn_wide.2 (HC1.out _)).mono ?_⟩
  rintro e w1 ⟨rfl, hB1⟩
  replace hBx := below_in hBx hB1
  clear hS
  have hS : (fun U : World => LoadIs Tryz.prog 189 ⟨w.heap.size, 0, none⟩ (.agg vs.toArray) U ∧ LoadIs Tryz.prog 187 ⟨w.heap.size, 1, none⟩ (.agg ws.toArray) U) w1 := HSS.out _ hBx
  gi_wp2
  try (refine ⟨hS, ?_⟩)
  refine anyHF_one (i := 7) (by kernel_rfl) rfl (by kernel_rfl) (by rfl) ?_
  gi_wp2_with fail
  refine ⟨trivial, (callsIn_wide.2 (HLA.out w1)).mono ?_⟩
  rintro e w2 ⟨rfl, hB2⟩
  replace hBx := below_in hBx hB2
  clear hS
  have hS : (fun U : World => LoadIs Tryz.prog 189 ⟨w.heap.size, 0, none⟩ (.agg vs.toArray) U ∧ LoadIs Tryz.prog 187 ⟨w.heap.size, 1, none⟩ (.agg ws.toArray) U) w2 := HSS.out _ hBx
  gi_wp2
  try (refine ⟨hS, ?_⟩)
  refine anyHF_one (i := 8) (by kernel_rfl) rfl (by kernel_rfl) (by rfl) ?_
  gi_wp2_with fail
  refine ⟨trivial, (callsIn_wide.2 (HC2.out w2)).mono ?_⟩
  rintro e w3 ⟨rfl, hB3⟩
  replace hBx := below_in hBx hB3
  clear hS
  have hS : (fun U : World => LoadIs Tryz.prog 189 ⟨w.heap.size, 0, none⟩ (.agg vs.toArray) U ∧ LoadIs Tryz.prog 187 ⟨w.heap.size, 1, none⟩ (.agg ws.toArray) U) w3 := HSS.out _ hBx
  gi_wp2
  try (refine ⟨hS, ?_⟩)
  refine anyHF_one (i := 9) (by kernel_rfl) rfl (by kernel_rfl) (by rfl) ?_
  have hBe : Below w3.heap.size w3 (w3.alloc (.cells #[.slice A1 n c1, .slice A2 n c2] 57)) := below_one w3 _
  have bE : Blk (w3.alloc (.cells #[.slice A1 n c1, .slice A2 n c2] 57)) w3.heap.size 57 #[.slice A1 n c1, .slice A2 n c2] := Blk.new w3 _ _
  obtain ⟨w4, hew4⟩ : ∃ x, (w3.alloc (.cells #[.slice A1 n c1, .slice A2 n c2] 57)) = x := ⟨_, rfl⟩
  rw [hew4] at hBe bE
  have hup := HUP.out w3 w4 hBx hBe bE
  replace hBx := below_in hBx hBe
  clear hS
  have hS : (fun U : World => LoadIs Tryz.prog 189 ⟨w.heap.size, 0, none⟩ (.agg vs.toArray) U ∧ LoadIs Tryz.prog 187 ⟨w.heap.size, 1, none⟩ (.agg ws.toArray) U) w4 := HSS.out _ hBx
  gi_wp2
  try rw [hew4]
  try (refine ⟨hS, ?_⟩)
  refine anyHF_one (i := 10) (by kernel_rfl) rfl (by kernel_rfl) (by rfl) ?_
  gi_wp2_with fail
  refine ⟨trivial, (callsIn_wide.2 (hup)).mono ?_⟩
  rintro e w5 ⟨u, rfl, hF, hB5⟩
  have hszx := hBx.size
  replace hBx := below_in hBx hB5
  clear hS
  have hS : (fun U : World => LoadIs Tryz.prog 189 ⟨w.heap.size, 0, none⟩ (.agg vs.toArray) U ∧ LoadIs Tryz.prog 187 ⟨w.heap.size, 1, none⟩ (.agg ws.toArray) U) w5 := HSS.out _ hBx
  gi_wp2
  try (refine ⟨hS, ?_⟩)
  refine anyHF_one (i := 11) (by kernel_rfl) rfl (by kernel_rfl) (by rfl) ?_
  gi_wp2
  refine anyHF_done (by kernel_rfl) ?_ _
  refine NoPanic.normal ?_
  gi_wp2
  refine ⟨_, by simp [results, Tryz.results223, go_sem], u, rfl, fresh_more hF ?_, below_in hBz hBx⟩
  have h3 := HF.out
  omega
end Go.Proofs.YtfihlelhpmjpaaaGreatDoor.Rg

namespace Go.Proofs.YtfihlelhpmjpaaaGreatDoor.Rg
open Go.RowKit Go.Shelf Go.Proofs.YtfihlelhpmjpaaaGreatDoor.C Go.Proofs.YtfihlelhpmjpaaaGreatDoor.E
set_option linter.unusedSimpArgs false
set_option linter.unusedVariables false

theorem wpIn_rangeActO {α : Type} {F : Fence} {n : Nat} {P : Program} {g : Operand} {ps : Array Tmp} {assign body : Code} {Q : Exit → Act → World → Prop} {a : Act} {w : World}
    (hro : F.round = none) (h1 : 1 ≤ n) {gf : Nat} {lb : Array Value} (hg : a.eval g = .func (.func gf) #[] lb) (hFg : F.fn gf) (eg : ∀ args w, (callFunc gf args).run P w = .ok (.enter gf args) w)
    {encs : α → Array Value} {Ok : α → World → Prop} {Kp : World → World → Prop} {S Sp : List α → Prop} {N : Nat} {w0 : World} (hseq : SeqO F (n - 1) P gf lb encs Ok Kp S Sp N w0)
    (hKt : ∀ {A B C : World}, Kp A B → Kp B C → Kp A C) (hKb : ∀ (W : World) (l : Nat) (ob : Obj), w.heap.size ≤ l → l < W.heap.size → (∃ r, W.heap[l]? = some (.loop r)) → Kp W (W.putObj l ob)) (hb0 : Below w0.heap.size w0 w) (hps : ∀ x, (encs x).size = ps.size)
    (I : List α → World → Prop) (Ix : Code → List α → World → Prop) (hI : FarO w.heap.size (fun pre (o : Option Nat) W => o = none ∧ I pre W)) (hIx : ∀ c, FarO w.heap.size (fun pre (o : Option Nat) W => o = none ∧ Ix c pre W)) (h0 : I [] w)
    (act : α → Act) (Pr : α → Prop)
    (hassign : ∀ (l : Nat) (pre : List α) (x : α) (W : World) (K : Act → World → Prop), w.heap.size ≤ W.heap.size → I pre W → Ok x W → (∀ W', Below W.heap.size W W' → Kp W W' → I pre W' → Pr x → K (act x) W') →
      assign.wpIn (F.inRound l) (n - 1 - 1) P (Exit.then K (fun _ _ _ => False)) { tmps := (ps.zip (encs x)).foldl (fun t (p, v) => t.setIfInBounds p v) a.tmps, defers := [] } W)
    (hbody : ∀ (l : Nat) (pre : List α) (x : α) (W : World), w.heap.size ≤ W.heap.size → I pre W → Pr x → pre.length < N →
      body.wpIn (F.inRound l) (n - 1 - 1) P (postO w.heap.size Kp (fun pre o W => o = none ∧ I pre W) (fun c pre o W => o = none ∧ Ix c pre W) (pre ++ [x]) none W) (act x) W)
    (hdone : ∀ (D : Nat) (xs : List α) (W : World), w.heap.size ≤ D → S xs → I xs W → W.heap[D]? = some (.deferred (some [])) → Q .normal { a with defers := { target := .collected D, args := #[] } :: a.defers } W)
    (hstop : ∀ (D : Nat) (c : Code) (pre : List α) (W : World), w.heap.size ≤ D → Sp pre → Ix c pre W → W.heap[D]? = some (.deferred (some [])) → c.wpIn F n P Q { a with defers := { target := .collected D, args := #[] } :: a.defers } W) :
    (Code.rangeFunc g ps assign body).wpIn F n P Q a w :=
  wpIn_rangeO hro h1 hg hFg eg hseq hKt hKb hb0 hps _ _ hI hIx none (fun _ h => by cases h) ⟨rfl, h0⟩ (fun x o a' W => Pr x ∧ a' = act x)
    (fun x o a' W l ob r hl h => h)
    (fun l pre x o W K hs hol hi hok hK => by
      obtain ⟨rfl, hi⟩ := hi
      exact hassign l pre x W K hs hi hok fun W' hb hk hi2 hp => hK _ _ (SinceO.below hb) hk ⟨rfl, hi2⟩ ⟨hp, rfl⟩)
    (fun pre o W h => by obtain ⟨rfl, _⟩ := h; exact rowO_none W) (fun c pre o W h => by obtain ⟨rfl, _⟩ := h; exact rowO_none W)
    (fun l pre x o a' W hs hi ⟨hp, e⟩ hlt => by
      obtain ⟨rfl, hi⟩ := hi
      subst e
      exact hbody l pre x W hs hi hp hlt)
    (fun D xs o W hD _ hs hi hK _ => hdone D xs W hD hs hi.2 hK) (fun D c pre o W hD _ hs hi hK _ => hstop D c pre W hD hs hi.2 hK)
section
variable {A : Nat → Prop} {X Y Z : World} {B : Nat}
end
/-- Cells that went, each to its row. -/
def mvL (vs : List Value) : List Value → Nat → List Int → List Value
  | us, _, [] => us
  | us, k, x :: xs => mvL vs (us.set (x.toNat + 1) (vs[k + 1]?.getD undef)) (k + 1) xs
theorem mvL_snoc (vs : List Value) (x : Int) : ∀ (xs : List Int) (us : List Value) (k : Nat), mvL vs us k (xs ++ [x]) = (mvL vs us k xs).set (x.toNat + 1) (vs[k + xs.length + 1]?.getD undef)
  | [], us, k => rfl
  | y :: ys, us, k => by
    rw [List.cons_append, mvL, mvL, mvL_snoc vs x ys, List.length_cons]
    rw [show k + 1 + ys.length + 1 = k + (ys.length + 1) + 1 by omega]
theorem mvL_len (vs : List Value) : ∀ (xs : List Int) (us : List Value) (k : Nat), (mvL vs us k xs).length = us.length
  | [], us, k => rfl
  | y :: ys, us, k => by rw [mvL, mvL_len vs ys, List.length_set]
theorem mvL_zero (vs : List Value) : ∀ (xs : List Int) (us : List Value) (k : Nat), (mvL vs us k xs)[0]? = us[0]?
  | [], us, k => rfl
  | y :: ys, us, k => by rw [mvL, mvL_zero vs ys, List.getElem?_set_ne (by omega)]
theorem mvL_other (vs : List Value) (r : Nat) : ∀ (xs : List Int) (us : List Value) (k : Nat), (∀ x ∈ xs, x.toNat ≠ r) → (mvL vs us k xs)[r + 1]? = us[r + 1]?
  | [], us, k, _ => rfl
  | y :: ys, us, k, h => by
    rw [mvL, mvL_other vs r ys _ _ (fun x hx => h x (.tail _ hx)), List.getElem?_set_ne (by have := h y (.head _); omega)]
theorem mvL_at (vs : List Value) (r : Nat) : ∀ (xs : List Int) (us : List Value) (k j : Nat), (∀ x ∈ xs, 0 ≤ x ∧ x.toNat + 1 < us.length) → xs.Nodup → xs[j]? = some (r : Int) → (mvL vs us k xs)[r + 1]? = some (vs[k + j + 1]?.getD undef)
  | [], us, k, j, _, _, h => by simp at h
  | y :: ys, us, k, 0, hb, hn, h => by
    have e : y = (r : Int) := by simpa using h
    subst e
    have h1 := List.nodup_cons.1 hn
    rw [mvL, mvL_other vs r ys _ _ (fun x hx e => h1.1 (by
      have := (hb x (.tail _ hx)).1
      rw [show (r : Int) = x by omega]
      exact hx)), Int.toNat_natCast, List.getElem?_set_self (by have := (hb (r : Int) (.head _)).2; omega)]
  | y :: ys, us, k, j + 1, hb, hn, h => by
    have h1 := List.nodup_cons.1 hn
    rw [mvL, mvL_at vs r ys _ (k + 1) j (fun x hx => by rw [List.length_set]; exact hb x (.tail _ hx)) h1.2 (by simpa using h)]
    rw [show k + 1 + j + 1 = k + (j + 1) + 1 by omega]
theorem mvL_one (vs : List Value) (hv : ∀ v ∈ vs, v.oneCell' = true) : ∀ (xs : List Int) (us : List Value) (k : Nat), k + xs.length < vs.length → (∀ v ∈ us, v.oneCell' = true) → ∀ v ∈ mvL vs us k xs, v.oneCell' = true
  | [], us, k, _, h => h
  | y :: ys, us, k, hk, h => by
    rw [mvL]
    rw [List.length_cons] at hk
    refine mvL_one vs hv ys _ _ (by omega) fun v hm => ?_
    rcases List.mem_or_eq_of_mem_set hm with h1 | rfl
    · exact h _ h1
    · rw [List.getElem?_eq_getElem (by omega)]
      exact hv _ (List.getElem_mem _)
end Go.Proofs.YtfihlelhpmjpaaaGreatDoor.Rg

namespace Go.Proofs.YtfihlelhpmjpaaaGreatDoor.Rg
open Go.RowKit Go.Shelf Go.Maps Go.Proofs.YtfihlelhpmjpaaaGreatDoor.C Go.Proofs.YtfihlelhpmjpaaaGreatDoor.E
set_option linter.unusedSimpArgs false
set_option linter.unusedVariables false
attribute [local go_sem] Oper.semAt_some

theorem moved_slots (P : Nat) (hp : (P : Int) ∈ prm) (b : Int) (b0 : 0 ≤ b) (b1 : b < P) (vs us : List Value) (hu : us.length = 18) (r : Nat) (hr : r < P) : (mvL vs us 0 (walkN (P : Int) b 1))[r + 1]? = some (vs[(((r : Int) - b) % P).toNat + 1]?.getD undef) := by
  have hb := prm_bounds hp
  have h1 : (1 : Int) % (P : Int) = 1 := Int.emod_eq_of_lt (by omega) (by omega)
  have hi : (1 : Int) % (P : Int) * 1 % (P : Int) = 1 := by rw [h1]; exact h1
  rw [walkN_yes (fine_one.2 ⟨hp, b0, b1⟩), Int.toNat_natCast]
  have h0 := Int.emod_nonneg ((r : Int) - b) (show (P : Int) ≠ 0 by omega)
  have h2 := Int.emod_lt_of_pos ((r : Int) - b) (show (0 : Int) < P by omega)
  have e1 : ((r : Int) - b) % (P : Int) * 1 % (P : Int) = ((r : Int) - b) % (P : Int) := by rw [Int.mul_one, Int.emod_emod_of_dvd _ (Int.dvd_refl _)]
  have hc := walk_comes P (by omega) b (r : Int) (1 % (P : Int)) 1 hi (by omega) (by omega)
  rw [e1] at hc
  rw [mvL_at vs r (walkL P b (1 % (P : Int))) us 0 (((r : Int) - b) % (P : Int)).toNat ?_ (walk_nodup P b _ 1 hi) ?_, Nat.zero_add]
  · intro x hx
    have := walk_in P (by omega) b (1 % (P : Int)) x hx
    omega
  · unfold walkL
    rw [List.getElem?_map, List.getElem?_range (by omega), Option.map_some, hc]
set_option maxRecDepth 100000 in
set_option maxHeartbeats 4000000 in
theorem moved_any {B : Nat} (P Q n : Nat) (hQ : P = Q + 1) (hp : (P : Int) ∈ prm) (f : Nat → List UInt8) (vs : List Value) (by_ : Int) (y1 : -9223372036854775808 ≤ by_) (y2 : by_ ≤ 9223372036854775807) (w : World) (hL : Laid w) (hB : B ≤ w.heap.size) (hV : ColV B w P n f vs) :
    Calls Tryz.prog 224 #[.agg vs.toArray, .int .i64 by_] w fun e w' => ∃ us, e = .returned (.agg us.toArray) ∧ ColV B w' P n (fun r => f (((r : Int) - by_) % P).toNat) us ∧ Below w.heap.size w w' := by
  have hpb := prm_bounds hp
  have hVB := Lib.hid (fun (U : World) (hU : Below w.heap.size w U) => hV.below (hU.mono hB))
  obtain ⟨hl, h0, hr, h1c⟩ := hV
  obtain ⟨WX, hWX⟩ : ∃ x, ((w.alloc (.cells vs.toArray 189)).alloc (.cells #[.int .i64 0, .slice none 0 0, .slice none 0 0, .slice none 0 0, .slice none 0 0, .slice none 0 0, .slice none 0 0, .slice none 0 0, .slice none 0 0, .slice none 0 0, .slice none 0 0, .slice none 0 0, .slice none 0 0, .slice none 0 0, .slice none 0 0, .slice none 0 0, .slice none 0 0, .slice none 0 0] 189)) = x := ⟨_, rfl⟩
  have hBX : Below w.heap.size w WX := by rw [← hWX]; exact below_two w _ _
  have bX0 : Blk WX w.heap.size 189 vs.toArray := by rw [← hWX]; exact (Blk.new w _ _).alloc _
  have bX1 : Blk WX (w.heap.size + 1) 189 #[.int .i64 0, .slice none 0 0, .slice none 0 0, .slice none 0 0, .slice none 0 0, .slice none 0 0, .slice none 0 0, .slice none 0 0, .slice none 0 0, .slice none 0 0, .slice none 0 0, .slice none 0 0, .slice none 0 0, .slice none 0 0, .slice none 0 0, .slice none 0 0, .slice none 0 0, .slice none 0 0] := by rw [← hWX]; exact Blk.second w _ _ _
  have sX : WX.heap.size = w.heap.size + 2 := by rw [← hWX]; simp
  obtain ⟨WA, hWA⟩ : ∃ x, ((WX.alloc (.cells #[.int .i64 0, .slice none 0 0, .slice none 0 0, .slice none 0 0, .slice none 0 0, .slice none 0 0, .slice none 0 0, .slice none 0 0, .slice none 0 0, .slice none 0 0, .slice none 0 0, .slice none 0 0, .slice none 0 0, .slice none 0 0, .slice none 0 0, .slice none 0 0, .slice none 0 0, .slice none 0 0] 189)).alloc (.cells #[.int .i64 0] 3)) = x := ⟨_, rfl⟩
  have hBA : Below WX.heap.size WX WA := by rw [← hWA]; exact below_two WX _ _
  have bA2 : Blk WA WX.heap.size 189 #[.int .i64 0, .slice none 0 0, .slice none 0 0, .slice none 0 0, .slice none 0 0, .slice none 0 0, .slice none 0 0, .slice none 0 0, .slice none 0 0, .slice none 0 0, .slice none 0 0, .slice none 0 0, .slice none 0 0, .slice none 0 0, .slice none 0 0, .slice none 0 0, .slice none 0 0, .slice none 0 0] := by rw [← hWA]; exact (Blk.new WX _ _).alloc _
  have bA3 : Blk WA (WX.heap.size + 1) 3 #[.int .i64 0] := by rw [← hWA]; exact Blk.second WX _ _ _
  have sA : WA.heap.size = WX.heap.size + 2 := by rw [← hWA]; simp
  have HST : (storeVar 189 ⟨WX.heap.size, 0, none⟩ (.agg #[.int .i64 (P : Int), .slice none 0 0, .slice none 0 0, .slice none 0 0, .slice none 0 0, .slice none 0 0, .slice none 0 0, .slice none 0 0, .slice none 0 0, .slice none 0 0, .slice none 0 0, .slice none 0 0, .slice none 0 0, .slice none 0 0, .slice none 0 0, .slice none 0 0, .slice none 0 0, .slice none 0 0])).run Tryz.prog WA = .ok () (WA.setRow WX.heap.size #[.int .i64 (P : Int), .slice none 0 0, .slice none 0 0, .slice none 0 0, .slice none 0 0, .slice none 0 0, .slice none 0 0, .slice none 0 0, .slice none 0 0, .slice none 0 0, .slice none 0 0, .slice none 0 0, .slice none 0 0, .slice none 0 0, .slice none 0 0, .slice none 0 0, .slice none 0 0, .slice none 0 0]) := store_col0 bA2 rfl rfl (one_nils _)
  have bR3 : Blk (WA.setRow WX.heap.size #[.int .i64 (P : Int), .slice none 0 0, .slice none 0 0, .slice none 0 0, .slice none 0 0, .slice none 0 0, .slice none 0 0, .slice none 0 0, .slice none 0 0, .slice none 0 0, .slice none 0 0, .slice none 0 0, .slice none 0 0, .slice none 0 0, .slice none 0 0, .slice none 0 0, .slice none 0 0, .slice none 0 0]) (WX.heap.size + 1) 3 #[.int .i64 0] := bA3.farRow (by omega) _
  obtain ⟨W2, hW2⟩ : ∃ x, (WA.setRow WX.heap.size #[.int .i64 (P : Int), .slice none 0 0, .slice none 0 0, .slice none 0 0, .slice none 0 0, .slice none 0 0, .slice none 0 0, .slice none 0 0, .slice none 0 0, .slice none 0 0, .slice none 0 0, .slice none 0 0, .slice none 0 0, .slice none 0 0, .slice none 0 0, .slice none 0 0, .slice none 0 0, .slice none 0 0]).setCell ⟨WX.heap.size + 1, 0, none⟩ (.int .i64 0) = x := ⟨_, rfl⟩
  have q2 : Blk W2 WX.heap.size 189 #[.int .i64 (P : Int), .slice none 0 0, .slice none 0 0, .slice none 0 0, .slice none 0 0, .slice none 0 0, .slice none 0 0, .slice none 0 0, .slice none 0 0, .slice none 0 0, .slice none 0 0, .slice none 0 0, .slice none 0 0, .slice none 0 0, .slice none 0 0, .slice none 0 0, .slice none 0 0, .slice none 0 0] := by rw [← hW2]; exact (bA2.setRow _).far (by show WX.heap.size ≠ WX.heap.size + 1; omega) _
  have q3 : Blk W2 (WX.heap.size + 1) 3 #[.int .i64 0] := by rw [← hW2]; exact bR3.set_ 0 _
  have q0 : Blk W2 w.heap.size 189 vs.toArray := by rw [← hW2]; exact ((bX0.below hBA bX0.lt).farRow (by omega) _).far (by show w.heap.size ≠ WX.heap.size + 1; omega) _
  have q1 : Blk W2 (w.heap.size + 1) 189 #[.int .i64 0, .slice none 0 0, .slice none 0 0, .slice none 0 0, .slice none 0 0, .slice none 0 0, .slice none 0 0, .slice none 0 0, .slice none 0 0, .slice none 0 0, .slice none 0 0, .slice none 0 0, .slice none 0 0, .slice none 0 0, .slice none 0 0, .slice none 0 0, .slice none 0 0, .slice none 0 0] := by rw [← hW2]; exact ((bX1.below hBA bX1.lt).farRow (by omega) _).far (by show w.heap.size + 1 ≠ WX.heap.size + 1; omega) _
  have hBW : Below w.heap.size w W2 := by rw [← hW2]; exact (C.below_setRow (below_in hBX hBA) (by omega) _).setCell (by show w.heap.size ≤ WX.heap.size + 1; omega) _
  have s2 : W2.heap.size = WX.heap.size + 2 := by rw [← hW2]; simp [World.setRow, sA]
  have k0 := bX0.cell 0
  rw [List.getElem?_toArray, h0] at k0
  have k3 := bR3.one
  have k4 := bR3.frozen 0
  obtain ⟨b, hb⟩ : ∃ b, by_ % (P : Int) = b := ⟨_, rfl⟩
  have b1 : 0 ≤ b := by rw [← hb]; exact Int.emod_nonneg _ (by omega)
  have b2 : b < (P : Int) := by rw [← hb]; exact Int.emod_lt_of_pos _ (by omega)
  have HPL : Hid (∀ U : World, Below w.heap.size w U → Calls Tryz.prog 268 #[.agg vs.toArray, .int .i64 by_] U fun e w' => e = .returned (.int .i64 b) ∧ Below U.heap.size U w') := fun U hU => by
    have := place_any P vs hp h0 by_ y1 y2 U (hL.next hU)
    rwa [hb] at this
  have HWK := Lib.hid (fun (U : World) (hU : Below w.heap.size w U) => modWalk_anyO (P : Int) b 1 (fine_one.2 ⟨hp, b1, b2⟩) U (hL.next hU) (by omega) (by omega))
  have HSS : Hid (∀ U, Below W2.heap.size W2 U → (fun U : World => U.cell? ⟨w.heap.size, 0, none⟩ = some (.int .i64 (P : Int)) ∧ LoadIs Tryz.prog 189 ⟨w.heap.size, 0, none⟩ (.agg vs.toArray) U) U) := fun U hU => ⟨by
    have := (q0.below hU q0.lt).cell 0
    rwa [List.getElem?_toArray, h0] at this, load_col0 (q0.below hU q0.lt) hl⟩
  have hBx := (Below.refl W2.heap.size W2).drew
  obtain ⟨ws, hws⟩ : ∃ ws, (vs.drop 1).take 17 = ws := ⟨_, rfl⟩
  have hwl : ws.length = 17 := by rw [← hws, List.length_take, List.length_drop]; omega
  have HLW := Lib.hid (fun (X : World) (hX : Blk X w.heap.size 189 vs.toArray) => (by
    have := load_whole hX 1 (by omega)
    rwa [hws] at this : LoadIs Tryz.prog 187 ⟨w.heap.size, 1, none⟩ (.agg ws.toArray) X))
  have HCE := Lib.hid (fun (k : Nat) (hk : k < P) (X : World) (u : Value) (hu : vs[k + 1]? = some u) => cell_any ws k u hwl (by rw [← hws, ws_get hl k (by omega), hu]) X)
  have HR := Lib.hid hr
  have HVS := Lib.hid (⟨hl, h0, h1c⟩ : _ ∧ _ ∧ _)
  have HQ := Lib.hid hQ
  have HPP := Lib.hid hp
  have HBY := Lib.hid hb
  have HSX := Lib.hid sX
  have HS2 := Lib.hid s2
  clear hl h0 hr h1c hws hwl bX0 bX1 bA2 bA3 bR3 sX sA s2 hQ hp hb hBX hBA hL
  refine (callsIn_wide (n := 9)).1 ?_
  refine callsIn_of_wp_marks Tryz.func224 rfl trivial ?_ rfl
  simp only [Tryz.ntmps224, List.size_toArray, List.length_cons, List.length_nil, Nat.reduceAdd, Nat.reduceSub, Array.replicate_succ, Array.replicate_zero, List.push_toArray, List.append_toArray, List.nil_append, List.cons_append]
  gi_wp2_with (refine wpListIn_storeS rfl rfl rfl rfl HST ?_)
  clear HST hWX hWA hW2 k0 k3 k4
  have hS : (fun U : World => U.cell? ⟨w.heap.size, 0, none⟩ = some (.int .i64 (P : Int)) ∧ LoadIs Tryz.prog 189 ⟨w.heap.size, 0, none⟩ (.agg vs.toArray) U) W2.drew := HSS.out _ hBx
  refine wpIn_mono (region_HF (Q := NoPanic _) (S := (fun U : World => U.cell? ⟨w.heap.size, 0, none⟩ = some (.int .i64 (P : Int)) ∧ LoadIs Tryz.prog 189 ⟨w.heap.size, 0, none⟩ (.agg vs.toArray) U)) (by kernel_rfl) ?_) NoPanic.imp
  refine anyHF_take (i := 0) (d := 11) (v := .pointer (some ⟨w.heap.size, 0, none⟩)) (by kernel_rfl) rfl (by kernel_rfl) (by kernel_rfl) (by kernel_rfl) rfl (fun _ _ _ h => h) ⟨Or.inl ⟨by rfl, fun w hS => by obtain ⟨h0, h1⟩ := hS; go_simp⟩, fun _ => rfl⟩ hS ?_
  simp only [List.setIfInBounds_toArray, List.set_cons_zero, List.set_cons_succ]
  refine anyHF_take (i := 1) (d := 12) (v := .int .i64 (P : Int)) (by kernel_rfl) rfl (by kernel_rfl) (by kernel_rfl) (by kernel_rfl) rfl (fun _ _ _ h => h) ⟨Or.inl ⟨by rfl, fun w hS => by obtain ⟨h0, h1⟩ := hS; go_simp⟩, fun _ => rfl⟩ hS ?_
  simp only [List.setIfInBounds_toArray, List.set_cons_zero, List.set_cons_succ]
  refine anyHF_take (i := 2) (d := 13) (v := .agg vs.toArray) (by kernel_rfl) rfl (by kernel_rfl) (by kernel_rfl) (by kernel_rfl) rfl (fun _ _ _ h => h) ⟨Or.inl ⟨by rfl, fun w hS => by obtain ⟨h0, h1⟩ := hS; exact exec_load rfl rfl (by first | exact h1)⟩, fun _ => rfl⟩ hS ?_
  simp only [List.setIfInBounds_toArray, List.set_cons_zero, List.set_cons_succ]
  refine anyHF_take (i := 3) (d := 14) (v := .int .i64 by_) (by kernel_rfl) rfl (by kernel_rfl) (by kernel_rfl) (by kernel_rfl) rfl (fun _ _ _ h => h) ⟨Or.inl ⟨by rfl, fun w hS => by obtain ⟨h0, h1⟩ := hS; go_simp⟩, fun _ => rfl⟩ hS ?_
  simp only [List.setIfInBounds_toArray, List.set_cons_zero, List.set_cons_succ]
  refine anyHF_one (i := 4) (by kernel_rfl) rfl (by kernel_rfl) (by rfl) ?_
  gi_wp2_with fail
  refine ⟨trivial, (callsIn_wide.2 (HPL.out _ (below_in hBW hBx))).mono ?_⟩
  rintro e w1 ⟨rfl, hB1⟩
  replace hBx := below_in hBx hB1
  clear hS
  have hS : (fun U : World => U.cell? ⟨w.heap.size, 0, none⟩ = some (.int .i64 (P : Int)) ∧ LoadIs Tryz.prog 189 ⟨w.heap.size, 0, none⟩ (.agg vs.toArray) U) w1 := HSS.out _ hBx
  gi_wp2
  try (refine ⟨hS, ?_⟩)
  refine anyHF_one (i := 5) (by kernel_rfl) rfl (by kernel_rfl) (by rfl) ?_
  gi_wp2_with fail
  refine ⟨trivial, (callsIn_wide.2 (HWK.out _ (below_in hBW hBx))).mono ?_⟩
  rintro e w2 ⟨v', rfl, ⟨gf, lb, rfl, eg, hgo⟩, hB2⟩
  have hBx1 := hBx
  replace hBx := below_in hBx hB2
  clear hS
  have hS : (fun U : World => U.cell? ⟨w.heap.size, 0, none⟩ = some (.int .i64 (P : Int)) ∧ LoadIs Tryz.prog 189 ⟨w.heap.size, 0, none⟩ (.agg vs.toArray) U) w2 := HSS.out _ hBx
  gi_wp2
  try (refine ⟨hS, ?_⟩)
  refine anyHF_done (by kernel_rfl) ?_ _
  refine NoPanic.normal ?_
  have hlen : (walkN (P : Int) b 1).length = P := by rw [walkN_yes (fine_one.2 ⟨HPP.out, b1, b2⟩), walkL_len, Int.toNat_natCast]
  have hsz1 := hBx1.size
  have hszb := hB2.size
  have sX := HSX.out
  have s2 := HS2.out
  have h16 : WX.heap.size + 2 ≤ w1.heap.size := by omega
  clear hS sX s2
  gi_wp2_with fail
  refine wpIn_rangeActO rfl (by omega) (gf := gf) (lb := lb) rfl trivial eg (hgo _ (by omega)) (fun h h' => h.trans h') (fun X l' ob hl' hlX _ => Keep.putFar X (by omega) ob) (Below.refl _ _) (fun _ => rfl)
    (fun (pre : List Int) X => Blk X w.heap.size 189 vs.toArray ∧ Blk X (w.heap.size + 1) 189 #[.int .i64 0, .slice none 0 0, .slice none 0 0, .slice none 0 0, .slice none 0 0, .slice none 0 0, .slice none 0 0, .slice none 0 0, .slice none 0 0, .slice none 0 0, .slice none 0 0, .slice none 0 0, .slice none 0 0, .slice none 0 0, .slice none 0 0, .slice none 0 0, .slice none 0 0, .slice none 0 0] ∧ Blk X WX.heap.size 189 (mvL vs [.int .i64 (P : Int), .slice none 0 0, .slice none 0 0, .slice none 0 0, .slice none 0 0, .slice none 0 0, .slice none 0 0, .slice none 0 0, .slice none 0 0, .slice none 0 0, .slice none 0 0, .slice none 0 0, .slice none 0 0, .slice none 0 0, .slice none 0 0, .slice none 0 0, .slice none 0 0, .slice none 0 0] 0 pre).toArray ∧ Blk X (WX.heap.size + 1) 3 #[.int .i64 (pre.length : Int)] ∧ Below w.heap.size w X) (fun _ _ _ => False) ?hI (fun c s o X Y row hs _ _ => hs.2.elim) ?h0 ?act (fun x : Int => 0 ≤ x ∧ x < (P : Int)) ?assign ?body ?done (fun D c pre W _ _ h => h.elim)
  case h0 => exact ⟨q0.below hBx q0.lt, q1.below hBx q1.lt, q2.below hBx q2.lt, q3.below hBx q3.lt, below_in hBW hBx⟩
  case hI =>
    have sX := HSX.out
    exact FarO.and (farO_pure _ (fun _ o => o = none)) (FarO.and (farO_blk (by omega) _ (fun _ => vs.toArray)) (FarO.and (farO_blk (by omega) _ (fun _ => _)) (FarO.and (farO_blk (by omega) _ (fun pre : List Int => (mvL vs [.int .i64 (P : Int), .slice none 0 0, .slice none 0 0, .slice none 0 0, .slice none 0 0, .slice none 0 0, .slice none 0 0, .slice none 0 0, .slice none 0 0, .slice none 0 0, .slice none 0 0, .slice none 0 0, .slice none 0 0, .slice none 0 0, .slice none 0 0, .slice none 0 0, .slice none 0 0, .slice none 0 0] 0 pre).toArray)) (FarO.and (farO_blk (by omega) _ (fun pre : List Int => #[.int .i64 (pre.length : Int)])) (farO_below (Nat.le_refl _) (by omega))))))
  case assign =>
    intro l' pre x X K hsz hi hok hK
    gi_wp2
    exact hK _ (Below.refl _ _) (Keep.refl _ _ _) hi hok
  case body =>
    rintro l' pre x X hsz ⟨p0, p1, p2, p3, hbX⟩ ⟨x0, x1⟩ hln
    rw [hlen] at hln
    obtain ⟨r, rfl⟩ : ∃ r : Nat, x = (r : Int) := ⟨x.toNat, by omega⟩
    have sX := HSX.out
    obtain ⟨k, hk⟩ : ∃ k, pre.length = k := ⟨_, rfl⟩
    rw [hk] at p3 hln
    obtain ⟨us, hus⟩ : ∃ us, mvL vs [.int .i64 (P : Int), .slice none 0 0, .slice none 0 0, .slice none 0 0, .slice none 0 0, .slice none 0 0, .slice none 0 0, .slice none 0 0, .slice none 0 0, .slice none 0 0, .slice none 0 0, .slice none 0 0, .slice none 0 0, .slice none 0 0, .slice none 0 0, .slice none 0 0, .slice none 0 0, .slice none 0 0] 0 pre = us := ⟨_, rfl⟩
    have hul : us.length = 18 := by rw [← hus, mvL_len]; rfl
    obtain ⟨nk, u, hu, yk⟩ := HR.out k hln
    obtain ⟨Au, cu, eu, _, _⟩ := id yk
    rw [nk] at eu
    subst eu
    have hnext : mvL vs [.int .i64 (P : Int), .slice none 0 0, .slice none 0 0, .slice none 0 0, .slice none 0 0, .slice none 0 0, .slice none 0 0, .slice none 0 0, .slice none 0 0, .slice none 0 0, .slice none 0 0, .slice none 0 0, .slice none 0 0, .slice none 0 0, .slice none 0 0, .slice none 0 0, .slice none 0 0, .slice none 0 0] 0 (pre ++ [(r : Int)]) = us.set (1 + r) (.slice Au n cu) := by rw [mvL_snoc, hus, hk, Nat.zero_add, Int.toNat_natCast, hu, Nat.add_comm 1 r]; rfl
    rw [hus] at p2
    have hlw := HLW.out X p0
    have hce := HCE.out k hln X _ hu
    have c3 := p3.one
    have i1 : (0 : Int) ≤ (k : Int) := by omega
    have i2 : (k : Int) < 17 := by omega
    have i3 : (0 : Int) ≤ (r : Int) := by omega
    have i4 : (r : Int) < 17 := by omega
    have hwr : IntKind.i64.wrap ((k : Int) + 1) = (k : Int) + 1 := IntWalk.i64_in _ (by omega)
    have HUS := Lib.hid hus
    have HK := Lib.hid hk
    have HUL := Lib.hid hul
    have HN := Lib.hid hnext
    have HS := Lib.hid sX
    clear hus hk hul hnext sX x0 x1 hlen hu yk nk
    gi_wp2_with (refine wpListIn_loadS rfl rfl rfl hlw ?_)
    refine ⟨trivial, (CallsIn.inRound l' (callsIn_wide.2 hce)).mono ?_⟩
    rintro e X1 ⟨rfl, hB1⟩
    have r2 := p2.below hB1 p2.lt
    have r3 := p3.below hB1 p3.lt
    obtain ⟨old, hold⟩ : ∃ old, X1.cell? ⟨WX.heap.size, 1 + r, none⟩ = some old := ⟨_, by rw [r2.cell, List.getElem?_toArray, List.getElem?_eq_getElem (by have := HUL.out; omega)]⟩
    have hfz := r2.frozen (1 + r)
    have d3 : (X1.setCell ⟨WX.heap.size, 1 + r, none⟩ (.slice Au n cu)).cell? ⟨WX.heap.size + 1, 0, none⟩ = some (.int .i64 (k : Int)) := (r3.far (by show WX.heap.size + 1 ≠ WX.heap.size; omega) _).one
    have e3 : (X1.setCell ⟨WX.heap.size, 1 + r, none⟩ (.slice Au n cu)).frozen? ⟨WX.heap.size + 1, 0, none⟩ = false := (r3.far (by show WX.heap.size + 1 ≠ WX.heap.size; omega) _).frozen 0
    gi_wp2_with fail
    have sX := HS.out
    have hO : Only (fun b => b = WX.heap.size ∨ b = WX.heap.size + 1) X ((X1.setCell ⟨WX.heap.size, 1 + r, none⟩ (.slice Au n cu)).setCell ⟨WX.heap.size + 1, 0, none⟩ (.int .i64 ((k : Int) + 1))) := (Only.below hB1).trans ((Only.set (.inl rfl) _).trans (Only.set (.inr rfl) _))
    have hl2 : w1.heap.size + (w2.heap.size - w1.heap.size) ≤ X.heap.size := by omega
    refine ⟨none, .inl rfl, hO.since (fun b hb => by omega), hO.keep hl2 (fun b hb => by omega), rfl, ?_⟩
    rw [HN.out]
    refine ⟨hO.blk p0 (by omega), hO.blk p1 (by omega), ?_, ?_, ((below_in hbX hB1).setCell (by show w.heap.size ≤ WX.heap.size; omega) _).setCell (by show w.heap.size ≤ WX.heap.size + 1; omega) _⟩
    · have := (r2.set_ (1 + r) (.slice Au n cu)).far (p := ⟨WX.heap.size + 1, 0, none⟩) (by show WX.heap.size ≠ WX.heap.size + 1; omega) (.int .i64 ((k : Int) + 1))
      rwa [List.setIfInBounds_toArray] at this
    · have := (r3.far (p := ⟨WX.heap.size, 1 + r, none⟩) (by show WX.heap.size + 1 ≠ WX.heap.size; omega) (.slice Au n cu)).set_ 0 (.int .i64 ((k : Int) + 1))
      rw [List.length_append, HK.out]
      exact this
  case done =>
    rintro D xs X hD rfl ⟨p0, p1, p2, p3, hbX⟩ hK
    have sX := HSX.out
    have hms := moved_slots P HPP.out b b1 b2 vs [.int .i64 (P : Int), .slice none 0 0, .slice none 0 0, .slice none 0 0, .slice none 0 0, .slice none 0 0, .slice none 0 0, .slice none 0 0, .slice none 0 0, .slice none 0 0, .slice none 0 0, .slice none 0 0, .slice none 0 0, .slice none 0 0, .slice none 0 0, .slice none 0 0, .slice none 0 0, .slice none 0 0] rfl
    have hml := mvL_len vs (walkN (P : Int) b 1) [.int .i64 (P : Int), .slice none 0 0, .slice none 0 0, .slice none 0 0, .slice none 0 0, .slice none 0 0, .slice none 0 0, .slice none 0 0, .slice none 0 0, .slice none 0 0, .slice none 0 0, .slice none 0 0, .slice none 0 0, .slice none 0 0, .slice none 0 0, .slice none 0 0, .slice none 0 0, .slice none 0 0] 0
    have hmz := mvL_zero vs (walkN (P : Int) b 1) [.int .i64 (P : Int), .slice none 0 0, .slice none 0 0, .slice none 0 0, .slice none 0 0, .slice none 0 0, .slice none 0 0, .slice none 0 0, .slice none 0 0, .slice none 0 0, .slice none 0 0, .slice none 0 0, .slice none 0 0, .slice none 0 0, .slice none 0 0, .slice none 0 0, .slice none 0 0, .slice none 0 0] 0
    have hm1 := mvL_one vs HVS.out.2.2 (walkN (P : Int) b 1) [.int .i64 (P : Int), .slice none 0 0, .slice none 0 0, .slice none 0 0, .slice none 0 0, .slice none 0 0, .slice none 0 0, .slice none 0 0, .slice none 0 0, .slice none 0 0, .slice none 0 0, .slice none 0 0, .slice none 0 0, .slice none 0 0, .slice none 0 0, .slice none 0 0, .slice none 0 0, .slice none 0 0] 0 (by have := HVS.out.1; omega) (one_nils _)
    generalize mvL vs [.int .i64 (P : Int), .slice none 0 0, .slice none 0 0, .slice none 0 0, .slice none 0 0, .slice none 0 0, .slice none 0 0, .slice none 0 0, .slice none 0 0, .slice none 0 0, .slice none 0 0, .slice none 0 0, .slice none 0 0, .slice none 0 0, .slice none 0 0, .slice none 0 0, .slice none 0 0, .slice none 0 0] 0 (walkN (P : Int) b 1) = us at *
    have hul : us.length = 18 := hml
    have HLD := load_col0 p2 hul
    have HSD := store_col0 (cs := [.int .i64 0, .slice none 0 0, .slice none 0 0, .slice none 0 0, .slice none 0 0, .slice none 0 0, .slice none 0 0, .slice none 0 0, .slice none 0 0, .slice none 0 0, .slice none 0 0, .slice none 0 0, .slice none 0 0, .slice none 0 0, .slice none 0 0, .slice none 0 0, .slice none 0 0, .slice none 0 0]) p1 rfl hul hm1
    have z1 := p1.setRow us.toArray
    have hKz : (X.setRow (w.heap.size + 1) us.toArray).heap[D]? = some (.deferred (some [])) := (setRow_other X _ D _ (by omega)).trans hK
    have hbz := C.below_setRow hbX (show w.heap.size ≤ w.heap.size + 1 by omega) us.toArray
    have HF : Hid (ColV B ((X.setRow (w.heap.size + 1) us.toArray).putObj D (.deferred none)) P n (fun r => f (((r : Int) - by_) % P).toNat) us ∧ LoadIs Tryz.prog 189 ⟨w.heap.size + 1, 0, none⟩ (.agg us.toArray) ((X.setRow (w.heap.size + 1) us.toArray).putObj D (.deferred none)) ∧ Below w.heap.size w ((X.setRow (w.heap.size + 1) us.toArray).putObj D (.deferred none))) := by
      have hWf : Below w.heap.size w ((X.setRow (w.heap.size + 1) us.toArray).putObj D (.deferred none)) := hbz.trans (belowK_b (w := w) (Nat.le_refl _) _ D _ _ (by have := hbz.size; omega) hKz rfl rfl)
      refine ⟨⟨hul, by rw [hmz]; rfl, fun r hr => ?_, hm1⟩, ?_, hWf⟩
      · have e1 : ((r : Int) - b) % (P : Int) = ((r : Int) - by_) % (P : Int) := by rw [← HBY.out, Int.sub_emod, Int.emod_emod_of_dvd _ (Int.dvd_refl _), ← Int.sub_emod]
        have h0 := Int.emod_nonneg ((r : Int) - by_) (show (P : Int) ≠ 0 by omega)
        have h2 := Int.emod_lt_of_pos ((r : Int) - by_) (show (0 : Int) < P by omega)
        obtain ⟨nk, u, hu, yk⟩ := (hVB.out _ hWf).2.2.1 (((r : Int) - by_) % (P : Int)).toNat (by omega)
        have := hms r hr
        rw [e1, hu] at this
        exact ⟨nk, u, this, yk⟩
      · exact load_col0 ((World.putObj_heap_other (by omega)).trans z1) hul
    clear hms hml hmz hm1
    gi_wp2_with (first | refine wpListIn_loadS rfl rfl rfl HLD ?_ | refine wpListIn_storeS rfl rfl rfl rfl HSD ?_)
    refine ⟨by simp, .inl ⟨_, _, rfl, run_takeDeferred hKz, ?_⟩⟩
    exact ⟨_, results_cell rfl rfl HF.out.2.1, us, rfl, HF.out.1, HF.out.2.2⟩
end Go.Proofs.YtfihlelhpmjpaaaGreatDoor.Rg

