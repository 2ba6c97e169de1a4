/- chain: the chain of two columns, made. chain: rows of places; the order of a chain. chain: the order of a chain, gathered. -/
import Derived.Test.YtfihlelhpmjpaaaGreatDoorCRG9
namespace Go.Proofs.YtfihlelhpmjpaaaGreatDoor.T
open Go.RowKit Go.Shelf Go.Maps Go.Proofs.YtfihlelhpmjpaaaGreatDoor.C Go.Proofs.YtfihlelhpmjpaaaGreatDoor.E Go.Proofs.YtfihlelhpmjpaaaGreatDoor.Ch
set_option linter.unusedSimpArgs false
set_option linter.unusedVariables false
attribute [local go_sem] Oper.semAt_some

theorem chainT_of {lo gl ga gb : Nat} {p a b : Int} {lv : Value} {w' : World} (hp : p ∈ prm) (ha : 0 ≤ a ∧ a < p) (hb : 0 ≤ b ∧ b < p) (hl : lo ≤ gl) (hla : lo ≤ ga) (hlb : lo ≤ gb) (hL : Laid w') (bl : Blk w' gl 70 #[.int .i64 p, lv]) (ba : Blk w' ga 3 #[.int .i64 a]) (bb : Blk w' gb 3 #[.int .i64 b]) :
    ChainT lo p a b (Rg.rowsF p (walkN p (p - 1) (a - b))) (.func (.func 165) #[] #[.pointer (some ⟨gl, 0, none⟩), .pointer (some ⟨ga, 0, none⟩), .pointer (some ⟨gb, 0, none⟩)]) w' :=
  ⟨_, _, rfl, enter_chain1, fun n hn l J Jx W o₀ hW ho₀ hJ hJx hr1 hr2 hY h0 => chain1_in n hn l gl ga gb lo w'.heap.size p a b hp ha hb lv W (hL.next hW) ⟨hl, bl.lt⟩ ⟨hla, ba.lt⟩ ⟨hlb, bb.lt⟩ hW.size J Jx o₀ ho₀ hJ hJx hr1 hr2
    (fun pre x o W1 hj hok hs => hY pre x o W1 hj hok (okC_at hok).1 hs) (bl.below hW bl.lt) (ba.below hW ba.lt) (bb.below hW bb.lt) h0⟩
set_option maxRecDepth 100000 in
set_option maxHeartbeats 4000000 in
theorem chain_any (p a b : Int) (hp : p ∈ prm) (ha : 0 ≤ a ∧ a < p) (hb : 0 ≤ b ∧ b < p) (g : Nat) (w : World) (hL : Laid w) (hg : g < w.heap.size) (ca : w.cell? ⟨g, 0, none⟩ = some (.int .i64 a)) (cb : w.cell? ⟨g, 1, none⟩ = some (.int .i64 b)) :
    Calls Tryz.prog 105 #[.agg #[.int .i64 p, .slice (some ⟨g, 0, none⟩) 2 2]] w fun e w' => ∃ v, e = .returned v ∧ ChainT w.heap.size p a b (Rg.rowsF p (walkN p (p - 1) (a - b))) v w' ∧ Below w.heap.size w w' := by
  obtain ⟨w0, hw0⟩ : ∃ x, w.alloc (.cells #[.int .i64 p, .slice (some ⟨g, 0, none⟩) 2 2] 70) = x := ⟨_, rfl⟩
  obtain ⟨gl, hgl⟩ : ∃ x, w.heap.size = x := ⟨_, rfl⟩
  have bl : Blk w0 gl 70 #[.int .i64 p, .slice (some ⟨g, 0, none⟩) 2 2] := by rw [← hw0, ← hgl]; exact Blk.new w _ _
  have hB0 : Below w.heap.size w w0 := by rw [← hw0]; exact below_one w _
  have s0 : w0.heap.size = w.heap.size + 1 := by rw [← hw0]; simp
  have HSS : Hid (∀ V, Below w0.heap.size w0 V → (fun U : World => U.cell? ⟨gl, 0, none⟩ = some (.int .i64 p) ∧ U.cell? ⟨gl, 1, none⟩ = some (.slice (some ⟨g, 0, none⟩) 2 2) ∧ U.cell? ⟨g, 0, none⟩ = some (.int .i64 a) ∧ U.cell? ⟨g, 1, none⟩ = some (.int .i64 b)) V) := fun V hV => ⟨(bl.below hV bl.lt).cell 0, (bl.below hV bl.lt).cell 1, ((below_in hB0 hV).cell (p := ⟨g, 0, none⟩) hg).trans ca, ((below_in hB0 hV).cell (p := ⟨g, 1, none⟩) hg).trans cb⟩
  have HFIN : Hid (∀ (A4 : World) (ga gb : Nat), Below w0.heap.size w0 A4 → w0.heap.size ≤ ga → w0.heap.size ≤ gb → Blk A4 ga 3 #[.int .i64 a] → Blk A4 gb 3 #[.int .i64 b] → ∃ v, Ending.returned (.func (.func 165) #[] #[.pointer (some ⟨gl, 0, none⟩), .pointer (some ⟨ga, 0, none⟩), .pointer (some ⟨gb, 0, none⟩)]) = .returned v ∧ ChainT w.heap.size p a b (Rg.rowsF p (walkN p (p - 1) (a - b))) v A4 ∧ Below w.heap.size w A4) := fun A4 ga gb h4 h1 h2 e1 e2 =>
    ⟨_, rfl, chainT_of hp ha hb (by omega) (by omega) (by omega) (hL.next (below_in hB0 h4)) (bl.below h4 bl.lt) e1 e2, below_in hB0 h4⟩
  have hBx := (Below.refl w0.heap.size w0).drew
  obtain ⟨n3, hn3⟩ : ∃ x, w0.heap.size = x := ⟨_, rfl⟩
  obtain ⟨n4, hn4⟩ : ∃ x, n3 + 1 = x := ⟨_, rfl⟩
  obtain ⟨A1, hA1⟩ : ∃ x, w0.drew.alloc (.cells #[.int .i64 0] 3) = x := ⟨_, rfl⟩
  obtain ⟨A2, hA2⟩ : ∃ x, A1.alloc (.cells #[.int .i64 0] 3) = x := ⟨_, rfl⟩
  have hB1 : Below w0.heap.size w0 A1 := by rw [← hA1]; exact hBx.alloc (Nat.le_refl _) _
  have s1 : A1.heap.size = n4 := by rw [← hA1, ← hn4, ← hn3]; simp
  have hB2 : Below w0.heap.size w0 A2 := by rw [← hA2]; exact hB1.alloc hB1.size _
  have bn3 : Blk A2 n3 3 #[.int .i64 0] := by rw [← hA2, ← hA1, ← hn3]; exact (Blk.new w0.drew _ _).alloc _
  have bn4 : Blk A2 n4 3 #[.int .i64 0] := by rw [← hA2, ← s1]; exact Blk.new A1 _ _
  have hS : (fun U : World => U.cell? ⟨gl, 0, none⟩ = some (.int .i64 p) ∧ U.cell? ⟨gl, 1, none⟩ = some (.slice (some ⟨g, 0, none⟩) 2 2) ∧ U.cell? ⟨g, 0, none⟩ = some (.int .i64 a) ∧ U.cell? ⟨g, 1, none⟩ = some (.int .i64 b)) w0.drew := HSS.out _ hBx
  have hS1 : (fun U : World => U.cell? ⟨gl, 0, none⟩ = some (.int .i64 p) ∧ U.cell? ⟨gl, 1, none⟩ = some (.slice (some ⟨g, 0, none⟩) 2 2) ∧ U.cell? ⟨g, 0, none⟩ = some (.int .i64 a) ∧ U.cell? ⟨g, 1, none⟩ = some (.int .i64 b)) A1 := HSS.out _ hB1
  have hS2 : (fun U : World => U.cell? ⟨gl, 0, none⟩ = some (.int .i64 p) ∧ U.cell? ⟨gl, 1, none⟩ = some (.slice (some ⟨g, 0, none⟩) 2 2) ∧ U.cell? ⟨g, 0, none⟩ = some (.int .i64 a) ∧ U.cell? ⟨g, 1, none⟩ = some (.int .i64 b)) A2 := HSS.out _ hB2
  have sd : w0.drew.heap.size = n3 := hn3
  clear bl ca cb hL hp ha hb
  refine (callsIn_wide (n := 9)).1 ?_
  refine callsIn_of_wp_marks Tryz.func105 rfl trivial ?_ rfl
  simp only [Tryz.ntmps105, List.size_toArray, List.length_cons, List.length_nil, Nat.reduceAdd, Nat.reduceSub, Array.replicate_succ, Array.replicate_zero, List.push_toArray, List.append_toArray, List.nil_append, List.cons_append]
  gi_wp2_with fail
  (try rw [hgl]); (try rw [hw0])
  refine wpIn_mono (region_HF (Q := NoPanic _) (S := (fun U : World => U.cell? ⟨gl, 0, none⟩ = some (.int .i64 p) ∧ U.cell? ⟨gl, 1, none⟩ = some (.slice (some ⟨g, 0, none⟩) 2 2) ∧ U.cell? ⟨g, 0, none⟩ = some (.int .i64 a) ∧ U.cell? ⟨g, 1, none⟩ = some (.int .i64 b))) (by kernel_rfl) ?_) NoPanic.imp
  refine anyHF_take (i := 0) (d := 5) (v := .pointer (some ⟨gl, 1, none⟩)) (by kernel_rfl) rfl (by kernel_rfl) (by kernel_rfl) (by kernel_rfl) rfl (fun _ _ _ h => h) ⟨Or.inl ⟨by rfl, fun w hS => by obtain ⟨h0, h1, h2, h3⟩ := hS; go_simp⟩, fun _ => rfl⟩ hS ?_
  simp only [List.setIfInBounds_toArray, List.set_cons_zero, List.set_cons_succ]
  refine anyHF_take (i := 1) (d := 6) (v := .slice (some ⟨g, 0, none⟩) 2 2) (by kernel_rfl) rfl (by kernel_rfl) (by kernel_rfl) (by kernel_rfl) rfl (fun _ _ _ h => h) ⟨Or.inl ⟨by rfl, fun w hS => by obtain ⟨h0, h1, h2, h3⟩ := hS; go_simp⟩, fun _ => rfl⟩ hS ?_
  simp only [List.setIfInBounds_toArray, List.set_cons_zero, List.set_cons_succ]
  refine anyHF_take (i := 2) (d := 7) (v := .pointer (some ⟨g, 0, none⟩)) (by kernel_rfl) rfl (by kernel_rfl) (by kernel_rfl) (by kernel_rfl) rfl (fun _ _ _ h => h) ⟨Or.inl ⟨by rfl, fun w hS => by obtain ⟨h0, h1, h2, h3⟩ := hS; go_simp⟩, fun _ => rfl⟩ hS ?_
  simp only [List.setIfInBounds_toArray, List.set_cons_zero, List.set_cons_succ]
  refine anyHF_take (i := 3) (d := 8) (v := .int .i64 a) (by kernel_rfl) rfl (by kernel_rfl) (by kernel_rfl) (by kernel_rfl) rfl (fun _ _ _ h => h) ⟨Or.inl ⟨by rfl, fun w hS => by obtain ⟨h0, h1, h2, h3⟩ := hS; go_simp⟩, fun _ => rfl⟩ hS ?_
  simp only [List.setIfInBounds_toArray, List.set_cons_zero, List.set_cons_succ]
  refine anyHF_take (i := 4) (d := 9) (v := .pointer (some ⟨gl, 1, none⟩)) (by kernel_rfl) rfl (by kernel_rfl) (by kernel_rfl) (by kernel_rfl) rfl (fun _ _ _ h => h) ⟨Or.inl ⟨by rfl, fun w hS => by obtain ⟨h0, h1, h2, h3⟩ := hS; go_simp⟩, fun _ => rfl⟩ hS ?_
  simp only [List.setIfInBounds_toArray, List.set_cons_zero, List.set_cons_succ]
  refine anyHF_take (i := 5) (d := 10) (v := .slice (some ⟨g, 0, none⟩) 2 2) (by kernel_rfl) rfl (by kernel_rfl) (by kernel_rfl) (by kernel_rfl) rfl (fun _ _ _ h => h) ⟨Or.inl ⟨by rfl, fun w hS => by obtain ⟨h0, h1, h2, h3⟩ := hS; go_simp⟩, fun _ => rfl⟩ hS ?_
  simp only [List.setIfInBounds_toArray, List.set_cons_zero, List.set_cons_succ]
  refine anyHF_take (i := 6) (d := 11) (v := .pointer (some ⟨g, 1, none⟩)) (by kernel_rfl) rfl (by kernel_rfl) (by kernel_rfl) (by kernel_rfl) rfl (fun _ _ _ h => h) ⟨Or.inl ⟨by rfl, fun w hS => by obtain ⟨h0, h1, h2, h3⟩ := hS; go_simp⟩, fun _ => rfl⟩ hS ?_
  simp only [List.setIfInBounds_toArray, List.set_cons_zero, List.set_cons_succ]
  refine anyHF_take (i := 7) (d := 12) (v := .int .i64 b) (by kernel_rfl) rfl (by kernel_rfl) (by kernel_rfl) (by kernel_rfl) rfl (fun _ _ _ h => h) ⟨Or.inl ⟨by rfl, fun w hS => by obtain ⟨h0, h1, h2, h3⟩ := hS; go_simp⟩, fun _ => rfl⟩ hS ?_
  simp only [List.setIfInBounds_toArray, List.set_cons_zero, List.set_cons_succ]
  refine Rg.anyHF_both (i := 8) (j := 9) (by kernel_rfl) rfl rfl (by rfl) (by rfl) ?ca ?cb
  case ca =>
    gi_wp2
    (try rw [hA1])
    try (refine ⟨hS1, ?_⟩)
    refine anyHF_one (i := 9) (by kernel_rfl) rfl (by kernel_rfl) (by rfl) ?_
    gi_wp2
    (try rw [hA2])
    try (refine ⟨hS2, ?_⟩)
    have c1 := (bn3.cell 0)
    have f1 := bn3.frozen 0
    obtain ⟨A3, hA3⟩ : ∃ y, A2.setCell ⟨n3, 0, none⟩ (.int .i64 a) = y := ⟨_, rfl⟩
    have h3 : Below w0.heap.size w0 A3 := by rw [← hA3]; exact hB2.setCell (by show w0.heap.size ≤ n3; omega) _
    have d1 : Blk A3 n3 3 #[.int .i64 a] := by rw [← hA3]; exact bn3.set_ 0 _
    have d2 : Blk A3 n4 3 #[.int .i64 0] := by rw [← hA3]; exact Blk.far bn4 (by show n4 ≠ n3; omega) _
    have hS3 := HSS.out _ h3
    refine anyHF_one (i := 10) (by kernel_rfl) rfl (by kernel_rfl) (by rfl) ?_
    gi_wp2
    (try rw [hA3])
    try (refine ⟨hS3, ?_⟩)
    have c2 := d2.cell 0
    have f2 := d2.frozen 0
    obtain ⟨A4, hA4⟩ : ∃ y, A3.setCell ⟨n4, 0, none⟩ (.int .i64 b) = y := ⟨_, rfl⟩
    have h4 : Below w0.heap.size w0 A4 := by rw [← hA4]; exact h3.setCell (by show w0.heap.size ≤ n4; omega) _
    have e2 : Blk A4 n4 3 #[.int .i64 b] := by rw [← hA4]; exact d2.set_ 0 _
    have e1 : Blk A4 n3 3 #[.int .i64 a] := by rw [← hA4]; exact Blk.far d1 (by show n3 ≠ n4; omega) _
    have hS4 := HSS.out _ h4
    refine anyHF_one (i := 11) (by kernel_rfl) rfl (by kernel_rfl) (by rfl) ?_
    gi_wp2
    (try rw [hA4])
    try (refine ⟨hS4, ?_⟩)
    refine anyHF_done (by kernel_rfl) ?_ _
    refine NoPanic.normal ?_
    have HE := HFIN.out A4 n3 n4 h4 (by omega) (by omega) e1 e2
    clear hS4 hS3 hS2 hS1 hS e1 e2 d1 d2 h3 h4 c1 c2 f1 f2
    gi_wp2_with fail
    exact ⟨_, by simp [results, Tryz.results105, go_sem], HE⟩
  case cb =>
    gi_wp2
    (try rw [hA1])
    try (refine ⟨hS1, ?_⟩)
    refine anyHF_one (i := 8) (by kernel_rfl) rfl (by kernel_rfl) (by rfl) ?_
    gi_wp2
    (try rw [hA2])
    try (refine ⟨hS2, ?_⟩)
    have c1 := (bn4.cell 0)
    have f1 := bn4.frozen 0
    obtain ⟨A3, hA3⟩ : ∃ y, A2.setCell ⟨n4, 0, none⟩ (.int .i64 a) = y := ⟨_, rfl⟩
    have h3 : Below w0.heap.size w0 A3 := by rw [← hA3]; exact hB2.setCell (by show w0.heap.size ≤ n4; omega) _
    have d1 : Blk A3 n4 3 #[.int .i64 a] := by rw [← hA3]; exact bn4.set_ 0 _
    have d2 : Blk A3 n3 3 #[.int .i64 0] := by rw [← hA3]; exact Blk.far bn3 (by show n3 ≠ n4; omega) _
    have hS3 := HSS.out _ h3
    refine anyHF_one (i := 10) (by kernel_rfl) rfl (by kernel_rfl) (by rfl) ?_
    gi_wp2
    (try rw [hA3])
    try (refine ⟨hS3, ?_⟩)
    have c2 := d2.cell 0
    have f2 := d2.frozen 0
    obtain ⟨A4, hA4⟩ : ∃ y, A3.setCell ⟨n3, 0, none⟩ (.int .i64 b) = y := ⟨_, rfl⟩
    have h4 : Below w0.heap.size w0 A4 := by rw [← hA4]; exact h3.setCell (by show w0.heap.size ≤ n3; omega) _
    have e2 : Blk A4 n3 3 #[.int .i64 b] := by rw [← hA4]; exact d2.set_ 0 _
    have e1 : Blk A4 n4 3 #[.int .i64 a] := by rw [← hA4]; exact Blk.far d1 (by show n4 ≠ n3; omega) _
    have hS4 := HSS.out _ h4
    refine anyHF_one (i := 11) (by kernel_rfl) rfl (by kernel_rfl) (by rfl) ?_
    gi_wp2
    (try rw [hA4])
    try (refine ⟨hS4, ?_⟩)
    refine anyHF_done (by kernel_rfl) ?_ _
    refine NoPanic.normal ?_
    have HE := HFIN.out A4 n4 n3 h4 (by omega) (by omega) e1 e2
    clear hS4 hS3 hS2 hS1 hS e1 e2 d1 d2 h3 h4 c1 c2 f1 f2
    gi_wp2_with fail
    exact ⟨_, by simp [results, Tryz.results105, go_sem], HE⟩
end Go.Proofs.YtfihlelhpmjpaaaGreatDoor.T

namespace Go.Proofs.YtfihlelhpmjpaaaGreatDoor.Ch
open Go.RowKit Go.Shelf Go.Proofs.YtfihlelhpmjpaaaGreatDoor.C Go.Proofs.YtfihlelhpmjpaaaGreatDoor.E
set_option linter.unusedSimpArgs false
set_option linter.unusedVariables false
attribute [local go_sem] Oper.semAt_some

/-- The value v owns a row of its own, of the places l as callers know them. -/
def OwnA (w : World) (base : Nat) (v : Value) (l : List (Int × Int)) : Prop := w.ownsRow base 55 2 v l.length (codeCells l)
theorem ownA_nil (w : World) (base : Nat) : OwnA w base (.slice none 0 0) [] := World.ownsRow_nil w base _ 2
theorem OwnA.below {w w' : World} {base : Nat} {v : Value} {l : List (Int × Int)} (h : OwnA w base v l) (hb : Below w.heap.size w w') : OwnA w' base v l := by
  refine ⟨h.1, ?_⟩
  rcases h.2 with h1 | ⟨g, cap, cur, e, h2, hg, rest⟩
  · exact .inl h1
  · exact .inr ⟨g, cap, cur, e, h2, (hb.block g (Array.getElem?_eq_some_iff.1 hg).1).trans hg, rest⟩
theorem OwnA.own_le {w : World} {base : Nat} {v : Value} {l : List (Int × Int)} (h : OwnA w base v l) : ∀ k, v.ownBlock = some k → base ≤ k := fun k e => (World.ownsRow.lt h k e).1
theorem OwnA.ne {w : World} {base : Nat} {v : Value} {l : List (Int × Int)} (h : OwnA w base v l) {g : Nat} (hb : g < base) : some g ≠ v.ownBlock := fun e => by
  have := h.own_le g e.symm
  omega
theorem OwnA.less {w : World} {base base' : Nat} {v : Value} {l : List (Int × Int)} (h : OwnA w base v l) (hb : base' ≤ base) : OwnA w base' v l := ⟨h.1, h.2.imp id fun ⟨g, cap, cur, h1, h2, h3⟩ => ⟨g, cap, cur, h1, Nat.le_trans hb h2, h3⟩⟩
/-- The slice value v reads as the places l. -/
def ReadA (W : World) (v : Value) (l : List (Int × Int)) : Prop :=
  ∃ (p : Option Addr) (cap : Nat), v = .slice p l.length cap ∧ ∀ (j : Nat) (hj : j < l.length), ∃ g, p = some ⟨g, 0, none⟩ ∧ g < W.heap.size ∧ W.cell? ⟨g, j * 2, none⟩ = some (.int .i64 (l[j]).1) ∧ W.cell? ⟨g, j * 2 + 1, none⟩ = some (.int .i64 (l[j]).2)
theorem ReadA.next {W W' : World} {v : Value} {l : List (Int × Int)} (h : ReadA W v l) (hb : Below W.heap.size W W') : ReadA W' v l := by
  obtain ⟨p, cap, e, hc⟩ := h
  refine ⟨p, cap, e, fun j hj => ?_⟩
  obtain ⟨g, h1, h2, h3, h4⟩ := hc j hj
  exact ⟨g, h1, Nat.lt_of_lt_of_le h2 hb.size, nextc h3 hb, nextc h4 hb⟩
theorem OwnA.readA {w : World} {base : Nat} {v : Value} {l : List (Int × Int)} (h : OwnA w base v l) : ReadA w v l := by
  by_cases hl : l = []
  · subst hl
    rcases h.2 with ⟨rfl, _⟩ | ⟨g, cap, cur, e, _⟩
    · exact ⟨none, 0, rfl, fun j hj => absurd hj (Nat.not_lt_zero _)⟩
    · exact ⟨some ⟨g, 0, none⟩, cap, e, fun j hj => absurd hj (Nat.not_lt_zero _)⟩
  · obtain ⟨g, cap, rfl, hg, hg1⟩ := World.ownsRow.form h (List.length_pos_iff.2 hl)
    refine ⟨some ⟨g, 0, none⟩, cap, rfl, fun j hj => ⟨g, rfl, by omega, ?_⟩⟩
    obtain ⟨k0, k1⟩ := codeCells_at l j hj
    rw [Nat.mul_comm 2 j] at k0 k1
    exact ⟨(World.ownsRow.cellAt h (j * 2) (by omega)).trans k0, (World.ownsRow.cellAt h (j * 2 + 1) (by omega)).trans k1⟩
/-- append of one place more. -/
theorem OwnA.push {w : World} {base : Nat} {v : Value} {l : List (Int × Int)} {x y : Int} (h : w.ownsRow base 55 2 v (l.length + 1) (codeCells l ++ [.int .i64 x, .int .i64 y])) : OwnA w base v (l ++ [(x, y)]) := by
  unfold OwnA
  rw [List.length_append]
  unfold codeCells at *
  rw [List.flatMap_append]
  exact h

theorem codeCells_one (l : List (Int × Int)) (x y : Int) : codeCells (l ++ [(x, y)]) = codeCells l ++ [.int .i64 x, .int .i64 y] := by unfold codeCells; rw [List.flatMap_append]; rfl
set_option maxRecDepth 100000 in
set_option maxHeartbeats 1000000 in
theorem same_yes (va vb : Value) (l : List (Int × Int)) (hl : l.length ≤ 1000) (w : World) (h1 : ReadA w va l) (h2 : ReadA w vb l) : Calls Tryz.prog 36 #[va, vb] w fun e w' => e = .returned (.bool true) ∧ Below w.heap.size w w' := by
  obtain ⟨p1, c1, rfl, r1⟩ := h1
  obtain ⟨p2, c2, rfl, r2⟩ := h2
  have HR1 := Lib.hid r1
  have HR2 := Lib.hid r2
  clear r1 r2
  obtain ⟨n, hn⟩ : ∃ n, l.length = n := ⟨_, rfl⟩
  have HN := Lib.hid hn
  rw [hn] at hl ⊢
  clear hn
  go_enter Tryz.func36, Tryz.ntmps36
  go_wp2
  go_loopw [5] (fun i wr => ∃ j : Nat, j ≤ n ∧ i = .int .i64 j ∧ Below w.heap.size w wr) (fun i _ => n - (intOf i).toNat)
  case atStart => exact ⟨0, by omega, rfl, Below.refl _ _⟩
  case round =>
    obtain ⟨j, hj, rfl, hB⟩ := hrel
    by_cases hlt : j < n
    · have hdec : decide ((j : Int) < (n : Int)) = true := by simp; omega
      have hjs : j < l.length := by rw [HN.out]; exact hlt
      obtain ⟨g1, rfl, _, x0, x1⟩ := HR1.out j hjs
      obtain ⟨g2, rfl, _, y0, y1⟩ := HR2.out j hjs
      replace x0 := nextc x0 hB
      replace x1 := nextc x1 hB
      replace y0 := nextc y0 hB
      replace y1 := nextc y1 hB
      have i1 : (0 : Int) ≤ (j : Int) := by omega
      have i2 : (j : Int) < (n : Int) := by omega
      clear HR1 HR2
      generalize l[j] = z at *
      obtain ⟨zx, zy⟩ := z
      go_wp2
      go_region_held3 (fun W => W.cell? ⟨g1, j * 2, none⟩ = some (.int .i64 zx) ∧ W.cell? ⟨g1, j * 2 + 1, none⟩ = some (.int .i64 zy) ∧ W.cell? ⟨g2, j * 2, none⟩ = some (.int .i64 zx) ∧ W.cell? ⟨g2, j * 2 + 1, none⟩ = some (.int .i64 zy))
        (exact ⟨x0, x1, y0, y1⟩) (fail)
      all_goals go_wp2
      all_goals go_roundw
      case rel => exact ⟨j + 1, by omega, by go_num, hB.drew⟩
      case measure => simp [intOf]; omega
    · obtain rfl : j = n := by omega
      have hdec : decide ((j : Int) < (j : Int)) = false := by simp
      go_wp2
      go_ret
      exact ⟨rfl, hB⟩
theorem Tryz.infoAt : (Tryz.prog.info? 55).map (fun i => (i.zero, i.size, i.bytes)) = some (some (.agg #[.int .i64 0, .int .i64 0]), 2, 16) := by kernel_rfl
theorem OwnA.kept {w w' : World} {base : Nat} {v : Value} {l : List (Int × Int)} (h : OwnA w base v l) {row : Option Nat} (hg : w.grownBy w' row) (hne : v.ownBlock = none ∨ v.ownBlock ≠ row) : OwnA w' base v l := World.ownsRow.kept h hg hne
theorem OwnA.form {w : World} {base : Nat} {v : Value} {l : List (Int × Int)} (h : OwnA w base v l) : ∃ A n c, v = .slice A n c := by
  rcases h.2 with ⟨h1, _⟩ | ⟨g, cap, cur, h1, _⟩
  · exact ⟨_, _, _, h1⟩
  · exact ⟨_, _, _, h1⟩
theorem OwnA.far {w : World} {base : Nat} {v : Value} {l : List (Int × Int)} (h : OwnA w base v l) {p : Addr} (hp : some p.block ≠ v.ownBlock) (u : Value) : OwnA (w.setCell p u) base v l := by
  refine ⟨h.1, ?_⟩
  rcases h.2 with h1 | ⟨g, cap, cur, e, h2, hg, rest⟩
  · exact .inl h1
  · exact .inr ⟨g, cap, cur, e, h2, (Below.heap_setCell w p u g (fun e2 => hp (by rw [e, ← e2]; rfl))).trans hg, rest⟩
theorem OwnA.rowT {w : World} {base : Nat} {v : Value} {l : List (Int × Int)} (h : OwnA w base v l) : T.RowO (fun b => v.ownBlock = some b) w := fun b e => by
  rcases h.2 with ⟨rfl, _⟩ | ⟨g, cap, cur, rfl, _, hg, _⟩
  · cases e
  · injection e with e
    have e' : g = b := e
    subst e'
    exact ⟨_, _, _, hg⟩
/-- append of one place more, at an operation of a drawn region. -/
theorem opIn_pushA {F : Fence} {nF : Nat} (w : World) {o : Oper} {a : Act} {K : Act → World → Prop} {QQ : Exit → Act → World → Prop} (s x : Operand)
    (ho : o.op = .call { callee := .builtin .append, args := #[s, x], argTypes := #[50, 50] })
    (base : Nat) (v : Value) (l : List (Int × Int)) (hs : a.eval s = v) (hown : OwnA w base v l) (g : Nat) (p1 p2 : Int) (hx : a.eval x = .slice (some ⟨g, 0, none⟩) 1 1) (hu : Blk w g 55 #[.int .i64 p1, .int .i64 p2])
    (hlen : l.length ≤ 1000000) (hbase : base ≤ w.heap.size)
    (hK : ∀ v' w', OwnA w' base v' (l ++ [(p1, p2)]) → w.grownBy w' v.ownBlock → (v'.ownBlock = v.ownBlock ∨ v'.ownBlock = some w.heap.size) → K (a.put o.dst v') w') : Oper.wpIn F nF Tryz.prog o a w K QQ := by
  obtain ⟨i, hi, hz0, hz1, hz2⟩ := info_parts Tryz.infoAt
  obtain ⟨v', w', hrun, r1, r2, _, r3⟩ := run_append_own_at (P := Tryz.prog) w base 50 o.type 55 i (.agg #[.int .i64 0, .int .i64 0]) 2 16 Tryz.underlying50 hi hz0 hz1 hz2 rfl (by omega) v l.length (codeCells l) hown ⟨g, 0, none⟩ 1 1 [.int .i64 p1, .int .i64 p2] rfl
    (by intro j y hy
        rw [addr_add, Nat.zero_add, hu.cell j, List.getElem?_toArray]
        exact hy)
    (by intro y hy; simp only [List.mem_cons, List.not_mem_nil, or_false] at hy; rcases hy with rfl | rfl <;> rfl) (by unfold maxLen; omega) (by omega) hbase
  unfold Oper.wpIn
  refine ⟨by simp [Oper.about, ho, resolve, Target.leads, Sem.run_pure], ?_⟩
  rw [Oper.semAt_plain F _ _ (by rw [ho]; intro c hc'; cases hc')]
  simp [execOp, ho, resolve, invoke, builtin, hs, hx, hrun, Result.andThen, Oper.uponIn]
  refine hK v' w' ?_ r2 r3
  unfold OwnA
  rw [codeCells_one, List.length_append]
  exact r1
set_option maxHeartbeats 1000000 in
theorem order1_any (n x y : Int) (w : World) : Calls Tryz.prog 119 #[.int .i64 n, .agg #[.int .i64 x, .int .i64 y]] w fun e w' => e = .returned (.agg #[.int .i64 x, .int .i64 y]) ∧ Below w.heap.size w w' := by
  have b := Blk.new w 55 #[.int .i64 x, .int .i64 y]
  have c0 := b.cell 0
  have c1 := b.cell 1
  have b2 := Blk.second w (.cells #[.int .i64 x, .int .i64 y] 55) 55 #[.int .i64 x, .int .i64 y]
  have r0 := b2.cell 0
  have r1 := b2.cell 1
  simp only [List.getElem?_toArray, List.getElem?_cons_zero, List.getElem?_cons_succ] at c0 c1 r0 r1
  go_enter Tryz.func119, Tryz.ntmps119
  go_wp2
  exact bodyPost_ret (v := .agg #[.int .i64 x, .int .i64 y]) (by simp [results, Tryz.results119, go_sem, r0, r1]) rfl ⟨rfl, below_two w _ _⟩
theorem enter_order1 : ∀ args W, (callFunc 119 args).run Tryz.prog W = .ok (.enter 119 args) W := enters_of Tryz.func119 (by kernel_rfl) rfl
end Go.Proofs.YtfihlelhpmjpaaaGreatDoor.Ch

namespace Go.Proofs.YtfihlelhpmjpaaaGreatDoor.T
open Go.RowKit Go.Shelf Go.Maps Go.Proofs.YtfihlelhpmjpaaaGreatDoor.C Go.Proofs.YtfihlelhpmjpaaaGreatDoor.E Go.Proofs.YtfihlelhpmjpaaaGreatDoor.Ch
set_option linter.unusedSimpArgs false
set_option linter.unusedVariables false
attribute [local go_sem] Oper.semAt_some

set_option maxRecDepth 100000 in
set_option maxHeartbeats 8000000 in
theorem gatheredA_any (lo : Nat) (p a b : Int) (rs : List Int) (hrs : rs.length ≤ 100) (v : Value) (W : World) (hlo : lo ≤ W.heap.size) (hv : ChainT lo p a b rs v W) :
    Calls Tryz.prog 118 #[v, .func (.func 119) #[] #[]] W fun e w' => ∃ u, e = .returned u ∧ OwnA w' W.heap.size u ((chn a b rs).map (fun x : Int × Int × Int => (x.2.1, x.2.2))) ∧ Below W.heap.size W w' := by
  obtain ⟨gf, lb, rfl, eg, hgo⟩ := hv
  obtain ⟨w7, hw7⟩ : ∃ x, (W.alloc (.cells #[.func (.func 119) #[] #[]] 136)).alloc (.cells #[.slice none 0 0] 50) = x := ⟨_, rfl⟩
  obtain ⟨g0, hg0⟩ : ∃ x, W.heap.size = x := ⟨_, rfl⟩
  obtain ⟨g1, hg1⟩ : ∃ x, g0 + 1 = x := ⟨_, rfl⟩
  have b0 : Blk w7 g0 136 #[.func (.func 119) #[] #[]] := by rw [← hw7, ← hg0]; exact (Blk.new W _ _).alloc _
  have b1 : Blk w7 g1 50 #[.slice none 0 0] := by rw [← hw7, ← hg1, ← hg0]; exact Blk.second W _ _ _
  have hB7 : Below W.heap.size W w7 := by rw [← hw7]; exact below_two W _ _
  have s7 : w7.heap.size = W.heap.size + 2 := by rw [← hw7]; simp
  have hent := enter_order1
  have HRS := Lib.hid hrs
  have S7 := Lib.hid s7
  have HG0 := Lib.hid (And.intro hg0 hg1)
  clear hrs s7 hg0
  refine (callsIn_wide (n := 9)).1 ?_
  refine callsIn_of_wp_marks Tryz.func118 rfl trivial ?_ rfl
  simp only [Tryz.ntmps118, List.size_toArray, List.length_cons, List.length_nil, Nat.reduceAdd, Nat.reduceSub, Array.replicate_succ, Array.replicate_zero, List.push_toArray, List.append_toArray, List.nil_append, List.cons_append]
  gi_wp2_with fail
  (try rw [HG0.out.1]); (try rw [hg1])
  refine wpIn_rangeBoxT rfl (by omega) (gf := gf) (lb := lb) rfl trivial eg (hgo _ (by omega)) (fun h h' => h.trans h') (fun X l o hl _ _ => Keep.putFar X (by have := S7.out; omega) o) hB7 (fun _ => rfl)
    (fun pre oX X => ∃ v, Blk X g1 50 #[v] ∧ OwnA X (W.heap.size + 2) v (pre.map (fun x : Int × Int × Int => (x.2.1, x.2.2))) ∧ (oX = fun b => v.ownBlock = some b) ∧ Blk X g0 136 #[.func (.func 119) #[] #[]] ∧ Below W.heap.size W X ∧ w7.heap.size ≤ X.heap.size)
    (fun _ _ _ _ => False) ?hI (fun c s o X Y row hs _ _ => hs) (fun b => (Value.slice none 0 0).ownBlock = some b) (fun b e => by cases e) ⟨_, b1, ownA_nil _ _, rfl, b0, hB7, Nat.le_refl _⟩
    (fun _ => True) (fun _ _ _ _ => trivial) 55 (fun x : Int × Int × Int => #[.int .i64 x.2.1, .int .i64 x.2.2]) (fun x Bx => { tmps := #[.func (.func gf) #[] lb, .func (.func 119) #[] #[], undef, .pointer (some ⟨g0, 0, none⟩), .slice none 0 0, .pointer (some ⟨g1, 0, none⟩), .int .i64 x.1, .pointer (some ⟨Bx, 0, none⟩), .func (.func gf) #[] lb, .int .i64 x.1, .agg #[.int .i64 x.2.1, .int .i64 x.2.2], undef, undef, undef, undef, undef, undef, undef, undef], defers := [] })
    ?assign (fun pre o X h => by obtain ⟨v, _, ho, rfl, _⟩ := h; exact ho.rowT) (fun c pre o X h => h.elim) ?body ?done (fun D c pre o X _ _ _ h => h.elim)
  case hI =>
    rintro s o X Y row ⟨v, hb1, ho, rfl, hb0, hBX, hsz⟩ hgr hr
    have s7 := S7.out
    have hg := HG0.out
    have hne : ∀ g, g < w7.heap.size → some g ≠ row := fun g hg e => by have := (hr g e.symm).1; omega
    refine ⟨v, hb1.grown hgr (hne _ (by omega)), ho.kept hgr ?_, rfl, hb0.grown hgr (hne _ (by omega)), hBX.grown hgr hBX.size (fun r e => by have := (hr r e).1; omega), Nat.le_trans hsz hgr.size⟩
    cases hrow : row with
    | none => exact (Option.eq_none_or_eq_some v.ownBlock).imp id (fun ⟨x, hx⟩ => by rw [hx]; simp)
    | some r => exact .inr (fun e => (hr r hrow).2 e)
  case assign =>
    rintro l' pre x o X KK hsz hol ⟨v, hb1, ho, rfl, hb0, hBX, hge⟩ _ hKK
    simp only [encC]
    gi_wp2
    have hbx := Blk.new X 55 #[.int .i64 x.2.1, .int .i64 x.2.2]
    have hBz := below_one X (.cells #[.int .i64 x.2.1, .int .i64 x.2.2] 55)
    have hne : ¬ v.ownBlock = some X.heap.size := fun e => by have := hol _ e; omega
    have hKe : Keep lo (W.heap.size - lo) X (X.alloc (.cells #[.int .i64 x.2.1, .int .i64 x.2.2] 55)) := Keep.alloc (by have := hBX.size; omega) _
    have hI2 : ∃ v', Blk (X.alloc (.cells #[.int .i64 x.2.1, .int .i64 x.2.2] 55)) g1 50 #[v'] ∧ OwnA (X.alloc (.cells #[.int .i64 x.2.1, .int .i64 x.2.2] 55)) (W.heap.size + 2) v' (pre.map (fun x : Int × Int × Int => (x.2.1, x.2.2))) ∧ ((fun b => v.ownBlock = some b) = fun b => v'.ownBlock = some b) ∧ Blk (X.alloc (.cells #[.int .i64 x.2.1, .int .i64 x.2.2] 55)) g0 136 #[.func (.func 119) #[] #[]] ∧ Below W.heap.size W (X.alloc (.cells #[.int .i64 x.2.1, .int .i64 x.2.2] 55)) ∧ w7.heap.size ≤ (X.alloc (.cells #[.int .i64 x.2.1, .int .i64 x.2.2] 55)).heap.size :=
      ⟨v, hb1.below hBz hb1.lt, ho.below hBz, rfl, hb0.below hBz hb0.lt, below_in hBX hBz, Nat.le_trans hge hBz.size⟩
    exact hKK X.heap.size _ (SinceO.below hBz) hKe hI2 hbx hne hsz
  case body =>
    rintro l' pre x o Bx X hsz ⟨v, hb1, ho, rfl, hb0, hBX, hge⟩ hbx hnBx hle _ hlz
    obtain ⟨vA, vn, vc, rfl⟩ := ho.form
    have s7 := S7.out
    have hg := HG0.out
    have hvn : ∀ g, g < w7.heap.size → (Value.slice vA vn vc).ownBlock ≠ some g := fun g hgl e => by have := ho.own_le g e; omega
    have HSS : Hid (∀ V, Below X.heap.size X V → (fun U : World => U.cell? ⟨g1, 0, none⟩ = some (.slice vA vn vc) ∧ U.cell? ⟨g0, 0, none⟩ = some (.func (.func 119) #[] #[]) ∧ U.cell? ⟨Bx, 0, none⟩ = some (.int .i64 x.2.1) ∧ U.cell? ⟨Bx, 1, none⟩ = some (.int .i64 x.2.2)) V) := fun V hV => ⟨(hb1.below hV hb1.lt).one, (hb0.below hV hb0.lt).one, (hbx.below hV hbx.lt).cell 0, (hbx.below hV hbx.lt).cell 1⟩
    have HROW : Hid (∀ V, Below X.heap.size X V → OwnA V (W.heap.size + 2) (.slice vA vn vc) (pre.map (fun x : Int × Int × Int => (x.2.1, x.2.2)))) := fun V hV => ho.below hV
    have HSB : Hid (∀ V V', Below X.heap.size X V → V.grownBy V' (Value.slice vA vn vc).ownBlock → (fun U : World => U.cell? ⟨g1, 0, none⟩ = some (.slice vA vn vc) ∧ U.cell? ⟨g0, 0, none⟩ = some (.func (.func 119) #[] #[]) ∧ U.cell? ⟨Bx, 0, none⟩ = some (.int .i64 x.2.1) ∧ U.cell? ⟨Bx, 1, none⟩ = some (.int .i64 x.2.2)) V') := fun V V' hV hgr => by
      have h1 := (hb1.below hV hb1.lt).grown hgr (fun e => hvn g1 (by omega) e.symm)
      have h0 := (hb0.below hV hb0.lt).grown hgr (fun e => hvn g0 (by omega) e.symm)
      have hx := (hbx.below hV hbx.lt).grown hgr (fun e => hnBx e.symm)
      exact ⟨h1.one, h0.one, hx.cell 0, hx.cell 1⟩
    have HFZ : Hid (∀ V V', Below X.heap.size X V → V.grownBy V' (Value.slice vA vn vc).ownBlock → V'.frozen? ⟨g1, 0, none⟩ = false) := fun V V' hV hgr => ((hb1.below hV hb1.lt).grown hgr (fun e => hvn g1 (by omega) e.symm)).frozen 0
    have HLEN : Hid ((pre.map (fun x : Int × Int × Int => (x.2.1, x.2.2))).length ≤ 1000000) := by unfold Hid; rw [List.length_map]; have := HRS.out; omega
    have HBS : Hid (∀ n, X.heap.size ≤ n → W.heap.size + 2 ≤ n) := fun n h => by omega
    have HFIN : Hid (∀ (V V' : World) (u : Value), Below X.heap.size X V → V.grownBy V' (Value.slice vA vn vc).ownBlock → (u.ownBlock = (Value.slice vA vn vc).ownBlock ∨ u.ownBlock = some V.heap.size) → OwnA V' (W.heap.size + 2) u (pre.map (fun x : Int × Int × Int => (x.2.1, x.2.2)) ++ [(x.2.1, x.2.2)]) →
        ∃ o', FreshO (fun b => (Value.slice vA vn vc).ownBlock = some b) o' X ∧ SinceO w7.heap.size (fun b => (Value.slice vA vn vc).ownBlock = some b) X (V'.setCell ⟨g1, 0, none⟩ u) ∧ Keep lo (W.heap.size - lo) X (V'.setCell ⟨g1, 0, none⟩ u) ∧
          ∃ v, Blk (V'.setCell ⟨g1, 0, none⟩ u) g1 50 #[v] ∧ OwnA (V'.setCell ⟨g1, 0, none⟩ u) (W.heap.size + 2) v ((pre ++ [x]).map (fun x : Int × Int × Int => (x.2.1, x.2.2))) ∧ (o' = fun b => v.ownBlock = some b) ∧ Blk (V'.setCell ⟨g1, 0, none⟩ u) g0 136 #[.func (.func 119) #[] #[]] ∧ Below W.heap.size W (V'.setCell ⟨g1, 0, none⟩ u) ∧ w7.heap.size ≤ (V'.setCell ⟨g1, 0, none⟩ u).heap.size) := fun V V' u hV hgr hu hown => by
      have h1 := (hb1.below hV hb1.lt).grown hgr (fun e => hvn g1 (by omega) e.symm)
      have h0 := (hb0.below hV hb0.lt).grown hgr (fun e => hvn g0 (by omega) e.symm)
      have hsV := hV.size
      have hsV' := hgr.size
      have hBV' : Below W.heap.size W V' := below_grown (below_in hBX hV) hgr (by have := hBX.size; omega) (fun k e => by have := ho.own_le k e; omega)
      refine ⟨fun b => u.ownBlock = some b, fun b e => ?_, ⟨by simp; omega, fun b h2 h3 h4 => ?_⟩, ⟨by simp; omega, fun b h2 h3 => ?_⟩, u, h1.set_ 0 u, ?_, rfl, Blk.far h0 (by show g0 ≠ g1; omega) _, hBV'.setCell (by show W.heap.size ≤ g1; omega) _, by simp; omega⟩
      · rcases hu with hu | hu
        · exact .inl (by rw [← hu]; exact e)
        · rw [hu] at e; injection e with e; exact .inr (by omega)
      · rw [Below.heap_setCell V' _ _ b (by show b ≠ g1; omega), hgr.block b (by omega) (fun e => h4 e.symm), hV.block b h3]
      · rw [Below.heap_setCell V' _ _ b (by show b ≠ g1; omega), hgr.block b (by omega) (fun e => by have := ho.own_le b e.symm; omega), hV.block b (by omega)]
      · rw [List.map_append]
        exact hown.far (by
          show some g1 ≠ u.ownBlock
          rcases hu with hu | hu
          · rw [hu]; exact fun e => hvn g1 (by omega) e.symm
          · rw [hu]; intro e; injection e with e; omega) u
    have hX := (Below.refl X.heap.size X)
    have hS : (fun U : World => U.cell? ⟨g1, 0, none⟩ = some (.slice vA vn vc) ∧ U.cell? ⟨g0, 0, none⟩ = some (.func (.func 119) #[] #[]) ∧ U.cell? ⟨Bx, 0, none⟩ = some (.int .i64 x.2.1) ∧ U.cell? ⟨Bx, 1, none⟩ = some (.int .i64 x.2.2)) X.drew := HSS.out _ hX.drew
    clear hb1 ho hb0 hBX hbx hnBx hvn s7 hg
    gi_wp2_with fail
    refine wpIn_mono (region_HG (Q := NoPanic _) (S := (fun U : World => U.cell? ⟨g1, 0, none⟩ = some (.slice vA vn vc) ∧ U.cell? ⟨g0, 0, none⟩ = some (.func (.func 119) #[] #[]) ∧ U.cell? ⟨Bx, 0, none⟩ = some (.int .i64 x.2.1) ∧ U.cell? ⟨Bx, 1, none⟩ = some (.int .i64 x.2.2))) (m := 7) (by kernel_rfl) ?_) NoPanic.imp
    refine anyHG_take (i := 0) (d := 11) (v := .slice vA vn vc) (by kernel_rfl) rfl (by kernel_rfl) (by kernel_rfl) (by kernel_rfl) rfl (by kernel_rfl) (fun _ _ _ h => h) ⟨Or.inl ⟨by rfl, fun w hS => by obtain ⟨h0, h1, h2, h3⟩ := hS; go_simp⟩, fun _ => rfl⟩ hS ?_
    simp only [List.setIfInBounds_toArray, List.set_cons_zero, List.set_cons_succ]
    refine anyHG_take (i := 1) (d := 12) (v := .func (.func 119) #[] #[]) (by kernel_rfl) rfl (by kernel_rfl) (by kernel_rfl) (by kernel_rfl) rfl (by kernel_rfl) (fun _ _ _ h => h) ⟨Or.inl ⟨by rfl, fun w hS => by obtain ⟨h0, h1, h2, h3⟩ := hS; go_simp⟩, fun _ => rfl⟩ hS ?_
    simp only [List.setIfInBounds_toArray, List.set_cons_zero, List.set_cons_succ]
    refine anyHG_take (i := 2) (d := 13) (v := .int .i64 x.1) (by kernel_rfl) rfl (by kernel_rfl) (by kernel_rfl) (by kernel_rfl) rfl (by kernel_rfl) (fun _ _ _ h => h) ⟨Or.inl ⟨by rfl, fun w hS => by obtain ⟨h0, h1, h2, h3⟩ := hS; go_simp⟩, fun _ => rfl⟩ hS ?_
    simp only [List.setIfInBounds_toArray, List.set_cons_zero, List.set_cons_succ]
    refine anyHG_take (i := 3) (d := 14) (v := .agg #[.int .i64 x.2.1, .int .i64 x.2.2]) (by kernel_rfl) rfl (by kernel_rfl) (by kernel_rfl) (by kernel_rfl) rfl (by kernel_rfl) (fun _ _ _ h => h) ⟨Or.inl ⟨by rfl, fun w hS => by obtain ⟨h0, h1, h2, h3⟩ := hS; go_simp⟩, fun _ => rfl⟩ hS ?_
    simp only [List.setIfInBounds_toArray, List.set_cons_zero, List.set_cons_succ]
    refine anyHG_one (i := 4) (by kernel_rfl) rfl (by kernel_rfl) (by rfl) ?_
    gi_wp2_with fail
    refine ⟨trivial, (CallsIn.inRound l' (callsIn_wide.2 (order1_any x.1 x.2.1 x.2.2 _))).mono ?_⟩
    rintro e w9 ⟨rfl, hB9⟩
    replace hB9 := below_undrew hB9
    have hX9 := hB9
    have hS9 := HSS.out _ hX9
    clear hS
    have hS : (fun U : World => U.cell? ⟨g1, 0, none⟩ = some (.slice vA vn vc) ∧ U.cell? ⟨g0, 0, none⟩ = some (.func (.func 119) #[] #[]) ∧ U.cell? ⟨Bx, 0, none⟩ = some (.int .i64 x.2.1) ∧ U.cell? ⟨Bx, 1, none⟩ = some (.int .i64 x.2.2)) w9 := hS9
    clear hS9
    gi_wp2
    try (refine ⟨.inr hS, ?_⟩)
    refine anyHG_one (i := 5) (by kernel_rfl) rfl (by kernel_rfl) (by rfl) ?_
    have hBa : Below w9.heap.size w9 (w9.alloc (.cells #[.int .i64 x.2.1, .int .i64 x.2.2] 55)) := below_one w9 _
    have bE : Blk (w9.alloc (.cells #[.int .i64 x.2.1, .int .i64 x.2.2] 55)) w9.heap.size 55 #[.int .i64 x.2.1, .int .i64 x.2.2] := Blk.new w9 _ _
    have hXa := below_in hX9 hBa
    obtain ⟨wa, hwa⟩ : ∃ wa, (w9.alloc (.cells #[.int .i64 x.2.1, .int .i64 x.2.2] 55)) = wa := ⟨_, rfl⟩
    rw [hwa] at hBa bE hXa
    clear hS
    have hS : (fun U : World => U.cell? ⟨g1, 0, none⟩ = some (.slice vA vn vc) ∧ U.cell? ⟨g0, 0, none⟩ = some (.func (.func 119) #[] #[]) ∧ U.cell? ⟨Bx, 0, none⟩ = some (.int .i64 x.2.1) ∧ U.cell? ⟨Bx, 1, none⟩ = some (.int .i64 x.2.2)) wa := HSS.out _ hXa
    gi_wp2
    try rw [hwa]
    try (refine ⟨.inr hS, ?_⟩)
    refine anyHG_one (i := 6) (by kernel_rfl) rfl (by kernel_rfl) (by rfl) ?_
    refine opIn_pushA wa _ _ rfl (W.heap.size + 2) (.slice vA vn vc) _ rfl (HROW.out _ hXa) w9.heap.size _ _ rfl bE HLEN.out (HBS.out _ hXa.size) ?_
    intro v' wb hrow hgr hor
    obtain ⟨vA2, vn2, vc2, rfl⟩ := hrow.form
    clear hS
    have hS : (fun U : World => U.cell? ⟨g1, 0, none⟩ = some (.slice vA vn vc) ∧ U.cell? ⟨g0, 0, none⟩ = some (.func (.func 119) #[] #[]) ∧ U.cell? ⟨Bx, 0, none⟩ = some (.int .i64 x.2.1) ∧ U.cell? ⟨Bx, 1, none⟩ = some (.int .i64 x.2.2)) wb := HSB.out _ _ hXa hgr
    gi_wp2_with fail
    try (refine ⟨.inr hS, ?_⟩)
    refine anyHG_one (i := 7) (by kernel_rfl) rfl (by kernel_rfl) (by rfl) ?_
    have f0 := HFZ.out _ _ hXa hgr
    obtain ⟨h0, h1, h2, h3⟩ := hS
    gi_wp2
    refine anyHG_done (by kernel_rfl) ?_ _
    refine NoPanic.normal ?_
    clear h0 h1 h2 h3 f0
    gi_wp2_with fail
    exact HFIN.out _ _ _ hXa hgr hor hrow
  case done =>
    rintro D xs oX X hD _ rfl ⟨v, hb1, ho, rfl, hb0, hBX, hge⟩ hKD hne
    obtain ⟨vA, vn, vc, rfl⟩ := ho.form
    have c1 := hb1.one
    have s7 := S7.out
    have HO := Lib.hid (And.intro ho hBX)
    have HN := Lib.hid hne
    clear ho hb0 hBX hb1
    gi_wp2_with fail
    (try rw [Exit.noGoto_normal])
    refine ⟨by simp, .inl ⟨_, _, rfl, run_takeDeferred hKD, ?_⟩⟩
    refine ⟨.slice vA vn vc, by simp [results, Tryz.results118, go_sem], _, rfl, ?_, ?_⟩
    · refine World.ownsRow.kept (HO.out.1.less (by omega)) (grownBy_putObj' X D _) (.inr ?_)
      exact fun e => HN.out e
    · exact HO.out.2.grown (grownBy_putObj' X D _) HO.out.2.size (fun r e => by injection e with e; omega)
end Go.Proofs.YtfihlelhpmjpaaaGreatDoor.T

