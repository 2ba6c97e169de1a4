/- chain: both lost columns told. chain: Recover. -/
import Derived.Test.YtfihlelhpmjpaaaGreatDoorCRG19
namespace Go.Proofs.YtfihlelhpmjpaaaGreatDoor.T
open Go.RowKit Go.Shelf Go.Maps Go.Proofs.YtfihlelhpmjpaaaGreatDoor.C Go.Proofs.YtfihlelhpmjpaaaGreatDoor.E Go.Proofs.YtfihlelhpmjpaaaGreatDoor.Ch
set_option linter.unusedSimpArgs false
set_option linter.unusedVariables false
attribute [local go_sem] Oper.semAt_some

/-- What must stay for the sums to be told. -/
def StayT (w0 W0 : World) (E : Nat → Prop) (V : World) : Prop := Below w0.heap.size w0 V ∧ W0.heap.size ≤ V.heap.size ∧ ∀ b, b < W0.heap.size → ¬ E b → V.heap[b]? = W0.heap[b]?
theorem StayT.one {w0 W0 : World} {E : Nat → Prop} {X Y : World} (h : StayT w0 W0 E X) (hB : Below X.heap.size X Y) : StayT w0 W0 E Y :=
  ⟨below_in h.1 hB, Nat.le_trans h.2.1 hB.size, fun b h1 h2 => (hB.block b (Nat.lt_of_lt_of_le h1 h.2.1)).trans (h.2.2 b h1 h2)⟩
theorem StayT.two {w0 W0 : World} {E : Nat → Prop} {X Y : World} {row : Option Nat} {lo : Nat} (h : StayT w0 W0 E X) (hg : X.grownBy Y row) (hr : ∀ r, row = some r → lo ≤ r) (h0 : w0.heap.size ≤ lo) (h1 : W0.heap.size ≤ lo) : StayT w0 W0 E Y :=
  ⟨below_grown h.1 hg h.1.size (fun r e => Nat.le_trans h0 (hr r e)), Nat.le_trans h.2.1 hg.size, fun b h2 h3 => (hg.block b (Nat.lt_of_lt_of_le h2 h.2.1) (fun e => by have := hr b e.symm; omega)).trans (h.2.2 b h2 h3)⟩
theorem StayT.three {w0 W0 : World} {E : Nat → Prop} {X : World} {p : Addr} {u : Value} {lo gr : Nat} (h : StayT w0 W0 E X) (hp : p.block = gr ∨ lo ≤ p.block) (h0 : w0.heap.size ≤ lo) (h1 : W0.heap.size ≤ lo) (hg : w0.heap.size ≤ gr) (hE : W0.heap.size ≤ gr ∨ E gr) : StayT w0 W0 E (X.setCell p u) :=
  ⟨h.1.setCell (by rcases hp with h | h <;> omega) _, by simp; exact h.2.1, fun b h2 h3 => (Below.heap_setCell X p u b (fun e => by
    rcases hp with hp | hp
    · rcases hE with hE | hE
      · omega
      · rw [e, hp] at h3; exact h3 hE
    · omega)).trans (h.2.2 b h2 h3)⟩
set_option maxRecDepth 100000 in
set_option maxHeartbeats 8000000 in
theorem recovered_any {B P Q n : Nat} (d : Rg.Dims P Q n) (a b : Int) (ha : 0 ≤ a) (hab : a < b) (hb : b < (P : Int)) (gl gc co N cc : Nat) (nA : Option Addr) (nc : Nat) (css : List (List (List UInt8))) (hN : N = P + 2) (hcl : css.length = N) (hg : ∀ c, c < N → GoodC Q n (css[c]?.getD [])) (A Bc : List (List UInt8)) (hsol : Solves P Q n (rsF P Q css) (dsF P Q css) A Bc a b) (w : World) (hL : Laid w) (hB : B ≤ w.heap.size) (hgl : gl < w.heap.size) (cA : w.cell? ⟨gl, 0, none⟩ = some (.int .i64 a)) (cB : w.cell? ⟨gl, 1, none⟩ = some (.int .i64 b)) (hC : Cols B w (.slice (some ⟨gc, co, none⟩) N cc) css) (hno : Bytes B w (.slice nA n nc) (List.replicate n 0)) :
    Calls Tryz.prog 47 #[.agg #[.int .i64 (P : Int), .slice (some ⟨gl, 0, none⟩) 2 2, .slice (some ⟨gc, co, none⟩) N cc, .slice nA n nc]] w fun e w' => ∃ gC, e = .returned (.slice (some ⟨gC, 0, none⟩) 2 2) ∧ Cols w'.heap.size w' (.slice (some ⟨gC, 0, none⟩) 2 2) [A, Bc] ∧ Below w.heap.size w w' := by
  have hRD := rd_good d hN hcl hg
  have HSU0 := fun (V : World) (hV : Below w.heap.size w V) => sums_any d (some ⟨gl, 0, none⟩) 2 2 gc co N cc nA nc css hN hcl hg V (hL.next hV) (Nat.le_trans hB hV.size) (hC.below (hV.mono hB)) (hno.below (hV.mono hB))
  generalize rsF P Q css = R at *
  generalize dsF P Q css = D at *
  obtain ⟨w0, hw0⟩ : ∃ x, w.alloc (.cells #[.int .i64 (P : Int), .slice (some ⟨gl, 0, none⟩) 2 2, .slice (some ⟨gc, co, none⟩) N cc, .slice nA n nc] 72) = x := ⟨_, rfl⟩
  obtain ⟨g0, hg0⟩ : ∃ x, w.heap.size = x := ⟨_, rfl⟩
  have b0 : Blk w0 g0 72 #[.int .i64 (P : Int), .slice (some ⟨gl, 0, none⟩) 2 2, .slice (some ⟨gc, co, none⟩) N cc, .slice nA n nc] := by rw [← hw0, ← hg0]; exact Blk.new w _ _
  have hB0 : Below w.heap.size w w0 := by rw [← hw0]; exact below_one w _
  have HSU := Lib.hid (fun (V : World) (hV : Below w0.heap.size w0 V) => HSU0 V (below_in hB0 hV))
  have HSS : Hid (∀ V, Below w0.heap.size w0 V → (fun U : World => U.cell? ⟨g0, 0, none⟩ = some (.int .i64 (P : Int)) ∧ U.cell? ⟨g0, 1, none⟩ = some (.slice (some ⟨gl, 0, none⟩) 2 2) ∧ U.cell? ⟨g0, 2, none⟩ = some (.slice (some ⟨gc, co, none⟩) N cc) ∧ U.cell? ⟨g0, 3, none⟩ = some (.slice nA n nc)) V) := fun V hV => by
    have h := b0.below hV b0.lt
    exact ⟨h.cell 0, h.cell 1, h.cell 2, h.cell 3⟩
  have HALL := Lib.hid (And.intro d (And.intro ha (And.intro hab (And.intro hb (And.intro hsol (And.intro hRD (And.intro hL (And.intro hgl (And.intro cA (And.intro cB (And.intro hno (And.intro hB (And.intro hB0 hg0)))))))))))))
  have hab2 : (a - b) % (P : Int) ≠ 0 := fun h => by
    have h1 := Int.emod_eq_of_lt (show (0 : Int) ≤ a - b + (P : Int) * 1 by omega) (show a - b + (P : Int) * 1 < (P : Int) by omega)
    rw [Int.add_mul_emod_self_left] at h1
    omega
  have hgl0w : g0 < w0.heap.size := b0.lt
  obtain ⟨rs, hrs⟩ : ∃ x, Rg.rowsF (P : Int) (walkN (P : Int) ((P : Int) - 1) (a - b)) = x := ⟨_, rfl⟩
  have HRS := Lib.hid hrs
  have HAB := Lib.hid hab2
  have HRL : Hid (rs.length ≤ 100) := by unfold Hid; rw [← hrs]; exact rows_len (P : Int) a b d.hp
  have HRQ : Hid (0 < rs.length) := by
    unfold Hid
    have hpb := prm_bounds d.hp
    have hQ := d.hQ
    rw [← hrs, Rg.rows_are hQ d.hp hab2]
    simp
    omega
  have HNO := Lib.hid (fun (V : World) (hV : Below w0.heap.size w0 V) => (hno.below ((below_in hB0 hV).mono hB)).more (Nat.le_trans hB hB0.size))
  have HCH0 := Lib.hid (fun (V : World) (hV : Below w0.heap.size w0 V) => (by
    have h := chain_any (P : Int) a b d.hp ⟨ha, by omega⟩ ⟨by omega, hb⟩ gl V (hL.next (below_in hB0 hV)) (Nat.lt_of_lt_of_le hgl (below_in hB0 hV).size) (((below_in hB0 hV).cell (p := ⟨gl, 0, none⟩) hgl).trans cA) (((below_in hB0 hV).cell (p := ⟨gl, 1, none⟩) hgl).trans cB)
    rw [hrs] at h
    exact h : Calls Tryz.prog 105 #[.agg #[.int .i64 (P : Int), .slice (some ⟨gl, 0, none⟩) 2 2]] V fun e w' => ∃ v, e = .returned v ∧ ChainT V.heap.size (P : Int) a b rs v w' ∧ Below V.heap.size V w'))
  have HG0 := Lib.hid hg0
  have HL0 := Lib.hid b0.lt
  have HW0 := Lib.hid hw0
  have hBx := (Below.refl w0.heap.size w0).drew
  have hS : (fun U : World => U.cell? ⟨g0, 0, none⟩ = some (.int .i64 (P : Int)) ∧ U.cell? ⟨g0, 1, none⟩ = some (.slice (some ⟨gl, 0, none⟩) 2 2) ∧ U.cell? ⟨g0, 2, none⟩ = some (.slice (some ⟨gc, co, none⟩) N cc) ∧ U.cell? ⟨g0, 3, none⟩ = some (.slice nA n nc)) w0.drew := HSS.out _ hBx
  clear hrs hab2 hgl0w HSU0 d ha hab hb hN hcl hg hsol hRD hL hgl cA cB hC hno hB hB0 b0 hw0 hg0
  refine (callsIn_wide (n := 9)).1 ?_
  refine callsIn_of_wp_marks Tryz.func47 rfl trivial ?_ rfl
  simp only [Tryz.ntmps47, List.size_toArray, List.length_cons, List.length_nil, Nat.reduceAdd, Nat.reduceSub, Array.replicate_succ, Array.replicate_zero, List.push_toArray, List.append_toArray, List.nil_append, List.cons_append]
  gi_wp2_with fail
  (try rw [HG0.out]); (try rw [HW0.out])
  refine wpIn_mono (region_HF (Q := NoPanic _) (S := (fun U : World => U.cell? ⟨g0, 0, none⟩ = some (.int .i64 (P : Int)) ∧ U.cell? ⟨g0, 1, none⟩ = some (.slice (some ⟨gl, 0, none⟩) 2 2) ∧ U.cell? ⟨g0, 2, none⟩ = some (.slice (some ⟨gc, co, none⟩) N cc) ∧ U.cell? ⟨g0, 3, none⟩ = some (.slice nA n nc))) (by kernel_rfl) ?_) NoPanic.imp
  refine anyHF_take (i := 0) (d := 4) (v := .agg #[.int .i64 (P : Int), .slice (some ⟨gl, 0, none⟩) 2 2, .slice (some ⟨gc, co, none⟩) N cc, .slice nA n nc]) (by kernel_rfl) rfl (by kernel_rfl) (by kernel_rfl) (by kernel_rfl) rfl (fun _ _ _ h => h) ⟨Or.inl ⟨by rfl, fun w hS => by obtain ⟨h0, h1, h2, h3⟩ := hS; go_simp⟩, fun _ => rfl⟩ hS ?_
  simp only [List.setIfInBounds_toArray, List.set_cons_zero, List.set_cons_succ]
  refine anyHF_take (i := 2) (d := 6) (v := .pointer (some ⟨g0, 3, none⟩)) (by kernel_rfl) rfl (by kernel_rfl) (by kernel_rfl) (by kernel_rfl) rfl (fun _ _ _ h => h) ⟨Or.inl ⟨by rfl, fun w hS => by obtain ⟨h0, h1, h2, h3⟩ := hS; go_simp⟩, fun _ => rfl⟩ hS ?_
  simp only [List.setIfInBounds_toArray, List.set_cons_zero, List.set_cons_succ]
  refine anyHF_take (i := 3) (d := 7) (v := .slice nA n nc) (by kernel_rfl) rfl (by kernel_rfl) (by kernel_rfl) (by kernel_rfl) rfl (fun _ _ _ h => h) ⟨Or.inl ⟨by rfl, fun w hS => by obtain ⟨h0, h1, h2, h3⟩ := hS; go_simp⟩, fun _ => rfl⟩ hS ?_
  simp only [List.setIfInBounds_toArray, List.set_cons_zero, List.set_cons_succ]
  refine Rg.anyHF_both (i := 1) (j := 5) (by kernel_rfl) rfl rfl (by rfl) (by rfl) ?c1a ?c1b
  case c1a =>
    gi_wp2_with fail
    refine ⟨trivial, (callsIn_wide.2 (HSU.out _ hBx (fun _ => False) (fun b e => e.elim))).mono ?_⟩
    rintro e v2 ⟨f1, f2, rfl, hT, hB⟩
    have hTw := hT
    obtain ⟨gt4, gt1, gt5, gt3, rfl, rfl, _⟩ := id hT
    clear hT
    obtain ⟨ws, hws⟩ : ∃ x, v2 = x := ⟨_, rfl⟩
    have HWS := Lib.hid hws
    clear hws
    have HTW := Lib.hid hTw
    clear hTw
    replace hBx := below_in hBx hB
    clear hS
    have hS : (fun U : World => U.cell? ⟨g0, 0, none⟩ = some (.int .i64 (P : Int)) ∧ U.cell? ⟨g0, 1, none⟩ = some (.slice (some ⟨gl, 0, none⟩) 2 2) ∧ U.cell? ⟨g0, 2, none⟩ = some (.slice (some ⟨gc, co, none⟩) N cc) ∧ U.cell? ⟨g0, 3, none⟩ = some (.slice nA n nc)) v2 := HSS.out _ hBx
    clear hB
    gi_wp2
    try (refine ⟨hS, ?_⟩)
    refine anyHF_take (i := 4) (d := 8) (v := .agg #[.func (.func 162) #[] #[.pointer (some ⟨gt4, 0, none⟩), .pointer (some ⟨gt1, 0, none⟩), .pointer (some ⟨gt5, 0, none⟩)], .func (.func 164) #[] #[.pointer (some ⟨gt3, 0, none⟩)], .slice nA n nc]) (by kernel_rfl) rfl (by kernel_rfl) (by kernel_rfl) (by kernel_rfl) rfl (fun _ _ _ h => h) ⟨Or.inl ⟨by rfl, fun w hS => by obtain ⟨h0, h1, h2, h3⟩ := hS; go_simp⟩, fun _ => rfl⟩ hS ?_
    simp only [List.setIfInBounds_toArray, List.set_cons_zero, List.set_cons_succ]
    refine anyHF_one (i := 5) (by kernel_rfl) rfl (by kernel_rfl) (by rfl) ?_
    have hB : Below v2.heap.size v2 (v2.alloc (.cells #[.nilFunc, .nilFunc, .slice none 0 0] 120)) := below_one v2 _
    have bR : Blk (v2.alloc (.cells #[.nilFunc, .nilFunc, .slice none 0 0] 120)) v2.heap.size 120 #[.nilFunc, .nilFunc, .slice none 0 0] := Blk.new v2 _ _
    have hgl0 := hBx.size
    obtain ⟨v3, he⟩ : ∃ x, (v2.alloc (.cells #[.nilFunc, .nilFunc, .slice none 0 0] 120)) = x := ⟨_, rfl⟩
    obtain ⟨gr, hgr⟩ : ∃ x, v2.heap.size = x := ⟨_, rfl⟩
    rw [he] at hB bR
    rw [hgr] at bR
    replace hBx := below_in hBx hB
    clear hS
    have hS : (fun U : World => U.cell? ⟨g0, 0, none⟩ = some (.int .i64 (P : Int)) ∧ U.cell? ⟨g0, 1, none⟩ = some (.slice (some ⟨gl, 0, none⟩) 2 2) ∧ U.cell? ⟨g0, 2, none⟩ = some (.slice (some ⟨gc, co, none⟩) N cc) ∧ U.cell? ⟨g0, 3, none⟩ = some (.slice nA n nc)) v3 := HSS.out _ hBx
    gi_wp2
    (try rw [hgr]); (try rw [he])
    try (refine ⟨hS, ?_⟩)
    have hAl := hB
    clear hB he
    refine anyHF_one (i := 6) (by kernel_rfl) rfl (by kernel_rfl) (by rfl) ?_
    have hn0 : ¬ gr = g0 := by have := HL0.out; omega
    have hn1 : ¬ g0 = gr := fun e => hn0 e.symm
    have k0 : v3.cell? ⟨gr, 0, none⟩ = some .nilFunc := bR.cell 0
    have k1 : v3.cell? ⟨gr, 1, none⟩ = some .nilFunc := bR.cell 1
    have k2 : v3.cell? ⟨gr, 2, none⟩ = some (.slice none 0 0) := bR.cell 2
    have f0 := bR.frozen 0
    have f1_ := bR.frozen 1
    have f2_ := bR.frozen 2
    have yR : Blk (((v3.setCell ⟨gr, 0, none⟩ (.func (.func 162) #[] #[.pointer (some ⟨gt4, 0, none⟩), .pointer (some ⟨gt1, 0, none⟩), .pointer (some ⟨gt5, 0, none⟩)])).setCell ⟨gr, 1, none⟩ (.func (.func 164) #[] #[.pointer (some ⟨gt3, 0, none⟩)])).setCell ⟨gr, 2, none⟩ (.slice nA n nc)) gr 120 #[.func (.func 162) #[] #[.pointer (some ⟨gt4, 0, none⟩), .pointer (some ⟨gt1, 0, none⟩), .pointer (some ⟨gt5, 0, none⟩)], .func (.func 164) #[] #[.pointer (some ⟨gt3, 0, none⟩)], .slice nA n nc] := ((bR.set_ 0 _).set_ 1 _).set_ 2 _
    have hkz : ∀ b, b ≠ gr → (((v3.setCell ⟨gr, 0, none⟩ (.func (.func 162) #[] #[.pointer (some ⟨gt4, 0, none⟩), .pointer (some ⟨gt1, 0, none⟩), .pointer (some ⟨gt5, 0, none⟩)])).setCell ⟨gr, 1, none⟩ (.func (.func 164) #[] #[.pointer (some ⟨gt3, 0, none⟩)])).setCell ⟨gr, 2, none⟩ (.slice nA n nc)).heap[b]? = v3.heap[b]? := fun b hb => ((Below.heap_setCell _ ⟨gr, 2, none⟩ _ b hb).trans (Below.heap_setCell _ ⟨gr, 1, none⟩ _ b hb)).trans (Below.heap_setCell _ ⟨gr, 0, none⟩ _ b hb)
    have hBz : Below w0.heap.size w0 (((v3.setCell ⟨gr, 0, none⟩ (.func (.func 162) #[] #[.pointer (some ⟨gt4, 0, none⟩), .pointer (some ⟨gt1, 0, none⟩), .pointer (some ⟨gt5, 0, none⟩)])).setCell ⟨gr, 1, none⟩ (.func (.func 164) #[] #[.pointer (some ⟨gt3, 0, none⟩)])).setCell ⟨gr, 2, none⟩ (.slice nA n nc)) := ((hBx.setCell (by show w0.heap.size ≤ gr; omega) _).setCell (by show w0.heap.size ≤ gr; omega) _).setCell (by show w0.heap.size ≤ gr; omega) _
    have hzz : (((v3.setCell ⟨gr, 0, none⟩ (.func (.func 162) #[] #[.pointer (some ⟨gt4, 0, none⟩), .pointer (some ⟨gt1, 0, none⟩), .pointer (some ⟨gt5, 0, none⟩)])).setCell ⟨gr, 1, none⟩ (.func (.func 164) #[] #[.pointer (some ⟨gt3, 0, none⟩)])).setCell ⟨gr, 2, none⟩ (.slice nA n nc)).heap.size = v3.heap.size := by simp
    obtain ⟨X1, hX1⟩ : ∃ x, (((v3.setCell ⟨gr, 0, none⟩ (.func (.func 162) #[] #[.pointer (some ⟨gt4, 0, none⟩), .pointer (some ⟨gt1, 0, none⟩), .pointer (some ⟨gt5, 0, none⟩)])).setCell ⟨gr, 1, none⟩ (.func (.func 164) #[] #[.pointer (some ⟨gt3, 0, none⟩)])).setCell ⟨gr, 2, none⟩ (.slice nA n nc)) = x := ⟨_, rfl⟩
    rw [hX1] at yR hkz hBz hzz
    gi_wp2
    (try rw [hX1])
    clear hX1 k0 k1 k2 f0 f1_ f2_ hS
    have hS : (fun U : World => U.cell? ⟨g0, 0, none⟩ = some (.int .i64 (P : Int)) ∧ U.cell? ⟨g0, 1, none⟩ = some (.slice (some ⟨gl, 0, none⟩) 2 2) ∧ U.cell? ⟨g0, 2, none⟩ = some (.slice (some ⟨gc, co, none⟩) N cc) ∧ U.cell? ⟨g0, 3, none⟩ = some (.slice nA n nc)) X1 := HSS.out _ hBz
    try (refine ⟨hS, ?_⟩)
    refine anyHF_done (by kernel_rfl) ?_ _
    refine NoPanic.normal ?_
    clear hS
    have HST : Hid (StayT w0 v2 (fun _ => False) X1) := ⟨hBz, by rw [hzz]; exact hAl.size, fun b h1 _ => (hkz b (by omega)).trans (hAl.block b h1)⟩
    have HEg : Hid (v2.heap.size ≤ gr ∨ (fun _ => False) gr) := .inl (Nat.le_of_eq hgr)
    have HTS := Lib.hid (SumsT.imp (S1 := StayT w0 v2 (fun _ => False)) HTW.out (fun V hV => ⟨HALL.out.2.2.2.2.2.2.1.next (below_in HALL.out.2.2.2.2.2.2.2.2.2.2.2.2.1 hV.1), hV.2.1, hV.2.2⟩))
    have HXL : Hid (v2.heap.size ≤ X1.heap.size ∧ w0.heap.size ≤ gr ∧ gr < X1.heap.size) := ⟨by rw [hzz]; exact hAl.size, by omega, yR.lt⟩
    have hBd := (Below.refl X1.heap.size X1).drew
    replace yR := yR.below hBd yR.lt
    clear hBx hkz hzz hgl0 hgr bR hn0 hn1 hAl HTW
    have hent := enter_cell
    gi_wp2_with fail
    have HCH := HCH0
    have hBx := hBz.drew
    clear hBz hBd
    have HSX : Hid (∀ V, Below w0.heap.size w0 V → (fun U : World => U.cell? ⟨g0, 0, none⟩ = some (.int .i64 (P : Int)) ∧ U.cell? ⟨g0, 1, none⟩ = some (.slice (some ⟨gl, 0, none⟩) 2 2)) V) := fun V hV => ⟨(HSS.out V hV).1, (HSS.out V hV).2.1⟩
    clear HSS
    have HSS := HSX
    have hS : (fun U : World => U.cell? ⟨g0, 0, none⟩ = some (.int .i64 (P : Int)) ∧ U.cell? ⟨g0, 1, none⟩ = some (.slice (some ⟨gl, 0, none⟩) 2 2)) X1.drew := HSS.out _ hBx
    refine wpIn_mono (region_HF (Q := NoPanic _) (S := (fun U : World => U.cell? ⟨g0, 0, none⟩ = some (.int .i64 (P : Int)) ∧ U.cell? ⟨g0, 1, none⟩ = some (.slice (some ⟨gl, 0, none⟩) 2 2))) (by kernel_rfl) ?_) NoPanic.imp
    refine anyHF_take (i := 0) (d := 9) (v := .pointer (some ⟨g0, 0, none⟩)) (by kernel_rfl) rfl (by kernel_rfl) (by kernel_rfl) (by kernel_rfl) rfl (fun _ _ _ h => h) ⟨Or.inl ⟨by rfl, fun w hS => by obtain ⟨h0, h1⟩ := hS; go_simp⟩, fun _ => rfl⟩ hS ?_
    simp only [List.setIfInBounds_toArray, List.set_cons_zero, List.set_cons_succ]
    refine anyHF_take (i := 1) (d := 10) (v := .agg #[.int .i64 (P : Int), .slice (some ⟨gl, 0, none⟩) 2 2]) (by kernel_rfl) rfl (by kernel_rfl) (by kernel_rfl) (by kernel_rfl) rfl (fun _ _ _ h => h) ⟨Or.inl ⟨by rfl, fun w hS => by obtain ⟨h0, h1⟩ := hS; go_simp⟩, fun _ => rfl⟩ hS ?_
    simp only [List.setIfInBounds_toArray, List.set_cons_zero, List.set_cons_succ]
    refine anyHF_take (i := 2) (d := 11) (v := .pointer (some ⟨g0, 0, none⟩)) (by kernel_rfl) rfl (by kernel_rfl) (by kernel_rfl) (by kernel_rfl) rfl (fun _ _ _ h => h) ⟨Or.inl ⟨by rfl, fun w hS => by obtain ⟨h0, h1⟩ := hS; go_simp⟩, fun _ => rfl⟩ hS ?_
    simp only [List.setIfInBounds_toArray, List.set_cons_zero, List.set_cons_succ]
    refine anyHF_take (i := 3) (d := 12) (v := .agg #[.int .i64 (P : Int), .slice (some ⟨gl, 0, none⟩) 2 2]) (by kernel_rfl) rfl (by kernel_rfl) (by kernel_rfl) (by kernel_rfl) rfl (fun _ _ _ h => h) ⟨Or.inl ⟨by rfl, fun w hS => by obtain ⟨h0, h1⟩ := hS; go_simp⟩, fun _ => rfl⟩ hS ?_
    simp only [List.setIfInBounds_toArray, List.set_cons_zero, List.set_cons_succ]
    refine anyHF_take (i := 5) (d := 14) (v := .func (.func 106) #[.pointer (some ⟨gr, 0, none⟩)] #[]) (by kernel_rfl) rfl (by kernel_rfl) (by kernel_rfl) (by kernel_rfl) rfl (fun _ _ _ h => h) ⟨Or.inl ⟨by rfl, fun w hS => by obtain ⟨h0, h1⟩ := hS; go_simp⟩, fun _ => rfl⟩ hS ?_
    simp only [List.setIfInBounds_toArray, List.set_cons_zero, List.set_cons_succ]
    refine anyHF_one (i := 4) (by kernel_rfl) rfl (by kernel_rfl) (by rfl) ?_
    gi_wp2_with fail
    refine ⟨trivial, (callsIn_wide.2 (HCH.out _ hBx)).mono ?_⟩
    rintro e v101 ⟨vch, rfl, hCT, hB⟩
    have hCTh := Lib.hid hCT
    obtain ⟨gf, lb, rfl, _⟩ := id hCT
    clear hCT
    have HBc := Lib.hid hB
    replace yR := yR.below hB yR.lt
    replace hBx := below_in hBx hB
    clear hS
    have hS : (fun U : World => U.cell? ⟨g0, 0, none⟩ = some (.int .i64 (P : Int)) ∧ U.cell? ⟨g0, 1, none⟩ = some (.slice (some ⟨gl, 0, none⟩) 2 2)) v101 := HSS.out _ hBx
    clear hB
    gi_wp2
    try (refine ⟨hS, ?_⟩)
    refine anyHF_one (i := 6) (by kernel_rfl) rfl (by kernel_rfl) (by rfl) ?_
    have HG9 := gatheredB_any HALL.out.1 HALL.out.2.2.2.2.2.1.1 HALL.out.2.2.2.2.2.1.2 HTS.out X1.drew.heap.size a b ⟨by have := HALL.out.2.1; omega, by have := HALL.out; omega⟩ ⟨by have := HALL.out; omega, by have := HALL.out; omega⟩ rs HRL.out _ v101 HBc.out.size hCTh.out gr HXL.out.2.1 HXL.out.2.2 hBx (fun X Y h hb => h.one hb) (fun X Y row h hg hr => h.two hg hr (Nat.le_trans HXL.out.2.1 (Nat.le_of_lt HXL.out.2.2)) HXL.out.1) (fun X p u h hp => h.three hp (Nat.le_trans HXL.out.2.1 (Nat.le_of_lt HXL.out.2.2)) HXL.out.1 HXL.out.2.1 HEg.out) (HST.out.one (below_undrew HBc.out)) nA nc yR (HNO.out _ hBx)
    gi_wp2_with fail
    refine ⟨trivial, (callsIn_wide.2 HG9).mono ?_⟩
    rintro e v102 ⟨At, c1, rfl, hMt, hB9⟩
    clear HG9
    obtain ⟨gt, ot, us, rfl, _, hgt, hul, hus, _, _⟩ := many_form hMt (by have := HRQ.out; omega) (by rw [toldF_len, chn_len])
    have HUS := Lib.hid (And.intro hgt (And.intro hul hus))
    clear hgt hul hus hMt yR hBx
    have hBx := hB9
    clear hB9
    clear hS
    have hS : (fun U : World => U.cell? ⟨g0, 0, none⟩ = some (.int .i64 (P : Int)) ∧ U.cell? ⟨g0, 1, none⟩ = some (.slice (some ⟨gl, 0, none⟩) 2 2)) v102 := HSS.out _ hBx
    gi_wp2
    try (refine ⟨hS, ?_⟩)
    refine anyHF_one (i := 7) (by kernel_rfl) rfl (by kernel_rfl) (by rfl) ?_
    have HC9 := columns_any HALL.out.1.hQ HALL.out.1.hp a b ⟨by have := HALL.out; omega, by have := HALL.out; omega⟩ ⟨by have := HALL.out; omega, by have := HALL.out; omega⟩ (by have := HALL.out; omega) rs HRS.out HRL.out gl gt ot (2 * rs.length) c1 us rfl HUS.out.2.1 (fun u hu => by obtain ⟨j, hj⟩ := List.getElem?_of_mem hu; obtain ⟨A2, c2, e2, _⟩ := (HUS.out.2.2 j u hj).2; exact ⟨A2, _, c2, e2⟩) v102 (HALL.out.2.2.2.2.2.2.1.next (below_in HALL.out.2.2.2.2.2.2.2.2.2.2.2.2.1 hBx)) (Nat.lt_of_lt_of_le HALL.out.2.2.2.2.2.2.2.1 (below_in HALL.out.2.2.2.2.2.2.2.2.2.2.2.2.1 hBx).size) HUS.out.1 (((below_in HALL.out.2.2.2.2.2.2.2.2.2.2.2.2.1 hBx).cell (p := ⟨gl, 0, none⟩) HALL.out.2.2.2.2.2.2.2.1).trans HALL.out.2.2.2.2.2.2.2.2.1) (((below_in HALL.out.2.2.2.2.2.2.2.2.2.2.2.2.1 hBx).cell (p := ⟨gl, 1, none⟩) HALL.out.2.2.2.2.2.2.2.1).trans HALL.out.2.2.2.2.2.2.2.2.2.1) (fun j u hj => (HUS.out.2.2 j u hj).1)
    gi_wp2_with fail
    refine ⟨trivial, (callsIn_wide.2 (HC9)).mono ?_⟩
    rintro e v103 ⟨gC, rfl, hCo, hB⟩
    have hFIN := fill_cols HALL.out.1 HALL.out.2.2.2.2.2.1.1 HALL.out.2.2.2.2.2.1.2 HALL.out.2.2.2.2.1 HAB.out HRS.out (W := v103) (fun j u hj => ((HUS.out.2.2 j u hj).2.below hB).more hB.size) HUS.out.2.1 hCo
    clear HC9 hCo
    replace hBx := below_in hBx hB
    clear hS
    have hS : (fun U : World => U.cell? ⟨g0, 0, none⟩ = some (.int .i64 (P : Int)) ∧ U.cell? ⟨g0, 1, none⟩ = some (.slice (some ⟨gl, 0, none⟩) 2 2)) v103 := HSS.out _ hBx
    clear hB
    gi_wp2
    try (refine ⟨hS, ?_⟩)
    refine anyHF_one (i := 8) (by kernel_rfl) rfl (by kernel_rfl) (by rfl) ?_
    gi_wp2
    refine anyHF_done (by kernel_rfl) ?_ _
    refine NoPanic.normal ?_
    clear hS
    gi_wp2_with fail
    exact ⟨.slice (some ⟨gC, 0, none⟩) 2 2, by simp [results, Tryz.results47, go_sem], gC, rfl, hFIN, below_in HALL.out.2.2.2.2.2.2.2.2.2.2.2.2.1 hBx⟩
  case c1b =>
    have hB : Below w0.drew.heap.size w0.drew (w0.drew.alloc (.cells #[.nilFunc, .nilFunc, .slice none 0 0] 120)) := below_one w0.drew _
    have bR : Blk (w0.drew.alloc (.cells #[.nilFunc, .nilFunc, .slice none 0 0] 120)) w0.drew.heap.size 120 #[.nilFunc, .nilFunc, .slice none 0 0] := Blk.new w0.drew _ _
    have hgl0 := hBx.size
    obtain ⟨v4, he⟩ : ∃ x, (w0.drew.alloc (.cells #[.nilFunc, .nilFunc, .slice none 0 0] 120)) = x := ⟨_, rfl⟩
    obtain ⟨gr, hgr⟩ : ∃ x, w0.drew.heap.size = x := ⟨_, rfl⟩
    rw [he] at hB bR
    rw [hgr] at bR
    replace hBx := below_in hBx hB
    clear hS
    have hS : (fun U : World => U.cell? ⟨g0, 0, none⟩ = some (.int .i64 (P : Int)) ∧ U.cell? ⟨g0, 1, none⟩ = some (.slice (some ⟨gl, 0, none⟩) 2 2) ∧ U.cell? ⟨g0, 2, none⟩ = some (.slice (some ⟨gc, co, none⟩) N cc) ∧ U.cell? ⟨g0, 3, none⟩ = some (.slice nA n nc)) v4 := HSS.out _ hBx
    gi_wp2
    (try rw [hgr]); (try rw [he])
    try (refine ⟨hS, ?_⟩)
    have hAl := hB
    clear hB he
    refine anyHF_one (i := 1) (by kernel_rfl) rfl (by kernel_rfl) (by rfl) ?_
    gi_wp2_with fail
    refine ⟨trivial, (callsIn_wide.2 (HSU.out _ hBx (fun b => b = gr) (fun b e => ⟨_, by subst e; exact bR⟩))).mono ?_⟩
    rintro e v5 ⟨f1, f2, rfl, hT, hB⟩
    have hTw := hT
    obtain ⟨gt4, gt1, gt5, gt3, rfl, rfl, _⟩ := id hT
    clear hT
    obtain ⟨ws, hws⟩ : ∃ x, v5 = x := ⟨_, rfl⟩
    have HWS := Lib.hid hws
    clear hws
    have HTW := Lib.hid hTw
    clear hTw
    replace bR := bR.below hB bR.lt
    replace hBx := below_in hBx hB
    clear hS
    have hS : (fun U : World => U.cell? ⟨g0, 0, none⟩ = some (.int .i64 (P : Int)) ∧ U.cell? ⟨g0, 1, none⟩ = some (.slice (some ⟨gl, 0, none⟩) 2 2) ∧ U.cell? ⟨g0, 2, none⟩ = some (.slice (some ⟨gc, co, none⟩) N cc) ∧ U.cell? ⟨g0, 3, none⟩ = some (.slice nA n nc)) v5 := HSS.out _ hBx
    clear hB
    gi_wp2
    try (refine ⟨hS, ?_⟩)
    refine anyHF_take (i := 4) (d := 8) (v := .agg #[.func (.func 162) #[] #[.pointer (some ⟨gt4, 0, none⟩), .pointer (some ⟨gt1, 0, none⟩), .pointer (some ⟨gt5, 0, none⟩)], .func (.func 164) #[] #[.pointer (some ⟨gt3, 0, none⟩)], .slice nA n nc]) (by kernel_rfl) rfl (by kernel_rfl) (by kernel_rfl) (by kernel_rfl) rfl (fun _ _ _ h => h) ⟨Or.inl ⟨by rfl, fun w hS => by obtain ⟨h0, h1, h2, h3⟩ := hS; go_simp⟩, fun _ => rfl⟩ hS ?_
    simp only [List.setIfInBounds_toArray, List.set_cons_zero, List.set_cons_succ]
    refine anyHF_one (i := 6) (by kernel_rfl) rfl (by kernel_rfl) (by rfl) ?_
    have hn0 : ¬ gr = g0 := by have := HL0.out; omega
    have hn1 : ¬ g0 = gr := fun e => hn0 e.symm
    have k0 : v5.cell? ⟨gr, 0, none⟩ = some .nilFunc := bR.cell 0
    have k1 : v5.cell? ⟨gr, 1, none⟩ = some .nilFunc := bR.cell 1
    have k2 : v5.cell? ⟨gr, 2, none⟩ = some (.slice none 0 0) := bR.cell 2
    have f0 := bR.frozen 0
    have f1_ := bR.frozen 1
    have f2_ := bR.frozen 2
    have yR : Blk (((v5.setCell ⟨gr, 0, none⟩ (.func (.func 162) #[] #[.pointer (some ⟨gt4, 0, none⟩), .pointer (some ⟨gt1, 0, none⟩), .pointer (some ⟨gt5, 0, none⟩)])).setCell ⟨gr, 1, none⟩ (.func (.func 164) #[] #[.pointer (some ⟨gt3, 0, none⟩)])).setCell ⟨gr, 2, none⟩ (.slice nA n nc)) gr 120 #[.func (.func 162) #[] #[.pointer (some ⟨gt4, 0, none⟩), .pointer (some ⟨gt1, 0, none⟩), .pointer (some ⟨gt5, 0, none⟩)], .func (.func 164) #[] #[.pointer (some ⟨gt3, 0, none⟩)], .slice nA n nc] := ((bR.set_ 0 _).set_ 1 _).set_ 2 _
    have hkz : ∀ b, b ≠ gr → (((v5.setCell ⟨gr, 0, none⟩ (.func (.func 162) #[] #[.pointer (some ⟨gt4, 0, none⟩), .pointer (some ⟨gt1, 0, none⟩), .pointer (some ⟨gt5, 0, none⟩)])).setCell ⟨gr, 1, none⟩ (.func (.func 164) #[] #[.pointer (some ⟨gt3, 0, none⟩)])).setCell ⟨gr, 2, none⟩ (.slice nA n nc)).heap[b]? = v5.heap[b]? := fun b hb => ((Below.heap_setCell _ ⟨gr, 2, none⟩ _ b hb).trans (Below.heap_setCell _ ⟨gr, 1, none⟩ _ b hb)).trans (Below.heap_setCell _ ⟨gr, 0, none⟩ _ b hb)
    have hBz : Below w0.heap.size w0 (((v5.setCell ⟨gr, 0, none⟩ (.func (.func 162) #[] #[.pointer (some ⟨gt4, 0, none⟩), .pointer (some ⟨gt1, 0, none⟩), .pointer (some ⟨gt5, 0, none⟩)])).setCell ⟨gr, 1, none⟩ (.func (.func 164) #[] #[.pointer (some ⟨gt3, 0, none⟩)])).setCell ⟨gr, 2, none⟩ (.slice nA n nc)) := ((hBx.setCell (by show w0.heap.size ≤ gr; omega) _).setCell (by show w0.heap.size ≤ gr; omega) _).setCell (by show w0.heap.size ≤ gr; omega) _
    have hzz : (((v5.setCell ⟨gr, 0, none⟩ (.func (.func 162) #[] #[.pointer (some ⟨gt4, 0, none⟩), .pointer (some ⟨gt1, 0, none⟩), .pointer (some ⟨gt5, 0, none⟩)])).setCell ⟨gr, 1, none⟩ (.func (.func 164) #[] #[.pointer (some ⟨gt3, 0, none⟩)])).setCell ⟨gr, 2, none⟩ (.slice nA n nc)).heap.size = v5.heap.size := by simp
    obtain ⟨X1, hX1⟩ : ∃ x, (((v5.setCell ⟨gr, 0, none⟩ (.func (.func 162) #[] #[.pointer (some ⟨gt4, 0, none⟩), .pointer (some ⟨gt1, 0, none⟩), .pointer (some ⟨gt5, 0, none⟩)])).setCell ⟨gr, 1, none⟩ (.func (.func 164) #[] #[.pointer (some ⟨gt3, 0, none⟩)])).setCell ⟨gr, 2, none⟩ (.slice nA n nc)) = x := ⟨_, rfl⟩
    rw [hX1] at yR hkz hBz hzz
    gi_wp2
    (try rw [hX1])
    clear hX1 k0 k1 k2 f0 f1_ f2_ hS
    have hS : (fun U : World => U.cell? ⟨g0, 0, none⟩ = some (.int .i64 (P : Int)) ∧ U.cell? ⟨g0, 1, none⟩ = some (.slice (some ⟨gl, 0, none⟩) 2 2) ∧ U.cell? ⟨g0, 2, none⟩ = some (.slice (some ⟨gc, co, none⟩) N cc) ∧ U.cell? ⟨g0, 3, none⟩ = some (.slice nA n nc)) X1 := HSS.out _ hBz
    try (refine ⟨hS, ?_⟩)
    refine anyHF_done (by kernel_rfl) ?_ _
    refine NoPanic.normal ?_
    clear hS
    have HST : Hid (StayT w0 v5 (fun b => b = gr) X1) := ⟨hBz, by rw [hzz]; exact Nat.le_refl _, fun b h1 h2 => hkz b h2⟩
    have HEg : Hid (v5.heap.size ≤ gr ∨ (fun b => b = gr) gr) := .inr rfl
    have HTS := Lib.hid (SumsT.imp (S1 := StayT w0 v5 (fun b => b = gr)) HTW.out (fun V hV => ⟨HALL.out.2.2.2.2.2.2.1.next (below_in HALL.out.2.2.2.2.2.2.2.2.2.2.2.2.1 hV.1), hV.2.1, hV.2.2⟩))
    have HXL : Hid (v5.heap.size ≤ X1.heap.size ∧ w0.heap.size ≤ gr ∧ gr < X1.heap.size) := ⟨by rw [hzz]; exact Nat.le_refl _, by omega, yR.lt⟩
    have hBd := (Below.refl X1.heap.size X1).drew
    replace yR := yR.below hBd yR.lt
    clear hBx hkz hzz hgl0 hgr bR hn0 hn1 hAl HTW
    have hent := enter_cell
    gi_wp2_with fail
    have HCH := HCH0
    have hBx := hBz.drew
    clear hBz hBd
    have HSX : Hid (∀ V, Below w0.heap.size w0 V → (fun U : World => U.cell? ⟨g0, 0, none⟩ = some (.int .i64 (P : Int)) ∧ U.cell? ⟨g0, 1, none⟩ = some (.slice (some ⟨gl, 0, none⟩) 2 2)) V) := fun V hV => ⟨(HSS.out V hV).1, (HSS.out V hV).2.1⟩
    clear HSS
    have HSS := HSX
    have hS : (fun U : World => U.cell? ⟨g0, 0, none⟩ = some (.int .i64 (P : Int)) ∧ U.cell? ⟨g0, 1, none⟩ = some (.slice (some ⟨gl, 0, none⟩) 2 2)) X1.drew := HSS.out _ hBx
    refine wpIn_mono (region_HF (Q := NoPanic _) (S := (fun U : World => U.cell? ⟨g0, 0, none⟩ = some (.int .i64 (P : Int)) ∧ U.cell? ⟨g0, 1, none⟩ = some (.slice (some ⟨gl, 0, none⟩) 2 2))) (by kernel_rfl) ?_) NoPanic.imp
    refine anyHF_take (i := 0) (d := 9) (v := .pointer (some ⟨g0, 0, none⟩)) (by kernel_rfl) rfl (by kernel_rfl) (by kernel_rfl) (by kernel_rfl) rfl (fun _ _ _ h => h) ⟨Or.inl ⟨by rfl, fun w hS => by obtain ⟨h0, h1⟩ := hS; go_simp⟩, fun _ => rfl⟩ hS ?_
    simp only [List.setIfInBounds_toArray, List.set_cons_zero, List.set_cons_succ]
    refine anyHF_take (i := 1) (d := 10) (v := .agg #[.int .i64 (P : Int), .slice (some ⟨gl, 0, none⟩) 2 2]) (by kernel_rfl) rfl (by kernel_rfl) (by kernel_rfl) (by kernel_rfl) rfl (fun _ _ _ h => h) ⟨Or.inl ⟨by rfl, fun w hS => by obtain ⟨h0, h1⟩ := hS; go_simp⟩, fun _ => rfl⟩ hS ?_
    simp only [List.setIfInBounds_toArray, List.set_cons_zero, List.set_cons_succ]
    refine anyHF_take (i := 2) (d := 11) (v := .pointer (some ⟨g0, 0, none⟩)) (by kernel_rfl) rfl (by kernel_rfl) (by kernel_rfl) (by kernel_rfl) rfl (fun _ _ _ h => h) ⟨Or.inl ⟨by rfl, fun w hS => by obtain ⟨h0, h1⟩ := hS; go_simp⟩, fun _ => rfl⟩ hS ?_
    simp only [List.setIfInBounds_toArray, List.set_cons_zero, List.set_cons_succ]
    refine anyHF_take (i := 3) (d := 12) (v := .agg #[.int .i64 (P : Int), .slice (some ⟨gl, 0, none⟩) 2 2]) (by kernel_rfl) rfl (by kernel_rfl) (by kernel_rfl) (by kernel_rfl) rfl (fun _ _ _ h => h) ⟨Or.inl ⟨by rfl, fun w hS => by obtain ⟨h0, h1⟩ := hS; go_simp⟩, fun _ => rfl⟩ hS ?_
    simp only [List.setIfInBounds_toArray, List.set_cons_zero, List.set_cons_succ]
    refine anyHF_take (i := 5) (d := 14) (v := .func (.func 106) #[.pointer (some ⟨gr, 0, none⟩)] #[]) (by kernel_rfl) rfl (by kernel_rfl) (by kernel_rfl) (by kernel_rfl) rfl (fun _ _ _ h => h) ⟨Or.inl ⟨by rfl, fun w hS => by obtain ⟨h0, h1⟩ := hS; go_simp⟩, fun _ => rfl⟩ hS ?_
    simp only [List.setIfInBounds_toArray, List.set_cons_zero, List.set_cons_succ]
    refine anyHF_one (i := 4) (by kernel_rfl) rfl (by kernel_rfl) (by rfl) ?_
    gi_wp2_with fail
    refine ⟨trivial, (callsIn_wide.2 (HCH.out _ hBx)).mono ?_⟩
    rintro e v201 ⟨vch, rfl, hCT, hB⟩
    have hCTh := Lib.hid hCT
    obtain ⟨gf, lb, rfl, _⟩ := id hCT
    clear hCT
    have HBc := Lib.hid hB
    replace yR := yR.below hB yR.lt
    replace hBx := below_in hBx hB
    clear hS
    have hS : (fun U : World => U.cell? ⟨g0, 0, none⟩ = some (.int .i64 (P : Int)) ∧ U.cell? ⟨g0, 1, none⟩ = some (.slice (some ⟨gl, 0, none⟩) 2 2)) v201 := HSS.out _ hBx
    clear hB
    gi_wp2
    try (refine ⟨hS, ?_⟩)
    refine anyHF_one (i := 6) (by kernel_rfl) rfl (by kernel_rfl) (by rfl) ?_
    have HG9 := gatheredB_any HALL.out.1 HALL.out.2.2.2.2.2.1.1 HALL.out.2.2.2.2.2.1.2 HTS.out X1.drew.heap.size a b ⟨by have := HALL.out.2.1; omega, by have := HALL.out; omega⟩ ⟨by have := HALL.out; omega, by have := HALL.out; omega⟩ rs HRL.out _ v201 HBc.out.size hCTh.out gr HXL.out.2.1 HXL.out.2.2 hBx (fun X Y h hb => h.one hb) (fun X Y row h hg hr => h.two hg hr (Nat.le_trans HXL.out.2.1 (Nat.le_of_lt HXL.out.2.2)) HXL.out.1) (fun X p u h hp => h.three hp (Nat.le_trans HXL.out.2.1 (Nat.le_of_lt HXL.out.2.2)) HXL.out.1 HXL.out.2.1 (.inr rfl)) (HST.out.one (below_undrew HBc.out)) nA nc yR (HNO.out _ hBx)
    gi_wp2_with fail
    refine ⟨trivial, (callsIn_wide.2 HG9).mono ?_⟩
    rintro e v202 ⟨At, c1, rfl, hMt, hB9⟩
    clear HG9
    obtain ⟨gt, ot, us, rfl, _, hgt, hul, hus, _, _⟩ := many_form hMt (by have := HRQ.out; omega) (by rw [toldF_len, chn_len])
    have HUS := Lib.hid (And.intro hgt (And.intro hul hus))
    clear hgt hul hus hMt yR hBx
    have hBx := hB9
    clear hB9
    clear hS
    have hS : (fun U : World => U.cell? ⟨g0, 0, none⟩ = some (.int .i64 (P : Int)) ∧ U.cell? ⟨g0, 1, none⟩ = some (.slice (some ⟨gl, 0, none⟩) 2 2)) v202 := HSS.out _ hBx
    gi_wp2
    try (refine ⟨hS, ?_⟩)
    refine anyHF_one (i := 7) (by kernel_rfl) rfl (by kernel_rfl) (by rfl) ?_
    have HC9 := columns_any HALL.out.1.hQ HALL.out.1.hp a b ⟨by have := HALL.out; omega, by have := HALL.out; omega⟩ ⟨by have := HALL.out; omega, by have := HALL.out; omega⟩ (by have := HALL.out; omega) rs HRS.out HRL.out gl gt ot (2 * rs.length) c1 us rfl HUS.out.2.1 (fun u hu => by obtain ⟨j, hj⟩ := List.getElem?_of_mem hu; obtain ⟨A2, c2, e2, _⟩ := (HUS.out.2.2 j u hj).2; exact ⟨A2, _, c2, e2⟩) v202 (HALL.out.2.2.2.2.2.2.1.next (below_in HALL.out.2.2.2.2.2.2.2.2.2.2.2.2.1 hBx)) (Nat.lt_of_lt_of_le HALL.out.2.2.2.2.2.2.2.1 (below_in HALL.out.2.2.2.2.2.2.2.2.2.2.2.2.1 hBx).size) HUS.out.1 (((below_in HALL.out.2.2.2.2.2.2.2.2.2.2.2.2.1 hBx).cell (p := ⟨gl, 0, none⟩) HALL.out.2.2.2.2.2.2.2.1).trans HALL.out.2.2.2.2.2.2.2.2.1) (((below_in HALL.out.2.2.2.2.2.2.2.2.2.2.2.2.1 hBx).cell (p := ⟨gl, 1, none⟩) HALL.out.2.2.2.2.2.2.2.1).trans HALL.out.2.2.2.2.2.2.2.2.2.1) (fun j u hj => (HUS.out.2.2 j u hj).1)
    gi_wp2_with fail
    refine ⟨trivial, (callsIn_wide.2 (HC9)).mono ?_⟩
    rintro e v203 ⟨gC, rfl, hCo, hB⟩
    have hFIN := fill_cols HALL.out.1 HALL.out.2.2.2.2.2.1.1 HALL.out.2.2.2.2.2.1.2 HALL.out.2.2.2.2.1 HAB.out HRS.out (W := v203) (fun j u hj => ((HUS.out.2.2 j u hj).2.below hB).more hB.size) HUS.out.2.1 hCo
    clear HC9 hCo
    replace hBx := below_in hBx hB
    clear hS
    have hS : (fun U : World => U.cell? ⟨g0, 0, none⟩ = some (.int .i64 (P : Int)) ∧ U.cell? ⟨g0, 1, none⟩ = some (.slice (some ⟨gl, 0, none⟩) 2 2)) v203 := HSS.out _ hBx
    clear hB
    gi_wp2
    try (refine ⟨hS, ?_⟩)
    refine anyHF_one (i := 8) (by kernel_rfl) rfl (by kernel_rfl) (by rfl) ?_
    gi_wp2
    refine anyHF_done (by kernel_rfl) ?_ _
    refine NoPanic.normal ?_
    clear hS
    gi_wp2_with fail
    exact ⟨.slice (some ⟨gC, 0, none⟩) 2 2, by simp [results, Tryz.results47, go_sem], gC, rfl, hFIN, below_in HALL.out.2.2.2.2.2.2.2.2.2.2.2.2.1 hBx⟩
end Go.Proofs.YtfihlelhpmjpaaaGreatDoor.T

namespace Go.Proofs.YtfihlelhpmjpaaaGreatDoor.T
open Go.RowKit Go.Shelf Go.Maps Go.Proofs.YtfihlelhpmjpaaaGreatDoor.C Go.Proofs.YtfihlelhpmjpaaaGreatDoor.E Go.Proofs.YtfihlelhpmjpaaaGreatDoor.Ch
set_option linter.unusedSimpArgs false
set_option linter.unusedVariables false
attribute [local go_sem] Oper.semAt_some

theorem num_off {W : World} {g b o : Nat} {t : TypeId} {y : Int} {u : Value} (hb : Blk W g t #[.int .i64 y]) (h : W.cell? ⟨b, o, none⟩ = some u) (hu : u ≠ .int .i64 y) : b ≠ g := fun e => by
  subst e
  rw [hb.cell o] at h
  rcases o with _ | o
  · simp at h; exact hu h.symm
  · simp at h
theorem bytes_num {B : Nat} {W : World} {g : Nat} {t : TypeId} {y : Int} {v x : Value} {l : List UInt8} (h : Bytes B W v l) (hb : Blk W g t #[.int .i64 y]) : Bytes B (W.setCell ⟨g, 0, none⟩ x) v l := by
  obtain ⟨A, cap, e, hc, hA⟩ := h
  refine ⟨A, cap, e, hc, fun hp => ?_⟩
  obtain ⟨b, off, e2, hb1, hcell⟩ := hA hp
  have hne := num_off hb (hcell 0 hp) (by intro e; injection e with e; cases e)
  exact ⟨b, off, e2, hb1, fun j hj => (World.cell?_of_block (Below.heap_setCell W ⟨g, 0, none⟩ x b hne)).trans (hcell j hj)⟩
theorem many_num {B : Nat} {W : World} {g : Nat} {t : TypeId} {y : Int} {v x : Value} {ls : List (List UInt8)} (h : Many B W v ls) (hb : Blk W g t #[.int .i64 y]) : Many B (W.setCell ⟨g, 0, none⟩ x) v ls := by
  obtain ⟨A, cap, e, hc, hA⟩ := h
  refine ⟨A, cap, e, hc, fun hp => ?_⟩
  obtain ⟨b, off, e2, hb1, hcell⟩ := hA hp
  obtain ⟨u0, h0, m0⟩ := hcell 0 hp
  have hne := num_off hb h0 (by obtain ⟨_, _, e, _⟩ := m0; rw [e]; intro e; cases e)
  refine ⟨b, off, e2, hb1, fun j hj => ?_⟩
  obtain ⟨u, h1, h2⟩ := hcell j hj
  exact ⟨u, (World.cell?_of_block (Below.heap_setCell W ⟨g, 0, none⟩ x b hne)).trans h1, bytes_num h2 hb⟩
theorem cols_num {B : Nat} {W : World} {g : Nat} {t : TypeId} {y : Int} {v x : Value} {css : List (List (List UInt8))} (h : Cols B W v css) (hb : Blk W g t #[.int .i64 y]) : Cols B (W.setCell ⟨g, 0, none⟩ x) v css := by
  obtain ⟨A, cap, e, hc, hA⟩ := h
  refine ⟨A, cap, e, hc, fun hp => ?_⟩
  obtain ⟨b, off, e2, hb1, hcell⟩ := hA hp
  obtain ⟨u0, h0, m0⟩ := hcell 0 hp
  have hne := num_off hb h0 (by obtain ⟨_, _, e, _⟩ := m0; rw [e]; intro e; cases e)
  refine ⟨b, off, e2, hb1, fun j hj => ?_⟩
  obtain ⟨u, h1, h2⟩ := hcell j hj
  exact ⟨u, (World.cell?_of_block (Below.heap_setCell W ⟨g, 0, none⟩ x b hne)).trans h1, many_num h2 hb⟩
theorem enter_Recover1 : ∀ args W, (callFunc 44 args).run Tryz.prog W = .ok (.enter 44 args) W := enters_of Tryz.func44 (by kernel_rfl) rfl
theorem lost_good {P Q n : Nat} (d : Rg.Dims P Q n) {L : List Int} {css : List (List (List UInt8))} (hgood : ∀ i, i < css.length → (i : Int) ∉ L → GoodC Q n (css[i]?.getD [])) : ∀ c, c < css.length → GoodC Q n ((lostC L Q n css)[c]?.getD []) := fun c hc => by
  rw [lostC_at L Q n css hc]
  split
  · exact noC_good d.h1 d.h64
  · rename_i h
    exact hgood c hc h
set_option maxRecDepth 100000 in
set_option maxHeartbeats 8000000 in
theorem recover_yes {B P Q n : Nat} (d : Rg.Dims P Q n) (a b : Int) (ha : 0 ≤ a) (hab : a < b) (hb : b < (P : Int)) (css : List (List (List UInt8))) (N : Nat) (hcl : css.length = N) (hN : N = P + 2) (hgood : ∀ i, i < css.length → (i : Int) ∉ [a, b] → GoodC Q n (css[i]?.getD [])) (vA : Option Addr) (vc : Nat) (A Bc : List (List UInt8)) (hsol : Solves P Q n (rsF P Q (lostC [a, b] Q n css)) (dsF P Q (lostC [a, b] Q n css)) A Bc a b) (w : World) (hL : Laid w) (hB : B ≤ w.heap.size) (hC : Cols B w (.slice vA N vc) css) :
    Calls Tryz.prog 15 #[.int .i64 (P : Int), .slice vA N vc, .int .i64 a, .int .i64 b] w fun e w' => ∃ u, e = .returned (.tuple #[u, .int .i64 0]) ∧ Cols w'.heap.size w' u [A, Bc] ∧ Below w.heap.size w w' := by
  have hQ := d.hQ
  have hpb := prm_bounds d.hp
  obtain ⟨W2, hW2⟩ : ∃ x, (((w.alloc (.cells #[.int .i64 (P : Int)] 3)).alloc (.cells #[.slice vA N vc] 22)).alloc (.cells #[.int .i64 a] 3)).alloc (.cells #[.int .i64 b] 3) = x := ⟨_, rfl⟩
  have b0 : Blk W2 (w.heap.size) 3 #[.int .i64 (P : Int)] := by rw [← hW2]; exact (((Blk.new w _ _).alloc _).alloc _).alloc _
  have b1 : Blk W2 (w.heap.size + 1) 22 #[.slice vA N vc] := by rw [← hW2]; exact ((Blk.second w _ _ _).alloc _).alloc _
  have b2 : Blk W2 (w.heap.size + 1 + 1) 3 #[.int .i64 a] := by rw [← hW2]; exact (Rg.Blk.at_ (Blk.new _ _ _) (by simp)).alloc _
  have b3 : Blk W2 (w.heap.size + 1 + 1 + 1) 3 #[.int .i64 b] := by rw [← hW2]; exact Rg.Blk.at_ (Blk.new _ _ _) (by simp)
  have hBW : Below w.heap.size w W2 := by rw [← hW2]; exact (((below_two w _ _)).alloc (by simp; omega) _).alloc (by simp; omega) _
  obtain ⟨W2b, hW2b⟩ : ∃ x, w.heap.size = x := ⟨_, rfl⟩
  obtain ⟨W2c, hW2c⟩ : ∃ x, w.heap.size + 1 = x := ⟨_, rfl⟩
  obtain ⟨W2d, hW2d⟩ : ∃ x, w.heap.size + 1 + 1 = x := ⟨_, rfl⟩
  obtain ⟨W2e, hW2e⟩ : ∃ x, w.heap.size + 1 + 1 + 1 = x := ⟨_, rfl⟩
  have HA := Lib.hid (Go.Proofs.YtfihlelhpmjpaaaGreatDoor.Ch.ans_S_yes 44 #[.pointer (some ⟨w.heap.size, 0, none⟩), .pointer (some ⟨w.heap.size + 1, 0, none⟩), .pointer (some ⟨w.heap.size + 1 + 1, 0, none⟩), .pointer (some ⟨w.heap.size + 1 + 1 + 1, 0, none⟩)] W2 (fun u W => ∃ x y z, u = .slice x y z ∧ Cols W.heap.size W u [A, Bc]) (enter_Recover1 _) (fun U hU bU => by
    have hBU := below_in hBW hU
    have hltU := bU.lt
    have HAS := Lib.hid (fun (V : World) (g : Nat) (hV : Below U.heap.size U V) (bE : Blk V g 3 #[.int .i64 a, .int .i64 b]) => asked_yes (P : Int) d.hp vA N vc (by omega) g [a, b] (by simp) (good_two ha hab hb) V (hL.next (below_in hBU hV)) bE.lt (two_cells bE))
    have hnP : ((P : Nat) : Int) ∉ [a, b] := by simp; omega
    have hk0 : 0 < (kept ([a, b] ++ []) css css.length).length := kept_pos (i := P) (by omega) (by rw [List.append_nil]; exact hnP)
    have hrg : ∀ x ∈ [a, b] ++ [], 0 ≤ x ∧ x < (css.length : Int) := by intro x hx; simp at hx; rcases hx with rfl | rfl <;> omega
    have HOF := Lib.hid (fun (V : World) (g : Nat) (hV : Below U.heap.size U V) (bE : Blk V g 3 #[.int .i64 a, .int .i64 b]) => (by
      have h := of_yes (B := B) (P : Int) [a, b] [] ⟨by simp, by simp⟩ (by simp) g css (by omega) (by omega) (.slice vA N vc) (.slice none 0 0) V (hL.next (below_in hBU hV)) (Nat.le_trans hB (below_in hBU hV).size) bE.lt (two_cells bE) (.inl ⟨rfl, rfl⟩) (hC.below ((below_in hBU hV).mono hB)) P Q n d rfl hrg hk0 (fun i hi hm => hgood i hi (by rw [List.append_nil] at hm; exact hm))
      rw [List.append_nil, hcl] at h
      exact h : Calls Tryz.prog 46 #[.agg #[.int .i64 (P : Int), .slice (some ⟨g, 0, none⟩) 2 2], .slice vA N vc, .slice none 0 0] V fun e w' => ∃ cA cc nA nc, e = .returned (.agg #[.int .i64 (P : Int), .slice (some ⟨g, 0, none⟩) 2 2, .slice cA N cc, .slice nA n nc]) ∧ Cols w'.heap.size w' (.slice cA N cc) (lostC [a, b] Q n css) ∧ Bytes w'.heap.size w' (.slice nA n nc) (List.replicate n 0) ∧ Below V.heap.size V w'))
    have HFM : Hid (∀ (V : World) (cA : Option Addr) (N2 cc : Nat), Cols V.heap.size V (.slice cA N2 cc) (lostC [a, b] Q n css) → ∃ gc co, cA = some ⟨gc, co, none⟩) := fun V cA N2 cc h => by
      obtain ⟨gc, co, _, hve, _⟩ := h.at_ (by rw [lostC_len]; omega)
      injection hve with e1 _ _
      exact ⟨gc, co, e1⟩
    have HRE := Lib.hid (fun (V : World) (g gc co cc : Nat) (nA : Option Addr) (nc : Nat) (hV : Below U.heap.size U V) (bE : Blk V g 3 #[.int .i64 a, .int .i64 b]) (h1 : Cols V.heap.size V (.slice (some ⟨gc, co, none⟩) N cc) (lostC [a, b] Q n css)) (h2 : Bytes V.heap.size V (.slice nA n nc) (List.replicate n 0)) => recovered_any d a b ha hab hb g gc co N cc nA nc (lostC [a, b] Q n css) hN (by rw [lostC_len]; exact hcl) (fun c hc => lost_good d hgood c (by omega)) A Bc hsol V (hL.next (below_in hBU hV)) (Nat.le_refl _) bE.lt (bE.cell 0) (bE.cell 1) h1 h2)
    have HSS : Hid (∀ V, Below U.heap.size U V → (fun U : World => U.cell? ⟨W2b, 0, none⟩ = some (.int .i64 (P : Int)) ∧ U.cell? ⟨W2c, 0, none⟩ = some (.slice vA N vc) ∧ U.cell? ⟨W2d, 0, none⟩ = some (.int .i64 a) ∧ U.cell? ⟨W2e, 0, none⟩ = some (.int .i64 b)) V) := by
      rw [← hW2b, ← hW2c, ← hW2d, ← hW2e]
      exact fun V hV => ⟨((b0.below hU b0.lt).below hV (Nat.lt_of_lt_of_le b0.lt hU.size)).one, ((b1.below hU b1.lt).below hV (Nat.lt_of_lt_of_le b1.lt hU.size)).one, ((b2.below hU b2.lt).below hV (Nat.lt_of_lt_of_le b2.lt hU.size)).one, ((b3.below hU b3.lt).below hV (Nat.lt_of_lt_of_le b3.lt hU.size)).one⟩
    have hBx := (Below.refl U.heap.size U).drew
    rw [hW2e, hW2d, hW2c, hW2b]
    clear b0 b1 b2 b3 hW2 hL hW2e hW2d hW2c hW2b bU ha hab hb hcl hN hgood hsol hC hB hk0 hrg hnP d hQ hpb
    refine (callsIn_wide (n := 9)).1 ?_
    refine callsIn_of_wp_marks Tryz.func44 rfl trivial ?_ rfl
    simp only [Tryz.ntmps44, List.size_toArray, List.length_cons, List.length_nil, Nat.reduceAdd, Nat.reduceSub, Array.replicate_succ, Array.replicate_zero, List.push_toArray, List.append_toArray, List.nil_append, List.cons_append]
    gi_wp2_with fail
    have hS : (fun U : World => U.cell? ⟨W2b, 0, none⟩ = some (.int .i64 (P : Int)) ∧ U.cell? ⟨W2c, 0, none⟩ = some (.slice vA N vc) ∧ U.cell? ⟨W2d, 0, none⟩ = some (.int .i64 a) ∧ U.cell? ⟨W2e, 0, none⟩ = some (.int .i64 b)) U.drew := HSS.out _ hBx
    refine wpIn_mono (region_HF (Q := NoPanic _) (S := (fun U : World => U.cell? ⟨W2b, 0, none⟩ = some (.int .i64 (P : Int)) ∧ U.cell? ⟨W2c, 0, none⟩ = some (.slice vA N vc) ∧ U.cell? ⟨W2d, 0, none⟩ = some (.int .i64 a) ∧ U.cell? ⟨W2e, 0, none⟩ = some (.int .i64 b))) (by kernel_rfl) ?_) NoPanic.imp
    refine anyHF_take (i := 0) (d := 5) (v := .int .i64 (P : Int)) (by kernel_rfl) rfl (by kernel_rfl) (by kernel_rfl) (by kernel_rfl) rfl (fun _ _ _ h => h) ⟨Or.inl ⟨by rfl, fun w hS => by obtain ⟨h0, h1, h2, h3⟩ := hS; go_simp⟩, fun _ => rfl⟩ hS ?_
    simp only [List.setIfInBounds_toArray, List.set_cons_zero, List.set_cons_succ]
    refine anyHF_take (i := 1) (d := 6) (v := .slice vA N vc) (by kernel_rfl) rfl (by kernel_rfl) (by kernel_rfl) (by kernel_rfl) rfl (fun _ _ _ h => h) ⟨Or.inl ⟨by rfl, fun w hS => by obtain ⟨h0, h1, h2, h3⟩ := hS; go_simp⟩, fun _ => rfl⟩ hS ?_
    simp only [List.setIfInBounds_toArray, List.set_cons_zero, List.set_cons_succ]
    refine anyHF_take (i := 2) (d := 7) (v := .int .i64 a) (by kernel_rfl) rfl (by kernel_rfl) (by kernel_rfl) (by kernel_rfl) rfl (fun _ _ _ h => h) ⟨Or.inl ⟨by rfl, fun w hS => by obtain ⟨h0, h1, h2, h3⟩ := hS; go_simp⟩, fun _ => rfl⟩ hS ?_
    simp only [List.setIfInBounds_toArray, List.set_cons_zero, List.set_cons_succ]
    refine anyHF_take (i := 3) (d := 8) (v := .int .i64 b) (by kernel_rfl) rfl (by kernel_rfl) (by kernel_rfl) (by kernel_rfl) rfl (fun _ _ _ h => h) ⟨Or.inl ⟨by rfl, fun w hS => by obtain ⟨h0, h1, h2, h3⟩ := hS; go_simp⟩, fun _ => rfl⟩ hS ?_
    simp only [List.setIfInBounds_toArray, List.set_cons_zero, List.set_cons_succ]
    refine anyHF_take (i := 6) (d := 11) (v := .slice vA N vc) (by kernel_rfl) rfl (by kernel_rfl) (by kernel_rfl) (by kernel_rfl) rfl (fun _ _ _ h => h) ⟨Or.inl ⟨by rfl, fun w hS => by obtain ⟨h0, h1, h2, h3⟩ := hS; go_simp⟩, fun _ => rfl⟩ hS ?_
    simp only [List.setIfInBounds_toArray, List.set_cons_zero, List.set_cons_succ]
    refine anyHF_one (i := 4) (by kernel_rfl) rfl (by kernel_rfl) (by rfl) ?_
    have hgl_g2 := hBx.size
    have hB : Below U.drew.heap.size U.drew (U.drew.alloc (.cells #[.int .i64 a, .int .i64 b] 3)) := below_one U.drew _
    have bE : Blk (U.drew.alloc (.cells #[.int .i64 a, .int .i64 b] 3)) U.drew.heap.size 3 #[.int .i64 a, .int .i64 b] := Blk.new U.drew _ _
    obtain ⟨v1, he_v1⟩ : ∃ x, (U.drew.alloc (.cells #[.int .i64 a, .int .i64 b] 3)) = x := ⟨_, rfl⟩
    obtain ⟨g2, hg_g2⟩ : ∃ x, U.drew.heap.size = x := ⟨_, rfl⟩
    rw [he_v1] at hB bE
    rw [hg_g2] at bE
    replace hBx := below_in hBx hB
    clear hS
    have hS : (fun U : World => U.cell? ⟨W2b, 0, none⟩ = some (.int .i64 (P : Int)) ∧ U.cell? ⟨W2c, 0, none⟩ = some (.slice vA N vc) ∧ U.cell? ⟨W2d, 0, none⟩ = some (.int .i64 a) ∧ U.cell? ⟨W2e, 0, none⟩ = some (.int .i64 b)) v1 := HSS.out _ hBx
    gi_wp2
    (try rw [hg_g2]); (try rw [he_v1])
    try (refine ⟨hS, ?_⟩)
    clear hB he_v1 hg_g2
    refine anyHF_one (i := 5) (by kernel_rfl) rfl (by kernel_rfl) (by rfl) ?_
    gi_wp2_with fail
    refine ⟨trivial, (callsIn_wide.2 (HAS.out _ g2 hBx bE)).mono ?_⟩
    rintro e v3 ⟨rfl, hB⟩
    replace bE := bE.below hB bE.lt
    replace hBx := below_in hBx hB
    clear hS
    have hS : (fun U : World => U.cell? ⟨W2b, 0, none⟩ = some (.int .i64 (P : Int)) ∧ U.cell? ⟨W2c, 0, none⟩ = some (.slice vA N vc) ∧ U.cell? ⟨W2d, 0, none⟩ = some (.int .i64 a) ∧ U.cell? ⟨W2e, 0, none⟩ = some (.int .i64 b)) v3 := HSS.out _ hBx
    clear hB
    gi_wp2
    try (refine ⟨hS, ?_⟩)
    refine anyHF_one (i := 7) (by kernel_rfl) rfl (by kernel_rfl) (by rfl) ?_
    gi_wp2_with fail
    refine ⟨trivial, (callsIn_wide.2 (HOF.out _ g2 hBx bE)).mono ?_⟩
    rintro e v4 ⟨cA, cc, nA, nc, rfl, hCl, hNo, hB⟩
    obtain ⟨gc, co, rfl⟩ := HFM.out _ _ _ _ hCl
    have HCL := Lib.hid (And.intro hCl hNo)
    clear hCl hNo
    replace bE := bE.below hB bE.lt
    replace hBx := below_in hBx hB
    clear hS
    have hS : (fun U : World => U.cell? ⟨W2b, 0, none⟩ = some (.int .i64 (P : Int)) ∧ U.cell? ⟨W2c, 0, none⟩ = some (.slice vA N vc) ∧ U.cell? ⟨W2d, 0, none⟩ = some (.int .i64 a) ∧ U.cell? ⟨W2e, 0, none⟩ = some (.int .i64 b)) v4 := HSS.out _ hBx
    clear hB
    gi_wp2
    try (refine ⟨hS, ?_⟩)
    refine anyHF_one (i := 8) (by kernel_rfl) rfl (by kernel_rfl) (by rfl) ?_
    gi_wp2_with fail
    refine ⟨trivial, (callsIn_wide.2 (HRE.out _ g2 gc co cc nA nc hBx bE HCL.out.1 HCL.out.2)).mono ?_⟩
    rintro e v5 ⟨gR, rfl, hRES, hB⟩
    replace bE := bE.below hB bE.lt
    replace hBx := below_in hBx hB
    clear hS
    have hS : (fun U : World => U.cell? ⟨W2b, 0, none⟩ = some (.int .i64 (P : Int)) ∧ U.cell? ⟨W2c, 0, none⟩ = some (.slice vA N vc) ∧ U.cell? ⟨W2d, 0, none⟩ = some (.int .i64 a) ∧ U.cell? ⟨W2e, 0, none⟩ = some (.int .i64 b)) v5 := HSS.out _ hBx
    clear hB
    gi_wp2
    try (refine ⟨hS, ?_⟩)
    refine anyHF_one (i := 9) (by kernel_rfl) rfl (by kernel_rfl) (by rfl) ?_
    gi_wp2
    refine anyHF_done (by kernel_rfl) ?_ _
    refine NoPanic.normal ?_
    clear hS
    gi_wp2_with fail
    exact ⟨_, by simp [results, Tryz.results44, go_sem], _, rfl, ⟨_, _, _, rfl, hRES⟩, hBx⟩))
  clear b0 b1 b2 b3 hL hW2e hW2d hW2c hW2b ha hab hb hcl hN hgood hsol hC hB d hQ hpb
  go_enter Tryz.func15, Tryz.ntmps15
  have hmf : ∀ (fn : Fn) (first cap : Array Value) (w : World), (Instr.makeFunc fn first cap).run Tryz.prog w = .ok (.func fn first cap) w := fun _ _ _ _ => rfl
  go_wp2_with (go_at_call 43; refine HA.out.mono ?_; rintro e w1 ⟨u, W, rfl, ⟨uA, un, uc, rfl, hu⟩, bE, rfl, hB1⟩)
  go_ret2
  exact ⟨_, rfl, (cols_num hu bE).more (by simp), below_in hBW hB1⟩
end Go.Proofs.YtfihlelhpmjpaaaGreatDoor.T

