/- What the laws of shape share: the variables as the row lays them, and a world in which they lie so; codes and places that came in. -/
import Derived.Test.YtggdlklkjnbbjaaGreatDoorSwJ
import Derived.ShutString
import Derived.ChangeOld
import Derived.LaidMore
import Derived.Stop.Joined
import Derived.MakeChecks
import Derived.Lib.LaidTab
namespace Go.Proofs.YtggdlklkjnbbjaaGreatDoor
open Go.ChangeShapes Go.WideShapes Go.ChangeAt Go.RowKit Go.Shelf

theorem gPrimes : Tryz.prog.globalNamed "palisade/mod.primes" = some 1 := by kernel_rfl
theorem tPrimes : (Tryz.prog.globals[1]?).map (·.type) = some 182 := by kernel_rfl
theorem gKinds : Tryz.prog.globalNamed "palisade/shape.kinds" = some 0 := by kernel_rfl
theorem tKinds : (Tryz.prog.globals[0]?).map (·.type) = some 163 := by kernel_rfl
def laidL : List (String × DataW Unit) := [("palisade/mod.primes", Rows.laid_palisade_mod_primes), ("palisade/shape.kinds", Rows.laid_palisade_shape_kinds)]
theorem door_met (os : Os) (args : Array Value) : laidMetH Tryz.prog laidL ((World.doorLaid Tryz.prog 200 os).forCall (fun _ _ => 0) ⟨#[], args, []⟩).memory :=
  laidMetH_of_parts3 (fuel := 8) (laidMet_of_run' 8 (by kernel_rfl) (by kernel_rfl)) (by kernel_rfl) (by kernel_rfl)

theorem cells_int : Tryz.prog.cellsOf 3 = 1 := by kernel_rfl
theorem cells_codekind : Tryz.prog.cellsOf 35 = 1 := by kernel_rfl
theorem cells_kind : Tryz.prog.cellsOf 128 = 2 := by kernel_rfl
theorem cells_kinds : Tryz.prog.cellsOf 163 = 8 := by kernel_rfl
theorem cells_code : Tryz.prog.cellsOf 37 = 2 := by kernel_rfl
theorem cells_at : Tryz.prog.cellsOf 56 = 2 := by kernel_rfl
theorem list2 {α : Type} (l : List α) (h : l.length = 2) : ∃ a b, l = [a, b] := by
  match l, h with
  | [a, b], _ => exact ⟨a, b, rfl⟩
theorem list4 {α : Type} (l : List α) (h : l.length = 4) : ∃ a b c d, l = [a, b, c, d] := by
  match l, h with
  | [a, b, c, d], _ => exact ⟨a, b, c, d, rfl⟩
theorem list8 {α : Type} (l : List α) (h : l.length = 8) : ∃ a b c d e f g i, l = [a, b, c, d, e, f, g, i] := by
  match l, h with
  | [a, b, c, d, e, f, g, i], _ => exact ⟨a, b, c, d, e, f, g, i, rfl⟩

/-- Two integers in a struct. -/
theorem two_of {H : Type} {enc : TypeId × Value → H} {W : World} {sp : Nat → Bool} {held : Bool} {fuel : Nat} {t t1 t2 : TypeId} {fs : Array Field} {c0 c1 : Value} {x : DataW H × List MemPlace}
    (ht : Tryz.prog.underlying t = some (.struct fs)) (hn : fs.size = 2) (h0 : fs[0]?.map (fun f => (f.type, f.offset)) = some (t1, 0)) (h1 : fs[1]?.map (fun f => (f.type, f.offset)) = some (t2, 1))
    (u1 : Tryz.prog.underlying t1 = some (.int .i64)) (u2 : Tryz.prog.underlying t2 = some (.int .i64)) (k1 : Tryz.prog.cellsOf t1 = 1) (k2 : Tryz.prog.cellsOf t2 = 1)
    (h : DataW.trod enc Tryz.prog W 0 sp held fuel t [c0, c1] = some x) :
    ∃ a b : Int, c0 = .int .i64 a ∧ c1 = .int .i64 b ∧ x.1 = .agg [.lit (.int .i64 a), .lit (.int .i64 b)] ∧ (Lit.int .i64 a).wf = true ∧ (Lit.int .i64 b).wf = true := by
  obtain ⟨xs, m, rfl, rfl, _, hx, hel⟩ := DataW.trod_struct ht h
  obtain ⟨y0, y1, rfl⟩ := list2 xs (hx.trans hn)
  obtain ⟨f0, hf0, e0⟩ := Option.map_eq_some_iff.1 h0
  obtain ⟨f1, hf1, e1⟩ := Option.map_eq_some_iff.1 h1
  injection e0 with e0 e0'
  injection e1 with e1 e1'
  have g0 := hel 0 f0 hf0
  have g1 := hel 1 f1 hf1
  rw [e0, e0', k1] at g0
  rw [e1, e1', k2] at g1
  obtain ⟨a, ea, ya, wa⟩ := DataW.trod_int u1 (show DataW.trod enc Tryz.prog W 0 sp held m t1 [c0] = some y0 from g0)
  obtain ⟨b, eb, yb, wb⟩ := DataW.trod_int u2 (show DataW.trod enc Tryz.prog W 0 sp held m t2 [c1] = some y1 from g1)
  injection ea with ea _
  injection eb with eb _
  subst ea eb ya yb
  exact ⟨a, b, rfl, rfl, rfl, wa, wb⟩

set_option maxRecDepth 100000 in
theorem laid_of {W : World} (h : laidMetH Tryz.prog laidL W) : Laid W := by
  rw [MakeChecks.laidMetH_plain _ _ _ (by kernel_rfl)] at h
  obtain ⟨ps, ⟨g0, t0, cs0, f0, p0, q0, hg0, ht0, hv0, hd0, ⟨g1, t1, cs1, f1, p1, q1, hg1, ht1, hv1, hd1, _, _⟩, _⟩, _, _⟩ := h
  obtain rfl := Option.some.inj (gPrimes.symm.trans hg0)
  obtain rfl := Option.some.inj (tPrimes.symm.trans ht0)
  obtain rfl := Option.some.inj (gKinds.symm.trans hg1)
  obtain rfl := Option.some.inj (tKinds.symm.trans ht1)
  refine ⟨?_, ?_⟩
  · have hc := Lib.cells_of_tab Tryz.underlying182 Tryz.underlying3 (by kernel_rfl) (by kernel_rfl) (k := .i64) (zs := prm) hd0
    obtain ⟨l0⟩ := cs0
    have hc' : l0 = prm.map fun z => Value.int .i64 z := hc
    subst hc'
    unfold World.var? at hv0
    rw [gPrimes, Option.bind_some] at hv0
    split at hv0
    · rename_i cs t fr hh
      injection hv0 with hv0
      subst hv0
      exact ⟨t, fr, hh⟩
    · cases hv0
  · obtain ⟨l1⟩ := cs1
    obtain ⟨xs, m, rfl, hxs, hl, hn, hel⟩ := DataW.trod_array Tryz.underlying163 hd1
    rw [cells_kinds] at hl
    obtain ⟨y0, y1, y2, y3, rfl⟩ := list4 xs hn
    obtain ⟨v0, v1, v2, v3, v4, v5, v6, v7, rfl⟩ := list8 l1 hl
    have h0 := hel 0 (by omega)
    have h1 := hel 1 (by omega)
    have h2 := hel 2 (by omega)
    have h3 := hel 3 (by omega)
    rw [cells_kind] at h0 h1 h2 h3
    obtain ⟨a0, b0, rfl, rfl, z0, _, _⟩ := two_of Tryz.underlying128 rfl rfl rfl Tryz.underlying3 Tryz.underlying3 cells_int cells_int (show DataW.trod _ Tryz.prog W 0 (fun _ => true) false m 128 [v0, v1] = some y0 from h0)
    obtain ⟨a1, b1, rfl, rfl, z1, _, _⟩ := two_of Tryz.underlying128 rfl rfl rfl Tryz.underlying3 Tryz.underlying3 cells_int cells_int (show DataW.trod _ Tryz.prog W 0 (fun _ => true) false m 128 [v2, v3] = some y1 from h1)
    obtain ⟨a2, b2, rfl, rfl, z2, _, _⟩ := two_of Tryz.underlying128 rfl rfl rfl Tryz.underlying3 Tryz.underlying3 cells_int cells_int (show DataW.trod _ Tryz.prog W 0 (fun _ => true) false m 128 [v4, v5] = some y2 from h2)
    obtain ⟨a3, b3, rfl, rfl, z3, _, _⟩ := two_of Tryz.underlying128 rfl rfl rfl Tryz.underlying3 Tryz.underlying3 cells_int cells_int (show DataW.trod _ Tryz.prog W 0 (fun _ => true) false m 128 [v6, v7] = some y3 from h3)
    have hx := congrArg Prod.fst hxs
    simp only [List.map_cons, List.map_nil, z0, z1, z2, z3, Rows.laid_palisade_shape_kinds] at hx
    simp only [DataW.agg.injEq, List.cons.injEq, DataW.lit.injEq, Lit.int.injEq, true_and, and_true] at hx
    obtain ⟨⟨q0, q1⟩, ⟨q2, q3⟩, ⟨q4, q5⟩, q6, q7⟩ := hx
    subst q0 q1 q2 q3 q4 q5 q6 q7
    unfold World.var? at hv1
    rw [gKinds, Option.bind_some] at hv1
    split at hv1
    · rename_i cs t fr hh
      injection hv1 with hv1
      subst hv1
      exact ⟨t, fr, hh⟩
    · cases hv1

set_option maxRecDepth 100000 in
theorem open_code {H : Type} {enc : TypeId × Value → H} {W : World} {base : Nat} {v : Value} {d : DataW H} {p : List MemPlace} (hv : Value.okWide Tryz.prog W .any base 37 v)
    (h : ∃ fuel, DataW.trod enc Tryz.prog W 0 (fun _ => true) true fuel 37 v.cells.toList = some (d, p)) :
    ∃ x y : Int, v = .agg #[.int .i64 x, .int .i64 y] ∧ (Lit.int .i64 x).wf = true ∧ (Lit.int .i64 y).wf = true := by
  obtain ⟨cs, rfl, hsz⟩ := okWide_struct Tryz.underlying37 hv
  rw [cells_code] at hsz
  obtain ⟨l⟩ := cs
  obtain ⟨c0, c1, rfl⟩ := list2 l hsz
  obtain ⟨fuel, hf⟩ := h
  obtain ⟨a, b, rfl, rfl, _, wa, wb⟩ := two_of Tryz.underlying37 rfl rfl rfl Tryz.underlying35 Tryz.underlying3 cells_codekind cells_int (show DataW.trod enc Tryz.prog W 0 (fun _ => true) true fuel 37 [c0, c1] = some (d, p) from hf)
  exact ⟨a, b, rfl, wa, wb⟩
set_option maxRecDepth 100000 in
theorem open_at {H : Type} {enc : TypeId × Value → H} {W : World} {base : Nat} {v : Value} {d : DataW H} {p : List MemPlace} (hv : Value.okWide Tryz.prog W .any base 56 v)
    (h : ∃ fuel, DataW.trod enc Tryz.prog W 0 (fun _ => true) true fuel 56 v.cells.toList = some (d, p)) :
    ∃ x y : Int, v = .agg #[.int .i64 x, .int .i64 y] ∧ (Lit.int .i64 x).wf = true ∧ (Lit.int .i64 y).wf = true := by
  obtain ⟨cs, rfl, hsz⟩ := okWide_struct Tryz.underlying56 hv
  rw [cells_at] at hsz
  obtain ⟨l⟩ := cs
  obtain ⟨c0, c1, rfl⟩ := list2 l hsz
  obtain ⟨fuel, hf⟩ := h
  obtain ⟨a, b, rfl, rfl, _, wa, wb⟩ := two_of Tryz.underlying56 rfl rfl rfl Tryz.underlying3 Tryz.underlying3 cells_int cells_int (show DataW.trod enc Tryz.prog W 0 (fun _ => true) true fuel 56 [c0, c1] = some (d, p) from hf)
  exact ⟨a, b, rfl, wa, wb⟩

theorem wf_i64 {n : Int} (h : (Lit.int .i64 n).wf = true) : -9223372036854775808 ≤ n ∧ n ≤ 9223372036854775807 := by
  have := bounds_i64 h
  omega

/-- Block g holds all codes. -/
def AllIs (W : World) (g : Nat) : Prop := g < W.heap.size ∧ ∀ j, j < 18 → W.cell? ⟨g, j * 2, none⟩ = some (.int .i64 (allC[j]?.getD (0, 0)).1) ∧ W.cell? ⟨g, j * 2 + 1, none⟩ = some (.int .i64 (allC[j]?.getD (0, 0)).2)
theorem AllIs.below {W W' : World} {g : Nat} (h : AllIs W g) (hb : Below W.heap.size W W') : AllIs W' g :=
  ⟨Nat.lt_of_lt_of_le h.1 hb.size, fun j hj => ⟨nextc (h.2 j hj).1 hb, nextc (h.2 j hj).2 hb⟩⟩
theorem OwnC.all {W : World} {base : Nat} {v : Value} (h : OwnC W base v allC) : ∃ g cap, v = .slice (some ⟨g, 0, none⟩) 18 cap ∧ AllIs W g := by
  rcases h.2 with ⟨_, h0⟩ | ⟨g, cap, cur, rfl, _, hg, hn, _, hsz, ht⟩
  · rw [allC_len] at h0; cases h0
  · rw [allC_len] at hn ht
    refine ⟨g, cap, by rw [allC_len], (Array.getElem?_eq_some_iff.1 hg).1, fun j hj => ?_⟩
    have hj' : j < allC.length := by rw [allC_len]; exact hj
    have e := codeCells_at allC j hj'
    have e0 : allC[j]?.getD (0, 0) = allC[j] := by rw [List.getElem?_eq_getElem hj']; rfl
    rw [e0, cell_of_row W g _ cur _ (0, 0) hg, cell_of_row W g _ cur _ (0, 0) hg]
    rw [← ht, List.getElem?_take_of_lt (by omega), Array.getElem?_toList, Nat.mul_comm 2 j] at e
    rw [List.getElem?_take_of_lt (by omega), Array.getElem?_toList] at e
    exact e
theorem below_undrew {w w' : World} (h : Below w.drew.heap.size w.drew w') : Below w.heap.size w w' := (Below.refl w.heap.size w).drew.trans h

end Go.Proofs.YtggdlklkjnbbjaaGreatDoor
