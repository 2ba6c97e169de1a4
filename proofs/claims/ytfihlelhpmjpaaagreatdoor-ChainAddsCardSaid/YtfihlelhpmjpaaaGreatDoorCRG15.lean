/- chain: the two kinds of steps. -/
import Derived.ArgAppend
import Derived.Test.YtfihlelhpmjpaaaGreatDoorCRG14
namespace Go.Proofs.YtfihlelhpmjpaaaGreatDoor.Ch
open Go.RowKit Go.Shelf Go.Proofs.YtfihlelhpmjpaaaGreatDoor.C Go.Proofs.YtfihlelhpmjpaaaGreatDoor.E
set_option linter.unusedSimpArgs false
set_option linter.unusedVariables false
attribute [local go_sem] Oper.semAt_some

theorem many2 {W : World} {B g : Nat} {t : TypeId} {ua ub : Value} {la lb : List UInt8} (h : Blk W g t #[ua, ub]) (ha : Bytes B W ua la) (hb : Bytes B W ub lb) (hg : g < B) : Many B W (.slice (some ⟨g, 0, none⟩) 2 2) [la, lb] :=
  ⟨_, 2, rfl, Nat.le_refl _, fun _ => ⟨g, 0, rfl, hg, fun j hj => by
    have hj2 : j = 0 ∨ j = 1 := by simp at hj; omega
    rcases hj2 with rfl | rfl
    · exact ⟨ua, h.cell 0, ha⟩
    · exact ⟨ub, h.cell 1, hb⟩⟩⟩
set_option maxRecDepth 100000 in
set_option maxHeartbeats 8000000 in
theorem s1_any {P Q : Nat} (hQ : P = Q + 1) (hp : (P : Int) ∈ prm) (x : Int) (yn zn : Nat) (hx : 0 ≤ x ∧ x < (P : Int)) (hy : yn < Q) (hz : (x + (yn : Int)) % (P : Int) = (zn : Int)) (hzP : zn < P) (g4 g1 g5 gD oD cD : Nat) (Az Aj : Option Addr) (nz cz nj cj : Nat) (la lb : List UInt8) (hok : XorOk [la, lb]) (w : World) (hL : Laid w)
    (h4 : w.cell? ⟨g4, 0, none⟩ = some (.slice (some ⟨gD, oD, none⟩) P cD)) (h1 : w.cell? ⟨g1, 0, none⟩ = some (.int .i64 (P : Int))) (h5 : w.cell? ⟨g5, 0, none⟩ = some (.slice Aj nj cj)) (hD : w.cell? ⟨gD, oD + zn, none⟩ = some (.slice Az nz cz)) (hlt : g4 < w.heap.size ∧ g1 < w.heap.size ∧ g5 < w.heap.size ∧ gD < w.heap.size) (m1 : Bytes w.heap.size w (.slice Az nz cz) la) (m2 : Bytes w.heap.size w (.slice Aj nj cj) lb) :
    Calls Tryz.prog 162 #[.agg #[.int .i64 x, .int .i64 (yn : Int)], .pointer (some ⟨g4, 0, none⟩), .pointer (some ⟨g1, 0, none⟩), .pointer (some ⟨g5, 0, none⟩)] w fun e w' => ∃ u, e = .returned u ∧ Fresh w.heap.size w' u (xorOf [la, lb]) ∧ Below w.heap.size w w' := by
  obtain ⟨w0, hw0⟩ : ∃ x', w.alloc (.cells #[.int .i64 x, .int .i64 (yn : Int)] 55) = x' := ⟨_, rfl⟩
  obtain ⟨gz, hgz⟩ : ∃ x', w.heap.size = x' := ⟨_, rfl⟩
  have bz : Blk w0 gz 55 #[.int .i64 x, .int .i64 (yn : Int)] := by rw [← hw0, ← hgz]; exact Blk.new w _ _
  have hBW : Below w.heap.size w w0 := by rw [← hw0]; exact below_one w _
  have HSS : Hid (∀ V, Below w0.heap.size w0 V → (fun U : World => U.cell? ⟨g4, 0, none⟩ = some (.slice (some ⟨gD, oD, none⟩) P cD) ∧ U.cell? ⟨g1, 0, none⟩ = some (.int .i64 (P : Int)) ∧ U.cell? ⟨g5, 0, none⟩ = some (.slice Aj nj cj) ∧ U.cell? ⟨gz, 0, none⟩ = some (.int .i64 x) ∧ U.cell? ⟨gz, 1, none⟩ = some (.int .i64 (yn : Int)) ∧ U.cell? ⟨gD, oD + zn, none⟩ = some (.slice Az nz cz)) V) := fun V hV => by
    have hV2 := below_in hBW hV
    exact ⟨(hV2.cell (p := ⟨g4, 0, none⟩) hlt.1).trans h4, (hV2.cell (p := ⟨g1, 0, none⟩) hlt.2.1).trans h1, (hV2.cell (p := ⟨g5, 0, none⟩) hlt.2.2.1).trans h5, (bz.below hV bz.lt).cell 0, (bz.below hV bz.lt).cell 1, (hV2.cell (p := ⟨gD, oD + zn, none⟩) hlt.2.2.2).trans hD⟩
  have HDI := Lib.hid (fun (V : World) (hV : Below w.heap.size w V) => (diagonal_any (P : Int) x (yn : Int) hp hx (by omega) V (hL.next hV)).mono fun e w' (h : e = .returned (.int .i64 ((x + (yn : Int)) % (P : Int))) ∧ Below V.heap.size V w') => (⟨by rw [h.1, hz], h.2⟩ : e = .returned (.int .i64 (zn : Int)) ∧ Below V.heap.size V w'))
  have HUP := Lib.hid (fun (g : Nat) (V : World) (hV : Below w.heap.size w V) (bE : Blk V g 57 #[.slice Az nz cz, .slice Aj nj cj]) => upon_any (B := V.heap.size) (.slice (some ⟨g, 0, none⟩) 2 2) [la, lb] V (Nat.le_refl _) (many2 bE ((m1.below hV).more hV.size) ((m2.below hV).more hV.size) bE.lt) (by simp) hok)
  have hBx := (Below.refl w0.heap.size w0).drew
  have i0 : (0 : Int) ≤ (zn : Int) := by omega
  have i2 : (zn : Int) < (P : Int) := by omega
  have HG := Lib.hid hgz
  clear hL h4 h1 h5 hD hlt m1 m2 hok hx hy hz hQ hp bz
  refine (callsIn_wide (n := 9)).1 ?_
  refine callsIn_of_wp_marks Tryz.func162 rfl trivial ?_ rfl
  simp only [Tryz.ntmps162, List.size_toArray, List.length_cons, List.length_nil, Nat.reduceAdd, Nat.reduceSub, Array.replicate_succ, Array.replicate_zero, List.push_toArray, List.append_toArray, List.nil_append, List.cons_append]
  gi_wp2_with fail
  (try rw [hgz]); (try rw [hw0])
  clear hw0 hgz
  have hS : (fun U : World => U.cell? ⟨g4, 0, none⟩ = some (.slice (some ⟨gD, oD, none⟩) P cD) ∧ U.cell? ⟨g1, 0, none⟩ = some (.int .i64 (P : Int)) ∧ U.cell? ⟨g5, 0, none⟩ = some (.slice Aj nj cj) ∧ U.cell? ⟨gz, 0, none⟩ = some (.int .i64 x) ∧ U.cell? ⟨gz, 1, none⟩ = some (.int .i64 (yn : Int)) ∧ U.cell? ⟨gD, oD + zn, none⟩ = some (.slice Az nz cz)) w0.drew := HSS.out _ hBx
  refine wpIn_mono (region_HF (Q := NoPanic _) (S := (fun U : World => U.cell? ⟨g4, 0, none⟩ = some (.slice (some ⟨gD, oD, none⟩) P cD) ∧ U.cell? ⟨g1, 0, none⟩ = some (.int .i64 (P : Int)) ∧ U.cell? ⟨g5, 0, none⟩ = some (.slice Aj nj cj) ∧ U.cell? ⟨gz, 0, none⟩ = some (.int .i64 x) ∧ U.cell? ⟨gz, 1, none⟩ = some (.int .i64 (yn : Int)) ∧ U.cell? ⟨gD, oD + zn, none⟩ = some (.slice Az nz cz))) (by kernel_rfl) ?_) NoPanic.imp
  refine anyHF_take (i := 0) (d := 6) (v := .slice (some ⟨gD, oD, none⟩) P cD) (by kernel_rfl) rfl (by kernel_rfl) (by kernel_rfl) (by kernel_rfl) rfl (fun _ _ _ h => h) ⟨Or.inl ⟨by rfl, fun w hS => by obtain ⟨h0, h1, h2, h3, h4, h5⟩ := hS; go_simp⟩, fun _ => rfl⟩ hS ?_
  simp only [List.setIfInBounds_toArray, List.set_cons_zero, List.set_cons_succ]
  refine anyHF_take (i := 1) (d := 7) (v := .pointer (some ⟨g1, 0, none⟩)) (by kernel_rfl) rfl (by kernel_rfl) (by kernel_rfl) (by kernel_rfl) rfl (fun _ _ _ h => h) ⟨Or.inl ⟨by rfl, fun w hS => by obtain ⟨h0, h1, h2, h3, h4, h5⟩ := hS; go_simp⟩, fun _ => rfl⟩ hS ?_
  simp only [List.setIfInBounds_toArray, List.set_cons_zero, List.set_cons_succ]
  refine anyHF_take (i := 2) (d := 8) (v := .pointer (some ⟨g1, 0, none⟩)) (by kernel_rfl) rfl (by kernel_rfl) (by kernel_rfl) (by kernel_rfl) rfl (fun _ _ _ h => h) ⟨Or.inl ⟨by rfl, fun w hS => by obtain ⟨h0, h1, h2, h3, h4, h5⟩ := hS; go_simp⟩, fun _ => rfl⟩ hS ?_
  simp only [List.setIfInBounds_toArray, List.set_cons_zero, List.set_cons_succ]
  refine anyHF_take (i := 3) (d := 9) (v := .int .i64 (P : Int)) (by kernel_rfl) rfl (by kernel_rfl) (by kernel_rfl) (by kernel_rfl) rfl (fun _ _ _ h => h) ⟨Or.inl ⟨by rfl, fun w hS => by obtain ⟨h0, h1, h2, h3, h4, h5⟩ := hS; go_simp⟩, fun _ => rfl⟩ hS ?_
  simp only [List.setIfInBounds_toArray, List.set_cons_zero, List.set_cons_succ]
  refine anyHF_take (i := 4) (d := 10) (v := .agg #[.int .i64 x, .int .i64 (yn : Int)]) (by kernel_rfl) rfl (by kernel_rfl) (by kernel_rfl) (by kernel_rfl) rfl (fun _ _ _ h => h) ⟨Or.inl ⟨by rfl, fun w hS => by obtain ⟨h0, h1, h2, h3, h4, h5⟩ := hS; go_simp⟩, fun _ => rfl⟩ hS ?_
  simp only [List.setIfInBounds_toArray, List.set_cons_zero, List.set_cons_succ]
  refine anyHF_take (i := 8) (d := 14) (v := .slice Aj nj cj) (by kernel_rfl) rfl (by kernel_rfl) (by kernel_rfl) (by kernel_rfl) rfl (fun _ _ _ h => h) ⟨Or.inl ⟨by rfl, fun w hS => by obtain ⟨h0, h1, h2, h3, h4, h5⟩ := hS; go_simp⟩, fun _ => rfl⟩ hS ?_
  simp only [List.setIfInBounds_toArray, List.set_cons_zero, List.set_cons_succ]
  refine anyHF_one (i := 5) (by kernel_rfl) rfl (by kernel_rfl) (by rfl) ?_
  gi_wp2_with fail
  refine ⟨trivial, (callsIn_wide.2 (HDI.out _ (below_in hBW hBx))).mono ?_⟩
  rintro e v1 ⟨rfl, hB⟩
  replace hBx := below_in hBx hB
  clear hS
  have hS : (fun U : World => U.cell? ⟨g4, 0, none⟩ = some (.slice (some ⟨gD, oD, none⟩) P cD) ∧ U.cell? ⟨g1, 0, none⟩ = some (.int .i64 (P : Int)) ∧ U.cell? ⟨g5, 0, none⟩ = some (.slice Aj nj cj) ∧ U.cell? ⟨gz, 0, none⟩ = some (.int .i64 x) ∧ U.cell? ⟨gz, 1, none⟩ = some (.int .i64 (yn : Int)) ∧ U.cell? ⟨gD, oD + zn, none⟩ = some (.slice Az nz cz)) v1 := HSS.out _ hBx
  clear hB
  gi_wp2
  try (refine ⟨hS, ?_⟩)
  refine anyHF_take (i := 6) (d := 12) (v := .pointer (some ⟨gD, oD + zn, none⟩)) (by kernel_rfl) rfl (by kernel_rfl) (by kernel_rfl) (by kernel_rfl) rfl (fun _ _ _ h => h) ⟨Or.inl ⟨by rfl, fun w hS => by obtain ⟨h0, h1, h2, h3, h4, h5⟩ := hS; go_simp⟩, fun _ => rfl⟩ hS ?_
  simp only [List.setIfInBounds_toArray, List.set_cons_zero, List.set_cons_succ]
  refine anyHF_take (i := 7) (d := 13) (v := .slice Az nz cz) (by kernel_rfl) rfl (by kernel_rfl) (by kernel_rfl) (by kernel_rfl) rfl (fun _ _ _ h => h) ⟨Or.inl ⟨by rfl, fun w hS => by obtain ⟨h0, h1, h2, h3, h4, h5⟩ := hS; go_simp⟩, fun _ => rfl⟩ hS ?_
  simp only [List.setIfInBounds_toArray, List.set_cons_zero, List.set_cons_succ]
  refine anyHF_one (i := 9) (by kernel_rfl) rfl (by kernel_rfl) (by rfl) ?_
  have hgl_g3 := hBx.size
  have hB : Below v1.heap.size v1 (v1.alloc (.cells #[.slice Az nz cz, .slice Aj nj cj] 57)) := below_one v1 _
  have bE : Blk (v1.alloc (.cells #[.slice Az nz cz, .slice Aj nj cj] 57)) v1.heap.size 57 #[.slice Az nz cz, .slice Aj nj cj] := Blk.new v1 _ _
  obtain ⟨v2, he_v2⟩ : ∃ x, (v1.alloc (.cells #[.slice Az nz cz, .slice Aj nj cj] 57)) = x := ⟨_, rfl⟩
  obtain ⟨g3, hg_g3⟩ : ∃ x, v1.heap.size = x := ⟨_, rfl⟩
  rw [he_v2] at hB bE
  rw [hg_g3] at bE
  replace hBx := below_in hBx hB
  clear hS
  have hS : (fun U : World => U.cell? ⟨g4, 0, none⟩ = some (.slice (some ⟨gD, oD, none⟩) P cD) ∧ U.cell? ⟨g1, 0, none⟩ = some (.int .i64 (P : Int)) ∧ U.cell? ⟨g5, 0, none⟩ = some (.slice Aj nj cj) ∧ U.cell? ⟨gz, 0, none⟩ = some (.int .i64 x) ∧ U.cell? ⟨gz, 1, none⟩ = some (.int .i64 (yn : Int)) ∧ U.cell? ⟨gD, oD + zn, none⟩ = some (.slice Az nz cz)) v2 := HSS.out _ hBx
  gi_wp2
  (try rw [hg_g3]); (try rw [he_v2])
  try (refine ⟨hS, ?_⟩)
  clear hB he_v2 hg_g3
  refine anyHF_one (i := 10) (by kernel_rfl) rfl (by kernel_rfl) (by rfl) ?_
  gi_wp2_with fail
  refine ⟨trivial, (callsIn_wide.2 (HUP.out g3 _ (below_in hBW hBx) bE)).mono ?_⟩
  rintro e v4 ⟨uu, rfl, hFu, hB⟩
  have hge := (below_in hBW hBx).size
  replace bE := bE.below hB bE.lt
  replace hBx := below_in hBx hB
  clear hS
  have hS : (fun U : World => U.cell? ⟨g4, 0, none⟩ = some (.slice (some ⟨gD, oD, none⟩) P cD) ∧ U.cell? ⟨g1, 0, none⟩ = some (.int .i64 (P : Int)) ∧ U.cell? ⟨g5, 0, none⟩ = some (.slice Aj nj cj) ∧ U.cell? ⟨gz, 0, none⟩ = some (.int .i64 x) ∧ U.cell? ⟨gz, 1, none⟩ = some (.int .i64 (yn : Int)) ∧ U.cell? ⟨gD, oD + zn, none⟩ = some (.slice Az nz cz)) v4 := HSS.out _ hBx
  clear hB
  gi_wp2
  try (refine ⟨hS, ?_⟩)
  refine anyHF_one (i := 11) (by kernel_rfl) rfl (by kernel_rfl) (by rfl) ?_
  gi_wp2
  refine anyHF_done (by kernel_rfl) ?_ _
  refine NoPanic.normal ?_
  clear hS
  gi_wp2_with fail
  exact ⟨uu, by simp [results, Tryz.results162, go_sem], uu, rfl, hFu.less hge, below_in hBW hBx⟩
set_option maxHeartbeats 2000000 in
theorem s2_any {Q : Nat} (x : Int) (yn : Nat) (hy : yn < Q) (g3 gR oR cR : Nat) (Az : Option Addr) (nz cz : Nat) (w : World) (h3 : w.cell? ⟨g3, 0, none⟩ = some (.slice (some ⟨gR, oR, none⟩) Q cR)) (hR : w.cell? ⟨gR, oR + yn, none⟩ = some (.slice Az nz cz)) (hlt : g3 < w.heap.size ∧ gR < w.heap.size) :
    Calls Tryz.prog 164 #[.agg #[.int .i64 x, .int .i64 (yn : Int)], .pointer (some ⟨g3, 0, none⟩)] w fun e w' => e = .returned (.slice Az nz cz) ∧ Below w.heap.size w w' := by
  have bz := Blk.new w 55 #[.int .i64 x, .int .i64 (yn : Int)]
  have hBW := below_one w (.cells #[.int .i64 x, .int .i64 (yn : Int)] 55)
  have c1 := (hBW.cell (p := ⟨g3, 0, none⟩) hlt.1).trans h3
  have c2 := (hBW.cell (p := ⟨gR, oR + yn, none⟩) hlt.2).trans hR
  have c3 := bz.cell 0
  have c4 := bz.cell 1
  have i0 : (0 : Int) ≤ (yn : Int) := by omega
  have i2 : (yn : Int) < (Q : Int) := by omega
  clear h3 hR hlt hy
  go_enter Tryz.func164, Tryz.ntmps164
  go_wp2_with fail
  go_ret
  exact ⟨rfl, hBW⟩
/-- What is told of the diagonals, with that of none behind, and the adjuster. -/
def adjF (R D : List (List UInt8)) : List UInt8 := xorOf (R ++ D)
/-- The two functions that tell the sums. -/
def SumsT (P Q n : Nat) (R D : List (List UInt8)) (f1 f2 : Value) (S0 : World → Prop) : Prop :=
  ∃ gt4 gt1 gt5 gt3 : Nat, f1 = .func (.func 162) #[] #[.pointer (some ⟨gt4, 0, none⟩), .pointer (some ⟨gt1, 0, none⟩), .pointer (some ⟨gt5, 0, none⟩)] ∧ f2 = .func (.func 164) #[] #[.pointer (some ⟨gt3, 0, none⟩)] ∧
    ∀ V, S0 V → ∀ (x : Int) (yn : Nat), 0 ≤ x ∧ x < (P : Int) → yn < Q →
      (Calls Tryz.prog 162 #[.agg #[.int .i64 x, .int .i64 (yn : Int)], .pointer (some ⟨gt4, 0, none⟩), .pointer (some ⟨gt1, 0, none⟩), .pointer (some ⟨gt5, 0, none⟩)] V fun e w' => ∃ u, e = .returned u ∧ Bytes w'.heap.size w' u (xorOf [Rg.wholeF Q n D ((x + (yn : Int)) % (P : Int)).toNat, adjF R D]) ∧ Below V.heap.size V w') ∧
      (Calls Tryz.prog 164 #[.agg #[.int .i64 x, .int .i64 (yn : Int)], .pointer (some ⟨gt3, 0, none⟩)] V fun e w' => ∃ u, e = .returned u ∧ Bytes w'.heap.size w' u (R[yn]?.getD []) ∧ Below V.heap.size V w')
def rsF (P Q : Nat) (css : List (List (List UInt8))) : List (List UInt8) := Rg.sumC Q [css[P]?.getD [], rowsMade Q (css.take P)]
def dsF (P Q : Nat) (css : List (List (List UInt8))) : List (List UInt8) := Rg.sumC Q [css[P + 1]?.getD [], diagsMade (P : Int) Q (css.take P)]
theorem take_ok {P Q n N : Nat} (d : Rg.Dims P Q n) {css : List (List (List UInt8))} (hN : N = P + 2) (hcl : css.length = N) (hg : ∀ c, c < N → GoodC Q n (css[c]?.getD [])) : DataOk (P : Int) (css.take P) ∧ (firstC (css.take P)).length = n := by
  have hQ := d.hQ
  have hpb := prm_bounds d.hp
  have hdl : (css.take P).length = P := by rw [List.length_take]; omega
  have hget : ∀ c, c < P → (css.take P)[c]?.getD [] = css[c]?.getD [] := fun c hc => by rw [List.getElem?_take, if_pos hc]
  have hgd : ∀ c, c < (css.take P).length → GoodC Q n ((css.take P)[c]?.getD []) := fun c hc => by rw [hget c (by omega)]; exact hg c (by omega)
  obtain ⟨hRD, hfn⟩ := Rg.right_of_good d.hQ d.hp (by omega) hgd
  exact ⟨⟨rightC1 d.hp, by rw [hdl], hRD.2⟩, hfn⟩
theorem rd_good {P Q n N : Nat} (d : Rg.Dims P Q n) {css : List (List (List UInt8))} (hN : N = P + 2) (hcl : css.length = N) (hg : ∀ c, c < N → GoodC Q n (css[c]?.getD [])) : GoodC Q n (rsF P Q css) ∧ GoodC Q n (dsF P Q css) :=
  have h := take_ok d hN hcl hg
  ⟨sum2_good d (hg P (by omega)) (rowsMade_good d h.1 h.2), sum2_good d (hg (P + 1) (by omega)) (diagsMade_good d h.1 h.2)⟩
set_option maxRecDepth 10000 in
theorem wpList_append1 (w : World) {ops : Array Oper} {rest : List Oper} {o : Oper} {a : Act} {Q : Exit → Act → World → Prop} (hgd : o.guard = none) (s x : Operand)
    (ho : o.op = .call { callee := .builtin .append, args := #[s, x], argTypes := #[37, 37] })
    (b off n : Nat) (us : List Value) (hul : us.length = n) (hn : n ≤ 1000) (hs : a.eval s = .slice (some ⟨b, off, none⟩) n n) (hcell : ∀ (j : Nat) (u : Value), us[j]? = some u → w.cell? ⟨b, off + j, none⟩ = some u) (g : Nat) (nv : Value) (hx : a.eval x = .slice (some ⟨g, 0, none⟩) 1 1) (hg : w.cell? ⟨g, 0, none⟩ = some nv) (h1 : nv.oneCell' = true)
    (h : ∀ v' w', OwnS w' w.heap.size v' (us ++ [nv]) → w.grownBy w' none → wpList Tryz.prog ops Q rest (a.put o.dst v') w') : wpList Tryz.prog ops Q (o :: rest) a w := by
  obtain ⟨i, hi, hz0, hz1, hz2⟩ := info_parts Tryz.infoSlcE
  refine wpList_append_grows (P := Tryz.prog) w hgd s x 37 ho 57 i (.slice none 0 0) 1 24 Tryz.underlying37 hi hz0 hz1 hz2 rfl (by omega) (some ⟨b, off, none⟩) n n us hs (by intro h; cases h) (by omega) (by intro b' hb j u hu; injection hb with hb; subst hb; rw [addr_add]; exact hcell j u hu) ⟨g, 0, none⟩ 1 1 [nv] hx rfl (by
    intro j u hu
    cases j with
    | zero => rw [addr_add]; simp at hu; subst hu; exact hg
    | succ j => simp at hu) (by intro u hu; simp at hu; subst hu; exact h1) (by omega) (by unfold maxLen; omega) (by omega) ?_
  intro v' w' r1 r2
  exact h v' w' (by unfold OwnS; rw [List.length_append, hul]; exact r1) r2
/-- Blocks in which nothing is laid yet. -/
def Bare (N : Nat → Prop) (W : World) : Prop := ∀ b, N b → ∀ o u, W.cell? ⟨b, o, none⟩ = some u → u = .nilFunc ∨ u = .slice none 0 0
theorem bytes_moved {B B' : Nat} {N : Nat → Prop} {W W' : World} {v : Value} {l : List UInt8} (h : Bytes B W v l) (hb : Bare N W) (hk : ∀ b o, b < B → ¬ N b → W'.cell? ⟨b, o, none⟩ = W.cell? ⟨b, o, none⟩) (hBB : B ≤ B') : Bytes B' W' v l := by
  obtain ⟨A, cap, e, hc, hA⟩ := h
  refine ⟨A, cap, e, hc, fun hp => ?_⟩
  obtain ⟨b, off, e2, hb1, hcell⟩ := hA hp
  have hne : ¬ N b := fun e3 => by
    rcases hb b e3 _ _ (hcell 0 hp) with h | h <;> cases h
  exact ⟨b, off, e2, by omega, fun j hj => (hk b _ hb1 hne).trans (hcell j hj)⟩
theorem bare_two {W : World} {g : Nat} {t : TypeId} (hb : Blk W g t #[.nilFunc, .nilFunc]) (o : Nat) (u : Value) (h : W.cell? ⟨g, o, none⟩ = some u) : u = .nilFunc ∨ u = .slice none 0 0 := by
  rw [hb.cell o] at h
  rcases o with _ | _ | o
  · simp at h; exact .inl h.symm
  · simp at h; exact .inl h.symm
  · simp at h
theorem bare_three {W : World} {g : Nat} {t : TypeId} (hb : Blk W g t #[.nilFunc, .nilFunc, .slice none 0 0]) (o : Nat) (u : Value) (h : W.cell? ⟨g, o, none⟩ = some u) : u = .nilFunc ∨ u = .slice none 0 0 := by
  rw [hb.cell o] at h
  rcases o with _ | _ | _ | o
  · simp at h; exact .inl h.symm
  · simp at h; exact .inl h.symm
  · simp at h; exact .inr h.symm
  · simp at h
theorem xor_two {n : Nat} {la lb : List UInt8} (h1 : 1 ≤ n) (h64 : n ≤ 64) (ha : la.length = n) (hb : lb.length = n) : XorOk [la, lb] := by
  refine ⟨by simp, ⟨?_, ?_⟩, fun j hj => ?_⟩
  · show 1 ≤ la.length; omega
  · show la.length ≤ 64; omega
  · have hj2 : j = 0 ∨ j = 1 := by simp at hj; omega
    rcases hj2 with rfl | rfl
    · rfl
    · show lb.length = la.length; omega
theorem whole_len {Q n : Nat} {D : List (List UInt8)} (hD : GoodC Q n D) (z : Nat) : (Rg.wholeF Q n D z).length = n := by
  unfold Rg.wholeF
  split
  · exact (hD.2 z (by assumption)).2
  · simp
theorem xor_rd {Q n : Nat} {R D : List (List UInt8)} (q0 : 0 < Q) (h1 : 1 ≤ n) (h64 : n ≤ 64) (hR : GoodC Q n R) (hD : GoodC Q n D) : XorOk (R ++ D) := by
  have h0 : (R ++ D)[0]?.getD [] = R[0]?.getD [] := by rw [List.getElem?_append_left (by rw [hR.1]; exact q0)]
  refine ⟨by rw [List.length_append, hR.1]; omega, by rw [h0]; exact (hR.2 0 q0).1, fun j hj => ?_⟩
  rw [h0, (hR.2 0 q0).2]
  rw [List.length_append, hR.1, hD.1] at hj
  rcases Nat.lt_or_ge j Q with h | h
  · rw [List.getElem?_append_left (by rw [hR.1]; exact h)]
    exact (hR.2 j h).2
  · rw [List.getElem?_append_right (by rw [hR.1]; exact h), hR.1]
    exact (hD.2 (j - Q) (by omega)).2
theorem many_form {B Q : Nat} {W : World} {A : Option Addr} {cap : Nat} {c : List (List UInt8)} (h : Many B W (.slice A Q cap) c) (h0 : 0 < Q) (hc : c.length = Q) : ∃ b o us, A = some ⟨b, o, none⟩ ∧ Q ≤ cap ∧ b < B ∧ us.length = Q ∧ (∀ (j : Nat) (u : Value), us[j]? = some u → W.cell? ⟨b, o + j, none⟩ = some u ∧ Bytes B W u (c[j]?.getD [])) ∧ Vals B W (.slice A Q cap) us ∧ (∀ u ∈ us, u.oneCell' = true) := by
  obtain ⟨us, hV⟩ := Go.Proofs.YtfihlelhpmjpaaaGreatDoor.E.Many.vals h (by omega)
  have h1 := hV.1
  obtain ⟨b, o, cp, e, hcap, hb, hcell⟩ : ∃ b off cap', Value.slice A Q cap = .slice (some ⟨b, off, none⟩) us.length cap' ∧ us.length ≤ cap' ∧ b < B ∧ ∀ (j : Nat) (u : Value), us[j]? = some u → W.cell? ⟨b, off + j, none⟩ = some u := by
    rcases hV.2.1 with ⟨e, e2⟩ | h
    · rw [e2] at h1
      simp at h1
      omega
    · exact h
  injection e with e1 e2 e3
  exact ⟨b, o, us, e1, by omega, hb, by omega, fun j u hu => ⟨hcell j u hu, hV.2.2 j u hu⟩, hV.2.1, hV.one⟩
set_option maxRecDepth 100000 in
set_option maxHeartbeats 8000000 in
theorem sums_any {B P Q n : Nat} (d : Rg.Dims P Q n) (lA : Option Addr) (ln lc : Nat) (gc co N cc : Nat) (nA : Option Addr) (nc : Nat) (css : List (List (List UInt8))) (hN : N = P + 2) (hcl : css.length = N) (hg : ∀ c, c < N → GoodC Q n (css[c]?.getD [])) (w : World) (hL : Laid w) (hB : B ≤ w.heap.size) (hC : Cols B w (.slice (some ⟨gc, co, none⟩) N cc) css) (hno : Bytes B w (.slice nA n nc) (List.replicate n 0)) (E : Nat → Prop) (hE : ∀ b, E b → ∃ t, Blk w b t #[.nilFunc, .nilFunc, .slice none 0 0]) :
    Calls Tryz.prog 102 #[.agg #[.int .i64 (P : Int), .slice lA ln lc, .slice (some ⟨gc, co, none⟩) N cc, .slice nA n nc]] w fun e w' => ∃ f1 f2, e = .returned (.agg #[f1, f2]) ∧ SumsT P Q n (rsF P Q css) (dsF P Q css) f1 f2 (fun V => Laid V ∧ w'.heap.size ≤ V.heap.size ∧ ∀ b, b < w'.heap.size → ¬ E b → V.heap[b]? = w'.heap[b]?) ∧ Below w.heap.size w w' := by
  have hQ := d.hQ
  have hpb := prm_bounds d.hp
  have hp := d.hp
  have hn1 := d.h1
  have hn64 := d.h64
  have HOL := Lib.hid (fun (V : World) (hV : Below w.heap.size w V) => ofLost_any d lA ln lc gc co N cc nA nc css hN hcl hg V (hL.next hV) (Nat.le_trans hB hV.size) (hC.below (hV.mono hB)))
  have HRG := Lib.hid (rd_good d hN hcl hg)
  have HNO := Lib.hid hno
  have HEE := Lib.hid hE
  change Hid (GoodC Q n (rsF P Q css) ∧ GoodC Q n (dsF P Q css)) at HRG
  have HOL2 : Hid (∀ V, Below w.heap.size w V → Calls Tryz.prog 109 #[.agg #[.int .i64 (P : Int), .slice lA ln lc, .slice (some ⟨gc, co, none⟩) N cc, .slice nA n nc]] V fun e w' => ∃ A1 A2, e = .returned (.tuple #[.slice A1 Q Q, .slice A2 Q Q]) ∧ Many w'.heap.size w' (.slice A1 Q Q) (rsF P Q css) ∧ Many w'.heap.size w' (.slice A2 Q Q) (dsF P Q css) ∧ Below V.heap.size V w') := HOL
  clear HOL hC hg hcl hN hno hL hE
  generalize rsF P Q css = R at *
  generalize dsF P Q css = D at *
  obtain ⟨w0, hw0⟩ : ∃ x, (w.alloc (.cells #[.int .i64 (P : Int), .slice lA ln lc, .slice (some ⟨gc, co, none⟩) N cc, .slice nA n nc] 72)).alloc (.cells #[.nilFunc, .nilFunc] 117) = x := ⟨_, rfl⟩
  obtain ⟨g0, hg0⟩ : ∃ x, w.heap.size = x := ⟨_, rfl⟩
  obtain ⟨g1, hg1⟩ : ∃ x, g0 + 1 = x := ⟨_, rfl⟩
  have b0 : Blk w0 g0 72 #[.int .i64 (P : Int), .slice lA ln lc, .slice (some ⟨gc, co, none⟩) N cc, .slice nA n nc] := by rw [← hw0, ← hg0]; exact (Blk.new w _ _).alloc _
  have b1 : Blk w0 g1 117 #[.nilFunc, .nilFunc] := by rw [← hw0, ← hg1, ← hg0]; exact Blk.second w _ _ _
  have hB0 : Below w.heap.size w w0 := by rw [← hw0]; exact below_two w _ _
  have HG := Lib.hid (And.intro hg0 hg1)
  have hB0s := HOL2.out w0 hB0
  clear hg0 hg1
  have HQ := Lib.hid hQ
  have HW0 := Lib.hid hw0
  clear hw0
  clear hQ
  go_enter Tryz.func102, Tryz.ntmps102
  go_wp2_with (go_at_call 109; rw [HW0.out]; rw [HG.out.1]; rw [HG.out.2]; refine hB0s.mono ?_; rintro e w1 ⟨A1, A2, rfl, M1, M2, hB1⟩)
  have l10 : g1 < w1.heap.size := Nat.lt_of_lt_of_le b1.lt hB1.size
  have hR := HRG.out.1
  have hD := HRG.out.2
  have hQ := HQ.out
  have q0 : 0 < Q := by omega
  obtain ⟨bR, oR, us1, rfl, _, hbR, hu1, hc1, hv1, ho1⟩ := many_form M1 q0 hR.1
  obtain ⟨bD, oD, us2, rfl, _, hbD, hu2, hc2, hv2, ho2⟩ := many_form M2 q0 hD.1
  obtain ⟨w2, hw2⟩ : ∃ x, ((w1.alloc (.cells #[.slice (some ⟨bR, oR, none⟩) Q Q] 37)).alloc (.cells #[.slice (some ⟨bD, oD, none⟩) Q Q] 37)).alloc (.cells #[.slice (some ⟨bR, oR, none⟩) Q Q, .slice (some ⟨bD, oD, none⟩) Q Q] 37) = x := ⟨_, rfl⟩
  obtain ⟨g3, hg3⟩ : ∃ x, w1.heap.size = x := ⟨_, rfl⟩
  obtain ⟨g4, hg4⟩ : ∃ x, g3 + 1 = x := ⟨_, rfl⟩
  obtain ⟨gB, hgB⟩ : ∃ x, g4 + 1 = x := ⟨_, rfl⟩
  have b3 : Blk w2 g3 37 #[.slice (some ⟨bR, oR, none⟩) Q Q] := by rw [← hw2, ← hg3]; exact ((Blk.new w1 _ _).alloc _).alloc _
  have b4 : Blk w2 g4 37 #[.slice (some ⟨bD, oD, none⟩) Q Q] := by rw [← hw2, ← hg4, ← hg3]; exact (Blk.second w1 _ _ _).alloc _
  have bB : Blk w2 gB 37 #[.slice (some ⟨bR, oR, none⟩) Q Q, .slice (some ⟨bD, oD, none⟩) Q Q] := by rw [← hw2, ← hgB, ← hg4, ← hg3]; exact Rg.Blk.at_ (Blk.new _ _ _) (by simp)
  have hB2 : Below w1.heap.size w1 w2 := by rw [← hw2]; exact (below_two w1 _ _).alloc (by simp; omega) _
  have hB2o := hB2
  rw [hw2, hg3, hg4, hgB]
  have m1n : Blk w1 g1 117 #[.nilFunc, .nilFunc] := b1.below hB1 b1.lt
  have w1g : w.heap.size ≤ w1.heap.size := (below_in hB0 hB1).size
  rw [hg3] at hB2 hbR hbD hv1 hv2 hc1 hc2 l10 w1g
  have hBt := below_in hB0 hB1
  have hz2 : g3 ≤ w2.heap.size := Nat.le_of_lt b3.lt
  have HCO := concatK_any gB 0 2 [us1, us2] (by simp) (by simp; omega) (fun us hus => by
    rcases List.mem_cons.1 hus with rfl | hus
    · exact ho1
    · rcases List.mem_cons.1 hus with rfl | hus
      · exact ho2
      · cases hus) w2 (B := g3) hz2 bB.lt (fun j hj => by
    have hj2 : j = 0 ∨ j = 1 := by simp at hj; omega
    rcases hj2 with rfl | rfl
    · exact ⟨_, bB.cell 0, hv1.below hB2⟩
    · exact ⟨_, bB.cell 1, hv2.below hB2⟩)
  refine HCO.mono ?_
  rintro e w3 ⟨v3, rfl, ho3, hB3⟩
  clear HCO
  have ho3 : OwnS w3 w2.heap.size v3 (us1 ++ us2) := by simpa using ho3
  have hB13 : Below g3 w1 w3 := hB2.trans (hB3.mono hz2)
  have M3 : Many w3.heap.size w3 v3 (R ++ D) := OwnS.many (B := g3) ho3 (by rw [List.length_append, List.length_append, hu1, hu2, hR.1, hD.1]) (by rw [List.length_append]; omega) (fun j u hu => by
    rcases Nat.lt_or_ge j us1.length with hj | hj
    · rw [List.getElem?_append_left hj] at hu
      rw [List.getElem?_append_left (by rw [hR.1, ← hu1]; exact hj)]
      exact (hc1 j u hu).2.below hB13
    · rw [List.getElem?_append_right hj] at hu
      rw [List.getElem?_append_right (by rw [hR.1, ← hu1]; exact hj), hR.1, ← hu1]
      exact (hc2 _ u hu).2.below hB13) (Nat.le_trans hz2 hB3.size)
  have hok := xor_rd q0 hn1 hn64 hR hD
  have HUP := upon_any (B := w3.heap.size) v3 (R ++ D) w3 (Nat.le_refl _) M3 (by rw [List.length_append, hR.1, hD.1]; omega) hok
  clear hQ
  go_wp2_with fail
  refine HUP.mono ?_
  rintro e w4 ⟨uj, rfl, hF, hB4⟩
  clear HUP M3 ho3
  have hjl : (xorOf (R ++ D)).length = n := by
    rw [xorOf_len, List.getElem?_append_left (by rw [hR.1]; exact q0)]
    exact (hR.2 0 q0).2
  obtain ⟨aj, cj, rfl, _⟩ := id hF
  rw [hjl] at hF ⊢
  have hB24 := below_in hB3 hB4
  have hs23 := hB3.size
  have l42 := b4.lt
  have hB04 := below_in (below_in hB1 hB2o) hB24
  have e0 := b0.below hB04 b0.lt
  have e1 := b1.below hB04 b1.lt
  have e3 := b3.below hB24 b3.lt
  have e4 := b4.below hB24 b4.lt
  have hB14 : Below g3 w1 w4 := hB13.trans (hB4.mono (Nat.le_trans hz2 hB3.size))
  have hBw4 := below_in hB0 hB04
  have c4 := e4.cell 0
  have c3 := e0.cell 3
  have l0 := e0.lt
  have l4 := e4.lt
  have hcD : ∀ (j : Nat) (u : Value), us2[j]? = some u → w4.cell? ⟨bD, oD + j, none⟩ = some u := fun j u hu => (hB14.cell (p := ⟨bD, oD + j, none⟩) hbD).trans (hc2 j u hu).1
  have HCD := Lib.hid hcD
  have HU2 := Lib.hid hu2
  have lD : bD < w4.heap.size := Nat.lt_of_lt_of_le hbD (Nat.le_trans hz2 hB24.size)
  have hQ17 : Hid (Q ≤ 1000) := by unfold Hid; have := HQ.out; omega
  clear b0 b1 b3 b4 bB hB3 hB4 hB2 hB13 hu2 hcD
  go_wp2_with (at_builtin; refine wpList_append1 _ rfl _ _ rfl bD oD Q us2 HU2.out hQ17.out rfl (fun j u hu => ?_) (w4.heap.size + 1) (.slice nA n nc) rfl ?_ rfl ?_)
  · exact ((below_two w4 _ _).cell (p := ⟨bD, oD + j, none⟩) lD).trans (HCD.out j u hu)
  · exact (Blk.second w4 _ _ _).cell 0
  intro v5 w5 ho5 hgr5
  obtain ⟨wz, hwz⟩ : ∃ x, (w4.alloc (.cells #[.slice aj n cj] 57)).alloc (.cells #[.slice nA n nc] 57) = x := ⟨_, rfl⟩
  obtain ⟨g5, hg5⟩ : ∃ x, w4.heap.size = x := ⟨_, rfl⟩
  have bz5 : Blk wz g5 57 #[.slice aj n cj] := by rw [← hwz, ← hg5]; exact (Blk.new w4 _ _).alloc _
  have hBz : Below w4.heap.size w4 wz := by rw [← hwz]; exact below_two w4 _ _
  have hsz : wz.heap.size = w4.heap.size + 2 := by rw [← hwz]; simp
  rw [hwz] at hgr5
  rw [hg5]
  have hB5 : Below wz.heap.size wz w5 := below_grown (Below.refl _ _) hgr5 (Nat.le_refl _) (fun k e => by cases e)
  have hB45 := below_in hBz hB5
  have x0 := e0.below hB45 e0.lt
  have x1 := e1.below hB45 e1.lt
  have x3 := e3.below hB45 e3.lt
  have x4 := e4.below hB45 e4.lt
  have x5 := bz5.below hB5 bz5.lt
  have hge5 : w4.heap.size ≤ wz.heap.size := hBz.size
  have s4 := x4.lt
  have s1 := x1.lt
  have cg4 := x4.one
  have cg1 : w5.cell? ⟨g1, 0, none⟩ = some .nilFunc := x1.cell 0
  have cg1b : w5.cell? ⟨g1, 1, none⟩ = some .nilFunc := x1.cell 1
  have n41 : ¬ g4 = g1 := by omega
  have f4 := x4.frozen 0
  have f1 := x1.frozen 0
  have f1b := x1.frozen 1
  clear e0 e1 e3 e4 bz5 hwz
  have HO5 := Lib.hid ho5
  obtain ⟨v5A, v5n, v5c, rfl⟩ : ∃ A n' c', v5 = .slice A n' c' := by
    obtain ⟨g, cap, e, _⟩ := World.ownsRow.form ho5 (by rw [List.length_append]; simp)
    exact ⟨_, _, _, e⟩
  clear ho5 hsz hge5
  go_wp2_with fail
  obtain ⟨F1, hF1⟩ : ∃ x, Value.func (.func 162) #[] #[.pointer (some ⟨g4, 0, none⟩), .pointer (some ⟨g0, 0, none⟩), .pointer (some ⟨g5, 0, none⟩)] = x := ⟨_, rfl⟩
  obtain ⟨F2, hF2⟩ : ∃ x, Value.func (.func 164) #[] #[.pointer (some ⟨g3, 0, none⟩)] = x := ⟨_, rfl⟩
  rw [hF1, hF2]
  have y1 : Blk (((w5.setCell ⟨g4, 0, none⟩ (.slice v5A v5n v5c)).setCell ⟨g1, 0, none⟩ F1).setCell ⟨g1, 1, none⟩ F2) g1 117 #[F1, F2] := ((x1.far (by show g1 ≠ g4; omega) _).set_ 0 _).set_ 1 _
  have y4 : Blk (((w5.setCell ⟨g4, 0, none⟩ (.slice v5A v5n v5c)).setCell ⟨g1, 0, none⟩ F1).setCell ⟨g1, 1, none⟩ F2) g4 37 #[.slice v5A v5n v5c] := ((x4.set_ 0 _).far (by show g4 ≠ g1; omega) _).far (by show g4 ≠ g1; omega) _
  have hkw : ∀ p : Addr, p.block ≠ g4 → p.block ≠ g1 → (((w5.setCell ⟨g4, 0, none⟩ (.slice v5A v5n v5c)).setCell ⟨g1, 0, none⟩ F1).setCell ⟨g1, 1, none⟩ F2).cell? p = w5.cell? p := fun p h4 h1 =>
    ((World.cell?_of_block (Below.heap_setCell _ ⟨g1, 1, none⟩ F2 p.block h1)).trans (World.cell?_of_block (Below.heap_setCell _ ⟨g1, 0, none⟩ F1 p.block h1))).trans (World.cell?_of_block (Below.heap_setCell w5 ⟨g4, 0, none⟩ _ p.block h4))
  have hBF : Below w.heap.size w (((w5.setCell ⟨g4, 0, none⟩ (.slice v5A v5n v5c)).setCell ⟨g1, 0, none⟩ F1).setCell ⟨g1, 1, none⟩ F2) := (((below_in hBw4 hB45).setCell (by show w.heap.size ≤ g4; omega) _).setCell (by show w.heap.size ≤ g1; have := HG.out; omega) _).setCell (by show w.heap.size ≤ g1; have := HG.out; omega) _
  obtain ⟨wF, hwF⟩ : ∃ x, ((w5.setCell ⟨g4, 0, none⟩ (.slice v5A v5n v5c)).setCell ⟨g1, 0, none⟩ F1).setCell ⟨g1, 1, none⟩ F2 = x := ⟨_, rfl⟩
  have hsF : wF.heap.size = w5.heap.size := by rw [← hwF]; simp
  rw [hwF] at y1 y4 hkw hBF ⊢
  clear hwF
  have r0 := y1.cell 0
  have r1 := y1.cell 1
  refine ⟨rfl, .agg #[F1, F2], by simp [results, Tryz.results102, go_sem, r0, r1], F1, F2, rfl, ⟨g4, g0, g5, g3, hF1.symm, hF2.symm, ?_⟩, hBF⟩
  have hgg := HG.out
  have z5 := hB45.size
  have z4 : g3 ≤ w4.heap.size := Nat.le_trans hz2 hB24.size
  have y0a : wF.cell? ⟨g0, 0, none⟩ = some (.int .i64 (P : Int)) := (hkw ⟨g0, 0, none⟩ (by show g0 ≠ g4; omega) (by show g0 ≠ g1; omega)).trans (x0.cell 0)
  have y5a : wF.cell? ⟨g5, 0, none⟩ = some (.slice aj n cj) := (hkw ⟨g5, 0, none⟩ (by show g5 ≠ g4; omega) (by show g5 ≠ g1; omega)).trans (x5.cell 0)
  have y3a : wF.cell? ⟨g3, 0, none⟩ = some (.slice (some ⟨bR, oR, none⟩) Q Q) := (hkw ⟨g3, 0, none⟩ (by show g3 ≠ g4; omega) (by show g3 ≠ g1; omega)).trans (x3.cell 0)
  have y4a : wF.cell? ⟨g4, 0, none⟩ = some (.slice v5A v5n v5c) := y4.cell 0
  have w23 := hB24.size
  have HFa : Fresh w3.heap.size wF (.slice aj n cj) (xorOf (R ++ D)) := (hF.below hB45).keep (by omega) (fun p hp _ => hkw p (by omega) (by omega))
  have x0l := x0.lt
  have x5l := x5.lt
  have x3l := x3.lt
  clear x0 x1 x3 x4 x5 y1 y4 hF
  rintro V ⟨hLV, hVs, hVh⟩ x yn hx hy
  have hEl : ∀ b, E b → b < w.heap.size := fun b hb => by
    obtain ⟨t, h⟩ := HEE.out b hb
    exact h.lt
  have hVc : ∀ p : Addr, p.block < wF.heap.size → ¬ E p.block → V.cell? p = wF.cell? p := fun p h1 h2 => World.cell?_of_block (hVh p.block h1 h2)
  have hbare : Bare (fun b => b = g1 ∨ E b) w1 := fun b hb o u hu => by
    rcases hb with rfl | hb
    · exact bare_two m1n o u hu
    · obtain ⟨t, h⟩ := HEE.out b hb
      exact bare_three (h.below hBt h.lt) o u hu
  have hbareW : Bare E w := fun b hb o u hu => by
    obtain ⟨t, h⟩ := HEE.out b hb
    exact bare_three h o u hu
  have hkV : ∀ b o, b < g3 → ¬ (b = g1 ∨ E b) → V.cell? ⟨b, o, none⟩ = w1.cell? ⟨b, o, none⟩ := fun b o hb hn =>
    (hVc ⟨b, o, none⟩ (by show b < wF.heap.size; omega) (fun h => hn (.inr h))).trans ((hkw ⟨b, o, none⟩ (by show b ≠ g4; omega) (fun h => hn (.inl h))).trans ((hB45.cell (p := ⟨b, o, none⟩) (by show b < w4.heap.size; omega)).trans (hB14.cell (p := ⟨b, o, none⟩) hb)))
  have hnE : ∀ b, w.heap.size ≤ b → ¬ E b := fun b h1 h2 => by have := hEl b h2; omega
  have hQP := HQ.out
  constructor
  · have hz0 := Int.emod_nonneg (x + (yn : Int)) (show (P : Int) ≠ 0 by omega)
    have hz1 := Int.emod_lt_of_pos (x + (yn : Int)) (show (0 : Int) < (P : Int) by omega)
    obtain ⟨zn, hzn⟩ : ∃ z : Nat, ((x + (yn : Int)) % (P : Int)).toNat = z := ⟨_, rfl⟩
    have hz : (x + (yn : Int)) % (P : Int) = (zn : Int) := by omega
    rw [hzn]
    have hzP : zn < P := by omega
    have hul : (us2 ++ [Value.slice nA n nc]).length = P := by rw [List.length_append, HU2.out]; exact hQP.symm
    obtain ⟨gv, capv, ev, hgv1, hgv2⟩ := World.ownsRow.form HO5.out (by omega)
    injection ev with ev1 ev2 ev3
    rw [hul] at ev2
    subst ev1; subst ev2; subst ev3
    have hcv : w5.cell? ⟨gv, zn, none⟩ = (us2 ++ [Value.slice nA n nc])[zn]? := by
      have h := HO5.out
      unfold OwnS at h
      rw [hul] at h
      exact World.ownsRow.cellAt h zn (by omega)
    have hval : ∃ Az nz cz, (us2 ++ [Value.slice nA n nc])[zn]? = some (.slice Az nz cz) ∧ Bytes V.heap.size V (.slice Az nz cz) (Rg.wholeF Q n D zn) := by
      rcases Nat.lt_or_ge zn Q with h | h
      · have hlt : zn < us2.length := by rw [HU2.out]; exact h
        have hu : us2[zn]? = some us2[zn] := List.getElem?_eq_getElem hlt
        have hm := bytes_moved (hc2 zn _ hu).2 hbare hkV (show g3 ≤ V.heap.size by omega)
        obtain ⟨Az, cz, e, _⟩ := id hm
        rw [e] at hm
        refine ⟨Az, _, cz, by rw [List.getElem?_append_left hlt, hu, e], ?_⟩
        unfold Rg.wholeF
        rw [if_pos h]
        exact hm
      · refine ⟨nA, n, nc, by rw [List.getElem?_append_right (by rw [HU2.out]; exact h), HU2.out, show zn - Q = 0 by omega]; rfl, ?_⟩
        unfold Rg.wholeF
        rw [if_neg (by omega)]
        exact bytes_moved HNO.out hbareW (fun b o hb hn => (hVc ⟨b, o, none⟩ (by show b < wF.heap.size; omega) hn).trans (hBF.cell (p := ⟨b, o, none⟩) (by show b < w.heap.size; omega))) (by omega)
    obtain ⟨Az, nz, cz, hval1, hval2⟩ := hval
    refine (s1_any hQP hp x yn zn hx hy hz hzP g4 g0 g5 gv 0 v5c Az aj nz cz n cj _ _ (xor_two hn1 hn64 (whole_len hD zn) hjl) V hLV ((hVc ⟨g4, 0, none⟩ (by show g4 < wF.heap.size; omega) (hnE _ (by show w.heap.size ≤ g4; omega))).trans y4a) ((hVc ⟨g0, 0, none⟩ (by show g0 < wF.heap.size; omega) (hnE _ (by show w.heap.size ≤ g0; omega))).trans y0a) ((hVc ⟨g5, 0, none⟩ (by show g5 < wF.heap.size; omega) (hnE _ (by show w.heap.size ≤ g5; omega))).trans y5a) ?_ ⟨by omega, by omega, by omega, by omega⟩ hval2 ((HFa.keep hVs (fun p hp hp2 => hVc p hp2 (hnE _ (by omega)))).bytes)).mono ?_
    · rw [Nat.zero_add]
      exact (hVc ⟨gv, zn, none⟩ (by show gv < wF.heap.size; omega) (hnE _ (by show w.heap.size ≤ gv; omega))).trans ((hkw ⟨gv, zn, none⟩ (by show gv ≠ g4; omega) (by show gv ≠ g1; omega)).trans (hcv.trans hval1))
    · rintro e w' ⟨u, rfl, h1, h2⟩
      exact ⟨u, rfl, h1.bytes, h2⟩
  · have hlt : yn < us1.length := by omega
    have hu : us1[yn]? = some us1[yn] := List.getElem?_eq_getElem hlt
    have hcR := (hc1 yn _ hu).1
    have hm := bytes_moved (hc1 yn _ hu).2 hbare hkV (show g3 ≤ V.heap.size by omega)
    obtain ⟨Az, cz, e, _⟩ := id hm
    rw [e] at hm hcR
    have hbne : ¬ (bR = g1 ∨ E bR) := fun e => by
      rcases hbare bR e _ _ hcR with h | h
      · cases h
      · injection h with _ h2 _
        have := (hR.2 yn hy).2
        omega
    refine (s2_any x yn hy g3 bR oR Q Az _ cz V ((hVc ⟨g3, 0, none⟩ (by show g3 < wF.heap.size; omega) (hnE _ (by show w.heap.size ≤ g3; omega))).trans y3a) ((hkV bR _ hbR hbne).trans hcR) ⟨by omega, by omega⟩).mono ?_
    rintro e w' ⟨rfl, h2⟩
    exact ⟨_, rfl, (hm.below h2).more h2.size, h2⟩
end Go.Proofs.YtfihlelhpmjpaaaGreatDoor.Ch

