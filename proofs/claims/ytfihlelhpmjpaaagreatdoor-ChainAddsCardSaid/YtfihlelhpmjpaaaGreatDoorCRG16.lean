/- chain: a cell of the chain, told. chain: the cells of a chain, gathered. -/
import Derived.Test.YtfihlelhpmjpaaaGreatDoorCRG15
namespace Go.Proofs.YtfihlelhpmjpaaaGreatDoor.Ch
open Go.RowKit Go.Shelf Go.Proofs.YtfihlelhpmjpaaaGreatDoor.C Go.Proofs.YtfihlelhpmjpaaaGreatDoor.E Go.Proofs.YtfihlelhpmjpaaaGreatDoor.T
set_option linter.unusedSimpArgs false
set_option linter.unusedVariables false
attribute [local go_sem] Oper.semAt_some

def depB (md : Region.Mode) (ops : Array Oper) (x y : Nat) : Bool := match ops[x]? with | some o => o.after.any fun e => Region.binds md e && e.on == y | none => false
/-- A way back from one operation to another that it waits for. -/
def pathB (md : Region.Mode) (ops : Array Oper) : Nat → List Nat → Nat → Bool
  | x, [], i => depB md ops x i
  | x, c :: cs, i => depB md ops x c && pathB md ops c cs i
def Closed (md : Region.Mode) (ops : Array Oper) (listed : Array Bool) : Prop := ∀ (j : Nat) (oj : Oper), ops[j]? = some oj → listed.getD j false = true → ∀ e ∈ oj.after, Region.binds md e = true → listed.getD e.on false = true
def closedB (md : Region.Mode) (ops : Array Oper) (listed : Array Bool) : Bool := (List.range ops.size).all fun j => !listed.getD j false || match ops[j]? with | some o => o.after.all fun e => !Region.binds md e || listed.getD e.on false | none => true
theorem closedB_spec {md : Region.Mode} {ops : Array Oper} {listed : Array Bool} (h : closedB md ops listed = true) : Closed md ops listed := by
  intro j oj hj hl e he hb
  simp only [closedB, List.all_eq_true, List.mem_range] at h
  have h1 := h j (Array.getElem?_eq_some_iff.1 hj).1
  simp only [hj, hl, Bool.not_true, Bool.false_or] at h1
  have h2 := Array.all_eq_true'.1 h1 e he
  simpa [hb] using h2
theorem depB_spec {md : Region.Mode} {ops : Array Oper} {x y : Nat} (h : depB md ops x y = true) : ∃ o, ops[x]? = some o ∧ ∃ e ∈ o.after, Region.binds md e = true ∧ e.on = y := by
  unfold depB at h
  split at h
  · rename_i o ho
    obtain ⟨e, he, hb⟩ := Array.any_eq_true'.1 h
    simp only [Bool.and_eq_true, beq_iff_eq] at hb
    exact ⟨o, ho, e, he, hb.1, hb.2⟩
  · cases h
theorem path_in {md : Region.Mode} {ops : Array Oper} {listed : Array Bool} (hc : Closed md ops listed) {i : Nat} : ∀ (p : List Nat) (x : Nat), pathB md ops x p i = true → listed.getD x false = true → listed.getD i false = true
  | [], x, h, hx => by
    obtain ⟨o, ho, e, he, hb, rfl⟩ := depB_spec h
    exact hc x o ho hx e he hb
  | c :: cs, x, h, hx => by
    unfold pathB at h
    rw [Bool.and_eq_true] at h
    obtain ⟨o, ho, e, he, hb, rfl⟩ := depB_spec h.1
    exact path_in hc cs _ h.2 (hc x o ho hx e he hb)
theorem path_ready {md : Region.Mode} {ops : Array Oper} {listed : Array Bool} (hc : Closed md ops listed) {i m : Nat} {p : List Nat} (h : pathB md ops m p i = true) (hr : m ∈ Region.ready md ops listed) : listed.getD i false = true := by
  obtain ⟨_, om, hom, hall⟩ := mem_ready.1 hr
  cases p with
  | nil =>
    obtain ⟨o, ho, e, he, hb, rfl⟩ := depB_spec h
    rw [ho] at hom
    injection hom with hom
    subst hom
    exact hall e he hb
  | cons c cs =>
    unfold pathB at h
    rw [Bool.and_eq_true] at h
    obtain ⟨o, ho, e, he, hb, rfl⟩ := depB_spec h.1
    rw [ho] at hom
    injection hom with hom
    subst hom
    exact path_in hc cs _ h.2 (hall e he hb)
theorem Closed.set_ {md : Region.Mode} {ops : Array Oper} {listed : Array Bool} (hc : Closed md ops listed) {j : Nat} (hr : j ∈ Region.ready md ops listed) : Closed md ops (listed.setIfInBounds j true) := by
  obtain ⟨hjun, oj, hoj, hall⟩ := mem_ready.1 hr
  have key : ∀ x, listed.getD x false = true → (listed.setIfInBounds j true).getD x false = true := fun x hx => by
    by_cases hjx : j = x
    · subst hjx
      rcases Nat.lt_or_ge j listed.size with h' | h'
      · simp [h']
      · simp [Array.getElem?_eq_none h'] at hx
    · rw [getD_set_ne false hjx]; exact hx
  intro x ox hox hx e he hb
  by_cases hjx : j = x
  · subst hjx
    rw [hoj] at hox
    injection hox with hox
    subst hox
    exact key _ (hall e he hb)
  · rw [getD_set_ne false hjx] at hx
    exact key _ (hc x ox hox hx e he hb)
section
variable {F : Fence} {n : Nat} {P : Program} {md : Region.Mode} {ops : Array Oper} {Q : Exit → Act → World → Prop} {S : World → Prop} {m : Nat}
theorem anyHG_firstP {i : Nat} {oi : Oper} {v : Value} (p : List Nat) (hnd : ∀ (i : Nat) (o : Oper), ops[i]? = some o → notDefer o.op = true) (hi : ops[i]? = some oi) (hsel : ∀ (j : Nat) (o : Oper) cs b, ops[j]? = some o → o.op ≠ .select cs b)
    (hQ : ∀ c a w, Q (.panic c) (a.put oi.dst v) w → Q (.panic c) a w) (hm : pathB md ops m p i = true) :
    ∀ (k : Nat) (listed : Array Bool) (a : Act) (w : World), Closed md ops listed →
      (∀ j oj, ops[j]? = some oj → j ≠ i → listed.getD j true = false → (∀ e ∈ oj.after, Region.binds md e = true → e.on ≠ i) → oi.apart ops oj = true) →
      i ∈ Region.ready md ops listed → Leaves P ops S oi v a → S w →
      anyHG F n P md ops Q S m k (listed.setIfInBounds i true) (a.put oi.dst v) w → anyHG F n P md ops Q S m (k + 1) listed a w := by
  intro k
  induction k with
  | zero =>
    intro listed a w _ _ hr hy hS H
    refine ⟨fun h => (by rw [h] at hr; cases hr), fun j hj => ?_⟩
    by_cases hji : j = i
    · subst hji; exact hy.op (hnd _ _ hi) hi hS ⟨.inr hS, H⟩
    · have := ready_mono hj hji
      rw [H.1] at this
      cases this
  | succ k ih =>
    intro listed a w hcl hfree hr hy hS H
    refine ⟨fun h => (by rw [h] at hr; cases hr), fun j hj => ?_⟩
    by_cases hji : j = i
    · subst hji; exact hy.op (hnd _ _ hi) hi hS ⟨.inr hS, H⟩
    · have h1 := H.2 j (ready_mono hj hji)
      obtain ⟨hjun, oj, hoj, hall⟩ := mem_ready.1 hj
      have h0 : listed.getD i false ≠ true := fun h1 => by
        have h0 := (mem_ready.1 hr).1
        rcases Nat.lt_or_ge i listed.size with h' | h'
        · simp [h'] at h0 h1; rw [h0] at h1; cases h1
        · simp [Array.getElem?_eq_none h'] at h1
      have hnot : ∀ e ∈ oj.after, Region.binds md e = true → e.on ≠ i := fun e he hb heq => by
        have h1 := hall e he hb
        rw [heq] at h1
        exact h0 h1
      have h2 := Leaves.put (hnd _ _ hoj) hoj (hfree j oj hoj hji hjun hnot) (fun cs b => hsel i oi cs b hi) (fun cs b => hsel j oj cs b hoj) hQ hy h1
      have hjm : j ≠ m := fun e => by
        subst e
        exact h0 (path_ready hcl hm hj)
      refine wpOpIn_mono (fun a' w' h3 => ⟨h3.2.1, ih (listed.setIfInBounds j true) a' w' (hcl.set_ hj) (fun x ox hx hxi hun hno => hfree x ox hx hxi ?_ hno) (ready_mono hr (Ne.symm hji)) h3.1 (h3.2.1.resolve_left hjm) ?_⟩) h2
      · by_cases hjx : j = x
        · subst hjx; exact hjun
        · rw [getD_set_ne true hjx] at hun; exact hun
      · rw [Array.setIfInBounds_comm _ _ hji]
        exact h3.2.2
theorem anyHG_takeP (p : List Nat) {i : Nat} {oi : Oper} {d : Tmp} {v : Value} {k : Nat} {listed : Array Bool} {a : Act} {w : World} (hcl : closedB md ops listed = true) (hnd : (ops.toList.all fun o => notDefer o.op) = true) (hi : ops[i]? = some oi)
    (hs : Region.noSelect ops = true) (hf : Region.free md ops listed i = true) (hr : (Region.ready md ops listed).contains i = true) (hd : oi.dst = some d)
    (hm : pathB md ops m p i = true) (hQ : ∀ c a w, Q (.panic c) (a.put oi.dst v) w → Q (.panic c) a w) (hy : Leaves P ops S oi v a) (hS : S w)
    (h : anyHG F n P md ops Q S m k (listed.setIfInBounds i true) { tmps := a.tmps.setIfInBounds d v, defers := a.defers } w) : anyHG F n P md ops Q S m (k + 1) listed a w :=
  anyHG_firstP p (all_nd hnd) hi (Region.noSelect_spec hs) hQ hm k listed a w (closedB_spec hcl) (Region.free_spec hi hf) (by simpa using hr) hy hS (by unfold Act.put; rw [hd]; exact h)
end
theorem enter_s1 : ∀ args W, (callFunc 162 args).run Tryz.prog W = .ok (.enter 162 args) W := enters_of Tryz.func162 (by kernel_rfl) rfl
theorem enter_s2 : ∀ args W, (callFunc 164 args).run Tryz.prog W = .ok (.enter 164 args) W := enters_of Tryz.func164 (by kernel_rfl) rfl
theorem enter_cell : ∀ args W, (callFunc 106 args).run Tryz.prog W = .ok (.enter 106 args) W := enters_of Tryz.func106 (by kernel_rfl) rfl
set_option maxRecDepth 100000 in
set_option maxHeartbeats 8000000 in
theorem cellE {n : Nat} (gt4 gt1 gt5 gt3 k : Nat) (hk : k % 2 = 0) (x : Int) (yn : Nat) (g : Nat) (aA : Option Addr) (cA : Nat) (l s : List UInt8) (hl : l.length = n) (hs : s.length = n) (h1 : 1 ≤ n) (h64 : n ≤ 64) (w : World) (hb : Blk w g 120 #[.func (.func 162) #[] #[.pointer (some ⟨gt4, 0, none⟩), .pointer (some ⟨gt1, 0, none⟩), .pointer (some ⟨gt5, 0, none⟩)], .func (.func 164) #[] #[.pointer (some ⟨gt3, 0, none⟩)], .slice aA n cA]) (ma : Bytes w.heap.size w (.slice aA n cA) l)
    (HF : ∀ V, Below w.heap.size w V → Calls Tryz.prog 162 #[.agg #[.int .i64 x, .int .i64 (yn : Int)], .pointer (some ⟨gt4, 0, none⟩), .pointer (some ⟨gt1, 0, none⟩), .pointer (some ⟨gt5, 0, none⟩)] V fun e w' => ∃ u, e = .returned u ∧ Bytes w'.heap.size w' u s ∧ Below V.heap.size V w') :
    Calls Tryz.prog 106 #[.pointer (some ⟨g, 0, none⟩), .int .i64 (k : Int), .agg #[.int .i64 x, .int .i64 (yn : Int)]] w fun e w' => ∃ A c w1, e = .returned (.slice A n c) ∧ Below w.heap.size w w1 ∧ Fresh w.heap.size w1 (.slice A n c) (xorOf [l, s]) ∧ w' = w1.setCell ⟨g, 2, none⟩ (.slice A n c) := by
  obtain ⟨w0, hw0⟩ : ∃ x', w.alloc (.cells #[.int .i64 x, .int .i64 (yn : Int)] 55) = x' := ⟨_, rfl⟩
  obtain ⟨gz, hgz⟩ : ∃ x', w.heap.size = x' := ⟨_, rfl⟩
  have bz : Blk w0 gz 55 #[.int .i64 x, .int .i64 (yn : Int)] := by rw [← hw0, ← hgz]; exact Blk.new w _ _
  have hBW : Below w.heap.size w w0 := by rw [← hw0]; exact below_one w _
  have hb0 := hb.below hBW hb.lt
  have HSS : Hid (∀ V, Below w0.heap.size w0 V → (fun U : World => U.cell? ⟨g, 0, none⟩ = some (.func (.func 162) #[] #[.pointer (some ⟨gt4, 0, none⟩), .pointer (some ⟨gt1, 0, none⟩), .pointer (some ⟨gt5, 0, none⟩)]) ∧ U.cell? ⟨g, 1, none⟩ = some (.func (.func 164) #[] #[.pointer (some ⟨gt3, 0, none⟩)]) ∧ U.cell? ⟨g, 2, none⟩ = some (.slice aA n cA) ∧ U.cell? ⟨gz, 0, none⟩ = some (.int .i64 x) ∧ U.cell? ⟨gz, 1, none⟩ = some (.int .i64 (yn : Int))) V) := fun V hV => by
    have hh := hb0.below hV hb0.lt
    exact ⟨hh.cell 0, hh.cell 1, hh.cell 2, (bz.below hV bz.lt).cell 0, (bz.below hV bz.lt).cell 1⟩
  have HFZ : Hid (∀ V, Below w0.heap.size w0 V → V.frozen? ⟨g, 2, none⟩ = false) := fun V hV => (hb0.below hV hb0.lt).frozen 2
  have HFb : Hid (∀ V, Below w.heap.size w V → Calls Tryz.prog 162 #[.agg #[.int .i64 x, .int .i64 (yn : Int)], .pointer (some ⟨gt4, 0, none⟩), .pointer (some ⟨gt1, 0, none⟩), .pointer (some ⟨gt5, 0, none⟩)] V fun e w' => ∃ u, e = .returned u ∧ Bytes w'.heap.size w' u s ∧ Below V.heap.size V w') := HF
  clear HF
  have HF := HFb
  have hokx : XorOk [l, s] := xor_two h1 h64 hl hs
  have HJL : Hid ((xorOf [l, s]).length = n) := by unfold Hid; rw [xorOf_len]; exact hl
  have HSL := Lib.hid hs
  have HUP := Lib.hid (fun (g' : Nat) (V : World) (aU : Option Addr) (cU : Nat) (hV : Below w.heap.size w V) (bE : Blk V g' 57 #[.slice aA n cA, .slice aU n cU]) (hmU : Bytes V.heap.size V (.slice aU n cU) s) => upon_any (B := V.heap.size) (.slice (some ⟨g', 0, none⟩) 2 2) [l, s] V (Nat.le_refl _) (many2 bE ((ma.below hV).more hV.size) hmU bE.lt) (by simp) hokx)
  have hBx := (Below.refl w0.heap.size w0).drew
  have r0 : ((k : Int).tmod 2) = 0 := by rw [Int.tmod_eq_emod_of_nonneg (by omega)]; omega
  have hent := enter_s1
  clear hb ma hb0 bz hokx hl hs hk h1 h64 HFb
  refine (callsIn_wide (n := 9)).1 ?_
  refine callsIn_of_wp_marks Tryz.func106 rfl trivial ?_ rfl
  simp only [Tryz.ntmps106, List.size_toArray, List.length_cons, List.length_nil, Nat.reduceAdd, Nat.reduceSub, Array.replicate_succ, Array.replicate_zero, List.push_toArray, List.append_toArray, List.nil_append, List.cons_append]
  gi_wp2_with fail
  (try rw [hgz]); (try rw [hw0])
  clear hw0 hgz
  have hS : (fun U : World => U.cell? ⟨g, 0, none⟩ = some (.func (.func 162) #[] #[.pointer (some ⟨gt4, 0, none⟩), .pointer (some ⟨gt1, 0, none⟩), .pointer (some ⟨gt5, 0, none⟩)]) ∧ U.cell? ⟨g, 1, none⟩ = some (.func (.func 164) #[] #[.pointer (some ⟨gt3, 0, none⟩)]) ∧ U.cell? ⟨g, 2, none⟩ = some (.slice aA n cA) ∧ U.cell? ⟨gz, 0, none⟩ = some (.int .i64 x) ∧ U.cell? ⟨gz, 1, none⟩ = some (.int .i64 (yn : Int))) w0.drew := HSS.out _ hBx
  refine wpIn_mono (region_HG (Q := NoPanic _) (S := (fun U : World => U.cell? ⟨g, 0, none⟩ = some (.func (.func 162) #[] #[.pointer (some ⟨gt4, 0, none⟩), .pointer (some ⟨gt1, 0, none⟩), .pointer (some ⟨gt5, 0, none⟩)]) ∧ U.cell? ⟨g, 1, none⟩ = some (.func (.func 164) #[] #[.pointer (some ⟨gt3, 0, none⟩)]) ∧ U.cell? ⟨g, 2, none⟩ = some (.slice aA n cA) ∧ U.cell? ⟨gz, 0, none⟩ = some (.int .i64 x) ∧ U.cell? ⟨gz, 1, none⟩ = some (.int .i64 (yn : Int)))) (m := 18) (by kernel_rfl) ?_) NoPanic.imp
  refine anyHG_takeP [17, 16] (i := 0) (d := 7) (v := .pointer (some ⟨g, 0, none⟩)) (by kernel_rfl) (by kernel_rfl) rfl (by kernel_rfl) (by kernel_rfl) (by kernel_rfl) rfl (by kernel_rfl) (fun _ _ _ h => h) ⟨Or.inl ⟨by rfl, fun w hS => by obtain ⟨h0, h1, h2, h3, h4⟩ := hS; go_simp⟩, fun _ => rfl⟩ hS ?_
  simp only [List.setIfInBounds_toArray, List.set_cons_zero, List.set_cons_succ]
  refine anyHG_takeP [15, 14, 4, 3, 2] (i := 1) (d := 8) (v := .pointer (some ⟨g, 0, none⟩)) (by kernel_rfl) (by kernel_rfl) rfl (by kernel_rfl) (by kernel_rfl) (by kernel_rfl) rfl (by kernel_rfl) (fun _ _ _ h => h) ⟨Or.inl ⟨by rfl, fun w hS => by obtain ⟨h0, h1, h2, h3, h4⟩ := hS; go_simp⟩, fun _ => rfl⟩ hS ?_
  simp only [List.setIfInBounds_toArray, List.set_cons_zero, List.set_cons_succ]
  refine anyHG_takeP [15, 14, 4, 3] (i := 2) (d := 9) (v := .pointer (some ⟨g, 0, none⟩)) (by kernel_rfl) (by kernel_rfl) rfl (by kernel_rfl) (by kernel_rfl) (by kernel_rfl) rfl (by kernel_rfl) (fun _ _ _ h => h) ⟨Or.inl ⟨by rfl, fun w hS => by obtain ⟨h0, h1, h2, h3, h4⟩ := hS; go_simp⟩, fun _ => rfl⟩ hS ?_
  simp only [List.setIfInBounds_toArray, List.set_cons_zero, List.set_cons_succ]
  refine anyHG_takeP [15, 14, 4] (i := 3) (d := 10) (v := .pointer (some ⟨g, 2, none⟩)) (by kernel_rfl) (by kernel_rfl) rfl (by kernel_rfl) (by kernel_rfl) (by kernel_rfl) rfl (by kernel_rfl) (fun _ _ _ h => h) ⟨Or.inl ⟨by rfl, fun w hS => by obtain ⟨h0, h1, h2, h3, h4⟩ := hS; go_simp⟩, fun _ => rfl⟩ hS ?_
  simp only [List.setIfInBounds_toArray, List.set_cons_zero, List.set_cons_succ]
  refine anyHG_takeP [15, 14] (i := 4) (d := 11) (v := .slice aA n cA) (by kernel_rfl) (by kernel_rfl) rfl (by kernel_rfl) (by kernel_rfl) (by kernel_rfl) rfl (by kernel_rfl) (fun _ _ _ h => h) ⟨Or.inl ⟨by rfl, fun w hS => by obtain ⟨h0, h1, h2, h3, h4⟩ := hS; go_simp⟩, fun _ => rfl⟩ hS ?_
  simp only [List.setIfInBounds_toArray, List.set_cons_zero, List.set_cons_succ]
  refine anyHG_takeP [15, 14, 13, 11, 10, 9, 8] (i := 5) (d := 12) (v := .pointer (some ⟨g, 0, none⟩)) (by kernel_rfl) (by kernel_rfl) rfl (by kernel_rfl) (by kernel_rfl) (by kernel_rfl) rfl (by kernel_rfl) (fun _ _ _ h => h) ⟨Or.inl ⟨by rfl, fun w hS => by obtain ⟨h0, h1, h2, h3, h4⟩ := hS; go_simp⟩, fun _ => rfl⟩ hS ?_
  simp only [List.setIfInBounds_toArray, List.set_cons_zero, List.set_cons_succ]
  refine anyHG_takeP [15, 14, 13, 11, 10, 7] (i := 6) (d := 13) (v := .int .i64 (k : Int)) (by kernel_rfl) (by kernel_rfl) rfl (by kernel_rfl) (by kernel_rfl) (by kernel_rfl) rfl (by kernel_rfl) (fun _ _ _ h => h) ⟨Or.inl ⟨by rfl, fun w hS => by obtain ⟨h0, h1, h2, h3, h4⟩ := hS; go_simp⟩, fun _ => rfl⟩ hS ?_
  simp only [List.setIfInBounds_toArray, List.set_cons_zero, List.set_cons_succ]
  refine anyHG_takeP [15, 14, 13, 11, 10] (i := 7) (d := 14) (v := .int .i64 0) (by kernel_rfl) (by kernel_rfl) rfl (by kernel_rfl) (by kernel_rfl) (by kernel_rfl) rfl (by kernel_rfl) (fun _ _ _ h => h) ⟨Or.inl ⟨by rfl, fun w hS => by obtain ⟨h0, h1, h2, h3, h4⟩ := hS; go_simp⟩, fun _ => rfl⟩ hS ?_
  simp only [List.setIfInBounds_toArray, List.set_cons_zero, List.set_cons_succ]
  refine anyHG_takeP [15, 14, 13, 11, 10, 9] (i := 8) (d := 15) (v := .pointer (some ⟨g, 0, none⟩)) (by kernel_rfl) (by kernel_rfl) rfl (by kernel_rfl) (by kernel_rfl) (by kernel_rfl) rfl (by kernel_rfl) (fun _ _ _ h => h) ⟨Or.inl ⟨by rfl, fun w hS => by obtain ⟨h0, h1, h2, h3, h4⟩ := hS; go_simp⟩, fun _ => rfl⟩ hS ?_
  simp only [List.setIfInBounds_toArray, List.set_cons_zero, List.set_cons_succ]
  refine anyHG_takeP [15, 14, 13, 11, 10] (i := 9) (d := 16) (v := .pointer (some ⟨g, 0, none⟩)) (by kernel_rfl) (by kernel_rfl) rfl (by kernel_rfl) (by kernel_rfl) (by kernel_rfl) rfl (by kernel_rfl) (fun _ _ _ h => h) ⟨Or.inl ⟨by rfl, fun w hS => by obtain ⟨h0, h1, h2, h3, h4⟩ := hS; go_simp⟩, fun _ => rfl⟩ hS ?_
  simp only [List.setIfInBounds_toArray, List.set_cons_zero, List.set_cons_succ]
  refine anyHG_takeP [15, 14, 13, 11] (i := 10) (d := 17) (v := .pointer (some ⟨g, 0, none⟩)) (by kernel_rfl) (by kernel_rfl) rfl (by kernel_rfl) (by kernel_rfl) (by kernel_rfl) rfl (by kernel_rfl) (fun _ _ _ h => h) ⟨Or.inl ⟨by rfl, fun w hS => by obtain ⟨h0, h1, h2, h3, h4⟩ := hS; go_simp⟩, fun _ => rfl⟩ hS ?_
  simp only [List.setIfInBounds_toArray, List.set_cons_zero, List.set_cons_succ]
  refine anyHG_takeP [15, 14, 13] (i := 11) (d := 18) (v := .func (.func 162) #[] #[.pointer (some ⟨gt4, 0, none⟩), .pointer (some ⟨gt1, 0, none⟩), .pointer (some ⟨gt5, 0, none⟩)]) (by kernel_rfl) (by kernel_rfl) rfl (by kernel_rfl) (by kernel_rfl) (by kernel_rfl) rfl (by kernel_rfl) (fun _ _ _ h => h) ⟨Or.inl ⟨by rfl, fun w hS => by obtain ⟨h0, h1, h2, h3, h4⟩ := hS; go_simp⟩, fun _ => rfl⟩ hS ?_
  simp only [List.setIfInBounds_toArray, List.set_cons_zero, List.set_cons_succ]
  refine anyHG_takeP [15, 14, 13] (i := 12) (d := 19) (v := .agg #[.int .i64 x, .int .i64 (yn : Int)]) (by kernel_rfl) (by kernel_rfl) rfl (by kernel_rfl) (by kernel_rfl) (by kernel_rfl) rfl (by kernel_rfl) (fun _ _ _ h => h) ⟨Or.inl ⟨by rfl, fun w hS => by obtain ⟨h0, h1, h2, h3, h4⟩ := hS; go_simp⟩, fun _ => rfl⟩ hS ?_
  simp only [List.setIfInBounds_toArray, List.set_cons_zero, List.set_cons_succ]
  refine anyHG_one (i := 13) (by kernel_rfl) rfl (by kernel_rfl) (by rfl) ?_
  gi_wp2_with fail
  refine ⟨trivial, (callsIn_wide.2 (HF.out _ (below_in hBW hBx))).mono ?_⟩
  rintro e v1 ⟨uv, rfl, hmU, hB⟩
  obtain ⟨aU, cU, rfl, _⟩ := id hmU
  rw [HSL.out] at hmU ⊢
  replace hBx := below_in hBx hB
  clear hS
  have hS : (fun U : World => U.cell? ⟨g, 0, none⟩ = some (.func (.func 162) #[] #[.pointer (some ⟨gt4, 0, none⟩), .pointer (some ⟨gt1, 0, none⟩), .pointer (some ⟨gt5, 0, none⟩)]) ∧ U.cell? ⟨g, 1, none⟩ = some (.func (.func 164) #[] #[.pointer (some ⟨gt3, 0, none⟩)]) ∧ U.cell? ⟨g, 2, none⟩ = some (.slice aA n cA) ∧ U.cell? ⟨gz, 0, none⟩ = some (.int .i64 x) ∧ U.cell? ⟨gz, 1, none⟩ = some (.int .i64 (yn : Int))) v1 := HSS.out _ hBx
  clear hB
  gi_wp2
  try (refine ⟨.inr hS, ?_⟩)
  refine anyHG_one (i := 14) (by kernel_rfl) rfl (by kernel_rfl) (by rfl) ?_
  have hgl_g3 := hBx.size
  have hB : Below v1.heap.size v1 (v1.alloc (.cells #[.slice aA n cA, .slice aU n cU] 57)) := below_one v1 _
  have bE : Blk (v1.alloc (.cells #[.slice aA n cA, .slice aU n cU] 57)) v1.heap.size 57 #[.slice aA n cA, .slice aU n cU] := Blk.new v1 _ _
  obtain ⟨v2, he_v2⟩ : ∃ x, (v1.alloc (.cells #[.slice aA n cA, .slice aU n cU] 57)) = x := ⟨_, rfl⟩
  obtain ⟨g3, hg_g3⟩ : ∃ x, v1.heap.size = x := ⟨_, rfl⟩
  rw [he_v2] at hB bE
  rw [hg_g3] at bE
  replace hmU := (hmU.below hB).more hB.size
  replace hBx := below_in hBx hB
  clear hS
  have hS : (fun U : World => U.cell? ⟨g, 0, none⟩ = some (.func (.func 162) #[] #[.pointer (some ⟨gt4, 0, none⟩), .pointer (some ⟨gt1, 0, none⟩), .pointer (some ⟨gt5, 0, none⟩)]) ∧ U.cell? ⟨g, 1, none⟩ = some (.func (.func 164) #[] #[.pointer (some ⟨gt3, 0, none⟩)]) ∧ U.cell? ⟨g, 2, none⟩ = some (.slice aA n cA) ∧ U.cell? ⟨gz, 0, none⟩ = some (.int .i64 x) ∧ U.cell? ⟨gz, 1, none⟩ = some (.int .i64 (yn : Int))) v2 := HSS.out _ hBx
  gi_wp2
  (try rw [hg_g3]); (try rw [he_v2])
  try (refine ⟨.inr hS, ?_⟩)
  clear hB he_v2 hg_g3
  refine anyHG_one (i := 15) (by kernel_rfl) rfl (by kernel_rfl) (by rfl) ?_
  gi_wp2_with fail
  refine ⟨trivial, (callsIn_wide.2 (HUP.out g3 _ aU cU (below_in hBW hBx) bE hmU)).mono ?_⟩
  rintro e v4 ⟨uj, rfl, hFu, hB⟩
  have hge := (below_in hBW hBx).size
  obtain ⟨aJ, cJ, rfl, _⟩ := id hFu
  rw [HJL.out] at hFu ⊢
  replace bE := bE.below hB bE.lt
  replace hmU := (hmU.below hB).more hB.size
  replace hBx := below_in hBx hB
  clear hS
  have hS : (fun U : World => U.cell? ⟨g, 0, none⟩ = some (.func (.func 162) #[] #[.pointer (some ⟨gt4, 0, none⟩), .pointer (some ⟨gt1, 0, none⟩), .pointer (some ⟨gt5, 0, none⟩)]) ∧ U.cell? ⟨g, 1, none⟩ = some (.func (.func 164) #[] #[.pointer (some ⟨gt3, 0, none⟩)]) ∧ U.cell? ⟨g, 2, none⟩ = some (.slice aA n cA) ∧ U.cell? ⟨gz, 0, none⟩ = some (.int .i64 x) ∧ U.cell? ⟨gz, 1, none⟩ = some (.int .i64 (yn : Int))) v4 := HSS.out _ hBx
  clear hB
  gi_wp2
  try (refine ⟨.inr hS, ?_⟩)
  refine anyHG_takeP [17] (i := 16) (d := 23) (v := .pointer (some ⟨g, 0, none⟩)) (by kernel_rfl) (by kernel_rfl) rfl (by kernel_rfl) (by kernel_rfl) (by kernel_rfl) rfl (by kernel_rfl) (fun _ _ _ h => h) ⟨Or.inl ⟨by rfl, fun w hS => by obtain ⟨h0, h1, h2, h3, h4⟩ := hS; go_simp⟩, fun _ => rfl⟩ hS ?_
  simp only [List.setIfInBounds_toArray, List.set_cons_zero, List.set_cons_succ]
  refine anyHG_takeP [] (i := 17) (d := 24) (v := .pointer (some ⟨g, 2, none⟩)) (by kernel_rfl) (by kernel_rfl) rfl (by kernel_rfl) (by kernel_rfl) (by kernel_rfl) rfl (by kernel_rfl) (fun _ _ _ h => h) ⟨Or.inl ⟨by rfl, fun w hS => by obtain ⟨h0, h1, h2, h3, h4⟩ := hS; go_simp⟩, fun _ => rfl⟩ hS ?_
  simp only [List.setIfInBounds_toArray, List.set_cons_zero, List.set_cons_succ]
  refine anyHG_one (i := 18) (by kernel_rfl) rfl (by kernel_rfl) (by rfl) ?_
  have f0 := HFZ.out _ hBx
  obtain ⟨h0, h1, h2, h3, h4⟩ := hS
  gi_wp2
  refine anyHG_done (by kernel_rfl) ?_ _
  refine NoPanic.normal ?_
  gi_wp2_with fail
  exact ⟨.slice aJ n cJ, by simp [results, Tryz.results106, go_sem], aJ, cJ, _, rfl, below_in hBW hBx, hFu.less hge, rfl⟩
set_option maxRecDepth 100000 in
set_option maxHeartbeats 8000000 in
theorem cellO {n : Nat} (gt4 gt1 gt5 gt3 k : Nat) (hk : k % 2 = 1) (x : Int) (yn : Nat) (g : Nat) (aA : Option Addr) (cA : Nat) (l s : List UInt8) (hl : l.length = n) (hs : s.length = n) (h1 : 1 ≤ n) (h64 : n ≤ 64) (w : World) (hb : Blk w g 120 #[.func (.func 162) #[] #[.pointer (some ⟨gt4, 0, none⟩), .pointer (some ⟨gt1, 0, none⟩), .pointer (some ⟨gt5, 0, none⟩)], .func (.func 164) #[] #[.pointer (some ⟨gt3, 0, none⟩)], .slice aA n cA]) (ma : Bytes w.heap.size w (.slice aA n cA) l)
    (HF : ∀ V, Below w.heap.size w V → Calls Tryz.prog 164 #[.agg #[.int .i64 x, .int .i64 (yn : Int)], .pointer (some ⟨gt3, 0, none⟩)] V fun e w' => ∃ u, e = .returned u ∧ Bytes w'.heap.size w' u s ∧ Below V.heap.size V w') :
    Calls Tryz.prog 106 #[.pointer (some ⟨g, 0, none⟩), .int .i64 (k : Int), .agg #[.int .i64 x, .int .i64 (yn : Int)]] w fun e w' => ∃ A c w1, e = .returned (.slice A n c) ∧ Below w.heap.size w w1 ∧ Fresh w.heap.size w1 (.slice A n c) (xorOf [l, s]) ∧ w' = w1.setCell ⟨g, 2, none⟩ (.slice A n c) := by
  obtain ⟨w0, hw0⟩ : ∃ x', w.alloc (.cells #[.int .i64 x, .int .i64 (yn : Int)] 55) = x' := ⟨_, rfl⟩
  obtain ⟨gz, hgz⟩ : ∃ x', w.heap.size = x' := ⟨_, rfl⟩
  have bz : Blk w0 gz 55 #[.int .i64 x, .int .i64 (yn : Int)] := by rw [← hw0, ← hgz]; exact Blk.new w _ _
  have hBW : Below w.heap.size w w0 := by rw [← hw0]; exact below_one w _
  have hb0 := hb.below hBW hb.lt
  have HSS : Hid (∀ V, Below w0.heap.size w0 V → (fun U : World => U.cell? ⟨g, 0, none⟩ = some (.func (.func 162) #[] #[.pointer (some ⟨gt4, 0, none⟩), .pointer (some ⟨gt1, 0, none⟩), .pointer (some ⟨gt5, 0, none⟩)]) ∧ U.cell? ⟨g, 1, none⟩ = some (.func (.func 164) #[] #[.pointer (some ⟨gt3, 0, none⟩)]) ∧ U.cell? ⟨g, 2, none⟩ = some (.slice aA n cA) ∧ U.cell? ⟨gz, 0, none⟩ = some (.int .i64 x) ∧ U.cell? ⟨gz, 1, none⟩ = some (.int .i64 (yn : Int))) V) := fun V hV => by
    have hh := hb0.below hV hb0.lt
    exact ⟨hh.cell 0, hh.cell 1, hh.cell 2, (bz.below hV bz.lt).cell 0, (bz.below hV bz.lt).cell 1⟩
  have HFZ : Hid (∀ V, Below w0.heap.size w0 V → V.frozen? ⟨g, 2, none⟩ = false) := fun V hV => (hb0.below hV hb0.lt).frozen 2
  have HFb : Hid (∀ V, Below w.heap.size w V → Calls Tryz.prog 164 #[.agg #[.int .i64 x, .int .i64 (yn : Int)], .pointer (some ⟨gt3, 0, none⟩)] V fun e w' => ∃ u, e = .returned u ∧ Bytes w'.heap.size w' u s ∧ Below V.heap.size V w') := HF
  clear HF
  have HF := HFb
  have hokx : XorOk [l, s] := xor_two h1 h64 hl hs
  have HJL : Hid ((xorOf [l, s]).length = n) := by unfold Hid; rw [xorOf_len]; exact hl
  have HSL := Lib.hid hs
  have HUP := Lib.hid (fun (g' : Nat) (V : World) (aU : Option Addr) (cU : Nat) (hV : Below w.heap.size w V) (bE : Blk V g' 57 #[.slice aA n cA, .slice aU n cU]) (hmU : Bytes V.heap.size V (.slice aU n cU) s) => upon_any (B := V.heap.size) (.slice (some ⟨g', 0, none⟩) 2 2) [l, s] V (Nat.le_refl _) (many2 bE ((ma.below hV).more hV.size) hmU bE.lt) (by simp) hokx)
  have hBx := (Below.refl w0.heap.size w0).drew
  have r0 : ((k : Int).tmod 2) = 1 := by rw [Int.tmod_eq_emod_of_nonneg (by omega)]; omega
  have hent := enter_s2
  clear hb ma hb0 bz hokx hl hs hk h1 h64 HFb
  refine (callsIn_wide (n := 9)).1 ?_
  refine callsIn_of_wp_marks Tryz.func106 rfl trivial ?_ rfl
  simp only [Tryz.ntmps106, List.size_toArray, List.length_cons, List.length_nil, Nat.reduceAdd, Nat.reduceSub, Array.replicate_succ, Array.replicate_zero, List.push_toArray, List.append_toArray, List.nil_append, List.cons_append]
  gi_wp2_with fail
  (try rw [hgz]); (try rw [hw0])
  clear hw0 hgz
  have hS : (fun U : World => U.cell? ⟨g, 0, none⟩ = some (.func (.func 162) #[] #[.pointer (some ⟨gt4, 0, none⟩), .pointer (some ⟨gt1, 0, none⟩), .pointer (some ⟨gt5, 0, none⟩)]) ∧ U.cell? ⟨g, 1, none⟩ = some (.func (.func 164) #[] #[.pointer (some ⟨gt3, 0, none⟩)]) ∧ U.cell? ⟨g, 2, none⟩ = some (.slice aA n cA) ∧ U.cell? ⟨gz, 0, none⟩ = some (.int .i64 x) ∧ U.cell? ⟨gz, 1, none⟩ = some (.int .i64 (yn : Int))) w0.drew := HSS.out _ hBx
  refine wpIn_mono (region_HG (Q := NoPanic _) (S := (fun U : World => U.cell? ⟨g, 0, none⟩ = some (.func (.func 162) #[] #[.pointer (some ⟨gt4, 0, none⟩), .pointer (some ⟨gt1, 0, none⟩), .pointer (some ⟨gt5, 0, none⟩)]) ∧ U.cell? ⟨g, 1, none⟩ = some (.func (.func 164) #[] #[.pointer (some ⟨gt3, 0, none⟩)]) ∧ U.cell? ⟨g, 2, none⟩ = some (.slice aA n cA) ∧ U.cell? ⟨gz, 0, none⟩ = some (.int .i64 x) ∧ U.cell? ⟨gz, 1, none⟩ = some (.int .i64 (yn : Int)))) (m := 18) (by kernel_rfl) ?_) NoPanic.imp
  refine anyHG_takeP [17, 16] (i := 0) (d := 7) (v := .pointer (some ⟨g, 0, none⟩)) (by kernel_rfl) (by kernel_rfl) rfl (by kernel_rfl) (by kernel_rfl) (by kernel_rfl) rfl (by kernel_rfl) (fun _ _ _ h => h) ⟨Or.inl ⟨by rfl, fun w hS => by obtain ⟨h0, h1, h2, h3, h4⟩ := hS; go_simp⟩, fun _ => rfl⟩ hS ?_
  simp only [List.setIfInBounds_toArray, List.set_cons_zero, List.set_cons_succ]
  refine anyHG_takeP [15, 14, 4, 3, 2] (i := 1) (d := 8) (v := .pointer (some ⟨g, 0, none⟩)) (by kernel_rfl) (by kernel_rfl) rfl (by kernel_rfl) (by kernel_rfl) (by kernel_rfl) rfl (by kernel_rfl) (fun _ _ _ h => h) ⟨Or.inl ⟨by rfl, fun w hS => by obtain ⟨h0, h1, h2, h3, h4⟩ := hS; go_simp⟩, fun _ => rfl⟩ hS ?_
  simp only [List.setIfInBounds_toArray, List.set_cons_zero, List.set_cons_succ]
  refine anyHG_takeP [15, 14, 4, 3] (i := 2) (d := 9) (v := .pointer (some ⟨g, 0, none⟩)) (by kernel_rfl) (by kernel_rfl) rfl (by kernel_rfl) (by kernel_rfl) (by kernel_rfl) rfl (by kernel_rfl) (fun _ _ _ h => h) ⟨Or.inl ⟨by rfl, fun w hS => by obtain ⟨h0, h1, h2, h3, h4⟩ := hS; go_simp⟩, fun _ => rfl⟩ hS ?_
  simp only [List.setIfInBounds_toArray, List.set_cons_zero, List.set_cons_succ]
  refine anyHG_takeP [15, 14, 4] (i := 3) (d := 10) (v := .pointer (some ⟨g, 2, none⟩)) (by kernel_rfl) (by kernel_rfl) rfl (by kernel_rfl) (by kernel_rfl) (by kernel_rfl) rfl (by kernel_rfl) (fun _ _ _ h => h) ⟨Or.inl ⟨by rfl, fun w hS => by obtain ⟨h0, h1, h2, h3, h4⟩ := hS; go_simp⟩, fun _ => rfl⟩ hS ?_
  simp only [List.setIfInBounds_toArray, List.set_cons_zero, List.set_cons_succ]
  refine anyHG_takeP [15, 14] (i := 4) (d := 11) (v := .slice aA n cA) (by kernel_rfl) (by kernel_rfl) rfl (by kernel_rfl) (by kernel_rfl) (by kernel_rfl) rfl (by kernel_rfl) (fun _ _ _ h => h) ⟨Or.inl ⟨by rfl, fun w hS => by obtain ⟨h0, h1, h2, h3, h4⟩ := hS; go_simp⟩, fun _ => rfl⟩ hS ?_
  simp only [List.setIfInBounds_toArray, List.set_cons_zero, List.set_cons_succ]
  refine anyHG_takeP [15, 14, 13, 11, 10, 9, 8] (i := 5) (d := 12) (v := .pointer (some ⟨g, 0, none⟩)) (by kernel_rfl) (by kernel_rfl) rfl (by kernel_rfl) (by kernel_rfl) (by kernel_rfl) rfl (by kernel_rfl) (fun _ _ _ h => h) ⟨Or.inl ⟨by rfl, fun w hS => by obtain ⟨h0, h1, h2, h3, h4⟩ := hS; go_simp⟩, fun _ => rfl⟩ hS ?_
  simp only [List.setIfInBounds_toArray, List.set_cons_zero, List.set_cons_succ]
  refine anyHG_takeP [15, 14, 13, 11, 10, 7] (i := 6) (d := 13) (v := .int .i64 (k : Int)) (by kernel_rfl) (by kernel_rfl) rfl (by kernel_rfl) (by kernel_rfl) (by kernel_rfl) rfl (by kernel_rfl) (fun _ _ _ h => h) ⟨Or.inl ⟨by rfl, fun w hS => by obtain ⟨h0, h1, h2, h3, h4⟩ := hS; go_simp⟩, fun _ => rfl⟩ hS ?_
  simp only [List.setIfInBounds_toArray, List.set_cons_zero, List.set_cons_succ]
  refine anyHG_takeP [15, 14, 13, 11, 10] (i := 7) (d := 14) (v := .int .i64 1) (by kernel_rfl) (by kernel_rfl) rfl (by kernel_rfl) (by kernel_rfl) (by kernel_rfl) rfl (by kernel_rfl) (fun _ _ _ h => h) ⟨Or.inl ⟨by rfl, fun w hS => by obtain ⟨h0, h1, h2, h3, h4⟩ := hS; go_simp⟩, fun _ => rfl⟩ hS ?_
  simp only [List.setIfInBounds_toArray, List.set_cons_zero, List.set_cons_succ]
  refine anyHG_takeP [15, 14, 13, 11, 10, 9] (i := 8) (d := 15) (v := .pointer (some ⟨g, 0, none⟩)) (by kernel_rfl) (by kernel_rfl) rfl (by kernel_rfl) (by kernel_rfl) (by kernel_rfl) rfl (by kernel_rfl) (fun _ _ _ h => h) ⟨Or.inl ⟨by rfl, fun w hS => by obtain ⟨h0, h1, h2, h3, h4⟩ := hS; go_simp⟩, fun _ => rfl⟩ hS ?_
  simp only [List.setIfInBounds_toArray, List.set_cons_zero, List.set_cons_succ]
  refine anyHG_takeP [15, 14, 13, 11, 10] (i := 9) (d := 16) (v := .pointer (some ⟨g, 0, none⟩)) (by kernel_rfl) (by kernel_rfl) rfl (by kernel_rfl) (by kernel_rfl) (by kernel_rfl) rfl (by kernel_rfl) (fun _ _ _ h => h) ⟨Or.inl ⟨by rfl, fun w hS => by obtain ⟨h0, h1, h2, h3, h4⟩ := hS; go_simp⟩, fun _ => rfl⟩ hS ?_
  simp only [List.setIfInBounds_toArray, List.set_cons_zero, List.set_cons_succ]
  refine anyHG_takeP [15, 14, 13, 11] (i := 10) (d := 17) (v := .pointer (some ⟨g, 1, none⟩)) (by kernel_rfl) (by kernel_rfl) rfl (by kernel_rfl) (by kernel_rfl) (by kernel_rfl) rfl (by kernel_rfl) (fun _ _ _ h => h) ⟨Or.inl ⟨by rfl, fun w hS => by obtain ⟨h0, h1, h2, h3, h4⟩ := hS; go_simp⟩, fun _ => rfl⟩ hS ?_
  simp only [List.setIfInBounds_toArray, List.set_cons_zero, List.set_cons_succ]
  refine anyHG_takeP [15, 14, 13] (i := 11) (d := 18) (v := .func (.func 164) #[] #[.pointer (some ⟨gt3, 0, none⟩)]) (by kernel_rfl) (by kernel_rfl) rfl (by kernel_rfl) (by kernel_rfl) (by kernel_rfl) rfl (by kernel_rfl) (fun _ _ _ h => h) ⟨Or.inl ⟨by rfl, fun w hS => by obtain ⟨h0, h1, h2, h3, h4⟩ := hS; go_simp⟩, fun _ => rfl⟩ hS ?_
  simp only [List.setIfInBounds_toArray, List.set_cons_zero, List.set_cons_succ]
  refine anyHG_takeP [15, 14, 13] (i := 12) (d := 19) (v := .agg #[.int .i64 x, .int .i64 (yn : Int)]) (by kernel_rfl) (by kernel_rfl) rfl (by kernel_rfl) (by kernel_rfl) (by kernel_rfl) rfl (by kernel_rfl) (fun _ _ _ h => h) ⟨Or.inl ⟨by rfl, fun w hS => by obtain ⟨h0, h1, h2, h3, h4⟩ := hS; go_simp⟩, fun _ => rfl⟩ hS ?_
  simp only [List.setIfInBounds_toArray, List.set_cons_zero, List.set_cons_succ]
  refine anyHG_one (i := 13) (by kernel_rfl) rfl (by kernel_rfl) (by rfl) ?_
  gi_wp2_with fail
  refine ⟨trivial, (callsIn_wide.2 (HF.out _ (below_in hBW hBx))).mono ?_⟩
  rintro e v1 ⟨uv, rfl, hmU, hB⟩
  obtain ⟨aU, cU, rfl, _⟩ := id hmU
  rw [HSL.out] at hmU ⊢
  replace hBx := below_in hBx hB
  clear hS
  have hS : (fun U : World => U.cell? ⟨g, 0, none⟩ = some (.func (.func 162) #[] #[.pointer (some ⟨gt4, 0, none⟩), .pointer (some ⟨gt1, 0, none⟩), .pointer (some ⟨gt5, 0, none⟩)]) ∧ U.cell? ⟨g, 1, none⟩ = some (.func (.func 164) #[] #[.pointer (some ⟨gt3, 0, none⟩)]) ∧ U.cell? ⟨g, 2, none⟩ = some (.slice aA n cA) ∧ U.cell? ⟨gz, 0, none⟩ = some (.int .i64 x) ∧ U.cell? ⟨gz, 1, none⟩ = some (.int .i64 (yn : Int))) v1 := HSS.out _ hBx
  clear hB
  gi_wp2
  try (refine ⟨.inr hS, ?_⟩)
  refine anyHG_one (i := 14) (by kernel_rfl) rfl (by kernel_rfl) (by rfl) ?_
  have hgl_g3 := hBx.size
  have hB : Below v1.heap.size v1 (v1.alloc (.cells #[.slice aA n cA, .slice aU n cU] 57)) := below_one v1 _
  have bE : Blk (v1.alloc (.cells #[.slice aA n cA, .slice aU n cU] 57)) v1.heap.size 57 #[.slice aA n cA, .slice aU n cU] := Blk.new v1 _ _
  obtain ⟨v2, he_v2⟩ : ∃ x, (v1.alloc (.cells #[.slice aA n cA, .slice aU n cU] 57)) = x := ⟨_, rfl⟩
  obtain ⟨g3, hg_g3⟩ : ∃ x, v1.heap.size = x := ⟨_, rfl⟩
  rw [he_v2] at hB bE
  rw [hg_g3] at bE
  replace hmU := (hmU.below hB).more hB.size
  replace hBx := below_in hBx hB
  clear hS
  have hS : (fun U : World => U.cell? ⟨g, 0, none⟩ = some (.func (.func 162) #[] #[.pointer (some ⟨gt4, 0, none⟩), .pointer (some ⟨gt1, 0, none⟩), .pointer (some ⟨gt5, 0, none⟩)]) ∧ U.cell? ⟨g, 1, none⟩ = some (.func (.func 164) #[] #[.pointer (some ⟨gt3, 0, none⟩)]) ∧ U.cell? ⟨g, 2, none⟩ = some (.slice aA n cA) ∧ U.cell? ⟨gz, 0, none⟩ = some (.int .i64 x) ∧ U.cell? ⟨gz, 1, none⟩ = some (.int .i64 (yn : Int))) v2 := HSS.out _ hBx
  gi_wp2
  (try rw [hg_g3]); (try rw [he_v2])
  try (refine ⟨.inr hS, ?_⟩)
  clear hB he_v2 hg_g3
  refine anyHG_one (i := 15) (by kernel_rfl) rfl (by kernel_rfl) (by rfl) ?_
  gi_wp2_with fail
  refine ⟨trivial, (callsIn_wide.2 (HUP.out g3 _ aU cU (below_in hBW hBx) bE hmU)).mono ?_⟩
  rintro e v4 ⟨uj, rfl, hFu, hB⟩
  have hge := (below_in hBW hBx).size
  obtain ⟨aJ, cJ, rfl, _⟩ := id hFu
  rw [HJL.out] at hFu ⊢
  replace bE := bE.below hB bE.lt
  replace hmU := (hmU.below hB).more hB.size
  replace hBx := below_in hBx hB
  clear hS
  have hS : (fun U : World => U.cell? ⟨g, 0, none⟩ = some (.func (.func 162) #[] #[.pointer (some ⟨gt4, 0, none⟩), .pointer (some ⟨gt1, 0, none⟩), .pointer (some ⟨gt5, 0, none⟩)]) ∧ U.cell? ⟨g, 1, none⟩ = some (.func (.func 164) #[] #[.pointer (some ⟨gt3, 0, none⟩)]) ∧ U.cell? ⟨g, 2, none⟩ = some (.slice aA n cA) ∧ U.cell? ⟨gz, 0, none⟩ = some (.int .i64 x) ∧ U.cell? ⟨gz, 1, none⟩ = some (.int .i64 (yn : Int))) v4 := HSS.out _ hBx
  clear hB
  gi_wp2
  try (refine ⟨.inr hS, ?_⟩)
  refine anyHG_takeP [17] (i := 16) (d := 23) (v := .pointer (some ⟨g, 0, none⟩)) (by kernel_rfl) (by kernel_rfl) rfl (by kernel_rfl) (by kernel_rfl) (by kernel_rfl) rfl (by kernel_rfl) (fun _ _ _ h => h) ⟨Or.inl ⟨by rfl, fun w hS => by obtain ⟨h0, h1, h2, h3, h4⟩ := hS; go_simp⟩, fun _ => rfl⟩ hS ?_
  simp only [List.setIfInBounds_toArray, List.set_cons_zero, List.set_cons_succ]
  refine anyHG_takeP [] (i := 17) (d := 24) (v := .pointer (some ⟨g, 2, none⟩)) (by kernel_rfl) (by kernel_rfl) rfl (by kernel_rfl) (by kernel_rfl) (by kernel_rfl) rfl (by kernel_rfl) (fun _ _ _ h => h) ⟨Or.inl ⟨by rfl, fun w hS => by obtain ⟨h0, h1, h2, h3, h4⟩ := hS; go_simp⟩, fun _ => rfl⟩ hS ?_
  simp only [List.setIfInBounds_toArray, List.set_cons_zero, List.set_cons_succ]
  refine anyHG_one (i := 18) (by kernel_rfl) rfl (by kernel_rfl) (by rfl) ?_
  have f0 := HFZ.out _ hBx
  obtain ⟨h0, h1, h2, h3, h4⟩ := hS
  gi_wp2
  refine anyHG_done (by kernel_rfl) ?_ _
  refine NoPanic.normal ?_
  gi_wp2_with fail
  exact ⟨.slice aJ n cJ, by simp [results, Tryz.results106, go_sem], aJ, cJ, _, rfl, below_in hBW hBx, hFu.less hge, rfl⟩
end Go.Proofs.YtfihlelhpmjpaaaGreatDoor.Ch

namespace Go.Proofs.YtfihlelhpmjpaaaGreatDoor.T
open Go.RowKit Go.Shelf Go.Maps Go.Proofs.YtfihlelhpmjpaaaGreatDoor.C Go.Proofs.YtfihlelhpmjpaaaGreatDoor.E Go.Proofs.YtfihlelhpmjpaaaGreatDoor.Ch
set_option linter.unusedSimpArgs false
set_option linter.unusedVariables false
attribute [local go_sem] Oper.semAt_some

/-- To what a cell comes beside the one ahead of it. -/
def stepF (P Q n : Nat) (R D : List (List UInt8)) (z : Int × Int × Int) : List UInt8 := if z.1 % 2 = 0 then xorOf [Rg.wholeF Q n D ((z.2.1 + z.2.2) % (P : Int)).toNat, adjF R D] else R[z.2.2.toNat]?.getD []
/-- The last cell told. -/
def aheadF (P Q n : Nat) (R D : List (List UInt8)) (pre : List (Int × Int × Int)) : List UInt8 := pre.foldl (fun l z => xorOf [l, stepF P Q n R D z]) (List.replicate n 0)
def toldF (P Q n : Nat) (R D : List (List UInt8)) (pre : List (Int × Int × Int)) : List (List UInt8) := (List.range pre.length).map fun j => aheadF P Q n R D (pre.take (j + 1))
theorem aheadF_snoc (P Q n : Nat) (R D : List (List UInt8)) (pre : List (Int × Int × Int)) (z : Int × Int × Int) : aheadF P Q n R D (pre ++ [z]) = xorOf [aheadF P Q n R D pre, stepF P Q n R D z] := by unfold aheadF; rw [List.foldl_append]; rfl
theorem toldF_len (P Q n : Nat) (R D : List (List UInt8)) (pre : List (Int × Int × Int)) : (toldF P Q n R D pre).length = pre.length := by unfold toldF; simp
theorem toldF_snoc (P Q n : Nat) (R D : List (List UInt8)) (pre : List (Int × Int × Int)) (z : Int × Int × Int) : toldF P Q n R D (pre ++ [z]) = toldF P Q n R D pre ++ [aheadF P Q n R D (pre ++ [z])] := by
  unfold toldF
  rw [List.length_append, show pre.length + [z].length = pre.length + 1 from rfl, List.range_succ, List.map_append]
  congr 1
  · refine List.map_congr_left fun j hj => ?_
    have := List.mem_range.1 hj
    rw [List.take_append_of_le_length (by omega)]
  · rw [List.map_cons, List.map_nil, List.take_of_length_le (by simp)]
theorem aheadF_len (P Q n : Nat) (R D : List (List UInt8)) : ∀ (pre : List (Int × Int × Int)), (aheadF P Q n R D pre).length = n := by
  intro pre
  have h : ∀ (l : List (Int × Int × Int)) (c : List UInt8), c.length = n → (l.foldl (fun l z => xorOf [l, stepF P Q n R D z]) c).length = n := fun l => by
    induction l with
    | nil => intro c hc; exact hc
    | cons z l ih => intro c hc; exact ih _ (by rw [xorOf_len]; exact hc)
  exact h pre _ (by simp)
theorem stepF_len {P Q n : Nat} {R D : List (List UInt8)} (hQ : P = Q + 1) (hR : GoodC Q n R) (hD : GoodC Q n D) (z : Int × Int × Int) (hy : 0 ≤ z.2.2 ∧ z.2.2 < (P : Int) - 1) : (stepF P Q n R D z).length = n := by
  unfold stepF
  split
  · rw [xorOf_len]; exact whole_len hD _
  · exact (hR.2 _ (by omega)).2
theorem cell_step {P Q n : Nat} {R D : List (List UInt8)} (d : Rg.Dims P Q n) (hR : GoodC Q n R) (hD : GoodC Q n D) {f1 f2 : Value} {S0 : World → Prop} (hT : SumsT P Q n R D f1 f2 S0) (z : Int × Int × Int) (hk : 0 ≤ z.1) (hx : 0 ≤ z.2.1 ∧ z.2.1 < (P : Int)) (hy : 0 ≤ z.2.2 ∧ z.2.2 < (P : Int) - 1) (g : Nat) (aA : Option Addr) (cA : Nat) (l : List UInt8) (hl : l.length = n) (w : World) (hw : ∀ V, Below w.heap.size w V → S0 V) (hb : Blk w g 120 #[f1, f2, .slice aA n cA]) (ma : Bytes w.heap.size w (.slice aA n cA) l) :
    Calls Tryz.prog 106 #[.pointer (some ⟨g, 0, none⟩), .int .i64 z.1, .agg #[.int .i64 z.2.1, .int .i64 z.2.2]] w fun e w' => ∃ A c w1, e = .returned (.slice A n c) ∧ Below w.heap.size w w1 ∧ Fresh w.heap.size w1 (.slice A n c) (xorOf [l, stepF P Q n R D z]) ∧ w' = w1.setCell ⟨g, 2, none⟩ (.slice A n c) := by
  have hQ := d.hQ
  have hs := stepF_len hQ hR hD z hy
  obtain ⟨k, x, y⟩ := z
  obtain ⟨kn, rfl⟩ : ∃ kn : Nat, k = (kn : Int) := ⟨k.toNat, by simp at hk; omega⟩
  obtain ⟨yn, rfl⟩ : ∃ yn : Nat, y = (yn : Int) := ⟨y.toNat, by simp at hy; omega⟩
  have hyn : yn < Q := by simp at hy; omega
  obtain ⟨gt4, gt1, gt5, gt3, rfl, rfl, h⟩ := hT
  by_cases h2 : kn % 2 = 0
  · have e : stepF P Q n R D ((kn : Int), x, (yn : Int)) = xorOf [Rg.wholeF Q n D ((x + (yn : Int)) % (P : Int)).toNat, adjF R D] := by unfold stepF; rw [if_pos (by show (kn : Int) % 2 = 0; omega)]
    rw [e] at hs ⊢
    exact cellE gt4 gt1 gt5 gt3 kn h2 x yn g aA cA l _ hl hs d.h1 d.h64 w hb ma (fun V hV => (h V (hw V hV) x yn hx hyn).1)
  · have e : stepF P Q n R D ((kn : Int), x, (yn : Int)) = R[yn]?.getD [] := by unfold stepF; rw [if_neg (by show ¬ (kn : Int) % 2 = 0; omega)]; rfl
    rw [e] at hs ⊢
    exact cellO gt4 gt1 gt5 gt3 kn (by omega) x yn g aA cA l _ hl hs d.h1 d.h64 w hb ma (fun V hV => (h V (hw V hV) x yn hx hyn).2)
theorem SumsT.imp {P Q n : Nat} {R D : List (List UInt8)} {f1 f2 : Value} {S0 S1 : World → Prop} (h : SumsT P Q n R D f1 f2 S0) (hS : ∀ V, S1 V → S0 V) : SumsT P Q n R D f1 f2 S1 := by
  obtain ⟨gt4, gt1, gt5, gt3, h1, h2, h3⟩ := h
  exact ⟨gt4, gt1, gt5, gt3, h1, h2, fun V hV => h3 V (hS V hV)⟩
theorem cells_of {w : World} {p : Addr} {v : Value} (h : w.cell? p = some v) : ∃ cs t fr, w.heap[p.block]? = some (.cells cs t fr) := by
  unfold World.cell? at h
  split at h
  · rename_i c t fr he
    exact ⟨c, t, fr, he⟩
  · cases h
theorem chn_mem {p a b : Int} {rs : List Int} {pre : List (Int × Int × Int)} {x : Int × Int × Int} (h : OkC p a b rs pre x) (ha : 0 ≤ a ∧ a < p) (hb : 0 ≤ b ∧ b < p) : 0 ≤ x.1 ∧ (0 ≤ x.2.1 ∧ x.2.1 < p) := by
  obtain ⟨h1, rfl⟩ := okC_at h
  refine ⟨by show (0 : Int) ≤ (pre.length : Int); omega, ?_⟩
  show 0 ≤ (if pre.length % 2 = 0 then b else a) ∧ (if pre.length % 2 = 0 then b else a) < p
  split
  · exact hb
  · exact ha
end Go.Proofs.YtfihlelhpmjpaaaGreatDoor.T

