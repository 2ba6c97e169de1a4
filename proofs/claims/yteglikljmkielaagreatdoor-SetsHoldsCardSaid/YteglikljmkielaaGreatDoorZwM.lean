/- Sets: what is gathered. -/
import Derived.Test.YteglikljmkielaaGreatDoorZwJ
import Derived.RangeFuncNested
namespace Go.Proofs.YteglikljmkielaaGreatDoor
open Go.RowKit Go.Shelf
set_option linter.unusedSimpArgs false
set_option linter.unusedVariables false
attribute [local go_sem] Oper.semAt_some

theorem codeCells_one (l : List (Int × Int)) (x y : Int) : codeCells (l ++ [(x, y)]) = codeCells l ++ [.int .i64 x, .int .i64 y] := by unfold codeCells; rw [List.flatMap_append]; rfl
/-- append of one place more to a row of the call's own, in a round. -/
theorem wpListIn_place {F : Fence} {nF : Nat} (w : World) {ops : Array Oper} {rest : List Oper} {o : Oper} {a : Act} {Q : Exit → Act → World → Prop} (hgd : o.guard = none) (s x : Operand)
    (ho : o.op = .call { callee := .builtin .append, args := #[s, x], argTypes := #[61, 61] })
    (base : Nat) (v : Value) (l : List (Int × Int)) (hs : a.eval s = v) (hown : OwnP w base v l) (g : Nat) (p1 p2 : Int) (hx : a.eval x = .slice (some ⟨g, 0, none⟩) 1 1) (hu : Blk w g 59 #[.int .i64 p1, .int .i64 p2])
    (hlen : l.length ≤ 1000000000) (hbase : base ≤ w.heap.size)
    (h : ∀ v' w', OwnP w' base v' (l ++ [(p1, p2)]) → w.grownBy w' v.ownBlock → (v'.ownBlock = v.ownBlock ∨ v'.ownBlock = some w.heap.size) → wpListIn F nF Tryz.prog ops Q rest (a.put o.dst v') w') : wpListIn F nF Tryz.prog ops Q (o :: rest) a w := by
  obtain ⟨i, hi, hz0, hz1, hz2⟩ := info_parts Tryz.infoPlace
  refine wpListIn_append_own_at w hgd s x 61 ho base 59 i (.agg #[.int .i64 0, .int .i64 0]) 2 16 Tryz.underlying61 hi hz0 hz1 hz2 rfl (by omega) v l.length (codeCells l) hs hown ⟨g, 0, none⟩ 1 1 [.int .i64 p1, .int .i64 p2] hx rfl
    (by intro j y hy
        rw [addr_add, Nat.zero_add, hu.cell j, List.getElem?_toArray]
        exact hy)
    (by intro y hy; simp only [List.mem_cons, List.not_mem_nil, or_false] at hy; rcases hy with rfl | rfl <;> rfl) (by unfold maxLen; omega) (by omega) hbase ?_
  intro v' w' h1 h2 h4 h3
  refine h v' w' ?_ h2 h3
  unfold OwnP
  rw [codeCells_one, List.length_append]
  exact h1
theorem OwnP.far {w : World} {base : Nat} {v : Value} {l : List (Int × Int)} (h : OwnP w base v l) {p : Addr} (hp : some p.block ≠ v.ownBlock) (u : Value) : OwnP (w.setCell p u) base v l := by
  refine ⟨h.1, ?_⟩
  rcases h.2 with h1 | ⟨g, cap, cur, e, h2, hg, rest⟩
  · exact .inl h1
  · exact .inr ⟨g, cap, cur, e, h2, (Below.heap_setCell w p u g (fun e2 => hp (by rw [e, ← e2]; rfl))).trans hg, rest⟩
theorem OwnP.kept {w w' : World} {base : Nat} {v : Value} {l : List (Int × Int)} (h : OwnP w base v l) {row : Option Nat} (hg : w.grownBy w' row) (hne : v.ownBlock = none ∨ v.ownBlock ≠ row) : OwnP w' base v l := World.ownsRow.kept h hg hne
theorem OwnP.blks {w w' : World} {base : Nat} {v : Value} {l : List (Int × Int)} (h : OwnP w base v l) (hk : ∀ g t cs, Blk w g t cs → Blk w' g t cs) : OwnP w' base v l :=
  ⟨h.1, h.2.imp id fun ⟨g, cap, cur, e, h2, hg, rest⟩ => ⟨g, cap, cur, e, h2, hk _ _ _ hg, rest⟩⟩
theorem OwnP.rowO {w : World} {base : Nat} {v : Value} {l : List (Int × Int)} (h : OwnP w base v l) : RowO v.ownBlock w := fun b e => by
  rcases h.2 with ⟨rfl, _⟩ | ⟨g, cap, cur, rfl, _, hg, _⟩
  · cases e
  · injection e with e
    subst e
    exact ⟨_, _, _, hg⟩
theorem laid_put {W : World} (h : Laid W) {l : Nat} (hl : ∃ r, W.heap[l]? = some (.loop r)) (ob : Obj) : Laid (W.putObj l ob) := by
  obtain ⟨r, hr⟩ := hl
  have h1 : ∀ {g : Nat} {cs : Array Value}, LaidAt g cs W → LaidAt g cs (W.putObj l ob) := fun {g cs} ⟨t, fr, hg⟩ => ⟨t, fr, (World.putObj_heap_other (fun e => by rw [e, hr] at hg; cases hg)).trans hg⟩
  exact ⟨h1 h.1, h1 h.2⟩

set_option maxRecDepth 100000 in
set_option maxHeartbeats 4000000 in
theorem gathered_any (q : Int → Int → Bool) (zs : List (Int × Int)) (hzl : zs.length ≤ 1000) (lo : Nat) (v1 v2 : Value) (W : World) (hL : Laid W) (hlo : lo ≤ W.heap.size) (h1 : Asks q v1 W) (h2 : Seqs lo zs v2 W) :
    Calls Tryz.prog 40 #[v1, v2] W fun e w' => ∃ u, e = .returned u ∧ OwnP w' W.heap.size u (zs.filter fun x => q x.1 x.2) ∧ Below W.heap.size W w' := by
  obtain ⟨gf, lb, rfl, eg, hg⟩ := h2
  obtain ⟨qf, qb, rfl, eqf, hq⟩ := h1
  obtain ⟨w7, hw7⟩ : ∃ w7, (W.alloc (.cells #[.func (.func qf) #[] qb] 49)).alloc (.cells #[.slice none 0 0] 61) = w7 := ⟨_, rfl⟩
  have b0 : Blk w7 W.heap.size 49 #[.func (.func qf) #[] qb] := by rw [← hw7]; exact (Blk.new W _ _).alloc _
  have b1 : Blk w7 (W.heap.size + 1) 61 #[.slice none 0 0] := by rw [← hw7]; exact Blk.second W _ _ _
  have hB : Below W.heap.size W w7 := by rw [← hw7]; exact below_two W _ _
  have s7 : w7.heap.size = W.heap.size + 2 := by rw [← hw7]; simp
  have hL7 := hL.next hB
  refine (callsIn_wide (n := 9)).1 ?_
  refine callsIn_of_wp_marks Tryz.func40 rfl trivial ?_ rfl
  simp only [Tryz.ntmps40, List.size_toArray, List.length_cons, List.length_nil, Nat.reduceAdd, Nat.reduceSub, Array.replicate_succ, Array.replicate_zero, List.push_toArray, List.append_toArray, List.nil_append, List.cons_append]
  gi_wp2_with fail
  clear hw7
  refine wpIn_rangeBoxO rfl (by omega) (gf := gf) (lb := lb) rfl trivial eg (hg _ (by omega)) (fun h h' => h.trans h') (fun V l ob hl _ hlp => ⟨Keep.putFar V (by omega) ob, fun h => laid_put h hlp ob⟩) hB (fun _ => rfl)
    (fun pre o X => ∃ v, Blk X (W.heap.size + 1) 61 #[v] ∧ OwnP X (W.heap.size + 2) v (pre.filter fun x => q x.1 x.2) ∧ v.ownBlock = o ∧ Blk X W.heap.size 49 #[.func (.func qf) #[] qb] ∧ Below W.heap.size W X)
    (fun _ _ _ _ => False) ?hI (fun c s o X Y row hs _ _ => hs) none (fun b e => by cases e) ⟨_, b1, ownP_nil _ _, rfl, b0, hB⟩
    (fun _ => True) (fun _ _ _ => trivial) 59 (fun z : Int × Int => #[.int .i64 z.1, .int .i64 z.2]) ?a1
    ?assign (fun pre o X h => by obtain ⟨v, _, ho, rfl, _⟩ := h; exact ho.rowO) (fun c pre o X h => h.elim) ?body ?done (fun D c pre o X _ _ _ h => h.elim)
  case hI =>
    rintro s o X Y row ⟨v, hb1, ho, rfl, hb0, hBX⟩ hgr hr
    have hne : ∀ g, g < w7.heap.size → some g ≠ row := fun g hg e => by have := (hr g e.symm).1; omega
    refine ⟨v, hb1.grown hgr (hne _ (by omega)), ho.kept hgr ?_, rfl, hb0.grown hgr (hne _ (by omega)), hBX.grown hgr hBX.size (fun r e => by have := (hr r e).1; omega)⟩
    cases hrow : row with
    | none => exact (Option.eq_none_or_eq_some v.ownBlock).imp id (fun ⟨x, hx⟩ => by rw [hx]; simp)
    | some r => exact .inr (fun e => (hr r hrow).2 e.symm)
  case assign =>
    rintro l' pre z o X KK hsz hol ⟨v, hb1, ho, rfl, hb0, hBX⟩ _ hKK
    gi_wp2
    have hbx := Blk.new X 59 #[.int .i64 z.1, .int .i64 z.2]
    have hBz := below_one X (.cells #[.int .i64 z.1, .int .i64 z.2] 59)
    have hSi : SinceO w7.heap.size v.ownBlock X (X.alloc (.cells #[.int .i64 z.1, .int .i64 z.2] 59)) := SinceO.below hBz
    have hKe : KeepL lo (W.heap.size - lo) X (X.alloc (.cells #[.int .i64 z.1, .int .i64 z.2] 59)) := ⟨Keep.alloc (by omega) _, fun h => h.next hBz⟩
    have h1' := hb1.below hBz hb1.lt
    have h2' := ho.below hBz
    have h3' := hb0.below hBz hb0.lt
    have h4' := below_in hBX hBz
    have hne : some X.heap.size ≠ v.ownBlock := fun e => by have := hol _ e.symm; omega
    clear hBz hol hb1 ho hb0 hBX
    generalize X.alloc (.cells #[.int .i64 z.1, .int .i64 z.2] 59) = X' at *
    generalize X.heap.size = Bx at *
    exact hKK Bx _ hSi hKe ⟨v, h1', h2', rfl, h3', h4'⟩ hbx hne hsz
  case body =>
    rintro l' pre z o Bx X hsz ⟨v, hb1, ho, rfl, hb0, hBX⟩ hbx hne hle _ hlz
    have c0 := hb0.one
    have z0 := hbx.cell 0
    have z1 := hbx.cell 1
    simp only [List.getElem?_toArray, List.getElem?_cons_zero, List.getElem?_cons_succ] at z0 z1
    have HA := Lib.hid (hq z.1 z.2 X (Sub.below hBX))
    have hol := ho.rowO.lt
    cases hqz : q z.1 z.2 with
    | false =>
      rw [hqz] at HA
      have hfl : (pre ++ [z]).filter (fun x => q x.1 x.2) = pre.filter fun x => q x.1 x.2 := by simp [List.filter_append, hqz]
      gi_wp2_with fail
      refine ⟨trivial, (CallsIn.inRound l' (callsIn_wide.2 HA.out)).mono ?_⟩
      rintro e Xa ⟨rfl, hBa⟩
      gi_wp2
      exact ⟨v.ownBlock, .inl rfl, SinceO.below hBa, ⟨Keep.below hBa (by omega), fun h => h.next hBa⟩, v, hb1.below hBa hb1.lt, by rw [hfl]; exact ho.below hBa, rfl, hb0.below hBa hb0.lt, below_in hBX hBa⟩
    | true =>
      rw [hqz] at HA
      have hfl : (pre ++ [z]).filter (fun x => q x.1 x.2) = (pre.filter fun x => q x.1 x.2) ++ [z] := by simp [List.filter_append, hqz]
      have hfn : (pre.filter fun x => q x.1 x.2).length ≤ 1000 := by have := List.length_filter_le (fun x : Int × Int => q x.1 x.2) pre; omega
      have HF := Lib.hid hfl
      clear hfl
      generalize (pre.filter fun x => q x.1 x.2) = fl at *
      gi_wp2_with fail
      refine ⟨trivial, (CallsIn.inRound l' (callsIn_wide.2 HA.out)).mono ?_⟩
      rintro e Xa ⟨rfl, hBa⟩
      clear HA hq hqz c0 z0 z1
      have hbxa := hbx.below hBa hbx.lt
      have hb1a := hb1.below hBa hb1.lt
      have z0 := hbxa.cell 0
      have z1 := hbxa.cell 1
      have c1 := hb1a.one
      simp only [List.getElem?_toArray, List.getElem?_cons_zero, List.getElem?_cons_succ] at z0 z1
      have hBb := below_one Xa (.cells #[.int .i64 z.1, .int .i64 z.2] 59)
      have HO := Lib.hid ((ho.below hBa).below hBb)
      have HU := Lib.hid (Blk.new Xa 59 #[.int .i64 z.1, .int .i64 z.2])
      have hb1b := hb1a.below hBb hb1a.lt
      have hb0b := (hb0.below hBa hb0.lt).below hBb (by have := hBa.size; have := hb0.lt; omega)
      have hBab := below_in hBa hBb
      have hn1 : some (W.heap.size + 1) ≠ v.ownBlock := fun e => by have := ho.own_le _ e.symm; omega
      have hn0 : some W.heap.size ≠ v.ownBlock := fun e => by have := ho.own_le _ e.symm; omega
      have hva := ho.own_le
      have hsa := hBa.size
      have hsb := hBb.size
      gi_wp2_with (gi_at_builtin; refine wpListIn_place _ rfl _ _ rfl (W.heap.size + 2) v _ rfl HO.out Xa.heap.size z.1 z.2 rfl HU.out (by omega) (by simp; omega) ?_; intro v2 w3 ho2 hg2 hd2; (have hfm := World.ownsRow.form ho2 (by simp)); (obtain ⟨g2, cap2, hv2, _, _⟩ := hfm); (generalize (fl ++ [(z.1, z.2)]).length = N at hv2); subst hv2; have hb3 := hb1b.grown hg2 hn1; have hb30 := hb0b.grown hg2 hn0; have c3 := hb3.one; have f3 := hb3.frozen 0)
      have hs3 := hg2.size
      have hn2 : some (W.heap.size + 1) ≠ (Value.slice (some ⟨g2, 0, none⟩) N cap2).ownBlock := fun e => by have := ho2.own_le _ e.symm; omega
      have hfr : FreshO v.ownBlock (Value.slice (some ⟨g2, 0, none⟩) N cap2).ownBlock X := by
        rcases hd2 with h | h
        · exact .inl h
        · exact .inr ⟨_, h, by simp; omega⟩
      have hsi : SinceO w7.heap.size v.ownBlock X (w3.setCell ⟨W.heap.size + 1, 0, none⟩ (Value.slice (some ⟨g2, 0, none⟩) N cap2)) :=
        (SinceO.below hBab).trans_ ⟨by simpa using hs3, fun b h1 h2 h3 => (Below.heap_setCell w3 _ (Value.slice (some ⟨g2, 0, none⟩) N cap2) b (by simp; omega)).trans (hg2.block b h2 h3)⟩
      have hke : Keep lo (W.heap.size - lo) X (w3.setCell ⟨W.heap.size + 1, 0, none⟩ (Value.slice (some ⟨g2, 0, none⟩) N cap2)) :=
        ((Keep.below hBab (by omega)).trans (Keep.grown hg2 (by omega) (fun r e => .inr (by have := hva r e; omega)))).trans (Keep.setFar w3 (by simp; omega) (Value.slice (some ⟨g2, 0, none⟩) N cap2))
      have hla : Laid X → Laid (w3.setCell ⟨W.heap.size + 1, 0, none⟩ (Value.slice (some ⟨g2, 0, none⟩) N cap2)) := fun _ => hL.next (((below_in hBX hBab).grown hg2 (by have := hBX.size; have := hBab.size; omega) (fun r e => by have := hva r e; omega)).setCell (by simp) (Value.slice (some ⟨g2, 0, none⟩) N cap2))
      have hbe : Below W.heap.size W (w3.setCell ⟨W.heap.size + 1, 0, none⟩ (Value.slice (some ⟨g2, 0, none⟩) N cap2)) := ((below_in hBX hBab).grown hg2 (by have := hBX.size; have := hBab.size; omega) (fun r e => by have := hva r e; omega)).setCell (by simp) (Value.slice (some ⟨g2, 0, none⟩) N cap2)
      exact ⟨(Value.slice (some ⟨g2, 0, none⟩) N cap2).ownBlock, hfr, hsi, ⟨hke, hla⟩, (Value.slice (some ⟨g2, 0, none⟩) N cap2), hb3.set_ 0 (Value.slice (some ⟨g2, 0, none⟩) N cap2), by rw [HF.out]; exact ho2.far hn2 (Value.slice (some ⟨g2, 0, none⟩) N cap2), rfl, hb30.far (by simp) (Value.slice (some ⟨g2, 0, none⟩) N cap2), hbe⟩
  case done =>
    rintro D xs o X hD hf rfl ⟨v, hb1, ho, rfl, hb0, hBX⟩ hKD hne
    have c1 := hb1.one
    gi_wp2
    refine leaves_blks W [D] X ⟨by simp, fun E hE => ?_⟩ hBX (fun W' hB' hk => ?_)
    · obtain rfl := List.mem_singleton.1 hE
      exact ⟨by omega, hKD⟩
    · exact ⟨v, by simp [results, Tryz.results40, go_sem], v, rfl, (ho.blks hk).less (by omega), hB'⟩
end Go.Proofs.YteglikljmkielaaGreatDoor
