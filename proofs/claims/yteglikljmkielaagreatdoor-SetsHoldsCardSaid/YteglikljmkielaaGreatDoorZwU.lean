/- Sets: the cells that are made; those of which a place is a member. -/
import Derived.Test.YteglikljmkielaaGreatDoorZwT
namespace Go.Proofs.YteglikljmkielaaGreatDoor
open Go.RowKit Go.Shelf
set_option linter.unusedSimpArgs false
set_option linter.unusedVariables false
attribute [local go_sem] Oper.semAt_some

/-- A range whose variable lies in a block of its own, of what comes Pr standing. -/
theorem wpIn_rangeBoxP {α : Type} {F : Fence} {n : Nat} {P : Program} {g : Operand} {ps : Array Tmp} {assign body : Code} {Q : Exit → Act → World → Prop} {a : Act} {w : World}
    (hro : F.round = none) (h1 : 1 ≤ n) {gf : Nat} {lb : Array Value} (hg : a.eval g = .func (.func gf) #[] lb) (hFg : F.fn gf) (eg : ∀ args w, (callFunc gf args).run P w = .ok (.enter gf args) w)
    {encs : α → Array Value} {Ok : α → World → Prop} {Kp : World → World → Prop} {S Sp : List α → Prop} {N : Nat} {w0 : World} (hseq : SeqO F (n - 1) P gf lb encs Ok Kp S Sp N w0)
    (hKt : ∀ {A B C : World}, Kp A B → Kp B C → Kp A C) (hKb : ∀ (W : World) (l : Nat) (ob : Obj), w.heap.size ≤ l → l < W.heap.size → (∃ r, W.heap[l]? = some (.loop r)) → Kp W (W.putObj l ob)) (hb0 : Below w0.heap.size w0 w) (hps : ∀ x, (encs x).size = ps.size)
    (I : List α → Option Nat → World → Prop) (Ix : Code → List α → Option Nat → World → Prop) (hI : FarO w.heap.size I) (hIx : ∀ c, FarO w.heap.size (Ix c)) (o₀ : Option Nat) (ho₀ : ∀ b, o₀ = some b → b < w.heap.size) (h0 : I [] o₀ w)
    (Pr : α → World → Prop) (hPl : ∀ x (W : World) (l : Nat) (ob : Obj), (∃ r, W.heap[l]? = some (.loop r)) → Pr x W → Pr x (W.putObj l ob)) (t : TypeId) (cs : α → Array Value) (a₁ : α → Nat → Act)
    (hassign : ∀ (l : Nat) (pre : List α) (x : α) (o : Option Nat) (W : World) (K : Act → World → Prop), w.heap.size ≤ W.heap.size → (∀ b, o = some b → b < W.heap.size) → I pre o W → Ok x W → (∀ Bx W', SinceO w.heap.size o W W' → Kp W W' → I pre o W' → Blk W' Bx t (cs x) → some Bx ≠ o → w.heap.size ≤ Bx → Pr x W' → K (a₁ x Bx) W') →
      assign.wpIn (F.inRound l) (n - 1 - 1) P (Exit.then K (fun _ _ _ => False)) { tmps := (ps.zip (encs x)).foldl (fun t (p, v) => t.setIfInBounds p v) a.tmps, defers := [] } W)
    (hrow : ∀ pre o W, I pre o W → RowO o W) (hrowx : ∀ c pre o W, Ix c pre o W → RowO o W)
    (hbody : ∀ (l : Nat) (pre : List α) (x : α) (o : Option Nat) (Bx : Nat) (W : World), w.heap.size ≤ W.heap.size → I pre o W → Blk W Bx t (cs x) → some Bx ≠ o → w.heap.size ≤ Bx → Pr x W → pre.length < N →
      body.wpIn (F.inRound l) (n - 1 - 1) P (postO w.heap.size Kp I Ix (pre ++ [x]) o W) (a₁ x Bx) W)
    (hdone : ∀ (D : Nat) (xs : List α) (o : Option Nat) (W : World), w.heap.size ≤ D → FreshO o₀ o w → S xs → I xs o W → W.heap[D]? = some (.deferred (some [])) → some D ≠ o → Q .normal { a with defers := { target := .collected D, args := #[] } :: a.defers } W)
    (hstop : ∀ (D : Nat) (c : Code) (pre : List α) (o : Option Nat) (W : World), w.heap.size ≤ D → FreshO o₀ o w → Sp pre → Ix c pre o W → W.heap[D]? = some (.deferred (some [])) → some D ≠ o → c.wpIn F n P Q { a with defers := { target := .collected D, args := #[] } :: a.defers } W) :
    (Code.rangeFunc g ps assign body).wpIn F n P Q a w :=
  wpIn_rangeO hro h1 hg hFg eg hseq hKt hKb hb0 hps I Ix hI hIx o₀ ho₀ h0 (fun x o a' W => ∃ Bx, Blk W Bx t (cs x) ∧ some Bx ≠ o ∧ w.heap.size ≤ Bx ∧ Pr x W ∧ a' = a₁ x Bx)
    (fun x o a' W l ob r hl ⟨Bx, hb, hne, hle, hp, e⟩ => ⟨Bx, (World.putObj_heap_other (fun e2 => by unfold Blk at hb; rw [e2, hl] at hb; cases hb)).trans hb, hne, hle, hPl _ _ _ _ ⟨r, hl⟩ hp, e⟩)
    (fun l pre x o W K hs hol hi hok hK => hassign l pre x o W K hs hol hi hok fun Bx W' h2 h3 h4 h5 h6 h7 h8 => hK _ _ h2 h3 h4 ⟨Bx, h5, h6, h7, h8, rfl⟩) hrow hrowx
    (fun l pre x o a' W hs hi ⟨Bx, hb, hne, hle, hp, e⟩ hlt => by subst e; exact hbody l pre x o Bx W hs hi hb hne hle hp hlt) hdone hstop

/-- The function v goes over the made cells zs, each with what asks for its members. -/
def Seqs2 (lo : Nat) (k p : Int) (zs : List (Int × Int)) (v : Value) (w : World) : Prop :=
  ∃ gf lb, v = .func (.func gf) #[] lb ∧ (∀ args W, (callFunc gf args).run Tryz.prog W = .ok (.enter gf args) W) ∧
    ∀ n, 9 ≤ n → SeqO Fence.wide n Tryz.prog gf lb (fun x : (Int × Int) × Value => #[.agg #[.int .i64 x.1.1, .int .i64 x.1.2], x.2]) (fun x W => Asks (memB k p x.1.1 x.1.2) x.2 W) (KeepL lo (w.heap.size - lo)) (fun ys => ys.map (·.1) = zs) (fun pre => pre.map (·.1) <+: zs) 1000 w
theorem enter_made1 : ∀ args W, (callFunc 62 args).run Tryz.prog W = .ok (.enter 62 args) W := enters_of Tryz.func62 (by kernel_rfl) rfl

set_option maxHeartbeats 1000000 in
theorem made_any (k p d c : Int) (hR : RightC k p) (hd : d = p - shortN k) (hc : c = p - shortN k + madeN k) (w : World) (hL : Laid w) :
    Calls Tryz.prog 50 #[.agg #[.int .i64 k, .int .i64 p, .int .i64 d, .int .i64 c]] w fun e w' => ∃ u, e = .returned u ∧ Seqs2 w.heap.size k p (flatC p (spanL d c)) u w' ∧ Below w.heap.size w w' := by
  have hmf := make_func
  have HDD := Lib.hid hd
  have HCC := Lib.hid hc
  clear hd hc
  have bg := Blk.new w 51 #[.int .i64 k, .int .i64 p, .int .i64 d, .int .i64 c]
  have hB := below_one w (.cells #[.int .i64 k, .int .i64 p, .int .i64 d, .int .i64 c] 51)
  go_enter Tryz.func50, Tryz.ntmps50
  go_wp2
  go_ret
  have hL2 := hL.next hB
  refine ⟨_, rfl, ⟨_, _, rfl, enter_made1, ?_⟩, hB⟩
  intro n hn l J Jx W o₀ hW ho₀ hJ hJx hr1 hr2 hY h0
  have hsz := hW.size
  simp at hsz
  exact made1_in n hn l w.heap.size w.heap.size _ k p d c hR HDD.out HCC.out ⟨Nat.le_refl _, by simp⟩ W (by simp; omega) (hL2.next hW) J Jx o₀ ho₀ hJ hJx hr1 hr2 hY (bg.below hW bg.lt) h0

set_option maxRecDepth 100000 in
set_option maxHeartbeats 4000000 in
theorem having_any (k p d c x y : Int) (hR : RightC k p) (hd : d = p - shortN k) (hc : c = p - shortN k + madeN k) (W : World) (hL : Laid W) :
    Calls Tryz.prog 47 #[.agg #[.int .i64 k, .int .i64 p, .int .i64 d, .int .i64 c], .agg #[.int .i64 x, .int .i64 y]] W fun e w' => ∃ u, e = .returned u ∧ OwnP w' W.heap.size u ((flatC p (spanL d c)).filter fun m => memB k p m.1 m.2 x y) ∧ Below W.heap.size W w' := by
  have HM := Lib.hid (fun W hL => made_any k p d c hR hd hc W hL)
  have hzl : (flatC p (spanL d c)).length ≤ 1000 := by have := flatC_len p hR.2 (spanL d c); rw [spanL_len] at this; have := hR.und.m2; omega
  clear hd hc hR
  generalize flatC p (spanL d c) = zs at *
  obtain ⟨W3, hW3⟩ : ∃ W3, ((W.alloc (.cells #[.int .i64 k, .int .i64 p, .int .i64 d, .int .i64 c] 51)).alloc (.cells #[.int .i64 x, .int .i64 y] 59)).alloc (.cells #[.slice none 0 0] 61) = W3 := ⟨_, rfl⟩
  have b0 : Blk W3 W.heap.size 51 #[.int .i64 k, .int .i64 p, .int .i64 d, .int .i64 c] := by rw [← hW3]; exact ((Blk.new W _ _).alloc _).alloc _
  have b1 : Blk W3 (W.heap.size + 1) 59 #[.int .i64 x, .int .i64 y] := by rw [← hW3]; exact (Blk.second W _ _ _).alloc _
  have b2 : Blk W3 (W.heap.size + 1 + 1) 61 #[.slice none 0 0] := by
    rw [← hW3]
    have := Blk.new ((W.alloc (.cells #[.int .i64 k, .int .i64 p, .int .i64 d, .int .i64 c] 51)).alloc (.cells #[.int .i64 x, .int .i64 y] 59)) 61 #[.slice none 0 0]
    rwa [World.size_alloc, World.size_alloc] at this
  have hB3 : Below W.heap.size W W3 := by rw [← hW3]; exact (below_two W _ _).alloc (by simp; omega) _
  have s3 : W3.heap.size = W.heap.size + 3 := by rw [← hW3]; simp
  have hL3 := hL.next hB3
  have e0 := b0.cell 0
  have e1 := b0.cell 1
  have e2 := b0.cell 2
  have e3 := b0.cell 3
  simp only [List.getElem?_toArray, List.getElem?_cons_zero, List.getElem?_cons_succ] at e0 e1 e2 e3
  refine (callsIn_wide (n := 12)).1 ?_
  refine callsIn_of_wp_marks Tryz.func47 rfl trivial ?_ rfl
  simp only [Tryz.ntmps47, List.size_toArray, List.length_cons, List.length_nil, Nat.reduceAdd, Nat.reduceSub, Array.replicate_succ, Array.replicate_zero, List.push_toArray, List.append_toArray, List.nil_append, List.cons_append]
  gi_wp2_with fail
  clear hW3
  refine ⟨trivial, (callsIn_wide.2 (HM.out _ hL3)).mono ?_⟩
  rintro e w7 ⟨u7, rfl, ⟨gf, lb, rfl, eg, hg⟩, hB7⟩
  clear HM e0 e1 e2 e3
  replace b1 := b1.below hB7 b1.lt
  replace b2 := b2.below hB7 b2.lt
  have hB := below_in hB3 hB7
  have hL7 := hL.next hB
  have s7 := hB7.size
  have hlo : W3.heap.size ≤ w7.heap.size := s7
  gi_wp2_with fail
  refine wpIn_rangeBoxP rfl (by omega) (gf := gf) (lb := lb) rfl trivial eg (hg _ (by omega)) (fun h h' => h.trans h') (fun V l ob hl _ hlp => ⟨Keep.putFar V (by omega) ob, fun h => laid_put h hlp ob⟩) (Below.refl _ _) (fun _ => rfl)
    (fun pre o X => ∃ v, Blk X (W.heap.size + 1 + 1) 61 #[v] ∧ OwnP X w7.heap.size v ((pre.map (·.1)).filter fun m => memB k p m.1 m.2 x y) ∧ v.ownBlock = o ∧ Blk X (W.heap.size + 1) 59 #[.int .i64 x, .int .i64 y] ∧ Below W.heap.size W X ∧ Keep W3.heap.size (w7.heap.size - W3.heap.size) w7 X)
    (fun _ _ _ _ => False) ?hI (fun c s o X Y row hs _ _ => hs) none (fun b e => by cases e) ⟨_, b2, ownP_nil _ _, rfl, b1, hB, Keep.refl _ _ _⟩
    (fun z X => Asks (memB k p z.1.1 z.1.2) z.2 X) (fun z V l ob hl h => h.sub (Sub.put hl ob)) 59 (fun z : (Int × Int) × Value => #[.int .i64 z.1.1, .int .i64 z.1.2]) ?a1
    ?assign (fun pre o X h => by obtain ⟨v, _, ho, rfl, _⟩ := h; exact ho.rowO) (fun c pre o X h => h.elim) ?body ?done (fun D c pre o X _ _ _ h => h.elim)
  case hI =>
    rintro s o X Y row ⟨v, hb1, ho, rfl, hb0, hBX, hkX⟩ hgr hr
    have hne : ∀ g, g < w7.heap.size → some g ≠ row := fun g hg e => by have := (hr g e.symm).1; omega
    refine ⟨v, hb1.grown hgr (hne _ (by omega)), ho.kept hgr ?_, rfl, hb0.grown hgr (hne _ (by omega)), hBX.grown hgr hBX.size (fun r e => by have := (hr r e).1; omega), farO_keep (β := Unit) w7 (Nat.le_refl _) (by omega) () v.ownBlock X Y row hkX hgr hr⟩
    cases hrow : row with
    | none => exact (Option.eq_none_or_eq_some v.ownBlock).imp id (fun ⟨x, hx⟩ => by rw [hx]; simp)
    | some r => exact .inr (fun e => (hr r hrow).2 e.symm)
  case assign =>
    rintro l' pre z o X KK hsz hol ⟨v, hb1, ho, rfl, hb0, hBX, hkX⟩ hok hKK
    gi_wp2
    have hbx := Blk.new X 59 #[.int .i64 z.1.1, .int .i64 z.1.2]
    have hBz := below_one X (.cells #[.int .i64 z.1.1, .int .i64 z.1.2] 59)
    have hSi : SinceO w7.heap.size v.ownBlock X (X.alloc (.cells #[.int .i64 z.1.1, .int .i64 z.1.2] 59)) := SinceO.below hBz
    have hKe : KeepL W3.heap.size (w7.heap.size - W3.heap.size) X (X.alloc (.cells #[.int .i64 z.1.1, .int .i64 z.1.2] 59)) := ⟨Keep.alloc (by omega) _, fun h => h.next hBz⟩
    have h1' := hb1.below hBz hb1.lt
    have h2' := ho.below hBz
    have h3' := hb0.below hBz hb0.lt
    have h4' := below_in hBX hBz
    have h5' := hkX.trans hKe.1
    have hok' := hok.next hBz
    have hne : some X.heap.size ≠ v.ownBlock := fun e => by have := hol _ e.symm; omega
    clear hBz hol hb1 ho hb0 hBX hkX hok
    generalize X.alloc (.cells #[.int .i64 z.1.1, .int .i64 z.1.2] 59) = X' at *
    generalize X.heap.size = Bx at *
    exact hKK Bx _ hSi hKe ⟨v, h1', h2', rfl, h3', h4', h5'⟩ hbx hne hsz hok'
  case body =>
    rintro l' pre z o Bx X hsz ⟨v, hb1, ho, rfl, hb0, hBX, hkX⟩ hbx hne hle hok hlz
    obtain ⟨⟨zx, zy⟩, zv⟩ := z
    obtain ⟨qf, qb, rfl, eqf, hq⟩ := hok
    have c0 := hb0.cell 0
    have c1 := hb0.cell 1
    have z0 := hbx.cell 0
    have z1 := hbx.cell 1
    simp only [List.getElem?_toArray, List.getElem?_cons_zero, List.getElem?_cons_succ] at c0 c1 z0 z1
    have HA := Lib.hid (hq x y X (Sub.below (Below.refl _ _)))
    have hol := ho.rowO.lt
    clear hq
    cases hqz : memB k p zx zy x y with
    | false =>
      have hqz' : memB k p (zx, zy).1 (zx, zy).2 x y = false := hqz
      rw [hqz'] at HA
      have hfl : (((pre ++ [((zx, zy), Value.func (.func qf) #[] qb)]).map (·.1)).filter fun m => memB k p m.1 m.2 x y) = (pre.map (·.1)).filter fun m => memB k p m.1 m.2 x y := by simp [List.filter_append, hqz]
      gi_wp2_with fail
      refine ⟨trivial, (CallsIn.inRound l' (callsIn_wide.2 HA.out)).mono ?_⟩
      rintro e Xa ⟨rfl, hBa⟩
      gi_wp2
      exact ⟨v.ownBlock, .inl rfl, SinceO.below hBa, ⟨Keep.below hBa (by omega), fun h => h.next hBa⟩, v, hb1.below hBa hb1.lt, by rw [hfl]; exact ho.below hBa, rfl, hb0.below hBa hb0.lt, below_in hBX hBa, hkX.trans (Keep.below hBa (by omega))⟩
    | true =>
      have hqz' : memB k p (zx, zy).1 (zx, zy).2 x y = true := hqz
      rw [hqz'] at HA
      have hfl : (((pre ++ [((zx, zy), Value.func (.func qf) #[] qb)]).map (·.1)).filter fun m => memB k p m.1 m.2 x y) = ((pre.map (·.1)).filter fun m => memB k p m.1 m.2 x y) ++ [(zx, zy)] := by simp [List.filter_append, hqz]
      have hfn : ((pre.map (·.1)).filter fun m => memB k p m.1 m.2 x y).length ≤ 1000 := by have := List.length_filter_le (fun m : Int × Int => memB k p m.1 m.2 x y) (pre.map (·.1)); rw [List.length_map] at this; omega
      have HF := Lib.hid hfl
      clear hfl
      generalize ((pre.map (·.1)).filter fun m => memB k p m.1 m.2 x y) = fl at *
      gi_wp2_with fail
      refine ⟨trivial, (CallsIn.inRound l' (callsIn_wide.2 HA.out)).mono ?_⟩
      rintro e Xa ⟨rfl, hBa⟩
      clear HA hqz hqz' c0 c1 z0 z1
      have hbxa := hbx.below hBa hbx.lt
      have hb1a := hb1.below hBa hb1.lt
      have z0 := hbxa.cell 0
      have z1 := hbxa.cell 1
      have c1 := hb1a.one
      simp only [List.getElem?_toArray, List.getElem?_cons_zero, List.getElem?_cons_succ] at z0 z1
      have hBb := below_one Xa (.cells #[.int .i64 zx, .int .i64 zy] 59)
      have HO := Lib.hid ((ho.below hBa).below hBb)
      have HU := Lib.hid (Blk.new Xa 59 #[.int .i64 zx, .int .i64 zy])
      have hb1b := hb1a.below hBb hb1a.lt
      have hb0b := (hb0.below hBa hb0.lt).below hBb (by have := hBa.size; have := hb0.lt; omega)
      have hBab := below_in hBa hBb
      have hn1 : some (W.heap.size + 1 + 1) ≠ v.ownBlock := fun e => by have := ho.own_le _ e.symm; omega
      have hn0 : some (W.heap.size + 1) ≠ v.ownBlock := fun e => by have := ho.own_le _ e.symm; omega
      have hva := ho.own_le
      have hsa := hBa.size
      have hsb := hBb.size
      gi_wp2_with (gi_at_builtin; refine wpListIn_place _ rfl _ _ rfl w7.heap.size v _ rfl HO.out Xa.heap.size zx zy rfl HU.out (by omega) (by simp; omega) ?_; intro v2 w3 ho2 hg2 hd2; (have hfm := World.ownsRow.form ho2 (by simp)); (obtain ⟨g2, cap2, hv2, _, _⟩ := hfm); (generalize (fl ++ [(zx, zy)]).length = N at hv2); subst hv2; have hb3 := hb1b.grown hg2 hn1; have hb30 := hb0b.grown hg2 hn0; have c3 := hb3.one; have f3 := hb3.frozen 0)
      have hs3 := hg2.size
      have hn2 : some (W.heap.size + 1 + 1) ≠ (Value.slice (some ⟨g2, 0, none⟩) N cap2).ownBlock := fun e => by have := ho2.own_le _ e.symm; omega
      have hfr : FreshO v.ownBlock (Value.slice (some ⟨g2, 0, none⟩) N cap2).ownBlock X := by
        rcases hd2 with h | h
        · exact .inl h
        · exact .inr ⟨_, h, by simp; omega⟩
      have hsi : SinceO w7.heap.size v.ownBlock X (w3.setCell ⟨W.heap.size + 1 + 1, 0, none⟩ (Value.slice (some ⟨g2, 0, none⟩) N cap2)) :=
        (SinceO.below hBab).trans_ ⟨by simpa using hs3, fun b h1 h2 h3 => (Below.heap_setCell w3 _ (Value.slice (some ⟨g2, 0, none⟩) N cap2) b (by simp; omega)).trans (hg2.block b h2 h3)⟩
      have hke : Keep W3.heap.size (w7.heap.size - W3.heap.size) X (w3.setCell ⟨W.heap.size + 1 + 1, 0, none⟩ (Value.slice (some ⟨g2, 0, none⟩) N cap2)) :=
        ((Keep.below hBab (by omega)).trans (Keep.grown hg2 (by omega) (fun r e => .inr (by have := hva r e; omega)))).trans (Keep.setCell w3 (by simp; omega) (Value.slice (some ⟨g2, 0, none⟩) N cap2))
      have hbe : Below W.heap.size W (w3.setCell ⟨W.heap.size + 1 + 1, 0, none⟩ (Value.slice (some ⟨g2, 0, none⟩) N cap2)) := ((below_in hBX hBab).grown hg2 (by have := hBX.size; have := hBab.size; omega) (fun r e => by have := hva r e; omega)).setCell (by simp; omega) (Value.slice (some ⟨g2, 0, none⟩) N cap2)
      exact ⟨(Value.slice (some ⟨g2, 0, none⟩) N cap2).ownBlock, hfr, hsi, ⟨hke, fun _ => hL.next hbe⟩, (Value.slice (some ⟨g2, 0, none⟩) N cap2), hb3.set_ 0 (Value.slice (some ⟨g2, 0, none⟩) N cap2), by rw [HF.out]; exact ho2.far hn2 (Value.slice (some ⟨g2, 0, none⟩) N cap2), rfl, hb30.far (by simp) (Value.slice (some ⟨g2, 0, none⟩) N cap2), hbe, hkX.trans hke⟩
  case done =>
    rintro D xs o X hD hf hxs ⟨v, hb1, ho, rfl, hb0, hBX, hkX⟩ hKD hne
    have c1 := hb1.one
    rw [hxs] at ho
    gi_wp2
    refine leaves_blks W [D] X ⟨by simp, fun E hE => ?_⟩ hBX (fun W' hB' hk => ?_)
    · obtain rfl := List.mem_singleton.1 hE
      exact ⟨by omega, hKD⟩
    · exact ⟨v, by simp [results, Tryz.results47, go_sem], v, rfl, (ho.blks hk).less (by omega), hB'⟩
end Go.Proofs.YteglikljmkielaaGreatDoor
