/- chain: the cells of a chain, gathered: the walk. -/
import Derived.Test.YtfihlelhpmjpaaaGreatDoorCRG16
namespace Go.Proofs.YtfihlelhpmjpaaaGreatDoor.T
open Go.RowKit Go.Shelf Go.Maps Go.Proofs.YtfihlelhpmjpaaaGreatDoor.C Go.Proofs.YtfihlelhpmjpaaaGreatDoor.E Go.Proofs.YtfihlelhpmjpaaaGreatDoor.Ch
set_option linter.unusedSimpArgs false
set_option linter.unusedVariables false
attribute [local go_sem] Oper.semAt_some

theorem RowG.impR {α : Type} {r : Rep α} {t : TypeId} {d : α} {Q Q2 : Nat → Prop} {W : World} {base : Nat} {v : Value} {xs : List α} (h : RowG r t d Q W base v xs) (hq : ∀ b, Q b → Q2 b) : RowG r t d Q2 W base v xs := by
  obtain ⟨us, ho, hn, hr⟩ := h
  exact ⟨us, ho, hn, fun j u hu => r.imp (hr j u hu) fun b hb => ⟨hb.1, hb.2.1, hq b hb.2.2⟩⟩
theorem RowG.formR {α : Type} {r : Rep α} {t : TypeId} {d : α} {Q : Nat → Prop} {W : World} {base : Nat} {v : Value} {xs : List α} (h : RowG r t d Q W base v xs) : ∃ A n c, v = .slice A n c := by
  obtain ⟨us, ho, _⟩ := h
  rcases ho.2 with ⟨h1, _⟩ | ⟨g, cap, cur, h1, _⟩
  · exact ⟨_, _, _, h1⟩
  · exact ⟨_, _, _, h1⟩
theorem RowG.ownCells {α : Type} {r : Rep α} {t : TypeId} {d : α} {Q : Nat → Prop} {W : World} {base : Nat} {v : Value} {xs : List α} (h : RowG r t d Q W base v xs) {b : Nat} (hb : v.ownBlock = some b) : ∃ cs t fr, W.heap[b]? = some (.cells cs t fr) := by
  obtain ⟨us, ho, _⟩ := h
  rcases ho.2 with ⟨rfl, _⟩ | ⟨g, cap, cur, rfl, _, hg, _⟩
  · cases hb
  · injection hb with hb
    have e' : g = b := hb
    subst e'
    exact ⟨_, _, _, hg⟩
theorem RowG.farR {α : Type} {r : Rep α} {t : TypeId} {d : α} {Q : Nat → Prop} {W : World} {base : Nat} {v : Value} {xs : List α} (h : RowG r t d Q W base v xs) {p : Addr} (hp : some p.block ≠ v.ownBlock) (hq : ∀ b, Q b → b ≠ p.block) (u : Value) : RowG r t d Q (W.setCell p u) base v xs := by
  obtain ⟨us, ho, hn, hr⟩ := h
  refine ⟨us, ⟨ho.1, ?_⟩, hn, fun j y hy => ?_⟩
  · rcases ho.2 with h1 | ⟨g, cap, cur, e, h2, hg, rest⟩
    · exact .inl h1
    · exact .inr ⟨g, cap, cur, e, h2, (Below.heap_setCell W p u g (fun e2 => hp (by rw [e, ← e2]; rfl))).trans hg, rest⟩
  · exact r.imp (r.keep (hr j y hy) fun b hb => Below.heap_setCell W p u b (hq b hb.2.2)) fun b hb => ⟨by simpa using hb.1, hb.2⟩
theorem RowG.moved {α : Type} {r : Rep α} {t : TypeId} {d : α} {Q : Nat → Prop} {W W' : World} {base : Nat} {v : Value} {xs : List α} (h : RowG r t d Q W base v xs) (hs : W.heap.size ≤ W'.heap.size) (hk : ∀ b, b < W.heap.size → (v.ownBlock = some b ∨ Q b) → W'.heap[b]? = W.heap[b]?) : RowG r t d Q W' base v xs := by
  obtain ⟨us, ho, hn, hr⟩ := h
  refine ⟨us, ⟨ho.1, ?_⟩, hn, fun j y hy => ?_⟩
  · rcases ho.2 with h1 | ⟨g, cap, cur, e, h2, hg, rest⟩
    · exact .inl h1
    · exact .inr ⟨g, cap, cur, e, h2, (hk g (Array.getElem?_eq_some_iff.1 hg).1 (.inl (by rw [e]; rfl))).trans hg, rest⟩
  · exact r.imp (r.keep (hr j y hy) fun b hb => hk b hb.1 (.inr hb.2.2)) fun b hb => ⟨Nat.lt_of_lt_of_le hb.1 hs, hb.2⟩
/-- What a told cell's block holds is cells, and it is new. -/
theorem fresh_block {base n : Nat} {W : World} {A : Option Addr} {c : Nat} {l : List UInt8} (h : Fresh base W (.slice A n c) l) (hl : l.length = n) (h1 : 1 ≤ n) : ∃ b off, A = some ⟨b, off, none⟩ ∧ base ≤ b ∧ b < W.heap.size ∧ (∃ cs t fr, W.heap[b]? = some (.cells cs t fr)) := by
  obtain ⟨A2, cap, e, hc, hA⟩ := h
  injection e with e1 e2 e3
  subst e1
  obtain ⟨b, off, e2, hb1, hb2, hcell⟩ := hA (by omega)
  exact ⟨b, off, e2, hb1, hb2, cells_of (hcell 0 (by omega))⟩
/-- The invariant of the walk that gathers. -/
def GathI (P Q n : Nat) (R D : List (List UInt8)) (B0 gr g0 g1 base : Nat) (f1 f2 TVV : Value) (S0 : World → Prop) (W0 : World) (top : Nat) (pre : List (Int × Int × Int)) (o : Nat → Prop) (X : World) : Prop :=
  ∃ (q : Nat → Prop) (v : Value) (aA : Option Addr) (cA : Nat), Blk X g1 36 #[v] ∧ RowM q X base v (toldF P Q n R D pre) ∧ (o = fun b => v.ownBlock = some b ∨ q b) ∧ (∀ b, q b → (v.ownBlock ≠ some b ∧ top ≤ b) ∧ ∃ cs t fr, X.heap[b]? = some (.cells cs t fr)) ∧
    Blk X g0 126 #[TVV] ∧ Blk X gr 120 #[f1, f2, .slice aA n cA] ∧ BytesP (fun b => b < B0 ∨ q b) X (.slice aA n cA) (aheadF P Q n R D pre) ∧ (S0 X ∧ Below W0.heap.size W0 X) ∧ top ≤ X.heap.size
set_option maxRecDepth 100000 in
set_option maxHeartbeats 8000000 in
theorem gatheredB_any {P Q n : Nat} {R D : List (List UInt8)} (d : Rg.Dims P Q n) (hR : GoodC Q n R) (hD : GoodC Q n D) {f1 f2 : Value} {S0 : World → Prop} {W0 : World} (hT : SumsT P Q n R D f1 f2 S0) (lo : Nat) (a b : Int) (ha : 0 ≤ a ∧ a < (P : Int)) (hb : 0 ≤ b ∧ b < (P : Int)) (rs : List Int) (hrs : rs.length ≤ 100) (v : Value) (W : World) (hlo : lo ≤ W.heap.size) (hv : ChainT lo (P : Int) a b rs v W)
    (gr : Nat) (hgr0 : W0.heap.size ≤ gr) (hgrl : gr < lo) (hW0 : Below W0.heap.size W0 W) (hS1 : ∀ X Y, S0 X → Below X.heap.size X Y → S0 Y) (hS2 : ∀ X Y row, S0 X → X.grownBy Y row → (∀ r, row = some r → lo ≤ r) → S0 Y) (hS3 : ∀ X p u, S0 X → (p.block = gr ∨ lo ≤ p.block) → S0 (X.setCell p u)) (hS0 : S0 W) (aA : Option Addr) (cA : Nat) (hbr : Blk W gr 120 #[f1, f2, .slice aA n cA]) (hno : Bytes W0.heap.size W (.slice aA n cA) (List.replicate n 0)) :
    Calls Tryz.prog 104 #[v, .func (.func 106) #[.pointer (some ⟨gr, 0, none⟩)] #[]] W fun e w' => ∃ A c, e = .returned (.slice A (2 * rs.length) c) ∧ Many w'.heap.size w' (.slice A (2 * rs.length) c) (toldF P Q n R D (chn a b rs)) ∧ Below W0.heap.size W0 w' := by
  obtain ⟨gf, lb, rfl, eg, hgo⟩ := hv
  obtain ⟨w7, hw7⟩ : ∃ x, (W.alloc (.cells #[.func (.func 106) #[.pointer (some ⟨gr, 0, none⟩)] #[]] 126)).alloc (.cells #[.slice none 0 0] 36) = x := ⟨_, rfl⟩
  obtain ⟨g0, hg0⟩ : ∃ x, W.heap.size = x := ⟨_, rfl⟩
  obtain ⟨g1, hg1⟩ : ∃ x, g0 + 1 = x := ⟨_, rfl⟩
  have b0 : Blk w7 g0 126 #[.func (.func 106) #[.pointer (some ⟨gr, 0, none⟩)] #[]] := by rw [← hw7, ← hg0]; exact (Blk.new W _ _).alloc _
  have b1 : Blk w7 g1 36 #[.slice none 0 0] := by rw [← hw7, ← hg1, ← hg0]; exact Blk.second W _ _ _
  have hB7 : Below W.heap.size W w7 := by rw [← hw7]; exact below_two W _ _
  have s7 : w7.heap.size = W.heap.size + 2 := by rw [← hw7]; simp
  have hent := enter_cell
  have br7 := hbr.below hB7 hbr.lt
  have hBW0 := below_in hW0 hB7
  have HW0s := Lib.hid hW0.size
  have hI0 : GathI P Q n R D W0.heap.size gr g0 g1 (W.heap.size + 2) f1 f2 (.func (.func 106) #[.pointer (some ⟨gr, 0, none⟩)] #[]) S0 W0 w7.heap.size [] (fun _ => False) w7 := ⟨fun _ => False, .slice none 0 0, aA, cA, b1, RowG.nil _ _ _ _ _ _, by funext b; simp [Value.ownBlock], fun b h => h.elim, b0, br7, (by
    obtain ⟨A, cap, e, hc, hA⟩ := hno.below (hB7.mono hW0.size)
    exact ⟨A, cap, e, hc, fun hp => by obtain ⟨b, off, e2, hb, hcell⟩ := hA hp; exact ⟨b, off, e2, .inl hb, hcell⟩⟩), ⟨hS1 _ _ hS0 hB7, hBW0⟩, Nat.le_refl _⟩
  have HSC := Lib.hid (And.intro hS1 (And.intro hS2 hS3))
  have HRS := Lib.hid hrs
  have S7 := Lib.hid s7
  have HG0 := Lib.hid (And.intro hg0 hg1)
  have HDD := Lib.hid (And.intro d (And.intro hR (And.intro hD (And.intro hT (And.intro ha (And.intro hb (And.intro hgr0 (And.intro hgrl hlo))))))))
  clear hS1 hS2 hS3 hS0 hrs s7 hg0 d hR hD hT ha hb hgr0 hgrl hno hbr br7 hW0 b0 b1 hBW0
  refine (callsIn_wide (n := 9)).1 ?_
  refine callsIn_of_wp_marks Tryz.func104 rfl trivial ?_ rfl
  simp only [Tryz.ntmps104, List.size_toArray, List.length_cons, List.length_nil, Nat.reduceAdd, Nat.reduceSub, Array.replicate_succ, Array.replicate_zero, List.push_toArray, List.append_toArray, List.nil_append, List.cons_append]
  gi_wp2_with fail
  (try rw [HG0.out.1]); (try rw [hg1])
  refine wpIn_rangeBoxT rfl (by omega) (gf := gf) (lb := lb) rfl trivial eg (hgo _ (by omega)) (fun h h' => h.trans h') (fun X l o hl _ _ => Keep.putFar X (by have := S7.out; omega) o) hB7 (fun _ => rfl)
    (GathI P Q n R D W0.heap.size gr g0 g1 (W.heap.size + 2) f1 f2 (.func (.func 106) #[.pointer (some ⟨gr, 0, none⟩)] #[]) S0 W0 w7.heap.size)
    (fun _ _ _ _ => False) ?hI (fun c s o X Y row hs _ _ => hs) (fun _ => False) (fun b e => e.elim) hI0
    (fun x : Int × Int × Int => 0 ≤ x.1 ∧ (0 ≤ x.2.1 ∧ x.2.1 < (P : Int)) ∧ (0 ≤ x.2.2 ∧ x.2.2 < (P : Int) - 1)) (fun pre x W h => ⟨(chn_mem h HDD.out.2.2.2.2.1 HDD.out.2.2.2.2.2.1).1, (chn_mem h HDD.out.2.2.2.2.1 HDD.out.2.2.2.2.2.1).2, h.1⟩) 55 (fun x : Int × Int × Int => #[.int .i64 x.2.1, .int .i64 x.2.2]) (fun x Bx => { tmps := #[.func (.func gf) #[] lb, .func (.func 106) #[.pointer (some ⟨gr, 0, none⟩)] #[], undef, .pointer (some ⟨g0, 0, none⟩), .slice none 0 0, .pointer (some ⟨g1, 0, none⟩), .int .i64 x.1, .pointer (some ⟨Bx, 0, none⟩), .func (.func gf) #[] lb, .int .i64 x.1, .agg #[.int .i64 x.2.1, .int .i64 x.2.2], undef, undef, undef, undef, undef, undef, undef, undef], defers := [] })
    ?assign (fun pre o X h => ?hrow) (fun c pre o X h => h.elim) ?body ?done (fun D c pre o X _ _ _ h => h.elim)
  case hI =>
    rintro s o X Y row ⟨q, v, aA, cA, hb1, ho, rfl, hq, hb0, hbr, hah, ⟨hSX, hBX⟩, hsz⟩ hgr hr
    have s7 := S7.out
    have hg := HG0.out
    have hd := HDD.out.2.2.2.2.2.2
    have hne : ∀ g, g < w7.heap.size → some g ≠ row := fun g hg e => by have := (hr g e.symm).1; omega
    have hne2 : ∀ b, q b → some b ≠ row := fun b hb e => (hr b e.symm).2 (.inr hb)
    refine ⟨q, v, aA, cA, hb1.grown hgr (hne _ (by omega)), ho.kept hgr ?_ hne2, rfl, fun b hb => ⟨(hq b hb).1, ?_⟩, hb0.grown hgr (hne _ (by omega)), hbr.grown hgr (hne _ (by omega)), bytesR.keep hah (fun b hb => hgr.block b ?_ ?_), ⟨HSC.out.2.1 _ _ _ hSX hgr (fun r e => by have := (hr r e).1; omega), below_grown hBX hgr hBX.size (fun r e => by have := (hr r e).1; have := HW0s.out; omega)⟩, Nat.le_trans hsz hgr.size⟩
    · cases hrow : row with
      | none => exact (Option.eq_none_or_eq_some v.ownBlock).imp id (fun ⟨x, hx⟩ => by rw [hx]; simp)
      | some r => exact .inr (fun e => (hr r hrow).2 (.inl e))
    · obtain ⟨cs, t, fr, hc⟩ := (hq b hb).2
      exact ⟨cs, t, fr, (hgr.block b (Array.getElem?_eq_some_iff.1 hc).1 (hne2 b hb)).trans hc⟩
    · rcases hb with hb | hb
      · have := hBX.size; omega
      · obtain ⟨cs, t, fr, hc⟩ := (hq b hb).2
        exact (Array.getElem?_eq_some_iff.1 hc).1
    · rcases hb with hb | hb
      · exact hne b (by have := HW0s.out; omega)
      · exact hne2 b hb
  case hrow =>
    obtain ⟨q, v, aA, cA, _, ho, rfl, hq, _⟩ := h
    rintro b (hb | hb)
    · exact Go.Proofs.YtfihlelhpmjpaaaGreatDoor.T.RowG.ownCells ho hb
    · exact (hq b hb).2
  case assign =>
    rintro l' pre x o X KK hsz hol ⟨q, v, aA, cA, hb1, ho, rfl, hq, hb0, hbr, hah, ⟨hSX, hBX⟩, hge⟩ _ hKK
    simp only [encC]
    gi_wp2
    have hbx := Blk.new X 55 #[.int .i64 x.2.1, .int .i64 x.2.2]
    have hBz := below_one X (.cells #[.int .i64 x.2.1, .int .i64 x.2.2] 55)
    have hne : ¬ (v.ownBlock = some X.heap.size ∨ q X.heap.size) := fun e => by have := hol _ e; omega
    have hKe : Keep lo (W.heap.size - lo) X (X.alloc (.cells #[.int .i64 x.2.1, .int .i64 x.2.2] 55)) := Keep.alloc (by have := S7.out; have := HDD.out.2.2.2.2.2.2.2.2; omega) _
    have hI2 : GathI P Q n R D W0.heap.size gr g0 g1 (W.heap.size + 2) f1 f2 (.func (.func 106) #[.pointer (some ⟨gr, 0, none⟩)] #[]) S0 W0 w7.heap.size pre (fun b => v.ownBlock = some b ∨ q b) (X.alloc (.cells #[.int .i64 x.2.1, .int .i64 x.2.2] 55)) :=
      ⟨q, v, aA, cA, hb1.below hBz hb1.lt, ho.below hBz, rfl, fun b hb => ⟨(hq b hb).1, by
        obtain ⟨cs, t, fr, hc⟩ := (hq b hb).2
        exact ⟨cs, t, fr, (hBz.block b (Array.getElem?_eq_some_iff.1 hc).1).trans hc⟩⟩, hb0.below hBz hb0.lt, hbr.below hBz hbr.lt, bytesR.keep hah (fun b hb => hBz.block b (by
        rcases hb with hb | hb
        · have := hBX.size; omega
        · obtain ⟨cs, t, fr, hc⟩ := (hq b hb).2
          exact (Array.getElem?_eq_some_iff.1 hc).1)), ⟨HSC.out.1 _ _ hSX hBz, below_in hBX hBz⟩, Nat.le_trans hge hBz.size⟩
    exact hKK X.heap.size _ (SinceO.below hBz) hKe hI2 hbx hne hsz
  case body =>
    rintro l' pre x o Bx X hsz ⟨q, v, aA, cA, hb1, ho, rfl, hq, hb0, hbr, hah, ⟨hSX, hBX⟩, hge⟩ hbx hnBx hle hpr hlz
    obtain ⟨vA, vn, vc, rfl⟩ := Go.Proofs.YtfihlelhpmjpaaaGreatDoor.T.RowG.formR ho
    have s7 := S7.out
    have hg := HG0.out
    obtain ⟨d, hR, hD, hT, ha, hb, hgr0, hgrl, hlo⟩ := HDD.out
    have hvn : ∀ g, (Value.slice vA vn vc).ownBlock = some g → W.heap.size + 2 ≤ g := fun g e => RowG.own_le ho g e
    have hql : ∀ b, q b → b < X.heap.size := fun b hb => by
      obtain ⟨cs, t, fr, hc⟩ := (hq b hb).2
      exact (Array.getElem?_eq_some_iff.1 hc).1
    have hl2 : (aheadF P Q n R D (pre ++ [x])).length = n := aheadF_len P Q n R D _
    have hB0X := hBX.size
    have hahX : Bytes X.heap.size X (.slice aA n cA) (aheadF P Q n R D pre) := bytesR.imp hah (fun b hb => by
      rcases hb with hb | hb
      · have h2 : b < W0.heap.size := hb
        omega
      · exact hql b hb)
    have HCS : Hid (∀ V, Below X.heap.size X V → Calls Tryz.prog 106 #[.pointer (some ⟨gr, 0, none⟩), .int .i64 x.1, .agg #[.int .i64 x.2.1, .int .i64 x.2.2]] V fun e w' => ∃ A c w1, e = .returned (.slice A n c) ∧ Below X.heap.size X w1 ∧ Fresh X.heap.size w1 (.slice A n c) (aheadF P Q n R D (pre ++ [x])) ∧ w' = w1.setCell ⟨gr, 2, none⟩ (.slice A n c)) := fun V hV => (cell_step d hR hD hT x hpr.1 hpr.2.1 hpr.2.2 gr aA cA (aheadF P Q n R D pre) (aheadF_len P Q n R D pre) V (fun V' hV' => HSC.out.1 _ _ hSX (below_in hV hV')) (hbr.below hV hbr.lt) ((hahX.below hV).more hV.size)).mono (by
      rintro e w' ⟨A, c, w1, h1, h2, h3, h4⟩
      rw [← aheadF_snoc] at h3
      exact ⟨A, c, w1, h1, below_in hV h2, h3.less hV.size, h4⟩)
    have hk9 : ∀ A c w1, Below X.heap.size X w1 → ∀ b, b < X.heap.size → b ≠ gr → (w1.setCell ⟨gr, 2, none⟩ (.slice A n c)).heap[b]? = X.heap[b]? := fun A c w1 h1 b hb hne => (Below.heap_setCell w1 ⟨gr, 2, none⟩ _ b hne).trans (h1.block b hb)
    have h1l := hb1.lt
    have h0l := hb0.lt
    have hxl := hbx.lt
    have HPK : Hid (∀ A c w1, Below X.heap.size X w1 → Fresh X.heap.size w1 (.slice A n c) (aheadF P Q n R D (pre ++ [x])) →
        (∀ V, Below (w1.setCell ⟨gr, 2, none⟩ (.slice A n c)).heap.size (w1.setCell ⟨gr, 2, none⟩ (.slice A n c)) V → (fun U : World => U.cell? ⟨g1, 0, none⟩ = some (.slice vA vn vc) ∧ U.cell? ⟨g0, 0, none⟩ = some (.func (.func 106) #[.pointer (some ⟨gr, 0, none⟩)] #[]) ∧ U.cell? ⟨Bx, 0, none⟩ = some (.int .i64 x.2.1) ∧ U.cell? ⟨Bx, 1, none⟩ = some (.int .i64 x.2.2)) V) ∧
        (∀ wa, Below (w1.setCell ⟨gr, 2, none⟩ (.slice A n c)).heap.size (w1.setCell ⟨gr, 2, none⟩ (.slice A n c)) wa →
          RowM (fun b => q b ∨ ∃ off, A = some ⟨b, off, none⟩) wa (W.heap.size + 2) (.slice vA vn vc) (toldF P Q n R D pre) ∧
          BytesP (fun b => b < wa.heap.size ∧ some b ≠ (Value.slice vA vn vc).ownBlock ∧ (q b ∨ ∃ off, A = some ⟨b, off, none⟩)) wa (.slice A n c) (aheadF P Q n R D (pre ++ [x])) ∧ W.heap.size + 2 ≤ wa.heap.size ∧
          (∀ wb, wa.grownBy wb (Value.slice vA vn vc).ownBlock → (fun U : World => U.cell? ⟨g1, 0, none⟩ = some (.slice vA vn vc) ∧ U.cell? ⟨g0, 0, none⟩ = some (.func (.func 106) #[.pointer (some ⟨gr, 0, none⟩)] #[]) ∧ U.cell? ⟨Bx, 0, none⟩ = some (.int .i64 x.2.1) ∧ U.cell? ⟨Bx, 1, none⟩ = some (.int .i64 x.2.2)) wb ∧ wb.frozen? ⟨g1, 0, none⟩ = false))) := fun A c w1 hB1 hFr => by
      have hz1 := hB1.size
      have hz9 : (w1.setCell ⟨gr, 2, none⟩ (.slice A n c)).heap.size = w1.heap.size := by simp
      have hkk := hk9 A c w1 hB1
      have hSV : ∀ V, Below (w1.setCell ⟨gr, 2, none⟩ (.slice A n c)).heap.size (w1.setCell ⟨gr, 2, none⟩ (.slice A n c)) V → Blk V g1 36 #[.slice vA vn vc] ∧ Blk V g0 126 #[.func (.func 106) #[.pointer (some ⟨gr, 0, none⟩)] #[]] ∧ Blk V Bx 55 #[.int .i64 x.2.1, .int .i64 x.2.2] := fun V hV => by
        have key : ∀ {g : Nat} {t : TypeId} {cs : Array Value}, Blk X g t cs → g ≠ gr → Blk V g t cs := fun {g t cs} h hne => by
          have hgl := h.lt
          exact (hV.block g (by rw [hz9]; omega)).trans ((hkk g hgl hne).trans h)
        exact ⟨key hb1 (by omega), key hb0 (by omega), key hbx (by omega)⟩
      refine ⟨fun V hV => ?_, fun wa hwa => ?_⟩
      · obtain ⟨x1, x0, xx⟩ := hSV V hV
        exact ⟨x1.one, x0.one, xx.cell 0, xx.cell 1⟩
      · have hza := hwa.size
        rw [hz9] at hza
        obtain ⟨bu, offu, hAe, hbu1, hbu2, hcu⟩ := fresh_block hFr hl2 d.h1
        refine ⟨RowG.impR (RowG.moved ho (by omega) fun b hb hor => ?_) (fun b hb => .inl hb), ?_, by omega, fun wb hgr => ?_⟩
        · have hbne : b ≠ gr := by
            rcases hor with h | h
            · have := hvn b h; omega
            · have := (hq b h).1.2; omega
          exact (hwa.block b (by rw [hz9]; omega)).trans (hkk b hb hbne)
        · obtain ⟨A2, cap, e, hc, hA⟩ := hFr
          refine ⟨A2, cap, e, hc, fun hp => ?_⟩
          obtain ⟨b, off, e2, hb1, hb2, hcell⟩ := hA hp
          injection e with e1 e4 e3
          subst e1
          refine ⟨b, off, e2, ⟨by omega, fun e5 => ?_, .inr ⟨off, e2⟩⟩, fun j hj => ?_⟩
          · obtain ⟨cs, t, fr, hcc⟩ := RowG.ownCells ho e5.symm
            have := (Array.getElem?_eq_some_iff.1 hcc).1
            omega
          · exact (hwa.cell (p := ⟨b, off + j, none⟩) (by rw [hz9]; exact hb2)).trans ((World.cell?_of_block (Below.heap_setCell w1 ⟨gr, 2, none⟩ _ b (by show b ≠ gr; omega))).trans (hcell j hj))
        · obtain ⟨x1, x0, xx⟩ := hSV wa hwa
          have n1 : some g1 ≠ (Value.slice vA vn vc).ownBlock := fun e => by have := hvn g1 e.symm; omega
          have n0 : some g0 ≠ (Value.slice vA vn vc).ownBlock := fun e => by have := hvn g0 e.symm; omega
          have nx : some Bx ≠ (Value.slice vA vn vc).ownBlock := fun e => hnBx (.inl e.symm)
          have y1 := x1.grown hgr n1
          have yx := xx.grown hgr nx
          exact ⟨⟨y1.one, (x0.grown hgr n0).one, yx.cell 0, yx.cell 1⟩, y1.frozen 0⟩
    have HLEN : Hid ((toldF P Q n R D pre).length ≤ 100000) := by unfold Hid; rw [toldF_len]; have := HRS.out; omega
    have HFIN : Hid (∀ (A : Option Addr) (c : Nat) (w1 wa wb : World) (u : Value), Below X.heap.size X w1 → Fresh X.heap.size w1 (.slice A n c) (aheadF P Q n R D (pre ++ [x])) → Below (w1.setCell ⟨gr, 2, none⟩ (.slice A n c)).heap.size (w1.setCell ⟨gr, 2, none⟩ (.slice A n c)) wa → wa.grownBy wb (Value.slice vA vn vc).ownBlock → (u.ownBlock = (Value.slice vA vn vc).ownBlock ∨ u.ownBlock = some wa.heap.size) →
        RowM (fun b => q b ∨ ∃ off, A = some ⟨b, off, none⟩) wb (W.heap.size + 2) u (toldF P Q n R D pre ++ [aheadF P Q n R D (pre ++ [x])]) →
        ∃ o', FreshO (fun b => (Value.slice vA vn vc).ownBlock = some b ∨ q b) o' X ∧ SinceO w7.heap.size (fun b => (Value.slice vA vn vc).ownBlock = some b ∨ q b) X (wb.setCell ⟨g1, 0, none⟩ u) ∧ Keep lo (W.heap.size - lo) X (wb.setCell ⟨g1, 0, none⟩ u) ∧ GathI P Q n R D W0.heap.size gr g0 g1 (W.heap.size + 2) f1 f2 (.func (.func 106) #[.pointer (some ⟨gr, 0, none⟩)] #[]) S0 W0 w7.heap.size (pre ++ [x]) o' (wb.setCell ⟨g1, 0, none⟩ u)) := fun A c w1 wa wb u hB1 hFr hwa hgr hu hrow => by
      obtain ⟨bu, offu, hAe, hbu1, hbu2, cu, tu_, fu, hcu⟩ := fresh_block hFr hl2 d.h1
      have hz1 := hB1.size
      have hz9 : (w1.setCell ⟨gr, 2, none⟩ (.slice A n c)).heap.size = w1.heap.size := by simp
      have hza := hwa.size
      rw [hz9] at hza
      have hzb := hgr.size
      have hkk := hk9 A c w1 hB1
      have hown : ∀ b, (Value.slice vA vn vc).ownBlock = some b → b < X.heap.size := fun b e => by
        obtain ⟨cs, t, fr, hcc⟩ := RowG.ownCells ho e
        exact (Array.getElem?_eq_some_iff.1 hcc).1
      have heqX : ∀ b, b < X.heap.size → b ≠ gr → some b ≠ (Value.slice vA vn vc).ownBlock → wb.heap[b]? = X.heap[b]? := fun b h1 h2 h3 =>
        (hgr.block b (by omega) h3).trans ((hwa.block b (by rw [hz9]; omega)).trans (hkk b h1 h2))
      have hequ : wb.heap[bu]? = w1.heap[bu]? := (hgr.block bu (by omega) (fun e => by have := hown bu e.symm; omega)).trans ((hwa.block bu (by rw [hz9]; omega)).trans (Below.heap_setCell w1 ⟨gr, 2, none⟩ _ bu (by show bu ≠ gr; omega)))
      have n1 : some g1 ≠ (Value.slice vA vn vc).ownBlock := fun e => by have := hvn g1 e.symm; omega
      have n0 : some g0 ≠ (Value.slice vA vn vc).ownBlock := fun e => by have := hvn g0 e.symm; omega
      have nr : some gr ≠ (Value.slice vA vn vc).ownBlock := fun e => by have := hvn gr e.symm; omega
      have x1 : Blk wb g1 36 #[.slice vA vn vc] := (heqX g1 h1l (by omega) n1).trans hb1
      have x0 : Blk wb g0 126 #[.func (.func 106) #[.pointer (some ⟨gr, 0, none⟩)] #[]] := (heqX g0 h0l (by omega) n0).trans hb0
      have hbl := hbr.lt
      have xr9 : Blk (w1.setCell ⟨gr, 2, none⟩ (.slice A n c)) gr 120 #[f1, f2, .slice A n c] := (hbr.below hB1 hbr.lt).set_ 2 _
      have xr : Blk wb gr 120 #[f1, f2, .slice A n c] := (hgr.block gr (by omega) nr).trans ((hwa.block gr (by rw [hz9]; omega)).trans xr9)
      have hBw1 : Below W0.heap.size W0 w1 := hBX.trans (hB1.mono hB0X)
      have hBw9 : Below W0.heap.size W0 (w1.setCell ⟨gr, 2, none⟩ (.slice A n c)) := hBw1.setCell (by show W0.heap.size ≤ gr; omega) _
      have hBwa : Below W0.heap.size W0 wa := hBw9.trans (hwa.mono (by rw [hz9]; omega))
      have hBwb : Below W0.heap.size W0 wb := below_grown hBwa hgr (by omega) (fun k e => by have := hvn k e; omega)
      have hqu : ∀ b, (q b ∨ ∃ off, A = some ⟨b, off, none⟩) → (u.ownBlock ≠ some b ∧ w7.heap.size ≤ b) ∧ ∃ cs t fr, wb.heap[b]? = some (.cells cs t fr) := fun b hb => by
        rcases hb with hb | ⟨off, hb⟩
        · obtain ⟨⟨h1, h2⟩, cs, t, fr, hcc⟩ := hq b hb
          have hbX := hql b hb
          refine ⟨⟨fun e => ?_, h2⟩, cs, t, fr, (heqX b hbX (by omega) (fun e => h1 e.symm)).trans hcc⟩
          rcases hu with hu | hu
          · exact h1 (hu.symm.trans e)
          · rw [hu] at e; injection e with e; omega
        · rw [hAe] at hb
          injection hb with hb
          injection hb with hb1 _ _
          subst hb1
          refine ⟨⟨fun e => ?_, by omega⟩, cu, tu_, fu, hequ.trans hcu⟩
          rcases hu with hu | hu
          · have := hown bu (hu.symm.trans e); omega
          · rw [hu] at e; injection e with e; omega
      have hzZ : (wb.setCell ⟨g1, 0, none⟩ u).heap.size = wb.heap.size := by simp
      refine ⟨fun b => u.ownBlock = some b ∨ (q b ∨ ∃ off, A = some ⟨b, off, none⟩), fun b hb => ?_, ⟨by rw [hzZ]; omega, fun b h2 h3 h4 => ?_⟩, ⟨by rw [hzZ]; omega, fun b h2 h3 => ?_⟩, fun b => q b ∨ ∃ off, A = some ⟨b, off, none⟩, u, A, c, x1.set_ 0 u, ?_, rfl, fun b hb => ⟨(hqu b hb).1, ?_⟩, Blk.far x0 (by show g0 ≠ g1; omega) _, Blk.far xr (by show gr ≠ g1; omega) _, ?_, ⟨HSC.out.2.2 _ _ _ (HSC.out.2.1 _ _ _ (HSC.out.1 _ _ (HSC.out.2.2 _ ⟨gr, 2, none⟩ _ (HSC.out.1 _ _ hSX hB1) (.inl rfl)) hwa) hgr (fun r e => by have := hvn r e; omega)) (.inr (by show lo ≤ g1; omega)), hBwb.setCell (by show W0.heap.size ≤ g1; omega) _⟩, by rw [hzZ]; omega⟩
      · rcases hb with hb | hb | ⟨off, hb⟩
        · rcases hu with hu | hu
          · exact .inl (.inl (hu.symm.trans hb))
          · rw [hu] at hb; injection hb with hb; exact .inr (by omega)
        · exact .inl (.inr hb)
        · rw [hAe] at hb
          injection hb with hb
          injection hb with hb1 _ _
          exact .inr (by omega)
      · exact (Below.heap_setCell wb ⟨g1, 0, none⟩ u b (by show b ≠ g1; omega)).trans (heqX b h3 (by omega) (fun e => h4 (.inl e.symm)))
      · exact (Below.heap_setCell wb ⟨g1, 0, none⟩ u b (by show b ≠ g1; omega)).trans (heqX b (by omega) (by omega) (fun e => by have := hvn b e.symm; omega))
      · rw [toldF_snoc]
        refine RowG.farR hrow ?_ (fun b hb => ?_) u
        · show some g1 ≠ u.ownBlock
          rcases hu with hu | hu
          · rw [hu]; exact n1
          · rw [hu]; intro e; injection e with e; omega
        · have := (hqu b hb).1.2
          show b ≠ g1
          omega
      · obtain ⟨cs, t, fr, hcc⟩ := (hqu b hb).2
        exact ⟨cs, t, fr, (Below.heap_setCell wb ⟨g1, 0, none⟩ u b (by have := (hqu b hb).1.2; show b ≠ g1; omega)).trans hcc⟩
      · obtain ⟨A2, cap, e, hc, hA⟩ := hFr
        refine ⟨A2, cap, e, hc, fun hp => ?_⟩
        obtain ⟨b, off, e2, hb1, hb2, hcell⟩ := hA hp
        injection e with e1 e4 e3
        subst e1
        have hbb : b = bu := by rw [hAe] at e2; injection e2 with e2; injection e2 with e2 _ _; exact e2.symm
        refine ⟨b, off, e2, .inr (.inr ⟨off, e2⟩), fun j hj => ?_⟩
        refine (World.cell?_of_block (Below.heap_setCell wb ⟨g1, 0, none⟩ u b (by show b ≠ g1; omega))).trans ?_
        subst hbb
        exact (World.cell?_of_block hequ).trans (hcell j hj)
    have hS : (fun U : World => U.cell? ⟨g1, 0, none⟩ = some (.slice vA vn vc) ∧ U.cell? ⟨g0, 0, none⟩ = some (.func (.func 106) #[.pointer (some ⟨gr, 0, none⟩)] #[]) ∧ U.cell? ⟨Bx, 0, none⟩ = some (.int .i64 x.2.1) ∧ U.cell? ⟨Bx, 1, none⟩ = some (.int .i64 x.2.2)) X.drew := by
      have hBd := (Below.refl X.heap.size X).drew
      exact ⟨(hb1.below hBd hb1.lt).one, (hb0.below hBd hb0.lt).one, (hbx.below hBd hbx.lt).cell 0, (hbx.below hBd hbx.lt).cell 1⟩
    clear hb1 ho hb0 hBX hbx hnBx hvn s7 hg hq hql hbr hah hahX hk9 d hR hD hT ha hb hgr0 hgrl hlo hpr hl2 hB0X h1l h0l hxl
    gi_wp2_with fail
    refine wpIn_mono (region_HG (Q := NoPanic _) (S := (fun U : World => U.cell? ⟨g1, 0, none⟩ = some (.slice vA vn vc) ∧ U.cell? ⟨g0, 0, none⟩ = some (.func (.func 106) #[.pointer (some ⟨gr, 0, none⟩)] #[]) ∧ U.cell? ⟨Bx, 0, none⟩ = some (.int .i64 x.2.1) ∧ U.cell? ⟨Bx, 1, none⟩ = some (.int .i64 x.2.2))) (m := 7) (by kernel_rfl) ?_) NoPanic.imp
    refine anyHG_take (i := 0) (d := 11) (v := .slice vA vn vc) (by kernel_rfl) rfl (by kernel_rfl) (by kernel_rfl) (by kernel_rfl) rfl (by kernel_rfl) (fun _ _ _ h => h) ⟨Or.inl ⟨by rfl, fun w hS => by obtain ⟨h0, h1, h2, h3⟩ := hS; go_simp⟩, fun _ => rfl⟩ hS ?_
    simp only [List.setIfInBounds_toArray, List.set_cons_zero, List.set_cons_succ]
    refine anyHG_take (i := 1) (d := 12) (v := .func (.func 106) #[.pointer (some ⟨gr, 0, none⟩)] #[]) (by kernel_rfl) rfl (by kernel_rfl) (by kernel_rfl) (by kernel_rfl) rfl (by kernel_rfl) (fun _ _ _ h => h) ⟨Or.inl ⟨by rfl, fun w hS => by obtain ⟨h0, h1, h2, h3⟩ := hS; go_simp⟩, fun _ => rfl⟩ hS ?_
    simp only [List.setIfInBounds_toArray, List.set_cons_zero, List.set_cons_succ]
    refine anyHG_take (i := 2) (d := 13) (v := .int .i64 x.1) (by kernel_rfl) rfl (by kernel_rfl) (by kernel_rfl) (by kernel_rfl) rfl (by kernel_rfl) (fun _ _ _ h => h) ⟨Or.inl ⟨by rfl, fun w hS => by obtain ⟨h0, h1, h2, h3⟩ := hS; go_simp⟩, fun _ => rfl⟩ hS ?_
    simp only [List.setIfInBounds_toArray, List.set_cons_zero, List.set_cons_succ]
    refine anyHG_take (i := 3) (d := 14) (v := .agg #[.int .i64 x.2.1, .int .i64 x.2.2]) (by kernel_rfl) rfl (by kernel_rfl) (by kernel_rfl) (by kernel_rfl) rfl (by kernel_rfl) (fun _ _ _ h => h) ⟨Or.inl ⟨by rfl, fun w hS => by obtain ⟨h0, h1, h2, h3⟩ := hS; go_simp⟩, fun _ => rfl⟩ hS ?_
    simp only [List.setIfInBounds_toArray, List.set_cons_zero, List.set_cons_succ]
    refine anyHG_one (i := 4) (by kernel_rfl) rfl (by kernel_rfl) (by rfl) ?_
    gi_wp2_with fail
    refine ⟨trivial, (CallsIn.inRound l' (callsIn_wide.2 (HCS.out _ (Below.refl X.heap.size X).drew))).mono ?_⟩
    rintro e w9 ⟨A, c, w1, rfl, hB1, hFr, hw9⟩
    have HP9 := HPK.out A c w1 hB1 hFr
    rw [← hw9] at HP9
    have HS9 := Lib.hid HP9.1
    have HP9b := Lib.hid HP9.2
    have HW9 := Lib.hid hw9
    clear HP9 hw9
    have hX9 := Below.refl w9.heap.size w9
    clear hS
    have hS : (fun U : World => U.cell? ⟨g1, 0, none⟩ = some (.slice vA vn vc) ∧ U.cell? ⟨g0, 0, none⟩ = some (.func (.func 106) #[.pointer (some ⟨gr, 0, none⟩)] #[]) ∧ U.cell? ⟨Bx, 0, none⟩ = some (.int .i64 x.2.1) ∧ U.cell? ⟨Bx, 1, none⟩ = some (.int .i64 x.2.2)) w9 := HS9.out _ hX9
    gi_wp2
    try (refine ⟨.inr hS, ?_⟩)
    refine anyHG_one (i := 5) (by kernel_rfl) rfl (by kernel_rfl) (by rfl) ?_
    have hBa : Below w9.heap.size w9 (w9.alloc (.cells #[.slice A n c] 57)) := below_one w9 _
    have bE : Blk (w9.alloc (.cells #[.slice A n c] 57)) w9.heap.size 57 #[.slice A n c] := Blk.new w9 _ _
    have hXa := below_in hX9 hBa
    obtain ⟨wa, hwa⟩ : ∃ wa, (w9.alloc (.cells #[.slice A n c] 57)) = wa := ⟨_, rfl⟩
    rw [hwa] at hBa bE hXa
    clear hS
    have hS : (fun U : World => U.cell? ⟨g1, 0, none⟩ = some (.slice vA vn vc) ∧ U.cell? ⟨g0, 0, none⟩ = some (.func (.func 106) #[.pointer (some ⟨gr, 0, none⟩)] #[]) ∧ U.cell? ⟨Bx, 0, none⟩ = some (.int .i64 x.2.1) ∧ U.cell? ⟨Bx, 1, none⟩ = some (.int .i64 x.2.2)) wa := HS9.out _ hXa
    gi_wp2
    try rw [hwa]
    try (refine ⟨.inr hS, ?_⟩)
    refine anyHG_one (i := 6) (by kernel_rfl) rfl (by kernel_rfl) (by rfl) ?_
    have HPA := HP9b.out wa hXa
    have HPR := Lib.hid HPA.1
    have HPB := Lib.hid HPA.2.1
    have HPC := Lib.hid HPA.2.2.2
    have hpa3 := HPA.2.2.1
    clear HPA
    refine Rg.opIn_pushM (T := 36) (v := .slice vA vn vc) wa _ _ rfl Tryz.underlying36 _ rfl HPR.out w9.heap.size _ _ _ rfl bE HPB.out HLEN.out hpa3 ?_
    intro v' wb hrow hgr hor
    obtain ⟨vA2, vn2, vc2, rfl⟩ := Go.Proofs.YtfihlelhpmjpaaaGreatDoor.T.RowG.formR hrow
    clear hS
    have hS : (fun U : World => U.cell? ⟨g1, 0, none⟩ = some (.slice vA vn vc) ∧ U.cell? ⟨g0, 0, none⟩ = some (.func (.func 106) #[.pointer (some ⟨gr, 0, none⟩)] #[]) ∧ U.cell? ⟨Bx, 0, none⟩ = some (.int .i64 x.2.1) ∧ U.cell? ⟨Bx, 1, none⟩ = some (.int .i64 x.2.2)) wb := (HPC.out wb hgr).1
    gi_wp2_with fail
    try (refine ⟨.inr hS, ?_⟩)
    refine anyHG_one (i := 7) (by kernel_rfl) rfl (by kernel_rfl) (by rfl) ?_
    have f0 := (HPC.out wb hgr).2
    obtain ⟨h0, h1, h2, h3⟩ := hS
    gi_wp2
    refine anyHG_done (by kernel_rfl) ?_ _
    refine NoPanic.normal ?_
    clear h0 h1 h2 h3 f0
    gi_wp2_with fail
    rw [HW9.out] at hXa
    exact HFIN.out A c w1 wa _ _ hB1 hFr hXa hgr hor hrow
  case done =>
    rintro D0 xs oX X hD0 _ rfl ⟨q, v, aA, cA, hb1, ho, rfl, hq, hb0, hbr, hah, ⟨hSX, hBX⟩, hge⟩ hKD hne
    obtain ⟨vA, vn, vc, rfl⟩ := Go.Proofs.YtfihlelhpmjpaaaGreatDoor.T.RowG.formR ho
    have c1 := hb1.one
    have s7 := S7.out
    have hw0 := HW0s.out
    have HO := Lib.hid (And.intro ho hBX)
    have HN := Lib.hid hne
    have hXs := hBX.size
    clear ho hb0 hBX hb1 hbr hah hq
    gi_wp2_with fail
    (try rw [Exit.noGoto_normal])
    refine ⟨by simp, .inl ⟨_, _, rfl, run_takeDeferred hKD, ?_⟩⟩
    have hN := HN.out
    have hrow : ∀ ob, RowM q (X.putObj D0 ob) (W.heap.size + 2) (.slice vA vn vc) (toldF P Q n R D (chn a b rs)) := fun ob => RowG.kept HO.out.1 (grownBy_putObj' X D0 ob) (.inr fun e => hN (.inl e)) (fun b hb e => by injection e with e; subst e; exact hN (.inr hb))
    have hM := Rg.RowM.many_ HO.out.1
    have hvn : vn = 2 * rs.length := by
      obtain ⟨A2, cap, e, _⟩ := hM
      injection e with _ e2 _
      rw [e2, toldF_len, chn_len]
    subst hvn
    refine ⟨.slice vA (2 * rs.length) vc, by simp [results, Tryz.results104, go_sem], vA, vc, rfl, Rg.RowM.many_ (hrow _), ?_⟩
    exact below_grown HO.out.2 (grownBy_putObj' X D0 _) HO.out.2.size (fun r e => by injection e with e; omega)
end Go.Proofs.YtfihlelhpmjpaaaGreatDoor.T

