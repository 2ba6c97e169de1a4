/- Sets: over the cells that are made, each with what asks for its members. Sets: the cells that are made; those of which a place is a member. Sets: what hangs on a data cell. Sets: what hangs on a data cell, by lists. Rows of places as the callers know them; grids of cells; the document's Same and Parity. The document's member. The document's Members, Parity. The document's Parity. -/
import Derived.Test.YtggdlklkjnbbjaaGreatDoorZG4
import Derived.Shelf.RegionOpen
import Derived.Test.YtggdlklkjnbbjaaGreatDoorZwV
import Derived.Laws.OwnMore
namespace Go.Proofs.YtggdlklkjnbbjaaGreatDoor
open Go.RowKit Go.Shelf
set_option linter.unusedSimpArgs false
set_option linter.unusedVariables false
attribute [local go_sem] Oper.semAt_some

theorem one_way {e : Ending} {A B C D : Option Nat → Prop} (h : ∃ o', A o' ∧ B o' ∧ ((e = .returned (.bool true) ∧ C o') ∨ (e = .returned (.bool false) ∧ D o'))) :
    ∃ b, e = .returned (.bool b) ∧ ∃ o', A o' ∧ B o' ∧ (b = true → C o') ∧ (b = false → D o') := by
  obtain ⟨o', h1, h2, h3⟩ := h
  rcases h3 with ⟨rfl, h3⟩ | ⟨rfl, h3⟩
  · exact ⟨true, rfl, o', h1, h2, fun _ => h3, fun e => absurd e (by simp)⟩
  · exact ⟨false, rfl, o', h1, h2, fun e => absurd e (by simp), fun _ => h3⟩
end Go.Proofs.YtggdlklkjnbbjaaGreatDoor

namespace Go.Proofs.YtggdlklkjnbbjaaGreatDoor
open Go.RowKit Go.Shelf
set_option linter.unusedSimpArgs false
set_option linter.unusedVariables false
attribute [local go_sem] Oper.semAt_some

/-- A range whose variable lies in a block of its own, of what comes Pr standing. -/
theorem wpIn_rangeBoxP {α : Type} {F : Fence} {n : Nat} {P : Program} {g : Operand} {ps : Array Tmp} {assign body : Code} {Q : Exit → Act → World → Prop} {a : Act} {w : World}
    (hro : F.round = none) (h1 : 1 ≤ n) {gf : Nat} {lb : Array Value} (hg : a.eval g = .func (.func gf) #[] lb) (hFg : F.fn gf) (eg : ∀ args w, (callFunc gf args).run P w = .ok (.enter gf args) w)
    {encs : α → Array Value} {Ok : α → World → Prop} {Kp : World → World → Prop} {S Sp : List α → Prop} {N : Nat} {w0 : World} (hseq : SeqO F (n - 1) P gf lb encs Ok Kp S Sp N w0)
    (hKt : ∀ {A B C : World}, Kp A B → Kp B C → Kp A C) (hKb : ∀ (W : World) (l : Nat) (ob : Obj), w.heap.size ≤ l → l < W.heap.size → (∃ r, W.heap[l]? = some (.loop r)) → Kp W (W.putObj l ob)) (hb0 : Below w0.heap.size w0 w) (hps : ∀ x, (encs x).size = ps.size)
    (I : List α → Option Nat → World → Prop) (Ix : Code → List α → Option Nat → World → Prop) (hI : FarO w.heap.size I) (hIx : ∀ c, FarO w.heap.size (Ix c)) (o₀ : Option Nat) (ho₀ : ∀ b, o₀ = some b → b < w.heap.size) (h0 : I [] o₀ w)
    (Pr : α → World → Prop) (hPl : ∀ x (W : World) (l : Nat) (ob : Obj), (∃ r, W.heap[l]? = some (.loop r)) → Pr x W → Pr x (W.putObj l ob)) (t : TypeId) (cs : α → Array Value) (a₁ : α → Nat → Act)
    (hassign : ∀ (l : Nat) (pre : List α) (x : α) (o : Option Nat) (W : World) (K : Act → World → Prop), w.heap.size ≤ W.heap.size → (∀ b, o = some b → b < W.heap.size) → I pre o W → Ok x W → (∀ Bx W', SinceO w.heap.size o W W' → Kp W W' → I pre o W' → Blk W' Bx t (cs x) → some Bx ≠ o → w.heap.size ≤ Bx → Pr x W' → K (a₁ x Bx) W') →
      assign.wpIn (F.inRound l) (n - 1 - 1) P (Exit.then K (fun _ _ _ => False)) { tmps := (ps.zip (encs x)).foldl (fun t (p, v) => t.setIfInBounds p v) a.tmps, defers := [] } W)
    (hrow : ∀ pre o W, I pre o W → RowO o W) (hrowx : ∀ c pre o W, Ix c pre o W → RowO o W)
    (hbody : ∀ (l : Nat) (pre : List α) (x : α) (o : Option Nat) (Bx : Nat) (W : World), w.heap.size ≤ W.heap.size → I pre o W → Blk W Bx t (cs x) → some Bx ≠ o → w.heap.size ≤ Bx → Pr x W → pre.length < N →
      body.wpIn (F.inRound l) (n - 1 - 1) P (postO w.heap.size Kp I Ix (pre ++ [x]) o W) (a₁ x Bx) W)
    (hdone : ∀ (D : Nat) (xs : List α) (o : Option Nat) (W : World), w.heap.size ≤ D → FreshO o₀ o w → S xs → I xs o W → W.heap[D]? = some (.deferred (some [])) → some D ≠ o → Q .normal { a with defers := { target := .collected D, args := #[] } :: a.defers } W)
    (hstop : ∀ (D : Nat) (c : Code) (pre : List α) (o : Option Nat) (W : World), w.heap.size ≤ D → FreshO o₀ o w → Sp pre → Ix c pre o W → W.heap[D]? = some (.deferred (some [])) → some D ≠ o → c.wpIn F n P Q { a with defers := { target := .collected D, args := #[] } :: a.defers } W) :
    (Code.rangeFunc g ps assign body).wpIn F n P Q a w :=
  wpIn_rangeO hro h1 hg hFg eg hseq hKt hKb hb0 hps I Ix hI hIx o₀ ho₀ h0 (fun x o a' W => ∃ Bx, Blk W Bx t (cs x) ∧ some Bx ≠ o ∧ w.heap.size ≤ Bx ∧ Pr x W ∧ a' = a₁ x Bx)
    (fun x o a' W l ob r hl ⟨Bx, hb, hne, hle, hp, e⟩ => ⟨Bx, (World.putObj_heap_other (fun e2 => by unfold Blk at hb; rw [e2, hl] at hb; cases hb)).trans hb, hne, hle, hPl _ _ _ _ ⟨r, hl⟩ hp, e⟩)
    (fun l pre x o W K hs hol hi hok hK => hassign l pre x o W K hs hol hi hok fun Bx W' h2 h3 h4 h5 h6 h7 h8 => hK _ _ h2 h3 h4 ⟨Bx, h5, h6, h7, h8, rfl⟩) hrow hrowx
    (fun l pre x o a' W hs hi ⟨Bx, hb, hne, hle, hp, e⟩ hlt => by subst e; exact hbody l pre x o Bx W hs hi hb hne hle hp hlt) hdone hstop

/-- The function v goes over the made cells zs, each with what asks for its members. -/
def Seqs2 (lo : Nat) (k p : Int) (zs : List (Int × Int)) (v : Value) (w : World) : Prop :=
  ∃ gf lb, v = .func (.func gf) #[] lb ∧ (∀ args W, (callFunc gf args).run Tryz.prog W = .ok (.enter gf args) W) ∧
    ∀ n, 9 ≤ n → SeqO Fence.wide n Tryz.prog gf lb (fun x : (Int × Int) × Value => #[.agg #[.int .i64 x.1.1, .int .i64 x.1.2], x.2]) (fun x W => Asks (memB k p x.1.1 x.1.2) x.2 W) (KeepL lo (w.heap.size - lo)) (fun ys => ys.map (·.1) = zs) (fun pre => pre.map (·.1) <+: zs) 1000 w
end Go.Proofs.YtggdlklkjnbbjaaGreatDoor

namespace Go.Proofs.YtggdlklkjnbbjaaGreatDoor
open Go.RowKit Go.Shelf
set_option linter.unusedSimpArgs false
set_option linter.unusedVariables false

/-- The made cells of which a place is a member. -/
def havL (k p x y : Int) : List (Int × Int) := (flatC p (spanL (p - shortN k) (p - shortN k + madeN k))).filter fun m => memB k p m.1 m.2 x y
/-- append of a row of places, that may be none, to a row of the call's own. -/
theorem placesAny_run (w : World) (ty : TypeId) (base : Nat) (v : Value) (l : List (Int × Int)) (hown : OwnP w base v l) (base2 : Nat) (v2 : Value) (l2 : List (Int × Int)) (hown2 : OwnP w base2 v2 l2) (hlen : l.length ≤ 1000) (hlen2 : l2.length ≤ 1000) (hbase : base ≤ w.heap.size) :
    ∃ v' w', (Builtin.append_ #[197, 197] ty #[v, v2]).run Tryz.prog w = .ok v' w' ∧ OwnP w' base v' (l ++ l2) ∧ w.grownBy w' v.ownBlock := by
  obtain ⟨i, hi, hz0, hz1, hz2⟩ := info_parts Tryz.infoPlace
  rcases hown2.2 with ⟨h1, h2⟩ | ⟨g, cap, cur, h1, hrest⟩
  · have hl2 : l2 = [] := List.length_eq_zero_iff.1 (by have := codeCells_len l2; rw [h2] at this; simp at this; omega)
    subst h1 hl2
    rw [List.append_nil]
    exact ⟨v, w, run_append_owned_none (P := Tryz.prog) (w := w) base 197 ty 195 i 2 Tryz.underlying197 hi v l.length (codeCells l) hown, hown, World.grownBy.refl _ _⟩
  · subst h1
    obtain ⟨v', w', hrun, r1, r2, _, r3⟩ := run_append_own_at (P := Tryz.prog) w base 197 ty 195 i (.agg #[.int .i64 0, .int .i64 0]) 2 16 Tryz.underlying197 hi hz0 hz1 hz2 rfl (by omega) v l.length (codeCells l) hown ⟨g, 0, none⟩ l2.length cap (codeCells l2) (by rw [codeCells_len]; omega)
      (by intro j u hu; rw [addr_add, Nat.zero_add]; have hj : j < (codeCells l2).length := (List.getElem?_eq_some_iff.1 hu).1; rw [codeCells_len] at hj; exact (World.ownsRow.cellAt hown2 j (by omega)).trans hu)
      (by intro u hu'; unfold codeCells at hu'; obtain ⟨z, _, hz⟩ := List.mem_flatMap.1 hu'; simp only [List.mem_cons, List.not_mem_nil, or_false] at hz; rcases hz with rfl | rfl <;> rfl) (by unfold maxLen; omega) (by omega) hbase
    refine ⟨v', w', hrun, ?_, r2⟩
    unfold OwnP
    rw [List.length_append]
    unfold codeCells at *
    rw [List.flatMap_append]
    exact r1
/-- append at an operation of a region: of a row of places, that may be none, to a row of the call's own. -/
theorem opIn_places {F : Fence} {nF : Nat} (w : World) {o : Oper} {a : Act} {K : Act → World → Prop} {Q : Exit → Act → World → Prop} (s x : Operand)
    (ho : o.op = .call { callee := .builtin .append, args := #[s, x], argTypes := #[197, 197] })
    (base : Nat) (v : Value) (l : List (Int × Int)) (hs : a.eval s = v) (hown : OwnP w base v l) (base2 : Nat) (v2 : Value) (l2 : List (Int × Int)) (hx : a.eval x = v2) (hown2 : OwnP w base2 v2 l2) (hlen : l.length ≤ 1000) (hlen2 : l2.length ≤ 1000) (hbase : base ≤ w.heap.size)
    (h : ∀ v' w', OwnP w' base v' (l ++ l2) → w.grownBy w' v.ownBlock → K (a.put o.dst v') w') : o.wpIn F nF Tryz.prog a w K Q := by
  obtain ⟨v', w', hr, h2, h3⟩ := placesAny_run w o.type base v l hown base2 v2 l2 hown2 hlen hlen2 hbase
  unfold Oper.wpIn
  refine ⟨by simp [Oper.about, ho, resolve, Target.leads, Sem.run_pure], ?_⟩
  rw [Oper.semAt_plain F _ _ (by rw [ho]; intro c hc'; cases hc')]
  simp [execOp, ho, resolve, invoke, builtin, hs, hx, hr, Result.andThen]
  exact h v' w' h2 h3
end Go.Proofs.YtggdlklkjnbbjaaGreatDoor

namespace Go.Proofs.YtggdlklkjnbbjaaGreatDoor
open Go.RowKit Go.Shelf

theorem flatC_mem' {p : Int} {cs : List Int} {z : Int × Int} (h : z ∈ flatC p cs) : z.1 ∈ cs ∧ 0 ≤ z.2 ∧ z.2 < p - 1 := by
  obtain ⟨x, hx, h⟩ := List.mem_flatMap.1 h
  obtain ⟨y, hy, rfl⟩ := List.mem_map.1 h
  unfold rowsL at hy
  obtain ⟨i, hi, rfl⟩ := List.mem_map.1 hy
  have := List.mem_range.1 hi
  exact ⟨hx, by simp only; omega, by simp only; omega⟩
theorem spanL_mk {a b x : Int} (h1 : a ≤ x) (h2 : x < b) : x ∈ spanL a b := by
  unfold spanL
  exact List.mem_map.2 ⟨(x - a).toNat, List.mem_range.2 (by omega), by omega⟩
theorem flatC_append (p : Int) (a b : List Int) : flatC p (a ++ b) = flatC p a ++ flatC p b := by unfold flatC; rw [List.flatMap_append]
theorem spanL_split (a b c : Int) (h1 : a ≤ b) (h2 : b ≤ c) : spanL a c = spanL a b ++ spanL b c := by
  unfold spanL
  rw [show (c - a).toNat = (b - a).toNat + (c - b).toNat by omega, List.range_add, List.map_append, List.map_map]
  congr 1
  apply List.map_congr_left
  intro i _
  simp only [Function.comp]
  omega
theorem emod_apart {p x d y : Int} (hx : 0 ≤ x) (hd : x < d) (hp : d < p) : (x + y) % p ≠ (d + y) % p := by
  intro h
  have h2 := Int.emod_eq_emod_iff_emod_sub_eq_zero.1 h.symm
  rw [show d + y - (x + y) = d - x by omega, Int.emod_eq_of_lt (by omega) (by omega)] at h2
  omega
/-- A made cell that is no diagonal of Rdp has no cell of rows. -/
theorem memB_row {k p mx my y : Int} (h : memB k p mx my (p - shortN k) y = true) : k = 2 ∧ mx = p - shortN k + 1 ∧ dgN2 k p (p - shortN k) y = my := by
  unfold memB wayB at h
  split at h
  · unfold inRw at h; simp at h
  · split at h
    · rename_i h3
      unfold onDg at h
      split at h
      · rename_i h2
        simp at h
        refine ⟨h2, ?_, h⟩
        unfold roleN at h3
        split at h3
        · omega
        · split at h3
          · assumption
          · split at h3 <;> omega
      · simp at h
    · unfold onSl at h; simp at h
theorem memB_both {k p mx my x y : Int} (hR : RightC k p) (hx : 0 ≤ x ∧ x < p - shortN k) (hy : 0 ≤ y ∧ y < p - 1) (h1 : memB k p mx my x y = true) (h2 : memB k p mx my (p - shortN k) y = true) : False := by
  obtain ⟨rfl, rfl, h3⟩ := memB_row h2
  obtain ⟨p1, p2, s1, s2, m1, m2⟩ := hR.und
  have hr : roleN (p - shortN 2) (p - shortN 2 + 1) = 3 := by unfold roleN; rw [if_neg (by omega), if_pos rfl]
  unfold memB wayB at h1
  rw [hr, if_neg (by omega), if_pos rfl] at h1
  unfold onDg at h1
  rw [if_pos rfl] at h1
  obtain ⟨_, h4⟩ := of_decide_eq_true h1
  unfold dgN2 at h3 h4
  have c1 : HasCell 2 p x y := ⟨⟨hx.1, by omega⟩, hy⟩
  have c2 : HasCell 2 p (p - shortN 2) y := ⟨⟨by omega, by omega⟩, hy⟩
  rw [if_pos c1] at h4
  rw [if_pos c2] at h3
  have hs : shortN 2 = 1 := rfl
  exact emod_apart hx.1 hx.2 (by omega) (h4.trans h3.symm)
/-- What hangs on a data cell. -/
def touL (k p x y : Int) : List (Int × Int) := (flatC p (spanL (p - shortN k) (p - shortN k + madeN k))).filter fun m => memB k p m.1 m.2 x y || memB k p m.1 m.2 (p - shortN k) y
theorem touL_sorted (k p x y : Int) : (touL k p x y).Pairwise (fun a b => aheadB a b = true) := (flatC_sorted p _ (spanL_sorted _ _)).filter _
theorem havL_nodup (k p x y : Int) : (havL k p x y).Nodup := sorted_nodup ((flatC_sorted p _ (spanL_sorted _ _)).filter _)
theorem tou_nodup {k p x y : Int} (hR : RightC k p) (hx : 0 ≤ x ∧ x < p - shortN k) (hy : 0 ≤ y ∧ y < p - 1) : (havL k p x y ++ havL k p (p - shortN k) y).Nodup := by
  unfold List.Nodup
  rw [List.pairwise_append]
  refine ⟨havL_nodup _ _ _ _, havL_nodup _ _ _ _, fun a ha b hb e => ?_⟩
  subst e
  exact memB_both hR hx hy (List.mem_filter.1 ha).2 (List.mem_filter.1 hb).2
theorem tou_perm {k p x y : Int} (hR : RightC k p) (hx : 0 ≤ x ∧ x < p - shortN k) (hy : 0 ≤ y ∧ y < p - 1) : (touL k p x y).Perm (havL k p x y ++ havL k p (p - shortN k) y) := by
  refine (List.perm_ext_iff_of_nodup (sorted_nodup (touL_sorted _ _ _ _)) (tou_nodup hR hx hy)).2 fun a => ?_
  unfold touL havL
  rw [List.mem_append, List.mem_filter, List.mem_filter, List.mem_filter, Bool.or_eq_true]
  constructor
  · rintro ⟨h1, h2 | h2⟩
    · exact .inl ⟨h1, h2⟩
    · exact .inr ⟨h1, h2⟩
  · rintro (⟨h1, h2⟩ | ⟨h1, h2⟩)
    · exact ⟨h1, .inl h2⟩
    · exact ⟨h1, .inr h2⟩
theorem tou_ne {k p x y : Int} (hR : RightC k p) (hx : 0 ≤ x ∧ x < p - shortN k) (hy : 0 ≤ y ∧ y < p - 1) : havL k p x y ≠ [] := by
  obtain ⟨p1, p2, s1, s2, m1, m2⟩ := hR.und
  have hm : (p - shortN k, y) ∈ havL k p x y := by
    refine List.mem_filter.2 ⟨flatC_mem (spanL_mk (Int.le_refl _) (by omega)) hy, ?_⟩
    unfold memB wayB
    rw [show roleN (p - shortN k) (p - shortN k) = 2 from if_pos rfl, if_pos rfl]
    exact decide_eq_true ⟨hx.2, rfl⟩
  intro e
  rw [e] at hm
  cases hm
theorem memB_data {k p mx my x y : Int} (hR : RightC k p) (h : memB k p mx my x y = true) (hm : p - shortN k ≤ mx) : x < mx := by
  obtain ⟨p1, p2, s1, s2, m1, m2⟩ := hR.und
  unfold memB wayB at h
  split at h
  · have := (of_decide_eq_true h).1; omega
  · rename_i hr
    have : mx ≠ p - shortN k := fun e => hr (by rw [e]; exact if_pos rfl)
    split at h
    · unfold onDg at h
      split at h
      · have := (of_decide_eq_true h).1; omega
      · have := (of_decide_eq_true h).1; omega
    · have := (of_decide_eq_true h).1; omega
theorem memL_all {k p mx my : Int} (hR : RightC k p) (hc : HasCell k p mx my) (hm : p - shortN k ≤ mx) : (flatC p (spanL 0 (p - shortN k + madeN k))).filter (fun x => memB k p mx my x.1 x.2) = memL k p mx my := by
  obtain ⟨⟨h1, h2⟩, _⟩ := hc
  rw [spanL_split 0 mx _ h1 (by omega), flatC_append, List.filter_append]
  have : (flatC p (spanL mx (p - shortN k + madeN k))).filter (fun x => memB k p mx my x.1 x.2) = [] := by
    rw [List.filter_eq_nil_iff]
    intro z hz hb
    have h3 := spanL_mem (flatC_mem' hz).1
    have := memB_data hR hb hm
    omega
  rw [this, List.append_nil]
  rfl
/-- Is a data cell left an odd number of times? -/
def hangB (k p mx my x y : Int) : Bool := memB k p mx my x y != memB k p mx my (p - shortN k) y
theorem hang_tou {k p x y : Int} (hR : RightC k p) (hx : 0 ≤ x ∧ x < p - shortN k) (hy : 0 ≤ y ∧ y < p - 1) : (flatC p (spanL (p - shortN k) (p - shortN k + madeN k))).filter (fun m => hangB k p m.1 m.2 x y) = touL k p x y := by
  unfold touL
  apply List.filter_congr
  intro m _
  unfold hangB
  have := fun h1 h2 => memB_both (mx := m.1) (my := m.2) hR hx hy h1 h2
  cases h1 : memB k p m.1 m.2 x y <;> cases h2 : memB k p m.1 m.2 (p - shortN k) y <;> simp_all
/-- Turned by each that is a or b. -/
def turnF (a b : Int × Int) (l : List (Int × Int)) : Bool := l.foldl (fun o e => o != decide (e = a ∨ e = b)) false
theorem turn_acc (a b : Int × Int) (hab : a ≠ b) : ∀ (l : List (Int × Int)) (o : Bool), l.Nodup → l.foldl (fun o e => o != decide (e = a ∨ e = b)) o = (o != (decide (a ∈ l) != decide (b ∈ l)))
  | [], o, _ => by simp
  | e :: l, o, h => by
    obtain ⟨h1, h2⟩ := List.nodup_cons.1 h
    rw [List.foldl_cons, turn_acc a b hab l _ h2]
    by_cases ea : e = a
    · subst ea
      have hb : (decide (b ∈ e :: l)) = decide (b ∈ l) := by simp [Ne.symm hab]
      rw [hb]
      simp [h1]
    · by_cases eb : e = b
      · subst eb
        have hb : (decide (a ∈ e :: l)) = decide (a ∈ l) := by simp [hab]
        rw [hb]
        simp [h1]
      · have hb : (decide (a ∈ e :: l)) = decide (a ∈ l) := by simp [Ne.symm ea]
        have hb2 : (decide (b ∈ e :: l)) = decide (b ∈ l) := by simp [Ne.symm eb]
        rw [hb, hb2]
        simp [ea, eb]
theorem mem_memL {k p mx my x y : Int} (hR : RightC k p) (hm : p - shortN k ≤ mx) (hx : 0 ≤ x) (hy : 0 ≤ y ∧ y < p - 1) : ((x, y) ∈ memL k p mx my) ↔ memB k p mx my x y = true := by
  unfold memL
  rw [List.mem_filter]
  refine ⟨fun h => h.2, fun h => ⟨flatC_mem (spanL_mk hx (memB_data hR h hm)) hy, h⟩⟩
theorem turn_hang {k p mx my x y : Int} (hR : RightC k p) (hm : p - shortN k ≤ mx) (hx : 0 ≤ x ∧ x < p - shortN k) (hy : 0 ≤ y ∧ y < p - 1) : turnF (x, y) (p - shortN k, y) (memL k p mx my) = hangB k p mx my x y := by
  obtain ⟨p1, p2, s1, s2, m1, m2⟩ := hR.und
  unfold turnF
  rw [turn_acc _ _ (by intro e; injection e with e _; omega) _ _ (sorted_nodup (memL_sorted _ _ _ _))]
  unfold hangB
  have e1 : decide ((x, y) ∈ memL k p mx my) = memB k p mx my x y := by
    rw [Bool.eq_iff_iff, decide_eq_true_iff]; exact mem_memL hR hm hx.1 hy
  have e2 : decide ((p - shortN k, y) ∈ memL k p mx my) = memB k p mx my (p - shortN k) y := by
    rw [Bool.eq_iff_iff, decide_eq_true_iff]; exact mem_memL hR hm (by omega) hy
  rw [e1, e2]
  cases memB k p mx my x y <;> cases memB k p mx my (p - shortN k) y <;> rfl

/-- How many members a made cell has. -/
def wantN (k p mx : Int) : Int := if mx = p - shortN k then p - shortN k else if k = 2 then p - 1 else 2 * (p - 1)
set_option maxRecDepth 100000 in
theorem memL_counts : ∀ c ∈ allC, ∀ mx ∈ spanL (c.2 - shortN c.1) (c.2 - shortN c.1 + madeN c.1), ∀ my ∈ rowsL c.2, ((memL c.1 c.2 mx my).length : Int) = wantN c.1 c.2 mx := by decide +kernel
theorem memL_count {k p mx my : Int} (hR : RightC k p) (hc : HasCell k p mx my) (hm : p - shortN k ≤ mx) : ((memL k p mx my).length : Int) = wantN k p mx := by
  have hin : (k, p) ∈ allC := by
    obtain ⟨⟨h1, h2⟩, h3⟩ := hR
    unfold allC
    refine List.mem_flatMap.2 ⟨k, ?_, List.mem_map.2 ⟨p, h3, rfl⟩⟩
    have : k = 1 ∨ k = 2 ∨ k = 3 := by omega
    rcases this with rfl | rfl | rfl <;> decide
  refine memL_counts (k, p) hin mx (spanL_mk hm hc.1.2) my ?_
  unfold rowsL
  exact List.mem_map.2 ⟨my.toNat, List.mem_range.2 (by have := hc.2; omega), by have := hc.2; omega⟩
end Go.Proofs.YtggdlklkjnbbjaaGreatDoor

namespace Go.Proofs.YtggdlklkjnbbjaaGreatDoor
open Go.RowKit Go.Shelf
set_option linter.unusedSimpArgs false
set_option linter.unusedVariables false

/-- The value v owns a row of its own, of the places l as callers know them. -/
def OwnA (w : World) (base : Nat) (v : Value) (l : List (Int × Int)) : Prop := w.ownsRow base 56 2 v l.length (codeCells l)
theorem ownA_nil (w : World) (base : Nat) : OwnA w base (.slice none 0 0) [] := World.ownsRow_nil w base _ 2
theorem OwnA.below {w w' : World} {base : Nat} {v : Value} {l : List (Int × Int)} (h : OwnA w base v l) (hb : Below w.heap.size w w') : OwnA w' base v l := by
  refine ⟨h.1, ?_⟩
  rcases h.2 with h1 | ⟨g, cap, cur, e, h2, hg, rest⟩
  · exact .inl h1
  · exact .inr ⟨g, cap, cur, e, h2, (hb.block g (Array.getElem?_eq_some_iff.1 hg).1).trans hg, rest⟩
theorem OwnA.own_le {w : World} {base : Nat} {v : Value} {l : List (Int × Int)} (h : OwnA w base v l) : ∀ k, v.ownBlock = some k → base ≤ k := fun k e => (World.ownsRow.lt h k e).1
theorem OwnA.ne {w : World} {base : Nat} {v : Value} {l : List (Int × Int)} (h : OwnA w base v l) {g : Nat} (hb : g < base) : some g ≠ v.ownBlock := fun e => by
  have := h.own_le g e.symm
  omega
theorem OwnA.less {w : World} {base base' : Nat} {v : Value} {l : List (Int × Int)} (h : OwnA w base v l) (hb : base' ≤ base) : OwnA w base' v l := ⟨h.1, h.2.imp id fun ⟨g, cap, cur, h1, h2, h3⟩ => ⟨g, cap, cur, h1, Nat.le_trans hb h2, h3⟩⟩
/-- The slice value v reads as the places l. -/
def ReadA (W : World) (v : Value) (l : List (Int × Int)) : Prop :=
  ∃ (p : Option Addr) (cap : Nat), v = .slice p l.length cap ∧ ∀ (j : Nat) (hj : j < l.length), ∃ g, p = some ⟨g, 0, none⟩ ∧ g < W.heap.size ∧ W.cell? ⟨g, j * 2, none⟩ = some (.int .i64 (l[j]).1) ∧ W.cell? ⟨g, j * 2 + 1, none⟩ = some (.int .i64 (l[j]).2)
theorem ReadA.next {W W' : World} {v : Value} {l : List (Int × Int)} (h : ReadA W v l) (hb : Below W.heap.size W W') : ReadA W' v l := by
  obtain ⟨p, cap, e, hc⟩ := h
  refine ⟨p, cap, e, fun j hj => ?_⟩
  obtain ⟨g, h1, h2, h3, h4⟩ := hc j hj
  exact ⟨g, h1, Nat.lt_of_lt_of_le h2 hb.size, nextc h3 hb, nextc h4 hb⟩
theorem ReadP.readA {W : World} {v : Value} {l : List (Int × Int)} (h : ReadP W.heap.size W v l) : ReadA W v l := by
  obtain ⟨g, cap, e, hg, hc⟩ := h
  exact ⟨some ⟨g, 0, none⟩, cap, e, fun j hj => ⟨g, rfl, hg, hc j hj⟩⟩
theorem OwnA.readA {w : World} {base : Nat} {v : Value} {l : List (Int × Int)} (h : OwnA w base v l) : ReadA w v l := by
  by_cases hl : l = []
  · subst hl
    rcases h.2 with ⟨rfl, _⟩ | ⟨g, cap, cur, e, _⟩
    · exact ⟨none, 0, rfl, fun j hj => absurd hj (Nat.not_lt_zero _)⟩
    · exact ⟨some ⟨g, 0, none⟩, cap, e, fun j hj => absurd hj (Nat.not_lt_zero _)⟩
  · obtain ⟨g, cap, rfl, hg, hg1⟩ := World.ownsRow.form h (List.length_pos_iff.2 hl)
    refine ⟨some ⟨g, 0, none⟩, cap, rfl, fun j hj => ⟨g, rfl, by omega, ?_⟩⟩
    obtain ⟨k0, k1⟩ := codeCells_at l j hj
    rw [Nat.mul_comm 2 j] at k0 k1
    exact ⟨(World.ownsRow.cellAt h (j * 2) (by omega)).trans k0, (World.ownsRow.cellAt h (j * 2 + 1) (by omega)).trans k1⟩
theorem readA_nil (W : World) : ReadA W (.slice none 0 0) [] := ⟨none, 0, rfl, fun j hj => absurd hj (Nat.not_lt_zero _)⟩
/-- append of one place more. -/
theorem OwnA.push {w : World} {base : Nat} {v : Value} {l : List (Int × Int)} {x y : Int} (h : w.ownsRow base 56 2 v (l.length + 1) (codeCells l ++ [.int .i64 x, .int .i64 y])) : OwnA w base v (l ++ [(x, y)]) := by
  unfold OwnA
  rw [List.length_append]
  unfold codeCells at *
  rw [List.flatMap_append]
  exact h

/-- The cells of j columns of R rows from column c on, and of n of the next one. -/
def grid (c : Int) (R j n : Nat) : List (Int × Int) := ((List.range j).flatMap fun (i : Nat) => (List.range R).map fun (r : Nat) => (c + (i : Int), (r : Int))) ++ (List.range n).map fun (r : Nat) => (c + (j : Int), (r : Int))
theorem grid_row (c : Int) (R j : Nat) : grid c R (j + 1) 0 = grid c R j R := by
  unfold grid
  rw [List.range_succ, List.flatMap_append]
  simp
theorem grid_one (c : Int) (R j n : Nat) : grid c R j (n + 1) = grid c R j n ++ [(c + (j : Int), (n : Int))] := by
  unfold grid
  rw [List.range_succ, List.map_append, List.append_assoc]
  rfl
theorem grid_flat (a b p : Int) : grid a (p - 1).toNat (b - a).toNat 0 = flatC p (spanL a b) := by
  unfold grid flatC spanL rowsL
  rw [List.flatMap_map]
  simp
  rfl
theorem grid_len (c : Int) (R j n : Nat) (hR : R ≤ 16) (hj : j ≤ 20) (hn : n ≤ R) : (grid c R j n).length ≤ 500 := by
  unfold grid
  rw [List.length_append, List.length_flatMap, List.length_map, List.length_range]
  have e : ((List.range j).map fun (i : Nat) => ((List.range R).map fun (r : Nat) => (c + (i : Int), (r : Int))).length) = (List.range j).map fun _ => R := by
    apply List.map_congr_left
    intro i _
    simp
  rw [e, List.map_const', List.sum_replicate_nat, List.length_range]
  have := Nat.mul_le_mul hj hR
  omega

end Go.Proofs.YtggdlklkjnbbjaaGreatDoor

namespace Go.Proofs.YtggdlklkjnbbjaaGreatDoor
open Go.RowKit Go.Shelf
set_option linter.unusedSimpArgs false
set_option linter.unusedVariables false
attribute [local go_sem] Oper.semAt_some

/-- What member answers, by roles, diagonal and slant. -/
def refB (k p my y r o dg sl : Int) : Bool :=
  if r = 2 then o == 1 && y == my else if r = 3 ∧ k = 2 then (o == 1 || o == 2) && dg == my else if r = 3 then o == 1 && (dg == my || dg == p - 1) else o == 1 && (sl == my || sl == p - 1)
theorem refB_mem {k p mx my x y : Int} (hR : RightC k p) (hc : HasCell k p mx my) (hm : p - shortN k ≤ mx) (hx : HasCell k p x y) : refB k p my y (rroleN (p - shortN k) mx) (rroleN (p - shortN k) x) ((x + y) % p) ((y - x) % p) = memB k p mx my x y := by
  have hu := hR.und
  obtain ⟨p1, p2, s1, s2, m1, m2⟩ := hu
  have e1 := role_eq (x := mx) ⟨hc.1.1, hc.1.2⟩ hR.und
  have e2 : (rroleN (p - shortN k) x = 1 ↔ x < p - shortN k) := by unfold rroleN; split <;> omega
  have e3 : (rroleN (p - shortN k) x = 2 ↔ x = p - shortN k) := by unfold rroleN; split <;> omega
  unfold memB wayB inRw onDg onSl dgN2 slN2
  rw [if_pos hx, if_pos hx, e1]
  unfold refB
  generalize rroleN (p - shortN k) mx = r at *
  generalize rroleN (p - shortN k) x = o at *
  generalize (x + y) % p = dg
  generalize (y - x) % p = sl
  generalize p - shortN k = d at *
  by_cases h2 : r = 2
  · rw [if_pos h2, if_pos h2, Bool.eq_iff_iff]
    simp [e2]
  · rw [if_neg h2, if_neg h2]
    by_cases h3 : r = 3
    · rw [if_pos h3]
      by_cases hk : k = 2
      · rw [if_pos ⟨h3, hk⟩, if_pos hk, Bool.eq_iff_iff]
        simp [e2, e3, h3]
      · rw [if_neg (fun h => hk h.2), if_pos h3, if_neg hk, Bool.eq_iff_iff]
        simp [e2]
    · rw [if_neg (fun h => h3 h.1), if_neg h3, if_neg h3, Bool.eq_iff_iff]
      simp [e2]

set_option maxRecDepth 100000 in
set_option maxHeartbeats 4000000 in
theorem member_walk (k p mx my x y r o dg sl : Int) (hb : -100 ≤ p ∧ p ≤ 100) (hRo : ∀ W, Calls Tryz.prog 138 #[.agg #[.int .i64 k, .int .i64 p], .int .i64 mx] W fun e w' => e = .returned (.int .i64 r) ∧ Below W.heap.size W w')
    (hOf : ∀ W, Calls Tryz.prog 138 #[.agg #[.int .i64 k, .int .i64 p], .int .i64 x] W fun e w' => e = .returned (.int .i64 o) ∧ Below W.heap.size W w')
    (hDg : ∀ W, Calls Tryz.prog 37 #[.agg #[.int .i64 k, .int .i64 p], .agg #[.int .i64 x, .int .i64 y]] W fun e w' => e = .returned (.int .i64 dg) ∧ Below W.heap.size W w')
    (hSl : ∀ W, Calls Tryz.prog 58 #[.agg #[.int .i64 k, .int .i64 p], .agg #[.int .i64 x, .int .i64 y]] W fun e w' => e = .returned (.int .i64 sl) ∧ Below W.heap.size W w') (w : World) :
    Calls Tryz.prog 102 #[.agg #[.int .i64 k, .int .i64 p], .agg #[.int .i64 mx, .int .i64 my], .agg #[.int .i64 x, .int .i64 y]] w fun e w' => e = .returned (.bool (refB k p my y r o dg sl)) ∧ Below w.heap.size w w' := by
  have HRo := Lib.hid hRo
  have HOf := Lib.hid hOf
  have HDg := Lib.hid hDg
  have HSl := Lib.hid hSl
  clear hRo hOf hDg hSl
  obtain ⟨W0, hW0⟩ : ∃ W0, ((w.alloc (.cells #[.int .i64 k, .int .i64 p] 37)).alloc (.cells #[.int .i64 mx, .int .i64 my] 56)).alloc (.cells #[.int .i64 x, .int .i64 y] 56) = W0 := ⟨_, rfl⟩
  have b0 : Blk W0 w.heap.size 37 #[.int .i64 k, .int .i64 p] := by rw [← hW0]; exact ((Blk.new w _ _).alloc _).alloc _
  have b1 : Blk W0 (w.heap.size + 1) 56 #[.int .i64 mx, .int .i64 my] := by rw [← hW0]; exact (Blk.second w _ _ _).alloc _
  have b2 : Blk W0 (w.heap.size + 1 + 1) 56 #[.int .i64 x, .int .i64 y] := by
    rw [← hW0]
    have := Blk.new ((w.alloc (.cells #[.int .i64 k, .int .i64 p] 37)).alloc (.cells #[.int .i64 mx, .int .i64 my] 56)) 56 #[.int .i64 x, .int .i64 y]
    rwa [World.size_alloc, World.size_alloc] at this
  have hB : Below w.heap.size w W0 := by rw [← hW0]; exact (below_two w _ _).alloc (by simp; omega) _
  have c0 := b0.cell 0
  have c1 := b0.cell 1
  have a0 := b1.cell 0
  have a1 := b1.cell 1
  have z0 := b2.cell 0
  have z1 := b2.cell 1
  simp only [List.getElem?_toArray, List.getElem?_cons_zero, List.getElem?_cons_succ] at c0 c1 a0 a1 z0 z1
  refine (callsIn_wide (n := 12)).1 ?_
  refine callsIn_of_wp_marks Tryz.func102 rfl trivial ?_ rfl
  simp only [Tryz.ntmps102, List.size_toArray, List.length_cons, List.length_nil, Nat.reduceAdd, Nat.reduceSub, Array.replicate_succ, Array.replicate_zero, List.push_toArray, List.append_toArray, List.nil_append, List.cons_append]
  gi_wp2_with fail
  clear hW0
  have hS : (fun V : World => V.cell? ⟨w.heap.size, 0, none⟩ = some (.int .i64 k) ∧ V.cell? ⟨w.heap.size, 1, none⟩ = some (.int .i64 p) ∧ V.cell? ⟨w.heap.size + 1, 0, none⟩ = some (.int .i64 mx) ∧ V.cell? ⟨w.heap.size + 1, 1, none⟩ = some (.int .i64 my) ∧ V.cell? ⟨w.heap.size + 1 + 1, 0, none⟩ = some (.int .i64 x) ∧ V.cell? ⟨w.heap.size + 1 + 1, 1, none⟩ = some (.int .i64 y)) _ := ⟨c0, c1, a0, a1, z0, z1⟩
  refine wpIn_mono (region_HF (Q := NoPanic _) (S := (fun V : World => V.cell? ⟨w.heap.size, 0, none⟩ = some (.int .i64 k) ∧ V.cell? ⟨w.heap.size, 1, none⟩ = some (.int .i64 p) ∧ V.cell? ⟨w.heap.size + 1, 0, none⟩ = some (.int .i64 mx) ∧ V.cell? ⟨w.heap.size + 1, 1, none⟩ = some (.int .i64 my) ∧ V.cell? ⟨w.heap.size + 1 + 1, 0, none⟩ = some (.int .i64 x) ∧ V.cell? ⟨w.heap.size + 1 + 1, 1, none⟩ = some (.int .i64 y))) (by kernel_rfl) ?_) NoPanic.imp
  refine anyHF_take (i := 0) (d := 11) (v := .agg #[.int .i64 k, .int .i64 p]) (by kernel_rfl) rfl (by kernel_rfl) (by kernel_rfl) (by kernel_rfl) rfl (fun _ _ _ h => h) ⟨Or.inl ⟨by rfl, fun w hS => by obtain ⟨h0, h1, h2, h3, h4, h5⟩ := hS; go_simp⟩, fun _ => rfl⟩ hS ?_
  simp only [List.setIfInBounds_toArray, List.set_cons_zero, List.set_cons_succ]
  refine anyHF_take (i := 1) (d := 12) (v := .pointer (some ⟨w.heap.size + 1, 0, none⟩)) (by kernel_rfl) rfl (by kernel_rfl) (by kernel_rfl) (by kernel_rfl) rfl (fun _ _ _ h => h) ⟨Or.inl ⟨by rfl, fun w hS => by obtain ⟨h0, h1, h2, h3, h4, h5⟩ := hS; go_simp⟩, fun _ => rfl⟩ hS ?_
  simp only [List.setIfInBounds_toArray, List.set_cons_zero, List.set_cons_succ]
  refine anyHF_take (i := 2) (d := 13) (v := .int .i64 mx) (by kernel_rfl) rfl (by kernel_rfl) (by kernel_rfl) (by kernel_rfl) rfl (fun _ _ _ h => h) ⟨Or.inl ⟨by rfl, fun w hS => by obtain ⟨h0, h1, h2, h3, h4, h5⟩ := hS; go_simp⟩, fun _ => rfl⟩ hS ?_
  simp only [List.setIfInBounds_toArray, List.set_cons_zero, List.set_cons_succ]
  refine anyHF_take (i := 4) (d := 15) (v := .agg #[.int .i64 k, .int .i64 p]) (by kernel_rfl) rfl (by kernel_rfl) (by kernel_rfl) (by kernel_rfl) rfl (fun _ _ _ h => h) ⟨Or.inl ⟨by rfl, fun w hS => by obtain ⟨h0, h1, h2, h3, h4, h5⟩ := hS; go_simp⟩, fun _ => rfl⟩ hS ?_
  simp only [List.setIfInBounds_toArray, List.set_cons_zero, List.set_cons_succ]
  refine anyHF_take (i := 5) (d := 16) (v := .pointer (some ⟨w.heap.size + 1 + 1, 0, none⟩)) (by kernel_rfl) rfl (by kernel_rfl) (by kernel_rfl) (by kernel_rfl) rfl (fun _ _ _ h => h) ⟨Or.inl ⟨by rfl, fun w hS => by obtain ⟨h0, h1, h2, h3, h4, h5⟩ := hS; go_simp⟩, fun _ => rfl⟩ hS ?_
  simp only [List.setIfInBounds_toArray, List.set_cons_zero, List.set_cons_succ]
  refine anyHF_take (i := 6) (d := 17) (v := .int .i64 x) (by kernel_rfl) rfl (by kernel_rfl) (by kernel_rfl) (by kernel_rfl) rfl (fun _ _ _ h => h) ⟨Or.inl ⟨by rfl, fun w hS => by obtain ⟨h0, h1, h2, h3, h4, h5⟩ := hS; go_simp⟩, fun _ => rfl⟩ hS ?_
  simp only [List.setIfInBounds_toArray, List.set_cons_zero, List.set_cons_succ]
  refine anyHF_one (i := 3) (by kernel_rfl) rfl (by kernel_rfl) (by rfl) ?_
  gi_wp2_with fail
  refine ⟨trivial, (callsIn_wide.2 (HRo.out _)).mono ?_⟩
  rintro e w1 ⟨rfl, hB1⟩
  replace hB1 := below_undrew hB1
  replace b0 := b0.below hB1 b0.lt
  replace b1 := b1.below hB1 b1.lt
  replace b2 := b2.below hB1 b2.lt
  replace hB := below_in hB hB1
  clear c0 c1 a0 a1 z0 z1
  have c0 := b0.cell 0
  have c1 := b0.cell 1
  have a0 := b1.cell 0
  have a1 := b1.cell 1
  have z0 := b2.cell 0
  have z1 := b2.cell 1
  simp only [List.getElem?_toArray, List.getElem?_cons_zero, List.getElem?_cons_succ] at c0 c1 a0 a1 z0 z1
  clear hS
  gi_wp2
  refine anyHF_one (i := 7) (by kernel_rfl) rfl (by kernel_rfl) (by rfl) ?_
  gi_wp2_with fail
  refine ⟨trivial, (callsIn_wide.2 (HOf.out _)).mono ?_⟩
  rintro e w1 ⟨rfl, hB1⟩
  replace b0 := b0.below hB1 b0.lt
  replace b1 := b1.below hB1 b1.lt
  replace b2 := b2.below hB1 b2.lt
  replace hB := below_in hB hB1
  clear c0 c1 a0 a1 z0 z1
  have c0 := b0.cell 0
  have c1 := b0.cell 1
  have a0 := b1.cell 0
  have a1 := b1.cell 1
  have z0 := b2.cell 0
  have z1 := b2.cell 1
  simp only [List.getElem?_toArray, List.getElem?_cons_zero, List.getElem?_cons_succ] at c0 c1 a0 a1 z0 z1
  gi_wp2
  refine anyHF_one (i := 8) (by kernel_rfl) rfl (by kernel_rfl) (by rfl) ?_
  gi_wp2
  refine anyHF_one (i := 9) (by kernel_rfl) rfl (by kernel_rfl) (by rfl) ?_
  gi_wp2
  refine anyHF_done (by kernel_rfl) ?_ _
  refine NoPanic.normal ?_
  gi_wp2_with fail
  have hS : (fun V : World => V.cell? ⟨w.heap.size, 0, none⟩ = some (.int .i64 k) ∧ V.cell? ⟨w.heap.size, 1, none⟩ = some (.int .i64 p) ∧ V.cell? ⟨w.heap.size + 1, 0, none⟩ = some (.int .i64 mx) ∧ V.cell? ⟨w.heap.size + 1, 1, none⟩ = some (.int .i64 my) ∧ V.cell? ⟨w.heap.size + 1 + 1, 0, none⟩ = some (.int .i64 x) ∧ V.cell? ⟨w.heap.size + 1 + 1, 1, none⟩ = some (.int .i64 y)) _ := ⟨c0, c1, a0, a1, z0, z1⟩
  refine wpIn_mono (region_HF (Q := NoPanic _) (S := (fun V : World => V.cell? ⟨w.heap.size, 0, none⟩ = some (.int .i64 k) ∧ V.cell? ⟨w.heap.size, 1, none⟩ = some (.int .i64 p) ∧ V.cell? ⟨w.heap.size + 1, 0, none⟩ = some (.int .i64 mx) ∧ V.cell? ⟨w.heap.size + 1, 1, none⟩ = some (.int .i64 my) ∧ V.cell? ⟨w.heap.size + 1 + 1, 0, none⟩ = some (.int .i64 x) ∧ V.cell? ⟨w.heap.size + 1 + 1, 1, none⟩ = some (.int .i64 y))) (by kernel_rfl) ?_) NoPanic.imp
  refine anyHF_take (i := 0) (d := 19) (v := .agg #[.int .i64 k, .int .i64 p]) (by kernel_rfl) rfl (by kernel_rfl) (by kernel_rfl) (by kernel_rfl) rfl (fun _ _ _ h => h) ⟨Or.inl ⟨by rfl, fun w hS => by obtain ⟨h0, h1, h2, h3, h4, h5⟩ := hS; go_simp⟩, fun _ => rfl⟩ hS ?_
  simp only [List.setIfInBounds_toArray, List.set_cons_zero, List.set_cons_succ]
  refine anyHF_take (i := 1) (d := 20) (v := .agg #[.int .i64 x, .int .i64 y]) (by kernel_rfl) rfl (by kernel_rfl) (by kernel_rfl) (by kernel_rfl) rfl (fun _ _ _ h => h) ⟨Or.inl ⟨by rfl, fun w hS => by obtain ⟨h0, h1, h2, h3, h4, h5⟩ := hS; go_simp⟩, fun _ => rfl⟩ hS ?_
  simp only [List.setIfInBounds_toArray, List.set_cons_zero, List.set_cons_succ]
  refine anyHF_take (i := 3) (d := 22) (v := .agg #[.int .i64 k, .int .i64 p]) (by kernel_rfl) rfl (by kernel_rfl) (by kernel_rfl) (by kernel_rfl) rfl (fun _ _ _ h => h) ⟨Or.inl ⟨by rfl, fun w hS => by obtain ⟨h0, h1, h2, h3, h4, h5⟩ := hS; go_simp⟩, fun _ => rfl⟩ hS ?_
  simp only [List.setIfInBounds_toArray, List.set_cons_zero, List.set_cons_succ]
  refine anyHF_take (i := 4) (d := 23) (v := .agg #[.int .i64 x, .int .i64 y]) (by kernel_rfl) rfl (by kernel_rfl) (by kernel_rfl) (by kernel_rfl) rfl (fun _ _ _ h => h) ⟨Or.inl ⟨by rfl, fun w hS => by obtain ⟨h0, h1, h2, h3, h4, h5⟩ := hS; go_simp⟩, fun _ => rfl⟩ hS ?_
  simp only [List.setIfInBounds_toArray, List.set_cons_zero, List.set_cons_succ]
  refine anyHF_one (i := 2) (by kernel_rfl) rfl (by kernel_rfl) (by rfl) ?_
  gi_wp2_with fail
  refine ⟨trivial, (callsIn_wide.2 (HDg.out _)).mono ?_⟩
  rintro e w1 ⟨rfl, hB1⟩
  replace hB1 := below_undrew hB1
  replace b0 := b0.below hB1 b0.lt
  replace b1 := b1.below hB1 b1.lt
  replace b2 := b2.below hB1 b2.lt
  replace hB := below_in hB hB1
  clear c0 c1 a0 a1 z0 z1
  have c0 := b0.cell 0
  have c1 := b0.cell 1
  have a0 := b1.cell 0
  have a1 := b1.cell 1
  have z0 := b2.cell 0
  have z1 := b2.cell 1
  simp only [List.getElem?_toArray, List.getElem?_cons_zero, List.getElem?_cons_succ] at c0 c1 a0 a1 z0 z1
  gi_wp2
  refine anyHF_one (i := 5) (by kernel_rfl) rfl (by kernel_rfl) (by rfl) ?_
  gi_wp2_with fail
  refine ⟨trivial, (callsIn_wide.2 (HSl.out _)).mono ?_⟩
  rintro e w1 ⟨rfl, hB1⟩
  replace b0 := b0.below hB1 b0.lt
  replace b1 := b1.below hB1 b1.lt
  replace b2 := b2.below hB1 b2.lt
  replace hB := below_in hB hB1
  clear c0 c1 a0 a1 z0 z1
  have c0 := b0.cell 0
  have c1 := b0.cell 1
  have a0 := b1.cell 0
  have a1 := b1.cell 1
  have z0 := b2.cell 0
  have z1 := b2.cell 1
  simp only [List.getElem?_toArray, List.getElem?_cons_zero, List.getElem?_cons_succ] at c0 c1 a0 a1 z0 z1
  gi_wp2
  refine anyHF_one (i := 6) (by kernel_rfl) rfl (by kernel_rfl) (by rfl) ?_
  gi_wp2
  refine anyHF_one (i := 7) (by kernel_rfl) rfl (by kernel_rfl) (by rfl) ?_
  gi_wp2
  refine anyHF_done (by kernel_rfl) ?_ _
  refine NoPanic.normal ?_
  clear hS HRo HOf HDg HSl
  cases hr2 : ((r == 2) : Bool) with
  | true =>
    cases ho1 : ((o == 1) : Bool) with
    | true =>
      cases hymy : ((y == my) : Bool) with
      | true =>
        gi_wp2
        exact ⟨.bool true, by simp [results, Tryz.results102, go_sem], ret_bool (by unfold refB; simp_all), hB⟩
      | false =>
        gi_wp2
        exact ⟨.bool false, by simp [results, Tryz.results102, go_sem], ret_bool (by unfold refB; simp_all), hB⟩
    | false =>
      gi_wp2
      exact ⟨.bool false, by simp [results, Tryz.results102, go_sem], ret_bool (by unfold refB; simp_all), hB⟩
  | false =>
    cases hr3 : ((r == 3) : Bool) with
    | true =>
      cases hk2 : ((k == 2) : Bool) with
      | true =>
        cases ho1 : ((o == 1) : Bool) with
        | true =>
          cases hdgmy : ((dg == my) : Bool) with
          | true =>
            gi_wp2
            exact ⟨.bool true, by simp [results, Tryz.results102, go_sem], ret_bool (by unfold refB; simp_all), hB⟩
          | false =>
            gi_wp2
            exact ⟨.bool false, by simp [results, Tryz.results102, go_sem], ret_bool (by unfold refB; simp_all), hB⟩
        | false =>
          cases ho2 : ((o == 2) : Bool) with
          | true =>
            cases hdgmy : ((dg == my) : Bool) with
            | true =>
              gi_wp2
              exact ⟨.bool true, by simp [results, Tryz.results102, go_sem], ret_bool (by unfold refB; simp_all), hB⟩
            | false =>
              gi_wp2
              exact ⟨.bool false, by simp [results, Tryz.results102, go_sem], ret_bool (by unfold refB; simp_all), hB⟩
          | false =>
            gi_wp2
            exact ⟨.bool false, by simp [results, Tryz.results102, go_sem], ret_bool (by unfold refB; simp_all), hB⟩
      | false =>
        cases ho1 : ((o == 1) : Bool) with
        | true =>
          cases hdgmy : ((dg == my) : Bool) with
          | true =>
            gi_wp2
            exact ⟨.bool true, by simp [results, Tryz.results102, go_sem], ret_bool (by unfold refB; simp_all), hB⟩
          | false =>
            cases hdgp : ((dg == p - 1) : Bool) with
            | true =>
              gi_wp2
              exact ⟨.bool true, by simp [results, Tryz.results102, go_sem], ret_bool (by unfold refB; simp_all), hB⟩
            | false =>
              gi_wp2
              exact ⟨.bool false, by simp [results, Tryz.results102, go_sem], ret_bool (by unfold refB; simp_all), hB⟩
        | false =>
          gi_wp2
          exact ⟨.bool false, by simp [results, Tryz.results102, go_sem], ret_bool (by unfold refB; simp_all), hB⟩
    | false =>
      cases ho1 : ((o == 1) : Bool) with
      | true =>
        cases hslmy : ((sl == my) : Bool) with
        | true =>
          gi_wp2
          exact ⟨.bool true, by simp [results, Tryz.results102, go_sem], ret_bool (by unfold refB; simp_all), hB⟩
        | false =>
          cases hslp : ((sl == p - 1) : Bool) with
          | true =>
            gi_wp2
            exact ⟨.bool true, by simp [results, Tryz.results102, go_sem], ret_bool (by unfold refB; simp_all), hB⟩
          | false =>
            gi_wp2
            exact ⟨.bool false, by simp [results, Tryz.results102, go_sem], ret_bool (by unfold refB; simp_all), hB⟩
      | false =>
        gi_wp2
        exact ⟨.bool false, by simp [results, Tryz.results102, go_sem], ret_bool (by unfold refB; simp_all), hB⟩
end Go.Proofs.YtggdlklkjnbbjaaGreatDoor

namespace Go.Proofs.YtggdlklkjnbbjaaGreatDoor
open Go.RowKit Go.Shelf
set_option linter.unusedSimpArgs false
set_option linter.unusedVariables false

theorem refMember_any (k p mx my x y : Int) (hR : RightC k p) (hc : HasCell k p mx my) (hm : p - shortN k ≤ mx) (hx : HasCell k p x y) (w : World) :
    Calls Tryz.prog 102 #[.agg #[.int .i64 k, .int .i64 p], .agg #[.int .i64 mx, .int .i64 my], .agg #[.int .i64 x, .int .i64 y]] w fun e w' => e = .returned (.bool (memB k p mx my x y)) ∧ Below w.heap.size w w' := by
  obtain ⟨p1, p2, s1, s2, m1, m2⟩ := hR.und
  have h := member_walk k p mx my x y _ _ _ _ (by omega) (fun W => refRole_any k p mx hR ⟨hc.1.1, by have := hc.1.2; omega⟩ W) (fun W => refRole_any k p x hR ⟨hx.1.1, by have := hx.1.2; omega⟩ W)
    (fun W => refDiagonal_any k p x y hR ⟨hx.1.1, by have := hx.1.2; omega⟩ ⟨hx.2.1, by have := hx.2.2; omega⟩ W) (fun W => refSlant_any k p x y hR ⟨hx.1.1, by have := hx.1.2; omega⟩ ⟨hx.2.1, by have := hx.2.2; omega⟩ W) w
  rw [refB_mem hR hc hm hx] at h
  exact h

set_option maxRecDepth 100000 in
set_option maxHeartbeats 2000000 in
theorem refMembers_any (k p mx my : Int) (hR : RightC k p) (hc : HasCell k p mx my) (hm : p - shortN k ≤ mx) (w : World) :
    Calls Tryz.prog 57 #[.agg #[.int .i64 k, .int .i64 p], .agg #[.int .i64 mx, .int .i64 my]] w fun e w' => ∃ v, e = .returned v ∧ OwnA w' w.heap.size v (memL k p mx my) ∧ Below w.heap.size w w' := by
  obtain ⟨p1, p2, s1, s2, m1, m2⟩ := hR.und
  have HME := Lib.hid (fun x y hx W => refMember_any k p mx my x y hR hc hm hx W)
  have HCo := Lib.hid (fun W => refCols_any k p hR W)
  have HRw := Lib.hid (fun W => refRows_any k p hR W)
  have HEND : Hid ((grid 0 (p - 1).toNat (p - shortN k + madeN k).toNat 0).filter (fun z => memB k p mx my z.1 z.2) = memL k p mx my) := by
    have := grid_flat 0 (p - shortN k + madeN k) p
    rw [Int.sub_zero] at this
    unfold Hid
    rw [this]
    exact memL_all hR hc hm
  unfold HasCell at HME
  generalize memL k p mx my = want at *
  generalize hq : (fun z : Int × Int => memB k p mx my z.1 z.2) = q at HEND
  have HQ := Lib.hid (fun x y => (congrFun hq (x, y) : memB k p mx my x y = q (x, y)))
  clear hq hc hm hR
  have hcc : 0 ≤ p - shortN k + madeN k ∧ p - shortN k + madeN k ≤ 20 := by omega
  generalize p - shortN k + madeN k = cc at *
  obtain ⟨C, rfl⟩ : ∃ C : Nat, cc = (C : Int) := ⟨cc.toNat, by omega⟩
  obtain ⟨R, hRR⟩ : ∃ R : Nat, p - 1 = (R : Int) := ⟨(p - 1).toNat, by omega⟩
  rw [hRR] at HRw HME HEND
  have hR16 : R ≤ 16 := by omega
  have hC19 : C ≤ 20 := by omega
  clear hRR p1 p2 s1 s2 m1 m2 hcc
  obtain ⟨W0, hW0⟩ : ∃ W0, (w.alloc (.cells #[.int .i64 k, .int .i64 p] 37)).alloc (.cells #[.int .i64 mx, .int .i64 my] 56) = W0 := ⟨_, rfl⟩
  have b0 : Blk W0 w.heap.size 37 #[.int .i64 k, .int .i64 p] := by rw [← hW0]; exact (Blk.new w _ _).alloc _
  have b1 : Blk W0 (w.heap.size + 1) 56 #[.int .i64 mx, .int .i64 my] := by rw [← hW0]; exact Blk.second w _ _ _
  have hB : Below w.heap.size w W0 := by rw [← hW0]; exact below_two w _ _
  go_enter Tryz.func57, Tryz.ntmps57
  go_wp2_with fail
  clear hW0
  go_loopw [5, 6] (fun v i wr => ∃ j : Nat, j ≤ C ∧ i = .int .i64 j ∧ OwnA wr (w.heap.size + 2) v ((grid 0 R j 0).filter q) ∧ Blk wr w.heap.size 37 #[.int .i64 k, .int .i64 p] ∧ Blk wr (w.heap.size + 1) 56 #[.int .i64 mx, .int .i64 my] ∧ Below w.heap.size w wr) (fun _ i _ => C - (intOf i).toNat)
  case atStart => exact ⟨0, by omega, rfl, ownA_nil _ _, b0, b1, hB⟩
  case round =>
    clear b0 b1 hB
    obtain ⟨j, hj, rfl, ho, b0, b1, hB⟩ := hrel
    have c0 := b0.cell 0; have c1 := b0.cell 1; have a0 := b1.cell 0; have a1 := b1.cell 1; simp only [List.getElem?_toArray, List.getElem?_cons_zero, List.getElem?_cons_succ] at c0 c1 a0 a1
    by_cases hlt : j < C
    · have hdec : decide ((j : Int) < (C : Int)) = true := by simp; omega
      go_wp2_with (go_at_call 54; refine (HCo.out _).mono ?_; rintro e w1 ⟨rfl, hB1⟩; replace ho := ho.below hB1; replace b0 := b0.below hB1 b0.lt; replace b1 := b1.below hB1 b1.lt; replace hB := below_in hB hB1; have c0 := b0.cell 0; have c1 := b0.cell 1; have a0 := b1.cell 0; have a1 := b1.cell 1; simp only [List.getElem?_toArray, List.getElem?_cons_zero, List.getElem?_cons_succ] at c0 c1 a0 a1)
      go_loopw [5, 7] (fun v i wz => ∃ n : Nat, n ≤ R ∧ i = .int .i64 n ∧ OwnA wz (w.heap.size + 2) v ((grid 0 R j n).filter q) ∧ Blk wz w.heap.size 37 #[.int .i64 k, .int .i64 p] ∧ Blk wz (w.heap.size + 1) 56 #[.int .i64 mx, .int .i64 my] ∧ Below w.heap.size w wz) (fun _ i _ => R - (intOf i).toNat)
      case atStart => exact ⟨0, by omega, rfl, ho, b0, b1, hB⟩
      case round =>
        clear ho b0 b1 hB c0 c1 a0 a1
        obtain ⟨n, hn, rfl, ho, b0, b1, hB⟩ := hrel
        have c0 := b0.cell 0; have c1 := b0.cell 1; have a0 := b1.cell 0; have a1 := b1.cell 1; simp only [List.getElem?_toArray, List.getElem?_cons_zero, List.getElem?_cons_succ] at c0 c1 a0 a1
        by_cases hlt2 : n < R
        · have hdec2 : decide ((n : Int) < (R : Int)) = true := by simp; omega
          have hfl : ((grid 0 R j n).filter q).length ≤ 500 := Nat.le_trans (List.length_filter_le _ _) (grid_len 0 R j n hR16 (by omega) (by omega))
          go_wp2_with fail
          refine (HRw.out _).mono ?_
          rintro e w1 ⟨rfl, hB1⟩
          replace ho := ho.below hB1
          replace b0 := b0.below hB1 b0.lt
          replace b1 := b1.below hB1 b1.lt
          replace hB := below_in hB hB1
          clear hB1 c0 c1 a0 a1
          have hBx := below_one w1 (.cells #[.int .i64 j, .int .i64 n] 56)
          have b2 := Blk.new w1 56 #[.int .i64 j, .int .i64 n]
          replace ho := ho.below hBx
          replace b0 := b0.below hBx b0.lt
          replace b1 := b1.below hBx b1.lt
          replace hB := below_in hB hBx
          have c0 := b0.cell 0; have c1 := b0.cell 1; have a0 := b1.cell 0; have a1 := b1.cell 1; simp only [List.getElem?_toArray, List.getElem?_cons_zero, List.getElem?_cons_succ] at c0 c1 a0 a1
          have z0 := b2.cell 0; have z1 := b2.cell 1; simp only [List.getElem?_toArray, List.getElem?_cons_zero, List.getElem?_cons_succ] at z0 z1
          have HM := Lib.hid (HME.out j n ⟨⟨by omega, by omega⟩, by omega, by omega⟩)
          have hqq := HQ.out (j : Int) (n : Int)
          rw [hqq] at HM
          clear hqq
          cases hqz : q ((j : Int), (n : Int)) with
          | false =>
            rw [hqz] at HM
            have hnx : (grid 0 R j (n + 1)).filter q = (grid 0 R j n).filter q := by rw [grid_one, List.filter_append]; simp [hqz]
            generalize (grid 0 R j n).filter q = l at *
            have HN := Lib.hid hnx
            clear hnx
            go_wp2_with (go_at_call 102; refine (HM.out _).mono ?_; rintro e w3 ⟨rfl, hB1⟩; replace ho := ho.below hB1; replace b0 := b0.below hB1 b0.lt; replace b1 := b1.below hB1 b1.lt; replace hB := below_in hB hB1)
            go_roundw
            case rel => exact ⟨n + 1, by omega, by go_num, by rw [HN.out]; exact ho, b0, b1, hB⟩
            case measure => simp [intOf]; omega
          | true =>
            rw [hqz] at HM
            have hnx : (grid 0 R j (n + 1)).filter q = (grid 0 R j n).filter q ++ [((j : Int), (n : Int))] := by rw [grid_one, List.filter_append]; simp [hqz]
            generalize (grid 0 R j n).filter q = l at *
            have HN := Lib.hid hnx
            clear hnx
            go_wp2_with fail
            refine (HM.out _).mono ?_
            rintro e w3 ⟨rfl, hB1⟩
            replace ho := ho.below hB1
            replace b0 := b0.below hB1 b0.lt
            replace b1 := b1.below hB1 b1.lt
            replace b2 := b2.below hB1 b2.lt
            replace hB := below_in hB hB1
            clear c0 c1 a0 a1 z0 z1
            have z0 := b2.cell 0; have z1 := b2.cell 1; simp only [List.getElem?_toArray, List.getElem?_cons_zero, List.getElem?_cons_succ] at z0 z1
            have hBy := below_one w3 (.cells #[.int .i64 j, .int .i64 n] 56)
            have HO := Lib.hid (ho.below hBy)
            have HU := Lib.hid (Blk.new w3 56 #[.int .i64 j, .int .i64 n])
            replace b0 := b0.below hBy b0.lt
            replace b1 := b1.below hBy b1.lt
            replace hB := below_in hB hBy
            have hs3 := hB.size
            have hs4 := b1.lt
            have ho4 := ho.own_le
            have hn0 := ho.ne (g := w.heap.size) (by omega)
            have hn1 := ho.ne (g := w.heap.size + 1) (by omega)
            go_wp2_with (at_builtin; refine wpList_code _ rfl _ _ 49 56 (.agg #[.int .i64 0, .int .i64 0]) 16 rfl Tryz.underlying49 Tryz.infoAt rfl (w.heap.size + 2) _ _ rfl _ HO.out _ 1 _ _ rfl HU.out (by omega) (by omega) (by omega) ?_; intro v2 w2 hown2 hgrow2)
            go_roundw
            case rel => exact ⟨n + 1, by omega, by go_num, by rw [HN.out]; exact OwnA.push hown2, b0.grown hgrow2 hn0, b1.grown hgrow2 hn1, hB.grown hgrow2 hB.size (fun r e => by have := ho4 r e; omega)⟩
            case measure => simp [intOf]; omega
        · obtain rfl : n = R := by omega
          have hdec2 : decide ((n : Int) < (n : Int)) = false := by simp
          go_wp2_with (go_at_call 55; refine (HRw.out _).mono ?_; rintro e w1 ⟨rfl, hB1⟩; replace ho := ho.below hB1; replace b0 := b0.below hB1 b0.lt; replace b1 := b1.below hB1 b1.lt; replace hB := below_in hB hB1; have c0 := b0.cell 0; have c1 := b0.cell 1; have a0 := b1.cell 0; have a1 := b1.cell 1; simp only [List.getElem?_toArray, List.getElem?_cons_zero, List.getElem?_cons_succ] at c0 c1 a0 a1)
          go_roundw
          case rel => exact ⟨j + 1, by omega, by go_num, by rw [grid_row]; exact ho, b0, b1, hB⟩
          case measure => simp [intOf]; omega
    · obtain rfl : j = C := by omega
      have hdec : decide ((j : Int) < (j : Int)) = false := by simp
      go_wp2_with (go_at_call 54; refine (HCo.out _).mono ?_; rintro e w1 ⟨rfl, hB1⟩; replace ho := ho.below hB1; replace b0 := b0.below hB1 b0.lt; replace b1 := b1.below hB1 b1.lt; replace hB := below_in hB hB1; have c0 := b0.cell 0; have c1 := b0.cell 1; have a0 := b1.cell 0; have a1 := b1.cell 1; simp only [List.getElem?_toArray, List.getElem?_cons_zero, List.getElem?_cons_succ] at c0 c1 a0 a1)
      have he := HEND.out
      simp only [Int.toNat_natCast] at he
      rw [he] at ho
      go_wp2
      go_ret
      exact ⟨_, rfl, ho.less (by omega), hB⟩
end Go.Proofs.YtggdlklkjnbbjaaGreatDoor

namespace Go.Proofs.YtggdlklkjnbbjaaGreatDoor
open Go.RowKit Go.Shelf
set_option linter.unusedSimpArgs false
set_option linter.unusedVariables false

set_option maxRecDepth 100000 in
set_option maxHeartbeats 2000000 in
theorem refParity_any (k p : Int) (hR : RightC k p) (w : World) :
    Calls Tryz.prog 76 #[.agg #[.int .i64 k, .int .i64 p]] w fun e w' => ∃ v, e = .returned v ∧ OwnA w' w.heap.size v (flatC p (spanL (p - shortN k) (p - shortN k + madeN k))) ∧ Below w.heap.size w w' := by
  obtain ⟨p1, p2, s1, s2, m1, m2⟩ := hR.und
  have HDa := Lib.hid (fun W => refData_any k p hR W)
  have HCo := Lib.hid (fun W => refCols_any k p hR W)
  have HRw := Lib.hid (fun W => refRows_any k p hR W)
  have HEND : Hid (grid (p - shortN k) (p - 1).toNat (madeN k).toNat 0 = flatC p (spanL (p - shortN k) (p - shortN k + madeN k))) := by
    have := grid_flat (p - shortN k) (p - shortN k + madeN k) p
    rwa [show p - shortN k + madeN k - (p - shortN k) = madeN k by omega] at this
  generalize flatC p (spanL (p - shortN k) (p - shortN k + madeN k)) = want at *
  clear hR
  have hd : 0 ≤ p - shortN k ∧ p - shortN k ≤ 17 := by omega
  generalize p - shortN k = d at *
  generalize madeN k = mm at *
  obtain ⟨C, rfl⟩ : ∃ C : Nat, mm = (C : Int) := ⟨mm.toNat, by omega⟩
  obtain ⟨R, hRR⟩ : ∃ R : Nat, p - 1 = (R : Int) := ⟨(p - 1).toNat, by omega⟩
  rw [hRR] at HRw HEND
  have hR16 : R ≤ 16 := by omega
  clear hRR p1 p2 s1 s2
  obtain ⟨W0, hW0⟩ : ∃ W0, w.alloc (.cells #[.int .i64 k, .int .i64 p] 37) = W0 := ⟨_, rfl⟩
  have b0 : Blk W0 w.heap.size 37 #[.int .i64 k, .int .i64 p] := by rw [← hW0]; exact Blk.new w _ _
  have hB : Below w.heap.size w W0 := by rw [← hW0]; exact below_one w _
  have c0 := b0.cell 0; have c1 := b0.cell 1; simp only [List.getElem?_toArray, List.getElem?_cons_zero, List.getElem?_cons_succ] at c0 c1
  go_enter Tryz.func76, Tryz.ntmps76
  go_wp2_with fail
  try rw [hW0]
  clear hW0
  go_wp2_with (go_at_call 53; refine (HDa.out _).mono ?_; rintro e w1 ⟨rfl, hB1⟩; replace b0 := b0.below hB1 b0.lt; replace hB := below_in hB hB1; clear hB1)
  clear c0 c1
  go_loopw [3, 4] (fun v i wr => ∃ j : Nat, j ≤ C ∧ i = .int .i64 (d + (j : Int)) ∧ OwnA wr (w.heap.size + 1) v (grid d R j 0) ∧ Blk wr w.heap.size 37 #[.int .i64 k, .int .i64 p] ∧ Below w.heap.size w wr) (fun _ i _ => (d + C).toNat - (intOf i).toNat)
  case atStart => exact ⟨0, by omega, by simp, ownA_nil _ _, b0, hB⟩
  case round =>
    clear b0 hB
    obtain ⟨j, hj, rfl, ho, b0, hB⟩ := hrel
    have c0 := b0.cell 0; have c1 := b0.cell 1; simp only [List.getElem?_toArray, List.getElem?_cons_zero, List.getElem?_cons_succ] at c0 c1
    by_cases hlt : j < C
    · have hdec : decide (d + (j : Int) < d + (C : Int)) = true := by simp; omega
      go_wp2_with (go_at_call 54; refine (HCo.out _).mono ?_; rintro e w1 ⟨rfl, hB1⟩; replace ho := ho.below hB1; replace b0 := b0.below hB1 b0.lt; replace hB := below_in hB hB1; have c0 := b0.cell 0; have c1 := b0.cell 1; simp only [List.getElem?_toArray, List.getElem?_cons_zero, List.getElem?_cons_succ] at c0 c1)
      go_loopw [3, 5] (fun v i wz => ∃ n : Nat, n ≤ R ∧ i = .int .i64 n ∧ OwnA wz (w.heap.size + 1) v (grid d R j n) ∧ Blk wz w.heap.size 37 #[.int .i64 k, .int .i64 p] ∧ Below w.heap.size w wz) (fun _ i _ => R - (intOf i).toNat)
      case atStart => exact ⟨0, by omega, rfl, ho, b0, hB⟩
      case round =>
        clear ho b0 hB c0 c1
        obtain ⟨n, hn, rfl, ho, b0, hB⟩ := hrel
        have c0 := b0.cell 0; have c1 := b0.cell 1; simp only [List.getElem?_toArray, List.getElem?_cons_zero, List.getElem?_cons_succ] at c0 c1
        by_cases hlt2 : n < R
        · have hdec2 : decide ((n : Int) < (R : Int)) = true := by simp; omega
          have hfl : (grid d R j n).length ≤ 500 := grid_len d R j n hR16 (by omega) (by omega)
          have HN := Lib.hid (grid_one d R j n)
          generalize grid d R j n = l at *
          go_wp2_with fail
          refine (HRw.out _).mono ?_
          rintro e w3 ⟨rfl, hB1⟩
          replace ho := ho.below hB1; replace b0 := b0.below hB1 b0.lt; replace hB := below_in hB hB1; have c0 := b0.cell 0; have c1 := b0.cell 1; simp only [List.getElem?_toArray, List.getElem?_cons_zero, List.getElem?_cons_succ] at c0 c1
          have hBy := below_one w3 (.cells #[.int .i64 (d + (j : Int)), .int .i64 n] 56)
          have HO := Lib.hid (ho.below hBy)
          have HU := Lib.hid (Blk.new w3 56 #[.int .i64 (d + (j : Int)), .int .i64 n])
          replace b0 := b0.below hBy b0.lt
          replace hB := below_in hB hBy
          have hs3 := hB.size
          have hs4 := b0.lt
          have ho4 := ho.own_le
          have hn0 := ho.ne (g := w.heap.size) (by omega)
          go_wp2_with (at_builtin; refine wpList_code _ rfl _ _ 49 56 (.agg #[.int .i64 0, .int .i64 0]) 16 rfl Tryz.underlying49 Tryz.infoAt rfl (w.heap.size + 1) _ _ rfl _ HO.out _ 1 _ _ rfl HU.out (by omega) (by omega) (by omega) ?_; intro v2 w2 hown2 hgrow2)
          go_roundw
          case rel => exact ⟨n + 1, by omega, by go_num, by rw [HN.out]; exact OwnA.push hown2, b0.grown hgrow2 hn0, hB.grown hgrow2 hB.size (fun r e => by have := ho4 r e; omega)⟩
          case measure => simp [intOf]; omega
        · obtain rfl : n = R := by omega
          have hdec2 : decide ((n : Int) < (n : Int)) = false := by simp
          go_wp2_with (go_at_call 55; refine (HRw.out _).mono ?_; rintro e w1 ⟨rfl, hB1⟩; replace ho := ho.below hB1; replace b0 := b0.below hB1 b0.lt; replace hB := below_in hB hB1; have c0 := b0.cell 0; have c1 := b0.cell 1; simp only [List.getElem?_toArray, List.getElem?_cons_zero, List.getElem?_cons_succ] at c0 c1)
          go_roundw
          case rel => exact ⟨j + 1, by omega, by go_num, by rw [grid_row]; exact ho, b0, hB⟩
          case measure => simp [intOf]; omega
    · obtain rfl : j = C := by omega
      have hdec : decide (d + (j : Int) < d + (j : Int)) = false := by simp
      go_wp2_with (go_at_call 54; refine (HCo.out _).mono ?_; rintro e w1 ⟨rfl, hB1⟩; replace ho := ho.below hB1; replace b0 := b0.below hB1 b0.lt; replace hB := below_in hB hB1; have c0 := b0.cell 0; have c1 := b0.cell 1; simp only [List.getElem?_toArray, List.getElem?_cons_zero, List.getElem?_cons_succ] at c0 c1)
      have he := HEND.out
      simp only [Int.toNat_natCast] at he
      rw [he] at ho
      go_wp2
      go_ret
      exact ⟨_, rfl, ho.less (by omega), hB⟩
end Go.Proofs.YtggdlklkjnbbjaaGreatDoor
