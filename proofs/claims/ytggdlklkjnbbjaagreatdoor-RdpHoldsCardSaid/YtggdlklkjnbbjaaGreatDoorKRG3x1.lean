/- RDP's laws: the document's Left. RDP's laws: the document's Wrong. RDP's laws: a range over places whose variable is boxed anew each round; two turns. RDP's laws, the mathematics: what is made is whole; all of the column of diagonals is what is left out; one cell that is another one. RDP's laws: bytes that came in. -/
import Derived.Test.YtggdlklkjnbbjaaGreatDoorKRG2
import Derived.Test.YtggdlklkjnbbjaaGreatDoorKRG2x1
import Derived.Test.YtggdlklkjnbbjaaGreatDoorKSAx1
import Derived.Test.YtggdlklkjnbbjaaGreatDoorKEG4x1
import Derived.Test.YtggdlklkjnbbjaaGreatDoorKEG6x1
import Derived.Test.YtggdlklkjnbbjaaGreatDoorKZG5x1
import Derived.Test.YtggdlklkjnbbjaaGreatDoorKRG3
namespace Go.Proofs.YtggdlklkjnbbjaaGreatDoor.R
open Go.RowKit Go.Shelf Go.Proofs.YtggdlklkjnbbjaaGreatDoor.C Go.Proofs.YtggdlklkjnbbjaaGreatDoor.E
set_option linter.unusedSimpArgs false
set_option linter.unusedVariables false

end Go.Proofs.YtggdlklkjnbbjaaGreatDoor.R

namespace Go.Proofs.YtggdlklkjnbbjaaGreatDoor.R
open Go.RowKit Go.Shelf Go.Proofs.YtggdlklkjnbbjaaGreatDoor.C Go.Proofs.YtggdlklkjnbbjaaGreatDoor.E
set_option linter.unusedSimpArgs false
set_option linter.unusedVariables false

end Go.Proofs.YtggdlklkjnbbjaaGreatDoor.R

namespace Go.Proofs.YtggdlklkjnbbjaaGreatDoor.R
open Go.RowKit Go.Shelf Go.Proofs.YtggdlklkjnbbjaaGreatDoor.C Go.Proofs.YtggdlklkjnbbjaaGreatDoor.E
set_option linter.unusedSimpArgs false
set_option linter.unusedVariables false

/-- The iterator over a slice of places, where blocks outside P may be written. -/
theorem values_seqG (g : Nat) (P : Nat → Prop) (u : Value) (L : List (Int × Int)) (hLn : L.length ≤ 1000) (w : World) (bg : Blk w g 49 #[u]) (hg : P g) (hN : ∀ b, P b → b < w.heap.size) (hR : ReadA w u L) (hux : ∀ q c, 0 < L.length → u = .slice (some q) L.length c → P q.block) (n : Nat) (hn : 2 ≤ n) :
    SeqQ Fence.wide n Tryz.prog 124 #[.pointer (some ⟨g, 0, none⟩)] encA (fun z _ => z ∈ L) (KeepP P) (fun ys => ys = L) (fun pre => pre <+: L) 1000 w := by
  intro l J Jx W o₀ hBW ho₀ hJ hJx hr1 hr2 hY h0
  refine values2_in n hn l g P u L hLn W hg (fun b hb => Nat.lt_of_lt_of_le (hN b hb) hBW.size) J Jx o₀ hJ (fun pre z o W1 hj hz hlen hsz => hY pre z o W1 hj hz hlen hsz) (bg.below hBW bg.lt) ?_ h0
  obtain ⟨q, cap, e, hA⟩ := hR
  exact ⟨q, cap, e, fun j hj => by
    obtain ⟨b, h1, h2, h3, h4⟩ := hA j hj
    subst h1
    exact ⟨b, rfl, hux _ _ (by omega) e, (hBW.cell (p := ⟨b, j * 2, none⟩) h2).trans h3, (hBW.cell (p := ⟨b, j * 2 + 1, none⟩) h2).trans h4⟩⟩
end Go.Proofs.YtggdlklkjnbbjaaGreatDoor.R

namespace Go.Proofs.YtggdlklkjnbbjaaGreatDoor.R
open Go.RowKit Go.Shelf Go.Proofs.YtggdlklkjnbbjaaGreatDoor.C Go.Proofs.YtggdlklkjnbbjaaGreatDoor.E
set_option linter.unusedSimpArgs false
set_option linter.unusedVariables false

theorem cellI_app {a b : List (List (List UInt8))} {z : Int × Int} (h0 : 0 ≤ z.1) (h1 : z.1 < (a.length : Int)) : cellI (a ++ b) z = cellI a z := by
  unfold cellI cellOf_
  rw [List.getElem?_append_left (by omega)]
theorem uponL_app {R n : Nat} {a b : List (List (List UInt8))} {l : List (Int × Int)} (h : inL R a.length l) : uponL n (a ++ b) l = uponL n a l := by
  unfold uponL
  congr 1
  exact List.map_congr_left fun z hz => cellI_app (h z hz).1.1 (h z hz).1.2
section
variable {p : Int} {a all : List (List (List UInt8))}
theorem first_app (h : 0 < a.length) (b : List (List (List UInt8))) : firstC (a ++ b) = firstC a := by
  unfold firstC
  rw [List.getElem?_append_left h]
theorem grid2_cases {z : Int × Int} (hz : z ∈ flatC p (spanL (p - 1) (p + 1))) : (z.1 = p - 1 ∨ z.1 = p) ∧ 0 ≤ z.2 ∧ z.2 < p - 1 := by
  obtain ⟨h1, h2⟩ := flatC_mem' hz
  have := spanL_mem h1
  exact ⟨by omega, h2⟩
/-- What is made is whole. -/
theorem made_whole (ha : DataR p a) {z : Int × Int} (hz : z ∈ flatC p (spanL (p - 1) (p + 1))) : madeAt p (a ++ rdpOf p a) z = cellI (a ++ rdpOf p a) z := by
  obtain ⟨n1, n2, n3, n4, n5, n6⟩ := dataR_n ha
  have hl := (allR_of ha).1
  obtain ⟨hc, y0, y1⟩ := grid2_cases hz
  obtain ⟨x, y⟩ := z
  have hR : RightC 2 p := ⟨by omega, ha.1.1⟩
  have hy : ((y.toNat : Nat) : Int) = y := Int.toNat_of_nonneg y0
  have hyr : y.toNat < (p - 1).toNat := by have : y < p - 1 := y1; omega
  unfold madeAt
  rw [first_app (by omega)]
  rcases hc with hx | hx
  · have hx : x = p - 1 := hx
    subst hx
    have hin : inL (p - 1).toNat a.length (memL 2 p (p - 1) y) := memL_in hR n4 (by omega)
    show uponL _ (a ++ rdpOf p a) (memL 2 p (p - 1) y) = _
    rw [uponL_app hin]
    unfold cellI cellOf_
    rw [List.getElem?_append_right (by show a.length ≤ (p - 1).toNat; omega), show (p - 1 : Int).toNat - a.length = 0 by omega]
    show _ = (colL 2 p (firstC a).length a (p - 1))[y.toNat]?.getD []
    rw [colL_at _ _ _ _ _ hyr, hy]
  · have hx : x = p := hx
    subst hx
    have hin : inL (x - 1).toNat (a ++ [colL 2 x (firstC a).length a (x - 1)]).length (memL 2 x x y) := memL_in hR n4 (by rw [List.length_append, List.length_singleton]; omega)
    show uponL _ (a ++ ([colL 2 x (firstC a).length a (x - 1)] ++ [colL 2 x (firstC a).length (a ++ [colL 2 x (firstC a).length a (x - 1)]) x])) (memL 2 x x y) = _
    rw [← List.append_assoc, uponL_app hin]
    unfold cellI cellOf_
    rw [List.getElem?_append_right (by show a.length ≤ x.toNat; omega), show (x : Int).toNat - a.length = 1 by omega]
    show _ = (colL 2 x (firstC a).length (a ++ [colL 2 x (firstC a).length a (x - 1)]) x)[y.toNat]?.getD []
    rw [colL_at _ _ _ _ _ hyr, hy]
theorem wrong_none (ha : DataR p a) : wrongL p (a ++ rdpOf p a) = [] := by
  unfold wrongL
  rw [List.filter_eq_nil_iff]
  intro z hz h
  unfold wrongB at h
  exact of_decide_eq_true h (made_whole ha hz)
/-- The cells of data and of rows, diagonal by diagonal. -/
theorem diag_all : ∀ p ∈ prm, (((List.range (p - 1).toNat).flatMap fun (r : Nat) => memL 2 p p (r : Int)) ++ lineL p p (p - 1)).isPerm (flatC p (spanL 0 (p - 1)) ++ flatC p (spanL (p - 1) p)) = true := by decide +kernel
theorem rows_all : ∀ p ∈ prm, ((List.range (p - 1).toNat).flatMap fun (r : Nat) => memL 2 p (p - 1) (r : Int)).isPerm (flatC p (spanL 0 (p - 1))) = true := by decide +kernel
theorem rows_col : ∀ p ∈ prm, flatC p (spanL (p - 1) p) = (List.range (p - 1).toNat).map fun (r : Nat) => (p - 1, (r : Int)) := by decide +kernel
/-- All cells of the column of diagonals, put upon one another, are what is left out. -/
theorem diags_left (ha : DataR p a) : xors (List.replicate (firstC a).length 0) ((a ++ rdpOf p a)[p.toNat]?.getD []) = restOf p a := by
  obtain ⟨n1, n2, n3, n4, n5, n6⟩ := dataR_n ha
  obtain ⟨hall, hG⟩ := allR_of ha
  have hd := left_data ha
  have hp := ha.1.1
  have hR : RightC 2 p := ⟨by omega, hp⟩
  have hlen : ((a ++ rdpOf p a).length : Int) = p + 1 := hall.2
  have hff := first_app (a := a) (by omega) (rdpOf p a)
  obtain ⟨all, hal⟩ : ∃ all, a ++ rdpOf p a = all := ⟨_, rfl⟩
  have hw : ∀ z ∈ flatC p (spanL (p - 1) (p + 1)), madeAt p all z = cellI all z := fun z hz => by rw [← hal]; exact made_whole ha hz
  have hN : Grid (p - 1).toNat (firstC a).length all := by rw [← hal]; exact hG
  rw [hal] at hlen hff
  have hadj : restOf p a = uponL (firstC a).length all (lineL p p (p - 1)) := by
    unfold restOf
    rw [← line_adj hd, left_first ha, ← uponL_app (b := (a ++ rdpOf p a).drop p.toNat) (by rw [(dataOk_n hd).1]; exact inL_of (lineIn p hp)), List.take_append_drop, hal]
  have hcol : (all[p.toNat]?.getD []).length = (p - 1).toNat := (hN _ (by omega)).1
  have hcells : ∀ l ∈ all[p.toNat]?.getD [], l.length = (firstC a).length := fun l hl => by
    obtain ⟨i, hi, rfl⟩ := List.getElem_of_mem hl
    have h := (hN p.toNat (by omega)).2 i (by omega)
    rwa [List.getElem?_eq_getElem hi] at h
  rw [hal, hadj]
  refine ext_at (by rw [xors_len, List.length_replicate, uponL_len]) fun j => ?_
  obtain ⟨g, hg⟩ : ∃ g : Int × Int → UInt8, (fun z : Int × Int => by_ all j z.1.toNat z.2.toNat) = g := ⟨_, rfl⟩
  have hgz : ∀ z, g z = at_ (cellI all z) j := fun z => by rw [← hg]; rfl
  have hin : ∀ {col : Int} (r : Nat), col ≤ p → inL (p - 1).toNat p.toNat (memL 2 p col (r : Int)) := fun r hc => memL_in hR n4 (by omega)
  have hup : ∀ {l}, inL (p - 1).toNat p.toNat l → at_ (uponL (firstC a).length all l) j = xa (l.map g) := fun hl => by rw [at_uponL (hl.cells hN (by omega)), hg]
  have hmem : ∀ (x : Int) (r : Nat), (x = p - 1 ∨ x = p) → r < (p - 1).toNat → g (x, (r : Int)) = xa ((memL 2 p x (r : Int)).map g) := fun x r hx hr => by
    have h := hw (x, (r : Int)) (List.mem_flatMap.2 ⟨x, spanL_mk (by omega) (by omega), List.mem_map.2 ⟨(r : Int), by unfold rowsL; exact List.mem_map.2 ⟨r, List.mem_range.2 hr, rfl⟩, rfl⟩⟩)
    rw [hgz, ← h]
    unfold madeAt
    rw [hff]
    exact hup (hin r (by omega))
  have hL : at_ (xors (List.replicate (firstC a).length 0) (all[p.toNat]?.getD [])) j = xa (((List.range (p - 1).toNat).flatMap fun (r : Nat) => memL 2 p p (r : Int)).map g) := by
    rw [at_upon hcells, List.map_flatMap, xa_flat]
    congr 1
    refine List.ext_getElem (by rw [List.length_map, List.length_map, List.length_range, hcol]) fun i h1 h2 => ?_
    rw [List.getElem_map, List.getElem_map, List.getElem_range]
    rw [List.length_map, hcol] at h1
    rw [← hmem p i (.inr rfl) h1, hgz]
    unfold cellI cellOf_
    show _ = at_ ((all[p.toNat]?.getD [])[i]?.getD []) j
    have e : (all[p.toNat]?.getD [])[i]? = some ((all[p.toNat]?.getD [])[i]'(by omega)) := List.getElem?_eq_getElem _
    rw [e]
    rfl
  have hA := xa_perm ((List.isPerm_iff.1 (diag_all p hp)).map g)
  have hB := xa_perm ((List.isPerm_iff.1 (rows_all p hp)).map g)
  have hC : xa ((flatC p (spanL (p - 1) p)).map g) = xa (((List.range (p - 1).toNat).flatMap fun (r : Nat) => memL 2 p (p - 1) (r : Int)).map g) := by
    rw [rows_col p hp, List.map_flatMap, xa_flat, List.map_map]
    congr 1
    refine List.map_congr_left fun r hr => ?_
    exact hmem (p - 1) r (.inl rfl) (List.mem_range.1 hr)
  rw [List.map_append, List.map_append, xa_append, xa_append, hC, hB] at hA
  rw [hL, hup (inL_of (lineIn p hp))]
  have h0 : ∀ u v : UInt8, u ^^^ v = v ^^^ v → u = v := fun u v h => by
    have h2 : u ^^^ v ^^^ v = v ^^^ v ^^^ v := congrArg (· ^^^ v) h
    rwa [UInt8.xor_assoc, UInt8.xor_assoc, UInt8.xor_self, UInt8.xor_zero, UInt8.xor_zero] at h2
  refine h0 _ _ ?_
  rw [hA, UInt8.xor_self, UInt8.xor_self]
end
/-- One cell that is another one. -/
def chgC (all : List (List (List UInt8))) (X Y : Nat) (c : List UInt8) : List (List (List UInt8)) := all.set X ((all[X]?.getD []).set Y c)
section
variable {p : Int} {all : List (List (List UInt8))} {X Y : Nat} {c : List UInt8}
theorem chgC_len : (chgC all X Y c).length = all.length := List.length_set
theorem chgC_cell (hX : X < all.length) (hY : Y < (all[X]?.getD []).length) (x y : Nat) : cellOf_ (chgC all X Y c) x y = if x = X ∧ y = Y then c else cellOf_ all x y := by
  unfold cellOf_ chgC
  by_cases hx : x = X
  · subst hx
    rw [List.getElem?_set_self hX]
    show ((all[x]?.getD []).set Y c)[y]?.getD [] = _
    by_cases hy : y = Y
    · subst hy
      rw [List.getElem?_set_self hY, if_pos ⟨rfl, rfl⟩]
      rfl
    · rw [List.getElem?_set_ne (fun e => hy e.symm), if_neg (fun e => hy e.2)]
  · rw [List.getElem?_set_ne (fun e => hx e.symm), if_neg (fun e => hx e.1)]
theorem chgC_col (hX : X < all.length) (j : Nat) : ((chgC all X Y c)[j]?.getD []).length = (all[j]?.getD []).length := by
  unfold chgC
  by_cases hx : j = X
  · subst hx
    rw [List.getElem?_set_self hX]
    exact List.length_set
  · rw [List.getElem?_set_ne (fun e => hx e.symm)]
theorem Grid.chg {R n : Nat} (hg : Grid R n all) (hX : X < all.length) (hY : Y < R) (hc : c.length = n) : Grid R n (chgC all X Y c) := by
  intro j hj
  rw [chgC_len] at hj
  refine ⟨by rw [chgC_col hX]; exact (hg j hj).1, fun i hi => ?_⟩
  show (cellOf_ (chgC all X Y c) j i).length = n
  rw [chgC_cell hX (by rw [(hg X hX).1]; exact hY)]
  split
  · exact hc
  · exact (hg j hj).2 i hi
theorem allR_n (h : AllR p all) : 3 ≤ p ∧ p ≤ 17 ∧ p - 1 = ((p - 1).toNat : Int) ∧ (all.length : Int) = p + 1 ∧ 1 ≤ (firstC all).length ∧ (firstC all).length ≤ 64 ∧ Grid (p - 1).toNat (firstC all).length all := by
  have hpp := prm_bounds h.1.1
  have h1 := togOk_first h.1.2
  exact ⟨hpp.1, hpp.2, by omega, h.2, h1.1, h1.2, togOk_grid h.1.2⟩
theorem allR_chg (h : AllR p all) (hX : X < all.length) (hY : Y < (p - 1).toNat) (hc : c.length = (firstC all).length) : AllR p (chgC all X Y c) ∧ (firstC (chgC all X Y c)).length = (firstC all).length := by
  obtain ⟨n2, n3, n4, n1, n5, n6, hg⟩ := allR_n h
  have hG := Grid.chg hg hX hY hc
  obtain ⟨ht, hf⟩ := grid_tog hG (by rw [chgC_len]; omega) (by omega) ⟨n5, n6⟩
  exact ⟨⟨⟨h.1.1, ht⟩, by rw [chgC_len]; exact h.2⟩, hf⟩
theorem xa_one (f : Int × Int → UInt8) (q : Int × Int) (b : UInt8) : ∀ l : List (Int × Int), l.Nodup → xa (l.map fun z => f z ^^^ if z = q then b else 0) = xa (l.map f) ^^^ if q ∈ l then b else 0
  | [], _ => by simp [xa_nil]
  | z :: l, h => by
    obtain ⟨h1, h2⟩ := List.nodup_cons.1 h
    rw [List.map_cons, List.map_cons, xa_cons, xa_cons, xa_one f q b l h2]
    by_cases hz : z = q
    · subst hz
      rw [if_pos rfl, if_neg h1, if_pos (List.mem_cons_self ..), UInt8.xor_zero, UInt8.xor_assoc, UInt8.xor_assoc, UInt8.xor_comm b]
    · rw [if_neg hz, UInt8.xor_zero, UInt8.xor_assoc]
      congr 2
      by_cases hq : q ∈ l
      · rw [if_pos hq, if_pos (List.mem_cons_of_mem _ hq)]
      · rw [if_neg hq, if_neg (fun e => (List.mem_cons.1 e).elim (fun e => hz e.symm) hq)]
theorem memL_nodup (k p mx my : Int) : (memL k p mx my).Nodup := sorted_nodup ((flatC_sorted p _ (spanL_sorted _ _)).filter _)
theorem xorB_ne {d b : List UInt8} (hl : b.length = d.length) (hb : b ≠ List.replicate b.length 0) : xorB d b ≠ d := fun e => hb (by
  refine ext_at (by rw [List.length_replicate]) fun j => ?_
  rw [at_zeros]
  have h := at_xorB d b j hl
  rw [e] at h
  have h2 : at_ d j ^^^ at_ d j = at_ d j ^^^ (at_ d j ^^^ at_ b j) := congrArg (at_ d j ^^^ ·) h
  rw [← UInt8.xor_assoc, UInt8.xor_self, UInt8.zero_xor] at h2
  exact h2.symm)
/-- What is told where one cell alone is another one. -/
def tellL (p x y : Int) : List (Int × Int) := (flatC p (spanL (p - 1) (p + 1))).filter fun z => memB 2 p z.1 z.2 x y || decide (z = (x, y))
theorem wrong_one (h : AllR p all) (hw : wrongL p all = []) {x y : Int} (hx : 0 ≤ x ∧ x ≤ p) (hy : 0 ≤ y ∧ y < p - 1) {b : List UInt8} (hb : b.length = (firstC all).length) (hb0 : b ≠ List.replicate b.length 0) :
    wrongL p (chgC all x.toNat y.toNat (xorB (cellOf_ all x.toNat y.toNat) b)) = tellL p x y := by
  obtain ⟨n2, n3, n4, n1, n5, n6, hg⟩ := allR_n h
  have hX : x.toNat < all.length := by omega
  have hY : y.toNat < (p - 1).toNat := by omega
  have hR : RightC 2 p := ⟨by omega, h.1.1⟩
  have hcl : (cellOf_ all x.toNat y.toNat).length = (firstC all).length := (hg _ hX).2 _ hY
  have hxl : (xorB (cellOf_ all x.toNat y.toNat) b).length = (firstC all).length := by rw [xorB_len, hcl]
  obtain ⟨hB, hBf⟩ := allR_chg h hX hY hxl
  have hBg := (allR_n hB).2.2.2.2.2.2
  rw [hBf] at hBg
  have hYc : y.toNat < (all[x.toNat]?.getD []).length := by rw [(hg _ hX).1]; exact hY
  have hcell := fun u v => chgC_cell (c := xorB (cellOf_ all x.toNat y.toNat) b) hX hYc u v
  have hwh : ∀ z ∈ flatC p (spanL (p - 1) (p + 1)), madeAt p all z = cellI all z := fun z hz => by
    refine Decidable.byContradiction fun hn => ?_
    unfold wrongL at hw
    exact List.filter_eq_nil_iff.1 hw z hz (by unfold wrongB; simp [hn])
  unfold wrongL tellL
  refine List.filter_congr fun z hz => ?_
  obtain ⟨hc, y0, y1⟩ := grid2_cases hz
  have hin : inL (p - 1).toNat all.length (memL 2 p z.1 z.2) := memL_in hR n4 (by omega)
  have hz1 : 0 ≤ z.1 := by omega
  have key : ∀ u : Int × Int, 0 ≤ u.1 → 0 ≤ u.2 → ((u.1.toNat = x.toNat ∧ u.2.toNat = y.toNat) ↔ u = (x, y)) := fun u h1 h2 => ⟨fun e => Prod.ext (by have := e.1; have := hx.1; show u.1 = x; omega) (by have := e.2; have := hy.1; show u.2 = y; omega), fun e => by subst e; exact ⟨rfl, rfl⟩⟩
  have hzc : cellI (chgC all x.toNat y.toNat (xorB (cellOf_ all x.toNat y.toNat) b)) z = if z = (x, y) then xorB (cellI all (x, y)) b else cellI all z := by
    show cellOf_ (chgC _ _ _ _) _ _ = _
    rw [hcell]
    simp only [key z hz1 y0]
    rfl
  have hmem : ((x, y) ∈ memL 2 p z.1 z.2) ↔ memB 2 p z.1 z.2 x y = true := mem_memL hR (by show p - shortN 2 ≤ z.1; unfold shortN; simp; omega) hx.1 hy
  have hmade : madeAt p (chgC all x.toNat y.toNat (xorB (cellOf_ all x.toNat y.toNat) b)) z = if memB 2 p z.1 z.2 x y = true then xorB (cellI all z) b else cellI all z := by
    have hlz : (cellI all z).length = (firstC all).length := hg.cell (by omega) hz1 (by omega) y0
    rw [← hwh z hz] at hlz ⊢
    unfold madeAt at *
    rw [hBf]
    refine ext_at (by rw [uponL_len]; split <;> simp [xorB_len, uponL_len]) fun j => ?_
    have e1 : (memL 2 p z.1 z.2).map (fun u => by_ (chgC all x.toNat y.toNat (xorB (cellOf_ all x.toNat y.toNat) b)) j u.1.toNat u.2.toNat) = (memL 2 p z.1 z.2).map fun u => by_ all j u.1.toNat u.2.toNat ^^^ if u = (x, y) then at_ b j else 0 := by
      refine List.map_congr_left fun u hu => ?_
      obtain ⟨⟨u0, _⟩, u1, _⟩ := hin u hu
      unfold by_
      rw [hcell]
      simp only [key u u0 u1]
      by_cases hux : u = (x, y)
      · rw [if_pos hux, if_pos hux, at_xorB _ _ _ (by rw [hb, hcl]), hux]
      · rw [if_neg hux, if_neg hux, UInt8.xor_zero]
    rw [at_uponL (hin.cells hBg (by rw [chgC_len]; exact Nat.le_refl _)), e1, xa_one _ _ _ _ (memL_nodup _ _ _ _), ← at_uponL (hin.cells hg (Nat.le_refl _))]
    simp only [hmem]
    by_cases hm : memB 2 p z.1 z.2 x y = true
    · rw [if_pos hm, if_pos hm, at_xorB _ _ _ (by rw [hb, uponL_len])]
    · rw [if_neg hm, if_neg hm, UInt8.xor_zero]
  unfold wrongB
  rw [hmade, hzc]
  have hzl : (cellI all z).length = (firstC all).length := hg.cell (by omega) hz1 (by omega) y0
  have hne := xorB_ne (d := cellI all z) (by rw [hb, hzl]) hb0
  by_cases hm : memB 2 p z.1 z.2 x y = true
  · have hzx : z ≠ (x, y) := fun e => by
      have h1 := (hin _ (hmem.2 hm)).1
      have h2 := hmem.2 hm
      unfold memL at h2
      have h3 := spanL_mem (flatC_mem' (List.mem_filter.1 h2).1).1
      rw [e] at h3
      have h4 : (x : Int) < x := h3.2
      omega
    rw [if_pos hm, if_neg hzx, hm]
    simp [hne]
  · rw [if_neg hm]
    by_cases hzx : z = (x, y)
    · rw [if_pos hzx, ← hzx]
      simp [hne.symm, hm]
    · rw [if_neg hzx]
      simp [hm, hzx]
theorem tell_count : ∀ p ∈ prm, ∀ x ∈ spanL 0 (p + 1), ∀ y ∈ rowsL p, (x = p → (tellL p x y).length = 1) ∧ (x ≠ p → (tellL p x y).length = 2 ∨ ((tellL p x y).length = 1 ∧ (x + y) % p = p - 1)) := by decide +kernel
theorem tell_own {x y : Int} (hx : p - 1 ≤ x ∧ x ≤ p) (hy : 0 ≤ y ∧ y < p - 1) : (x, y) ∈ tellL p x y := by
  unfold tellL
  refine List.mem_filter.2 ⟨List.mem_flatMap.2 ⟨x, spanL_mk (by omega) (by omega), List.mem_map.2 ⟨y, ?_, rfl⟩⟩, by simp⟩
  unfold rowsL
  exact List.mem_map.2 ⟨y.toNat, List.mem_range.2 (by omega), by omega⟩
theorem tell_any (hp : p ∈ prm) {x y : Int} (hx : 0 ≤ x ∧ x ≤ p) (hy : 0 ≤ y ∧ y < p - 1) : (x = p → (tellL p x y).length = 1) ∧ (x ≠ p → (tellL p x y).length = 2 ∨ ((tellL p x y).length = 1 ∧ (x + y) % p = p - 1)) :=
  tell_count p hp x (spanL_mk (by omega) (by omega)) y (by unfold rowsL; exact List.mem_map.2 ⟨y.toNat, List.mem_range.2 (by omega), by omega⟩)
end
end Go.Proofs.YtggdlklkjnbbjaaGreatDoor.R

namespace Go.Proofs.YtggdlklkjnbbjaaGreatDoor.R
open Go.RowKit Go.Shelf Go.Proofs.YtggdlklkjnbbjaaGreatDoor.C Go.Proofs.YtggdlklkjnbbjaaGreatDoor.E Go.ChangeShapes Go.WideShapes
set_option linter.unusedSimpArgs false
set_option linter.unusedVariables false

theorem open_bytes {H : Type} {enc : TypeId × Value → H} {W : World} {base fuel : Nat} {v : Value} {x : DataW H × List MemPlace} (hf : DataW.trod enc Tryz.prog W base (fun _ => true) true fuel 25 [v] = some x) : ∃ l : List UInt8, Bytes W.heap.size W v l := by
  rcases open_ints Tryz.underlying25 Tryz.underlying5 (by kernel_rfl) hf with ⟨hcs, _⟩ | ⟨x, l, c, zs, hcs, _, hl, hm, hz, _, hcell, hwz⟩
  · obtain rfl : v = .slice none 0 0 := by simpa using hcs
    obtain ⟨l, _, h⟩ := row_bytes (w := W) (.inl ⟨rfl, rfl, rfl, rfl⟩ : IsRow .u8 W none 0 0 [])
    exact ⟨l, h⟩
  · obtain rfl : v = .slice (some x) l c := by simpa using hcs
    obtain ⟨l, _, h⟩ := row_bytes (w := W) (.inr ⟨_, rfl, hl, hm, by simpa using hz, hcell, hwz⟩ : IsRow .u8 W (some x) l c zs)
    exact ⟨l, h⟩
set_option maxRecDepth 100000 in
/-- An append of cells at an operation of a drawn region. -/
theorem opIn_appM {F : Fence} {nF : Nat} {T : TypeId} {Q : Nat → Prop} {base : Nat} {v v2 : Value} (w : World) {o : Oper} {a : Act} {K : Act → World → Prop} {QQ : Exit → Act → World → Prop} (s x : Operand)
    (ho : o.op = .call { callee := .builtin .append, args := #[s, x], argTypes := #[T, T] }) (hT : Tryz.prog.underlying T = some (.slice 25)) (css ds : List (List UInt8)) (hs : a.eval s = v) (h : RowM Q w base v css) (hx : a.eval x = v2)
    (h2 : manyR.R (fun b => b < w.heap.size ∧ some b ≠ v.ownBlock ∧ Q b) w v2 ds) (h0 : 0 < ds.length) (hlen : css.length ≤ 100000) (hlen2 : ds.length ≤ 100000) (hbase : base ≤ w.heap.size)
    (hK : ∀ v' w', RowM Q w' base v' (css ++ ds) → w.grownBy w' v.ownBlock → K (a.put o.dst v') w') : Oper.wpIn F nF Tryz.prog o a w K QQ := by
  obtain ⟨i, hi, hz0, hz1, hz2⟩ := info_parts Tryz.infoSlcE
  obtain ⟨v', w', hrun, h1, h3, h4⟩ := RowG.append i hi hz0 hz1 hz2 T o.type hT h h2 (fun A cap e hA => by
    obtain ⟨A2, c2, e2, _, hA2⟩ := h2
    rw [e] at e2
    injection e2 with _ e3 _
    omega) hlen hlen2 hbase
  unfold Oper.wpIn
  refine ⟨by simp [Oper.about, ho, resolve, Target.leads, Sem.run_pure], ?_⟩
  rw [Oper.semAt_plain F _ _ (by rw [ho]; intro c hc'; cases hc')]
  simp [execOp, ho, resolve, invoke, builtin, hs, hx, hrun, Result.andThen, Oper.uponIn]
  exact hK v' w' h1 h3
/-- Columns of which one cell is another one. -/
theorem cols_chg {B : Nat} {W : World} {g cap g2 cap2 : Nat} {t t2 : TypeId} {cur cur2 : Array Value} {all : List (List (List UInt8))} {X Y : Nat} {c : List UInt8} {uy : Value} (hg : g < B) (hg2 : g2 < B) (hb : Blk W g t cur) (hc : all.length ≤ cap) (hX : X < all.length) (hY : Y < (all[X]?.getD []).length)
    (hne : ∀ j, j < all.length → j ≠ X → ∃ u, cur[j]? = some u ∧ Many B W u (all[j]?.getD [])) (hx : cur[X]? = some (.slice (some ⟨g2, 0, none⟩) (all[X]?.getD []).length cap2)) (hb2 : Blk W g2 t2 cur2) (hc2 : (all[X]?.getD []).length ≤ cap2)
    (hne2 : ∀ i, i < (all[X]?.getD []).length → i ≠ Y → ∃ u, cur2[i]? = some u ∧ Bytes B W u ((all[X]?.getD [])[i]?.getD [])) (hy : cur2[Y]? = some uy) (hby : Bytes B W uy c) : Cols B W (.slice (some ⟨g, 0, none⟩) all.length cap) (chgC all X Y c) := by
  have hl : (chgC all X Y c).length = all.length := chgC_len
  refine ⟨_, cap, by rw [hl], by rw [hl]; exact hc, fun _ => ⟨g, 0, rfl, hg, fun j hj => ?_⟩⟩
  rw [hl] at hj
  by_cases hjx : j = X
  · subst hjx
    have e : (chgC all j Y c)[j]?.getD [] = (all[j]?.getD []).set Y c := by unfold chgC; rw [List.getElem?_set_self hX]; rfl
    refine ⟨_, by rw [Nat.zero_add, hb.cell j]; exact hx, ?_⟩
    rw [e]
    refine ⟨_, cap2, by rw [List.length_set], by rw [List.length_set]; exact hc2, fun _ => ⟨g2, 0, rfl, hg2, fun i hi => ?_⟩⟩
    rw [List.length_set] at hi
    by_cases hiy : i = Y
    · subst hiy
      refine ⟨uy, by rw [Nat.zero_add, hb2.cell i]; exact hy, ?_⟩
      rw [List.getElem?_set_self hi]
      exact hby
    · obtain ⟨u, h1, h2⟩ := hne2 i hi hiy
      refine ⟨u, by rw [Nat.zero_add, hb2.cell i]; exact h1, ?_⟩
      rw [List.getElem?_set_ne (fun e => hiy e.symm)]
      exact h2
  · obtain ⟨u, h1, h2⟩ := hne j hj hjx
    have e : (chgC all X Y c)[j]?.getD [] = all[j]?.getD [] := by unfold chgC; rw [List.getElem?_set_ne (fun e => hjx e.symm)]
    refine ⟨u, by rw [Nat.zero_add, hb.cell j]; exact h1, ?_⟩
    rw [e]
    exact h2
end Go.Proofs.YtggdlklkjnbbjaaGreatDoor.R

