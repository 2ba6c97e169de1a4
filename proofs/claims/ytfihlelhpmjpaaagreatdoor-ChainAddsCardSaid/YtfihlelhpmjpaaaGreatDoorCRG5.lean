/- The document's answers for EVENODD: the same columns. Lists that a call builds by append: of cells, of columns; which blocks they lie in. Lists that a call builds by append: many elements at once. The -/
import Derived.BigFrame
import Derived.Deep.Matrix
import Derived.ShutString
import Derived.ChangeOld
import Derived.Laws.CopyOwn
import Derived.Laws.Tables
import Derived.Test.YtfihlelhpmjpaaaGreatDoorCRG4
namespace Go.Proofs.YtfihlelhpmjpaaaGreatDoor.E
open Go.RowKit Go.Shelf Go.Proofs.YtfihlelhpmjpaaaGreatDoor.C
set_option linter.unusedSimpArgs false
set_option linter.unusedVariables false

theorem sameCol_any {B B' : Nat} (v1 v2 : Value) (ls os : List (List UInt8)) (w : World) (h1 : Many B w v1 ls) (h2 : Many B' w v2 os) (hls : ls.length ≤ 100000) (hos : os.length ≤ 100000) :
    Calls Tryz.prog 23 #[v1, v2] w fun e w' => e = .returned (.bool (decide (ls = os))) ∧ Below w.heap.size w w' := by
  have H := Lib.hid (rsame_any v1 v2 ls os w h1 h2 (by omega) (by omega))
  obtain ⟨A1, cap1, rfl, _, _⟩ := id h1
  obtain ⟨A2, cap2, rfl, _, _⟩ := id h2
  generalize decide (ls = os) = d at *
  go_enter Tryz.func23, Tryz.ntmps23
  go_wp2_with (go_at_call 58; refine H.out.mono ?_; rintro e w2 ⟨rfl, hB2⟩)
  go_ret
  exact ⟨rfl, hB2⟩
theorem same3_iff (ls os : List (List (List UInt8))) : ls = os ↔ ls.length = os.length ∧ ∀ j, j < ls.length → (ls[j]?.getD []) = (os[j]?.getD []) := by
  constructor
  · rintro rfl
    exact ⟨rfl, fun _ _ => rfl⟩
  · rintro ⟨h1, h2⟩
    apply List.ext_getElem h1
    intro j hj hj2
    have := h2 j hj
    rwa [List.getElem?_eq_getElem hj, List.getElem?_eq_getElem hj2] at this
set_option maxRecDepth 100000 in
set_option maxHeartbeats 1000000 in
theorem same6_any {B B' : Nat} (v1 v2 : Value) (ls os : List (List (List UInt8))) (w : World) (h1 : Cols B w v1 ls) (h2 : Cols B' w v2 os) (hB1 : B ≤ w.heap.size) (hB2 : B' ≤ w.heap.size) (hls : ∀ j : Nat, (ls[j]?.getD []).length ≤ 1000) (hos : ∀ j : Nat, (os[j]?.getD []).length ≤ 1000) (hl1 : ls.length ≤ 1000) (hl2 : os.length ≤ 1000) :
    Calls Tryz.prog 20 #[v1, v2] w fun e w' => e = .returned (.bool (decide (ls = os))) ∧ Below w.heap.size w w' := by
  obtain ⟨A1, cap1, rfl, _, _⟩ := id h1
  obtain ⟨A2, cap2, rfl, _, _⟩ := id h2
  have hb := same3_iff ls os
  have HLS := Lib.hid hls
  have HOS := Lib.hid hos
  clear hls hos
  by_cases hl : ls.length = os.length
  · have e0 : ((ls.length : Int) != (os.length : Int)) = false := by rw [hl]; simp
    have HL := Lib.hid hl
    have HB := Lib.hid hb
    clear hb hl
    go_enter Tryz.func20, Tryz.ntmps20
    go_wp2
    go_loopw [5] (fun i wr => ∃ k : Nat, k ≤ ls.length ∧ i = .int .i64 k ∧ Hid (∀ j, j < k → (ls[j]?.getD []) = (os[j]?.getD [])) ∧ Below w.heap.size w wr) (fun i _ => ls.length - (intOf i).toNat)
    case atStart => exact ⟨0, Nat.zero_le _, rfl, (Lib.hid fun j hj => absurd hj (by omega)), Below.refl _ _⟩
    case round =>
      obtain ⟨k, hk, rfl, HA, hBr⟩ := hrel
      by_cases hlt : k < ls.length
      · have hdec : decide ((k : Int) < (ls.length : Int)) = true := by simp; omega
        obtain ⟨b1, off1, cq1, e1, _, hb1, hrow1⟩ := (h1.below (hBr.mono hB1)).at_ (by omega)
        injection e1 with e1 _ e1c
        subst e1
        subst e1c
        obtain ⟨u1, hc1, hm1⟩ := hrow1 k hlt
        obtain ⟨b2, off2, cq2, e2, _, hb2, hrow2⟩ := (h2.below (hBr.mono hB2)).at_ (by have := HL.out; omega)
        injection e2 with e2 _ e2c
        subst e2
        subst e2c
        obtain ⟨u2, hc2, hm2⟩ := hrow2 k (by have := HL.out; omega)
        have i2 : (k : Int) < (os.length : Int) := by have := HL.out; omega
        have HS := Lib.hid (fun (V : World) (hV : Below wr.heap.size wr V) => sameCol_any u1 u2 _ _ V (hm1.below (hV.mono (Nat.le_trans hB1 hBr.size))) (hm2.below (hV.mono (Nat.le_trans hB2 hBr.size))) (by have := HLS.out k; omega) (by have := HOS.out k; omega))
        have HN := Lib.hid (fun (h : ¬ (ls[k]?.getD []) = (os[k]?.getD [])) => (fun h2 => h ((HB.out.1 h2).2 k hlt) : ¬ ls = os))
        have HT := Lib.hid (fun (h : (ls[k]?.getD []) = (os[k]?.getD [])) => all_next (P := fun j => (ls[j]?.getD []) = (os[j]?.getD [])) HA.out h)
        obtain ⟨A3, cap3, rfl, _, _⟩ := id hm1
        obtain ⟨A4, cap4, rfl, _, _⟩ := id hm2
        clear hrow1 hrow2 hm1 hm2
        generalize ls[k]?.getD [] = x at *
        generalize os[k]?.getD [] = y at *
        by_cases hxy : x = y
        · rw [decide_eq_true hxy] at HS
          have HT2 := Lib.hid (HT.out hxy)
          clear hxy HT HN
          go_wp2
          go_region_held3 (fun U => U.cell? ⟨b1, off1 + k, none⟩ = some (.slice A3 x.length cap3) ∧ U.cell? ⟨b2, off2 + k, none⟩ = some (.slice A4 y.length cap4)) (first | exact ⟨hc1, hc2⟩ | exact ⟨(hBy.cell (p := ⟨b1, off1 + k, none⟩) (Nat.lt_of_lt_of_le hb1 (Nat.le_trans hB1 hBr.size))).trans hc1, (hBy.cell (p := ⟨b2, off2 + k, none⟩) (Nat.lt_of_lt_of_le hb2 (Nat.le_trans hB2 hBr.size))).trans hc2⟩) (first | (go_at_call 23; refine (HS.out _ ?_).mono ?_; first | exact Below.refl _ _ | exact (Below.refl _ _).drew; rintro e w2 ⟨rfl, hBx⟩; have hBy : Below wr.heap.size wr w2 := (by first | exact hBx | exact Below.undrew hBx)))
          all_goals go_wp2
          all_goals go_roundw
          case rel => exact ⟨k + 1, by omega, by go_num, HT2, below_in hBr hBy⟩
          case measure => simp [intOf]; omega
        · rw [decide_eq_false hxy] at HS
          have HF := Lib.hid (decide_eq_false (HN.out hxy))
          clear hxy HT HN
          go_wp2
          go_region_held3 (fun U => U.cell? ⟨b1, off1 + k, none⟩ = some (.slice A3 x.length cap3) ∧ U.cell? ⟨b2, off2 + k, none⟩ = some (.slice A4 y.length cap4)) (first | exact ⟨hc1, hc2⟩ | exact ⟨(hBy.cell (p := ⟨b1, off1 + k, none⟩) (Nat.lt_of_lt_of_le hb1 (Nat.le_trans hB1 hBr.size))).trans hc1, (hBy.cell (p := ⟨b2, off2 + k, none⟩) (Nat.lt_of_lt_of_le hb2 (Nat.le_trans hB2 hBr.size))).trans hc2⟩) (first | (go_at_call 23; refine (HS.out _ ?_).mono ?_; first | exact Below.refl _ _ | exact (Below.refl _ _).drew; rintro e w2 ⟨rfl, hBx⟩; have hBy : Below wr.heap.size wr w2 := (by first | exact hBx | exact Below.undrew hBx)))
          all_goals go_wp2
          all_goals go_ret
          all_goals exact ⟨ret_bool HF.out.symm, below_in hBr hBy⟩
      · obtain rfl : k = ls.length := by omega
        have e1 : decide ((ls.length : Int) < (ls.length : Int)) = false := by simp
        go_wp2
        go_ret
        exact ⟨ret_bool (decide_eq_true (HB.out.2 ⟨HL.out, HA.out⟩)).symm, hBr⟩
  · have e0 : ((ls.length : Int) != (os.length : Int)) = true := by rw [bne_iff_ne]; omega
    have hbf : ¬ ls = os := fun h => hl (hb.1 h).1
    rw [decide_eq_false hbf]
    go_enter Tryz.func20, Tryz.ntmps20
    go_wp2
    go_ret
    exact ⟨rfl, Below.refl _ _⟩
end Go.Proofs.YtfihlelhpmjpaaaGreatDoor.E

namespace Go.Proofs.YtfihlelhpmjpaaaGreatDoor.E
open Go.RowKit Go.Shelf Go.Proofs.YtfihlelhpmjpaaaGreatDoor.C
set_option linter.unusedSimpArgs false
set_option linter.unusedVariables false

/-- What a value reads as, and in which blocks. -/
structure Rep (α : Type) where
  R : (Nat → Prop) → World → Value → α → Prop
  imp : ∀ {P Q : Nat → Prop} {W : World} {v : Value} {x : α}, R P W v x → (∀ b, P b → Q b) → R Q W v x
  keep : ∀ {P : Nat → Prop} {W W' : World} {v : Value} {x : α}, R P W v x → Keeps P W W' → R P W' v x
  one : ∀ {P : Nat → Prop} {W : World} {v : Value} {x : α}, R P W v x → v.oneCell' = true
def bytesR : Rep (List UInt8) where
  R := BytesP
  imp := BytesP.imp
  keep := BytesP.keep
  one := fun ⟨_, _, e, _⟩ => by rw [e]; rfl
/-- A slice whose elements read as xs. -/
def SliceP {α : Type} (r : Rep α) (d : α) (P : Nat → Prop) (W : World) (v : Value) (xs : List α) : Prop :=
  ∃ A cap, v = .slice A xs.length cap ∧ xs.length ≤ cap ∧ (0 < xs.length → ∃ b off, A = some ⟨b, off, none⟩ ∧ P b ∧ ∀ j, j < xs.length → ∃ u, W.cell? ⟨b, off + j, none⟩ = some u ∧ r.R P W u (xs[j]?.getD d))
section
variable {α : Type} {r : Rep α} {d : α} {P Q : Nat → Prop} {W W' : World} {v : Value} {xs : List α}
theorem SliceP.imp (h : SliceP r d P W v xs) (hq : ∀ b, P b → Q b) : SliceP r d Q W v xs := by
  obtain ⟨A, cap, e, hc, hA⟩ := h
  refine ⟨A, cap, e, hc, fun hp => ?_⟩
  obtain ⟨b, off, e2, hb, hcell⟩ := hA hp
  exact ⟨b, off, e2, hq b hb, fun j hj => by obtain ⟨u, h1, h2⟩ := hcell j hj; exact ⟨u, h1, r.imp h2 hq⟩⟩
theorem SliceP.keep (h : SliceP r d P W v xs) (hk : Keeps P W W') : SliceP r d P W' v xs := by
  obtain ⟨A, cap, e, hc, hA⟩ := h
  refine ⟨A, cap, e, hc, fun hp => ?_⟩
  obtain ⟨b, off, e2, hb, hcell⟩ := hA hp
  exact ⟨b, off, e2, hb, fun j hj => by obtain ⟨u, h1, h2⟩ := hcell j hj; exact ⟨u, (World.cell?_of_block (hk b hb)).trans h1, r.keep h2 hk⟩⟩
end
def sliceR {α : Type} (r : Rep α) (d : α) : Rep (List α) where
  R := SliceP r d
  imp := SliceP.imp
  keep := SliceP.keep
  one := fun ⟨_, _, e, _⟩ => by rw [e]; rfl
def manyR : Rep (List (List UInt8)) := sliceR bytesR []
def colsR : Rep (List (List (List UInt8))) := sliceR manyR []
theorem manyR_iff {B : Nat} {W : World} {v : Value} {ls : List (List UInt8)} : manyR.R (· < B) W v ls ↔ Many B W v ls := Iff.rfl
theorem Rep.below {α : Type} (r : Rep α) {P : Nat → Prop} {B : Nat} {W W' : World} {v : Value} {x : α} (h : r.R P W v x) (hP : ∀ b, P b → b < B) (hb : Below B W W') : r.R P W' v x := r.keep h fun b hp => hb.block b (hP b hp)

/-- A row of the call's own, of block type t, whose elements read as xs; these lie elsewhere, where Q holds. -/
def RowG {α : Type} (r : Rep α) (t : TypeId) (d : α) (Q : Nat → Prop) (W : World) (base : Nat) (v : Value) (xs : List α) : Prop :=
  ∃ us : List Value, W.ownsRow base t 1 v us.length us ∧ us.length = xs.length ∧ ∀ (j : Nat) (u : Value), us[j]? = some u → r.R (fun b => b < W.heap.size ∧ some b ≠ v.ownBlock ∧ Q b) W u (xs[j]?.getD d)
section
variable {α : Type} {r : Rep α} {t : TypeId} {d : α} {Q : Nat → Prop} {W W' : World} {base : Nat} {v : Value} {xs : List α}
theorem RowG.nil (r : Rep α) (t : TypeId) (d : α) (Q : Nat → Prop) (W : World) (base : Nat) : RowG r t d Q W base (.slice none 0 0) [] :=
  ⟨[], World.ownsRow_nil W base t 1, rfl, fun j u h => by cases h⟩
theorem RowG.own_le (h : RowG r t d Q W base v xs) (k : Nat) (e : v.ownBlock = some k) : base ≤ k := by
  obtain ⟨us, ho, _⟩ := h
  exact (World.ownsRow.lt ho k e).1
theorem RowG.kept (h : RowG r t d Q W base v xs) {row : Option Nat} (hg : W.grownBy W' row) (hne : v.ownBlock = none ∨ v.ownBlock ≠ row) (hQ : ∀ b, Q b → some b ≠ row) : RowG r t d Q W' base v xs := by
  obtain ⟨us, ho, hn, hr⟩ := h
  refine ⟨us, World.ownsRow.kept ho hg hne, hn, fun j u hu => ?_⟩
  exact r.imp (r.keep (hr j u hu) fun b hb => hg.block b hb.1 (hQ b hb.2.2)) fun b hb => ⟨Nat.lt_of_lt_of_le hb.1 hg.size, hb.2⟩
theorem RowG.below (h : RowG r t d Q W base v xs) (hb : Below W.heap.size W W') : RowG r t d Q W' base v xs :=
  h.kept (row := none) (grown_below hb) (by cases v.ownBlock <;> simp) (fun b _ => by simp)
/-- An element more. -/
theorem RowG.push (i : TypeInfo) (hi : Tryz.prog.info? t = some i) (hz : i.zero = some (.slice none 0 0)) (h1 : i.size = 1) (h24 : i.bytes = 24) (T ty : TypeId) (hT : Tryz.prog.underlying T = some (.slice t))
    (h : RowG r t d Q W base v xs) (g : Nat) (tg : TypeId) (u : Value) (x : α) (hg : Blk W g tg #[u]) (hu : r.R (fun b => b < W.heap.size ∧ some b ≠ v.ownBlock ∧ Q b) W u x) (hlen : xs.length ≤ 100000) (hbase : base ≤ W.heap.size) :
    ∃ v' w', (Builtin.append_ #[T, T] ty #[v, .slice (some ⟨g, 0, none⟩) 1 1]).run Tryz.prog W = .ok v' w' ∧ RowG r t d Q w' base v' (xs ++ [x]) ∧ W.grownBy w' v.ownBlock ∧ (v'.ownBlock = v.ownBlock ∨ v'.ownBlock = some W.heap.size) := by
  obtain ⟨us, ho, hn, hr⟩ := h
  obtain ⟨v', w', hrun, o1, o2, _, o3⟩ := run_append_own_at (P := Tryz.prog) W base T ty t i (.slice none 0 0) 1 24 hT hi hz h1 h24 rfl (by omega) v us.length us ho ⟨g, 0, none⟩ 1 1 [u] rfl
    (by intro j y hy
        rw [addr_add, Nat.zero_add, hg.cell j, List.getElem?_toArray]
        exact hy) (by intro y hy; rw [List.mem_singleton.1 hy]; exact r.one hu) (by unfold maxLen; omega) (by omega) hbase
  have hk : ∀ {y : Value} {z : α}, r.R (fun b => b < W.heap.size ∧ some b ≠ v.ownBlock ∧ Q b) W y z → r.R (fun b => b < w'.heap.size ∧ some b ≠ v'.ownBlock ∧ Q b) w' y z := fun {y z} hy =>
    r.imp (r.keep hy fun b hb => o2.block b hb.1 hb.2.1) fun b hb => ⟨Nat.lt_of_lt_of_le hb.1 o2.size, by
      rcases o3 with e | e
      · rw [e]; exact hb.2.1
      · rw [e]; intro e2; injection e2 with e2; have := hb.1; omega, hb.2.2⟩
  refine ⟨v', w', hrun, ⟨us ++ [u], by rw [List.length_append]; exact o1, by rw [List.length_append, List.length_append, hn]; rfl, fun j y hy => ?_⟩, o2, o3⟩
  rcases Nat.lt_or_ge j us.length with hj | hj
  · rw [List.getElem?_append_left hj] at hy
    rw [List.getElem?_append_left (by omega)]
    exact hk (hr j y hy)
  · rw [List.getElem?_append_right hj] at hy
    rw [List.getElem?_append_right (by omega), ← hn]
    have hj0 : j - us.length = 0 := by
      rcases Nat.eq_zero_or_pos (j - us.length) with h0 | h0
      · exact h0
      · rw [List.getElem?_eq_none (by simp; omega)] at hy; cases hy
    rw [hj0] at hy ⊢
    cases hy
    exact hk hu
theorem RowG.slice (h : RowG r t d Q W base v xs) {S : Nat → Prop} (hS : ∀ b, b < W.heap.size → (Q b ∨ base ≤ b) → S b) : SliceP r d S W v xs := by
  obtain ⟨us, ho, hn, hr⟩ := h
  rcases Nat.eq_zero_or_pos us.length with h0 | h0
  · rcases ho.2 with ⟨rfl, _⟩ | ⟨g, cap, cur, rfl, _, hg, hnc, _⟩
    · exact ⟨none, 0, by rw [← hn, h0], by omega, fun hp => by omega⟩
    · exact ⟨some ⟨g, 0, none⟩, cap, by rw [← hn], by omega, fun hp => by omega⟩
  · have hcp : ∀ g cap, v = .slice (some ⟨g, 0, none⟩) us.length cap → us.length ≤ cap := fun g cap e => by
      rcases ho.2 with ⟨_, h1⟩ | ⟨g2, cap2, cur, e2, _, _, hnc, _⟩
      · omega
      · rw [e] at e2
        injection e2 with _ _ e3
        omega
    obtain ⟨g, cap, e, hg, hg1⟩ := World.ownsRow.form ho h0
    have hcap := hcp g cap e
    subst e
    refine ⟨_, cap, by rw [← hn], by rw [← hn]; exact hcap, fun _ => ⟨g, 0, rfl, hS g (by omega) (.inr hg), fun j hj => ?_⟩⟩
    have hj2 : j < us.length := by omega
    refine ⟨us[j], ?_, r.imp (hr j us[j] (List.getElem?_eq_getElem hj2)) fun b hb => hS b hb.1 (.inl hb.2.2)⟩
    rw [Nat.zero_add, World.ownsRow.cellAt ho j (by omega), List.getElem?_eq_getElem hj2]
end
theorem Tryz.infoCol : (Tryz.prog.info? 37).map (fun i => (i.zero, i.size, i.bytes)) = some (some (.slice none 0 0), 1, 24) := by kernel_rfl
def RowM := RowG bytesR 57 []
def RowC := RowG manyR 37 []
section
variable {Q : Nat → Prop} {W W' : World} {base : Nat} {v : Value}
theorem RowM.many {ls : List (List UInt8)} (h : RowM Q W base v ls) {S : Nat → Prop} (hS : ∀ b, b < W.heap.size → (Q b ∨ base ≤ b) → S b) : manyR.R S W v ls := RowG.slice h hS
theorem RowC.cols {css : List (List (List UInt8))} (h : RowC Q W base v css) : Cols W.heap.size W v css := RowG.slice h fun b hb _ => hb
theorem wpList_pushC {T : TypeId} (w : World) {ops : Array Oper} {rest : List Oper} {o : Oper} {a : Act} {QQ : Exit → Act → World → Prop} (hgd : o.guard = none) (s x : Operand)
    (ho : o.op = .call { callee := .builtin .append, args := #[s, x], argTypes := #[T, T] }) (hT : Tryz.prog.underlying T = some (.slice 37)) (css : List (List (List UInt8))) (hs : a.eval s = v) (h : RowC Q w base v css)
    (g : Nat) (tg : TypeId) (u : Value) (ls : List (List UInt8)) (hx : a.eval x = .slice (some ⟨g, 0, none⟩) 1 1) (hg : Blk w g tg #[u]) (hu : manyR.R (fun b => b < w.heap.size ∧ some b ≠ v.ownBlock ∧ Q b) w u ls) (hlen : css.length ≤ 100000) (hbase : base ≤ w.heap.size)
    (hK : ∀ v' w', RowC Q w' base v' (css ++ [ls]) → w.grownBy w' v.ownBlock → (v'.ownBlock = v.ownBlock ∨ v'.ownBlock = some w.heap.size) → wpList Tryz.prog ops QQ rest (a.put o.dst v') w') : wpList Tryz.prog ops QQ (o :: rest) a w :=
  wpList_plain hgd fun K hK2 => by
    obtain ⟨i, hi, hz0, hz1, hz2⟩ := info_parts Tryz.infoCol
    obtain ⟨v', w', hrun, h1, h2, h3⟩ := RowG.push i hi hz0 hz1 hz2 T o.type hT h g tg u ls hg hu hlen hbase
    unfold Oper.wp execOp
    simp only [ho, resolve, invoke, builtin, Sem.run_bind, Sem.run_pure, Result.andThen_ok, List.map_toArray, List.map_cons, List.map_nil, hs, hx, hrun]
    exact hK2 _ _ (hK v' w' h1 h2 h3)
end
end Go.Proofs.YtfihlelhpmjpaaaGreatDoor.E

namespace Go.Proofs.YtfihlelhpmjpaaaGreatDoor.E
open Go.RowKit Go.Shelf Go.Proofs.YtfihlelhpmjpaaaGreatDoor.C
set_option linter.unusedSimpArgs false
set_option linter.unusedVariables false

section
variable {α : Type} {r : Rep α} {t : TypeId} {d : α} {Q : Nat → Prop} {W W' : World} {base : Nat} {v : Value} {xs : List α}
/-- A block of one element is a row of the call's own. -/
theorem RowG.one {g : Nat} {u : Value} {x : α} (hg : Blk W g t #[u]) (hb : base ≤ g) (hu : r.R (fun b => b < W.heap.size ∧ some b ≠ some g ∧ Q b) W u x) : RowG r t d Q W base (.slice (some ⟨g, 0, none⟩) 1 1) [x] :=
  ⟨[u], ⟨rfl, .inr ⟨g, 1, #[u], rfl, hb, hg, Nat.le_refl _, by unfold maxLen; omega, rfl, rfl⟩⟩, rfl, fun j y hy => by
    cases j with
    | zero => cases hy; exact hu
    | succ j => simp at hy⟩
set_option maxRecDepth 100000 in
/-- Elements more. -/
theorem RowG.append (i : TypeInfo) (hi : Tryz.prog.info? t = some i) (hz : i.zero = some (.slice none 0 0)) (h1 : i.size = 1) (h24 : i.bytes = 24) (T ty : TypeId) (hT : Tryz.prog.underlying T = some (.slice t))
    (h : RowG r t d Q W base v xs) {v2 : Value} {ys : List α} (h2 : SliceP r d (fun b => b < W.heap.size ∧ some b ≠ v.ownBlock ∧ Q b) W v2 ys) (hn2 : ∀ A cap, v2 = .slice A 0 cap → A = none → cap = 0) (hlen : xs.length ≤ 100000) (hlen2 : ys.length ≤ 100000) (hbase : base ≤ W.heap.size) :
    ∃ v' w', (Builtin.append_ #[T, T] ty #[v, v2]).run Tryz.prog W = .ok v' w' ∧ RowG r t d Q w' base v' (xs ++ ys) ∧ W.grownBy w' v.ownBlock ∧ (v'.ownBlock = v.ownBlock ∨ v'.ownBlock = some W.heap.size) := by
  obtain ⟨us, ho, hn, hr⟩ := h
  obtain ⟨A, cap, rfl, hc, hA⟩ := h2
  rcases A with _ | ad
  · have h0 : ys = [] := by
      rcases Nat.eq_zero_or_pos ys.length with h0 | h0
      · exact List.eq_nil_of_length_eq_zero h0
      · obtain ⟨b, off, h, _⟩ := hA h0
        cases h
    subst h0
    obtain rfl := hn2 none cap rfl rfl
    rw [List.append_nil]
    exact ⟨v, W, run_append_owned_none (P := Tryz.prog) (w := W) base T ty t i 1 hT hi v us.length us ho, ⟨us, ho, hn, hr⟩, World.grownBy.refl _ _, .inl rfl⟩
  have hus : ∃ us2 : List Value, us2.length = ys.length ∧ (∀ (j : Nat) (u : Value), us2[j]? = some u → W.cell? (ad.add j) = some u) ∧ ∀ (j : Nat) (u : Value), us2[j]? = some u → r.R (fun b => b < W.heap.size ∧ some b ≠ v.ownBlock ∧ Q b) W u (ys[j]?.getD d) := by
    rcases Nat.eq_zero_or_pos ys.length with h0 | h0
    · exact ⟨[], h0.symm, fun j u h => (by cases h), fun j u h => (by cases h)⟩
    · obtain ⟨b, off, e, hb, hcell⟩ := hA h0
      injection e with e
      subst e
      refine ⟨(List.range ys.length).map fun j => (W.cell? ⟨b, off + j, none⟩).getD undef, by simp, fun j u hu => ?_, fun j u hu => ?_⟩
      all_goals
        rw [List.getElem?_map] at hu
        rcases Nat.lt_or_ge j ys.length with hj | hj
        · rw [List.getElem?_range hj] at hu
          obtain ⟨u2, q1, q2⟩ := hcell j hj
          simp only [Option.map_some, q1, Option.getD_some, Option.some.injEq] at hu
          subst hu
          first | (rw [addr_add]; exact q1) | exact q2
        · rw [List.getElem?_eq_none (by simpa using hj)] at hu
          cases hu
  obtain ⟨us2, hl2, hc2, hr2⟩ := hus
  obtain ⟨v', w', hrun, o1, o2, _, o3⟩ := run_append_own_at (P := Tryz.prog) W base T ty t i (.slice none 0 0) 1 24 hT hi hz h1 h24 rfl (by omega) v us.length us ho ad ys.length cap us2 (by omega) hc2
    (by intro y hy; obtain ⟨j, hj⟩ := List.getElem?_of_mem hy; exact r.one (hr2 j y hj)) (by unfold maxLen; omega) (by omega) hbase
  have hk : ∀ {y : Value} {z : α}, r.R (fun b => b < W.heap.size ∧ some b ≠ v.ownBlock ∧ Q b) W y z → r.R (fun b => b < w'.heap.size ∧ some b ≠ v'.ownBlock ∧ Q b) w' y z := fun {y z} hy =>
    r.imp (r.keep hy fun b hb => o2.block b hb.1 hb.2.1) fun b hb => ⟨Nat.lt_of_lt_of_le hb.1 o2.size, by
      rcases o3 with e | e
      · rw [e]; exact hb.2.1
      · rw [e]; intro e2; injection e2 with e2; have := hb.1; omega, hb.2.2⟩
  refine ⟨v', w', hrun, ⟨us ++ us2, by rw [List.length_append, hl2]; exact o1, by rw [List.length_append, List.length_append, hn, hl2], fun j y hy => ?_⟩, o2, o3⟩
  rcases Nat.lt_or_ge j us.length with hj | hj
  · rw [List.getElem?_append_left hj] at hy
    rw [List.getElem?_append_left (by omega)]
    exact hk (hr j y hy)
  · rw [List.getElem?_append_right hj] at hy
    rw [List.getElem?_append_right (by omega), ← hn]
    exact hk (hr2 _ y hy)
end
set_option maxRecDepth 100000 in
/-- A slice that reads as columns is no nil one with room. -/
theorem wpList_appC {T : TypeId} {Q : Nat → Prop} {base : Nat} {v v2 : Value} (w : World) {ops : Array Oper} {rest : List Oper} {o : Oper} {a : Act} {QQ : Exit → Act → World → Prop} (hgd : o.guard = none) (s x : Operand)
    (ho : o.op = .call { callee := .builtin .append, args := #[s, x], argTypes := #[T, T] }) (hT : Tryz.prog.underlying T = some (.slice 37)) (css ds : List (List (List UInt8))) (hs : a.eval s = v) (h : RowC Q w base v css) (hx : a.eval x = v2)
    (h2 : colsR.R (fun b => b < w.heap.size ∧ some b ≠ v.ownBlock ∧ Q b) w v2 ds) (h0 : 0 < ds.length) (hlen : css.length ≤ 100000) (hlen2 : ds.length ≤ 100000) (hbase : base ≤ w.heap.size)
    (hK : ∀ v' w', RowC Q w' base v' (css ++ ds) → w.grownBy w' v.ownBlock → (v'.ownBlock = v.ownBlock ∨ v'.ownBlock = some w.heap.size) → wpList Tryz.prog ops QQ rest (a.put o.dst v') w') : wpList Tryz.prog ops QQ (o :: rest) a w :=
  wpList_plain hgd fun K hK2 => by
    obtain ⟨i, hi, hz0, hz1, hz2⟩ := info_parts Tryz.infoCol
    obtain ⟨v', w', hrun, h1, h3, h4⟩ := RowG.append i hi hz0 hz1 hz2 T o.type hT h h2 (fun A cap e hA => by
      obtain ⟨A2, c2, e2, _, hA2⟩ := h2
      rw [e] at e2
      injection e2 with _ e3 _
      omega) hlen hlen2 hbase
    unfold Oper.wp execOp
    simp only [ho, resolve, invoke, builtin, Sem.run_bind, Sem.run_pure, Result.andThen_ok, List.map_toArray, List.map_cons, List.map_nil, hs, hx, hrun]
    exact hK2 _ _ (hK v' w' h1 h3 h4)
end Go.Proofs.YtfihlelhpmjpaaaGreatDoor.E

namespace Go.Proofs.YtfihlelhpmjpaaaGreatDoor.E
open Go.RowKit Go.Shelf Go.Proofs.YtfihlelhpmjpaaaGreatDoor.C Go.ChangeShapes Go.WideShapes
set_option linter.unusedSimpArgs false
set_option linter.unusedVariables false

theorem many_rows {w : World} {a : Addr} {len cap : Nat} (hl : len ≤ cap) {A : Nat → Option Addr} {L C : Nat → Nat} {Z : Nat → List Int}
    (h : ∀ r, r < cap → w.cell? (a.add r) = some (.slice (A r) (L r) (C r)) ∧ IsRow .u8 w (A r) (L r) (C r) (Z r)) : ∃ ls : List (List UInt8), Many w.heap.size w (.slice (some a) len cap) ls := by
  have each : ∀ r, ∃ l : List UInt8, r < cap → l.length = L r ∧ Bytes w.heap.size w (.slice (A r) (L r) (C r)) l := by
    intro r
    by_cases hr : r < cap
    · obtain ⟨l, h1, h2⟩ := row_bytes (h r hr).2
      exact ⟨l, fun _ => ⟨h1, h2⟩⟩
    · exact ⟨[], fun h => absurd h hr⟩
  let f : Nat → List UInt8 := fun r => (each r).choose
  have hf : ∀ r, r < cap → (f r).length = L r ∧ Bytes w.heap.size w (.slice (A r) (L r) (C r)) (f r) := fun r => (each r).choose_spec
  have hlen : ((List.range len).map f).length = len := by simp
  refine ⟨(List.range len).map f, some a, cap, by rw [hlen], by rw [hlen]; exact hl, fun hp => ?_⟩
  rw [hlen] at hp ⊢
  obtain ⟨b, off, spot⟩ := a
  have hc := (h 0 (by omega)).1
  have hspot : spot = none := by simpa [Addr.add] using World.cell?_spot hc
  subst hspot
  refine ⟨b, off, rfl, ?_, fun j hj => ⟨.slice (A j) (L j) (C j), ?_, ?_⟩⟩
  · have := block_lt_of_cell hc
    simpa [Addr.add] using this
  · rw [← addr_add]; exact (h j (by omega)).1
  · have e : ((List.range len).map f)[j]?.getD [] = f j := by
      rw [List.getElem?_map, List.getElem?_range hj]; rfl
    rw [e]
    exact (hf j (by omega)).2
theorem open_col {H : Type} {enc : TypeId × Value → H} {W : World} {base fuel : Nat} {v : Value} {x : DataW H × List MemPlace} (hf : DataW.trod enc Tryz.prog W base (fun _ => true) true fuel 37 [v] = some x) : ∃ ls, Many W.heap.size W v ls := by
  rcases Deep.open_int_rows Tryz.underlying37 Tryz.underlying57 Tryz.underlying5 (by kernel_rfl) (by kernel_rfl) hf with ⟨hcs, _⟩ | ⟨x, l, c, AA, LL, CC, ZZ, hcs, _, hl, hm, _, hrows⟩
  · obtain rfl : v = .slice none 0 0 := by simpa using hcs
    exact ⟨[], Many.nil_ _ _ _ _⟩
  · obtain rfl : v = .slice (some x) l c := by simpa using hcs
    refine many_rows hl (A := AA) (L := LL) (C := CC) (Z := ZZ) fun r hr => ?_
    obtain ⟨q1, q2, q3, q4, q5, q6, q7⟩ := hrows r hr
    refine ⟨q1, ?_⟩
    cases hAr : AA r with
    | none =>
      have hC := q6 hAr
      refine .inl ⟨rfl, by omega, hC, List.eq_nil_of_length_eq_zero (by omega)⟩
    | some x => exact .inr ⟨x, rfl, q2, q3, q4, fun i hi => (q7 x hAr).2 i (by omega), q5⟩
theorem open_cols {H : Type} {enc : TypeId × Value → H} {W : World} {base fuel : Nat} {v : Value} {x : DataW H × List MemPlace} (hf : DataW.trod enc Tryz.prog W base (fun _ => true) true fuel 22 [v] = some x) : ∃ css, Cols W.heap.size W v css := by
  rcases Deep.open_slice1 Tryz.underlying22 (by kernel_rfl) hf with ⟨hcs, _⟩ | ⟨a, len, cap, m, n, V, D, Pl, hcs, hb, hl, hm, hmm, hxx, hx⟩
  · obtain rfl : v = .slice none 0 0 := by simpa using hcs
    exact ⟨[], none, 0, rfl, Nat.le_refl _, fun h => absurd h (by simp)⟩
  · obtain rfl : v = .slice (some a) len cap := by simpa using hcs
    simp only [if_true] at hmm
    have hmm' := hmm.symm
    subst hmm'
    have each : ∀ r, ∃ ls : List (List UInt8), r < cap → W.cell? (a.add r) = some (V r) ∧ Many W.heap.size W (V r) ls := by
      intro r
      by_cases hr : r < cap
      · obtain ⟨ls, h1⟩ := open_col (hx r hr).2
        exact ⟨ls, fun _ => ⟨(hx r hr).1, h1⟩⟩
      · exact ⟨[], fun h => absurd h hr⟩
    let f : Nat → List (List UInt8) := fun r => (each r).choose
    have hff : ∀ r, r < cap → W.cell? (a.add r) = some (V r) ∧ Many W.heap.size W (V r) (f r) := fun r => (each r).choose_spec
    have hlen : ((List.range len).map f).length = len := by simp
    refine ⟨(List.range len).map f, some a, cap, by rw [hlen], by rw [hlen]; exact hl, fun hp => ?_⟩
    rw [hlen] at hp ⊢
    obtain ⟨b, off, spot⟩ := a
    have hc := (hff 0 (by omega)).1
    have hspot : spot = none := by simpa [Addr.add] using World.cell?_spot hc
    subst hspot
    refine ⟨b, off, rfl, ?_, fun j hj => ⟨V j, ?_, ?_⟩⟩
    · have := block_lt_of_cell hc
      simpa [Addr.add] using this
    · rw [← addr_add]; exact (hff j (by omega)).1
    · have e : ((List.range len).map f)[j]?.getD [] = f j := by
        rw [List.getElem?_map, List.getElem?_range hj]; rfl
      rw [e]
      exact (hff j (by omega)).2
theorem wf_i64 {n : Int} (h : (Lit.int .i64 n).wf = true) : -9223372036854775808 ≤ n ∧ n ≤ 9223372036854775807 := by
  have := bounds_i64 h
  omega
end Go.Proofs.YtfihlelhpmjpaaaGreatDoor.E

namespace Go.Proofs.YtfihlelhpmjpaaaGreatDoor.Rg
open Go.RowKit Go.Shelf Go.Proofs.YtfihlelhpmjpaaaGreatDoor.C Go.Proofs.YtfihlelhpmjpaaaGreatDoor.E
set_option linter.unusedSimpArgs false
set_option linter.unusedVariables false

set_option maxHeartbeats 400000 in
theorem need_yes (w : World) : Calls Tryz.prog 219 #[.bool true] w fun e w' => e = .returned (.tuple #[]) ∧ w = w' := by
  go_enter Tryz.func219, Tryz.ntmps219
  go_wp2
  go_end0
  exact ⟨rfl, rfl⟩
set_option maxHeartbeats 400000 in
theorem need_no (w : World) : Calls Tryz.prog 219 #[.bool false] w fun e w' => e = .panicked gaveUp ∧ w = w' := by
  go_enter Tryz.func219, Tryz.ntmps219
  go_wp2
  exact ⟨rfl, rfl, rfl⟩
set_option maxHeartbeats 400000 in
theorem sureB (v : Value) (w : World) : Calls Tryz.prog 220 #[v, .int .i64 0] w fun e w' => e = .returned v ∧ w = w' := by
  go_enter Tryz.func220, Tryz.ntmps220
  go_wp2
  go_ret
  exact ⟨rfl, rfl⟩
set_option maxHeartbeats 400000 in
theorem sureI (n : Int) (w : World) : Calls Tryz.prog 285 #[.int .i64 n, .int .i64 0] w fun e w' => e = .returned (.int .i64 n) ∧ w = w' := by
  go_enter Tryz.func285, Tryz.ntmps285
  go_wp2
  go_ret
  exact ⟨rfl, rfl⟩
/-- What is answered when nothing gave up. -/
theorem idle_C (p : Addr) (w : World) :
    CallsD Tryz.prog 218 #[.pointer (some p)] .returning w fun e u' w' => e = .returned (.tuple #[]) ∧ u' = .returning ∧ w' = w := by
  have hta := assert_errno
  refine callsD_of_wpS Tryz.func218 rfl fun c₀ cs hu => ?_
  simp only [Tryz.ntmps218, List.size_toArray, List.length_cons, List.length_nil, Nat.reduceAdd, Nat.reduceSub, Array.replicate_succ, Array.replicate_zero, List.push_toArray, List.append_toArray, List.nil_append, List.cons_append]
  apply wpS_seq
  apply wpS_region
  simp [wpOpsS, go_sem, recoverD, hu, Exit.thenS]
  all_goals (refine wpS_of_wp ?_; go_wp2; cases c₀; simp_all [bodyPostS, results, Tryz.results218])
set_option maxHeartbeats 400000 in
theorem ans_C_yes (f : Nat) (caps : Array Value) (w : World) (Post : Value → World → Prop) (hent : ∀ W, (callFunc f caps).run Tryz.prog W = .ok (.enter f caps) W)
    (h : ∀ W, Below w.heap.size w W → Blk W w.heap.size 25 #[.int .i64 0] → Calls Tryz.prog f caps W fun e w' => ∃ v, e = .returned v ∧ Post v w' ∧ Below W.heap.size W w') :
    Calls Tryz.prog 169 #[.func (.func f) #[] caps] w fun e w' => ∃ v W, e = .returned (.tuple #[v, .int .i64 0]) ∧ Post v W ∧ Blk W w.heap.size 25 #[.int .i64 0] ∧ w' = W.setCell ⟨w.heap.size, 0, none⟩ (.int .i64 0) ∧ Below w.heap.size w w' := by
  have hmf : ∀ (fn : Fn) (first cap : Array Value) (w : World), (Instr.makeFunc fn first cap).run Tryz.prog w = .ok (.func fn first cap) w := fun _ _ _ _ => rfl
  have h1 := h (w.alloc (.cells #[.int .i64 0] 25)) ((Below.refl _ w).alloc (Nat.le_refl _) _) (Blk.new w _ _)
  clear h
  go_enter_defers Tryz.func169, Tryz.ntmps169
  go_wp2
  refine h1.mono ?_
  rintro e w1 ⟨v, rfl, hv, hB1⟩
  have b1 : Blk w1 w.heap.size 25 #[.int .i64 0] := (Blk.new w _ _).below hB1 (by simp)
  have c1 := b1.cell 0
  have f1 := b1.frozen 0
  simp only [List.getElem?_toArray, List.getElem?_cons_zero] at c1
  go_wp2
  refine leaves_cons (f := 218) (args := #[.pointer (some ⟨w.heap.size, 0, none⟩)]) (by simp) (by simp [go_sem]) ?_
  refine (idle_C ⟨w.heap.size, 0, none⟩ _).mono ?_
  rintro e u' w'' ⟨rfl, rfl, rfl⟩
  have c2 : (w1.setCell ⟨w.heap.size, 0, none⟩ (.int .i64 0)).cell? ⟨w.heap.size, 0, none⟩ = some (.int .i64 0) := World.cell?_setCell_same' _ _ _ (by rw [c1]; rfl)
  simp [Go.Leaves, settle, results, Tryz.results169, go_sem, c2]
  exact ⟨w1, hv, b1, rfl, (((Below.refl _ w).alloc (Nat.le_refl _) _).trans (hB1.mono (by simp))).setCell (Nat.le_refl _) _⟩
end Go.Proofs.YtfihlelhpmjpaaaGreatDoor.Rg

namespace Go.Proofs.YtfihlelhpmjpaaaGreatDoor.Rg
open Go.RowKit Go.Shelf Go.Proofs.YtfihlelhpmjpaaaGreatDoor.C Go.Proofs.YtfihlelhpmjpaaaGreatDoor.E
set_option linter.unusedSimpArgs false
set_option linter.unusedVariables false

/-- What a load gives. -/
def LoadIs (P : Program) (t : TypeId) (ad : Addr) (v : Value) (w : World) : Prop := (loadVar t ad).run P w = .ok v w
section
variable {P : Program} {F : Fence} {n : Nat} {ops : Array Oper} {Q : Exit → Act → World → Prop} {rest : List Oper} {o : Oper} {a : Act} {w w' : World} {t : TypeId} {p x : Operand} {ad : Addr} {v : Value}
theorem exec_load {ρ : Operand → Value} (ho : o.op = .load t p) (hp : ρ p = .pointer (some ad)) (hv : LoadIs P t ad v w) : (execOp ρ o).run P w = .ok (.value v) w := by
  unfold execOp
  simp only [ho, hp, Instr.loadAt, Instr.sureAddr, Sem.run_bind, Sem.run_pure, Result.andThen_ok, show (loadVar t ad).run P w = .ok v w from hv]
theorem exec_store {ρ : Operand → Value} (ho : o.op = .store t p x) (hp : ρ p = .pointer (some ad)) (hx : ρ x = v) (hv : (storeVar t ad v).run P w = .ok () w') : (execOp ρ o).run P w = .ok .skip w' := by
  unfold execOp
  simp only [ho, hp, hx, Instr.storeAt, Instr.sureAddr, Sem.run_bind, Sem.run_pure, Result.andThen_ok, hv]
theorem wpListIn_loadS (hgd : o.guard = none) (ho : o.op = .load t p) (hp : a.eval p = .pointer (some ad)) (hv : LoadIs P t ad v w) (h : wpListIn F n P ops Q rest (a.put o.dst v) w) : wpListIn F n P ops Q (o :: rest) a w :=
  wpListIn_plain hgd fun K hK => by
    refine ⟨fun f hf => ?_, ?_⟩
    · simp [Oper.about, ho] at hf
    · rw [Oper.semAt_eq _ _ _ (by simp [ho]), exec_load ho hp hv]
      exact hK _ _ h
theorem wpListIn_storeS (hgd : o.guard = none) (ho : o.op = .store t p x) (hp : a.eval p = .pointer (some ad)) (hx : a.eval x = v) (hv : (storeVar t ad v).run P w = .ok () w') (h : wpListIn F n P ops Q rest (a.put o.dst undef) w') : wpListIn F n P ops Q (o :: rest) a w :=
  wpListIn_plain hgd fun K hK => by
    refine ⟨fun f hf => ?_, ?_⟩
    · simp [Oper.about, ho] at hf
    · rw [Oper.semAt_eq _ _ _ (by simp [ho]), exec_store ho hp hx hv]
      exact hK _ _ h
theorem results_cell {fn : Func} {tt : Tmp} {tmps : Array Value} (h : fn.results = #[.cell tt t]) (ht : tmps.getD tt undef = .pointer (some ad)) (hv : LoadIs P t ad v w) : (results fn tmps).run P w = .ok v w := by
  unfold LoadIs at hv
  have ht' : tmps[tt]?.getD undef = .pointer (some ad) := by simpa using ht
  simp [results, h, asAddr, ht', hv]
def aggOf (P : Program) (t : TypeId) : Bool := match P.underlying t with | some (.struct _) => true | some (.array _ _) => true | _ => false
theorem loadVar_at {g : Nat} {ty : TypeId} {cs : List Value} (h : Blk w g ty cs.toArray) (i m : Nat) (hn : i + m ≤ cs.length) (hu : aggOf P t = true) (hi : (P.info? t).map (·.size) = some m) :
    LoadIs P t ⟨g, i, none⟩ (.agg ((cs.drop i).take m).toArray) w := by
  have hl : ((cs.drop i).take m).length = m := by rw [List.length_take, List.length_drop]; omega
  have hc := run_loadCells_list (P := P) w ⟨g, i, none⟩ ((cs.drop i).take m) (fun j v hv => by
    have hj : j < m := by
      have := (List.getElem?_eq_some_iff.1 hv).1
      omega
    rw [addr_add, h.cell (i + j), List.getElem?_toArray]
    rw [List.getElem?_take_of_lt hj, List.getElem?_drop] at hv
    exact hv)
  rw [hl] at hc
  cases hq : P.info? t with
  | none => simp [hq] at hi
  | some f =>
    have hs : f.size = m := by simpa [hq] using hi
    have hagg : (isAgg t).run P w = .ok true w := by
      unfold aggOf at hu
      cases hd : P.underlying t with
      | none => rw [hd] at hu; cases hu
      | some d =>
        unfold isAgg
        rw [Sem.run_bind, run_underlying hd, Result.andThen_ok]
        cases d <;> simp_all
    unfold LoadIs loadVar
    simp [hagg, sizeOf, typeInfo, hq, hs, hc]
end
theorem load_col {w : World} {g : Nat} {ty : TypeId} {cs : List Value} (h : Blk w g ty cs.toArray) (i : Nat) (hn : i + 18 ≤ cs.length) : LoadIs Tryz.prog 189 ⟨g, i, none⟩ (.agg ((cs.drop i).take 18).toArray) w :=
  loadVar_at h i 18 hn (by kernel_rfl) (by kernel_rfl)
theorem load_col0 {w : World} {g : Nat} {ty : TypeId} {cs : List Value} (h : Blk w g ty cs.toArray) (hn : cs.length = 18) : LoadIs Tryz.prog 189 ⟨g, 0, none⟩ (.agg cs.toArray) w := by
  have := load_col h 0 (by omega)
  rwa [List.drop_zero, List.take_of_length_le (by omega)] at this
theorem store_col0 {w : World} {g : Nat} {cs cs' : List Value} (h : Blk w g 189 cs.toArray) (hn : cs.length = 18) (hn' : cs'.length = 18) (h1 : ∀ v ∈ cs', v.oneCell' = true) : (storeVar 189 ⟨g, 0, none⟩ (.agg cs'.toArray)).run Tryz.prog w = .ok () (w.setRow g cs'.toArray) :=
  run_storeVar_row (P := Tryz.prog) w g _ _ cs.toArray cs'.toArray h (by rw [List.size_toArray, hn']; kernel_rfl) (by simp [hn, hn']) (by rw [Array.all_eq_true_iff_forall_mem]; intro v hv; exact h1 v (by simpa using hv))
end Go.Proofs.YtfihlelhpmjpaaaGreatDoor.Rg

namespace Go.Proofs.YtfihlelhpmjpaaaGreatDoor.Rg
open Go.RowKit Go.Shelf Go.Proofs.YtfihlelhpmjpaaaGreatDoor.C Go.Proofs.YtfihlelhpmjpaaaGreatDoor.E
set_option linter.unusedSimpArgs false
set_option linter.unusedVariables false
attribute [local go_sem] Oper.semAt_some

/-- The values of a column under way: its prime, and a cell for each of its rows. -/
def ColV (B : Nat) (W : World) (p n : Nat) (f : Nat → List UInt8) (vs : List Value) : Prop :=
  vs.length = 18 ∧ vs[0]? = some (.int .i64 (p : Int)) ∧ (∀ r, r < p → (f r).length = n ∧ ∃ u, vs[r + 1]? = some u ∧ Bytes B W u (f r)) ∧ ∀ v ∈ vs, v.oneCell' = true
section
variable {B B' p n : Nat} {W W' : World} {f : Nat → List UInt8} {vs : List Value}
theorem ColV.below (h : ColV B W p n f vs) (hb : Below B W W') : ColV B W' p n f vs := ⟨h.1, h.2.1, fun r hr => by obtain ⟨h1, u, h2, h3⟩ := h.2.2.1 r hr; exact ⟨h1, u, h2, h3.below hb⟩, h.2.2.2⟩
theorem ColV.more (h : ColV B W p n f vs) (hB : B ≤ B') : ColV B' W p n f vs := ⟨h.1, h.2.1, fun r hr => by obtain ⟨h1, u, h2, h3⟩ := h.2.2.1 r hr; exact ⟨h1, u, h2, h3.more hB⟩, h.2.2.2⟩
end
set_option maxHeartbeats 1000000 in
theorem last_any (P Q : Nat) (hQ : P = Q + 1) (vs : List Value) (hP : P ≤ 17) (h0 : vs[0]? = some (.int .i64 (P : Int))) (w : World) :
    Calls Tryz.prog 221 #[.agg vs.toArray] w fun e w' => e = .returned (.int .i64 (Q : Int)) ∧ Below w.heap.size w w' := by
  have b0 := Blk.new w 189 vs.toArray
  have c0 := b0.cell 0
  rw [List.getElem?_toArray, h0] at c0
  have i1 : (0 : Int) ≤ (P : Int) := by omega
  have i2 : (P : Int) ≤ 17 := by omega
  have hB := below_one w (.cells vs.toArray 189)
  have HQ := Lib.hid hQ
  clear h0 b0 hP hQ
  go_enter Tryz.func221, Tryz.ntmps221
  go_wp2
  go_ret
  exact ⟨ret_i64 (by have := HQ.out; omega), hB⟩
set_option maxHeartbeats 1000000 in
theorem upon_any {B : Nat} (v : Value) (ls : List (List UInt8)) (w : World) (hB : B ≤ w.heap.size) (hM : Many B w v ls) (hls : ls.length ≤ 1000) (hok : XorOk ls) :
    Calls Tryz.prog 266 #[v] w fun e w' => ∃ u, e = .returned u ∧ Fresh w.heap.size w' u (xorOf ls) ∧ Below w.heap.size w w' := by
  have HX := Lib.hid (xor_yes ls v w hB hM (by omega) hok)
  obtain ⟨A, cap, rfl, _, _⟩ := id hM
  clear hM hok hls
  generalize ls.length = n at *
  go_enter Tryz.func266, Tryz.ntmps266
  go_wp2_with (first
    | (go_at_call 200; refine HX.out.mono ?_; rintro e w1 ⟨u, rfl, hF, hB1⟩)
    | (go_at_call 220; refine (sureB _ _).mono ?_; rintro e w2 ⟨rfl, rfl⟩))
  go_ret
  exact ⟨_, rfl, hF, hB1⟩
end Go.Proofs.YtfihlelhpmjpaaaGreatDoor.Rg

namespace Go.Proofs.YtfihlelhpmjpaaaGreatDoor.Rg
open Go.RowKit Go.Shelf Go.Maps Go.Proofs.YtfihlelhpmjpaaaGreatDoor.C Go.Proofs.YtfihlelhpmjpaaaGreatDoor.E
set_option linter.unusedSimpArgs false
set_option linter.unusedVariables false
attribute [local go_sem] Oper.semAt_some

theorem fresh_more {a b : Nat} {W : World} {v : Value} {l : List UInt8} (h : Fresh a W v l) (hb : b ≤ a) : Fresh b W v l := by
  obtain ⟨A, cap, e, hc, hA⟩ := h
  refine ⟨A, cap, e, hc, fun hp => ?_⟩
  obtain ⟨b', off, e2, hb1, hb2, hcell⟩ := hA hp
  exact ⟨b', off, e2, by omega, hb2, hcell⟩
end Go.Proofs.YtfihlelhpmjpaaaGreatDoor.Rg

namespace Go.Proofs.YtfihlelhpmjpaaaGreatDoor.Rg
open Go.RowKit Go.Shelf Go.Proofs.YtfihlelhpmjpaaaGreatDoor.C Go.Proofs.YtfihlelhpmjpaaaGreatDoor.E
set_option linter.unusedSimpArgs false
set_option linter.unusedVariables false

/-- Nothing that lay but the blocks of A has changed. -/
def Only (A : Nat → Prop) (X Y : World) : Prop := X.heap.size ≤ Y.heap.size ∧ ∀ b, b < X.heap.size → ¬ A b → Y.heap[b]? = X.heap[b]?
section
variable {A : Nat → Prop} {X Y Z : World} {B : Nat}
theorem Only.refl (A : Nat → Prop) (X : World) : Only A X X := ⟨Nat.le_refl _, fun _ _ _ => rfl⟩
theorem Only.trans (h : Only A X Y) (k : Only A Y Z) : Only A X Z := ⟨Nat.le_trans h.1 k.1, fun b hb hn => (k.2 b (Nat.lt_of_lt_of_le hb h.1) hn).trans (h.2 b hb hn)⟩
theorem Only.below (h : Below X.heap.size X Y) : Only A X Y := ⟨h.size, fun b hb _ => h.block b hb⟩
theorem Only.set {p : Addr} (hp : A p.block) (v : Value) : Only A X (X.setCell p v) := ⟨by simp, fun b _ hn => Below.heap_setCell X p v b (fun e => hn (by rw [e]; exact hp))⟩
theorem Only.row {g : Nat} (hg : A g) (cs : Array Value) : Only A X (X.setRow g cs) := ⟨by simp [World.setRow], fun b _ hn => setRow_other X g b cs (fun e => hn (by rw [e]; exact hg))⟩
theorem Only.imp {A' : Nat → Prop} (h : Only A X Y) (hA : ∀ b, A b → A' b) : Only A' X Y := ⟨h.1, fun b hb hn => h.2 b hb (fun e => hn (hA b e))⟩
theorem Only.blk (h : Only A X Y) {g : Nat} {t : TypeId} {cs : Array Value} (hb : Blk X g t cs) (hn : ¬ A g) : Blk Y g t cs := (h.2 g hb.lt hn).trans hb
theorem Only.since (h : Only A X Y) (hA : ∀ b, A b → b < B) : SinceO B none X Y := ⟨h.1, fun b h1 h2 _ => h.2 b h2 (fun e => by have := hA b e; omega)⟩
theorem Only.keep (h : Only A X Y) {lo k : Nat} (hk : lo + k ≤ X.heap.size) (hA : ∀ b, A b → b < lo) : Keep lo k X Y := ⟨h.1, fun b h1 h2 => h.2 b (by omega) (fun e => by have := hA b e; omega)⟩
end
end Go.Proofs.YtfihlelhpmjpaaaGreatDoor.Rg

namespace Go.Proofs.YtfihlelhpmjpaaaGreatDoor.Rg
open Go.RowKit Go.Shelf Go.Proofs.YtfihlelhpmjpaaaGreatDoor.C Go.Proofs.YtfihlelhpmjpaaaGreatDoor.E
set_option linter.unusedSimpArgs false
set_option linter.unusedVariables false

theorem mul_in (p a b : Int) : a % p * b % p = a * b % p := by
  rw [Int.mul_emod, Int.emod_emod_of_dvd _ (Int.dvd_refl p), ← Int.mul_emod]
theorem add_in (p a b : Int) : (a + b % p) % p = (a + b) % p := by
  rw [Int.add_emod, Int.emod_emod_of_dvd _ (Int.dvd_refl p), ← Int.add_emod]
theorem mul_back (p s i a : Int) (h : s * i % p = 1) : a * s % p * i % p = a % p := by
  rw [mul_in, Int.mul_assoc, Int.mul_comm, ← mul_in, h, Int.one_mul]
theorem mul_back' (p s i a : Int) (h : s * i % p = 1) : a * i % p * s % p = a % p := mul_back p i s a (by rw [Int.mul_comm]; exact h)

theorem walk_inj (p : Nat) (x s i : Int) (h : s * i % (p : Int) = 1) {k k' : Nat} (hk : k < p) (hk' : k' < p) (e : walkAt p x s k = walkAt p x s k') : k = k' := by
  unfold walkAt at e
  have e2 : ((k : Int) * s) % (p : Int) = ((k' : Int) * s) % (p : Int) := by
    rw [Int.emod_eq_emod_iff_emod_sub_eq_zero] at e ⊢
    rw [show x + (k : Int) * s - (x + (k' : Int) * s) = (k : Int) * s - (k' : Int) * s by omega] at e
    exact e
  have e3 := congrArg (fun z => z * i % (p : Int)) e2
  simp only [mul_back _ _ _ _ h] at e3
  rw [Int.emod_eq_of_lt (by omega) (by omega), Int.emod_eq_of_lt (by omega) (by omega)] at e3
  omega
theorem walk_nodup (p : Nat) (x s i : Int) (h : s * i % (p : Int) = 1) : (walkL p x s).Nodup := by
  unfold walkL List.Nodup
  rw [List.pairwise_map]
  refine List.Pairwise.imp_of_mem ?_ (List.pairwise_lt_range (n := p))
  intro a b ha hb hlt e
  have := walk_inj p x s i h (List.mem_range.1 ha) (List.mem_range.1 hb) e
  omega
theorem walk_in (p : Nat) (hp : 0 < p) (x s : Int) : ∀ z ∈ walkL p x s, 0 ≤ z ∧ z < p := by
  intro z hz
  unfold walkL at hz
  obtain ⟨k, _, rfl⟩ := List.mem_map.1 hz
  exact walkAt_lt p hp x s k

theorem walk_comes (p : Nat) (hp : 0 < p) (x y s i : Int) (h : s * i % (p : Int) = 1) (y0 : 0 ≤ y) (y1 : y < p) : walkAt p x s ((y - x) % (p : Int) * i % (p : Int)).toNat = y := by
  have h0 := Int.emod_nonneg ((y - x) % (p : Int) * i) (show (p : Int) ≠ 0 by omega)
  unfold walkAt
  rw [Int.toNat_of_nonneg h0, ← add_in, mul_back' _ _ _ _ h, add_in, add_in, show x + (y - x) = y by omega, Int.emod_eq_of_lt y0 y1]

end Go.Proofs.YtfihlelhpmjpaaaGreatDoor.Rg

namespace Go.Proofs.YtfihlelhpmjpaaaGreatDoor.Rg
open Go.RowKit Go.Shelf Go.Maps Go.Proofs.YtfihlelhpmjpaaaGreatDoor.C Go.Proofs.YtfihlelhpmjpaaaGreatDoor.E
set_option linter.unusedSimpArgs false
set_option linter.unusedVariables false
attribute [local go_sem] Oper.semAt_some

theorem one_nils (x : Int) : ∀ v ∈ [Value.int .i64 x, .slice none 0 0, .slice none 0 0, .slice none 0 0, .slice none 0 0, .slice none 0 0, .slice none 0 0, .slice none 0 0, .slice none 0 0, .slice none 0 0, .slice none 0 0, .slice none 0 0, .slice none 0 0, .slice none 0 0, .slice none 0 0, .slice none 0 0, .slice none 0 0, .slice none 0 0], v.oneCell' = true := by
  intro v hv
  simp at hv
  rcases hv with rfl | rfl <;> rfl
end Go.Proofs.YtfihlelhpmjpaaaGreatDoor.Rg

namespace Go.Proofs.YtfihlelhpmjpaaaGreatDoor.Rg
open Go.RowKit Go.Shelf Go.Proofs.YtfihlelhpmjpaaaGreatDoor.C Go.Proofs.YtfihlelhpmjpaaaGreatDoor.E
set_option linter.unusedSimpArgs false
set_option linter.unusedVariables false

/-- The slice value v reads as the bytes l; they lie in no block of A. -/
def BytesA (A : Nat → Prop) (W : World) (v : Value) (l : List UInt8) : Prop :=
  ∃ a cap, v = .slice a l.length cap ∧ l.length ≤ cap ∧ (0 < l.length → ∃ b off, a = some ⟨b, off, none⟩ ∧ b < W.heap.size ∧ ¬ A b ∧ ∀ j, j < l.length → W.cell? ⟨b, off + j, none⟩ = some (.int .u8 ((l[j]?.getD 0).toNat : Int)))
section
variable {A A' : Nat → Prop} {X Y : World} {v : Value} {l : List UInt8} {B base : Nat}
theorem BytesA.bytes (h : BytesA A X v l) : Bytes X.heap.size X v l := by
  obtain ⟨a, cap, e, hc, hA⟩ := h
  refine ⟨a, cap, e, hc, fun hp => ?_⟩
  obtain ⟨b, off, e2, hb, _, hcell⟩ := hA hp
  exact ⟨b, off, e2, hb, hcell⟩
theorem BytesA.of_fresh (h : Fresh base X v l) (hA : ∀ b, A b → b < base) : BytesA A X v l := by
  obtain ⟨a, cap, e, hc, hb⟩ := h
  refine ⟨a, cap, e, hc, fun hp => ?_⟩
  obtain ⟨b, off, e2, h1, h2, hcell⟩ := hb hp
  exact ⟨b, off, e2, h2, fun e => by have := hA b e; omega, hcell⟩
theorem BytesA.of_bytes (h : Bytes B X v l) (hB : B ≤ X.heap.size) (hA : ∀ b, A b → B ≤ b) : BytesA A X v l := by
  obtain ⟨a, cap, e, hc, hb⟩ := h
  refine ⟨a, cap, e, hc, fun hp => ?_⟩
  obtain ⟨b, off, e2, h1, hcell⟩ := hb hp
  exact ⟨b, off, e2, by omega, fun e => by have := hA b e; omega, hcell⟩
theorem BytesA.less (h : BytesA A X v l) (hA : ∀ b, A' b → A b) : BytesA A' X v l := by
  obtain ⟨a, cap, e, hc, hb⟩ := h
  refine ⟨a, cap, e, hc, fun hp => ?_⟩
  obtain ⟨b, off, e2, h1, h2, hcell⟩ := hb hp
  exact ⟨b, off, e2, h1, fun e => h2 (hA b e), hcell⟩
theorem BytesA.only (h : BytesA A X v l) (ho : Only A X Y) : BytesA A Y v l := by
  obtain ⟨a, cap, e, hc, hb⟩ := h
  refine ⟨a, cap, e, hc, fun hp => ?_⟩
  obtain ⟨b, off, e2, h1, h2, hcell⟩ := hb hp
  exact ⟨b, off, e2, Nat.lt_of_lt_of_le h1 ho.1, h2, fun j hj => (World.cell?_of_block (ho.2 b h1 h2)).trans (hcell j hj)⟩
theorem fresh_only (h : Fresh base X v l) (ho : Only A X Y) (hA : ∀ b, A b → b < base) : Fresh base Y v l := by
  obtain ⟨a, cap, e, hc, hb⟩ := h
  refine ⟨a, cap, e, hc, fun hp => ?_⟩
  obtain ⟨b, off, e2, h1, h2, hcell⟩ := hb hp
  exact ⟨b, off, e2, h1, Nat.lt_of_lt_of_le h2 ho.1, fun j hj => (World.cell?_of_block (ho.2 b h2 (fun e => by have := hA b e; omega))).trans (hcell j hj)⟩
theorem fresh_slice (h : Fresh base X v l) : ∃ a c, v = .slice a l.length c := by
  obtain ⟨a, cap, e, _⟩ := h
  exact ⟨a, cap, e⟩
end
/-- The first i cells of a row of slices are told, all in no block of A. -/
def ToldA (A : Nat → Prop) (W : World) (F : Nat → List UInt8) (i : Nat) (ts : List Value) : Prop := ∀ j, j < i → ∃ u, ts[j]? = some u ∧ BytesA A W u (F j)
def ToldF (base : Nat) (W : World) (F : Nat → List UInt8) (i : Nat) (ts : List Value) : Prop := ∀ j, j < i → ∃ u, ts[j]? = some u ∧ Fresh base W u (F j)
section
variable {A : Nat → Prop} {X Y : World} {F : Nat → List UInt8} {i base : Nat} {ts : List Value}
theorem ToldA.only (h : ToldA A X F i ts) (ho : Only A X Y) : ToldA A Y F i ts := fun j hj => by obtain ⟨u, h1, h2⟩ := h j hj; exact ⟨u, h1, h2.only ho⟩
theorem ToldF.less {base' : Nat} (h : ToldF base X F i ts) (hb : base' ≤ base) : ToldF base' X F i ts := fun j hj => by obtain ⟨u, h1, h2⟩ := h j hj; exact ⟨u, h1, fresh_more h2 hb⟩
theorem ToldF.only (h : ToldF base X F i ts) (ho : Only A X Y) (hA : ∀ b, A b → b < base) : ToldF base Y F i ts := fun j hj => by obtain ⟨u, h1, h2⟩ := h j hj; exact ⟨u, h1, fresh_only h2 ho hA⟩
theorem ToldA.next {u : Value} (h : ToldA A X F i ts) (hi : i < ts.length) (hu : BytesA A X u (F i)) : ToldA A X F (i + 1) (ts.set i u) := fun j hj => by
  by_cases e : j = i
  · subst e
    exact ⟨u, List.getElem?_set_self hi, hu⟩
  · obtain ⟨v, h1, h2⟩ := h j (by omega)
    exact ⟨v, by rw [List.getElem?_set_ne (Ne.symm e)]; exact h1, h2⟩
theorem ToldF.next {u : Value} (h : ToldF base X F i ts) (hi : i < ts.length) (hu : Fresh base X u (F i)) : ToldF base X F (i + 1) (ts.set i u) := fun j hj => by
  by_cases e : j = i
  · subst e
    exact ⟨u, List.getElem?_set_self hi, hu⟩
  · obtain ⟨v, h1, h2⟩ := h j (by omega)
    exact ⟨v, by rw [List.getElem?_set_ne (Ne.symm e)]; exact h1, h2⟩
theorem ToldA.many {k g : Nat} {t : TypeId} (h : ToldA A X F k ts) (hk : ts.length = k) (hb : Blk X g t ts.toArray) : Many X.heap.size X (.slice (some ⟨g, 0, none⟩) k k) ((List.range k).map F) := by
  refine ⟨_, k, by rw [List.length_map, List.length_range], by rw [List.length_map, List.length_range]; exact Nat.le_refl _, fun _ => ⟨g, 0, rfl, hb.lt, fun j hj => ?_⟩⟩
  rw [List.length_map, List.length_range] at hj
  obtain ⟨u, h1, h2⟩ := h j hj
  refine ⟨u, by rw [Nat.zero_add, hb.cell, List.getElem?_toArray]; exact h1, ?_⟩
  rw [List.getElem?_map, List.getElem?_range hj]
  exact h2.bytes
theorem ToldF.many {k g : Nat} {t : TypeId} (h : ToldF base X F k ts) (hk : ts.length = k) (hb : Blk X g t ts.toArray) (hg : base ≤ g) : FreshMany base X (.slice (some ⟨g, 0, none⟩) k k) ((List.range k).map F) := by
  refine ⟨_, k, by rw [List.length_map, List.length_range], by rw [List.length_map, List.length_range]; exact Nat.le_refl _, fun _ => ⟨g, 0, rfl, hg, hb.lt, fun j hj => ?_⟩⟩
  rw [List.length_map, List.length_range] at hj
  obtain ⟨u, h1, h2⟩ := h j hj
  refine ⟨u, by rw [Nat.zero_add, hb.cell, List.getElem?_toArray]; exact h1, ?_⟩
  rw [List.getElem?_map, List.getElem?_range hj]
  exact h2
end
theorem many_ok {k n : Nat} {F : Nat → List UInt8} (hk : 1 ≤ k) (h1 : 1 ≤ n) (h64 : n ≤ 64) (h : ∀ i, i < k → (F i).length = n) : XorOk ((List.range k).map F) := by
  have h0 : (((List.range k).map F)[0]?.getD []).length = n := by
    rw [List.getElem?_map, List.getElem?_range (by omega)]
    exact h 0 (by omega)
  refine ⟨by simp; omega, by unfold Cell; omega, fun j hj => ?_⟩
  rw [List.length_map, List.length_range] at hj
  rw [h0, List.getElem?_map, List.getElem?_range hj]
  exact h j hj
section
variable {F : Fence} {n : Nat} {P : Program} {md : Region.Mode} {ops : Array Oper} {Q : Exit → Act → World → Prop} {S : World → Prop}
theorem anyHF_both {i j : Nat} {oi oj : Oper} {k : Nat} {listed : Array Bool} {a : Act} {w : World} (hr : Region.ready md ops listed = [i, j]) (hi : ops[i]? = some oi) (hj : ops[j]? = some oj) (hwi : Region.wanted oi (yielded ops a.tmps) = true) (hwj : Region.wanted oj (yielded ops a.tmps) = true)
    (h1 : Oper.wpIn F n P oi a w (fun a' w' => S w' ∧ anyHF F n P md ops Q S k (listed.setIfInBounds i true) a' w') Q) (h2 : Oper.wpIn F n P oj a w (fun a' w' => S w' ∧ anyHF F n P md ops Q S k (listed.setIfInBounds j true) a' w') Q) : anyHF F n P md ops Q S (k + 1) listed a w :=
  ⟨fun h0 => (by rw [hr] at h0; cases h0), fun m hm => by
    rw [hr] at hm
    simp only [List.mem_cons, List.not_mem_nil, or_false] at hm
    rcases hm with rfl | rfl
    · unfold wpOpIn
      rw [hi]
      simp only [hwi, if_true]
      exact h1
    · unfold wpOpIn
      rw [hj]
      simp only [hwj, if_true]
      exact h2⟩
end
theorem made_nils (n : Nat) : madeCells #[.slice none 0 0] n = (List.replicate n (Value.slice none 0 0)).toArray := by
  apply Array.toList_inj.1
  rw [toList_madeCells_one]
end Go.Proofs.YtfihlelhpmjpaaaGreatDoor.Rg

