/- EVENODD: Adjuster and Encode. STAR: giving up, what is answered; columns under way. Lists that a call builds by append: of cells, of columns; which blocks they lie in. Lists that a call builds by append: many elements at once. EVENODD: what is made belongs together with what it is made of. The columns of EVENODD: what is answered, of the rest. EVENODD's Check: all columns; what is the same. EVENODD's Check: whether columns are those that are made. The document's Put: columns of one shape, put upon one another. The mathematics of EVENODD: what is made is linear; all cells made, put upon one another, are the adjuster. Sets: what a code under way holds; which of two places is ahead; the columns between two. -/
import Derived.Test.YtcgnhfiadeceiaaGreatDoorJG1
import Derived.Test.YtcgnhfiadeceiaaGreatDoorJG5
import Derived.Test.YtcgnhfiadeceiaaGreatDoorJG2
import Derived.BigFrame
import Derived.Test.YtcgnhfiadeceiaaGreatDoorJG4
import Derived.Test.YtcgnhfiadeceiaaGreatDoorJCA
import Derived.Test.YtcgnhfiadeceiaaGreatDoorJSA
import Derived.Test.YtcgnhfiadeceiaaGreatDoorJG6
import Derived.Test.YtcgnhfiadeceiaaGreatDoorJG6x1
import Derived.Test.YtcgnhfiadeceiaaGreatDoorJG6x2
namespace Go.Proofs.YtcgnhfiadeceiaaGreatDoor.E
open Go.RowKit Go.Shelf Go.Proofs.YtcgnhfiadeceiaaGreatDoor.C
set_option linter.unusedSimpArgs false
set_option linter.unusedVariables false

section
variable {α : Type} {r : Rep α} {t : TypeId} {d : α} {Q : Nat → Prop} {W W' : World} {base : Nat} {v : Value} {xs : List α}
end
set_option maxRecDepth 100000 in
/-- The same at an operation with a guard. -/
theorem wpList_appCw {T : TypeId} {Q : Nat → Prop} {base : Nat} {v v2 : Value} (w : World) {ops : Array Oper} {rest : List Oper} {o : Oper} {a : Act} {QQ : Exit → Act → World → Prop} (hgd : Region.wanted o (yielded ops a.tmps) = true) (s x : Operand)
    (ho : o.op = .call { callee := .builtin .append, args := #[s, x], argTypes := #[T, T] }) (hT : Tryz.prog.underlying T = some (.slice 50)) (css ds : List (List (List UInt8))) (hs : a.eval s = v) (h : RowC Q w base v css) (hx : a.eval x = v2)
    (h2 : colsR.R (fun b => b < w.heap.size ∧ some b ≠ v.ownBlock ∧ Q b) w v2 ds) (h0 : 0 < ds.length) (hlen : css.length ≤ 100000) (hlen2 : ds.length ≤ 100000) (hbase : base ≤ w.heap.size)
    (hK : ∀ v' w', RowC Q w' base v' (css ++ ds) → w.grownBy w' v.ownBlock → (v'.ownBlock = v.ownBlock ∨ v'.ownBlock = some w.heap.size) → wpList Tryz.prog ops QQ rest (a.put o.dst v') w') : wpList Tryz.prog ops QQ (o :: rest) a w :=
  BigFrame.wpList_want hgd fun K hK2 => by
    obtain ⟨i, hi, hz0, hz1, hz2⟩ := info_parts Tryz.infoCol
    obtain ⟨v', w', hrun, h1, h3, h4⟩ := RowG.append i hi hz0 hz1 hz2 T o.type hT h h2 (fun A cap e hA => by
      obtain ⟨A2, c2, e2, _, hA2⟩ := h2
      rw [e] at e2
      injection e2 with _ e3 _
      omega) hlen hlen2 hbase
    unfold Oper.wp execOp
    simp only [ho, resolve, invoke, builtin, Sem.run_bind, Sem.run_pure, Result.andThen_ok, List.map_toArray, List.map_cons, List.map_nil, hs, hx, hrun]
    exact hK2 _ _ (hK v' w' h1 h3 h4)
end Go.Proofs.YtcgnhfiadeceiaaGreatDoor.E

namespace Go.Proofs.YtcgnhfiadeceiaaGreatDoor.E
open Go.RowKit Go.Shelf Go.Proofs.YtcgnhfiadeceiaaGreatDoor.C
set_option linter.unusedSimpArgs false
set_option linter.unusedVariables false

def putCol (xs ys : List (List UInt8)) : List (List UInt8) := (List.range xs.length).map fun k => xorB (xs[k]?.getD []) (ys[k]?.getD [])
def putOf (a b : List (List (List UInt8))) : List (List (List UInt8)) := (List.range a.length).map fun i => putCol (a[i]?.getD []) (b[i]?.getD [])
theorem putCol_next (xs ys : List (List UInt8)) {k : Nat} (hk : k < xs.length) : (putCol xs ys).take (k + 1) = (putCol xs ys).take k ++ [xorB (xs[k]?.getD []) (ys[k]?.getD [])] := by
  unfold putCol
  rw [map_next _ 0 _ (by rw [List.length_range]; exact hk), List.getElem?_range hk]
  rfl
theorem putOf_next (a b : List (List (List UInt8))) {k : Nat} (hk : k < a.length) : (putOf a b).take (k + 1) = (putOf a b).take k ++ [putCol (a[k]?.getD []) (b[k]?.getD [])] := by
  unfold putOf
  rw [map_next _ 0 _ (by rw [List.length_range]; exact hk), List.getElem?_range hk]
  rfl
section
variable {Q : Nat → Prop} {base : Nat} {v : Value}
end
end Go.Proofs.YtcgnhfiadeceiaaGreatDoor.E

namespace Go.Proofs.YtcgnhfiadeceiaaGreatDoor.E
open Go.RowKit Go.Shelf Go.Proofs.YtcgnhfiadeceiaaGreatDoor.C
set_option linter.unusedSimpArgs false
set_option linter.unusedVariables false

theorem xa_xor {α : Type} (f g : α → UInt8) : ∀ l : List α, xa (l.map fun x => f x ^^^ g x) = xa (l.map f) ^^^ xa (l.map g)
  | [] => by simp [xa_nil]
  | x :: l => by
    rw [List.map_cons, List.map_cons, List.map_cons, xa_cons, xa_cons, xa_cons, xa_xor f g l, UInt8.xor_assoc, UInt8.xor_assoc, ← UInt8.xor_assoc (g x), UInt8.xor_comm (g x), UInt8.xor_assoc]
section
variable {p : Int} {a b css : List (List (List UInt8))}
theorem cell_put (c r : Nat) (hc : c < a.length) (hr : r < (a[c]?.getD []).length) : cellOf_ (putOf a b) c r = xorB (cellOf_ a c r) (cellOf_ b c r) := by
  unfold cellOf_ putOf
  rw [List.getElem?_map, List.getElem?_range hc]
  show (putCol (a[c]?.getD []) (b[c]?.getD []))[r]?.getD [] = _
  unfold putCol
  rw [List.getElem?_map, List.getElem?_range hr]
  rfl
theorem putOf_len : (putOf a b).length = a.length := by unfold putOf; rw [List.length_map, List.length_range]
theorem putOf_col {c : Nat} (hc : c < a.length) : (putOf a b)[c]?.getD [] = putCol (a[c]?.getD []) (b[c]?.getD []) := by
  unfold putOf
  rw [List.getElem?_map, List.getElem?_range hc]
  rfl
theorem putCol_len (xs ys : List (List UInt8)) : (putCol xs ys).length = xs.length := by unfold putCol; rw [List.length_map, List.length_range]
theorem put_ok (ha : DataOk p a) : DataOk p (putOf a b) ∧ (firstC (putOf a b)).length = (firstC a).length := by
  have hd := dataOk_n ha
  obtain ⟨hR, hn, h0, hall⟩ := ha
  have hf : firstC (putOf a b) = xorB (cellOf_ a 0 0) (cellOf_ b 0 0) := cell_put 0 0 h0 (by rw [(hall 0 h0).1]; omega)
  have hl : (firstC (putOf a b)).length = (firstC a).length := by rw [hf, xorB_len]; rfl
  refine ⟨⟨hR, by rw [putOf_len]; exact hn, by rw [putOf_len]; exact h0, fun j hj => ?_⟩, hl⟩
  rw [putOf_len] at hj
  have hcl : ((putOf a b)[j]?.getD []).length = (p - 1).toNat := by rw [putOf_col hj, putCol_len]; exact (hall j hj).1
  refine ⟨hcl, ?_, fun i hi => ?_⟩
  · have := (hall 0 h0).2.1
    unfold Cell at *
    rw [hl]
    exact this
  · rw [hcl] at hi
    have hc := cell_put (a := a) (b := b) j i hj (by rw [(hall j hj).1]; exact hi)
    unfold cellOf_ at hc
    rw [hc, xorB_len, hl]
    exact (hall j hj).2.2 i (by rw [(hall j hj).1]; exact hi)
theorem by_put (ha : DataOk p a) (hb : DataOk p b) (hl : (firstC a).length = (firstC b).length) (k : Nat) {c r : Nat} (hc : c < p.toNat) (hr : r < (p - 1).toNat) : by_ (putOf a b) k c r = by_ a k c r ^^^ by_ b k c r := by
  have hda := dataOk_n ha
  have hdb := dataOk_n hb
  unfold by_
  rw [cell_put c r (by omega) (by rw [(ha.2.2.2 c (by omega)).1]; exact hr), at_xorB]
  rw [togOk_cell ha.2.2 (by omega) hr, togOk_cell hb.2.2 (by omega) hr, hl]
theorem dg_put (ha : DataOk p a) (hb : DataOk p b) (hl : (firstC a).length = (firstC b).length) (k : Nat) (d : Int) : dg_ p (putOf a b) k d = dg_ p a k d ^^^ dg_ p b k d := by
  have hda := dataOk_n ha
  unfold dg_
  rw [← xa_xor]
  congr 1
  refine List.map_congr_left fun x hx => ?_
  have h1 := diagAt_in (by omega) hx
  exact by_put ha hb hl k (by omega) (by omega)
theorem enc_put (ha : DataOk p a) (hb : DataOk p b) (hl : (firstC a).length = (firstC b).length) : encOf p (putOf a b) = putOf (encOf p a) (encOf p b) := by
  have hda := dataOk_n ha
  obtain ⟨hz, hzl⟩ := put_ok (b := b) ha
  have hR : rowsMade (p - 1).toNat (putOf a b) = putCol (rowsMade (p - 1).toNat a) (rowsMade (p - 1).toNat b) := by
    unfold putCol
    rw [rowsMade_len]
    unfold rowsMade
    refine List.map_congr_left fun r hr => ?_
    rw [List.mem_range] at hr
    have e1 := rowsMade_at ha hr
    have e2 := rowsMade_at hb hr
    unfold rowsMade at e1 e2
    rw [e1, e2]
    refine ext_at (by rw [xorB_len, row_len hz hr, row_len ha hr, hzl]) fun j => ?_
    rw [at_xorB _ _ _ (by rw [row_len ha hr, row_len hb hr, hl]), at_row hz hr, at_row ha hr, at_row hb hr, ← xa_xor]
    congr 1
    refine List.map_congr_left fun c hc => ?_
    rw [List.mem_range] at hc
    exact by_put ha hb hl j hc hr
  have hD : diagsMade p (p - 1).toNat (putOf a b) = putCol (diagsMade p (p - 1).toNat a) (diagsMade p (p - 1).toNat b) := by
    unfold putCol
    rw [diagsMade_len]
    unfold diagsMade
    refine List.map_congr_left fun r hr => ?_
    rw [List.mem_range] at hr
    have e1 := diagsMade_at ha hr
    have e2 := diagsMade_at hb hr
    unfold diagsMade at e1 e2
    rw [e1, e2]
    have hrp : (r : Int) < p := by omega
    refine ext_at (by rw [xorB_len, diag_len hz hrp, diag_len ha hrp, hzl]) fun j => ?_
    rw [at_xorB _ _ _ (by rw [diag_len ha hrp, diag_len hb hrp, hl]), at_diagMade hz hrp, at_diagMade ha hrp, at_diagMade hb hrp, dg_put ha hb hl, dg_put ha hb hl]
    simp only [UInt8.xor_assoc]
    congr 1
    rw [← UInt8.xor_assoc, ← UInt8.xor_assoc, UInt8.xor_comm (dg_ p b j (p - 1))]
  unfold encOf
  rw [hR, hD]
  rfl
end
end Go.Proofs.YtcgnhfiadeceiaaGreatDoor.E

