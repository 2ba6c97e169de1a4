/- The document's Cut. -/
import Derived.Test.YtjkpmhannmbgfaaCwM
namespace Go.Proofs.Ytjkpmhannmbgfaa
open Go.RowKit Go.Shelf

/-- The value v reads as the bytes l, in a block from base on that is not the row's. -/
def Elem (base : Nat) (row : Option Nat) (W : World) (v : Value) (l : List UInt8) : Prop :=
  ∃ A cap, v = .slice A l.length cap ∧ l.length ≤ cap ∧ (0 < l.length → ∃ b off, A = some ⟨b, off, none⟩ ∧ base ≤ b ∧ b < W.heap.size ∧ some b ≠ row ∧ ∀ j, j < l.length → W.cell? ⟨b, off + j, none⟩ = some (.int .u8 ((l[j]?.getD 0).toNat : Int)))
theorem Elem.fresh {base : Nat} {row : Option Nat} {W : World} {v : Value} {l : List UInt8} (h : Elem base row W v l) : Fresh base W v l := by
  obtain ⟨A, cap, e, hc, hA⟩ := h
  refine ⟨A, cap, e, hc, fun hp => ?_⟩
  obtain ⟨b, off, e2, h1, h2, _, hcell⟩ := hA hp
  exact ⟨b, off, e2, h1, h2, hcell⟩
theorem Elem.step {base : Nat} {row row' r : Option Nat} {W W' : World} {v : Value} {l : List UInt8} (h : Elem base row W v l) (hg : W.grownBy W' r) (hr : ∀ b, b < W.heap.size → some b ≠ row → some b ≠ r ∧ some b ≠ row') : Elem base row' W' v l := by
  obtain ⟨A, cap, e, hc, hA⟩ := h
  refine ⟨A, cap, e, hc, fun hp => ?_⟩
  obtain ⟨b, off, e2, h1, h2, h3, hcell⟩ := hA hp
  obtain ⟨h4, h5⟩ := hr b h2 h3
  exact ⟨b, off, e2, h1, Nat.lt_of_lt_of_le h2 hg.size, h5, fun j hj => (World.cell?_of_block (hg.block b h2 h4)).trans (hcell j hj)⟩

/-- The value v owns a row of its own whose cells are vals. -/
def OwnV (w : World) (base : Nat) (v : Value) (vals : List Value) : Prop := w.ownsRow base 25 1 v vals.length vals
theorem ownV_nil (w : World) (base : Nat) : OwnV w base (.slice none 0 0) [] := World.ownsRow_nil w base _ 1
theorem OwnV.grown_ {w w' : World} {base : Nat} {v : Value} {l : List Value} (h : OwnV w base v l) (hg : w.grownBy w' none) : OwnV w' base v l :=
  World.ownsRow.kept h hg (by cases hv : v.ownBlock <;> simp)
theorem OwnV.cells {w : World} {base : Nat} {v : Value} {vals : List Value} (h : OwnV w base v vals) :
    ∃ A cap, v = .slice A vals.length cap ∧ vals.length ≤ cap ∧ (0 < vals.length → ∃ g, A = some ⟨g, 0, none⟩ ∧ base ≤ g ∧ g < w.heap.size ∧ ∀ j, j < vals.length → w.cell? ⟨g, j, none⟩ = vals[j]?) := by
  rcases h.2 with ⟨rfl, h0⟩ | ⟨g, cap, cur, rfl, hbg, hg, hn, _, hsz, ht⟩
  · exact ⟨none, 0, by rw [h0], by omega, fun hp => by omega⟩
  · refine ⟨_, cap, rfl, hn, fun hp => ⟨g, rfl, hbg, (Array.getElem?_eq_some_iff.1 hg).1, fun j hj => ?_⟩⟩
    rw [cell_of_row w g j cur _ (0, 0) hg]
    have e := congrArg (fun z : List Value => z[j]?) ht
    rw [List.getElem?_take_of_lt (by omega), Array.getElem?_toList] at e
    exact e

/-- A row of the call's own, of lists that lie elsewhere. -/
def OwnM (w : World) (base : Nat) (v : Value) (ls : List (List UInt8)) : Prop :=
  ∃ vals, OwnV w base v vals ∧ vals.length = ls.length ∧ ∀ j, j < ls.length → Elem base v.ownBlock w (vals[j]?.getD undef) (ls[j]?.getD [])
theorem OwnM.freshMany {w : World} {base : Nat} {v : Value} {ls : List (List UInt8)} (h : OwnM w base v ls) : FreshMany base w v ls := by
  obtain ⟨vals, hV, hl, hE⟩ := h
  obtain ⟨A, cap, rfl, hc, hA⟩ := hV.cells
  refine ⟨A, cap, by rw [hl], by omega, fun hp => ?_⟩
  obtain ⟨g, rfl, h1, h2, h3⟩ := hA (by omega)
  refine ⟨g, 0, rfl, h1, h2, fun j hj => ⟨vals[j]?.getD undef, ?_, (hE j hj).fresh⟩⟩
  rw [Nat.zero_add, h3 j (by omega), List.getElem?_eq_getElem (by omega)]; rfl
theorem OwnM.grown_ {w w' : World} {base : Nat} {v : Value} {ls : List (List UInt8)} (h : OwnM w base v ls) (hg : w.grownBy w' none) : OwnM w' base v ls := by
  obtain ⟨vals, hV, hl, hE⟩ := h
  exact ⟨vals, hV.grown_ hg, hl, fun j hj => (hE j hj).step hg (fun b _ h => ⟨by simp, h⟩)⟩
theorem ownM_nil (w : World) (base : Nat) : OwnM w base (.slice none 0 0) [] := ⟨[], ownV_nil _ _, rfl, fun j hj => absurd hj (by simp)⟩

theorem wpList_ownM (w : World) {ops : Array Oper} {rest : List Oper} {o : Oper} {a : Act} {Q : Exit → Act → World → Prop} (hgd : o.guard = none) (s x : Operand)
    (ho : o.op = .call { callee := .builtin .append, args := #[s, x], argTypes := #[22, 22] })
    (base : Nat) (v : Value) (ls : List (List UInt8)) (hs : a.eval s = v) (hown : OwnM w base v ls) (g : Nat) (u : Value) (l : List UInt8) (hx : a.eval x = .slice (some ⟨g, 0, none⟩) 1 1) (hu : w.cell? ⟨g, 0, none⟩ = some u) (hE : Elem base v.ownBlock w u l)
    (hlen : ls.length ≤ 1000000000) (hbase : base ≤ w.heap.size)
    (h : ∀ v' w', OwnM w' base v' (ls ++ [l]) → w.grownBy w' v.ownBlock → wpList Try.prog ops Q rest (a.put o.dst v') w') : wpList Try.prog ops Q (o :: rest) a w := by
  obtain ⟨vals, hV, hl, hEs⟩ := hown
  refine wpList_one w hgd s x 22 25 (.slice none 0 0) 24 ho Try.underlying22 Try.infoSlice rfl base v vals hs vals.length hV ⟨g, 0, none⟩ 1 u hx (by rw [addr_add]; exact hu) (by obtain ⟨A, cap, rfl, _⟩ := hE; rfl) (by omega) (by omega) hbase ?_
  intro v' w' h1 h2 h3
  refine h v' w' ⟨vals ++ [u], ?_, by rw [List.length_append, List.length_append, hl]; rfl, ?_⟩ h2
  · unfold OwnV
    rw [List.length_append]
    exact h1
  · have hkeep : ∀ b, b < w.heap.size → some b ≠ v.ownBlock → some b ≠ v.ownBlock ∧ some b ≠ v'.ownBlock := by
      intro b hb hne
      refine ⟨hne, ?_⟩
      rcases h3 with e | e
      · rw [e]; exact hne
      · rw [e]; intro e2; injection e2 with e2; omega
    intro j hj
    rw [List.length_append, List.length_singleton] at hj
    by_cases hjl : j < ls.length
    · have h4 := (hEs j hjl).step h2 hkeep
      rw [List.getElem?_append_left (by omega), List.getElem?_append_left hjl]
      exact h4
    · obtain rfl : j = ls.length := by omega
      have h4 := hE.step h2 hkeep
      rw [List.getElem?_append_right (by omega), List.getElem?_append_right (Nat.le_refl _), hl, Nat.sub_self]
      exact h4

theorem lt_cellsFor (m n k : Nat) (hn : 0 < n) : k * n < m ↔ k < cellsFor m n := by
  unfold cellsFor
  have := Nat.le_div_iff_mul_le hn (x := k + 1) (y := m + n - 1)
  rw [Nat.succ_mul] at this
  omega
theorem cutL_next (n : Nat) (l : List UInt8) (k : Nat) (hk : k < cellsFor l.length n) : (cutL n l).take (k + 1) = (cutL n l).take k ++ [tab n (fun i => at_ l (k * n + i))] := by
  rw [List.take_succ_eq_append_getElem (by rw [cutL_len]; exact hk)]
  have := cutL_at n l k hk
  rw [List.getElem?_eq_getElem (by rw [cutL_len]; exact hk)] at this
  rw [← this]; rfl

theorem elem_row {W : World} {g n base : Nat} {l : List UInt8} {w0 : World} {v : Value} {ls : List (List UInt8)} (hR : Row W g l) (hl : l.length = n) (hb : base ≤ g) (hown : OwnM w0 base v ls) (hg : w0.heap.size = g := by rfl) : Elem base v.ownBlock W (.slice (some ⟨g, 0, none⟩) n n) l := by
  subst hl
  refine ⟨_, _, rfl, Nat.le_refl _, fun _ => ⟨g, 0, rfl, hb, hR.lt, ?_, fun j hj => by rw [Nat.zero_add]; exact hR.cell hj⟩⟩
  obtain ⟨vals, hV, _⟩ := hown
  intro e
  have := (World.ownsRow.lt hV g e.symm).2
  omega

set_option maxHeartbeats 600000 in
theorem rcut_any (v : Value) (l : List UInt8) (n : Nat) (h1 : 1 ≤ n) (h64 : n ≤ 64) (hlen : l.length ≤ 1048576) (w : World) (hb : Bytes w.heap.size w v l) :
    Calls Try.prog 24 #[v, .int .i64 (n : Int)] w fun e w' => ∃ v', e = .returned v' ∧ FreshMany w.heap.size w' v' (cutL n l) ∧ Below w.heap.size w w' := by
  obtain ⟨A, cap, rfl, _, hA⟩ := hb
  obtain ⟨i0, hi, hz0, hz1, hz2⟩ := info_parts Try.infoByte
  have hmk := fun W : World => run_make (P := Try.prog) W 25 5 i0 (.int .u8 0) Try.underlying25 hi hz0 .i64 .i64 (n : Int) (n : Int) (by omega) (by omega) (by rw [hz2]; omega) (by omega)
  simp only [hz1, Nat.mul_one, Int.toNat_natCast] at hmk
  have hqle : cellsFor l.length n ≤ 2000000 := by
    have e1 := cellsFor_le l.length n h1
    have e2 := Nat.le_mul_of_pos_right (cellsFor l.length n) h1
    omega
  go_enter Try.func24, Try.ntmps24
  go_wp2_with fail
  go_loopw [5, 6] (fun v i wr => ∃ k a : Nat, k ≤ cellsFor l.length n ∧ a = k * n ∧ i = .int .i64 a ∧ OwnM wr w.heap.size v ((cutL n l).take k) ∧ Below w.heap.size w wr) (fun _ i _ => l.length + 64 - (intOf i).toNat)
  case atStart => exact ⟨0, 0, Nat.zero_le _, by simp, rfl, ownM_nil _ _, Below.refl _ _⟩
  case round =>
    obtain ⟨k, a, hk, ha, rfl, hown, hB⟩ := hrel
    have hiff := lt_cellsFor l.length n k h1
    rw [← ha] at hiff
    have hna : (k + 1) * n = a + n := by rw [Nat.succ_mul, ha]
    by_cases hlt : a < l.length
    · have hdec : decide ((a : Int) < (l.length : Int)) = true := by simp; omega
      have hkq := hiff.1 hlt
      obtain ⟨b1, off, rfl, hb1, hcell⟩ := hA (by omega)
      have HN := Lib.hid (cutL_next n l k hkq)
      rw [← ha] at HN
      have hpl : ((cutL n l).take k).length ≤ 2000000 := by rw [List.length_take]; omega
      have HNA := Lib.hid hna
      have HKQ := Lib.hid hkq
      clear hiff hna ha hqle
      obtain ⟨wz, hwz⟩ : ∃ x, x = wr := ⟨_, rfl⟩
      subst hwz
      go_wp2
      go_loopw [8] (fun j wi => ∃ t : Nat, t ≤ n ∧ j = .int .i64 t ∧ Hid (Row wi wz.heap.size (tab n (fun i => if i < t then at_ l (a + i) else 0))) ∧ Hid (wz.grownBy wi none)) (fun j _ => n - (intOf j).toNat)
      case atStart =>
        refine ⟨0, Nat.zero_le _, rfl, Lib.hid ?_, Lib.hid (World.grownBy_alloc _ _ _)⟩
        have := Row.made wz n
        rw [show List.replicate n (0 : UInt8) = tab n (fun i => if i < 0 then at_ l (a + i) else 0) by unfold tab; simp only [Nat.not_lt_zero, if_false]; rw [List.map_const', List.length_range]] at this
        exact this
      case round =>
        obtain ⟨t, ht, rfl, R, G⟩ := hrel
        have hR3 := R.out
        by_cases ht1 : t < n
        · have d1 : decide ((t : Int) < (n : Int)) = true := by simp; omega
          obtain ⟨c, hc⟩ : ∃ c, a + t = c := ⟨_, rfl⟩
          have hac : (a : Int) + (t : Int) = (c : Int) := by omega
          by_cases ht2 : c < l.length
          · have d2 : decide ((c : Int) < (l.length : Int)) = true := by simp; omega
            have hcx : wr.cell? ⟨b1, off + c, none⟩ = some (.int .u8 ((at_ l c).toNat : Int)) := by
              have := hB.size
              refine (World.cell?_of_block (G.out.block b1 (by omega) (by simp))).trans ?_
              exact (hB.cell (p := ⟨b1, off + c, none⟩) hb1).trans (hcell c ht2)
            have hc3 := hR3.cell (k := t) (by rw [tab_len]; exact ht1)
            have hf3 := hR3.frozen t
            have HS : Hid ((tab n (fun i => if i < t then at_ l (a + i) else 0)).set t (at_ l c) = tab n (fun i => if i < t + 1 then at_ l (a + i) else 0)) := by
              unfold Hid
              rw [tab_set]
              refine tab_ext fun j _ => ?_
              by_cases h1 : j = t
              · subst h1; rw [if_pos rfl, if_pos (by omega), hc]
              · rw [if_neg h1]
                by_cases h2 : j < t
                · rw [if_pos h2, if_pos (by omega)]
                · rw [if_neg h2, if_neg (by omega)]
            clear hR3 hcell
            generalize ((tab n (fun i => if i < t then at_ l (a + i) else 0))[t]?.getD 0).toNat = z at hc3
            generalize hat : at_ l c = x at *
            go_wp2
            go_roundw
            case rel =>
              refine ⟨t + 1, by omega, by go_num, Lib.hid ?_, Lib.hid (grown_new G.out (Nat.le_refl _) _)⟩
              have := R.out.set_ t x
              rwa [HS.out] at this
            case measure => simp [intOf]; omega
          · have d2 : decide ((c : Int) < (l.length : Int)) = false := decide_eq_false (by omega)
            have hF : Row wr wz.heap.size (tab n (fun i => at_ l (a + i))) := by
              rw [tab_ext (n := n) (g := fun i => at_ l (a + i)) (f := fun i => if i < t then at_ l (a + i) else 0) (fun j _ => by
                by_cases h : j < t
                · rw [if_pos h]
                · rw [if_neg h]; unfold at_; rw [List.getElem?_eq_none (by omega)]; rfl)] at hR3
              exact hR3
            clear hR3
            clear R
            have hgs : wr.heap.size > wz.heap.size := hF.lt
            have HO := Lib.hid (hown.grown_ (G.out.trans (World.grownBy_alloc wr (.cells #[.slice (some ⟨wz.heap.size, 0, none⟩) n n] 25) none)))
            have HU := Lib.hid (Blk.one (Blk.new wr 25 #[.slice (some ⟨wz.heap.size, 0, none⟩) n n]))
            have HE := Lib.hid (elem_row (hF.alloc (.cells #[.slice (some ⟨wz.heap.size, 0, none⟩) n n] 25)) (tab_len n _) hB.size hown)
            have HBw := Lib.hid (((hB.grown G.out hB.size (fun k e => by cases e)).alloc (by have := hB.size; omega) (.cells #[.slice (some ⟨wz.heap.size, 0, none⟩) n n] 25)))
            have hbs := hB.size
            go_wp2_with (at_builtin; refine wpList_ownM _ rfl _ _ rfl w.heap.size _ _ rfl HO.out wr.heap.size _ _ rfl HU.out HE.out (by omega) (by simp; omega) ?_; intro v2 w2 hown2 hgrow2)
            go_roundw
            case rel =>
              refine ⟨k + 1, a + n, HKQ.out, HNA.out.symm, by go_num, by rw [HN.out]; exact hown2, below_grown HBw.out hgrow2 (by simp; omega) (fun g e => ?_)⟩
              obtain ⟨vals, hV, _⟩ := hown
              exact (World.ownsRow.lt hV g e).1
            case measure => simp [intOf]; omega
        · have d1 : decide ((t : Int) < (n : Int)) = false := decide_eq_false (by omega)
          have hF : Row wr wz.heap.size (tab n (fun i => at_ l (a + i))) := by
            rw [tab_ext (n := n) (g := fun i => at_ l (a + i)) (f := fun i => if i < t then at_ l (a + i) else 0) (fun j _ => by rw [if_pos (by omega)])] at hR3
            exact hR3
          clear hR3
          clear R
          have hgs : wr.heap.size > wz.heap.size := hF.lt
          have HO := Lib.hid (hown.grown_ (G.out.trans (World.grownBy_alloc wr (.cells #[.slice (some ⟨wz.heap.size, 0, none⟩) n n] 25) none)))
          have HU := Lib.hid (Blk.one (Blk.new wr 25 #[.slice (some ⟨wz.heap.size, 0, none⟩) n n]))
          have HE := Lib.hid (elem_row (hF.alloc (.cells #[.slice (some ⟨wz.heap.size, 0, none⟩) n n] 25)) (tab_len n _) hB.size hown)
          have HBw := Lib.hid (((hB.grown G.out hB.size (fun k e => by cases e)).alloc (by have := hB.size; omega) (.cells #[.slice (some ⟨wz.heap.size, 0, none⟩) n n] 25)))
          have hbs := hB.size
          go_wp2_with (at_builtin; refine wpList_ownM _ rfl _ _ rfl w.heap.size _ _ rfl HO.out wr.heap.size _ _ rfl HU.out HE.out (by omega) (by simp; omega) ?_; intro v2 w2 hown2 hgrow2)
          go_roundw
          case rel =>
            refine ⟨k + 1, a + n, HKQ.out, HNA.out.symm, by go_num, by rw [HN.out]; exact hown2, below_grown HBw.out hgrow2 (by simp; omega) (fun g e => ?_)⟩
            obtain ⟨vals, hV, _⟩ := hown
            exact (World.ownsRow.lt hV g e).1
          case measure => simp [intOf]; omega
    · have hdec : decide ((a : Int) < (l.length : Int)) = false := decide_eq_false (by omega)
      have hkq : k = cellsFor l.length n := by
        have := fun h => hlt (hiff.2 h)
        omega
      rw [List.take_of_length_le (by rw [cutL_len]; omega)] at hown
      clear ha hna hiff hkq
      go_wp2
      go_ret
      exact ⟨_, rfl, hown.freshMany, hB⟩
end Go.Proofs.Ytjkpmhannmbgfaa
