/- The columns of EVENODD: what a diagonal goes over, collected. The columns of EVENODD: a diagonal's cells, and the adjuster. A region that draws its order, by what stands behind each set of its operations (no order is walked). The mathematics of EVENODD: the bytes at a place of cells that are put upon one another. The columns of EVENODD: the adjuster; a cell of the column of diagonals. The columns of EVENODD: what is encoded. EVENODD: Adjuster and Encode. Lists that a call builds by append: of cells, of columns; which blocks they lie in. Lists that a call builds by append: many elements at once. The document's answers for EVENODD: few, right, the same. The document's answers for EVENODD: the same columns. The laws of EVENODD: what they share: num, code, right. The laws of EVENODD: the chapter's rows. The laws of EVENODD: columns that came in. -/
import Derived.Test.YtggdlklkjnbbjaaGreatDoorKEG3
import Derived.Maps.OwnIn
import Derived.Test.YtggdlklkjnbbjaaGreatDoorKZwV
import Derived.Laws.EntriesVeiled
import Derived.Test.YtggdlklkjnbbjaaGreatDoorKEG2
import Derived.BigFrame
import Derived.Test.YtggdlklkjnbbjaaGreatDoorKCA
import Derived.Test.YtggdlklkjnbbjaaGreatDoorKSA
import Derived.Deep.Matrix
import Derived.ShutString
import Derived.ChangeOld
namespace Go.Proofs.YtggdlklkjnbbjaaGreatDoor.E
open Go.RowKit Go.Shelf Go.Proofs.YtggdlklkjnbbjaaGreatDoor.C
set_option linter.unusedSimpArgs false
set_option linter.unusedVariables false
attribute [local go_sem] Oper.semAt_some

/-- append of one slice more to a row of the call's own, in a round. -/
theorem wpListIn_val {F : Fence} {nF : Nat} (w : World) {ops : Array Oper} {rest : List Oper} {o : Oper} {a : Act} {Q : Exit → Act → World → Prop} (hgd : o.guard = none) (s x : Operand)
    (ho : o.op = .call { callee := .builtin .append, args := #[s, x], argTypes := #[43, 43] })
    (base : Nat) (v : Value) (l : List Value) (hs : a.eval s = v) (hown : OwnS w base v l) (g : Nat) (u : Value) (hu1 : u.oneCell' = true) (hx : a.eval x = .slice (some ⟨g, 0, none⟩) 1 1) (hu : Blk w g 25 #[u])
    (hlen : l.length ≤ 1000000) (hbase : base ≤ w.heap.size)
    (h : ∀ v' w', OwnS w' base v' (l ++ [u]) → w.grownBy w' v.ownBlock → (v'.ownBlock = v.ownBlock ∨ v'.ownBlock = some w.heap.size) → wpListIn F nF Tryz.prog ops Q rest (a.put o.dst v') w') : wpListIn F nF Tryz.prog ops Q (o :: rest) a w := by
  obtain ⟨i, hi, hz0, hz1, hz2⟩ := info_parts Tryz.infoSlcE
  refine wpListIn_append_own_at w hgd s x 43 ho base 25 i (.slice none 0 0) 1 24 Tryz.underlying43 hi hz0 hz1 hz2 rfl (by omega) v l.length l hs hown ⟨g, 0, none⟩ 1 1 [u] hx rfl
    (by intro j y hy
        rw [addr_add, Nat.zero_add, hu.cell j, List.getElem?_toArray]
        exact hy)
    (by intro y hy; simp only [List.mem_cons, List.not_mem_nil, or_false] at hy; subst hy; exact hu1) (by unfold maxLen; omega) (by omega) hbase ?_
  intro v' w' h1 h2 h4 h3
  refine h v' w' ?_ h2 h3
  unfold OwnS
  rw [List.length_append]
  exact h1
theorem OwnS.far {w : World} {base : Nat} {v : Value} {l : List Value} (h : OwnS w base v l) {p : Addr} (hp : some p.block ≠ v.ownBlock) (u : Value) : OwnS (w.setCell p u) base v l := by
  refine ⟨h.1, ?_⟩
  rcases h.2 with h1 | ⟨g, cap, cur, e, h2, hg, rest⟩
  · exact .inl h1
  · exact .inr ⟨g, cap, cur, e, h2, (Below.heap_setCell w p u g (fun e2 => hp (by rw [e, ← e2]; rfl))).trans hg, rest⟩
theorem OwnS.kept {w w' : World} {base : Nat} {v : Value} {l : List Value} (h : OwnS w base v l) {row : Option Nat} (hg : w.grownBy w' row) (hne : v.ownBlock = none ∨ v.ownBlock ≠ row) : OwnS w' base v l := World.ownsRow.kept h hg hne
theorem OwnS.below {w w' : World} {base : Nat} {v : Value} {l : List Value} (h : OwnS w base v l) (hb : Below w.heap.size w w') : OwnS w' base v l := World.ownsRow.kept (row := none) h (grown_below hb) (by cases v.ownBlock <;> simp)
theorem OwnS.blks {w w' : World} {base : Nat} {v : Value} {l : List Value} (h : OwnS w base v l) (hk : ∀ g t cs, Blk w g t cs → Blk w' g t cs) : OwnS w' base v l :=
  ⟨h.1, h.2.imp id fun ⟨g, cap, cur, e, h2, hg, rest⟩ => ⟨g, cap, cur, e, h2, hk _ _ _ hg, rest⟩⟩
theorem OwnS.less {w : World} {base base' : Nat} {v : Value} {l : List Value} (h : OwnS w base v l) (hb : base' ≤ base) : OwnS w base' v l :=
  ⟨h.1, h.2.imp id fun ⟨g, cap, cur, e, h2, rest⟩ => ⟨g, cap, cur, e, by omega, rest⟩⟩
theorem OwnS.rowO {w : World} {base : Nat} {v : Value} {l : List Value} (h : OwnS w base v l) : RowO v.ownBlock w := fun b e => by
  rcases h.2 with ⟨rfl, _⟩ | ⟨g, cap, cur, rfl, _, hg, _⟩
  · cases e
  · injection e with e
    subst e
    exact ⟨_, _, _, hg⟩
theorem OwnS.own_le {w : World} {base : Nat} {v : Value} {l : List Value} (h : OwnS w base v l) (b : Nat) (e : v.ownBlock = some b) : base ≤ b := by
  rcases h.2 with ⟨rfl, _⟩ | ⟨g, cap, cur, rfl, h2, hg, _⟩
  · cases e
  · injection e with e
    subst e
    exact h2

set_option maxRecDepth 100000 in
set_option maxHeartbeats 4000000 in
theorem appendSeq_any (us : List Value) (N : Nat) (hN : N ≤ 1000) (gf : Nat) (lb : Array Value) (w0 W : World) (hB0 : Below w0.heap.size w0 W) (eg : ∀ args w, (callFunc gf args).run Tryz.prog w = .ok (.enter gf args) w)
    (Ok : Value → World → Prop) (hOk : ∀ x X, Ok x X → ∃ A n c, x = .slice A n c) (hseq : ∀ n, 4 ≤ n → SeqQ Fence.wide n Tryz.prog gf lb (fun x : Value => #[x]) Ok (Keep 0 w0.heap.size) (fun ys => ys = us) (fun pre => pre <+: us) N w0) :
    Calls Tryz.prog 131 #[.slice none 0 0, .func (.func gf) #[] lb] W fun e w' => ∃ u, e = .returned u ∧ OwnS w' W.heap.size u us ∧ Below W.heap.size W w' := by
  obtain ⟨w7, hw7⟩ : ∃ w7, W.alloc (.cells #[.slice none 0 0] 43) = w7 := ⟨_, rfl⟩
  have b1 : Blk w7 W.heap.size 43 #[.slice none 0 0] := by rw [← hw7]; exact Blk.new W _ _
  have hB : Below W.heap.size W w7 := by rw [← hw7]; exact below_one W _
  have s7 : w7.heap.size = W.heap.size + 1 := by rw [← hw7]; simp
  have hs0 := hB0.size
  refine (callsIn_wide (n := 9)).1 ?_
  refine callsIn_of_wp_marks Tryz.func131 rfl trivial ?_ rfl
  simp only [Tryz.ntmps131, List.size_toArray, List.length_cons, List.length_nil, Nat.reduceAdd, Nat.reduceSub, Array.replicate_succ, Array.replicate_zero, List.push_toArray, List.append_toArray, List.nil_append, List.cons_append]
  gi_wp2_with fail
  clear hw7
  refine wpIn_rangeQ rfl (by omega) (gf := gf) (lb := lb) rfl trivial eg (hseq _ (by omega)) (fun h h' => h.trans h') (fun V l ob hl _ hlp => Keep.putFar V (by omega) ob) (below_in hB0 hB) (fun _ => rfl)
    (fun pre o X => ∃ v, Blk X W.heap.size 43 #[v] ∧ OwnS X (W.heap.size + 1) v pre ∧ v.ownBlock = o ∧ Below W.heap.size W X)
    (fun _ _ _ _ => False) ?hI (fun c s o X Y row hs _ _ => hs) none (fun b e => by cases e) ⟨_, b1, ownS_nil _ _, rfl, hB⟩
    (fun x o a' X => a' = { tmps := #[.slice none 0 0, .func (.func gf) #[] lb, .pointer (some ⟨W.heap.size, 0, none⟩), undef, .slice none 0 0, x, .func (.func gf) #[] lb, x, undef, undef, undef, undef, undef], defers := [] } ∧ ∃ A n c, x = .slice A n c) (fun _ _ _ _ _ _ _ _ h => h)
    ?assign (fun pre o X h => by obtain ⟨v, _, ho, rfl, _⟩ := h; exact ho.rowO) (fun c pre o X h => h.elim) ?body ?done (fun D c pre o X _ _ _ h => h.elim)
  case hI =>
    rintro s o X Y row ⟨v, hb1, ho, rfl, hBX⟩ hgr hr
    have hne : ∀ g, g < w7.heap.size → some g ≠ row := fun g hg e => by have := (hr g e.symm).1; omega
    refine ⟨v, hb1.grown hgr (hne _ (by omega)), ho.kept hgr ?_, rfl, hBX.grown hgr hBX.size (fun r e => by have := (hr r e).1; omega)⟩
    cases hrow : row with
    | none => exact (Option.eq_none_or_eq_some v.ownBlock).imp id (fun ⟨x, hx⟩ => by rw [hx]; simp)
    | some r => exact .inr (fun e => (hr r hrow).2 e.symm)
  case assign =>
    intro l' pre x o X K hsz ho hI hok hK
    gi_wp2
    exact hK _ _ (SinceO.refl _ _ _) (Keep.refl _ _ _) hI ⟨rfl, hOk _ _ hok⟩
  case body =>
    rintro l' pre x o a' X hsz ⟨v, hb1, ho, rfl, hBX⟩ ⟨rfl, Ax, nx, cx, rfl⟩ hlen
    have hx1 : (Value.slice Ax nx cx).oneCell' = true := rfl
    have c1 := hb1.one
    have hol := ho.rowO.lt
    have hBb := below_one X (.cells #[.slice Ax nx cx] 25)
    have HO := Lib.hid (ho.below hBb)
    have HU := Lib.hid (Blk.new X 25 #[.slice Ax nx cx])
    have hb1b := hb1.below hBb hb1.lt
    have hn1 : some W.heap.size ≠ v.ownBlock := fun e => by have := ho.own_le _ e.symm; omega
    have hva := ho.own_le
    have hsb := hBb.size
    have hsX := hBX.size
    have HX1 := Lib.hid hx1
    clear hx1
    gi_wp2_with (gi_at_builtin; refine wpListIn_val _ rfl _ _ rfl (W.heap.size + 1) v _ rfl HO.out X.heap.size (.slice Ax nx cx) HX1.out rfl HU.out (by omega) (by simp; omega) ?_; intro v2 w3 ho2 hg2 hd2; (have hfm := World.ownsRow.form ho2 (by simp)); (obtain ⟨g2, cap2, hv2, _, _⟩ := hfm); (generalize (pre ++ [Value.slice Ax nx cx]).length = N2 at hv2); subst hv2; have hb3 := hb1b.grown hg2 hn1; have c3 := hb3.one; have f3 := hb3.frozen 0)
    have hs3 := hg2.size
    have hn2 : some W.heap.size ≠ (Value.slice (some ⟨g2, 0, none⟩) N2 cap2).ownBlock := fun e => by have := ho2.own_le _ e.symm; omega
    have hfr : FreshO v.ownBlock (Value.slice (some ⟨g2, 0, none⟩) N2 cap2).ownBlock X := by
      rcases hd2 with h | h
      · exact .inl h
      · exact .inr ⟨_, h, by simp⟩
    have hsi : SinceO w7.heap.size v.ownBlock X (w3.setCell ⟨W.heap.size, 0, none⟩ (Value.slice (some ⟨g2, 0, none⟩) N2 cap2)) :=
      (SinceO.below hBb).trans_ ⟨by simpa using hs3, fun b h1 h2 h3 => (Below.heap_setCell w3 _ (Value.slice (some ⟨g2, 0, none⟩) N2 cap2) b (by simp; omega)).trans (hg2.block b h2 h3)⟩
    have hke : Keep 0 w0.heap.size X (w3.setCell ⟨W.heap.size, 0, none⟩ (Value.slice (some ⟨g2, 0, none⟩) N2 cap2)) :=
      ((Keep.below hBb (by omega)).trans (Keep.grown hg2 (by omega) (fun r e => .inr (by have := hva r e; omega)))).trans (Keep.setFar w3 (by simp; omega) (Value.slice (some ⟨g2, 0, none⟩) N2 cap2))
    have hbe : Below W.heap.size W (w3.setCell ⟨W.heap.size, 0, none⟩ (Value.slice (some ⟨g2, 0, none⟩) N2 cap2)) := ((below_in hBX hBb).grown hg2 (by omega) (fun r e => by have := hva r e; omega)).setCell (by simp) (Value.slice (some ⟨g2, 0, none⟩) N2 cap2)
    exact ⟨(Value.slice (some ⟨g2, 0, none⟩) N2 cap2).ownBlock, hfr, hsi, hke, (Value.slice (some ⟨g2, 0, none⟩) N2 cap2), hb3.set_ 0 (Value.slice (some ⟨g2, 0, none⟩) N2 cap2), ho2.far hn2 (Value.slice (some ⟨g2, 0, none⟩) N2 cap2), rfl, hbe⟩
  case done =>
    rintro D xs o X hD hfo rfl ⟨v, hb1, ho, rfl, hBX⟩ hK hne
    have c1 := hb1.one
    gi_wp2
    refine leaves_blks W [D] X ⟨by simp, fun E hE => ?_⟩ hBX (fun W' hB' hk => ?_)
    · obtain rfl := List.mem_singleton.1 hE
      exact ⟨by omega, hK⟩
    · exact ⟨v, by simp [results, Tryz.results131, go_sem], v, rfl, (ho.blks hk).less (by omega), hB'⟩
end Go.Proofs.YtggdlklkjnbbjaaGreatDoor.E

namespace Go.Proofs.YtggdlklkjnbbjaaGreatDoor.E
open Go.RowKit Go.Shelf Go.Proofs.YtggdlklkjnbbjaaGreatDoor.C
set_option linter.unusedSimpArgs false
set_option linter.unusedVariables false
attribute [local go_sem] Oper.semAt_some

theorem OwnS.vals {base : Nat} {W : World} {v : Value} {us : List Value} (h : OwnS W base v us) : Vals W.heap.size W v us := by
  rcases Nat.eq_zero_or_pos us.length with h0 | h0
  · rcases h.2 with ⟨rfl, _⟩ | ⟨g, cap, cur, rfl, _, hg, hn, _⟩
    · exact .inl ⟨rfl, List.eq_nil_of_length_eq_zero h0⟩
    · refine .inr ⟨g, 0, cap, rfl, hn, (Array.getElem?_eq_some_iff.1 hg).1, fun j u hu => ?_⟩
      rw [List.eq_nil_of_length_eq_zero h0] at hu
      cases hu
  · obtain ⟨g, cap, rfl, hg, hg1⟩ := World.ownsRow.form h h0
    have hcp : us.length ≤ cap := by
      rcases h.2 with ⟨e, _⟩ | ⟨g2, cap2, cur, e2, _, _, hnc, _⟩
      · cases e
      · injection e2 with _ _ e3
        omega
    refine .inr ⟨g, 0, cap, rfl, hcp, hg1, fun j u hu => ?_⟩
    have hj : j < us.length := (List.getElem?_eq_some_iff.1 hu).1
    rw [Nat.zero_add, World.ownsRow.cellAt h j (by omega)]
    exact hu
theorem xorOk_of {n : Nat} {ls : List (List UInt8)} (h0 : 0 < ls.length) (h1 : 1 ≤ n ∧ n ≤ 64) (h : ∀ l ∈ ls, l.length = n) : XorOk ls := by
  have hj : ∀ j, j < ls.length → (ls[j]?.getD []).length = n := fun j hj => by
    rw [List.getElem?_eq_getElem hj]
    exact h _ (List.getElem_mem hj)
  refine ⟨h0, ?_, fun j hjl => ?_⟩
  · unfold Cell
    rw [hj 0 h0]
    exact h1
  · rw [hj 0 h0]
    exact hj j hjl
/-- The cell of a column and a row. -/
def cellOf_ (css : List (List (List UInt8))) (c r : Nat) : List UInt8 := (css[c]?.getD [])[r]?.getD []
theorem togOk_cell {R : Nat} {css : List (List (List UInt8))} (h : TogOk R css) {c r : Nat} (hc : c < css.length) (hr : r < R) : (cellOf_ css c r).length = (firstC css).length := by
  obtain ⟨h1, h2, h3⟩ := h.2 c hc
  exact h3 r (by omega)
theorem togOk_first {R : Nat} {css : List (List (List UInt8))} (h : TogOk R css) : 1 ≤ (firstC css).length ∧ (firstC css).length ≤ 64 := (h.2 0 h.1).2.1
theorem diagOf_ok {p a : Int} {css : List (List (List UInt8))} (h : DataOk p css) (h0 : 0 ≤ a) (h1 : a < p) : ∀ l ∈ diagOf p a css, l.length = (firstC css).length := by
  obtain ⟨hR, hl, ht⟩ := h
  intro l hl2
  unfold diagOf at hl2
  obtain ⟨x, hx, rfl⟩ := List.mem_map.1 hl2
  unfold diagAt at hx
  obtain ⟨i, hi, rfl⟩ := List.mem_map.1 hx
  obtain ⟨hi1, hi2⟩ := List.mem_filter.1 hi
  rw [List.mem_range] at hi1
  have hi3 := of_decide_eq_true hi2
  have hpp := prm_bounds hR.2
  refine togOk_cell ht (by omega) ?_
  have : 0 ≤ (a - (i : Int)) % p := Int.emod_nonneg _ (by omega)
  show ((a - (i : Int)) % p).toNat < (p - 1).toNat
  omega
theorem diagOf_len {p a : Int} {css : List (List (List UInt8))} : (diagOf p a css).length ≤ p.toNat := by
  unfold diagOf
  rw [List.length_map]
  exact diagAt_len p a _
theorem diagAt_pos0 : ∀ p ∈ prm, ∀ a ∈ List.range p.toNat, 0 < (diagAt p (a : Int) p.toNat).length := by decide +kernel
theorem diagOf_pos {p a : Int} {css : List (List (List UInt8))} (hp : p ∈ prm) (h0 : 0 ≤ a) (h1 : a < p) : 0 < (diagOf p a css).length := by
  have h := diagAt_pos0 p hp a.toNat (List.mem_range.2 (by omega))
  rw [show ((a.toNat : Nat) : Int) = a by omega] at h
  unfold diagOf
  rw [List.length_map]
  exact h
/-- The function that goes over a diagonal. -/
theorem diagonal_seq {B : Nat} (g h : Nat) (p a : Int) (v : Value) (f : Nat → Nat → Value) (hR : RightC 1 p) (a0 : 0 ≤ a) (a1 : a < p) (w : World) (hB : B ≤ w.heap.size) (hL : Laid w) (hG : GridV B w v p.toNat (p - 1).toNat f)
    (bg : Blk w g 65 #[.int .i64 p, v]) (bh : Blk w h 3 #[.int .i64 a]) (n : Nat) (hn : 4 ≤ n) :
    SeqQ Fence.wide n Tryz.prog 132 #[.pointer (some ⟨g, 0, none⟩), .pointer (some ⟨h, 0, none⟩)] (fun x : Value => #[x]) (fun x _ => ∃ c r : Nat, ((c : Int) < p ∧ (r : Int) < p - 1) ∧ x = f c r) (Keep 0 w.heap.size)
      (fun ys => ys = diagW p f 0 (walkN p a (-1))) (fun pre => pre <+: diagW p f 0 (walkN p a (-1))) p.toNat w := by
  intro l J Jx W o₀ hBW ho₀ hJ hJx hr1 hr2 hY h0
  exact diagonal1_in n hn l g h B w.heap.size p a v f hR a0 a1 W hB bg.lt bh.lt hBW.size (hL.next hBW) J Jx o₀ ho₀ hJ hJx hr1 hr2 (fun pre c r o W1 hj hcr hlen hsz => hY pre (f c r) o W1 hj ⟨c, r, hcr, rfl⟩ hlen hsz) (hG.below (hBW.mono hB)) (bg.below hBW bg.lt) (bh.below hBW bh.lt) h0
theorem enter_diag1 : ∀ args W, (callFunc 132 args).run Tryz.prog W = .ok (.enter 132 args) W := enters_of Tryz.func132 (by kernel_rfl) rfl
set_option maxHeartbeats 1000000 in
theorem diagonal_any (p a : Int) (v : Value) (w : World) (A : Option Addr) (m c : Nat) (hv : v = .slice A m c) :
    Calls Tryz.prog 89 #[.agg #[.int .i64 p, v], .int .i64 a] w fun e w' => e = .returned (.func (.func 132) #[] #[.pointer (some ⟨w.heap.size, 0, none⟩), .pointer (some ⟨w.heap.size + 1, 0, none⟩)]) ∧ Blk w' w.heap.size 65 #[.int .i64 p, v] ∧ Blk w' (w.heap.size + 1) 3 #[.int .i64 a] ∧ Below w.heap.size w w' := by
  subst hv
  have hmf : ∀ (fn : Fn) (first cap : Array Value) (w : World), (Instr.makeFunc fn first cap).run Tryz.prog w = .ok (.func fn first cap) w := fun _ _ _ _ => rfl
  have b0 : Blk ((w.alloc (.cells #[.int .i64 p, .slice A m c] 65)).alloc (.cells #[.int .i64 a] 3)) w.heap.size 65 #[.int .i64 p, .slice A m c] := (Blk.new w _ _).alloc _
  have b1 := Blk.second w (.cells #[.int .i64 p, .slice A m c] 65) 3 #[.int .i64 a]
  have hB := below_two w (.cells #[.int .i64 p, .slice A m c] 65) (.cells #[.int .i64 a] 3)
  go_enter Tryz.func89, Tryz.ntmps89
  go_wp2
  go_ret
  exact ⟨rfl, b0, b1, hB⟩
set_option maxHeartbeats 1000000 in
theorem collect_any (us : List Value) (N : Nat) (hN : N ≤ 1000) (gf : Nat) (lb : Array Value) (w0 W : World) (hB0 : Below w0.heap.size w0 W) (eg : ∀ args w, (callFunc gf args).run Tryz.prog w = .ok (.enter gf args) w)
    (Ok : Value → World → Prop) (hOk : ∀ x X, Ok x X → ∃ A n c, x = .slice A n c) (hseq : ∀ n, 4 ≤ n → SeqQ Fence.wide n Tryz.prog gf lb (fun x : Value => #[x]) Ok (Keep 0 w0.heap.size) (fun ys => ys = us) (fun pre => pre <+: us) N w0) :
    Calls Tryz.prog 88 #[.func (.func gf) #[] lb] W fun e w' => ∃ u, e = .returned u ∧ OwnS w' W.heap.size u us ∧ Below W.heap.size W w' := by
  have HA := Lib.hid (appendSeq_any us N hN gf lb w0 W hB0 eg Ok hOk hseq)
  clear hseq hOk eg
  go_enter Tryz.func88, Tryz.ntmps88
  go_wp2_with (go_at_call 131; refine HA.out.mono ?_; rintro e w1 ⟨u, rfl, ho, hB1⟩)
  go_ret
  exact ⟨_, rfl, ho, hB1⟩
/-- The cells of a diagonal, collected. -/
theorem collectDiag_any {B : Nat} (g h : Nat) (p a : Int) (v : Value) (css : List (List (List UInt8))) (hok : DataOk p css) (a0 : 0 ≤ a) (a1 : a < p) (w W : World) (hB : B ≤ w.heap.size) (hL : Laid w) (hC : Cols B w v css)
    (bg : Blk w g 65 #[.int .i64 p, v]) (bh : Blk w h 3 #[.int .i64 a]) (hB0 : Below w.heap.size w W) :
    Calls Tryz.prog 88 #[.func (.func 132) #[] #[.pointer (some ⟨g, 0, none⟩), .pointer (some ⟨h, 0, none⟩)]] W fun e w' => ∃ u us, e = .returned u ∧ ManyV w'.heap.size w' u us (diagOf p a css) ∧ Below W.heap.size W w' := by
  obtain ⟨hR, hl, ht⟩ := hok
  have hpp := prm_bounds hR.2
  have hl2 : css.length = p.toNat := by omega
  obtain ⟨f, hG, hf⟩ := hC.grid ht.1 (R := (p - 1).toNat) (by omega) (fun j hj => (ht.2 j hj).1)
  rw [hl2] at hG hf
  have hone : ∀ c r : Nat, (c : Int) < p → (r : Int) < p - 1 → ∃ A n c2, f c r = .slice A n c2 := fun c r h1 h2 => by
    obtain ⟨A, cap, e, _⟩ := hf c r (by omega) (by omega)
    exact ⟨_, _, _, e⟩
  have hseq := diagonal_seq g h p a v f hR a0 a1 w hB hL hG bg bh
  rw [diagW_walk hR.2 a0 a1] at hseq
  refine (collect_any (diagV p a f p.toNat) p.toNat (by omega) _ _ w W hB0 enter_diag1 _ (fun x X ⟨c, r, hcr, e⟩ => by rw [e]; exact hone c r hcr.1 hcr.2) hseq).mono ?_
  rintro e w' ⟨u, rfl, ho, hB1⟩
  have hs0 := hB0.size
  have hs1 := hB1.size
  refine ⟨u, _, rfl, ⟨?_, ho.vals, fun j x hx => ?_⟩, hB1⟩
  · unfold diagV diagOf
    rw [List.length_map, List.length_map]
  · unfold diagV at hx
    rw [List.getElem?_map] at hx
    obtain ⟨y, hy, rfl⟩ := Option.map_eq_some_iff.1 hx
    have hcell : (diagOf p a css)[j]?.getD [] = (css[y.1]?.getD [])[y.2]?.getD [] := by
      unfold diagOf
      rw [List.getElem?_map, hy]
      rfl
    rw [hcell]
    have hy2 := List.mem_of_getElem? hy
    unfold diagAt at hy2
    obtain ⟨i, hi, rfl⟩ := List.mem_map.1 hy2
    obtain ⟨hi1, hi2⟩ := List.mem_filter.1 hi
    rw [List.mem_range] at hi1
    have hi3 := of_decide_eq_true hi2
    have h00 : 0 ≤ (a - (i : Int)) % p := Int.emod_nonneg _ (by omega)
    exact ((hf i ((a - (i : Int)) % p).toNat hi1 (by omega)).below ((below_in hB0 hB1).mono hB)).more (by omega)
end Go.Proofs.YtggdlklkjnbbjaaGreatDoor.E

namespace Go.Proofs.YtggdlklkjnbbjaaGreatDoor
open Go.RowKit Go.Shelf
set_option linter.unusedVariables false
set_option linter.unusedSimpArgs false

section
variable {F : Fence} {n : Nat} {P : Program} {md : Region.Mode} {ops : Array Oper} {Q : Exit → Act → World → Prop}
theorem count_set {listed : Array Bool} {i k : Nat} (h : listed.getD i true = false) (hk : listed.toList.count false ≤ k + 1) : (listed.setIfInBounds i true).toList.count false ≤ k := by
  have hi : i < listed.size := by
    rcases Nat.lt_or_ge i listed.size with h' | h'
    · exact h'
    · simp [Array.getElem?_eq_none h'] at h
  have hl : listed.toList[i]'(by simpa using hi) = false := by
    simp [hi] at h
    simpa using h
  rw [Array.toList_setIfInBounds, List.count_set (h := by simpa using hi), hl, if_pos (show (false == false) = true from rfl), if_neg (show ¬ ((true == false) = true) by decide)]
  omega
theorem wpAnyIn_inv (I : Array Bool → Act → World → Prop)
    (hstep : ∀ (i : Nat) (listed : Array Bool) (a : Act) (w : World), i ∈ Region.ready md ops listed → listed.size = ops.size → I listed a w → wpOpIn F n P ops Q i (I (listed.setIfInBounds i true)) a w)
    (hend : ∀ (listed : Array Bool) (a : Act) (w : World), listed.size = ops.size → I listed a w → Region.ready md ops listed = [] → Q .normal a w) :
    ∀ (k : Nat) (listed : Array Bool) (a : Act) (w : World), listed.size = ops.size → listed.toList.count false ≤ k → I listed a w → wpAnyIn F n P md ops Q k listed a w
  | 0, listed, a, w, hs, hc, hI => by
    have hr : Region.ready md ops listed = [] := by
      rw [List.eq_nil_iff_forall_not_mem]
      intro i hi
      have h := (mem_ready.1 hi).1
      have hil : i < listed.size := by
        rcases Nat.lt_or_ge i listed.size with h' | h'
        · exact h'
        · simp [Array.getElem?_eq_none h'] at h
      simp [hil] at h
      have hm : false ∈ listed.toList := by rw [← h]; simp
      have := List.count_pos_iff.2 hm
      omega
    exact ⟨hr, hend listed a w hs hI hr⟩
  | k + 1, listed, a, w, hs, hc, hI => ⟨hend listed a w hs hI, fun i hi => wpOpIn_mono (fun a' w' h => wpAnyIn_inv I hstep hend k _ a' w' (by simpa using hs) (count_set (mem_ready.1 hi).1 hc) h) (hstep i listed a w hi hs hI)⟩
/-- Each operation waits for earlier ones alone. -/
def onward (md : Region.Mode) (ops : Array Oper) : Bool := (List.range ops.size).all fun i => ((ops[i]?).map (·.after.all fun e => !Region.binds md e || decide (e.on < i))).getD true
theorem all_listed (h : onward md ops = true) {listed : Array Bool} (hs : listed.size = ops.size) (hr : Region.ready md ops listed = []) : ∀ i, i < ops.size → listed.getD i false = true := by
  intro i
  induction i using Nat.strongRecOn with
  | _ i ih =>
    intro hi
    have hn : i ∉ Region.ready md ops listed := by rw [hr]; simp
    rw [mem_ready] at hn
    have hil : i < listed.size := by omega
    cases hl : listed.getD i false with
    | true => rfl
    | false =>
      refine absurd ⟨?_, ops[i], Array.getElem?_eq_getElem hi, fun e he hb => ?_⟩ hn
      · simp [hil] at hl ⊢
        exact hl
      · have h1 := List.all_eq_true.1 h i (List.mem_range.2 hi)
        rw [Array.getElem?_eq_getElem hi] at h1
        simp only [Option.map_some, Option.getD_some, Array.all_eq_true_iff_forall_mem] at h1
        have h2 := h1 e he
        rw [hb] at h2
        have h3 : e.on < i := by simpa using h2
        exact ih e.on h3 (by omega)
theorem region_inv {id : Nat} {a : Act} {w : World} (hm : P.follows .mixedOrders = true) (ho : onward .any ops = true) (I : Array Bool → Act → World → Prop) (h0 : I (Array.replicate ops.size false) a w.drew)
    (hstep : ∀ (i : Nat) (listed : Array Bool) (a : Act) (w : World), i ∈ Region.ready .any ops listed → I listed a w → wpOpIn F n P ops Q i (I (listed.setIfInBounds i true)) a w)
    (hend : ∀ (listed : Array Bool) (a : Act) (w : World), (∀ i, i < ops.size → listed.getD i false = true) → I listed a w → Q .normal a w) : (Code.region id ops true).wpIn F n P Q a w :=
  wpIn_region_any hm (wpAnyIn_inv I (fun i l a w hi _ h => hstep i l a w hi h) (fun l a w hs hI hr => hend l a w (all_listed ho hs hr) hI) _ _ _ _ (by simp) (by simp) h0)
theorem listed_ne {listed : Array Bool} {i j : Nat} (h : i ≠ j) : (listed.setIfInBounds i true).getD j false = listed.getD j false := getD_set_ne false h
/-- What is ready: what it waits for is listed. -/
theorem ready_on {i : Nat} {o : Oper} {listed : Array Bool} (h : i ∈ Region.ready md ops listed) (ho : ops[i]? = some o) (js : List Nat) (hj : (js.all fun j => o.after.any fun e => Region.binds md e && e.on == j) = true) : ∀ j ∈ js, listed.getD j false = true := by
  obtain ⟨_, o', ho', hall⟩ := mem_ready.1 h
  rw [ho] at ho'
  cases ho'
  intro j hjm
  have h1 := List.all_eq_true.1 hj j hjm
  rw [← Array.any_toList, List.any_eq_true] at h1
  obtain ⟨e, he, h2⟩ := h1
  replace he := Array.mem_toList_iff.1 he
  rw [Bool.and_eq_true] at h2
  have h3 : e.on = j := by simpa using h2.2
  rw [← h3]
  exact hall e he h2.1
theorem wpOpIn_one {i : Nat} {o : Oper} {K : Act → World → Prop} {a : Act} {w : World} (ho : ops[i]? = some o) (hw : Region.wanted o (yielded ops a.tmps) = true) (h : Oper.wpIn F n P o a w K Q) : wpOpIn F n P ops Q i K a w := by
  unfold wpOpIn
  rw [ho]
  simp only [hw, if_true]
  exact h
end
end Go.Proofs.YtggdlklkjnbbjaaGreatDoor

namespace Go.Proofs.YtggdlklkjnbbjaaGreatDoor.E
open Go.RowKit Go.Shelf Go.Proofs.YtggdlklkjnbbjaaGreatDoor.C
set_option linter.unusedSimpArgs false
set_option linter.unusedVariables false

def xa (l : List UInt8) : UInt8 := l.foldl (· ^^^ ·) 0
theorem xa_from : ∀ (l : List UInt8) (z : UInt8), l.foldl (· ^^^ ·) z = z ^^^ xa l
  | [], z => by simp [xa]
  | a :: l, z => by
    unfold xa
    rw [List.foldl_cons, xa_from l, List.foldl_cons, xa_from l (0 ^^^ a)]
    simp [UInt8.xor_assoc]
theorem xa_nil : xa [] = 0 := rfl
theorem xa_cons (a : UInt8) (l : List UInt8) : xa (a :: l) = a ^^^ xa l := by
  show (a :: l).foldl (· ^^^ ·) 0 = _
  rw [List.foldl_cons, xa_from, UInt8.zero_xor]
theorem xa_perm {a b : List UInt8} (h : a.Perm b) : xa a = xa b := by
  induction h with
  | nil => rfl
  | cons x _ ih => rw [xa_cons, xa_cons, ih]
  | swap x y l => rw [xa_cons, xa_cons, xa_cons, xa_cons, ← UInt8.xor_assoc, ← UInt8.xor_assoc, UInt8.xor_comm x y]
  | trans _ _ h1 h2 => exact h1.trans h2
theorem at_out (l : List UInt8) (j : Nat) (h : l.length ≤ j) : at_ l j = 0 := by
  unfold at_
  rw [List.getElem?_eq_none h]
  rfl
theorem ext_at {a b : List UInt8} (hl : a.length = b.length) (h : ∀ j, at_ a j = at_ b j) : a = b := by
  rw [tab_of a, tab_of b, hl]
  exact tab_ext fun j _ => h j
theorem at_xorB (a b : List UInt8) (j : Nat) (h : b.length = a.length) : at_ (xorB a b) j = at_ a j ^^^ at_ b j := by
  rcases Nat.lt_or_ge j a.length with hj | hj
  · exact xorB_at a b j hj
  · rw [at_out _ _ (by rw [xorB_len]; exact hj), at_out a j hj, at_out b j (by omega), UInt8.xor_self]
theorem at_xors (j : Nat) : ∀ (ls : List (List UInt8)) (z : List UInt8), (∀ l ∈ ls, l.length = z.length) → at_ (xors z ls) j = at_ z j ^^^ xa (ls.map (at_ · j))
  | [], z, _ => by simp [xors, xa_nil]
  | l :: ls, z, h => by
    show at_ (xors (xorB z l) ls) j = _
    rw [at_xors j ls (xorB z l) (fun m hm => by rw [xorB_len]; exact h m (.tail _ hm)), at_xorB z l j (h l (.head _)), List.map_cons, xa_cons, UInt8.xor_assoc]
theorem at_zeros (n j : Nat) : at_ (List.replicate n 0) j = 0 := by
  unfold at_
  rw [List.getElem?_replicate]
  split <;> rfl
theorem at_upon {n : Nat} {ls : List (List UInt8)} (h : ∀ l ∈ ls, l.length = n) (j : Nat) : at_ (xors (List.replicate n 0) ls) j = xa (ls.map (at_ · j)) := by
  rw [at_xors j ls _ (fun l hl => by rw [List.length_replicate]; exact h l hl), at_zeros, UInt8.zero_xor]
theorem first_len {n : Nat} {ls : List (List UInt8)} (h0 : 0 < ls.length) (h : ∀ l ∈ ls, l.length = n) : (ls[0]?.getD []).length = n := by
  rw [List.getElem?_eq_getElem h0]
  exact h _ (List.getElem_mem h0)
theorem at_xorOf {n : Nat} {ls : List (List UInt8)} (h0 : 0 < ls.length) (h : ∀ l ∈ ls, l.length = n) (j : Nat) : at_ (xorOf ls) j = xa (ls.map (at_ · j)) := by
  unfold xorOf
  rw [first_len h0 h]
  exact at_upon h j
theorem xorOf_len_of {n : Nat} {ls : List (List UInt8)} (h0 : 0 < ls.length) (h : ∀ l ∈ ls, l.length = n) : (xorOf ls).length = n := by
  rw [xorOf_len, first_len h0 h]

/-- The byte j of the cell of a column and a row. -/
def by_ (css : List (List (List UInt8))) (j c r : Nat) : UInt8 := at_ (cellOf_ css c r) j
/-- The byte j of the cells of a diagonal, put upon one another. -/
def dg_ (p : Int) (css : List (List (List UInt8))) (j : Nat) (k : Int) : UInt8 := xa ((diagAt p k p.toNat).map fun x => by_ css j x.1 x.2)
def adjOf (p : Int) (css : List (List (List UInt8))) : List UInt8 := xorOf (diagOf p (p - 1) css)
def rowsMade (R : Nat) (css : List (List (List UInt8))) : List (List UInt8) := (List.range R).map fun r => xorOf (rowOf css r)
def diagsMade (p : Int) (R : Nat) (css : List (List (List UInt8))) : List (List UInt8) := (List.range R).map fun (r : Nat) => xorOf ([adjOf p css] ++ diagOf p r css)
/-- The columns that EVENODD makes. -/
def encOf (p : Int) (css : List (List (List UInt8))) : List (List (List UInt8)) := [rowsMade (p - 1).toNat css, diagsMade p (p - 1).toNat css]
section
variable {p : Int} {css : List (List (List UInt8))}
theorem dataOk_n (h : DataOk p css) : css.length = p.toNat ∧ 3 ≤ p.toNat ∧ p.toNat ≤ 17 ∧ (p.toNat : Int) = p ∧ (p - 1).toNat = p.toNat - 1 := by
  have hpp := prm_bounds h.1.2
  have := h.2.1
  omega
theorem rowOf_ok (h : DataOk p css) {r : Nat} (hr : r < (p - 1).toNat) : ∀ l ∈ rowOf css r, l.length = (firstC css).length := by
  intro l hl
  unfold rowOf at hl
  obtain ⟨cs, hcs, rfl⟩ := List.mem_map.1 hl
  obtain ⟨c, hc, rfl⟩ := List.getElem_of_mem hcs
  have := togOk_cell h.2.2 hc hr
  unfold cellOf_ at this
  rwa [List.getElem?_eq_getElem hc] at this
theorem rowOf_pos (h : DataOk p css) (r : Nat) : 0 < (rowOf css r).length := by
  rw [rowOf_len]
  exact h.2.2.1
theorem map_diag (j : Nat) (k : Int) : (diagOf p k css).map (at_ · j) = (diagAt p k p.toNat).map fun x => by_ css j x.1 x.2 := by
  unfold diagOf
  rw [List.map_map]
  rfl
theorem at_diag (h : DataOk p css) {k : Int} (h0 : 0 ≤ k) (h1 : k < p) (j : Nat) : at_ (xorOf (diagOf p k css)) j = dg_ p css j k := by
  rw [at_xorOf (diagOf_pos h.1.2 h0 h1) (diagOf_ok h h0 h1), map_diag]
  rfl
theorem adjOf_len (h : DataOk p css) : (adjOf p css).length = (firstC css).length := by
  have := dataOk_n h
  exact xorOf_len_of (diagOf_pos h.1.2 (by omega) (by omega)) (diagOf_ok h (by omega) (by omega))
theorem adjDiag_ok (h : DataOk p css) {r : Nat} (hr : (r : Int) < p) : ∀ l ∈ [adjOf p css] ++ diagOf p r css, l.length = (firstC css).length := by
  intro l hl
  rcases List.mem_append.1 hl with hl | hl
  · rw [List.mem_singleton.1 hl]
    exact adjOf_len h
  · exact diagOf_ok h (by omega) hr l hl
theorem rowsMade_at (h : DataOk p css) {r : Nat} (hr : r < (p - 1).toNat) : (rowsMade (p - 1).toNat css)[r]?.getD [] = xorOf (rowOf css r) := by
  unfold rowsMade
  rw [List.getElem?_map, List.getElem?_range hr]
  rfl
theorem diagsMade_at (h : DataOk p css) {r : Nat} (hr : r < (p - 1).toNat) : (diagsMade p (p - 1).toNat css)[r]?.getD [] = xorOf ([adjOf p css] ++ diagOf p r css) := by
  unfold diagsMade
  rw [List.getElem?_map, List.getElem?_range hr]
  rfl
theorem rowsMade_len (R : Nat) : (rowsMade R css).length = R := by unfold rowsMade; simp
theorem diagsMade_len (R : Nat) : (diagsMade p R css).length = R := by unfold diagsMade; simp
theorem row_len (h : DataOk p css) {r : Nat} (hr : r < (p - 1).toNat) : (xorOf (rowOf css r)).length = (firstC css).length := xorOf_len_of (rowOf_pos h r) (rowOf_ok h hr)
theorem diag_len (h : DataOk p css) {r : Nat} (hr : (r : Int) < p) : (xorOf ([adjOf p css] ++ diagOf p r css)).length = (firstC css).length := xorOf_len_of (by simp) (adjDiag_ok h hr)
end
end Go.Proofs.YtggdlklkjnbbjaaGreatDoor.E

namespace Go.Proofs.YtggdlklkjnbbjaaGreatDoor.E
open Go.RowKit Go.Shelf Go.Proofs.YtggdlklkjnbbjaaGreatDoor.C
set_option linter.unusedSimpArgs false
set_option linter.unusedVariables false
attribute [local go_sem] Oper.semAt_some

theorem diag_xorOk {p a : Int} {css : List (List (List UInt8))} (h : DataOk p css) (h0 : 0 ≤ a) (h1 : a < p) : XorOk (diagOf p a css) := xorOk_of (diagOf_pos h.1.2 h0 h1) (togOk_first h.2.2) (diagOf_ok h h0 h1)
theorem manyV_nil (B : Nat) (W : World) : ManyV B W (.slice none 0 0) [] [] := ⟨rfl, .inl ⟨rfl, rfl⟩, fun j u h => by cases h⟩
set_option maxRecDepth 100000 in
set_option maxHeartbeats 2000000 in
theorem adjuster_any {B : Nat} (p : Int) (v : Value) (css : List (List (List UInt8))) (hok : DataOk p css) (w : World) (hL : Laid w) (hB : B ≤ w.heap.size) (hC : Cols B w v css) :
    Calls Tryz.prog 43 #[.agg #[.int .i64 p, v]] w fun e w' => ∃ u, e = .returned u ∧ Fresh w.heap.size w' u (xorOf (diagOf p (p - 1) css)) ∧ Below w.heap.size w w' := by
  have hpp := prm_bounds hok.1.2
  obtain ⟨A, cap, rfl, _, _⟩ := id hC
  obtain ⟨W1, hW1⟩ : ∃ W1, w.alloc (.cells #[.int .i64 p, .slice A css.length cap] 65) = W1 := ⟨_, rfl⟩
  have b0 : Blk W1 w.heap.size 65 #[.int .i64 p, .slice A css.length cap] := by rw [← hW1]; exact Blk.new w _ _
  have hBW : Below w.heap.size w W1 := by rw [← hW1]; exact below_one w _
  have hL1 := hL.next hBW
  have hC1 := hC.below (hBW.mono hB)
  have hB1 : B ≤ W1.heap.size := Nat.le_trans hB hBW.size
  have HD := Lib.hid (fun (U : World) => diagonal_any p (p - 1) (.slice A css.length cap) U A css.length cap rfl)
  have HLa := Lib.hid (fun (U : World) => last_any p ⟨by omega, by omega⟩ U)
  have HU := Lib.hid (fun (U : World) => upon_any (.slice none 0 0) U none 0 0 rfl)
  have HC := Lib.hid (fun (U : World) (g h : Nat) (hBU : Below W1.heap.size W1 U) (bg : Blk U g 65 #[.int .i64 p, .slice A css.length cap]) (bh : Blk U h 3 #[.int .i64 (p - 1)]) =>
    collectDiag_any (B := B) g h p (p - 1) (.slice A css.length cap) css hok (by omega) (by omega) U U (Nat.le_trans hB1 hBU.size) (hL1.next hBU) (hC1.below (hBU.mono hB1)) bg bh (Below.refl _ _))
  have HX := Lib.hid (fun (U : World) (vl : Value) (us : List Value) (gU : Nat) (bU : Blk U gU 43 #[.slice none 0 0]) (hM : ManyV U.heap.size U vl us (diagOf p (p - 1) css)) =>
    upon1_yes (B := U.heap.size) (.slice none 0 0) vl [] us [] (diagOf p (p - 1) css) gU U (Nat.le_refl _) bU (manyV_nil _ _) hM (by simp) (by have := @diagOf_len p (p - 1) css; omega) (by rw [List.nil_append]; exact diag_xorOk hok (by omega) (by omega)))
  simp only [List.nil_append] at HX
  have c0 := b0.cell 0
  have c1 := b0.cell 1
  simp only [List.getElem?_toArray, List.getElem?_cons_zero, List.getElem?_cons_succ] at c0 c1
  have hg0 := b0.lt
  clear hC hC1 hL hL1 hok b0 hB hB1
  generalize xorOf (diagOf p (p - 1) css) = xo at *
  generalize diagOf p (p - 1) css = dg at *
  generalize css.length = n at *
  have hw1 : IntKind.i64.wrap (p - 1) = p - 1 := IntWalk.i64_in _ (by omega)
  generalize p - 1 = q at *
  have HPP := Lib.hid hpp
  clear hpp hw1
  go_enter Tryz.func43, Tryz.ntmps43
  go_wp2_with fail
  clear hW1
  go_region_held3 (fun U => U.cell? ⟨w.heap.size, 0, none⟩ = some (.int .i64 p) ∧ U.cell? ⟨w.heap.size, 1, none⟩ = some (.slice A n cap))
    (first | exact ⟨c0, c1⟩ | exact ⟨(hBa.cell (p := ⟨w.heap.size, 0, none⟩) hg0).trans c0, (hBa.cell (p := ⟨w.heap.size, 1, none⟩) hg0).trans c1⟩ | exact ⟨(hBb.cell (p := ⟨w.heap.size, 0, none⟩) hg0).trans c0, (hBb.cell (p := ⟨w.heap.size, 1, none⟩) hg0).trans c1⟩ | exact ⟨(hBc.cell (p := ⟨w.heap.size, 0, none⟩) hg0).trans c0, (hBc.cell (p := ⟨w.heap.size, 1, none⟩) hg0).trans c1⟩ | exact ⟨(hBd.cell (p := ⟨w.heap.size, 0, none⟩) hg0).trans c0, (hBd.cell (p := ⟨w.heap.size, 1, none⟩) hg0).trans c1⟩ | exact ⟨(hBe.cell (p := ⟨w.heap.size, 0, none⟩) hg0).trans c0, (hBe.cell (p := ⟨w.heap.size, 1, none⟩) hg0).trans c1⟩) (first
    | (go_at_call 87; refine (HU.out _).mono ?_; rintro e w1 ⟨rfl, bU, hBx⟩; have hBa : Below W1.heap.size W1 w1 := (by first | exact hBx | exact Below.undrew hBx))
    | (go_at_call 90; refine (HLa.out _).mono ?_; rintro e w2 ⟨rfl, hBx2⟩; have hBb : Below W1.heap.size W1 w2 := below_in hBa hBx2)
    | (go_at_call 89; refine (HD.out _).mono ?_; rintro e w3 ⟨rfl, bg, bh, hBx3⟩; have hBc : Below W1.heap.size W1 w3 := below_in hBb hBx3)
    | (go_at_call 88; refine (HC.out _ _ _ hBc bg bh).mono ?_; rintro e w4 ⟨u, us, rfl, hM, hBx4⟩; have hBd : Below W1.heap.size W1 w4 := below_in hBc hBx4; have bU4 := ((bU.below hBx2 bU.lt).below hBx3 (Nat.lt_of_lt_of_le bU.lt hBx2.size)).below hBx4 (Nat.lt_of_lt_of_le (Nat.lt_of_lt_of_le bU.lt hBx2.size) hBx3.size))
    | (go_at_call 127; refine (HX.out _ _ _ _ bU4 hM).mono ?_; rintro e w5 ⟨x, rfl, hf, hBx5⟩; have hBe : Below W1.heap.size W1 w5 := below_in hBd hBx5))
  all_goals go_wp2
  all_goals go_ret
  all_goals exact ⟨_, rfl, hf.less (Nat.le_trans hBW.size hBd.size), below_in hBW hBe⟩

set_option maxRecDepth 100000 in
set_option maxHeartbeats 2000000 in
theorem encoded2_any {B : Nat} (p : Int) (r : Nat) (css : List (List (List UInt8))) (v vh : Value) (ush : List Value) (hls : List (List UInt8)) (g0 g1 gh : Nat) (W1 : World) (hB : B ≤ W1.heap.size) (hL : Laid W1) (hok : DataOk p css) (hr : (r : Int) < p) (hC : Cols B W1 v css)
    (b0 : Blk W1 g0 99 #[.func (.func 127) #[] #[.pointer (some ⟨gh, 0, none⟩)]]) (b1 : Blk W1 g1 65 #[.int .i64 p, v]) (bh : Blk W1 gh 43 #[vh]) (hh : ManyV B W1 vh ush hls) (hn : hls.length ≤ 80) (hxo : XorOk (hls ++ diagOf p r css)) :
    Calls Tryz.prog 96 #[.int .i64 (r : Int), .pointer (some ⟨g0, 0, none⟩), .pointer (some ⟨g1, 0, none⟩)] W1 fun e w' => ∃ u, e = .returned u ∧ Fresh W1.heap.size w' u (xorOf (hls ++ diagOf p r css)) ∧ Below W1.heap.size W1 w' := by
  have hpp := prm_bounds hok.1.2
  obtain ⟨A, cap, rfl, _, _⟩ := id hC
  have HD := Lib.hid (fun (U : World) => diagonal_any p (r : Int) (.slice A css.length cap) U A css.length cap rfl)
  have HC := Lib.hid (fun (U : World) (g h : Nat) (hBU : Below W1.heap.size W1 U) (bg : Blk U g 65 #[.int .i64 p, .slice A css.length cap]) (bh : Blk U h 3 #[.int .i64 (r : Int)]) =>
    collectDiag_any (B := B) g h p (r : Int) (.slice A css.length cap) css hok (by omega) hr U U (Nat.le_trans hB hBU.size) (hL.next hBU) (hC.below (hBU.mono hB)) bg bh (Below.refl _ _))
  have HX := Lib.hid (fun (U : World) (vl : Value) (us : List Value) (hBU : Below W1.heap.size W1 U) (hM : ManyV U.heap.size U vl us (diagOf p r css)) =>
    upon1_yes (B := U.heap.size) vh vl ush us hls (diagOf p r css) gh U (Nat.le_refl _) (bh.below hBU bh.lt) ((hh.below (hBU.mono hB)).more (Nat.le_trans hB hBU.size)) hM (by omega) (by have := @diagOf_len p r css; omega) hxo)
  have c0 := b0.one
  have c1 := b1.cell 0
  have c2 := b1.cell 1
  simp only [List.getElem?_toArray, List.getElem?_cons_zero, List.getElem?_cons_succ] at c1 c2
  have hg0 := b0.lt
  have hg1 := b1.lt
  clear hC hL hok hxo hh bh b0 b1 hn hr hpp
  generalize xorOf (hls ++ diagOf p r css) = xo at *
  generalize diagOf p r css = dg at *
  generalize css.length = n at *
  clear hls
  go_enter Tryz.func96, Tryz.ntmps96
  go_wp2_with fail
  go_region_held3 (fun U => U.cell? ⟨g0, 0, none⟩ = some (.func (.func 127) #[] #[.pointer (some ⟨gh, 0, none⟩)]) ∧ U.cell? ⟨g1, 0, none⟩ = some (.int .i64 p) ∧ U.cell? ⟨g1, 1, none⟩ = some (.slice A n cap))
    (first | exact ⟨c0, c1, c2⟩ | exact ⟨(hBc.cell (p := ⟨g0, 0, none⟩) hg0).trans c0, (hBc.cell (p := ⟨g1, 0, none⟩) hg1).trans c1, (hBc.cell (p := ⟨g1, 1, none⟩) hg1).trans c2⟩ | exact ⟨(hBd.cell (p := ⟨g0, 0, none⟩) hg0).trans c0, (hBd.cell (p := ⟨g1, 0, none⟩) hg1).trans c1, (hBd.cell (p := ⟨g1, 1, none⟩) hg1).trans c2⟩ | exact ⟨(hBe.cell (p := ⟨g0, 0, none⟩) hg0).trans c0, (hBe.cell (p := ⟨g1, 0, none⟩) hg1).trans c1, (hBe.cell (p := ⟨g1, 1, none⟩) hg1).trans c2⟩) (first
    | (go_at_call 89; refine (HD.out _).mono ?_; rintro e w3 ⟨rfl, bg, bh, hBx⟩; have hBc : Below W1.heap.size W1 w3 := (by first | exact hBx | exact Below.undrew hBx))
    | (go_at_call 88; refine (HC.out _ _ _ hBc bg bh).mono ?_; rintro e w4 ⟨u, us, rfl, hM, hBx4⟩; have hBd : Below W1.heap.size W1 w4 := below_in hBc hBx4)
    | (go_at_call 127; refine (HX.out _ _ _ hBd hM).mono ?_; rintro e w5 ⟨x, rfl, hf, hBx5⟩; have hBe : Below W1.heap.size W1 w5 := below_in hBd hBx5))
  all_goals go_wp2
  all_goals go_ret
  all_goals exact ⟨_, rfl, hf.less hBd.size, hBe⟩
end Go.Proofs.YtggdlklkjnbbjaaGreatDoor.E

namespace Go.Proofs.YtggdlklkjnbbjaaGreatDoor.E
open Go.RowKit Go.Shelf Go.Proofs.YtggdlklkjnbbjaaGreatDoor.C
set_option linter.unusedSimpArgs false
set_option linter.unusedVariables false
attribute [local go_sem] Oper.semAt_some

/-- What stands in the slots of encoded's first statement, by which of its operations are done. -/
structure EncF (p : Int) (v : Value) (adj : List UInt8) (w0 : World) (b : Nat → Bool) (x3 x4 x5 x6 x7 x8 x9 : Value) (w : World) : Prop where
  hB : Below w0.heap.size w0 w
  f0 : b 0 = true → ∃ c, x5 = .func (.func 127) #[] #[.pointer (some ⟨c, 0, none⟩)] ∧ w0.heap.size ≤ c ∧ Blk w c 43 #[.slice none 0 0]
  f1 : b 1 = true → x6 = .agg #[.int .i64 p, v]
  f2 : b 2 = true → Fresh w0.heap.size w x7 adj
  f3 : b 3 = true → ∃ c, x8 = .slice (some ⟨c, 0, none⟩) 1 1 ∧ w0.heap.size ≤ c ∧ Blk w c 25 #[x7]
  f4 : b 4 = true → ∃ c, x9 = .func (.func 127) #[] #[.pointer (some ⟨c, 0, none⟩)] ∧ w0.heap.size ≤ c ∧ Blk w c 43 #[x8]
  f5 : b 5 = true → ∃ c y, x3 = .pointer (some ⟨c, 0, none⟩) ∧ w0.heap.size ≤ c ∧ Blk w c 99 #[y] ∧ (∀ k n, y ≠ .int k n) ∧ (b 7 = true → y = x5)
  f6 : b 6 = true → ∃ c y, x4 = .pointer (some ⟨c, 0, none⟩) ∧ w0.heap.size ≤ c ∧ Blk w c 99 #[y] ∧ (∀ k n, y ≠ .int k n) ∧ (b 8 = true → y = x9)
  fd : b 5 = true → b 6 = true → x3 ≠ x4
  c32 : b 3 = true → b 2 = true
  c43 : b 4 = true → b 3 = true
  c7 : b 7 = true → b 5 = true ∧ b 0 = true
  c8 : b 8 = true → b 6 = true ∧ b 4 = true
theorem EncF.below {p : Int} {v : Value} {adj : List UInt8} {w0 : World} {b : Nat → Bool} {x3 x4 x5 x6 x7 x8 x9 : Value} {w w' : World} (h : EncF p v adj w0 b x3 x4 x5 x6 x7 x8 x9 w) (hb : Below w.heap.size w w') : EncF p v adj w0 b x3 x4 x5 x6 x7 x8 x9 w' where
  hB := h.hB.trans (hb.mono h.hB.size)
  f0 := fun e => by obtain ⟨c, h1, h2, h3⟩ := h.f0 e; exact ⟨c, h1, h2, h3.below hb h3.lt⟩
  f1 := h.f1
  f2 := fun e => (h.f2 e).below hb
  f3 := fun e => by obtain ⟨c, h1, h2, h3⟩ := h.f3 e; exact ⟨c, h1, h2, h3.below hb h3.lt⟩
  f4 := fun e => by obtain ⟨c, h1, h2, h3⟩ := h.f4 e; exact ⟨c, h1, h2, h3.below hb h3.lt⟩
  f5 := fun e => by obtain ⟨c, y, h1, h2, h3, h4⟩ := h.f5 e; exact ⟨c, y, h1, h2, h3.below hb h3.lt, h4⟩
  f6 := fun e => by obtain ⟨c, y, h1, h2, h3, h4⟩ := h.f6 e; exact ⟨c, y, h1, h2, h3.below hb h3.lt, h4⟩
  fd := h.fd
  c32 := h.c32
  c43 := h.c43
  c7 := h.c7
  c8 := h.c8
theorem Blk.ne_type {w : World} {b b' : Nat} {t t' : TypeId} {cs cs' : Array Value} (h : Blk w b t cs) (h' : Blk w b' t' cs') (ht : t ≠ t') : b ≠ b' := by
  intro e
  subst e
  unfold Blk at h h'
  rw [h] at h'
  cases h'
  exact ht rfl
theorem Fresh.far_blk {w : World} {base b : Nat} {t : TypeId} {x : Value} {v : Value} {l : List UInt8} (h : Fresh base w v l) (h' : Blk w b t #[x]) (hx : ∀ k n, x ≠ .int k n) (u : Value) : Fresh base (w.setCell ⟨b, 0, none⟩ u) v l := by
  obtain ⟨A, cap, e, hc, hA⟩ := h
  refine ⟨A, cap, e, hc, fun hp => ?_⟩
  obtain ⟨b2, off, e2, hb1, hb2, hcell⟩ := hA hp
  have hne : b2 ≠ b := fun e => by
    subst e
    have h1 := hcell 0 hp
    rw [Nat.add_zero, h'.cell off] at h1
    cases off with
    | zero => simp at h1; exact hx _ _ h1
    | succ k => simp at h1
  exact ⟨b2, off, e2, hb1, by simpa using hb2, fun j hj => (World.cell?_of_block (Below.heap_setCell w ⟨b, 0, none⟩ u b2 hne)).trans (hcell j hj)⟩
def EncI (g0 : Nat) (p : Int) (v : Value) (adj : List UInt8) (w0 : World) (l : Array Bool) (a : Act) (w : World) : Prop :=
  ∃ x3 x4 x5 x6 x7 x8 x9 : Value, a = { tmps := #[.agg #[.int .i64 p, v], .pointer (some ⟨g0, 0, none⟩), .slice none 0 0, x3, x4, x5, x6, x7, x8, x9, undef, undef, undef, undef, undef, undef, undef, undef, undef, undef, undef], defers := [] } ∧ EncF p v adj w0 (fun j => l.getD j false) x3 x4 x5 x6 x7 x8 x9 w
theorem not_yet {ops : Array Oper} {md : Region.Mode} {listed : Array Bool} {i : Nat} (h : i ∈ Region.ready md ops listed) : listed.getD i false = false := by
  have h1 := (mem_ready.1 h).1
  rcases Nat.lt_or_ge i listed.size with h' | h'
  · simp [h'] at h1 ⊢
    exact h1
  · simp [Array.getElem?_eq_none h'] at h1

theorem Fresh.toP2 {base : Nat} {B : Nat} {W : World} {v : Value} {l : List UInt8} (h : Fresh base W v l) : BytesP (fun b => (b < B ∨ base ≤ b) ∧ b < W.heap.size) W v l := by
  obtain ⟨A, cap, e, hc, hA⟩ := h
  exact ⟨A, cap, e, hc, fun hp => by obtain ⟨b, off, e2, h1, h2, h3⟩ := hA hp; exact ⟨b, off, e2, ⟨.inr h1, h2⟩, h3⟩⟩
theorem Cols.more {B B' : Nat} {W : World} {v : Value} {css : List (List (List UInt8))} (h : Cols B W v css) (hB : B ≤ B') : Cols B' W v css := by
  obtain ⟨A, cap, e, hc, hA⟩ := h
  refine ⟨A, cap, e, hc, fun hp => ?_⟩
  obtain ⟨b, off, e2, hb, hcell⟩ := hA hp
  exact ⟨b, off, e2, by omega, fun j hj => by obtain ⟨u, h1, h2⟩ := hcell j hj; exact ⟨u, h1, h2.more hB⟩⟩
theorem enter_e1 : ∀ args W, (callFunc 94 args).run Tryz.prog W = .ok (.enter 94 args) W := enters_of Tryz.func94 (by kernel_rfl) rfl
theorem enter_e2 : ∀ args W, (callFunc 96 args).run Tryz.prog W = .ok (.enter 96 args) W := enters_of Tryz.func96 (by kernel_rfl) rfl
theorem makes_rows {B : Nat} (p : Int) (v : Value) (css : List (List (List UInt8))) (hok : DataOk p css) (w : World) (hB : B ≤ w.heap.size) (hC : Cols B w v css) (g3 g0 g5 : Nat) (b3 : Blk w g3 99 #[.func (.func 127) #[] #[.pointer (some ⟨g5, 0, none⟩)]]) (b0 : Blk w g0 65 #[.int .i64 p, v]) (b5 : Blk w g5 43 #[.slice none 0 0]) :
    Makes 94 #[.pointer (some ⟨g3, 0, none⟩), .pointer (some ⟨g0, 0, none⟩)] (rowsMade (p - 1).toNat css) w := by
  have hd := dataOk_n hok
  refine ⟨enter_e1, fun r W hr hBW => ?_⟩
  rw [rowsMade_len] at hr
  have hx : XorOk ([] ++ rowOf css r) := by rw [List.nil_append]; exact xorOk_of (rowOf_pos hok r) (togOk_first hok.2.2) (rowOf_ok hok hr)
  refine (encoded1_any (B := B) p (p - 1).toNat r css v (.slice none 0 0) [] [] g3 g0 g5 W (Nat.le_trans hB hBW.size) (hC.below (hBW.mono hB)) hr (by omega) (by omega) (by omega) (fun j hj => (hok.2.2.2 j hj).1) (b3.below hBW b3.lt) (b0.below hBW b0.lt) (b5.below hBW b5.lt) (manyV_nil _ _) (by simp) hx).mono ?_
  rintro e w' ⟨u, rfl, hf, hB1⟩
  rw [List.nil_append] at hf
  refine ⟨u, rfl, ?_, hB1⟩
  rw [rowsMade_at hok hr]
  exact Fresh.toP2 hf
theorem makes_diags {B base : Nat} (p : Int) (v : Value) (css : List (List (List UInt8))) (hok : DataOk p css) (w : World) (hL : Laid w) (hB : B ≤ w.heap.size) (hC : Cols B w v css) (g4 g0 g9 g8 : Nat) (x7 : Value) (b4 : Blk w g4 99 #[.func (.func 127) #[] #[.pointer (some ⟨g9, 0, none⟩)]]) (b0 : Blk w g0 65 #[.int .i64 p, v]) (b9 : Blk w g9 43 #[.slice (some ⟨g8, 0, none⟩) 1 1]) (b8 : Blk w g8 25 #[x7]) (hx7 : Fresh base w x7 (adjOf p css)) :
    Makes 96 #[.pointer (some ⟨g4, 0, none⟩), .pointer (some ⟨g0, 0, none⟩)] (diagsMade p (p - 1).toNat css) w := by
  have hd := dataOk_n hok
  refine ⟨enter_e2, fun r W hr hBW => ?_⟩
  rw [diagsMade_len] at hr
  have hx : XorOk ([adjOf p css] ++ diagOf p r css) := xorOk_of (by simp) (togOk_first hok.2.2) (adjDiag_ok hok (by omega))
  have hh : ManyV w.heap.size w (.slice (some ⟨g8, 0, none⟩) 1 1) [x7] [adjOf p css] := by
    refine ⟨rfl, .inr ⟨g8, 0, 1, rfl, Nat.le_refl _, b8.lt, fun j u hu => ?_⟩, fun j u hu => ?_⟩
    · rw [Nat.zero_add, b8.cell j, List.getElem?_toArray]
      exact hu
    · cases j with
      | zero => cases hu; exact hx7.bytes
      | succ j => simp at hu
  refine (encoded2_any (B := w.heap.size) p r css v _ [x7] [adjOf p css] g4 g0 g9 W hBW.size (hL.next hBW) hok (by omega) ((hC.more hB).below hBW) (b4.below hBW b4.lt) (b0.below hBW b0.lt) (b9.below hBW b9.lt) (hh.below hBW) (by simp) hx).mono ?_
  rintro e w' ⟨u, rfl, hf, hB1⟩
  refine ⟨u, rfl, ?_, hB1⟩
  rw [diagsMade_at hok hr]
  exact Fresh.toP2 hf

set_option maxRecDepth 100000 in
set_option maxHeartbeats 4000000 in
theorem encoded_any {B : Nat} (p : Int) (v : Value) (css : List (List (List UInt8))) (hok : DataOk p css) (w : World) (hL : Laid w) (hB : B ≤ w.heap.size) (hC : Cols B w v css) :
    Calls Tryz.prog 46 #[.agg #[.int .i64 p, v]] w fun e w' => ∃ u, e = .returned u ∧ Cols w'.heap.size w' u (encOf p css) ∧ Below w.heap.size w w' := by
  have hpp := prm_bounds hok.1.2
  obtain ⟨A, cap, rfl, _, _⟩ := id hC
  obtain ⟨n, hn⟩ : ∃ n, css.length = n := ⟨_, rfl⟩
  rw [hn]
  rw [hn] at hC
  obtain ⟨W1, hW1⟩ : ∃ W1, w.alloc (.cells #[.int .i64 p, .slice A n cap] 65) = W1 := ⟨_, rfl⟩
  have b0 : Blk W1 w.heap.size 65 #[.int .i64 p, .slice A n cap] := by rw [← hW1]; exact Blk.new w _ _
  have hBW : Below w.heap.size w W1 := by rw [← hW1]; exact below_one w _
  have hL1 := hL.next hBW
  have hC1 := hC.below (hBW.mono hB)
  have hB1 : B ≤ W1.heap.size := Nat.le_trans hB hBW.size
  have HU := Lib.hid (fun (U : World) => upon_any (.slice none 0 0) U none 0 0 rfl)
  have HV := Lib.hid (fun (U : World) (c : Nat) => upon_any (.slice (some ⟨c, 0, none⟩) 1 1) U (some ⟨c, 0, none⟩) 1 1 rfl)
  have HA := Lib.hid (fun (U : World) (hU : Below W1.heap.size W1 U) => adjuster_any p (.slice A n cap) css hok U (hL1.next hU) (Nat.le_trans hB1 hU.size) (hC1.below (hU.mono hB1)))
  rw [show xorOf (diagOf p (p - 1) css) = adjOf p css from rfl] at HA
  have HM1 := Lib.hid (fun (U : World) (hU : Below W1.heap.size W1 U) => hC1.below (hU.mono hB1))
  have hadl := adjOf_len hok
  have hfl := togOk_first hok.2.2
  have HOK := Lib.hid hok
  have hok0 := Lib.hid hok
  have HADL := Lib.hid hadl
  clear hadl hok hC hC1 hfl hn
  refine (callsIn_wide (n := 9)).1 ?_
  refine callsIn_of_wp_marks Tryz.func46 rfl trivial ?_ rfl
  simp only [Tryz.ntmps46, List.size_toArray, List.length_cons, List.length_nil, Nat.reduceAdd, Nat.reduceSub, Array.replicate_succ, Array.replicate_zero, List.push_toArray, List.append_toArray, List.nil_append, List.cons_append]
  gi_wp2_with fail
  clear hW1
  generalize hadj : adjOf p css = adj at *
  have bg := b0
  refine region_inv (by kernel_rfl) (by kernel_rfl) (EncI w.heap.size p (.slice A n cap) adj W1) ?start ?step ?fin
  case start =>
    exact ⟨undef, undef, undef, undef, undef, undef, undef, rfl, ⟨(Below.refl _ _).drew, fun h => by simp at h, fun h => by simp at h, fun h => by simp at h, fun h => by simp at h, fun h => by simp at h, fun h => by simp at h, fun h => by simp at h, fun h => by simp at h, fun h => by simp at h, fun h => by simp at h, fun h => by simp at h, fun h => by simp at h⟩⟩
  case step =>
    rintro i listed a w hi ⟨x3, x4, x5, x6, x7, x8, x9, rfl, hF⟩
    have hi9 : i < 9 := List.mem_range.1 (List.mem_filter.1 hi).1
    obtain rfl | rfl | rfl | rfl | rfl | rfl | rfl | rfl | rfl : i = 0 ∨ i = 1 ∨ i = 2 ∨ i = 3 ∨ i = 4 ∨ i = 5 ∨ i = 6 ∨ i = 7 ∨ i = 8 := by omega
    · -- operation 0
      have e1 : (listed.setIfInBounds 0 true).getD 1 false = listed.getD 1 false := listed_ne (by decide)
      have e2 : (listed.setIfInBounds 0 true).getD 2 false = listed.getD 2 false := listed_ne (by decide)
      have e3 : (listed.setIfInBounds 0 true).getD 3 false = listed.getD 3 false := listed_ne (by decide)
      have e4 : (listed.setIfInBounds 0 true).getD 4 false = listed.getD 4 false := listed_ne (by decide)
      have e5 : (listed.setIfInBounds 0 true).getD 5 false = listed.getD 5 false := listed_ne (by decide)
      have e6 : (listed.setIfInBounds 0 true).getD 6 false = listed.getD 6 false := listed_ne (by decide)
      have e7 : (listed.setIfInBounds 0 true).getD 7 false = listed.getD 7 false := listed_ne (by decide)
      have e8 : (listed.setIfInBounds 0 true).getD 8 false = listed.getD 8 false := listed_ne (by decide)
      have en := not_yet hi
      refine wpOpIn_one rfl rfl ?_
      gi_wp2_with fail
      refine ⟨trivial, (callsIn_wide.2 (HU.out _)).mono ?_⟩
      rintro e w1 ⟨rfl, bU, hB1⟩
      have hs := hF.hB.size
      have hf := hF.below hB1
      gi_wp2
      exact ⟨_, _, _, _, _, _, _, rfl, { hB := hf.hB, f0 := (fun _ => ⟨_, rfl, hs, bU⟩), f1 := (by simpa only [e1] using hf.f1), f2 := (by simpa only [e2] using hf.f2), f3 := (by simpa only [e3] using hf.f3), f4 := (by simpa only [e4] using hf.f4), f5 := (fun h => by rw [e5] at h; obtain ⟨c, y, h1, h2, h3, h4, _⟩ := hf.f5 h; exact ⟨c, y, h1, h2, h3, h4, fun h7 => by rw [e7] at h7; have := (hf.c7 h7).2; rw [en] at this; cases this⟩), f6 := (by simpa only [e6, e8] using hf.f6), fd := (by simpa only [e5, e6] using hf.fd), c32 := (by simpa only [e3, e2] using hf.c32), c43 := (by simpa only [e4, e3] using hf.c43), c7 := (fun h => by rw [e7] at h; have := (hf.c7 h).2; rw [en] at this; cases this), c8 := (by simpa only [e8, e6, e4] using hf.c8) }⟩
    · -- operation 1
      have e0 : (listed.setIfInBounds 1 true).getD 0 false = listed.getD 0 false := listed_ne (by decide)
      have e2 : (listed.setIfInBounds 1 true).getD 2 false = listed.getD 2 false := listed_ne (by decide)
      have e3 : (listed.setIfInBounds 1 true).getD 3 false = listed.getD 3 false := listed_ne (by decide)
      have e4 : (listed.setIfInBounds 1 true).getD 4 false = listed.getD 4 false := listed_ne (by decide)
      have e5 : (listed.setIfInBounds 1 true).getD 5 false = listed.getD 5 false := listed_ne (by decide)
      have e6 : (listed.setIfInBounds 1 true).getD 6 false = listed.getD 6 false := listed_ne (by decide)
      have e7 : (listed.setIfInBounds 1 true).getD 7 false = listed.getD 7 false := listed_ne (by decide)
      have e8 : (listed.setIfInBounds 1 true).getD 8 false = listed.getD 8 false := listed_ne (by decide)
      have en := not_yet hi
      refine wpOpIn_one rfl rfl ?_
      have bgw := bg.below hF.hB bg.lt
      have c0 := bgw.cell 0
      have c1 := bgw.cell 1
      simp only [List.getElem?_toArray, List.getElem?_cons_zero, List.getElem?_cons_succ] at c0 c1
      have hf := hF
      gi_wp2
      exact ⟨_, _, _, _, _, _, _, rfl, { hB := hf.hB, f0 := (by simpa only [e0] using hf.f0), f1 := (fun _ => rfl), f2 := (by simpa only [e2] using hf.f2), f3 := (by simpa only [e3] using hf.f3), f4 := (by simpa only [e4] using hf.f4), f5 := (by simpa only [e5, e7] using hf.f5), f6 := (by simpa only [e6, e8] using hf.f6), fd := (by simpa only [e5, e6] using hf.fd), c32 := (by simpa only [e3, e2] using hf.c32), c43 := (by simpa only [e4, e3] using hf.c43), c7 := (by simpa only [e7, e5, e0] using hf.c7), c8 := (by simpa only [e8, e6, e4] using hf.c8) }⟩
    · -- operation 2
      have e0 : (listed.setIfInBounds 2 true).getD 0 false = listed.getD 0 false := listed_ne (by decide)
      have e1 : (listed.setIfInBounds 2 true).getD 1 false = listed.getD 1 false := listed_ne (by decide)
      have e3 : (listed.setIfInBounds 2 true).getD 3 false = listed.getD 3 false := listed_ne (by decide)
      have e4 : (listed.setIfInBounds 2 true).getD 4 false = listed.getD 4 false := listed_ne (by decide)
      have e5 : (listed.setIfInBounds 2 true).getD 5 false = listed.getD 5 false := listed_ne (by decide)
      have e6 : (listed.setIfInBounds 2 true).getD 6 false = listed.getD 6 false := listed_ne (by decide)
      have e7 : (listed.setIfInBounds 2 true).getD 7 false = listed.getD 7 false := listed_ne (by decide)
      have e8 : (listed.setIfInBounds 2 true).getD 8 false = listed.getD 8 false := listed_ne (by decide)
      have en := not_yet hi
      refine wpOpIn_one rfl rfl ?_
      have hp := ready_on hi rfl [1] (by kernel_rfl)
      obtain rfl := hF.f1 (hp 1 (by simp))
      gi_wp2_with fail
      refine ⟨trivial, (callsIn_wide.2 (HA.out _ hF.hB)).mono ?_⟩
      rintro e w1 ⟨u, rfl, hu, hB1⟩
      have hs := hF.hB.size
      have hf := hF.below hB1
      gi_wp2
      exact ⟨_, _, _, _, _, _, _, rfl, { hB := hf.hB, f0 := (by simpa only [e0] using hf.f0), f1 := (by simpa only [e1] using hf.f1), f2 := (fun _ => hu.less hs), f3 := (fun h => by rw [e3] at h; have := hf.c32 h; rw [en] at this; cases this), f4 := (by simpa only [e4] using hf.f4), f5 := (by simpa only [e5, e7] using hf.f5), f6 := (by simpa only [e6, e8] using hf.f6), fd := (by simpa only [e5, e6] using hf.fd), c32 := (fun h => by rw [e3] at h; have := hf.c32 h; rw [en] at this; cases this), c43 := (by simpa only [e4, e3] using hf.c43), c7 := (by simpa only [e7, e5, e0] using hf.c7), c8 := (by simpa only [e8, e6, e4] using hf.c8) }⟩
    · -- operation 3
      have e0 : (listed.setIfInBounds 3 true).getD 0 false = listed.getD 0 false := listed_ne (by decide)
      have e1 : (listed.setIfInBounds 3 true).getD 1 false = listed.getD 1 false := listed_ne (by decide)
      have e2 : (listed.setIfInBounds 3 true).getD 2 false = listed.getD 2 false := listed_ne (by decide)
      have e4 : (listed.setIfInBounds 3 true).getD 4 false = listed.getD 4 false := listed_ne (by decide)
      have e5 : (listed.setIfInBounds 3 true).getD 5 false = listed.getD 5 false := listed_ne (by decide)
      have e6 : (listed.setIfInBounds 3 true).getD 6 false = listed.getD 6 false := listed_ne (by decide)
      have e7 : (listed.setIfInBounds 3 true).getD 7 false = listed.getD 7 false := listed_ne (by decide)
      have e8 : (listed.setIfInBounds 3 true).getD 8 false = listed.getD 8 false := listed_ne (by decide)
      have en := not_yet hi
      refine wpOpIn_one rfl rfl ?_
      have hp := ready_on hi rfl [2] (by kernel_rfl)
      obtain ⟨A7, n7, hx7, _⟩ := id (hF.f2 (hp 2 (by simp)))
      subst hx7
      have hs := hF.hB.size
      have hf := hF.below (below_one w (.cells #[.slice A7 adj.length n7] 25))
      have bx := Blk.new w 25 #[.slice A7 adj.length n7]
      gi_wp2
      exact ⟨_, _, _, _, _, _, _, rfl, { hB := hf.hB, f0 := (by simpa only [e0] using hf.f0), f1 := (by simpa only [e1] using hf.f1), f2 := (by simpa only [e2] using hf.f2), f3 := (fun _ => ⟨_, rfl, hs, bx⟩), f4 := (fun h => by rw [e4] at h; have := hf.c43 h; rw [en] at this; cases this), f5 := (by simpa only [e5, e7] using hf.f5), f6 := (by simpa only [e6, e8] using hf.f6), fd := (by simpa only [e5, e6] using hf.fd), c32 := (fun _ => by rw [e2]; exact hp 2 (by simp)), c43 := (fun h => by rw [e4] at h; have := hf.c43 h; rw [en] at this; cases this), c7 := (by simpa only [e7, e5, e0] using hf.c7), c8 := (by simpa only [e8, e6, e4] using hf.c8) }⟩
    · -- operation 4
      have e0 : (listed.setIfInBounds 4 true).getD 0 false = listed.getD 0 false := listed_ne (by decide)
      have e1 : (listed.setIfInBounds 4 true).getD 1 false = listed.getD 1 false := listed_ne (by decide)
      have e2 : (listed.setIfInBounds 4 true).getD 2 false = listed.getD 2 false := listed_ne (by decide)
      have e3 : (listed.setIfInBounds 4 true).getD 3 false = listed.getD 3 false := listed_ne (by decide)
      have e5 : (listed.setIfInBounds 4 true).getD 5 false = listed.getD 5 false := listed_ne (by decide)
      have e6 : (listed.setIfInBounds 4 true).getD 6 false = listed.getD 6 false := listed_ne (by decide)
      have e7 : (listed.setIfInBounds 4 true).getD 7 false = listed.getD 7 false := listed_ne (by decide)
      have e8 : (listed.setIfInBounds 4 true).getD 8 false = listed.getD 8 false := listed_ne (by decide)
      have en := not_yet hi
      refine wpOpIn_one rfl rfl ?_
      have hp := ready_on hi rfl [3] (by kernel_rfl)
      obtain ⟨c8, hx8, _, _⟩ := id (hF.f3 (hp 3 (by simp)))
      subst hx8
      gi_wp2_with fail
      refine ⟨trivial, (callsIn_wide.2 (HV.out _ _)).mono ?_⟩
      rintro e w1 ⟨rfl, bU, hB1⟩
      have hs := hF.hB.size
      have hf := hF.below hB1
      gi_wp2
      exact ⟨_, _, _, _, _, _, _, rfl, { hB := hf.hB, f0 := (by simpa only [e0] using hf.f0), f1 := (by simpa only [e1] using hf.f1), f2 := (by simpa only [e2] using hf.f2), f3 := (by simpa only [e3] using hf.f3), f4 := (fun _ => ⟨_, rfl, hs, bU⟩), f5 := (by simpa only [e5, e7] using hf.f5), f6 := (fun h => by rw [e6] at h; obtain ⟨c, y, h1, h2, h3, h4, _⟩ := hf.f6 h; exact ⟨c, y, h1, h2, h3, h4, fun h7 => by rw [e8] at h7; have := (hf.c8 h7).2; rw [en] at this; cases this⟩), fd := (by simpa only [e5, e6] using hf.fd), c32 := (by simpa only [e3, e2] using hf.c32), c43 := (fun _ => by rw [e3]; exact hp 3 (by simp)), c7 := (by simpa only [e7, e5, e0] using hf.c7), c8 := (fun h => by rw [e8] at h; have := (hf.c8 h).2; rw [en] at this; cases this) }⟩
    · -- operation 5
      have e0 : (listed.setIfInBounds 5 true).getD 0 false = listed.getD 0 false := listed_ne (by decide)
      have e1 : (listed.setIfInBounds 5 true).getD 1 false = listed.getD 1 false := listed_ne (by decide)
      have e2 : (listed.setIfInBounds 5 true).getD 2 false = listed.getD 2 false := listed_ne (by decide)
      have e3 : (listed.setIfInBounds 5 true).getD 3 false = listed.getD 3 false := listed_ne (by decide)
      have e4 : (listed.setIfInBounds 5 true).getD 4 false = listed.getD 4 false := listed_ne (by decide)
      have e6 : (listed.setIfInBounds 5 true).getD 6 false = listed.getD 6 false := listed_ne (by decide)
      have e7 : (listed.setIfInBounds 5 true).getD 7 false = listed.getD 7 false := listed_ne (by decide)
      have e8 : (listed.setIfInBounds 5 true).getD 8 false = listed.getD 8 false := listed_ne (by decide)
      have en := not_yet hi
      refine wpOpIn_one rfl rfl ?_
      have hs := hF.hB.size
      have hf := hF.below (below_one w (.cells #[Value.nilFunc] 99))
      have bx := Blk.new w 99 #[Value.nilFunc]
      gi_wp2
      exact ⟨_, _, _, _, _, _, _, rfl, { hB := hf.hB, f0 := (by simpa only [e0] using hf.f0), f1 := (by simpa only [e1] using hf.f1), f2 := (by simpa only [e2] using hf.f2), f3 := (by simpa only [e3] using hf.f3), f4 := (by simpa only [e4] using hf.f4), f5 := (fun _ => ⟨_, _, rfl, hs, bx, fun _ _ h => (by cases h), fun h => by rw [e7] at h; have := (hf.c7 h).1; rw [en] at this; cases this⟩), f6 := (by simpa only [e6, e8] using hf.f6), fd := (fun _ h => by rw [e6] at h; obtain ⟨c, y, h1, _, h3, _⟩ := hF.f6 h; rw [h1]; intro e; injection e with e; injection e with e; injection e with e; have := h3.lt; omega), c32 := (by simpa only [e3, e2] using hf.c32), c43 := (by simpa only [e4, e3] using hf.c43), c7 := (fun h => by rw [e7] at h; have := (hf.c7 h).1; rw [en] at this; cases this), c8 := (by simpa only [e8, e6, e4] using hf.c8) }⟩
    · -- operation 6
      have e0 : (listed.setIfInBounds 6 true).getD 0 false = listed.getD 0 false := listed_ne (by decide)
      have e1 : (listed.setIfInBounds 6 true).getD 1 false = listed.getD 1 false := listed_ne (by decide)
      have e2 : (listed.setIfInBounds 6 true).getD 2 false = listed.getD 2 false := listed_ne (by decide)
      have e3 : (listed.setIfInBounds 6 true).getD 3 false = listed.getD 3 false := listed_ne (by decide)
      have e4 : (listed.setIfInBounds 6 true).getD 4 false = listed.getD 4 false := listed_ne (by decide)
      have e5 : (listed.setIfInBounds 6 true).getD 5 false = listed.getD 5 false := listed_ne (by decide)
      have e7 : (listed.setIfInBounds 6 true).getD 7 false = listed.getD 7 false := listed_ne (by decide)
      have e8 : (listed.setIfInBounds 6 true).getD 8 false = listed.getD 8 false := listed_ne (by decide)
      have en := not_yet hi
      refine wpOpIn_one rfl rfl ?_
      have hs := hF.hB.size
      have hf := hF.below (below_one w (.cells #[Value.nilFunc] 99))
      have bx := Blk.new w 99 #[Value.nilFunc]
      gi_wp2
      exact ⟨_, _, _, _, _, _, _, rfl, { hB := hf.hB, f0 := (by simpa only [e0] using hf.f0), f1 := (by simpa only [e1] using hf.f1), f2 := (by simpa only [e2] using hf.f2), f3 := (by simpa only [e3] using hf.f3), f4 := (by simpa only [e4] using hf.f4), f5 := (by simpa only [e5, e7] using hf.f5), f6 := (fun _ => ⟨_, _, rfl, hs, bx, fun _ _ h => (by cases h), fun h => by rw [e8] at h; have := (hf.c8 h).1; rw [en] at this; cases this⟩), fd := (fun h _ => by rw [e5] at h; obtain ⟨c, y, h1, _, h3, _⟩ := hF.f5 h; rw [h1]; intro e; injection e with e; injection e with e; injection e with e; have := h3.lt; omega), c32 := (by simpa only [e3, e2] using hf.c32), c43 := (by simpa only [e4, e3] using hf.c43), c7 := (by simpa only [e7, e5, e0] using hf.c7), c8 := (fun h => by rw [e8] at h; have := (hf.c8 h).1; rw [en] at this; cases this) }⟩
    · -- operation 7
      have e0 : (listed.setIfInBounds 7 true).getD 0 false = listed.getD 0 false := listed_ne (by decide)
      have e1 : (listed.setIfInBounds 7 true).getD 1 false = listed.getD 1 false := listed_ne (by decide)
      have e2 : (listed.setIfInBounds 7 true).getD 2 false = listed.getD 2 false := listed_ne (by decide)
      have e3 : (listed.setIfInBounds 7 true).getD 3 false = listed.getD 3 false := listed_ne (by decide)
      have e4 : (listed.setIfInBounds 7 true).getD 4 false = listed.getD 4 false := listed_ne (by decide)
      have e5 : (listed.setIfInBounds 7 true).getD 5 false = listed.getD 5 false := listed_ne (by decide)
      have e6 : (listed.setIfInBounds 7 true).getD 6 false = listed.getD 6 false := listed_ne (by decide)
      have e8 : (listed.setIfInBounds 7 true).getD 8 false = listed.getD 8 false := listed_ne (by decide)
      have en := not_yet hi
      refine wpOpIn_one rfl rfl ?_
      have hp := ready_on hi rfl [0, 4, 5, 6] (by kernel_rfl)
      obtain ⟨c, y, hx, hc, hy, hyn, _⟩ := hF.f5 (hp 5 (by simp))
      obtain ⟨cs, hsv, _, _⟩ := id (hF.f0 (hp 0 (by simp)))
      obtain ⟨cz, yz, hxz, _, hyz, _, _⟩ := id (hF.f6 (hp 6 (by simp)))
      subst hxz
      have hne := hF.fd (hp 5 (by simp)) (hp 6 (by simp))
      subst hx
      subst hsv
      have hcz : c ≠ cz := fun e => hne (by rw [e])
      have cy := hy.one
      have fy := hy.frozen 0
      have hf := hF
      gi_wp2
      exact ⟨_, _, _, _, _, _, _, rfl, { hB := hf.hB.setCell hc _, f0 := (fun h => by rw [e0] at h; obtain ⟨d, h1, h2, h3⟩ := hf.f0 h; exact ⟨d, h1, h2, h3.far (Blk.ne_type h3 hy (by decide)) _⟩), f1 := (by simpa only [e1] using hf.f1), f2 := (fun h => by rw [e2] at h; exact Fresh.far_blk (hf.f2 h) hy hyn _), f3 := (fun h => by rw [e3] at h; obtain ⟨d, h1, h2, h3⟩ := hf.f3 h; exact ⟨d, h1, h2, h3.far (Blk.ne_type h3 hy (by decide)) _⟩), f4 := (fun h => by rw [e4] at h; obtain ⟨d, h1, h2, h3⟩ := hf.f4 h; exact ⟨d, h1, h2, h3.far (Blk.ne_type h3 hy (by decide)) _⟩), f5 := (fun _ => ⟨c, _, rfl, hc, hy.set_ 0 _, fun _ _ h => (by cases h), fun _ => rfl⟩), f6 := (fun h => by rw [e6] at h; obtain ⟨d, z, h1, h2, h3, h4, h5⟩ := hf.f6 h; have hdc : d = cz := (by injection h1 with h1; injection h1 with h1; injection h1 with h1; exact h1.symm); subst hdc; exact ⟨d, z, rfl, h2, h3.far (Ne.symm hcz) _, h4, fun h => h5 (by rw [e8] at h; exact h)⟩), fd := (by simpa only [e5, e6] using hf.fd), c32 := (by simpa only [e3, e2] using hf.c32), c43 := (by simpa only [e4, e3] using hf.c43), c7 := (fun _ => ⟨by rw [e5]; exact hp 5 (by simp), by rw [e0]; exact hp 0 (by simp)⟩), c8 := (by simpa only [e8, e6, e4] using hf.c8) }⟩
    · -- operation 8
      have e0 : (listed.setIfInBounds 8 true).getD 0 false = listed.getD 0 false := listed_ne (by decide)
      have e1 : (listed.setIfInBounds 8 true).getD 1 false = listed.getD 1 false := listed_ne (by decide)
      have e2 : (listed.setIfInBounds 8 true).getD 2 false = listed.getD 2 false := listed_ne (by decide)
      have e3 : (listed.setIfInBounds 8 true).getD 3 false = listed.getD 3 false := listed_ne (by decide)
      have e4 : (listed.setIfInBounds 8 true).getD 4 false = listed.getD 4 false := listed_ne (by decide)
      have e5 : (listed.setIfInBounds 8 true).getD 5 false = listed.getD 5 false := listed_ne (by decide)
      have e6 : (listed.setIfInBounds 8 true).getD 6 false = listed.getD 6 false := listed_ne (by decide)
      have e7 : (listed.setIfInBounds 8 true).getD 7 false = listed.getD 7 false := listed_ne (by decide)
      have en := not_yet hi
      refine wpOpIn_one rfl rfl ?_
      have hp := ready_on hi rfl [0, 4, 5, 6, 7] (by kernel_rfl)
      obtain ⟨c, y, hx, hc, hy, hyn, _⟩ := hF.f6 (hp 6 (by simp))
      obtain ⟨cs, hsv, _, _⟩ := id (hF.f4 (hp 4 (by simp)))
      obtain ⟨cz, yz, hxz, _, hyz, _, _⟩ := id (hF.f5 (hp 5 (by simp)))
      subst hxz
      have hne := hF.fd (hp 5 (by simp)) (hp 6 (by simp))
      subst hx
      subst hsv
      have hcz : c ≠ cz := fun e => hne (by rw [e])
      have cy := hy.one
      have fy := hy.frozen 0
      have hf := hF
      gi_wp2
      exact ⟨_, _, _, _, _, _, _, rfl, { hB := hf.hB.setCell hc _, f0 := (fun h => by rw [e0] at h; obtain ⟨d, h1, h2, h3⟩ := hf.f0 h; exact ⟨d, h1, h2, h3.far (Blk.ne_type h3 hy (by decide)) _⟩), f1 := (by simpa only [e1] using hf.f1), f2 := (fun h => by rw [e2] at h; exact Fresh.far_blk (hf.f2 h) hy hyn _), f3 := (fun h => by rw [e3] at h; obtain ⟨d, h1, h2, h3⟩ := hf.f3 h; exact ⟨d, h1, h2, h3.far (Blk.ne_type h3 hy (by decide)) _⟩), f4 := (fun h => by rw [e4] at h; obtain ⟨d, h1, h2, h3⟩ := hf.f4 h; exact ⟨d, h1, h2, h3.far (Blk.ne_type h3 hy (by decide)) _⟩), f5 := (fun h => by rw [e5] at h; obtain ⟨d, z, h1, h2, h3, h4, h5⟩ := hf.f5 h; have hdc : d = cz := (by injection h1 with h1; injection h1 with h1; injection h1 with h1; exact h1.symm); subst hdc; exact ⟨d, z, rfl, h2, h3.far (Ne.symm hcz) _, h4, fun h => h5 (by rw [e7] at h; exact h)⟩), f6 := (fun _ => ⟨c, _, rfl, hc, hy.set_ 0 _, fun _ _ h => (by cases h), fun _ => rfl⟩), fd := (by simpa only [e5, e6] using hf.fd), c32 := (by simpa only [e3, e2] using hf.c32), c43 := (by simpa only [e4, e3] using hf.c43), c7 := (by simpa only [e7, e5, e0] using hf.c7), c8 := (fun _ => ⟨by rw [e6]; exact hp 6 (by simp), by rw [e4]; exact hp 4 (by simp)⟩) }⟩

  case fin =>
    rintro listed a w2 hall ⟨x3, x4, x5, x6, x7, x8, x9, rfl, hF⟩
    have hl : ∀ i, i < 9 → listed.getD i false = true := hall
    obtain ⟨c5, rfl, h5, b5⟩ := hF.f0 (hl 0 (by omega))
    obtain rfl := hF.f1 (hl 1 (by omega))
    have hx7 := hF.f2 (hl 2 (by omega))
    obtain ⟨c8, rfl, h8, b8⟩ := hF.f3 (hl 3 (by omega))
    obtain ⟨c9, rfl, h9, b9⟩ := hF.f4 (hl 4 (by omega))
    obtain ⟨c3, y3, rfl, h3, b3, _, e3⟩ := hF.f5 (hl 5 (by omega))
    obtain rfl := e3 (hl 7 (by omega))
    obtain ⟨c4, y4, rfl, h4, b4, _, e4⟩ := hF.f6 (hl 6 (by omega))
    obtain rfl := e4 (hl 8 (by omega))
    have hBf := hF.hB
    clear hF hall hl
    subst hadj
    have b0f := b0.below hBf b0.lt
    have c0 := b0f.cell 0
    have c1 := b0f.cell 1
    simp only [List.getElem?_toArray, List.getElem?_cons_zero, List.getElem?_cons_succ] at c0 c1
    have hL2 := hL1.next hBf
    have hB2 := Nat.le_trans hB1 hBf.size
    have hC2 := HM1.out w2 hBf
    have hR1 := hok0.out.1
    have HRw := Lib.hid (fun (U : World) (hU : Below w2.heap.size w2 U) => rows_any p hR1 U (hL2.next hU))
    have HL1 := Lib.hid (fun (U : World) (hU : Below w2.heap.size w2 U) => listed_any _ _ (rowsMade (p - 1).toNat css) U (by rw [rowsMade_len]; omega) (makes_rows p (.slice A n cap) css HOK.out U (Nat.le_trans hB2 hU.size) (hC2.below (hU.mono hB2)) c3 w.heap.size c5 (b3.below hU b3.lt) (b0f.below hU b0f.lt) (b5.below hU b5.lt)))
    have HL2 := Lib.hid (fun (U : World) (hU : Below w2.heap.size w2 U) => listed_any _ _ (diagsMade p (p - 1).toNat css) U (by rw [diagsMade_len]; omega) (makes_diags p (.slice A n cap) css HOK.out U (hL2.next hU) (Nat.le_trans hB2 hU.size) (hC2.below (hU.mono hB2)) c4 w.heap.size c9 c8 x7 (b4.below hU b4.lt) (b0f.below hU b0f.lt) (b9.below hU b9.lt) (b8.below hU b8.lt) (hx7.below hU)))
    rw [rowsMade_len, show (((p - 1).toNat : Nat) : Int) = p - 1 by omega] at HL1
    rw [diagsMade_len, show (((p - 1).toNat : Nat) : Int) = p - 1 by omega] at HL2
    have HENC : Hid (encOf p css = [rowsMade (p - 1).toNat css, diagsMade p (p - 1).toNat css]) := rfl
    have HLR : Hid ((rowsMade (p - 1).toNat css).length = (p - 1).toNat) := rowsMade_len _
    have HLD : Hid ((diagsMade p (p - 1).toNat css).length = (p - 1).toNat) := diagsMade_len _
    generalize rowsMade (p - 1).toNat css = rm at *
    generalize diagsMade p (p - 1).toNat css = dm at *
    clear hx7 hC2 b3 b4 b5 b8 b9 hR1
    have hBx : Below w2.heap.size w2 w2 := Below.refl _ _
    gi_wp2_with fail
    have hS : (fun V : World => V.cell? ⟨w.heap.size, 0, none⟩ = some (.int .i64 p) ∧ V.cell? ⟨w.heap.size, 1, none⟩ = some (.slice A n cap)) w2.drew := ⟨c0, c1⟩
    refine wpIn_mono (region_HF (Q := NoPanic _) (S := (fun V : World => V.cell? ⟨w.heap.size, 0, none⟩ = some (.int .i64 p) ∧ V.cell? ⟨w.heap.size, 1, none⟩ = some (.slice A n cap))) (by kernel_rfl) ?_) NoPanic.imp
    refine anyHF_take (i := 0) (d := 10) (v := .pointer (some ⟨w.heap.size, 0, none⟩)) (by kernel_rfl) rfl (by kernel_rfl) (by kernel_rfl) (by kernel_rfl) rfl (fun _ _ _ h => h) ⟨Or.inl ⟨by rfl, fun w hS => by obtain ⟨h0, h1⟩ := hS; go_simp⟩, fun _ => rfl⟩ hS ?_
    simp only [List.setIfInBounds_toArray, List.set_cons_zero, List.set_cons_succ]
    refine anyHF_take (i := 1) (d := 11) (v := .int .i64 p) (by kernel_rfl) rfl (by kernel_rfl) (by kernel_rfl) (by kernel_rfl) rfl (fun _ _ _ h => h) ⟨Or.inl ⟨by rfl, fun w hS => by obtain ⟨h0, h1⟩ := hS; go_simp⟩, fun _ => rfl⟩ hS ?_
    simp only [List.setIfInBounds_toArray, List.set_cons_zero, List.set_cons_succ]
    refine anyHF_take (i := 3) (d := 13) (v := .func (.func 94) #[] #[.pointer (some ⟨c3, 0, none⟩), .pointer (some ⟨w.heap.size, 0, none⟩)]) (by kernel_rfl) rfl (by kernel_rfl) (by kernel_rfl) (by kernel_rfl) rfl (fun _ _ _ h => h) ⟨Or.inl ⟨by rfl, fun w hS => by obtain ⟨h0, h1⟩ := hS; go_simp⟩, fun _ => rfl⟩ hS ?_
    simp only [List.setIfInBounds_toArray, List.set_cons_zero, List.set_cons_succ]
    refine anyHF_take (i := 5) (d := 15) (v := .pointer (some ⟨w.heap.size, 0, none⟩)) (by kernel_rfl) rfl (by kernel_rfl) (by kernel_rfl) (by kernel_rfl) rfl (fun _ _ _ h => h) ⟨Or.inl ⟨by rfl, fun w hS => by obtain ⟨h0, h1⟩ := hS; go_simp⟩, fun _ => rfl⟩ hS ?_
    simp only [List.setIfInBounds_toArray, List.set_cons_zero, List.set_cons_succ]
    refine anyHF_take (i := 6) (d := 16) (v := .int .i64 p) (by kernel_rfl) rfl (by kernel_rfl) (by kernel_rfl) (by kernel_rfl) rfl (fun _ _ _ h => h) ⟨Or.inl ⟨by rfl, fun w hS => by obtain ⟨h0, h1⟩ := hS; go_simp⟩, fun _ => rfl⟩ hS ?_
    simp only [List.setIfInBounds_toArray, List.set_cons_zero, List.set_cons_succ]
    refine anyHF_take (i := 8) (d := 18) (v := .func (.func 96) #[] #[.pointer (some ⟨c4, 0, none⟩), .pointer (some ⟨w.heap.size, 0, none⟩)]) (by kernel_rfl) rfl (by kernel_rfl) (by kernel_rfl) (by kernel_rfl) rfl (fun _ _ _ h => h) ⟨Or.inl ⟨by rfl, fun w hS => by obtain ⟨h0, h1⟩ := hS; go_simp⟩, fun _ => rfl⟩ hS ?_
    simp only [List.setIfInBounds_toArray, List.set_cons_zero, List.set_cons_succ]
    refine anyHF_one (i := 2) (by kernel_rfl) rfl (by kernel_rfl) (by rfl) ?_
    gi_wp2_with fail
    refine ⟨trivial, (callsIn_wide.2 (HRw.out _ hBx.drew)).mono ?_⟩
    rintro e w3 ⟨rfl, hBn⟩
    replace hBn := below_undrew hBn
    replace hBx := below_in hBx hBn
    clear hS
    have hS : (fun V : World => V.cell? ⟨w.heap.size, 0, none⟩ = some (.int .i64 p) ∧ V.cell? ⟨w.heap.size, 1, none⟩ = some (.slice A n cap)) w3 := ⟨(hBx.cell (p := ⟨w.heap.size, 0, none⟩) b0f.lt).trans c0, (hBx.cell (p := ⟨w.heap.size, 1, none⟩) b0f.lt).trans c1⟩
    clear hBn
    gi_wp2
    refine anyHF_one (i := 4) (by kernel_rfl) rfl (by kernel_rfl) (by rfl) ?_
    gi_wp2_with fail
    refine ⟨trivial, (callsIn_wide.2 (HL1.out _ hBx)).mono ?_⟩
    rintro e w3 ⟨u1, rfl, hm1, hBn⟩
    replace hBx := below_in hBx hBn
    clear hS
    have hS : (fun V : World => V.cell? ⟨w.heap.size, 0, none⟩ = some (.int .i64 p) ∧ V.cell? ⟨w.heap.size, 1, none⟩ = some (.slice A n cap)) w3 := ⟨(hBx.cell (p := ⟨w.heap.size, 0, none⟩) b0f.lt).trans c0, (hBx.cell (p := ⟨w.heap.size, 1, none⟩) b0f.lt).trans c1⟩
    have hmr := hm1
    obtain ⟨A1, k1, hu1, _, _⟩ := id hm1
    subst hu1
    clear hBn
    gi_wp2
    refine anyHF_one (i := 7) (by kernel_rfl) rfl (by kernel_rfl) (by rfl) ?_
    gi_wp2_with fail
    refine ⟨trivial, (callsIn_wide.2 (HRw.out _ hBx)).mono ?_⟩
    rintro e w3 ⟨rfl, hBn⟩
    replace hBx := below_in hBx hBn
    clear hS
    have hS : (fun V : World => V.cell? ⟨w.heap.size, 0, none⟩ = some (.int .i64 p) ∧ V.cell? ⟨w.heap.size, 1, none⟩ = some (.slice A n cap)) w3 := ⟨(hBx.cell (p := ⟨w.heap.size, 0, none⟩) b0f.lt).trans c0, (hBx.cell (p := ⟨w.heap.size, 1, none⟩) b0f.lt).trans c1⟩
    replace hm1 := (hm1.below hBn).more hBn.size
    clear hBn
    gi_wp2
    refine anyHF_one (i := 9) (by kernel_rfl) rfl (by kernel_rfl) (by rfl) ?_
    gi_wp2_with fail
    refine ⟨trivial, (callsIn_wide.2 (HL2.out _ hBx)).mono ?_⟩
    rintro e w3 ⟨u2, rfl, hm2, hBn⟩
    replace hBx := below_in hBx hBn
    clear hS
    have hS : (fun V : World => V.cell? ⟨w.heap.size, 0, none⟩ = some (.int .i64 p) ∧ V.cell? ⟨w.heap.size, 1, none⟩ = some (.slice A n cap)) w3 := ⟨(hBx.cell (p := ⟨w.heap.size, 0, none⟩) b0f.lt).trans c0, (hBx.cell (p := ⟨w.heap.size, 1, none⟩) b0f.lt).trans c1⟩
    replace hm1 := (hm1.below hBn).more hBn.size
    obtain ⟨A2, k2, hu2, _, _⟩ := id hm2
    subst hu2
    clear hBn
    gi_wp2
    have hb3 := below_one w3 (.cells #[.slice A1 rm.length k1, .slice A2 dm.length k2] 44)
    have bz := Blk.new w3 44 #[.slice A1 rm.length k1, .slice A2 dm.length k2]
    have hSz : (fun V : World => V.cell? ⟨w.heap.size, 0, none⟩ = some (.int .i64 p) ∧ V.cell? ⟨w.heap.size, 1, none⟩ = some (.slice A n cap)) (w3.alloc (.cells #[.slice A1 rm.length k1, .slice A2 dm.length k2] 44)) := ⟨(hb3.cell (p := ⟨w.heap.size, 0, none⟩) (Nat.lt_of_lt_of_le b0f.lt hBx.size)).trans hS.1, (hb3.cell (p := ⟨w.heap.size, 1, none⟩) (Nat.lt_of_lt_of_le b0f.lt hBx.size)).trans hS.2⟩
    refine anyHF_one (i := 10) (by kernel_rfl) rfl (by kernel_rfl) (by rfl) ?_
    gi_wp2
    refine anyHF_one (i := 11) (by kernel_rfl) rfl (by kernel_rfl) (by rfl) ?_
    gi_wp2
    refine anyHF_done (by kernel_rfl) ?_ _
    refine NoPanic.normal ?_
    gi_wp2
    have hq1 := (hm1.below hb3).more hb3.size
    have hq2 := (hm2.below hb3).more hb3.size
    have hfin : Below w.heap.size w (w3.alloc (.cells #[.slice A1 rm.length k1, .slice A2 dm.length k2] 44)) := below_in hBW (below_in hBf (below_in hBx hb3))
    generalize w3.alloc (.cells #[.slice A1 rm.length k1, .slice A2 dm.length k2] 44) = w4 at *
    refine ⟨.slice (some ⟨w3.heap.size, 0, none⟩) 2 2, by simp [results, Tryz.results46, go_sem], _, rfl, ?_, hfin⟩
    rw [HENC.out]
    refine ⟨_, 2, rfl, Nat.le_refl _, fun _ => ⟨w3.heap.size, 0, rfl, bz.lt, fun j hj => ?_⟩⟩
    have hj2 : j = 0 ∨ j = 1 := by simp at hj; omega
    rcases hj2 with rfl | rfl
    · exact ⟨_, bz.cell 0, hq1⟩
    · exact ⟨_, bz.cell 1, hq2⟩
end Go.Proofs.YtggdlklkjnbbjaaGreatDoor.E

namespace Go.Proofs.YtggdlklkjnbbjaaGreatDoor.E
open Go.RowKit Go.Shelf Go.Proofs.YtggdlklkjnbbjaaGreatDoor.C
set_option linter.unusedSimpArgs false
set_option linter.unusedVariables false

theorem enter_adjuster1 : ∀ args W, (callFunc 40 args).run Tryz.prog W = .ok (.enter 40 args) W := enters_of Tryz.func40 (by kernel_rfl) rfl
set_option maxRecDepth 100000 in
set_option maxHeartbeats 1000000 in
theorem adjuster_yes {B : Nat} (p : Int) (v : Value) (css : List (List (List UInt8))) (hok : DataOk p css) (w : World) (hL : Laid w) (hB : B ≤ w.heap.size) (hC : Cols B w v css) :
    Calls Tryz.prog 12 #[.int .i64 p, v] w fun e w' => ∃ u, e = .returned (.tuple #[u, .int .i64 0]) ∧ Bytes w'.heap.size w' u (adjOf p css) ∧ Below w.heap.size w w' := by
  have hdn := dataOk_n hok
  obtain ⟨A, cap, rfl, _, _⟩ := id hC
  obtain ⟨W2, hW2⟩ : ∃ W2, (w.alloc (.cells #[.int .i64 p] 3)).alloc (.cells #[.slice A css.length cap] 22) = W2 := ⟨_, rfl⟩
  have b0 : Blk W2 w.heap.size 3 #[.int .i64 p] := by rw [← hW2]; exact (Blk.new w _ _).alloc _
  have b1 : Blk W2 (w.heap.size + 1) 22 #[.slice A css.length cap] := by rw [← hW2]; exact Blk.second w _ _ _
  have hBW : Below w.heap.size w W2 := by rw [← hW2]; exact below_two w _ _
  have hL2 := hL.next hBW
  have HA := Lib.hid (ans_B_yes 40 #[.pointer (some ⟨w.heap.size, 0, none⟩), .pointer (some ⟨w.heap.size + 1, 0, none⟩)] W2 (fun u W => Bytes W.heap.size W u (adjOf p css)) (enter_adjuster1 _) (fun U hU _ => by
    have hLU := hL2.next hU
    have hBU := below_in hBW hU
    have hCU := hC.below (hBU.mono hB)
    have HQ := Lib.hid (asked_yes (B := B) p (.slice A css.length cap) css U hLU (Nat.le_trans hB hBU.size) hCU (by omega) hok)
    have HE := Lib.hid (fun (V : World) (hV : Below U.heap.size U V) => adjuster_any (B := B) p (.slice A css.length cap) css hok V (hLU.next hV) (Nat.le_trans hB (Nat.le_trans hBU.size hV.size)) (hCU.below (hV.mono (Nat.le_trans hB hBU.size))))
    have c0 := (b0.below hU b0.lt).one
    have c1 := (b1.below hU b1.lt).one
    clear hC hCU hok hdn b0 b1 hW2 hL hL2 hLU
    generalize css.length = n at *
    go_enter Tryz.func40, Tryz.ntmps40
    go_wp2_with (first
      | (go_at_call 41; refine HQ.out.mono ?_; rintro e w1 ⟨rfl, hB1⟩)
      | (go_at_call 43; refine (HE.out _ hB1).mono ?_; rintro e w2 ⟨u, rfl, hu, hB2⟩))
    go_ret
    exact ⟨_, rfl, hu.bytes, below_in hB1 hB2⟩))
  clear hC b0 b1 hL2 hok hdn
  generalize css.length = n at *
  go_enter Tryz.func12, Tryz.ntmps12
  have hmf : ∀ (fn : Fn) (first cap : Array Value) (w : World), (Instr.makeFunc fn first cap).run Tryz.prog w = .ok (.func fn first cap) w := fun _ _ _ _ => rfl
  go_wp2_with (go_at_call 39; refine HA.out.mono ?_; rintro e w1 ⟨u, W, rfl, hu, bE, rfl, hB1⟩)
  go_ret2
  exact ⟨u, rfl, Bytes.more (Bytes.set_int hu bE _) (by simp), below_in hBW hB1⟩
theorem enter_encode1 : ∀ args W, (callFunc 45 args).run Tryz.prog W = .ok (.enter 45 args) W := enters_of Tryz.func45 (by kernel_rfl) rfl
set_option maxRecDepth 100000 in
set_option maxHeartbeats 1000000 in
theorem encode_yes {B : Nat} (p : Int) (v : Value) (css : List (List (List UInt8))) (hok : DataOk p css) (w : World) (hL : Laid w) (hB : B ≤ w.heap.size) (hC : Cols B w v css) :
    Calls Tryz.prog 13 #[.int .i64 p, v] w fun e w' => ∃ u, e = .returned (.tuple #[u, .int .i64 0]) ∧ Cols w'.heap.size w' u (encOf p css) ∧ Below w.heap.size w w' := by
  have hdn := dataOk_n hok
  obtain ⟨A, cap, rfl, _, _⟩ := id hC
  obtain ⟨W2, hW2⟩ : ∃ W2, (w.alloc (.cells #[.int .i64 p] 3)).alloc (.cells #[.slice A css.length cap] 22) = W2 := ⟨_, rfl⟩
  have b0 : Blk W2 w.heap.size 3 #[.int .i64 p] := by rw [← hW2]; exact (Blk.new w _ _).alloc _
  have b1 : Blk W2 (w.heap.size + 1) 22 #[.slice A css.length cap] := by rw [← hW2]; exact Blk.second w _ _ _
  have hBW : Below w.heap.size w W2 := by rw [← hW2]; exact below_two w _ _
  have hL2 := hL.next hBW
  have HA := Lib.hid (ans_S_yes 45 #[.pointer (some ⟨w.heap.size, 0, none⟩), .pointer (some ⟨w.heap.size + 1, 0, none⟩)] W2 (fun u W => Cols W.heap.size W u (encOf p css)) (enter_encode1 _) (fun U hU _ => by
    have hLU := hL2.next hU
    have hBU := below_in hBW hU
    have hCU := hC.below (hBU.mono hB)
    have HQ := Lib.hid (asked_yes (B := B) p (.slice A css.length cap) css U hLU (Nat.le_trans hB hBU.size) hCU (by omega) hok)
    have HE := Lib.hid (fun (V : World) (hV : Below U.heap.size U V) => encoded_any (B := B) p (.slice A css.length cap) css hok V (hLU.next hV) (Nat.le_trans hB (Nat.le_trans hBU.size hV.size)) (hCU.below (hV.mono (Nat.le_trans hB hBU.size))))
    have c0 := (b0.below hU b0.lt).one
    have c1 := (b1.below hU b1.lt).one
    clear hC hCU hok hdn b0 b1 hW2 hL hL2 hLU
    generalize css.length = n at *
    go_enter Tryz.func45, Tryz.ntmps45
    go_wp2_with (first
      | (go_at_call 41; refine HQ.out.mono ?_; rintro e w1 ⟨rfl, hB1⟩)
      | (go_at_call 46; refine (HE.out _ hB1).mono ?_; rintro e w2 ⟨u, rfl, hu, hB2⟩))
    go_ret
    exact ⟨_, rfl, hu, below_in hB1 hB2⟩))
  clear hC b0 b1 hL2 hok hdn
  generalize css.length = n at *
  go_enter Tryz.func13, Tryz.ntmps13
  have hmf : ∀ (fn : Fn) (first cap : Array Value) (w : World), (Instr.makeFunc fn first cap).run Tryz.prog w = .ok (.func fn first cap) w := fun _ _ _ _ => rfl
  go_wp2_with (go_at_call 44; refine HA.out.mono ?_; rintro e w1 ⟨u, W, rfl, hu, bE, rfl, hB1⟩)
  go_ret2
  exact ⟨u, rfl, Cols.more (Cols.set_int hu bE _) (by simp), below_in hBW hB1⟩
set_option maxRecDepth 100000 in
set_option maxHeartbeats 1000000 in
theorem encode_no {B : Nat} (p : Int) (v : Value) (css : List (List (List UInt8))) (w : World) (hL : Laid w) (hB : B ≤ w.heap.size) (hC : Cols B w v css) (hlen : css.length ≤ 1000) (hcl : ∀ j, j < css.length → (css[j]?.getD []).length ≤ 1000) (hno : ¬ DataOk p css) :
    Calls Tryz.prog 13 #[.int .i64 p, v] w fun e w' => e = .returned (.tuple #[.slice none 0 0, .int .i64 2]) ∧ Below w.heap.size w w' := by
  obtain ⟨A, cap, rfl, _, _⟩ := id hC
  obtain ⟨W2, hW2⟩ : ∃ W2, (w.alloc (.cells #[.int .i64 p] 3)).alloc (.cells #[.slice A css.length cap] 22) = W2 := ⟨_, rfl⟩
  have b0 : Blk W2 w.heap.size 3 #[.int .i64 p] := by rw [← hW2]; exact (Blk.new w _ _).alloc _
  have b1 : Blk W2 (w.heap.size + 1) 22 #[.slice A css.length cap] := by rw [← hW2]; exact Blk.second w _ _ _
  have hBW : Below w.heap.size w W2 := by rw [← hW2]; exact below_two w _ _
  have hL2 := hL.next hBW
  have HA := Lib.hid (ans_S_no 45 #[.pointer (some ⟨w.heap.size, 0, none⟩), .pointer (some ⟨w.heap.size + 1, 0, none⟩)] W2 (enter_encode1 _) (fun U hU _ => by
    have hBU := below_in hBW hU
    have HQ := Lib.hid (asked_no (B := B) p (.slice A css.length cap) css U (hL2.next hU) (Nat.le_trans hB hBU.size) (hC.below (hBU.mono hB)) hlen hcl hno)
    have c0 := (b0.below hU b0.lt).one
    have c1 := (b1.below hU b1.lt).one
    clear hC b0 b1 hW2 hL hL2 hno hcl hlen
    generalize css.length = n at *
    go_enter Tryz.func45, Tryz.ntmps45
    go_wp2_with (go_at_call 41; refine HQ.out.mono ?_; rintro e w1 ⟨rfl, hB1⟩)
    exact ⟨rfl, rfl, hB1⟩))
  clear hC b0 b1 hL2 hno hcl hlen
  generalize css.length = n at *
  go_enter Tryz.func13, Tryz.ntmps13
  have hmf : ∀ (fn : Fn) (first cap : Array Value) (w : World), (Instr.makeFunc fn first cap).run Tryz.prog w = .ok (.func fn first cap) w := fun _ _ _ _ => rfl
  go_wp2_with (go_at_call 44; refine HA.out.mono ?_; rintro e w1 ⟨rfl, hB1⟩)
  go_ret2
  exact ⟨rfl, below_in hBW hB1⟩
end Go.Proofs.YtggdlklkjnbbjaaGreatDoor.E

namespace Go.Proofs.YtggdlklkjnbbjaaGreatDoor.E
open Go.RowKit Go.Shelf Go.Proofs.YtggdlklkjnbbjaaGreatDoor.C
set_option linter.unusedSimpArgs false
set_option linter.unusedVariables false

/-- What a value reads as, and in which blocks. -/
structure Rep (α : Type) where
  R : (Nat → Prop) → World → Value → α → Prop
  imp : ∀ {P Q : Nat → Prop} {W : World} {v : Value} {x : α}, R P W v x → (∀ b, P b → Q b) → R Q W v x
  keep : ∀ {P : Nat → Prop} {W W' : World} {v : Value} {x : α}, R P W v x → Keeps P W W' → R P W' v x
  one : ∀ {P : Nat → Prop} {W : World} {v : Value} {x : α}, R P W v x → v.oneCell' = true
def bytesR : Rep (List UInt8) where
  R := BytesP
  imp := BytesP.imp
  keep := BytesP.keep
  one := fun ⟨_, _, e, _⟩ => by rw [e]; rfl
/-- A slice whose elements read as xs. -/
def SliceP {α : Type} (r : Rep α) (d : α) (P : Nat → Prop) (W : World) (v : Value) (xs : List α) : Prop :=
  ∃ A cap, v = .slice A xs.length cap ∧ xs.length ≤ cap ∧ (0 < xs.length → ∃ b off, A = some ⟨b, off, none⟩ ∧ P b ∧ ∀ j, j < xs.length → ∃ u, W.cell? ⟨b, off + j, none⟩ = some u ∧ r.R P W u (xs[j]?.getD d))
section
variable {α : Type} {r : Rep α} {d : α} {P Q : Nat → Prop} {W W' : World} {v : Value} {xs : List α}
theorem SliceP.imp (h : SliceP r d P W v xs) (hq : ∀ b, P b → Q b) : SliceP r d Q W v xs := by
  obtain ⟨A, cap, e, hc, hA⟩ := h
  refine ⟨A, cap, e, hc, fun hp => ?_⟩
  obtain ⟨b, off, e2, hb, hcell⟩ := hA hp
  exact ⟨b, off, e2, hq b hb, fun j hj => by obtain ⟨u, h1, h2⟩ := hcell j hj; exact ⟨u, h1, r.imp h2 hq⟩⟩
theorem SliceP.keep (h : SliceP r d P W v xs) (hk : Keeps P W W') : SliceP r d P W' v xs := by
  obtain ⟨A, cap, e, hc, hA⟩ := h
  refine ⟨A, cap, e, hc, fun hp => ?_⟩
  obtain ⟨b, off, e2, hb, hcell⟩ := hA hp
  exact ⟨b, off, e2, hb, fun j hj => by obtain ⟨u, h1, h2⟩ := hcell j hj; exact ⟨u, (World.cell?_of_block (hk b hb)).trans h1, r.keep h2 hk⟩⟩
end
def sliceR {α : Type} (r : Rep α) (d : α) : Rep (List α) where
  R := SliceP r d
  imp := SliceP.imp
  keep := SliceP.keep
  one := fun ⟨_, _, e, _⟩ => by rw [e]; rfl
def manyR : Rep (List (List UInt8)) := sliceR bytesR []
def colsR : Rep (List (List (List UInt8))) := sliceR manyR []
theorem manyR_iff {B : Nat} {W : World} {v : Value} {ls : List (List UInt8)} : manyR.R (· < B) W v ls ↔ Many B W v ls := Iff.rfl
theorem colsR_iff {B : Nat} {W : World} {v : Value} {css : List (List (List UInt8))} : colsR.R (· < B) W v css ↔ Cols B W v css := Iff.rfl
theorem Rep.below {α : Type} (r : Rep α) {P : Nat → Prop} {B : Nat} {W W' : World} {v : Value} {x : α} (h : r.R P W v x) (hP : ∀ b, P b → b < B) (hb : Below B W W') : r.R P W' v x := r.keep h fun b hp => hb.block b (hP b hp)

/-- A row of the call's own, of block type t, whose elements read as xs; these lie elsewhere, where Q holds. -/
def RowG {α : Type} (r : Rep α) (t : TypeId) (d : α) (Q : Nat → Prop) (W : World) (base : Nat) (v : Value) (xs : List α) : Prop :=
  ∃ us : List Value, W.ownsRow base t 1 v us.length us ∧ us.length = xs.length ∧ ∀ (j : Nat) (u : Value), us[j]? = some u → r.R (fun b => b < W.heap.size ∧ some b ≠ v.ownBlock ∧ Q b) W u (xs[j]?.getD d)
section
variable {α : Type} {r : Rep α} {t : TypeId} {d : α} {Q : Nat → Prop} {W W' : World} {base : Nat} {v : Value} {xs : List α}
theorem RowG.nil (r : Rep α) (t : TypeId) (d : α) (Q : Nat → Prop) (W : World) (base : Nat) : RowG r t d Q W base (.slice none 0 0) [] :=
  ⟨[], World.ownsRow_nil W base t 1, rfl, fun j u h => by cases h⟩
theorem RowG.own_le (h : RowG r t d Q W base v xs) (k : Nat) (e : v.ownBlock = some k) : base ≤ k := by
  obtain ⟨us, ho, _⟩ := h
  exact (World.ownsRow.lt ho k e).1
theorem RowG.kept (h : RowG r t d Q W base v xs) {row : Option Nat} (hg : W.grownBy W' row) (hne : v.ownBlock = none ∨ v.ownBlock ≠ row) (hQ : ∀ b, Q b → some b ≠ row) : RowG r t d Q W' base v xs := by
  obtain ⟨us, ho, hn, hr⟩ := h
  refine ⟨us, World.ownsRow.kept ho hg hne, hn, fun j u hu => ?_⟩
  exact r.imp (r.keep (hr j u hu) fun b hb => hg.block b hb.1 (hQ b hb.2.2)) fun b hb => ⟨Nat.lt_of_lt_of_le hb.1 hg.size, hb.2⟩
theorem RowG.below (h : RowG r t d Q W base v xs) (hb : Below W.heap.size W W') : RowG r t d Q W' base v xs :=
  h.kept (row := none) (grown_below hb) (by cases v.ownBlock <;> simp) (fun b _ => by simp)
/-- An element more. -/
theorem RowG.push (i : TypeInfo) (hi : Tryz.prog.info? t = some i) (hz : i.zero = some (.slice none 0 0)) (h1 : i.size = 1) (h24 : i.bytes = 24) (T ty : TypeId) (hT : Tryz.prog.underlying T = some (.slice t))
    (h : RowG r t d Q W base v xs) (g : Nat) (tg : TypeId) (u : Value) (x : α) (hg : Blk W g tg #[u]) (hu : r.R (fun b => b < W.heap.size ∧ some b ≠ v.ownBlock ∧ Q b) W u x) (hlen : xs.length ≤ 100000) (hbase : base ≤ W.heap.size) :
    ∃ v' w', (Builtin.append_ #[T, T] ty #[v, .slice (some ⟨g, 0, none⟩) 1 1]).run Tryz.prog W = .ok v' w' ∧ RowG r t d Q w' base v' (xs ++ [x]) ∧ W.grownBy w' v.ownBlock ∧ (v'.ownBlock = v.ownBlock ∨ v'.ownBlock = some W.heap.size) := by
  obtain ⟨us, ho, hn, hr⟩ := h
  obtain ⟨v', w', hrun, o1, o2, _, o3⟩ := run_append_own_at (P := Tryz.prog) W base T ty t i (.slice none 0 0) 1 24 hT hi hz h1 h24 rfl (by omega) v us.length us ho ⟨g, 0, none⟩ 1 1 [u] rfl
    (by intro j y hy
        rw [addr_add, Nat.zero_add, hg.cell j, List.getElem?_toArray]
        exact hy) (by intro y hy; rw [List.mem_singleton.1 hy]; exact r.one hu) (by unfold maxLen; omega) (by omega) hbase
  have hk : ∀ {y : Value} {z : α}, r.R (fun b => b < W.heap.size ∧ some b ≠ v.ownBlock ∧ Q b) W y z → r.R (fun b => b < w'.heap.size ∧ some b ≠ v'.ownBlock ∧ Q b) w' y z := fun {y z} hy =>
    r.imp (r.keep hy fun b hb => o2.block b hb.1 hb.2.1) fun b hb => ⟨Nat.lt_of_lt_of_le hb.1 o2.size, by
      rcases o3 with e | e
      · rw [e]; exact hb.2.1
      · rw [e]; intro e2; injection e2 with e2; have := hb.1; omega, hb.2.2⟩
  refine ⟨v', w', hrun, ⟨us ++ [u], by rw [List.length_append]; exact o1, by rw [List.length_append, List.length_append, hn]; rfl, fun j y hy => ?_⟩, o2, o3⟩
  rcases Nat.lt_or_ge j us.length with hj | hj
  · rw [List.getElem?_append_left hj] at hy
    rw [List.getElem?_append_left (by omega)]
    exact hk (hr j y hy)
  · rw [List.getElem?_append_right hj] at hy
    rw [List.getElem?_append_right (by omega), ← hn]
    have hj0 : j - us.length = 0 := by
      rcases Nat.eq_zero_or_pos (j - us.length) with h0 | h0
      · exact h0
      · rw [List.getElem?_eq_none (by simp; omega)] at hy; cases hy
    rw [hj0] at hy ⊢
    cases hy
    exact hk hu
theorem RowG.slice (h : RowG r t d Q W base v xs) {S : Nat → Prop} (hS : ∀ b, b < W.heap.size → (Q b ∨ base ≤ b) → S b) : SliceP r d S W v xs := by
  obtain ⟨us, ho, hn, hr⟩ := h
  rcases Nat.eq_zero_or_pos us.length with h0 | h0
  · rcases ho.2 with ⟨rfl, _⟩ | ⟨g, cap, cur, rfl, _, hg, hnc, _⟩
    · exact ⟨none, 0, by rw [← hn, h0], by omega, fun hp => by omega⟩
    · exact ⟨some ⟨g, 0, none⟩, cap, by rw [← hn], by omega, fun hp => by omega⟩
  · have hcp : ∀ g cap, v = .slice (some ⟨g, 0, none⟩) us.length cap → us.length ≤ cap := fun g cap e => by
      rcases ho.2 with ⟨_, h1⟩ | ⟨g2, cap2, cur, e2, _, _, hnc, _⟩
      · omega
      · rw [e] at e2
        injection e2 with _ _ e3
        omega
    obtain ⟨g, cap, e, hg, hg1⟩ := World.ownsRow.form ho h0
    have hcap := hcp g cap e
    subst e
    refine ⟨_, cap, by rw [← hn], by rw [← hn]; exact hcap, fun _ => ⟨g, 0, rfl, hS g (by omega) (.inr hg), fun j hj => ?_⟩⟩
    have hj2 : j < us.length := by omega
    refine ⟨us[j], ?_, r.imp (hr j us[j] (List.getElem?_eq_getElem hj2)) fun b hb => hS b hb.1 (.inl hb.2.2)⟩
    rw [Nat.zero_add, World.ownsRow.cellAt ho j (by omega), List.getElem?_eq_getElem hj2]
end
theorem Tryz.infoCol : (Tryz.prog.info? 44).map (fun i => (i.zero, i.size, i.bytes)) = some (some (.slice none 0 0), 1, 24) := by kernel_rfl
def RowM := RowG bytesR 25 []
def RowC := RowG manyR 44 []
section
variable {Q : Nat → Prop} {W W' : World} {base : Nat} {v : Value}
theorem RowM.many {ls : List (List UInt8)} (h : RowM Q W base v ls) {S : Nat → Prop} (hS : ∀ b, b < W.heap.size → (Q b ∨ base ≤ b) → S b) : manyR.R S W v ls := RowG.slice h hS
theorem RowC.cols {css : List (List (List UInt8))} (h : RowC Q W base v css) : Cols W.heap.size W v css := RowG.slice h fun b hb _ => hb
theorem wpList_pushC {T : TypeId} (w : World) {ops : Array Oper} {rest : List Oper} {o : Oper} {a : Act} {QQ : Exit → Act → World → Prop} (hgd : o.guard = none) (s x : Operand)
    (ho : o.op = .call { callee := .builtin .append, args := #[s, x], argTypes := #[T, T] }) (hT : Tryz.prog.underlying T = some (.slice 44)) (css : List (List (List UInt8))) (hs : a.eval s = v) (h : RowC Q w base v css)
    (g : Nat) (tg : TypeId) (u : Value) (ls : List (List UInt8)) (hx : a.eval x = .slice (some ⟨g, 0, none⟩) 1 1) (hg : Blk w g tg #[u]) (hu : manyR.R (fun b => b < w.heap.size ∧ some b ≠ v.ownBlock ∧ Q b) w u ls) (hlen : css.length ≤ 100000) (hbase : base ≤ w.heap.size)
    (hK : ∀ v' w', RowC Q w' base v' (css ++ [ls]) → w.grownBy w' v.ownBlock → (v'.ownBlock = v.ownBlock ∨ v'.ownBlock = some w.heap.size) → wpList Tryz.prog ops QQ rest (a.put o.dst v') w') : wpList Tryz.prog ops QQ (o :: rest) a w :=
  wpList_plain hgd fun K hK2 => by
    obtain ⟨i, hi, hz0, hz1, hz2⟩ := info_parts Tryz.infoCol
    obtain ⟨v', w', hrun, h1, h2, h3⟩ := RowG.push i hi hz0 hz1 hz2 T o.type hT h g tg u ls hg hu hlen hbase
    unfold Oper.wp execOp
    simp only [ho, resolve, invoke, builtin, Sem.run_bind, Sem.run_pure, Result.andThen_ok, List.map_toArray, List.map_cons, List.map_nil, hs, hx, hrun]
    exact hK2 _ _ (hK v' w' h1 h2 h3)
end
end Go.Proofs.YtggdlklkjnbbjaaGreatDoor.E

namespace Go.Proofs.YtggdlklkjnbbjaaGreatDoor.E
open Go.RowKit Go.Shelf Go.Proofs.YtggdlklkjnbbjaaGreatDoor.C
set_option linter.unusedSimpArgs false
set_option linter.unusedVariables false

section
variable {α : Type} {r : Rep α} {t : TypeId} {d : α} {Q : Nat → Prop} {W W' : World} {base : Nat} {v : Value} {xs : List α}
/-- A block of one element is a row of the call's own. -/
theorem RowG.one {g : Nat} {u : Value} {x : α} (hg : Blk W g t #[u]) (hb : base ≤ g) (hu : r.R (fun b => b < W.heap.size ∧ some b ≠ some g ∧ Q b) W u x) : RowG r t d Q W base (.slice (some ⟨g, 0, none⟩) 1 1) [x] :=
  ⟨[u], ⟨rfl, .inr ⟨g, 1, #[u], rfl, hb, hg, Nat.le_refl _, by unfold maxLen; omega, rfl, rfl⟩⟩, rfl, fun j y hy => by
    cases j with
    | zero => cases hy; exact hu
    | succ j => simp at hy⟩
set_option maxRecDepth 100000 in
/-- Elements more. -/
theorem RowG.append (i : TypeInfo) (hi : Tryz.prog.info? t = some i) (hz : i.zero = some (.slice none 0 0)) (h1 : i.size = 1) (h24 : i.bytes = 24) (T ty : TypeId) (hT : Tryz.prog.underlying T = some (.slice t))
    (h : RowG r t d Q W base v xs) {v2 : Value} {ys : List α} (h2 : SliceP r d (fun b => b < W.heap.size ∧ some b ≠ v.ownBlock ∧ Q b) W v2 ys) (hn2 : ∀ A cap, v2 = .slice A 0 cap → A = none → cap = 0) (hlen : xs.length ≤ 100000) (hlen2 : ys.length ≤ 100000) (hbase : base ≤ W.heap.size) :
    ∃ v' w', (Builtin.append_ #[T, T] ty #[v, v2]).run Tryz.prog W = .ok v' w' ∧ RowG r t d Q w' base v' (xs ++ ys) ∧ W.grownBy w' v.ownBlock ∧ (v'.ownBlock = v.ownBlock ∨ v'.ownBlock = some W.heap.size) := by
  obtain ⟨us, ho, hn, hr⟩ := h
  obtain ⟨A, cap, rfl, hc, hA⟩ := h2
  rcases A with _ | ad
  · have h0 : ys = [] := by
      rcases Nat.eq_zero_or_pos ys.length with h0 | h0
      · exact List.eq_nil_of_length_eq_zero h0
      · obtain ⟨b, off, h, _⟩ := hA h0
        cases h
    subst h0
    obtain rfl := hn2 none cap rfl rfl
    rw [List.append_nil]
    exact ⟨v, W, run_append_owned_none (P := Tryz.prog) (w := W) base T ty t i 1 hT hi v us.length us ho, ⟨us, ho, hn, hr⟩, World.grownBy.refl _ _, .inl rfl⟩
  have hus : ∃ us2 : List Value, us2.length = ys.length ∧ (∀ (j : Nat) (u : Value), us2[j]? = some u → W.cell? (ad.add j) = some u) ∧ ∀ (j : Nat) (u : Value), us2[j]? = some u → r.R (fun b => b < W.heap.size ∧ some b ≠ v.ownBlock ∧ Q b) W u (ys[j]?.getD d) := by
    rcases Nat.eq_zero_or_pos ys.length with h0 | h0
    · exact ⟨[], h0.symm, fun j u h => (by cases h), fun j u h => (by cases h)⟩
    · obtain ⟨b, off, e, hb, hcell⟩ := hA h0
      injection e with e
      subst e
      refine ⟨(List.range ys.length).map fun j => (W.cell? ⟨b, off + j, none⟩).getD undef, by simp, fun j u hu => ?_, fun j u hu => ?_⟩
      all_goals
        rw [List.getElem?_map] at hu
        rcases Nat.lt_or_ge j ys.length with hj | hj
        · rw [List.getElem?_range hj] at hu
          obtain ⟨u2, q1, q2⟩ := hcell j hj
          simp only [Option.map_some, q1, Option.getD_some, Option.some.injEq] at hu
          subst hu
          first | (rw [addr_add]; exact q1) | exact q2
        · rw [List.getElem?_eq_none (by simpa using hj)] at hu
          cases hu
  obtain ⟨us2, hl2, hc2, hr2⟩ := hus
  obtain ⟨v', w', hrun, o1, o2, _, o3⟩ := run_append_own_at (P := Tryz.prog) W base T ty t i (.slice none 0 0) 1 24 hT hi hz h1 h24 rfl (by omega) v us.length us ho ad ys.length cap us2 (by omega) hc2
    (by intro y hy; obtain ⟨j, hj⟩ := List.getElem?_of_mem hy; exact r.one (hr2 j y hj)) (by unfold maxLen; omega) (by omega) hbase
  have hk : ∀ {y : Value} {z : α}, r.R (fun b => b < W.heap.size ∧ some b ≠ v.ownBlock ∧ Q b) W y z → r.R (fun b => b < w'.heap.size ∧ some b ≠ v'.ownBlock ∧ Q b) w' y z := fun {y z} hy =>
    r.imp (r.keep hy fun b hb => o2.block b hb.1 hb.2.1) fun b hb => ⟨Nat.lt_of_lt_of_le hb.1 o2.size, by
      rcases o3 with e | e
      · rw [e]; exact hb.2.1
      · rw [e]; intro e2; injection e2 with e2; have := hb.1; omega, hb.2.2⟩
  refine ⟨v', w', hrun, ⟨us ++ us2, by rw [List.length_append, hl2]; exact o1, by rw [List.length_append, List.length_append, hn, hl2], fun j y hy => ?_⟩, o2, o3⟩
  rcases Nat.lt_or_ge j us.length with hj | hj
  · rw [List.getElem?_append_left hj] at hy
    rw [List.getElem?_append_left (by omega)]
    exact hk (hr j y hy)
  · rw [List.getElem?_append_right hj] at hy
    rw [List.getElem?_append_right (by omega), ← hn]
    exact hk (hr2 _ y hy)
end
set_option maxRecDepth 100000 in
/-- A slice that reads as columns is no nil one with room. -/
theorem wpList_appC {T : TypeId} {Q : Nat → Prop} {base : Nat} {v v2 : Value} (w : World) {ops : Array Oper} {rest : List Oper} {o : Oper} {a : Act} {QQ : Exit → Act → World → Prop} (hgd : o.guard = none) (s x : Operand)
    (ho : o.op = .call { callee := .builtin .append, args := #[s, x], argTypes := #[T, T] }) (hT : Tryz.prog.underlying T = some (.slice 44)) (css ds : List (List (List UInt8))) (hs : a.eval s = v) (h : RowC Q w base v css) (hx : a.eval x = v2)
    (h2 : colsR.R (fun b => b < w.heap.size ∧ some b ≠ v.ownBlock ∧ Q b) w v2 ds) (h0 : 0 < ds.length) (hlen : css.length ≤ 100000) (hlen2 : ds.length ≤ 100000) (hbase : base ≤ w.heap.size)
    (hK : ∀ v' w', RowC Q w' base v' (css ++ ds) → w.grownBy w' v.ownBlock → (v'.ownBlock = v.ownBlock ∨ v'.ownBlock = some w.heap.size) → wpList Tryz.prog ops QQ rest (a.put o.dst v') w') : wpList Tryz.prog ops QQ (o :: rest) a w :=
  wpList_plain hgd fun K hK2 => by
    obtain ⟨i, hi, hz0, hz1, hz2⟩ := info_parts Tryz.infoCol
    obtain ⟨v', w', hrun, h1, h3, h4⟩ := RowG.append i hi hz0 hz1 hz2 T o.type hT h h2 (fun A cap e hA => by
      obtain ⟨A2, c2, e2, _, hA2⟩ := h2
      rw [e] at e2
      injection e2 with _ e3 _
      omega) hlen hlen2 hbase
    unfold Oper.wp execOp
    simp only [ho, resolve, invoke, builtin, Sem.run_bind, Sem.run_pure, Result.andThen_ok, List.map_toArray, List.map_cons, List.map_nil, hs, hx, hrun]
    exact hK2 _ _ (hK v' w' h1 h3 h4)
theorem Cols.take_ {B : Nat} {W : World} {A : Option Addr} {n cap : Nat} {css : List (List (List UInt8))} (h : Cols B W (.slice A n cap) css) {m : Nat} (hm : m ≤ n) : Cols B W (.slice A m cap) (css.take m) := by
  obtain ⟨A', cap', e, hc, hA⟩ := h
  injection e with e1 e2 e3
  subst e1 e2 e3
  have hl : (css.take m).length = m := by rw [List.length_take]; omega
  refine ⟨A, cap, by rw [hl], by omega, fun hp => ?_⟩
  obtain ⟨b, off, e, hb, hcell⟩ := hA (by omega)
  refine ⟨b, off, e, hb, fun j hj => ?_⟩
  obtain ⟨u, h1, h2⟩ := hcell j (by omega)
  exact ⟨u, h1, by rw [List.getElem?_take_of_lt (by omega)]; exact h2⟩
end Go.Proofs.YtggdlklkjnbbjaaGreatDoor.E

namespace Go.Proofs.YtggdlklkjnbbjaaGreatDoor.E
open Go.RowKit Go.Shelf Go.Proofs.YtggdlklkjnbbjaaGreatDoor.C
set_option linter.unusedSimpArgs false
set_option linter.unusedVariables false

def FewC (cs : List (List UInt8)) : Prop := cs.length ≤ 20 ∧ ∀ k, k < cs.length → (cs[k]?.getD []).length ≤ 70
def Few6 (css : List (List (List UInt8))) : Prop := css.length ≤ 24 ∧ ∀ j, j < css.length → FewC (css[j]?.getD [])
theorem all_next {P : Nat → Prop} {k : Nat} (h : ∀ j, j < k → P j) (hk : P k) : ∀ j, j < k + 1 → P j := by
  intro j hj
  rcases Nat.lt_or_ge j k with h1 | h1
  · exact h j h1
  · obtain rfl : j = k := by omega
    exact hk
set_option maxRecDepth 100000 in
set_option maxHeartbeats 1000000 in
theorem few6_any {B : Nat} (v : Value) (css : List (List (List UInt8))) (w : World) (hC : Cols B w v css) (b : Bool) (hb : b = true ↔ Few6 css) :
    Calls Tryz.prog 10 #[v] w fun e w' => e = .returned (.bool b) ∧ w = w' := by
  obtain ⟨A, cap, rfl, _, _⟩ := id hC
  by_cases h24 : css.length ≤ 24
  · have d0 : decide ((24 : Int) < (css.length : Int)) = false := by simp; omega
    go_enter Tryz.func10, Tryz.ntmps10
    go_wp2
    go_loop [3] (fun i => ∃ k : Nat, k ≤ css.length ∧ i = .int .i64 k ∧ Hid (∀ j, j < k → FewC (css[j]?.getD []))) (fun i => css.length - (intOf i).toNat)
    case atStart => exact ⟨0, Nat.zero_le _, rfl, Lib.hid fun j hj => absurd hj (by omega)⟩
    case round =>
      obtain ⟨k, hk, rfl, HA⟩ := hrel
      by_cases hlt : k < css.length
      · have hdec : decide ((k : Int) < (css.length : Int)) = true := by simp; omega
        obtain ⟨b1, off1, cap1, e1, _, _, hrow1⟩ := hC.at_ (by omega)
        injection e1 with e1 _ _
        subst e1
        obtain ⟨u, hu, hm⟩ := hrow1 k hlt
        obtain ⟨A2, cap2, rfl, _, _⟩ := id hm
        have HN := Lib.hid (fun (h : b = true) => (hb.1 h).2 k hlt)
        have HL := Lib.hid (fun (h : FewC (css[k]?.getD [])) => all_next HA.out h)
        clear hrow1
        generalize css[k]?.getD [] = cs at *
        by_cases h20 : cs.length ≤ 20
        · have d1 : decide ((20 : Int) < (cs.length : Int)) = false := by simp; omega
          go_wp2
          go_loop [4] (fun i => ∃ m : Nat, m ≤ cs.length ∧ i = .int .i64 m ∧ Hid (∀ j, j < m → (cs[j]?.getD []).length ≤ 70)) (fun i => cs.length - (intOf i).toNat)
          case atStart => exact ⟨0, Nat.zero_le _, rfl, Lib.hid fun j hj => absurd hj (by omega)⟩
          case round =>
            obtain ⟨m, hm2, rfl, HA2⟩ := hrel
            by_cases hlt2 : m < cs.length
            · have hdec2 : decide ((m : Int) < (cs.length : Int)) = true := by simp; omega
              obtain ⟨b2, off2, rfl, _, hrow2⟩ := many_at hm (by omega)
              obtain ⟨B1, cp1, hc1, _⟩ := hrow2 m hlt2
              have HN2 := Lib.hid (fun (h : b = true) => (HN.out h).2 m hlt2)
              have HL2 := Lib.hid (fun (h : (cs[m]?.getD []).length ≤ 70) => all_next HA2.out h)
              clear hrow2
              generalize (cs[m]?.getD []).length = x at hc1 HN2 HL2
              by_cases hx : x ≤ 70
              · have d2 : decide ((70 : Int) < (x : Int)) = false := by simp; omega
                go_wp2
                go_round
                case rel => exact ⟨m + 1, by omega, by go_num, Lib.hid (HL2.out hx)⟩
                case measure => simp [intOf]; omega
              · have d2 : decide ((70 : Int) < (x : Int)) = true := by simp; omega
                go_wp2
                go_ret
                exact ⟨ret_bool (Bool.eq_false_iff.2 fun h => hx (HN2.out h)).symm, rfl⟩
            · obtain rfl : m = cs.length := by omega
              have e1 : decide ((cs.length : Int) < (cs.length : Int)) = false := by simp
              go_wp2
              go_round
              case rel => exact ⟨k + 1, by omega, by go_num, Lib.hid (HL.out ⟨h20, HA2.out⟩)⟩
              case measure => simp [intOf]; omega
        · have d1 : decide ((20 : Int) < (cs.length : Int)) = true := by simp; omega
          go_wp2
          go_ret
          exact ⟨ret_bool (Bool.eq_false_iff.2 fun h => h20 (HN.out h).1).symm, rfl⟩
      · obtain rfl : k = css.length := by omega
        have e1 : decide ((css.length : Int) < (css.length : Int)) = false := by simp
        go_wp2
        go_ret
        exact ⟨ret_bool (hb.2 ⟨h24, HA.out⟩).symm, rfl⟩
  · have d0 : decide ((24 : Int) < (css.length : Int)) = true := by simp; omega
    have hbf : b = false := Bool.eq_false_iff.2 fun h => h24 (hb.1 h).1
    subst hbf
    go_enter Tryz.func10, Tryz.ntmps10
    go_wp2
    go_ret
    exact ⟨rfl, rfl⟩

def RightD (p : Int) (css : List (List (List UInt8))) : Prop := p ∈ prm ∧ TogOk (p - 1).toNat css
def GoodC (R n : Nat) (cs : List (List UInt8)) : Prop := cs.length = R ∧ ∀ r, r < R → Cell (cs[r]?.getD []) ∧ (cs[r]?.getD []).length = n
theorem rightD_iff {p : Int} {css : List (List (List UInt8))} (hp : p ∈ prm) (h0 : 0 < css.length) : RightD p css ↔ ∀ j, j < css.length → GoodC (p - 1).toNat (firstC css).length (css[j]?.getD []) := by
  have hpp := prm_bounds hp
  constructor
  · rintro ⟨_, _, h⟩ j hj
    obtain ⟨h1, h2, h3⟩ := h j hj
    refine ⟨h1, fun r hr => ?_⟩
    have h4 := h3 r (by omega)
    refine ⟨?_, h4⟩
    unfold Cell at h2 ⊢
    omega
  · intro h
    refine ⟨hp, h0, fun j hj => ⟨(h j hj).1, ((h 0 h0).2 0 (by omega)).1, fun r hr => ((h j hj).2 r (by have := (h j hj).1; omega)).2⟩⟩
set_option maxRecDepth 100000 in
set_option maxHeartbeats 2000000 in
theorem right6_any {B : Nat} (p : Int) (v : Value) (css : List (List (List UInt8))) (w : World) (hB : B ≤ w.heap.size) (hC : Cols B w v css) (hlen : css.length ≤ 1000) (b : Bool) (hb : b = true ↔ RightD p css) :
    Calls Tryz.prog 15 #[.int .i64 p, v] w fun e w' => e = .returned (.bool b) ∧ Below w.heap.size w w' := by
  have HR := Lib.hid (Go.Proofs.YtggdlklkjnbbjaaGreatDoor.right_any p w)
  obtain ⟨A, cap, rfl, _, _⟩ := id hC
  by_cases hp : p ∈ prm
  · rw [decide_eq_true hp] at HR
    have hpp := prm_bounds hp
    by_cases h0 : 0 < css.length
    · have e0 : ((css.length : Int) == 0) = false := by rw [beq_eq_false_iff_ne]; omega
      have HI := Lib.hid (rightD_iff (css := css) hp h0)
      have HB := Lib.hid hb
      obtain ⟨R, hR⟩ : ∃ R : Nat, p - 1 = (R : Int) := ⟨(p - 1).toNat, by omega⟩
      have hR2 : (p - 1).toNat = R := by omega
      rw [hR2] at HI
      have hpw : IntKind.i64.wrap (p - 1) = (R : Int) := by rw [← hR]; exact IntWalk.i64_in _ (by omega)
      have hRn : 2 ≤ R ∧ R ≤ 16 := by omega
      obtain ⟨b1, off1, cap1, e1, _, hb1, hrow1⟩ := hC.at_ (by omega)
      injection e1 with e1 _ _
      subst e1
      have HROW := Lib.hid hrow1
      clear hb hp hR2 hpp hC hrow1
      go_enter Tryz.func15, Tryz.ntmps15
      go_wp2_with (go_at_call 51; refine HR.out.mono ?_; rintro e w1 ⟨rfl, hB1⟩)
      clear HR
      go_loopw [5] (fun i wr => ∃ k : Nat, k ≤ css.length ∧ i = .int .i64 k ∧ Hid (∀ j, j < k → GoodC R (firstC css).length (css[j]?.getD [])) ∧ Below w.heap.size w wr) (fun i _ => css.length - (intOf i).toNat)
      case atStart => exact ⟨0, Nat.zero_le _, rfl, (Lib.hid fun j hj => absurd hj (by omega)), hB1⟩
      case round =>
        clear hB1
        obtain ⟨k, hk, rfl, HA, hBr⟩ := hrel
        by_cases hlt : k < css.length
        · have hdec : decide ((k : Int) < (css.length : Int)) = true := by simp; omega
          obtain ⟨u, hu0, hm0⟩ := HROW.out k hlt
          obtain ⟨A2, cap2, rfl, _, _⟩ := id hm0
          have hu := (hBr.cell (p := ⟨b1, off1 + k, none⟩) (Nat.lt_of_lt_of_le hb1 hB)).trans hu0
          have HN := Lib.hid (fun (h : b = true) => HI.out.1 (HB.out.1 h) k hlt)
          have HL := Lib.hid (fun (h : GoodC R (firstC css).length (css[k]?.getD [])) => all_next HA.out h)
          have HF : Hid (k = 0 → css[k]?.getD [] = css[0]?.getD []) := fun e => by rw [e]
          have HF0 : Hid (0 < k → (css[0]?.getD []).length = R) := fun e => (HA.out 0 e).1
          generalize css[k]?.getD [] = cs at *
          by_cases hcl : cs.length = R
          · have hne : ((cs.length : Int) != (R : Int)) = false := by rw [hcl]; simp
            have hR0 : (css[0]?.getD []).length = R := by
              rcases Nat.eq_zero_or_pos k with h | h
              · rw [← HF.out h]; exact hcl
              · exact HF0.out h
            obtain ⟨u9, hu9, hm9⟩ := HROW.out 0 h0
            obtain ⟨A9, cap9, rfl, _, _⟩ := id hm9
            obtain ⟨b9, off9, rfl, hb9, hrow9⟩ := many_at hm9 (by omega)
            obtain ⟨B9, cp9, hc9, _⟩ := hrow9 0 (by omega)
            rw [Nat.add_zero] at hc9 hu9
            have HU9 := Lib.hid hu9
            have HC9 : Hid (w.cell? ⟨b9, off9, none⟩ = some (.slice B9 (firstC css).length cp9)) := hc9
            obtain ⟨R9, hR9⟩ : ∃ x, (css[0]?.getD []).length = x := ⟨_, rfl⟩
            rw [hR9] at HU9 hR0
            subst hR0
            clear hu9 hc9 hm9 hrow9 hR9
            have hcl' := Lib.hid hcl
            have HU := Lib.hid hu0
            obtain ⟨b2, off2, e2, hb2, hrow2⟩ := many_at hm0 (by omega)
            subst e2
            have HROW2 := Lib.hid hrow2
            clear hrow2 hm0
            rw [hcl] at hu HU
            clear hne hcl hu0
            have hne : ((R9 : Int) != (R9 : Int)) = false := by simp
            generalize (firstC css).length = n at *
            go_wp2
            obtain ⟨wq, hwq⟩ : ∃ x, x = wr := ⟨_, rfl⟩
            subst hwq
            go_loopw [6] (fun i wr => ∃ m : Nat, m ≤ R9 ∧ i = .int .i64 m ∧ Hid (∀ r, r < m → Cell (cs[r]?.getD []) ∧ (cs[r]?.getD []).length = n) ∧ Below w.heap.size w wr) (fun i _ => R9 - (intOf i).toNat)
            case atStart => exact ⟨0, Nat.zero_le _, rfl, (Lib.hid fun j hj => absurd hj (by omega)), hBr⟩
            case round =>
              clear hBr hu
              obtain ⟨m, hm2, rfl, HA2, hBr⟩ := hrel
              by_cases hlt2 : m < R9
              · have hdec2 : decide ((m : Int) < (R9 : Int)) = true := by simp; omega
                obtain ⟨B3, cp3, hc3, hby3⟩ := HROW2.out m (by have := hcl'.out; omega)
                have cu := (hBr.cell (p := ⟨b1, off1 + k, none⟩) (Nat.lt_of_lt_of_le hb1 hB)).trans HU.out
                have c3 := (hBr.cell (p := ⟨b2, off2 + m, none⟩) (Nat.lt_of_lt_of_le hb2 hB)).trans hc3
                have c9 := (hBr.cell (p := ⟨b1, off1, none⟩) (Nat.lt_of_lt_of_le hb1 hB)).trans HU9.out
                have c90 := (hBr.cell (p := ⟨b9, off9, none⟩) (Nat.lt_of_lt_of_le hb9 hB)).trans HC9.out
                have HRr := Lib.hid (fun n => C.right_any _ _ (wr.drewN n) ((hby3.below (hBr.mono hB)).keep (W' := wr.drewN n) fun _ _ => rfl))
                have HN2 := Lib.hid (fun (h : b = true) => (HN.out h).2 m hlt2)
                have HL2 := Lib.hid (fun (h : Cell (cs[m]?.getD []) ∧ (cs[m]?.getD []).length = n) => all_next HA2.out h)
                clear hc3 hby3
                generalize cs[m]?.getD [] = x at *
                by_cases hcx : Cell x
                · rw [decide_eq_true hcx] at HRr
                  by_cases hxn : x.length = n
                  · have HL3 := Lib.hid (HL2.out ⟨hcx, hxn⟩)
                    have e1 : ((x.length : Int) != (x.length : Int)) = false := by simp
                    clear HL2 HN2 hcx HL HN HA HA2 HF HF0
                    subst hxn
                    go_wp2
                    go_quiet ((go_at_call 52; refine (HRr.out _).mono ?_; rintro e w' ⟨rfl, rfl⟩; exact ⟨rfl, _, rfl⟩))
                    go_wp2
                    go_roundw
                    case rel => exact ⟨m + 1, by omega, by go_num, HL3, below_drewN hBr _⟩
                    case measure => simp [intOf]; omega
                  · have e1 : ((x.length : Int) != (n : Int)) = true := by rw [bne_iff_ne]; omega
                    have HF := Lib.hid (Bool.eq_false_iff.2 fun h => hxn (HN2.out h).2)
                    clear HL2 HN2 hcx hxn HL HN HA HA2
                    go_wp2
                    go_quiet ((go_at_call 52; refine (HRr.out _).mono ?_; rintro e w' ⟨rfl, rfl⟩; exact ⟨rfl, _, rfl⟩))
                    go_wp2
                    go_ret
                    exact ⟨ret_bool HF.out.symm, below_drewN hBr _⟩
                · rw [decide_eq_false hcx] at HRr
                  have HF := Lib.hid (Bool.eq_false_iff.2 fun h => hcx (HN2.out h).1)
                  clear HL2 HN2 hcx HL HN HA HA2
                  go_wp2
                  go_quiet ((go_at_call 52; refine (HRr.out _).mono ?_; rintro e w' ⟨rfl, rfl⟩; exact ⟨rfl, _, rfl⟩))
                  go_wp2
                  go_ret
                  exact ⟨ret_bool HF.out.symm, below_drewN hBr _⟩
              · obtain rfl : m = R9 := by omega
                have e1 : decide ((m : Int) < (m : Int)) = false := by simp
                go_wp2
                go_roundw
                case rel => exact ⟨k + 1, by omega, by go_num, Lib.hid (HL.out ⟨hcl'.out, HA2.out⟩), hBr⟩
                case measure => simp [intOf]; omega
          · have hne : ((cs.length : Int) != (R : Int)) = true := by rw [bne_iff_ne]; omega
            go_wp2
            go_ret
            exact ⟨ret_bool (Bool.eq_false_iff.2 fun h => hcl (HN.out h).1).symm, hBr⟩
        · obtain rfl : k = css.length := by omega
          have e1 : decide ((css.length : Int) < (css.length : Int)) = false := by simp
          go_wp2
          go_ret
          exact ⟨ret_bool (HB.out.2 (HI.out.2 HA.out)).symm, hBr⟩
    · have e0 : ((css.length : Int) == 0) = true := by rw [beq_iff_eq]; omega
      have hbf : b = false := Bool.eq_false_iff.2 fun h => h0 (hb.1 h).2.1
      subst hbf
      clear hb hp
      go_enter Tryz.func15, Tryz.ntmps15
      go_wp2_with (go_at_call 51; refine HR.out.mono ?_; rintro e w1 ⟨rfl, hB1⟩)
      go_ret
      exact ⟨rfl, hB1⟩
  · rw [decide_eq_false hp] at HR
    have hbf : b = false := Bool.eq_false_iff.2 fun h => hp (hb.1 h).1
    subst hbf
    clear hb hp
    go_enter Tryz.func15, Tryz.ntmps15
    go_wp2_with (go_at_call 51; refine HR.out.mono ?_; rintro e w1 ⟨rfl, hB1⟩)
    go_ret
    exact ⟨rfl, hB1⟩
end Go.Proofs.YtggdlklkjnbbjaaGreatDoor.E

namespace Go.Proofs.YtggdlklkjnbbjaaGreatDoor.E
open Go.RowKit Go.Shelf Go.Proofs.YtggdlklkjnbbjaaGreatDoor.C
set_option linter.unusedSimpArgs false
set_option linter.unusedVariables false

theorem sameCol_any {B B' : Nat} (v1 v2 : Value) (ls os : List (List UInt8)) (w : World) (h1 : Many B w v1 ls) (h2 : Many B' w v2 os) (hls : ls.length ≤ 100000) (hos : os.length ≤ 100000) :
    Calls Tryz.prog 59 #[v1, v2] w fun e w' => e = .returned (.bool (decide (ls = os))) ∧ Below w.heap.size w w' := by
  have H := Lib.hid (rsame_any v1 v2 ls os w h1 h2 (by omega) (by omega))
  obtain ⟨A1, cap1, rfl, _, _⟩ := id h1
  obtain ⟨A2, cap2, rfl, _, _⟩ := id h2
  generalize decide (ls = os) = d at *
  go_enter Tryz.func59, Tryz.ntmps59
  go_wp2_with (go_at_call 104; refine H.out.mono ?_; rintro e w2 ⟨rfl, hB2⟩)
  go_ret
  exact ⟨rfl, hB2⟩
theorem same3_iff (ls os : List (List (List UInt8))) : ls = os ↔ ls.length = os.length ∧ ∀ j, j < ls.length → (ls[j]?.getD []) = (os[j]?.getD []) := by
  constructor
  · rintro rfl
    exact ⟨rfl, fun _ _ => rfl⟩
  · rintro ⟨h1, h2⟩
    apply List.ext_getElem h1
    intro j hj hj2
    have := h2 j hj
    rwa [List.getElem?_eq_getElem hj, List.getElem?_eq_getElem hj2] at this
set_option maxRecDepth 100000 in
set_option maxHeartbeats 1000000 in
theorem same6_any {B B' : Nat} (v1 v2 : Value) (ls os : List (List (List UInt8))) (w : World) (h1 : Cols B w v1 ls) (h2 : Cols B' w v2 os) (hB1 : B ≤ w.heap.size) (hB2 : B' ≤ w.heap.size) (hls : ∀ j : Nat, (ls[j]?.getD []).length ≤ 1000) (hos : ∀ j : Nat, (os[j]?.getD []).length ≤ 1000) (hl1 : ls.length ≤ 1000) (hl2 : os.length ≤ 1000) :
    Calls Tryz.prog 21 #[v1, v2] w fun e w' => e = .returned (.bool (decide (ls = os))) ∧ Below w.heap.size w w' := by
  obtain ⟨A1, cap1, rfl, _, _⟩ := id h1
  obtain ⟨A2, cap2, rfl, _, _⟩ := id h2
  have hb := same3_iff ls os
  have HLS := Lib.hid hls
  have HOS := Lib.hid hos
  clear hls hos
  by_cases hl : ls.length = os.length
  · have e0 : ((ls.length : Int) != (os.length : Int)) = false := by rw [hl]; simp
    have HL := Lib.hid hl
    have HB := Lib.hid hb
    clear hb hl
    go_enter Tryz.func21, Tryz.ntmps21
    go_wp2
    go_loopw [5] (fun i wr => ∃ k : Nat, k ≤ ls.length ∧ i = .int .i64 k ∧ Hid (∀ j, j < k → (ls[j]?.getD []) = (os[j]?.getD [])) ∧ Below w.heap.size w wr) (fun i _ => ls.length - (intOf i).toNat)
    case atStart => exact ⟨0, Nat.zero_le _, rfl, (Lib.hid fun j hj => absurd hj (by omega)), Below.refl _ _⟩
    case round =>
      obtain ⟨k, hk, rfl, HA, hBr⟩ := hrel
      by_cases hlt : k < ls.length
      · have hdec : decide ((k : Int) < (ls.length : Int)) = true := by simp; omega
        obtain ⟨b1, off1, cq1, e1, _, hb1, hrow1⟩ := (h1.below (hBr.mono hB1)).at_ (by omega)
        injection e1 with e1 _ e1c
        subst e1
        subst e1c
        obtain ⟨u1, hc1, hm1⟩ := hrow1 k hlt
        obtain ⟨b2, off2, cq2, e2, _, hb2, hrow2⟩ := (h2.below (hBr.mono hB2)).at_ (by have := HL.out; omega)
        injection e2 with e2 _ e2c
        subst e2
        subst e2c
        obtain ⟨u2, hc2, hm2⟩ := hrow2 k (by have := HL.out; omega)
        have i2 : (k : Int) < (os.length : Int) := by have := HL.out; omega
        have HS := Lib.hid (fun (V : World) (hV : Below wr.heap.size wr V) => sameCol_any u1 u2 _ _ V (hm1.below (hV.mono (Nat.le_trans hB1 hBr.size))) (hm2.below (hV.mono (Nat.le_trans hB2 hBr.size))) (by have := HLS.out k; omega) (by have := HOS.out k; omega))
        have HN := Lib.hid (fun (h : ¬ (ls[k]?.getD []) = (os[k]?.getD [])) => (fun h2 => h ((HB.out.1 h2).2 k hlt) : ¬ ls = os))
        have HT := Lib.hid (fun (h : (ls[k]?.getD []) = (os[k]?.getD [])) => all_next (P := fun j => (ls[j]?.getD []) = (os[j]?.getD [])) HA.out h)
        obtain ⟨A3, cap3, rfl, _, _⟩ := id hm1
        obtain ⟨A4, cap4, rfl, _, _⟩ := id hm2
        clear hrow1 hrow2 hm1 hm2
        generalize ls[k]?.getD [] = x at *
        generalize os[k]?.getD [] = y at *
        by_cases hxy : x = y
        · rw [decide_eq_true hxy] at HS
          have HT2 := Lib.hid (HT.out hxy)
          clear hxy HT HN
          go_wp2
          go_region_held3 (fun U => U.cell? ⟨b1, off1 + k, none⟩ = some (.slice A3 x.length cap3) ∧ U.cell? ⟨b2, off2 + k, none⟩ = some (.slice A4 y.length cap4)) (first | exact ⟨hc1, hc2⟩ | exact ⟨(hBy.cell (p := ⟨b1, off1 + k, none⟩) (Nat.lt_of_lt_of_le hb1 (Nat.le_trans hB1 hBr.size))).trans hc1, (hBy.cell (p := ⟨b2, off2 + k, none⟩) (Nat.lt_of_lt_of_le hb2 (Nat.le_trans hB2 hBr.size))).trans hc2⟩) (first | (go_at_call 59; refine (HS.out _ ?_).mono ?_; first | exact Below.refl _ _ | exact (Below.refl _ _).drew; rintro e w2 ⟨rfl, hBx⟩; have hBy : Below wr.heap.size wr w2 := (by first | exact hBx | exact Below.undrew hBx)))
          all_goals go_wp2
          all_goals go_roundw
          case rel => exact ⟨k + 1, by omega, by go_num, HT2, below_in hBr hBy⟩
          case measure => simp [intOf]; omega
        · rw [decide_eq_false hxy] at HS
          have HF := Lib.hid (decide_eq_false (HN.out hxy))
          clear hxy HT HN
          go_wp2
          go_region_held3 (fun U => U.cell? ⟨b1, off1 + k, none⟩ = some (.slice A3 x.length cap3) ∧ U.cell? ⟨b2, off2 + k, none⟩ = some (.slice A4 y.length cap4)) (first | exact ⟨hc1, hc2⟩ | exact ⟨(hBy.cell (p := ⟨b1, off1 + k, none⟩) (Nat.lt_of_lt_of_le hb1 (Nat.le_trans hB1 hBr.size))).trans hc1, (hBy.cell (p := ⟨b2, off2 + k, none⟩) (Nat.lt_of_lt_of_le hb2 (Nat.le_trans hB2 hBr.size))).trans hc2⟩) (first | (go_at_call 59; refine (HS.out _ ?_).mono ?_; first | exact Below.refl _ _ | exact (Below.refl _ _).drew; rintro e w2 ⟨rfl, hBx⟩; have hBy : Below wr.heap.size wr w2 := (by first | exact hBx | exact Below.undrew hBx)))
          all_goals go_wp2
          all_goals go_ret
          all_goals exact ⟨ret_bool HF.out.symm, below_in hBr hBy⟩
      · obtain rfl : k = ls.length := by omega
        have e1 : decide ((ls.length : Int) < (ls.length : Int)) = false := by simp
        go_wp2
        go_ret
        exact ⟨ret_bool (decide_eq_true (HB.out.2 ⟨HL.out, HA.out⟩)).symm, hBr⟩
  · have e0 : ((ls.length : Int) != (os.length : Int)) = true := by rw [bne_iff_ne]; omega
    have hbf : ¬ ls = os := fun h => hl (hb.1 h).1
    rw [decide_eq_false hbf]
    go_enter Tryz.func21, Tryz.ntmps21
    go_wp2
    go_ret
    exact ⟨rfl, Below.refl _ _⟩
end Go.Proofs.YtggdlklkjnbbjaaGreatDoor.E

namespace Go.Proofs.YtggdlklkjnbbjaaGreatDoor.E
open Go.RowKit Go.Shelf Go.Proofs.YtggdlklkjnbbjaaGreatDoor.C
set_option linter.unusedSimpArgs false
set_option linter.unusedVariables false

set_option maxHeartbeats 400000 in
theorem num_any (n : Int) (w : World) : Calls Tryz.prog 17 #[.int .i64 n] w fun e w' => e = .returned (.int .i64 n) ∧ w = w' := by
  go_enter Tryz.func17, Tryz.ntmps17
  go_wp2
  go_ret
  exact ⟨rfl, rfl⟩
set_option maxHeartbeats 400000 in
theorem lcode_any (p : Int) (w : World) : Calls Tryz.prog 19 #[.int .i64 p] w fun e w' => e = .returned (.agg #[.int .i64 1, .int .i64 p]) ∧ Below w.heap.size w w' := by
  go_enter Tryz.func19, Tryz.ntmps19
  go_wp2
  have b := Blk.new w 37 #[.int .i64 1, .int .i64 p]
  have c0 := b.cell 0
  have c1 := b.cell 1
  simp only [List.getElem?_toArray, List.getElem?_cons_zero, List.getElem?_cons_succ] at c0 c1
  exact bodyPost_ret (v := .agg #[.int .i64 1, .int .i64 p]) (by simp [results, Tryz.results19, go_sem, c0, c1]) rfl ⟨rfl, below_one w _⟩
end Go.Proofs.YtggdlklkjnbbjaaGreatDoor.E

namespace Go.Proofs.YtggdlklkjnbbjaaGreatDoor.E
open Go.RowKit Go.Shelf Go.Proofs.YtggdlklkjnbbjaaGreatDoor.C
set_option linter.unusedSimpArgs false
set_option linter.unusedVariables false

def allocs (w : World) (os : List Obj) : World := os.foldl World.alloc w
theorem allocs_size (w : World) (os : List Obj) : (allocs w os).heap.size = w.heap.size + os.length := by
  induction os generalizing w with
  | nil => rfl
  | cons o os ih => show (allocs (w.alloc o) os).heap.size = _; rw [ih, World.size_alloc, List.length_cons]; omega
theorem allocs_below (w : World) (os : List Obj) : Below w.heap.size w (allocs w os) := by
  induction os generalizing w with
  | nil => exact Below.refl _ _
  | cons o os ih => exact below_in (below_one w o) (ih (w.alloc o))
theorem allocs_blk (w : World) (os : List Obj) (k : Nat) (t : TypeId) (cs : Array Value) (h : os[k]? = some (.cells cs t)) : Blk (allocs w os) (w.heap.size + k) t cs := by
  induction os generalizing w k with
  | nil => cases h
  | cons o os ih =>
    cases k with
    | zero => cases h; exact (Blk.new w t cs).below (allocs_below _ os) (by simp)
    | succ k =>
      have h2 := ih (w.alloc o) k h
      rw [World.size_alloc] at h2
      rw [show w.heap.size + (k + 1) = w.heap.size + 1 + k by omega]
      exact h2
theorem bytes_one {W : World} {g : Nat} {t : TypeId} {a : UInt8} (h : Blk W g t #[.int .u8 (a.toNat : Int)]) : Bytes W.heap.size W (.slice (some ⟨g, 0, none⟩) 1 1) [a] :=
  ⟨_, 1, rfl, Nat.le_refl _, fun _ => ⟨g, 0, rfl, h.lt, fun j hj => by
    have : j = 0 := by simp at hj; exact hj
    subst this
    exact h.cell 0⟩⟩
theorem many_two {W : World} {g ga gb : Nat} {t t1 t2 : TypeId} {a b : UInt8} (h : Blk W g t #[.slice (some ⟨ga, 0, none⟩) 1 1, .slice (some ⟨gb, 0, none⟩) 1 1]) (ha : Blk W ga t1 #[.int .u8 (a.toNat : Int)]) (hb : Blk W gb t2 #[.int .u8 (b.toNat : Int)]) :
    Many W.heap.size W (.slice (some ⟨g, 0, none⟩) 2 2) [[a], [b]] :=
  ⟨_, 2, rfl, Nat.le_refl _, fun _ => ⟨g, 0, rfl, h.lt, fun j hj => by
    have : j = 0 ∨ j = 1 := by simp at hj; omega
    rcases this with rfl | rfl
    · exact ⟨_, h.cell 0, bytes_one ha⟩
    · exact ⟨_, h.cell 1, bytes_one hb⟩⟩⟩
theorem cols_of {W : World} {g n cap : Nat} {t : TypeId} {cs : Array Value} {css : List (List (List UInt8))} (h : Blk W g t cs) (hn : css.length = n) (hc : n ≤ cap) (hA : ∀ j, j < n → ∃ u, cs[j]? = some u ∧ Many W.heap.size W u (css[j]?.getD [])) : Cols W.heap.size W (.slice (some ⟨g, 0, none⟩) n cap) css := by
  subst hn
  refine ⟨_, cap, rfl, hc, fun _ => ⟨g, 0, rfl, h.lt, fun j hj => ?_⟩⟩
  obtain ⟨u, h1, h2⟩ := hA j hj
  exact ⟨u, by rw [Nat.zero_add, h.cell j]; exact h1, h2⟩
def css3 : List (List (List UInt8)) := [[[1], [2]], [[4], [8]], [[16], [32]]]
def os3 (w : World) : List Obj := [.cells #[.int .u8 1] 5,
  .cells #[.int .u8 2] 5,
  .cells #[.slice (some ⟨w.heap.size + 0, 0, none⟩) 1 1, .slice (some ⟨w.heap.size + 1, 0, none⟩) 1 1] 25,
  .cells #[.int .u8 4] 5,
  .cells #[.int .u8 8] 5,
  .cells #[.slice (some ⟨w.heap.size + 3, 0, none⟩) 1 1, .slice (some ⟨w.heap.size + 4, 0, none⟩) 1 1] 25,
  .cells #[.int .u8 16] 5,
  .cells #[.int .u8 32] 5,
  .cells #[.slice (some ⟨w.heap.size + 6, 0, none⟩) 1 1, .slice (some ⟨w.heap.size + 7, 0, none⟩) 1 1] 25,
  .cells #[.slice (some ⟨w.heap.size + 2, 0, none⟩) 2 2, .slice (some ⟨w.heap.size + 5, 0, none⟩) 2 2, .slice (some ⟨w.heap.size + 8, 0, none⟩) 2 2] 44]
theorem cols3 (w : World) (m : Nat) (hm : m ≤ 3) : Cols (allocs w (os3 w)).heap.size (allocs w (os3 w)) (.slice (some ⟨w.heap.size + 9, 0, none⟩) m 3) (css3.take m) := by
  refine cols_of (allocs_blk w (os3 w) 9 _ _ rfl) (by rw [List.length_take]; show min m 3 = m; omega) hm fun j hj => ?_
  have hj3 : j = 0 ∨ j = 1 ∨ j = 2 := by omega
  rw [List.getElem?_take_of_lt hj]
  rcases hj3 with rfl | rfl | rfl
  · exact ⟨_, rfl, many_two (allocs_blk w (os3 w) 2 _ _ rfl) (allocs_blk w (os3 w) 0 _ _ rfl) (allocs_blk w (os3 w) 1 _ _ rfl)⟩
  · exact ⟨_, rfl, many_two (allocs_blk w (os3 w) 5 _ _ rfl) (allocs_blk w (os3 w) 3 _ _ rfl) (allocs_blk w (os3 w) 4 _ _ rfl)⟩
  · exact ⟨_, rfl, many_two (allocs_blk w (os3 w) 8 _ _ rfl) (allocs_blk w (os3 w) 6 _ _ rfl) (allocs_blk w (os3 w) 7 _ _ rfl)⟩
set_option maxRecDepth 100000 in
set_option maxHeartbeats 1000000 in
theorem three_any (m : Nat) (hm : m ≤ 3) (w : World) : Calls Tryz.prog 38 #[.int .i64 (m : Int)] w fun e w' => ∃ v, e = .returned v ∧ Cols w'.heap.size w' v (css3.take m) ∧ Below w.heap.size w w' := by
  have hc := cols3 w m hm
  have hb := allocs_below w (os3 w)
  have i1 : (0 : Int) ≤ (m : Int) := by omega
  have i2 : (m : Int) ≤ 3 := by omega
  go_enter Tryz.func38, Tryz.ntmps38
  go_wp2
  go_ret
  exact ⟨_, rfl, hc, hb⟩
theorem adj3 : adjOf 3 css3 = [24] := by decide +kernel
theorem enc3 : encOf 3 css3 = [[[21], [42]], [[57], [30]]] := by decide +kernel
theorem ok3 : DataOk 3 css3 := ⟨⟨by decide, by decide⟩, rfl, by decide, fun j hj => by
  have hj3 : j = 0 ∨ j = 1 ∨ j = 2 := by have : j < 3 := hj; omega
  rcases hj3 with rfl | rfl | rfl <;> exact ⟨rfl, by decide, fun k hk => by
    have hk2 : k = 0 ∨ k = 1 := by have : k < 2 := hk; omega
    rcases hk2 with rfl | rfl <;> rfl⟩⟩
theorem no3 : ¬ DataOk 3 (css3.take 2) := fun h => by have := h.2.1; revert this; decide
theorem no4 : ¬ DataOk 4 css3 := fun h => by have := h.1.2; revert this; decide
theorem short3 (m : Nat) : ∀ j, j < (css3.take m).length → ((css3.take m)[j]?.getD []).length ≤ 1000 := fun j hj => by
  rw [List.length_take] at hj
  have hl : css3.length = 3 := rfl
  rw [List.getElem?_take_of_lt (by omega)]
  have hj3 : j = 0 ∨ j = 1 ∨ j = 2 := by omega
  rcases hj3 with rfl | rfl | rfl <;> decide
def os2 (w : World) : List Obj := [.cells #[.int .u8 21] 5,
  .cells #[.int .u8 42] 5,
  .cells #[.slice (some ⟨w.heap.size + 0, 0, none⟩) 1 1, .slice (some ⟨w.heap.size + 1, 0, none⟩) 1 1] 25,
  .cells #[.int .u8 57] 5,
  .cells #[.int .u8 30] 5,
  .cells #[.slice (some ⟨w.heap.size + 3, 0, none⟩) 1 1, .slice (some ⟨w.heap.size + 4, 0, none⟩) 1 1] 25,
  .cells #[.slice (some ⟨w.heap.size + 2, 0, none⟩) 2 2, .slice (some ⟨w.heap.size + 5, 0, none⟩) 2 2] 44]
theorem cols2 (w : World) : Cols (allocs w (os2 w)).heap.size (allocs w (os2 w)) (.slice (some ⟨w.heap.size + 6, 0, none⟩) 2 2) [[[21], [42]], [[57], [30]]] := by
  refine cols_of (allocs_blk w (os2 w) 6 _ _ rfl) rfl (by omega) fun j hj => ?_
  have hj3 : j = 0 ∨ j = 1 := by omega
  rcases hj3 with rfl | rfl
  · exact ⟨_, rfl, many_two (allocs_blk w (os2 w) 2 _ _ rfl) (allocs_blk w (os2 w) 0 _ _ rfl) (allocs_blk w (os2 w) 1 _ _ rfl)⟩
  · exact ⟨_, rfl, many_two (allocs_blk w (os2 w) 5 _ _ rfl) (allocs_blk w (os2 w) 3 _ _ rfl) (allocs_blk w (os2 w) 4 _ _ rfl)⟩
set_option maxRecDepth 100000 in
set_option maxHeartbeats 2000000 in
theorem works_any (w : World) (hL : Laid w) : Calls Tryz.prog 11 #[] w fun e w' => e = .returned (.bool true) ∧ Below w.heap.size w w' := by
  have HT := Lib.hid (fun U => three_any 3 (by omega) U)
  have HT2 := Lib.hid (fun U => three_any 2 (by omega) U)
  rw [show css3.take 3 = css3 from rfl] at HT
  have HA := Lib.hid (fun (U : World) (v : Value) (hU : Laid U) (hC : Cols U.heap.size U v css3) => adjuster_yes 3 v css3 ok3 U hU (Nat.le_refl _) hC)
  have HE := Lib.hid (fun (U : World) (v : Value) (hU : Laid U) (hC : Cols U.heap.size U v css3) => encode_yes 3 v css3 ok3 U hU (Nat.le_refl _) hC)
  have HN := Lib.hid (fun (U : World) (v : Value) (hU : Laid U) (hC : Cols U.heap.size U v (css3.take 2)) => encode_no 3 v (css3.take 2) U hU (Nat.le_refl _) hC (by decide) (short3 2) no3)
  have HN4 := Lib.hid (fun (U : World) (v : Value) (hU : Laid U) (hC : Cols U.heap.size U v css3) => encode_no 4 v css3 U hU (Nat.le_refl _) hC (by decide) (short3 3) no4)
  have HS := Lib.hid (fun (U : World) (v v2 : Value) (h1 : Cols U.heap.size U v [[[21], [42]], [[57], [30]]]) (h2 : Cols U.heap.size U v2 [[[21], [42]], [[57], [30]]]) => same6_any v v2 _ _ U h1 h2 (Nat.le_refl _) (Nat.le_refl _) (fun j => (by rcases j with _ | _ | j <;> simp)) (fun j => (by rcases j with _ | _ | j <;> simp)) (by simp) (by simp))
  simp only [decide_true] at HS
  rw [adj3] at HA
  rw [enc3] at HE
  go_enter Tryz.func11, Tryz.ntmps11
  go_wp2_with fail
  refine (HT.out _).mono ?_
  rintro e w1 ⟨v1, rfl, hc, hB⟩
  have hBw := hB
  obtain ⟨A, cap, rfl, _, _⟩ := id hc
  go_wp2_with fail
  refine (HA.out _ _ (hL.next hBw) hc).mono ?_
  rintro e w2 ⟨s, rfl, hs, hB⟩
  replace hBw := below_in hBw hB
  obtain ⟨As, cs, rfl, _, _⟩ := id hs
  clear hc hB
  go_wp2_with fail
  refine (HT.out _).mono ?_
  rintro e w3 ⟨v1, rfl, hc, hB⟩
  replace hBw := below_in hBw hB
  replace hs := (hs.below hB).more hB.size
  obtain ⟨A, cap, rfl, _, _⟩ := id hc
  clear hB
  go_wp2_with fail
  refine (HE.out _ _ (hL.next hBw) hc).mono ?_
  rintro e w4 ⟨l, rfl, hl, hB⟩
  replace hBw := below_in hBw hB
  replace hs := (hs.below hB).more hB.size
  obtain ⟨Al, cl, rfl, _, _⟩ := id hl
  clear hc hB
  go_wp2_with fail
  refine (HT2.out _).mono ?_
  rintro e w5 ⟨v1, rfl, hc, hB⟩
  replace hBw := below_in hBw hB
  replace hs := (hs.below hB).more hB.size
  replace hl := (hl.below hB).more hB.size
  obtain ⟨A, cap, rfl, _, _⟩ := id hc
  clear hB
  go_wp2_with fail
  refine (HN.out _ _ (hL.next hBw) hc).mono ?_
  rintro e w6 ⟨rfl, hB⟩
  replace hBw := below_in hBw hB
  replace hs := (hs.below hB).more hB.size
  replace hl := (hl.below hB).more hB.size
  clear hc hB
  go_wp2_with fail
  refine (HT.out _).mono ?_
  rintro e w7 ⟨v1, rfl, hc, hB⟩
  replace hBw := below_in hBw hB
  replace hs := (hs.below hB).more hB.size
  replace hl := (hl.below hB).more hB.size
  obtain ⟨A, cap, rfl, _, _⟩ := id hc
  clear hB
  go_wp2_with fail
  refine (HN4.out _ _ (hL.next hBw) hc).mono ?_
  rintro e w8 ⟨rfl, hB⟩
  replace hBw := below_in hBw hB
  replace hs := (hs.below hB).more hB.size
  replace hl := (hl.below hB).more hB.size
  clear hc hB
  have t1 : (convert 25 9 (.slice As 1 cs)).run Tryz.prog w8 = .ok (.string ⟨#[24]⟩) w8 := run_txt w8 hs
  have hc2 := cols2 w8
  have hB2 := allocs_below w8 (os2 w8)
  have hl2 := (hl.below hB2).more hB2.size
  go_wp2_with (first
    | (go_at_call 17; refine (num_any _ _).mono ?_; rintro e w' ⟨rfl, rfl⟩)
    | (go_at_call 21; refine (HS.out _ _ _ hl2 hc2).mono ?_; rintro e w9 ⟨rfl, hB9⟩))
  go_ret
  exact ⟨rfl, below_in hBw (below_in hB2 hB9)⟩
end Go.Proofs.YtggdlklkjnbbjaaGreatDoor.E

namespace Go.Proofs.YtggdlklkjnbbjaaGreatDoor.E
open Go.RowKit Go.Shelf Go.Proofs.YtggdlklkjnbbjaaGreatDoor.C Go.ChangeShapes Go.WideShapes
set_option linter.unusedSimpArgs false
set_option linter.unusedVariables false

theorem many_rows {w : World} {a : Addr} {len cap : Nat} (hl : len ≤ cap) {A : Nat → Option Addr} {L C : Nat → Nat} {Z : Nat → List Int}
    (h : ∀ r, r < cap → w.cell? (a.add r) = some (.slice (A r) (L r) (C r)) ∧ IsRow .u8 w (A r) (L r) (C r) (Z r)) : ∃ ls : List (List UInt8), Many w.heap.size w (.slice (some a) len cap) ls := by
  have each : ∀ r, ∃ l : List UInt8, r < cap → l.length = L r ∧ Bytes w.heap.size w (.slice (A r) (L r) (C r)) l := by
    intro r
    by_cases hr : r < cap
    · obtain ⟨l, h1, h2⟩ := row_bytes (h r hr).2
      exact ⟨l, fun _ => ⟨h1, h2⟩⟩
    · exact ⟨[], fun h => absurd h hr⟩
  let f : Nat → List UInt8 := fun r => (each r).choose
  have hf : ∀ r, r < cap → (f r).length = L r ∧ Bytes w.heap.size w (.slice (A r) (L r) (C r)) (f r) := fun r => (each r).choose_spec
  have hlen : ((List.range len).map f).length = len := by simp
  refine ⟨(List.range len).map f, some a, cap, by rw [hlen], by rw [hlen]; exact hl, fun hp => ?_⟩
  rw [hlen] at hp ⊢
  obtain ⟨b, off, spot⟩ := a
  have hc := (h 0 (by omega)).1
  have hspot : spot = none := by simpa [Addr.add] using World.cell?_spot hc
  subst hspot
  refine ⟨b, off, rfl, ?_, fun j hj => ⟨.slice (A j) (L j) (C j), ?_, ?_⟩⟩
  · have := block_lt_of_cell hc
    simpa [Addr.add] using this
  · rw [← addr_add]; exact (h j (by omega)).1
  · have e : ((List.range len).map f)[j]?.getD [] = f j := by
      rw [List.getElem?_map, List.getElem?_range hj]; rfl
    rw [e]
    exact (hf j (by omega)).2
theorem open_col {H : Type} {enc : TypeId × Value → H} {W : World} {base fuel : Nat} {v : Value} {x : DataW H × List MemPlace} (hf : DataW.trod enc Tryz.prog W base (fun _ => true) true fuel 44 [v] = some x) : ∃ ls, Many W.heap.size W v ls := by
  rcases Deep.open_int_rows Tryz.underlying44 Tryz.underlying25 Tryz.underlying5 (by kernel_rfl) (by kernel_rfl) hf with ⟨hcs, _⟩ | ⟨x, l, c, AA, LL, CC, ZZ, hcs, _, hl, hm, _, hrows⟩
  · obtain rfl : v = .slice none 0 0 := by simpa using hcs
    exact ⟨[], Many.nil_ _ _ _ _⟩
  · obtain rfl : v = .slice (some x) l c := by simpa using hcs
    refine many_rows hl (A := AA) (L := LL) (C := CC) (Z := ZZ) fun r hr => ?_
    obtain ⟨q1, q2, q3, q4, q5, q6, q7⟩ := hrows r hr
    refine ⟨q1, ?_⟩
    cases hAr : AA r with
    | none =>
      have hC := q6 hAr
      refine .inl ⟨rfl, by omega, hC, List.eq_nil_of_length_eq_zero (by omega)⟩
    | some x => exact .inr ⟨x, rfl, q2, q3, q4, fun i hi => (q7 x hAr).2 i (by omega), q5⟩
theorem open_cols {H : Type} {enc : TypeId × Value → H} {W : World} {base fuel : Nat} {v : Value} {x : DataW H × List MemPlace} (hf : DataW.trod enc Tryz.prog W base (fun _ => true) true fuel 22 [v] = some x) : ∃ css, Cols W.heap.size W v css := by
  rcases Deep.open_slice1 Tryz.underlying22 (by kernel_rfl) hf with ⟨hcs, _⟩ | ⟨a, len, cap, m, n, V, D, Pl, hcs, hb, hl, hm, hmm, hxx, hx⟩
  · obtain rfl : v = .slice none 0 0 := by simpa using hcs
    exact ⟨[], none, 0, rfl, Nat.le_refl _, fun h => absurd h (by simp)⟩
  · obtain rfl : v = .slice (some a) len cap := by simpa using hcs
    simp only [if_true] at hmm
    have hmm' := hmm.symm
    subst hmm'
    have each : ∀ r, ∃ ls : List (List UInt8), r < cap → W.cell? (a.add r) = some (V r) ∧ Many W.heap.size W (V r) ls := by
      intro r
      by_cases hr : r < cap
      · obtain ⟨ls, h1⟩ := open_col (hx r hr).2
        exact ⟨ls, fun _ => ⟨(hx r hr).1, h1⟩⟩
      · exact ⟨[], fun h => absurd h hr⟩
    let f : Nat → List (List UInt8) := fun r => (each r).choose
    have hff : ∀ r, r < cap → W.cell? (a.add r) = some (V r) ∧ Many W.heap.size W (V r) (f r) := fun r => (each r).choose_spec
    have hlen : ((List.range len).map f).length = len := by simp
    refine ⟨(List.range len).map f, some a, cap, by rw [hlen], by rw [hlen]; exact hl, fun hp => ?_⟩
    rw [hlen] at hp ⊢
    obtain ⟨b, off, spot⟩ := a
    have hc := (hff 0 (by omega)).1
    have hspot : spot = none := by simpa [Addr.add] using World.cell?_spot hc
    subst hspot
    refine ⟨b, off, rfl, ?_, fun j hj => ⟨V j, ?_, ?_⟩⟩
    · have := block_lt_of_cell hc
      simpa [Addr.add] using this
    · rw [← addr_add]; exact (hff j (by omega)).1
    · have e : ((List.range len).map f)[j]?.getD [] = f j := by
        rw [List.getElem?_map, List.getElem?_range hj]; rfl
      rw [e]
      exact (hff j (by omega)).2
theorem wf_i64 {n : Int} (h : (Lit.int .i64 n).wf = true) : -9223372036854775808 ≤ n ∧ n ≤ 9223372036854775807 := by
  have := bounds_i64 h
  omega
end Go.Proofs.YtggdlklkjnbbjaaGreatDoor.E

