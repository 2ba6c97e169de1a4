/- Sets: what goes down columns; what is gathered of such. -/
import Derived.Test.YteglikljmkielaaGreatDoorZwI
import Derived.Test.YteglikljmkielaaGreatDoorZwE
namespace Go.Proofs.YteglikljmkielaaGreatDoor
open Go.RowKit Go.Shelf
set_option linter.unusedSimpArgs false
set_option linter.unusedVariables false
attribute [local go_sem] Oper.semAt_some

theorem OwnI.less {w : World} {base base' : Nat} {v : Value} {l : List Int} (h : OwnI w base v l) (hb : base' ≤ base) : OwnI w base' v l := ⟨h.1, h.2.imp id fun ⟨g, cap, cur, h1, h2, h3⟩ => ⟨g, cap, cur, h1, Nat.le_trans hb h2, h3⟩⟩
/-- The function v goes over the places zs. -/
def Seqs (lo : Nat) (zs : List (Int × Int)) (v : Value) (w : World) : Prop :=
  ∃ gf lb, v = .func (.func gf) #[] lb ∧ (∀ args W, (callFunc gf args).run Tryz.prog W = .ok (.enter gf args) W) ∧
    ∀ n, 6 ≤ n → SeqO Fence.wide n Tryz.prog gf lb (fun x : Int × Int => #[.agg #[.int .i64 x.1, .int .i64 x.2]]) (fun x _ => x ∈ zs) (KeepL lo (w.heap.size - lo)) (fun ys => ys = zs) (fun pre => pre <+: zs) 1000 w
theorem KeepL.less {lo lo' k k' : Nat} {X Y : World} (h : KeepL lo k X Y) (h1 : lo ≤ lo') (h2 : lo' + k' ≤ lo + k) : KeepL lo' k' X Y := ⟨h.1.less h1 h2, h.2⟩
theorem Seqs.less {lo lo' : Nat} {zs : List (Int × Int)} {v : Value} {w : World} (h : Seqs lo zs v w) (hl : lo' ≤ lo) (hw : lo ≤ w.heap.size) : Seqs lo' zs v w := by
  obtain ⟨gf, lb, e, eg, hg⟩ := h
  exact ⟨gf, lb, e, eg, fun n hn l J Jx W o₀ hW ho₀ hJ hJx hr1 hr2 hY h0 => hg n hn l J Jx W o₀ hW ho₀ hJ hJx hr1 hr2 (fun pre x o W1 hj hok hl' hs => (hY pre x o W1 hj hok hl' hs).mono fun _ _ ⟨o', hf, hS, h⟩ => ⟨o', hf, hS, h.imp (fun ⟨h1, h2, h3⟩ => ⟨h1, h2, h3.less hl (by omega)⟩) id⟩) h0⟩
theorem enter_setsDown1 : ∀ args W, (callFunc 74 args).run Tryz.prog W = .ok (.enter 74 args) W := enters_of Tryz.func74 (by kernel_rfl) rfl

set_option maxHeartbeats 1000000 in
theorem setsDown_any (k p d c : Int) (hR : RightC k p) (cs : List Int) (hne : cs ≠ []) (hcs : ∀ x ∈ cs, HasCol k p x) (hcl : cs.length ≤ 20) (w : World) (hL : Laid w) (base : Nat) (v : Value) (hb : base ≤ w.heap.size) (ho : OwnI w base v cs) :
    Calls Tryz.prog 56 #[.agg #[.int .i64 k, .int .i64 p, .int .i64 d, .int .i64 c], v] w fun e w' => ∃ u, e = .returned u ∧ Seqs base (flatC p cs) u w' ∧ Below w.heap.size w w' := by
  have hmf := make_func
  have hlen : 0 < cs.length := List.length_pos_iff.2 hne
  obtain ⟨bq, cap, rfl, hq1, hq2⟩ := World.ownsRow.form ho hlen
  have hcc : ∀ (j : Nat) (hj : j < cs.length), w.cell? ⟨bq, j, none⟩ = some (.int .i64 cs[j]) := fun j hj => by
    rw [World.ownsRow.cellAt ho j (by omega), List.getElem?_map, List.getElem?_eq_getElem hj]; rfl
  have HC := Lib.hid hcc
  clear hcc ho
  have bg := (Blk.new w 51 #[.int .i64 k, .int .i64 p, .int .i64 d, .int .i64 c]).alloc (.cells #[.slice (some ⟨bq, 0, none⟩) cs.length cap] 67)
  have bh := Blk.second w (.cells #[.int .i64 k, .int .i64 p, .int .i64 d, .int .i64 c] 51) 67 #[.slice (some ⟨bq, 0, none⟩) cs.length cap]
  have hB := below_two w (.cells #[.int .i64 k, .int .i64 p, .int .i64 d, .int .i64 c] 51) (.cells #[.slice (some ⟨bq, 0, none⟩) cs.length cap] 67)
  go_enter Tryz.func56, Tryz.ntmps56
  go_wp2
  go_ret
  have hL2 := hL.next hB
  refine ⟨_, rfl, ⟨_, _, rfl, enter_setsDown1, ?_⟩, hB⟩
  intro n hn l J Jx W o₀ hW ho₀ hJ hJx hr1 hr2 hY h0
  have hsz := hW.size
  simp at hsz
  exact setsDown_in n hn l w.heap.size (w.heap.size + 1) base _ bq cap k p d c hR cs hcs hcl ⟨hb, by simp; omega⟩ ⟨by omega, by simp; omega⟩ ⟨hq1, by simp; omega⟩ W (by simp; omega) (hL2.next hW) J Jx o₀ ho₀ hJ hJx hr1 hr2 hY
    (bg.below hW bg.lt) (bh.below hW bh.lt) (fun j hj => nextc (nextc (HC.out j hj) hB) hW) h0

set_option maxHeartbeats 2000000 in
theorem ahead_any (k p d c mx my : Int) (hR : RightC k p) (h1 : 1 ≤ mx) (h2 : mx ≤ 20) (hcs : ∀ x ∈ spanL 0 mx, HasCol k p x) (w : World) (hL : Laid w) :
    Calls Tryz.prog 42 #[.agg #[.int .i64 k, .int .i64 p, .int .i64 d, .int .i64 c], .agg #[.int .i64 mx, .int .i64 my]] w fun e w' => ∃ u, e = .returned u ∧ Seqs w.heap.size (flatC p (spanL 0 mx)) u w' ∧ Below w.heap.size w w' := by
  have HS := Lib.hid (fun W => span_any 0 mx (by omega) (by omega) (by omega) W)
  have hne : spanL 0 mx ≠ [] := fun e => by have := spanL_len 0 mx; rw [e] at this; simp at this; omega
  have hsl : (spanL 0 mx).length ≤ 20 := by rw [spanL_len]; omega
  have HDn := Lib.hid (fun W hL base v hb ho => setsDown_any k p d c hR (spanL 0 mx) hne hcs hsl W hL base v hb ho)
  obtain ⟨W0, hW0⟩ : ∃ W0, (w.alloc (.cells #[.int .i64 k, .int .i64 p, .int .i64 d, .int .i64 c] 51)).alloc (.cells #[.int .i64 mx, .int .i64 my] 59) = W0 := ⟨_, rfl⟩
  have b0 : Blk W0 w.heap.size 51 #[.int .i64 k, .int .i64 p, .int .i64 d, .int .i64 c] := by rw [← hW0]; exact (Blk.new w _ _).alloc _
  have b1 : Blk W0 (w.heap.size + 1) 59 #[.int .i64 mx, .int .i64 my] := by rw [← hW0]; exact Blk.second w _ _ _
  have hB : Below w.heap.size w W0 := by rw [← hW0]; exact below_two w _ _
  have hL0 := hL.next hB
  have hs0 := hB.size
  clear hcs hne hsl hR
  generalize spanL 0 mx = cs at *
  go_enter Tryz.func42, Tryz.ntmps42
  go_wp2_with fail
  clear hW0
  go_region_held3 (fun W => W.cell? ⟨w.heap.size, 0, none⟩ = some (.int .i64 k) ∧ W.cell? ⟨w.heap.size, 1, none⟩ = some (.int .i64 p) ∧ W.cell? ⟨w.heap.size, 2, none⟩ = some (.int .i64 d) ∧ W.cell? ⟨w.heap.size, 3, none⟩ = some (.int .i64 c) ∧ W.cell? ⟨w.heap.size + 1, 0, none⟩ = some (.int .i64 mx))
    (exact ⟨b0.cell 0, b0.cell 1, b0.cell 2, b0.cell 3, b1.cell 0⟩) (first
    | (go_at_call 57; refine (HS.out _).mono ?_; rintro e w1 ⟨u1, rfl, ho1, hB1⟩; (first | replace b0 := b0.below hB1 b0.lt | replace b0 := b0.nextd hB1); (first | replace b1 := b1.below hB1 b1.lt | replace b1 := b1.nextd hB1); (first | replace hB := below_in hB hB1 | replace hB := below_in hB.drew hB1); have hL1 := (by first | exact Laid.next (w := W0.drew) hL0 hB1 | exact Laid.next (w := W0) hL0 hB1 : Laid w1))
    | (go_at_call 56; refine (HDn.out _ hL1 w.heap.size _ (by have := hB.size; omega) (OwnI.less ho1 hs0)).mono ?_; rintro e w2 ⟨u2, rfl, hsq, hB2⟩; replace b0 := b0.below hB2 b0.lt; replace b1 := b1.below hB2 b1.lt; replace hB := below_in hB hB2))
  all_goals go_wp2
  all_goals go_ret
  all_goals exact ⟨_, rfl, hsq, hB⟩
end Go.Proofs.YteglikljmkielaaGreatDoor
