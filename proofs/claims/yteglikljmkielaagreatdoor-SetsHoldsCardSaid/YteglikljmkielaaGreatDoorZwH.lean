/- Sets: what asks places whether they are members of a cell. -/
import Derived.Test.YteglikljmkielaaGreatDoorZwG
import Derived.Maps.OwnSet
import Derived.Maps.OwnIn
import Derived.Laws.EntriesVeiled
namespace Go.Proofs.YteglikljmkielaaGreatDoor
open Go.RowKit Go.Shelf Go.Maps
set_option linter.unusedSimpArgs false
set_option linter.unusedVariables false

/-- A function of the program, that has captured nothing, as a map's element. -/
def readF (v : Value) : Option (DataW Unit × List MemPlace) :=
  match v with
  | .func (.func g) a c => if a.size = 0 ∧ c.size = 0 then some (.lit (.int .i64 g), []) else none
  | .nilFunc => some (.lit (.int .i64 0), [])
  | _ => none
theorem readF_func {v : Value} {g : Nat} {ps : List MemPlace} (h : readF v = some (.lit (.int .i64 (g : Int)), ps)) (hg : g ≠ 0) : v = .func (.func g) #[] #[] := by
  unfold readF at h
  split at h
  · rename_i q a c
    split at h
    · rename_i hac
      injection h with h
      injection h with h1 _
      injection h1 with h1
      injection h1 with _ h1
      have : q = g := Int.ofNat.inj h1
      rw [this, Array.eq_empty_of_size_eq_zero hac.1, Array.eq_empty_of_size_eq_zero hac.2]
    · cases h
  · simp only [Option.some.injEq, Prod.mk.injEq, DataW.lit.injEq, Lit.int.injEq] at h
    omega
  · cases h
/-- What the three ways are. -/
def waysD : DataW Unit := (((DataW.map []).put (.int .i64 2) (.lit (.int .i64 71))).put (.int .i64 3) (.lit (.int .i64 72))).put (.int .i64 4) (.lit (.int .i64 73))
/-- Block b is the map of the ways. -/
def Ways (W : World) (b : Nat) : Prop := W.ownsMap Tryz.prog 78 readF b 3 waysD
theorem Ways.look {W : World} {b : Nat} (h : Ways W b) (r : Int) (g : Nat) (hr : (Lit.int .i64 r).wf = true) (hg : g ≠ 0) (hat : waysD.atKey (.int .i64 r) (.lit (.int .i64 0)) = .lit (.int .i64 (g : Int))) :
    (Instr.lookup 82 (.map (some b)) (.int .i64 r) false).run Tryz.prog W = .ok (.func (.func g) #[] #[]) W := by
  obtain ⟨v, ps, hrun, hv⟩ := World.ownsMap.lookup h (int_keyed Tryz.underlying78) Tryz.underlying82 (Tryz.zeroValue81 W) (zd := .lit (.int .i64 0)) (zp := []) rfl (keyOf_int_mk Tryz.underlying78 hr)
  rw [hat] at hv
  rw [hrun, readF_func hv hg]

set_option maxRecDepth 100000 in
set_option maxHeartbeats 1000000 in
theorem ways_any (w : World) : Calls Tryz.prog 54 #[] w fun e w' => e = .returned (.map (some w.heap.size)) ∧ Ways w' w.heap.size ∧ Below w.heap.size w w' := by
  have hmm := @run_makeMap Tryz.prog
  have m0 := World.ownsMap_made w Tryz.prog 78 readF
  obtain ⟨w1, r1, m1, g1⟩ := World.ownsMap.update m0 (int_keyed Tryz.underlying78) Tryz.underlying82 (by unfold maxLen; omega) (key := .int .i64 2) (val := .func (.func 71) #[] #[]) (kl := .int .i64 2) (d := .lit (.int .i64 71)) (ps := []) (keyOf_int_mk Tryz.underlying78 (by decide)) rfl
  obtain ⟨w2, r2, m2, g2⟩ := World.ownsMap.update m1 (int_keyed Tryz.underlying78) Tryz.underlying82 (by unfold maxLen; omega) (key := .int .i64 3) (val := .func (.func 72) #[] #[]) (kl := .int .i64 3) (d := .lit (.int .i64 72)) (ps := []) (keyOf_int_mk Tryz.underlying78 (by decide)) rfl
  obtain ⟨w3, r3, m3, g3⟩ := World.ownsMap.update m2 (int_keyed Tryz.underlying78) Tryz.underlying82 (by unfold maxLen; omega) (key := .int .i64 4) (val := .func (.func 73) #[] #[]) (kl := .int .i64 4) (d := .lit (.int .i64 73)) (ps := []) (keyOf_int_mk Tryz.underlying78 (by decide)) rfl
  have hB1 : Below w.heap.size w w3 := (((below_one w (.map #[] 0)).grown g1 (by simp) (fun k e => by injection e with e; omega)).grown g2 (by have := g1.size; simp at this; omega) (fun k e => by injection e with e; omega)).grown g3 (by have := g1.size; have := g2.size; simp at *; omega) (fun k e => by injection e with e; omega)
  have HM : Hid (Ways w3 w.heap.size) := m3
  clear m0 m1 m2 m3 g1 g2 g3
  go_enter Tryz.func54, Tryz.ntmps54
  go_wp2
  go_ret
  exact ⟨rfl, HM.out, hB1⟩

/-- Of a role's cell in a row: is the place x y a member? -/
def wayB (k p d row r x y : Int) : Bool := if r = 2 then inRw d row x y else if r = 3 then onDg k p d row x y else onSl k p d row x y
theorem way_of (k p d n row r : Int) (hR : RightC k p) (h : r = 2 ∨ r = 3 ∨ r = 4) : ∃ g : Nat, g ≠ 0 ∧ waysD.atKey (.int .i64 r) (.lit (.int .i64 0)) = .lit (.int .i64 (g : Int)) ∧ (∀ args W, (callFunc g args).run Tryz.prog W = .ok (.enter g args) W) ∧
    ∀ x y W, Laid W → Calls Tryz.prog g #[.agg #[.int .i64 k, .int .i64 p, .int .i64 d, .int .i64 n], .int .i64 row, .agg #[.int .i64 x, .int .i64 y]] W fun e w' => e = .returned (.bool (wayB k p d row r x y)) ∧ Below W.heap.size W w' := by
  rcases h with rfl | rfl | rfl
  · exact ⟨71, by decide, by rfl, enters_of Tryz.func71 (by kernel_rfl) rfl, fun x y W hL => by unfold wayB; rw [if_pos rfl]; exact inRow_any k p d n row x y W⟩
  · exact ⟨72, by decide, by rfl, enters_of Tryz.func72 (by kernel_rfl) rfl, fun x y W hL => by unfold wayB; rw [if_neg (by decide), if_pos rfl]; exact onDiagonal_any k p d n row x y hR W hL⟩
  · exact ⟨73, by decide, by rfl, enters_of Tryz.func73 (by kernel_rfl) rfl, fun x y W hL => by unfold wayB; rw [if_neg (by decide), if_neg (by decide)]; exact onSlant_any k p d n row x y hR W hL⟩

/-- W' has all that lies in cells in w as it lay. -/
def Sub (w W : World) : Prop := w.heap.size ≤ W.heap.size ∧ ∀ (b : Nat) (cs : Array Value) (t : TypeId) (fr : Nat × Nat), w.heap[b]? = some (.cells cs t fr) → W.heap[b]? = some (.cells cs t fr)
theorem Sub.below {w W : World} (h : Below w.heap.size w W) : Sub w W := ⟨h.size, fun b cs t fr hb => (h.block b (Array.getElem?_eq_some_iff.1 hb).1).trans hb⟩
theorem Sub.trans {a b c : World} (h : Sub a b) (h' : Sub b c) : Sub a c := ⟨Nat.le_trans h.1 h'.1, fun x cs t fr hx => h'.2 x cs t fr (h.2 x cs t fr hx)⟩
theorem Sub.blk {w W : World} (h : Sub w W) {g : Nat} {t : TypeId} {cs : Array Value} (hb : Blk w g t cs) : Blk W g t cs := h.2 g cs t (0, 0) hb
theorem Sub.laid {w W : World} (h : Sub w W) (hL : Laid w) : Laid W := by
  obtain ⟨⟨t1, f1, h1⟩, t2, f2, h2⟩ := hL
  exact ⟨⟨t1, f1, h.2 _ _ _ _ h1⟩, t2, f2, h.2 _ _ _ _ h2⟩
theorem Sub.put {w : World} {l : Nat} (hl : ∃ r, w.heap[l]? = some (.loop r)) (ob : Obj) : Sub w (w.putObj l ob) := by
  obtain ⟨r, hr⟩ := hl
  exact ⟨by simp [World.putObj], fun b cs t fr hb => (World.putObj_heap_other (fun e => by rw [e, hr] at hb; cases hb)).trans hb⟩
/-- The function v answers, in whatever world comes, whether a place is one of q. -/
def Asks (q : Int → Int → Bool) (v : Value) (w : World) : Prop :=
  ∃ gf lb, v = .func (.func gf) #[] lb ∧ (∀ args W, (callFunc gf args).run Tryz.prog W = .ok (.enter gf args) W) ∧
    ∀ x y W, Sub w W → Calls Tryz.prog gf (#[.agg #[.int .i64 x, .int .i64 y]] ++ lb) W fun e w' => e = .returned (.bool (q x y)) ∧ Below W.heap.size W w'
theorem Asks.sub {q : Int → Int → Bool} {v : Value} {w w' : World} (h : Asks q v w) (hB : Sub w w') : Asks q v w' := by
  obtain ⟨gf, lb, e, eg, hc⟩ := h
  exact ⟨gf, lb, e, eg, fun x y W hW => hc x y W (hB.trans hW)⟩
theorem Asks.next {q : Int → Int → Bool} {v : Value} {w w' : World} (h : Asks q v w) (hB : Below w.heap.size w w') : Asks q v w' := h.sub (Sub.below hB)
theorem enter_asker1 : ∀ args W, (callFunc 55 args).run Tryz.prog W = .ok (.enter 55 args) W := enters_of Tryz.func55 (by kernel_rfl) rfl

set_option maxHeartbeats 1000000 in
theorem asker1_any (g ga gb gc : Nat) (q : Bool) (k p d n mx my x y : Int) (W : World) (hL : Laid W) (ba : Blk W ga 81 #[.func (.func g) #[] #[]]) (bb : Blk W gb 51 #[.int .i64 k, .int .i64 p, .int .i64 d, .int .i64 n]) (bc : Blk W gc 59 #[.int .i64 mx, .int .i64 my])
    (eg : ∀ args W, (callFunc g args).run Tryz.prog W = .ok (.enter g args) W) (hg : ∀ W, Laid W → Calls Tryz.prog g #[.agg #[.int .i64 k, .int .i64 p, .int .i64 d, .int .i64 n], .int .i64 my, .agg #[.int .i64 x, .int .i64 y]] W fun e w' => e = .returned (.bool q) ∧ Below W.heap.size W w') :
    Calls Tryz.prog 55 #[.agg #[.int .i64 x, .int .i64 y], .pointer (some ⟨ga, 0, none⟩), .pointer (some ⟨gb, 0, none⟩), .pointer (some ⟨gc, 0, none⟩)] W fun e w' => e = .returned (.bool q) ∧ Below W.heap.size W w' := by
  have hB := below_one W (.cells #[.int .i64 x, .int .i64 y] 59)
  have bX := Blk.new W 59 #[.int .i64 x, .int .i64 y]
  have ca := (ba.alloc (.cells #[.int .i64 x, .int .i64 y] 59)).one
  have c0 := (bb.alloc (.cells #[.int .i64 x, .int .i64 y] 59)).cell 0
  have c1 := (bb.alloc (.cells #[.int .i64 x, .int .i64 y] 59)).cell 1
  have c2 := (bb.alloc (.cells #[.int .i64 x, .int .i64 y] 59)).cell 2
  have c3 := (bb.alloc (.cells #[.int .i64 x, .int .i64 y] 59)).cell 3
  have m1 := (bc.alloc (.cells #[.int .i64 x, .int .i64 y] 59)).cell 1
  have x0 := bX.cell 0
  have x1 := bX.cell 1
  simp only [List.getElem?_toArray, List.getElem?_cons_zero, List.getElem?_cons_succ] at c0 c1 c2 c3 m1 x0 x1
  have HG := Lib.hid (hg _ (hL.next hB))
  clear hg
  go_enter Tryz.func55, Tryz.ntmps55
  go_wp2_with fail
  refine HG.out.mono ?_
  rintro e w1 ⟨rfl, hB1⟩
  go_wp2
  go_ret
  exact ⟨rfl, below_in hB hB1⟩

set_option maxHeartbeats 1000000 in
theorem asker_any (k p d n mx my r : Int) (hR : RightC k p) (hd : d = p - shortN k) (hc : HasCol k p mx) (hr : roleN d mx = r) (h234 : r = 2 ∨ r = 3 ∨ r = 4) (w : World) (hL : Laid w) :
    Calls Tryz.prog 41 #[.agg #[.int .i64 k, .int .i64 p, .int .i64 d, .int .i64 n], .agg #[.int .i64 mx, .int .i64 my]] w fun e w' => ∃ v, e = .returned v ∧ Asks (wayB k p d my r) v w' ∧ Below w.heap.size w w' := by
  have hmf := make_func
  obtain ⟨g, hg0, hat, eg, hg⟩ := way_of k p d n my r hR h234
  have hrw : (Lit.int .i64 r).wf = true := by rcases h234 with rfl | rfl | rfl <;> decide
  have HR := Lib.hid (fun W hL => (shapeRole_any k p mx W hL).mono fun _ _ h => tells3_yes hR hc h)
  rw [← hd, hr] at HR
  obtain ⟨W0, hW0⟩ : ∃ W0, (w.alloc (.cells #[.int .i64 k, .int .i64 p, .int .i64 d, .int .i64 n] 51)).alloc (.cells #[.int .i64 mx, .int .i64 my] 59) = W0 := ⟨_, rfl⟩
  have b0 : Blk W0 w.heap.size 51 #[.int .i64 k, .int .i64 p, .int .i64 d, .int .i64 n] := by rw [← hW0]; exact (Blk.new w _ _).alloc _
  have b1 : Blk W0 (w.heap.size + 1) 59 #[.int .i64 mx, .int .i64 my] := by rw [← hW0]; exact Blk.second w _ _ _
  have hB : Below w.heap.size w W0 := by rw [← hW0]; exact below_two w _ _
  have hL0 := hL.next hB
  have c0 := b0.cell 0
  have c1 := b0.cell 1
  have m0 := b1.cell 0
  have m1 := b1.cell 1
  simp only [List.getElem?_toArray, List.getElem?_cons_zero, List.getElem?_cons_succ] at c0 c1 m0 m1
  have HA := Lib.hid (fun W b (h : Ways W b) => h.look r g hrw hg0 hat)
  have HG := Lib.hid hg
  have HE := Lib.hid eg
  have HHR := Lib.hid hR
  clear hg eg hat hg0 hR hc hr hd h234
  go_enter Tryz.func41, Tryz.ntmps41
  go_wp2_with fail
  clear hW0
  refine (HR.out _ hL0).mono ?_
  rintro e w1 ⟨rfl, hB1⟩
  replace b0 := b0.below hB1 b0.lt
  replace b1 := b1.below hB1 b1.lt
  replace hB := below_in hB hB1
  replace hL0 := hL0.next hB1
  clear c0 c1 m0 m1
  go_wp2_with fail
  refine (ways_any _).mono ?_
  rintro e w2 ⟨rfl, hw, hB2⟩
  replace b0 := b0.below hB2 b0.lt
  replace b1 := b1.below hB2 b1.lt
  replace hB := below_in hB hB2
  replace hL0 := hL0.next hB2
  have hlk := HA.out _ _ hw
  have bW := Blk.new w2 81 #[.func (.func g) #[] #[]]
  have hBW := below_one w2 (.cells #[.func (.func g) #[] #[]] 81)
  go_wp2
  go_ret
  refine ⟨_, rfl, ⟨_, _, rfl, enter_asker1, fun x y W hW => ?_⟩, below_in hB hBW⟩
  exact asker1_any g w2.heap.size w.heap.size (w.heap.size + 1) _ k p d n mx my x y W (hW.laid (hL0.next hBW)) (hW.blk bW) (hW.blk (b0.below hBW b0.lt)) (hW.blk (b1.below hBW b1.lt)) HE.out (fun W' hL' => HG.out x y W' hL')
end Go.Proofs.YteglikljmkielaaGreatDoor
