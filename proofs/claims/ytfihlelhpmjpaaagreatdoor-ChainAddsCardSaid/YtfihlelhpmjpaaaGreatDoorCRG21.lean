/- The laws of chain: num, there, the chapter's rows. EVENODD: what is made belongs together with what it is made of. The document's Put: columns of one shape, put upon one another. The mathematics of EV -/
import Derived.Laws.StructEq
import Derived.Maps.OwnIn
import Derived.Maps.OwnSet
import Derived.Laws.EntriesVeiled
import Derived.Deep.AppendLies
import Derived.RangeFuncNested
import Derived.Shelf.RegionOpen
import Derived.Laws.OwnMore
import Derived.Test.YtfihlelhpmjpaaaGreatDoorCRG20
namespace Go.Proofs.YtfihlelhpmjpaaaGreatDoor.T
open Go.RowKit Go.Shelf Go.Maps Go.Proofs.YtfihlelhpmjpaaaGreatDoor.C Go.Proofs.YtfihlelhpmjpaaaGreatDoor.E Go.Proofs.YtfihlelhpmjpaaaGreatDoor.Ch
set_option linter.unusedSimpArgs false
set_option linter.unusedVariables false
attribute [local go_sem] Oper.semAt_some

set_option maxHeartbeats 400000 in
theorem num11_any (n : Int) (w : World) : Calls Tryz.prog 19 #[.int .i64 n] w fun e w' => e = .returned (.int .i64 n) ∧ w = w' := by
  go_enter Tryz.func19, Tryz.ntmps19
  go_wp2
  go_ret
  exact ⟨rfl, rfl⟩
theorem solves_cols {P Q n : Nat} (d : Rg.Dims P Q n) {R D A B : List (List UInt8)} {a b : Int} (gA : GoodC Q n A) (gB : GoodC Q n B) (hR : R = Rg.sumC Q [A, B]) (hD : D = Rg.sumC Q [Rg.turnC P Q n A a, Rg.turnC P Q n B b]) : Solves P Q n R D A B a b :=
  ⟨gA, gB, fun j r => by rw [hR]; exact bt_sum2 d gA gB j r, fun j r => by
    rw [hD, bt_sum2 d (Rg.turn_good d.h1 d.h64 gA a) (Rg.turn_good d.h1 d.h64 gB b), Rg.bt_turn d.hQ gA, Rg.bt_turn d.hQ gB]⟩
def cssW : List (List (List UInt8)) := [[], [[9]], [[16], [32]], [[21], [42]], [[57], [30]]]
theorem dimsW : Rg.Dims 3 2 1 := ⟨rfl, by decide, by decide, by decide⟩
theorem good_W (x y : UInt8) : GoodC 2 1 [[x], [y]] := ⟨rfl, fun k hk => (by
  have hk2 : k = 0 ∨ k = 1 := by omega
  rcases hk2 with rfl | rfl <;> exact ⟨⟨by show 1 ≤ 1; omega, by show 1 ≤ 64; omega⟩, rfl⟩)⟩
theorem solves_W : Solves 3 2 1 (rsF 3 2 (lostC [0, 1] 2 1 cssW)) (dsF 3 2 (lostC [0, 1] 2 1 cssW)) [[1], [2]] [[4], [8]] 0 1 :=
  solves_cols dimsW (good_W 1 2) (good_W 4 8) (by decide +kernel) (by decide +kernel)
theorem goods_W : ∀ i, i < cssW.length → (i : Int) ∉ [(0 : Int), 1] → GoodC 2 1 (cssW[i]?.getD []) := by
  intro i hi hm
  have h5 : i < 5 := hi
  rcases i with _ | _ | _ | _ | _ | i
  · exact absurd (by simp) hm
  · exact absurd (by simp) hm
  · exact good_W 16 32
  · exact good_W 21 42
  · exact good_W 57 30
  · omega
theorem order_W : (chn 0 1 (Rg.rowsF 3 (walkN 3 (3 - 1) (0 - 1)))).map (fun x : Int × Int × Int => (x.2.1, x.2.2)) = [(1, 1), (0, 1), (1, 0), (0, 0)] := by decide +kernel
/-- The cells of the chapter's rows. -/
def osW (w : World) : List Obj := [.cells #[.int .u8 9] 5, .cells #[.slice (some ⟨w.heap.size + 0, 0, none⟩) 1 1] 57,
  .cells #[.int .u8 16] 5, .cells #[.int .u8 32] 5, .cells #[.slice (some ⟨w.heap.size + 2, 0, none⟩) 1 1, .slice (some ⟨w.heap.size + 3, 0, none⟩) 1 1] 57,
  .cells #[.int .u8 21] 5, .cells #[.int .u8 42] 5, .cells #[.slice (some ⟨w.heap.size + 5, 0, none⟩) 1 1, .slice (some ⟨w.heap.size + 6, 0, none⟩) 1 1] 57,
  .cells #[.int .u8 57] 5, .cells #[.int .u8 30] 5, .cells #[.slice (some ⟨w.heap.size + 8, 0, none⟩) 1 1, .slice (some ⟨w.heap.size + 9, 0, none⟩) 1 1] 57,
  .cells #[.slice none 0 0, .slice (some ⟨w.heap.size + 1, 0, none⟩) 1 1, .slice (some ⟨w.heap.size + 4, 0, none⟩) 2 2, .slice (some ⟨w.heap.size + 7, 0, none⟩) 2 2, .slice (some ⟨w.heap.size + 10, 0, none⟩) 2 2] 37]
theorem byte_W {W : World} {g : Nat} {x : UInt8} (h : Blk W g 5 #[.int .u8 (x.toNat : Int)]) : Bytes W.heap.size W (.slice (some ⟨g, 0, none⟩) 1 1) [x] :=
  ⟨_, 1, rfl, Nat.le_refl _, fun _ => ⟨g, 0, rfl, h.lt, fun j hj => by obtain rfl : j = 0 := (by have : j < 1 := hj; omega); exact h.cell _⟩⟩
theorem many_W {W : World} {g ga gb : Nat} {x y : UInt8} (h : Blk W g 57 #[.slice (some ⟨ga, 0, none⟩) 1 1, .slice (some ⟨gb, 0, none⟩) 1 1]) (ha : Blk W ga 5 #[.int .u8 (x.toNat : Int)]) (hb : Blk W gb 5 #[.int .u8 (y.toNat : Int)]) : Many W.heap.size W (.slice (some ⟨g, 0, none⟩) 2 2) [[x], [y]] := many2 h (byte_W ha) (byte_W hb) h.lt
theorem cols_W (w : World) : Cols (allocs w (osW w)).heap.size (allocs w (osW w)) (.slice (some ⟨w.heap.size + 11, 0, none⟩) 5 5) cssW := by
  have k : ∀ (k : Nat) (t : TypeId) (cs : Array Value), (osW w)[k]? = some (.cells cs t) → Blk (allocs w (osW w)) (w.heap.size + k) t cs := fun k t cs h => allocs_blk w (osW w) k t cs h
  refine ⟨_, 5, rfl, Nat.le_refl _, fun _ => ⟨_, 0, rfl, (k 11 _ _ rfl).lt, fun j hj => ?_⟩⟩
  have h5 : j < 5 := hj
  rcases j with _ | _ | _ | _ | _ | j
  · exact ⟨_, (k 11 _ _ rfl).cell 0, Many.nil_ _ _ _ _⟩
  · refine ⟨_, (k 11 _ _ rfl).cell 1, ⟨_, 1, rfl, Nat.le_refl _, fun _ => ⟨_, 0, rfl, (k 1 _ _ rfl).lt, fun i hi => ?_⟩⟩⟩
    obtain rfl : i = 0 := (by have : i < 1 := hi; omega)
    exact ⟨_, (k 1 _ _ rfl).cell 0, byte_W (x := 9) (k 0 _ _ rfl)⟩
  · exact ⟨_, (k 11 _ _ rfl).cell 2, many_W (x := 16) (y := 32) (k 4 _ _ rfl) (k 2 _ _ rfl) (k 3 _ _ rfl)⟩
  · exact ⟨_, (k 11 _ _ rfl).cell 3, many_W (x := 21) (y := 42) (k 7 _ _ rfl) (k 5 _ _ rfl) (k 6 _ _ rfl)⟩
  · exact ⟨_, (k 11 _ _ rfl).cell 4, many_W (x := 57) (y := 30) (k 10 _ _ rfl) (k 8 _ _ rfl) (k 9 _ _ rfl)⟩
  · omega
theorem readA_W {W : World} {g : Nat} (h : Blk W g 55 #[.int .i64 1, .int .i64 1, .int .i64 0, .int .i64 1, .int .i64 1, .int .i64 0, .int .i64 0, .int .i64 0]) : ReadA W (.slice (some ⟨g, 0, none⟩) 4 4) [(1, 1), (0, 1), (1, 0), (0, 0)] :=
  ⟨_, 4, rfl, fun j hj => ⟨g, rfl, h.lt, by
    have h4 : j < 4 := hj
    rcases j with _ | _ | _ | _ | j
    · exact ⟨h.cell 0, h.cell 1⟩
    · exact ⟨h.cell 2, h.cell 3⟩
    · exact ⟨h.cell 4, h.cell 5⟩
    · exact ⟨h.cell 6, h.cell 7⟩
    · omega⟩⟩
def osV (w : World) : List Obj := [.cells #[.int .u8 1] 5, .cells #[.int .u8 2] 5, .cells #[.slice (some ⟨w.heap.size + 0, 0, none⟩) 1 1, .slice (some ⟨w.heap.size + 1, 0, none⟩) 1 1] 57,
  .cells #[.int .u8 4] 5, .cells #[.int .u8 8] 5, .cells #[.slice (some ⟨w.heap.size + 3, 0, none⟩) 1 1, .slice (some ⟨w.heap.size + 4, 0, none⟩) 1 1] 57,
  .cells #[.slice (some ⟨w.heap.size + 2, 0, none⟩) 2 2, .slice (some ⟨w.heap.size + 5, 0, none⟩) 2 2] 37]
theorem cols_V (w : World) : Cols (allocs w (osV w)).heap.size (allocs w (osV w)) (.slice (some ⟨w.heap.size + 6, 0, none⟩) 2 2) [[[1], [2]], [[4], [8]]] := by
  have k : ∀ (k : Nat) (t : TypeId) (cs : Array Value), (osV w)[k]? = some (.cells cs t) → Blk (allocs w (osV w)) (w.heap.size + k) t cs := fun k t cs h => allocs_blk w (osV w) k t cs h
  exact Rg.cols_two (k 6 _ _ rfl) (many_W (x := 1) (y := 2) (k 2 _ _ rfl) (k 0 _ _ rfl) (k 1 _ _ rfl)) (many_W (x := 4) (y := 8) (k 5 _ _ rfl) (k 3 _ _ rfl) (k 4 _ _ rfl)) (k 6 _ _ rfl).lt
theorem small_V : ∀ j : Nat, (([[[(1 : UInt8)], [2]], [[4], [8]]] : List (List (List UInt8)))[j]?.getD []).length ≤ 1000 := by
  intro j
  rcases j with _ | _ | j
  · show 2 ≤ 1000; omega
  · show 2 ≤ 1000; omega
  · simp
set_option maxRecDepth 100000 in
set_option maxHeartbeats 4000000 in
theorem works11_any (w : World) (hL : Laid w) : Calls Tryz.prog 14 #[] w fun e w' => e = .returned (.bool true) ∧ Below w.heap.size w w' := by
  have HO1 := Lib.hid (by have h := order_yes 3 0 1 (by decide) (by decide) (by decide) (by decide) w hL; rw [order_W] at h; exact h)
  have HO2 := Lib.hid (fun (U : World) (hU : Below w.heap.size w U) => order_no4 3 1 1 (by decide) (by decide) U (hL.next hU))
  have HRE := Lib.hid (fun (U : World) (hU : Below w.heap.size w U) (v : Value) (hv : v = .slice (some ⟨U.heap.size + 11, 0, none⟩) 5 5) => (by
    have h := recover_yes (B := (allocs U (osW U)).heap.size) dimsW 0 1 (by decide) (by decide) (by decide) cssW 5 rfl rfl goods_W (some ⟨U.heap.size + 11, 0, none⟩) 5 [[1], [2]] [[4], [8]] solves_W (allocs U (osW U)) (hL.next (below_in hU (allocs_below U (osW U)))) (Nat.le_refl _) (cols_W U)
    rw [show ((3 : Nat) : Int) = 3 from rfl] at h
    exact h))
  have HLW := Lib.hid (fun (U : World) (hU : Below w.heap.size w U) => hL.next hU)
  clear hL
  go_enter Tryz.func14, Tryz.ntmps14
  go_wp2_with fail
  refine HO1.out.mono ?_
  rintro e w1 ⟨u1, rfl, hu1, hB1⟩
  obtain ⟨A1, n1, c1, rfl⟩ := hu1.form
  go_wp2_with fail
  refine (HO2.out w1 hB1).mono ?_
  rintro e w2 ⟨rfl, hB2⟩
  go_wp2_with fail
  have hB3a := allocs_below w2 (osW w2)
  refine (HRE.out w2 (below_in hB1 hB2) _ rfl).mono ?_
  rintro e w3 ⟨u3, rfl, hC3, hB3⟩
  have hB23 := below_in hB3a hB3
  have hr := (hu1.readA.next hB2).next hB23
  have hBw := below_in (below_in hB1 hB2) hB23
  obtain ⟨A3, c3, e3, _⟩ := id hC3
  have e3' : u3 = .slice A3 2 c3 := e3
  subst e3'
  clear hu1 HO1 HO2 HRE hB1 hB2 hB3 hB3a hB23 e3
  go_wp2_with (go_at_call 19; refine (num11_any _ _).mono ?_; rintro e w' ⟨rfl, rfl⟩)
  have hBa := below_one w3 (.cells #[.int .i64 1, .int .i64 1, .int .i64 0, .int .i64 1, .int .i64 1, .int .i64 0, .int .i64 0, .int .i64 0] 55)
  refine (same_yes _ _ _ (by simp) _ (hr.next hBa) (readA_W (Blk.new w3 _ _))).mono ?_
  rintro e w4 ⟨rfl, hB4⟩
  have hB34 := below_in hBa hB4
  have hC4 := (hC3.below hB34).more hB34.size
  have hBw4 := below_in hBw hB34
  clear hr hC3 hBa hB4 hB34 hBw
  go_wp2_with fail
  have hB5 := allocs_below w4 (osV w4)
  have hS := same6_any (B := w4.heap.size) (.slice A3 2 c3) (.slice (some ⟨w4.heap.size + 6, 0, none⟩) 2 2) [[[1], [2]], [[4], [8]]] [[[1], [2]], [[4], [8]]] (allocs w4 (osV w4)) (hC4.below hB5) (cols_V w4) hB5.size (Nat.le_refl _) small_V small_V (by simp) (by simp)
  rw [show decide ([[[(1 : UInt8)], [2]], [[4], [8]]] = [[[1], [2]], [[4], [8]]]) = true from rfl] at hS
  refine hS.mono ?_
  rintro e w5 ⟨rfl, hB6⟩
  have hBw6 := below_in (below_in hBw4 hB5) hB6
  clear hS hB5 hC4 hBw4 hB6
  go_wp2_with fail
  go_ret
  exact ⟨rfl, hBw6⟩
end Go.Proofs.YtfihlelhpmjpaaaGreatDoor.T

namespace Go.Proofs.YtfihlelhpmjpaaaGreatDoor.E
open Go.RowKit Go.Shelf Go.Proofs.YtfihlelhpmjpaaaGreatDoor.C
set_option linter.unusedSimpArgs false
set_option linter.unusedVariables false

theorem RowG.own_lt {α : Type} {r : Rep α} {t : TypeId} {d : α} {Q : Nat → Prop} {W : World} {base : Nat} {v : Value} {xs : List α} (h : RowG r t d Q W base v xs) (k : Nat) (e : v.ownBlock = some k) : k < W.heap.size := by
  obtain ⟨us, ho, _⟩ := h
  exact (World.ownsRow.lt ho k e).2
theorem map_next {α β : Type} (g : α → β) (d : α) (xs : List α) {k : Nat} (hk : k < xs.length) : (xs.map g).take (k + 1) = (xs.map g).take k ++ [g (xs[k]?.getD d)] := by
  rw [List.take_succ_eq_append_getElem (by rw [List.length_map]; exact hk), List.getElem_map, List.getElem?_eq_getElem hk]
  rfl
end Go.Proofs.YtfihlelhpmjpaaaGreatDoor.E

namespace Go.Proofs.YtfihlelhpmjpaaaGreatDoor.E
open Go.RowKit Go.Shelf Go.Proofs.YtfihlelhpmjpaaaGreatDoor.C
set_option linter.unusedSimpArgs false
set_option linter.unusedVariables false

section
variable {Q : Nat → Prop} {base : Nat} {v : Value}
theorem opIn_pushM {F : Fence} {nF : Nat} {T : TypeId} (w : World) {o : Oper} {a : Act} {K : Act → World → Prop} {QQ : Exit → Act → World → Prop} (s x : Operand)
    (ho : o.op = .call { callee := .builtin .append, args := #[s, x], argTypes := #[T, T] }) (hT : Tryz.prog.underlying T = some (.slice 57)) (ls : List (List UInt8)) (hs : a.eval s = v) (h : RowM Q w base v ls)
    (g : Nat) (tg : TypeId) (u : Value) (l : List UInt8) (hx : a.eval x = .slice (some ⟨g, 0, none⟩) 1 1) (hg : Blk w g tg #[u]) (hu : BytesP (fun b => b < w.heap.size ∧ some b ≠ v.ownBlock ∧ Q b) w u l) (hlen : ls.length ≤ 100000) (hbase : base ≤ w.heap.size)
    (hK : ∀ v' w', RowM Q w' base v' (ls ++ [l]) → w.grownBy w' v.ownBlock → (v'.ownBlock = v.ownBlock ∨ v'.ownBlock = some w.heap.size) → K (a.put o.dst v') w') : Oper.wpIn F nF Tryz.prog o a w K QQ := by
  obtain ⟨i, hi, hz0, hz1, hz2⟩ := info_parts Tryz.infoSlcE
  obtain ⟨v', w', hrun, h1, h2, h3⟩ := RowG.push i hi hz0 hz1 hz2 T o.type hT h g tg u l hg hu hlen hbase
  unfold Oper.wpIn
  refine ⟨by simp [Oper.about, ho, resolve, Target.leads, Sem.run_pure], ?_⟩
  rw [Oper.semAt_plain F _ _ (by rw [ho]; intro c hc'; cases hc')]
  simp [execOp, ho, resolve, invoke, builtin, hs, hx, hrun, Result.andThen, Oper.uponIn]
  exact hK v' w' h1 h2 h3
end
end Go.Proofs.YtfihlelhpmjpaaaGreatDoor.E

namespace Go.Proofs.YtfihlelhpmjpaaaGreatDoor.E
open Go.RowKit Go.Shelf Go.Proofs.YtfihlelhpmjpaaaGreatDoor.C
set_option linter.unusedSimpArgs false
set_option linter.unusedVariables false

/-- All cells, row by row. -/
def grid (R n : Nat) : List (Nat × Nat) := (List.range R).flatMap fun r => (List.range n).map fun c => (c, r)
def slants (p : Int) : List (Nat × Nat) := (List.range p.toNat).flatMap fun (a : Nat) => diagAt p (a : Int) p.toNat
section
variable {p : Int} {a b css : List (List (List UInt8))}
end
end Go.Proofs.YtfihlelhpmjpaaaGreatDoor.E

namespace Go.Proofs.YtfihlelhpmjpaaaGreatDoor
open Go.RowKit Go.Shelf
set_option linter.unusedSimpArgs false
set_option linter.unusedVariables false

def atV (x : Int × Int) : Value := .agg #[.int .i64 x.1, .int .i64 x.2]
set_option maxRecDepth 100000 in
theorem eqAt (a b c d : Int) (w : World) : (Op.equalIn 10000 55 (.agg #[.int .i64 a, .int .i64 b]) (.agg #[.int .i64 c, .int .i64 d])).run Tryz.prog w = .ok (a == c && b == d) w := by
  have u3 := Tryz.underlying3
  have a3 := Tryz.isAgg3
  have z3 := Tryz.sizeOf3
  have hS : Tryz.prog.underlying 55 = some (.struct (Tryz.prog.fieldsOf 55)) := by kernel_rfl
  have hp : Tryz.prog.stoodInHeld 55 = false := by kernel_rfl
  rw [show (10000 : Nat) = 9999 + 1 from rfl, run_equalIn_agg w 9999 55 _ _ hS hp]
  simp only [Program.fieldsOf, Tryz.underlying55]
  go_simp
  by_cases h1 : a = c <;> by_cases h2 : b = d <;> simp [h1, h2]
theorem find_none (x : Int × Int) (w : World) : ∀ (es : List MapEntry) (i : Nat), (∀ e ∈ es, ∃ y, e.key = atV y ∧ y ≠ x) → (Instr.findAsking 55 (atV x) es i).run Tryz.prog w = .ok none w
  | [], i, _ => by simp [Instr.findAsking]
  | e :: es, i, h => by
    obtain ⟨y, hy, hne⟩ := h e (by simp)
    have hq : (Op.equal 55 (atV x) e.key).run Tryz.prog w = .ok false w := by
      rw [hy]
      unfold Op.equal atV
      rw [show Op.maxDepth = 10000 from rfl, eqAt]
      congr 1
      rw [Bool.and_eq_false_iff]
      by_cases h1 : x.1 = y.1
      · right
        rw [beq_eq_false_iff_ne]
        intro h2
        exact hne (Prod.ext h1.symm h2.symm)
      · left
        rwa [beq_eq_false_iff_ne]
    unfold Instr.findAsking
    simp only [Sem.run_bind, hq, Result.andThen_ok, Bool.false_eq_true, if_false]
    exact find_none x w es (i + 1) (fun e' he' => h e' (by simp [he']))
/-- Block b is a map of the places l, none of which is there twice. -/
def AtMap (W : World) (b : Nat) (l : List (Int × Int)) : Prop := ∃ es ck, W.heap[b]? = some (.map es ck) ∧ ∀ e ∈ es.toList, ∃ y ∈ l, e.key = atV y
theorem AtMap.made (w : World) : AtMap (w.alloc (.map #[] 0)) w.heap.size [] := ⟨#[], 0, by show (w.heap.push (.map #[] 0))[w.heap.size]? = _; exact Array.getElem?_push_size, fun e he => by simp at he⟩
theorem AtMap.lt {W : World} {b : Nat} {l : List (Int × Int)} (h : AtMap W b l) : b < W.heap.size := by
  obtain ⟨es, ck, h1, _⟩ := h
  exact (Array.getElem?_eq_some_iff.1 h1).1
theorem AtMap.below {X Y : World} {B b : Nat} {l : List (Int × Int)} (h : AtMap X b l) (hb : Below B X Y) (hB : b < B) : AtMap Y b l := by
  obtain ⟨es, ck, hh, hF⟩ := h
  exact ⟨es, ck, (hb.block b hB).trans hh, hF⟩
theorem AtMap.keep {X Y : World} {b : Nat} {l : List (Int × Int)} (h : AtMap X b l) (hb : Y.heap[b]? = X.heap[b]?) : AtMap Y b l := by
  obtain ⟨es, ck, hh, hF⟩ := h
  exact ⟨es, ck, hb.trans hh, hF⟩
set_option maxRecDepth 100000 in
theorem check_at (em : Bool) (x : Int × Int) (w : World) : (Instr.checkKey em 10000 55 (atV x)).run Tryz.prog w = .ok () w := by
  cases em <;> kernel_rfl
theorem find_key (x : Int × Int) (w : World) (es : List MapEntry) (h : ∀ e ∈ es, ∃ y, e.key = atV y ∧ y ≠ x) : (Instr.findKey 55 (atV x) es).run Tryz.prog w = .ok none w := by
  unfold Instr.findKey
  simp only [Sem.run_bind, run_underlying Tryz.underlying55, Result.andThen_ok]
  cases es with
  | nil => simp [Instr.findNow]
  | cons e es =>
    obtain ⟨y, hy, _⟩ := h e (by simp)
    have e1 : Instr.sameNow (TypeDesc.struct (Tryz.prog.fieldsOf 55)) (atV x) e.key = none := by rw [hy]; rfl
    unfold Instr.findNow
    simp only [Program.fieldsOf, Tryz.underlying55] at e1
    rw [e1]
    exact find_none x w _ _ h
theorem AtMap.put {W : World} {b : Nat} {l : List (Int × Int)} (h : AtMap W b l) (c r : Int) (hx : (c, r) ∉ l) :
    ∃ W', (Instr.mapUpdate 53 (.map (some b)) (.agg #[.int .i64 c, .int .i64 r]) (.int .i64 1)).run Tryz.prog W = .ok () W' ∧ AtMap W' b (l ++ [(c, r)]) ∧ Below b W W' := by
  have hlt := h.lt
  obtain ⟨es, ck, hh, hF⟩ := h
  have hf := find_key (c, r) W es.toList (fun e he => by
    obtain ⟨y, hy, e1⟩ := hF e he
    exact ⟨y, e1, fun e2 => hx (by rw [← e2]; exact hy)⟩)
  have hc := fun em => check_at em (c, r) W
  unfold atV at hf hc
  have hc' := hc false
  have hf' := hf
  simp only at hc' hf'
  refine ⟨{ W with heap := W.heap.setIfInBounds b (.map (es.push { key := .agg #[.int .i64 c, .int .i64 r], val := .int .i64 1, born := ck }) (ck + 1)) }, ?_, ⟨es.push { key := .agg #[.int .i64 c, .int .i64 r], val := .int .i64 1, born := ck }, ck + 1, by simp [hlt], fun e he => ?_⟩, ?_⟩
  · unfold Instr.mapUpdate
    simp only [Sem.run_bind, run_underlying Tryz.underlying53, Result.andThen_ok, Sem.run_pure, Go.MapKept.run_getObj_map hh]
    rw [hc']
    simp only [Result.andThen_ok]
    rw [hf']
    simp only [Result.andThen_ok]
    rw [Go.MapKept.run_setObj_map _ hh]
  · simp only [Array.toList_push, List.mem_append, List.mem_singleton] at he
    rcases he with he | rfl
    · obtain ⟨y, hy, e1⟩ := hF e he
      exact ⟨y, by simp [hy], e1⟩
    · exact ⟨(c, r), by simp, rfl⟩
  · exact ⟨rfl, rfl, rfl, by simp, fun k hk => by simp [Array.getElem?_setIfInBounds, show ¬ b = k by omega]⟩
end Go.Proofs.YtfihlelhpmjpaaaGreatDoor

namespace Go.Proofs.YtfihlelhpmjpaaaGreatDoor
open Go.RowKit Go.Shelf
set_option linter.unusedSimpArgs false
set_option linter.unusedVariables false

/-- The numbers from one on that are below another one. -/
def spanL (a b : Int) : List Int := (List.range (b - a).toNat).map fun (i : Nat) => a + (i : Int)
end Go.Proofs.YtfihlelhpmjpaaaGreatDoor

namespace Go.Proofs.YtfihlelhpmjpaaaGreatDoor
open Go.RowKit Go.Shelf
set_option linter.unusedSimpArgs false
set_option linter.unusedVariables false

instance (k p x y : Int) : Decidable (HasCell k p x y) := by unfold HasCell; infer_instance
/-- The two numbers of a cell's lines, 0 where there is no such cell. -/
def dgN2 (k p x y : Int) : Int := if HasCell k p x y then (x + y) % p else 0
def slN2 (k p x y : Int) : Int := if HasCell k p x y then (y - x) % p else 0
end Go.Proofs.YtfihlelhpmjpaaaGreatDoor

namespace Go.Proofs.YtfihlelhpmjpaaaGreatDoor
open Go.RowKit Go.Shelf
set_option linter.unusedSimpArgs false
set_option linter.unusedVariables false

/-- Is the cell x y a member of one of rows, of diagonals, of slants in a row? -/
def inRw (d row x y : Int) : Bool := decide (x < d ∧ y = row)
def onDg (k p d row x y : Int) : Bool := if k = 2 then decide ((x < d ∨ x = d) ∧ dgN2 k p x y = row) else decide (x < d ∧ (dgN2 k p x y = row ∨ dgN2 k p x y = p - 1))
def onSl (k p d row x y : Int) : Bool := decide (x < d ∧ (slN2 k p x y = row ∨ slN2 k p x y = p - 1))

end Go.Proofs.YtfihlelhpmjpaaaGreatDoor

namespace Go.Proofs.YtfihlelhpmjpaaaGreatDoor
open Go.RowKit Go.Shelf Go.Maps
set_option linter.unusedSimpArgs false
set_option linter.unusedVariables false

/-- Of a role's cell in a row: is the place x y a member? -/
def wayB (k p d row r x y : Int) : Bool := if r = 2 then inRw d row x y else if r = 3 then onDg k p d row x y else onSl k p d row x y
/-- W' has all that lies in cells in w as it lay. -/
def Sub (w W : World) : Prop := w.heap.size ≤ W.heap.size ∧ ∀ (b : Nat) (cs : Array Value) (t : TypeId) (fr : Nat × Nat), w.heap[b]? = some (.cells cs t fr) → W.heap[b]? = some (.cells cs t fr)
theorem Sub.below {w W : World} (h : Below w.heap.size w W) : Sub w W := ⟨h.size, fun b cs t fr hb => (h.block b (Array.getElem?_eq_some_iff.1 hb).1).trans hb⟩
theorem Sub.trans {a b c : World} (h : Sub a b) (h' : Sub b c) : Sub a c := ⟨Nat.le_trans h.1 h'.1, fun x cs t fr hx => h'.2 x cs t fr (h.2 x cs t fr hx)⟩
theorem Sub.blk {w W : World} (h : Sub w W) {g : Nat} {t : TypeId} {cs : Array Value} (hb : Blk w g t cs) : Blk W g t cs := h.2 g cs t (0, 0) hb
theorem Sub.laid {w W : World} (h : Sub w W) (hL : Laid w) : Laid W := by
  obtain ⟨⟨t1, f1, h1⟩, t2, f2, h2⟩ := hL
  exact ⟨⟨t1, f1, h.2 _ _ _ _ h1⟩, t2, f2, h.2 _ _ _ _ h2⟩
theorem Sub.put {w : World} {l : Nat} (hl : ∃ r, w.heap[l]? = some (.loop r)) (ob : Obj) : Sub w (w.putObj l ob) := by
  obtain ⟨r, hr⟩ := hl
  exact ⟨by simp [World.putObj], fun b cs t fr hb => (World.putObj_heap_other (fun e => by rw [e, hr] at hb; cases hb)).trans hb⟩
/-- The function v answers, in whatever world comes, whether a place is one of q. -/
def Asks (q : Int → Int → Bool) (v : Value) (w : World) : Prop :=
  ∃ gf lb, v = .func (.func gf) #[] lb ∧ (∀ args W, (callFunc gf args).run Tryz.prog W = .ok (.enter gf args) W) ∧
    ∀ x y W, Sub w W → Calls Tryz.prog gf (#[.agg #[.int .i64 x, .int .i64 y]] ++ lb) W fun e w' => e = .returned (.bool (q x y)) ∧ Below W.heap.size W w'
theorem Asks.sub {q : Int → Int → Bool} {v : Value} {w w' : World} (h : Asks q v w) (hB : Sub w w') : Asks q v w' := by
  obtain ⟨gf, lb, e, eg, hc⟩ := h
  exact ⟨gf, lb, e, eg, fun x y W hW => hc x y W (hB.trans hW)⟩
theorem Asks.next {q : Int → Int → Bool} {v : Value} {w w' : World} (h : Asks q v w) (hB : Below w.heap.size w w') : Asks q v w' := h.sub (Sub.below hB)
end Go.Proofs.YtfihlelhpmjpaaaGreatDoor

namespace Go.Proofs.YtfihlelhpmjpaaaGreatDoor
open Go.RowKit Go.Shelf
set_option linter.unusedSimpArgs false
set_option linter.unusedVariables false
attribute [local go_sem] Oper.semAt_some

/-- What goes over places of the column col, and is no nil. -/
def PlacesO (lo : Nat) (col : Int) (zs : List Int) (N : Nat) (v : Value) (w : World) : Prop :=
  ∃ gf lb, v = .func (.func gf) #[] lb ∧ (∀ args W, (callFunc gf args).run Tryz.prog W = .ok (.enter gf args) W) ∧ (∀ W, (binOp .eql 63 v .nilFunc).run Tryz.prog W = .ok (.bool false) W) ∧
    ∀ n, 4 ≤ n → SeqO Fence.wide n Tryz.prog gf lb (fun x : Int => #[.agg #[.int .i64 col, .int .i64 x]]) (fun x _ => x ∈ zs) (Keep lo (w.heap.size - lo)) (fun ys => ys = zs) (fun pre => pre <+: zs) N w

theorem PlacesO.less {lo lo' N : Nat} {col : Int} {zs : List Int} {v : Value} {w : World} (h : PlacesO lo col zs N v w) (hl : lo' ≤ lo) (hw : lo ≤ w.heap.size) : PlacesO lo' col zs N v w := by
  obtain ⟨gf, lb, e, eg, eq, hg⟩ := h
  exact ⟨gf, lb, e, eg, eq, fun n hn l J Jx W o₀ hW ho₀ hJ hJx hr1 hr2 hY h0 => hg n hn l J Jx W o₀ hW ho₀ hJ hJx hr1 hr2 (fun pre x o W1 hj hok hl' hs => (hY pre x o W1 hj hok hl' hs).mono fun _ _ ⟨o', hf, hS, h⟩ => ⟨o', hf, hS, h.imp (fun ⟨h1, h2, h3⟩ => ⟨h1, h2, h3.less hl (by omega)⟩) id⟩) h0⟩

end Go.Proofs.YtfihlelhpmjpaaaGreatDoor

namespace Go.Proofs.YtfihlelhpmjpaaaGreatDoor
open Go.RowKit Go.Shelf
set_option linter.unusedSimpArgs false
set_option linter.unusedVariables false
attribute [local go_sem] Oper.semAt_some

section
variable {B lo mm : Nat} {X Y Z : World} {o o' : Option Nat}
end
/-- What keeps a stretch keeps what the program lays, too. -/
def KeepL (lo k : Nat) (X Y : World) : Prop := Keep lo k X Y ∧ (Laid X → Laid Y)
theorem KeepL.trans {lo k : Nat} {X Y Z : World} (h : KeepL lo k X Y) (h' : KeepL lo k Y Z) : KeepL lo k X Z := ⟨h.1.trans h'.1, fun hL => h'.2 (h.2 hL)⟩
/-- The places of columns, one behind the other. -/
def flatC (p : Int) (cs : List Int) : List (Int × Int) := cs.flatMap fun x => (rowsL p).map fun y => (x, y)
end Go.Proofs.YtfihlelhpmjpaaaGreatDoor

namespace Go.Proofs.YtfihlelhpmjpaaaGreatDoor
open Go.RowKit Go.Shelf
set_option linter.unusedSimpArgs false
set_option linter.unusedVariables false
attribute [local go_sem] Oper.semAt_some

theorem OwnI.less {w : World} {base base' : Nat} {v : Value} {l : List Int} (h : OwnI w base v l) (hb : base' ≤ base) : OwnI w base' v l := ⟨h.1, h.2.imp id fun ⟨g, cap, cur, h1, h2, h3⟩ => ⟨g, cap, cur, h1, Nat.le_trans hb h2, h3⟩⟩
/-- The function v goes over the places zs. -/
def Seqs (lo : Nat) (zs : List (Int × Int)) (v : Value) (w : World) : Prop :=
  ∃ gf lb, v = .func (.func gf) #[] lb ∧ (∀ args W, (callFunc gf args).run Tryz.prog W = .ok (.enter gf args) W) ∧
    ∀ n, 6 ≤ n → SeqO Fence.wide n Tryz.prog gf lb (fun x : Int × Int => #[.agg #[.int .i64 x.1, .int .i64 x.2]]) (fun x _ => x ∈ zs) (KeepL lo (w.heap.size - lo)) (fun ys => ys = zs) (fun pre => pre <+: zs) 1000 w
theorem KeepL.less {lo lo' k k' : Nat} {X Y : World} (h : KeepL lo k X Y) (h1 : lo ≤ lo') (h2 : lo' + k' ≤ lo + k) : KeepL lo' k' X Y := ⟨h.1.less h1 h2, h.2⟩
theorem Seqs.less {lo lo' : Nat} {zs : List (Int × Int)} {v : Value} {w : World} (h : Seqs lo zs v w) (hl : lo' ≤ lo) (hw : lo ≤ w.heap.size) : Seqs lo' zs v w := by
  obtain ⟨gf, lb, e, eg, hg⟩ := h
  exact ⟨gf, lb, e, eg, fun n hn l J Jx W o₀ hW ho₀ hJ hJx hr1 hr2 hY h0 => hg n hn l J Jx W o₀ hW ho₀ hJ hJx hr1 hr2 (fun pre x o W1 hj hok hl' hs => (hY pre x o W1 hj hok hl' hs).mono fun _ _ ⟨o', hf, hS, h⟩ => ⟨o', hf, hS, h.imp (fun ⟨h1, h2, h3⟩ => ⟨h1, h2, h3.less hl (by omega)⟩) id⟩) h0⟩
end Go.Proofs.YtfihlelhpmjpaaaGreatDoor

namespace Go.Proofs.YtfihlelhpmjpaaaGreatDoor
open Go.RowKit Go.Shelf
set_option linter.unusedSimpArgs false
set_option linter.unusedVariables false
attribute [local go_sem] Oper.semAt_some

theorem codeCells_one (l : List (Int × Int)) (x y : Int) : codeCells (l ++ [(x, y)]) = codeCells l ++ [.int .i64 x, .int .i64 y] := by unfold codeCells; rw [List.flatMap_append]; rfl
end Go.Proofs.YtfihlelhpmjpaaaGreatDoor

namespace Go.Proofs.YtfihlelhpmjpaaaGreatDoor
open Go.RowKit Go.Shelf
set_option linter.unusedSimpArgs false
set_option linter.unusedVariables false

theorem Seqs.next {lo : Nat} {zs : List (Int × Int)} {v : Value} {w w' : World} (h : Seqs lo zs v w) (hB : Below w.heap.size w w') : Seqs lo zs v w' := by
  obtain ⟨gf, lb, e, eg, hg⟩ := h
  have hs := hB.size
  exact ⟨gf, lb, e, eg, fun n hn l J Jx W o₀ hW ho₀ hJ hJx hr1 hr2 hY h0 => hg n hn l J Jx W o₀ (below_in hB hW) ho₀ hJ hJx hr1 hr2 (fun pre x o W1 hj hok hl' hs' => (hY pre x o W1 hj hok hl' hs').mono fun _ _ ⟨o', hf, hS, h⟩ => ⟨o', hf, hS, h.imp (fun ⟨h1, h2, h3⟩ => ⟨h1, h2, h3.less (Nat.le_refl _) (by omega)⟩) id⟩) h0⟩
/-- Is the place x a member of the cell of column mx and row my? -/
def memB (k p mx my x y : Int) : Bool := wayB k p (p - shortN k) my (roleN (p - shortN k) mx) x y
/-- The members of a cell that is made. -/
def memL (k p mx my : Int) : List (Int × Int) := (flatC p (spanL 0 mx)).filter fun x => memB k p mx my x.1 x.2
theorem Laid.drew {W : World} (h : Laid W) : Laid W.drew := h
end Go.Proofs.YtfihlelhpmjpaaaGreatDoor

namespace Go.Proofs.YtfihlelhpmjpaaaGreatDoor
open Go.RowKit Go.Shelf
set_option linter.unusedSimpArgs false
set_option linter.unusedVariables false

theorem Tryz.infoAt : (Tryz.prog.info? 55).map (fun i => (i.zero, i.size, i.bytes)) = some (some (.agg #[.int .i64 0, .int .i64 0]), 2, 16) := by kernel_rfl
/-- The cells cs bear the places s, as far as j of them. -/
def Bears (cs : Array Value) (s : List (Int × Int)) (j : Nat) : Prop := cs.size = s.length * 2 ∧ ∀ (i : Nat) (hi : i < s.length), i < j → cs[i * 2]? = some (.int .i64 (s[i]).1) ∧ cs[i * 2 + 1]? = some (.int .i64 (s[i]).2)
theorem Bears.next {cs : Array Value} {s : List (Int × Int)} {j : Nat} (h : Bears cs s j) (hj : j < s.length) {x y : Int} (hx : s[j] = (x, y)) : Bears ((cs.setIfInBounds (j * 2) (.int .i64 x)).setIfInBounds (j * 2 + 1) (.int .i64 y)) s (j + 1) := by
  refine ⟨by simp [h.1], fun i hi hij => ?_⟩
  have hs := h.1
  by_cases e : i = j
  · subst e
    rw [hx]
    exact ⟨by rw [Array.getElem?_setIfInBounds_ne (by omega), Array.getElem?_setIfInBounds_self_of_lt (by omega)], by rw [Array.getElem?_setIfInBounds_self_of_lt (by simp; omega)]⟩
  · obtain ⟨h1, h2⟩ := h.2 i hi (by omega)
    exact ⟨by rw [Array.getElem?_setIfInBounds_ne (by omega), Array.getElem?_setIfInBounds_ne (by omega)]; exact h1, by rw [Array.getElem?_setIfInBounds_ne (by omega), Array.getElem?_setIfInBounds_ne (by omega)]; exact h2⟩
/-- The slice value v reads as the places s, below block B. -/
def ReadP (B : Nat) (W : World) (v : Value) (s : List (Int × Int)) : Prop :=
  ∃ g cap, v = .slice (some ⟨g, 0, none⟩) s.length cap ∧ g < B ∧ ∀ (j : Nat) (hj : j < s.length), W.cell? ⟨g, j * 2, none⟩ = some (.int .i64 (s[j]).1) ∧ W.cell? ⟨g, j * 2 + 1, none⟩ = some (.int .i64 (s[j]).2)
theorem ReadP.below {B : Nat} {W W' : World} {v : Value} {s : List (Int × Int)} (h : ReadP B W v s) (hb : Below B W W') : ReadP B W' v s := by
  obtain ⟨g, cap, e, hg, hc⟩ := h
  exact ⟨g, cap, e, hg, fun j hj => ⟨(hb.cell (p := ⟨g, j * 2, none⟩) hg).trans (hc j hj).1, (hb.cell (p := ⟨g, j * 2 + 1, none⟩) hg).trans (hc j hj).2⟩⟩
theorem ReadP.next {W W' : World} {v : Value} {s : List (Int × Int)} (h : ReadP W.heap.size W v s) (hb : Below W.heap.size W W') : ReadP W'.heap.size W' v s := by
  obtain ⟨g, cap, e, hg, hc⟩ := h.below hb
  exact ⟨g, cap, e, Nat.lt_of_lt_of_le hg hb.size, hc⟩

end Go.Proofs.YtfihlelhpmjpaaaGreatDoor

namespace Go.Proofs.YtfihlelhpmjpaaaGreatDoor
open Go.RowKit Go.Shelf
set_option linter.unusedSimpArgs false
set_option linter.unusedVariables false

/-- What Members answers. -/
def MembersC (k p x y : Int) (w : World) (e : Ending) (w' : World) : Prop :=
  (¬ RightC k p → e = .returned (.tuple #[.slice none 0 0, .int .i64 2])) ∧
  (RightC k p → ¬ (HasCell k p x y ∧ p - shortN k ≤ x) → e = .returned (.tuple #[.slice none 0 0, .int .i64 4])) ∧
  (RightC k p → HasCell k p x y → p - shortN k ≤ x → ∃ u, e = .returned (.tuple #[u, .int .i64 0]) ∧ ReadP w'.heap.size w' u (memL k p x y)) ∧ Below w.heap.size w w'

theorem MembersC.form {k p x y : Int} {w w' : World} {e : Ending} (h : MembersC k p x y w e w') : ∃ (u : Value) (n : Int), e = .returned (.tuple #[u, .int .i64 n]) := by
  by_cases hR : RightC k p
  · by_cases hm : HasCell k p x y ∧ p - shortN k ≤ x
    · obtain ⟨u, e, _⟩ := h.2.2.1 hR hm.1 hm.2
      exact ⟨u, 0, e⟩
    · exact ⟨_, 4, h.2.1 hR hm⟩
  · exact ⟨_, 2, h.1 hR⟩

end Go.Proofs.YtfihlelhpmjpaaaGreatDoor

namespace Go.Proofs.YtfihlelhpmjpaaaGreatDoor
open Go.RowKit Go.Shelf
set_option linter.unusedSimpArgs false
set_option linter.unusedVariables false

/-- The value v owns a row of its own, of the places l as callers know them. -/
def OwnA (w : World) (base : Nat) (v : Value) (l : List (Int × Int)) : Prop := w.ownsRow base 55 2 v l.length (codeCells l)
theorem ownA_nil (w : World) (base : Nat) : OwnA w base (.slice none 0 0) [] := World.ownsRow_nil w base _ 2
theorem OwnA.below {w w' : World} {base : Nat} {v : Value} {l : List (Int × Int)} (h : OwnA w base v l) (hb : Below w.heap.size w w') : OwnA w' base v l := by
  refine ⟨h.1, ?_⟩
  rcases h.2 with h1 | ⟨g, cap, cur, e, h2, hg, rest⟩
  · exact .inl h1
  · exact .inr ⟨g, cap, cur, e, h2, (hb.block g (Array.getElem?_eq_some_iff.1 hg).1).trans hg, rest⟩
theorem OwnA.own_le {w : World} {base : Nat} {v : Value} {l : List (Int × Int)} (h : OwnA w base v l) : ∀ k, v.ownBlock = some k → base ≤ k := fun k e => (World.ownsRow.lt h k e).1
theorem OwnA.ne {w : World} {base : Nat} {v : Value} {l : List (Int × Int)} (h : OwnA w base v l) {g : Nat} (hb : g < base) : some g ≠ v.ownBlock := fun e => by
  have := h.own_le g e.symm
  omega
theorem OwnA.less {w : World} {base base' : Nat} {v : Value} {l : List (Int × Int)} (h : OwnA w base v l) (hb : base' ≤ base) : OwnA w base' v l := ⟨h.1, h.2.imp id fun ⟨g, cap, cur, h1, h2, h3⟩ => ⟨g, cap, cur, h1, Nat.le_trans hb h2, h3⟩⟩
/-- The slice value v reads as the places l. -/
def ReadA (W : World) (v : Value) (l : List (Int × Int)) : Prop :=
  ∃ (p : Option Addr) (cap : Nat), v = .slice p l.length cap ∧ ∀ (j : Nat) (hj : j < l.length), ∃ g, p = some ⟨g, 0, none⟩ ∧ g < W.heap.size ∧ W.cell? ⟨g, j * 2, none⟩ = some (.int .i64 (l[j]).1) ∧ W.cell? ⟨g, j * 2 + 1, none⟩ = some (.int .i64 (l[j]).2)
theorem ReadA.next {W W' : World} {v : Value} {l : List (Int × Int)} (h : ReadA W v l) (hb : Below W.heap.size W W') : ReadA W' v l := by
  obtain ⟨p, cap, e, hc⟩ := h
  refine ⟨p, cap, e, fun j hj => ?_⟩
  obtain ⟨g, h1, h2, h3, h4⟩ := hc j hj
  exact ⟨g, h1, Nat.lt_of_lt_of_le h2 hb.size, nextc h3 hb, nextc h4 hb⟩
theorem ReadP.readA {W : World} {v : Value} {l : List (Int × Int)} (h : ReadP W.heap.size W v l) : ReadA W v l := by
  obtain ⟨g, cap, e, hg, hc⟩ := h
  exact ⟨some ⟨g, 0, none⟩, cap, e, fun j hj => ⟨g, rfl, hg, hc j hj⟩⟩
theorem OwnA.readA {w : World} {base : Nat} {v : Value} {l : List (Int × Int)} (h : OwnA w base v l) : ReadA w v l := by
  by_cases hl : l = []
  · subst hl
    rcases h.2 with ⟨rfl, _⟩ | ⟨g, cap, cur, e, _⟩
    · exact ⟨none, 0, rfl, fun j hj => absurd hj (Nat.not_lt_zero _)⟩
    · exact ⟨some ⟨g, 0, none⟩, cap, e, fun j hj => absurd hj (Nat.not_lt_zero _)⟩
  · obtain ⟨g, cap, rfl, hg, hg1⟩ := World.ownsRow.form h (List.length_pos_iff.2 hl)
    refine ⟨some ⟨g, 0, none⟩, cap, rfl, fun j hj => ⟨g, rfl, by omega, ?_⟩⟩
    obtain ⟨k0, k1⟩ := codeCells_at l j hj
    rw [Nat.mul_comm 2 j] at k0 k1
    exact ⟨(World.ownsRow.cellAt h (j * 2) (by omega)).trans k0, (World.ownsRow.cellAt h (j * 2 + 1) (by omega)).trans k1⟩
/-- append of one place more. -/
theorem OwnA.push {w : World} {base : Nat} {v : Value} {l : List (Int × Int)} {x y : Int} (h : w.ownsRow base 55 2 v (l.length + 1) (codeCells l ++ [.int .i64 x, .int .i64 y])) : OwnA w base v (l ++ [(x, y)]) := by
  unfold OwnA
  rw [List.length_append]
  unfold codeCells at *
  rw [List.flatMap_append]
  exact h

/-- The cells of j columns of R rows from column c on, and of n of the next one. -/
def grid (c : Int) (R j n : Nat) : List (Int × Int) := ((List.range j).flatMap fun (i : Nat) => (List.range R).map fun (r : Nat) => (c + (i : Int), (r : Int))) ++ (List.range n).map fun (r : Nat) => (c + (j : Int), (r : Int))
set_option maxRecDepth 100000 in
set_option maxHeartbeats 1000000 in
theorem same_yes (va vb : Value) (l : List (Int × Int)) (hl : l.length ≤ 1000) (w : World) (h1 : ReadA w va l) (h2 : ReadA w vb l) : Calls Tryz.prog 36 #[va, vb] w fun e w' => e = .returned (.bool true) ∧ Below w.heap.size w w' := by
  obtain ⟨p1, c1, rfl, r1⟩ := h1
  obtain ⟨p2, c2, rfl, r2⟩ := h2
  have HR1 := Lib.hid r1
  have HR2 := Lib.hid r2
  clear r1 r2
  obtain ⟨n, hn⟩ : ∃ n, l.length = n := ⟨_, rfl⟩
  have HN := Lib.hid hn
  rw [hn] at hl ⊢
  clear hn
  go_enter Tryz.func36, Tryz.ntmps36
  go_wp2
  go_loopw [5] (fun i wr => ∃ j : Nat, j ≤ n ∧ i = .int .i64 j ∧ Below w.heap.size w wr) (fun i _ => n - (intOf i).toNat)
  case atStart => exact ⟨0, by omega, rfl, Below.refl _ _⟩
  case round =>
    obtain ⟨j, hj, rfl, hB⟩ := hrel
    by_cases hlt : j < n
    · have hdec : decide ((j : Int) < (n : Int)) = true := by simp; omega
      have hjs : j < l.length := by rw [HN.out]; exact hlt
      obtain ⟨g1, rfl, _, x0, x1⟩ := HR1.out j hjs
      obtain ⟨g2, rfl, _, y0, y1⟩ := HR2.out j hjs
      replace x0 := nextc x0 hB
      replace x1 := nextc x1 hB
      replace y0 := nextc y0 hB
      replace y1 := nextc y1 hB
      have i1 : (0 : Int) ≤ (j : Int) := by omega
      have i2 : (j : Int) < (n : Int) := by omega
      clear HR1 HR2
      generalize l[j] = z at *
      obtain ⟨zx, zy⟩ := z
      go_wp2
      go_region_held3 (fun W => W.cell? ⟨g1, j * 2, none⟩ = some (.int .i64 zx) ∧ W.cell? ⟨g1, j * 2 + 1, none⟩ = some (.int .i64 zy) ∧ W.cell? ⟨g2, j * 2, none⟩ = some (.int .i64 zx) ∧ W.cell? ⟨g2, j * 2 + 1, none⟩ = some (.int .i64 zy))
        (exact ⟨x0, x1, y0, y1⟩) (fail)
      all_goals go_wp2
      all_goals go_roundw
      case rel => exact ⟨j + 1, by omega, by go_num, hB.drew⟩
      case measure => simp [intOf]; omega
    · obtain rfl : j = n := by omega
      have hdec : decide ((j : Int) < (j : Int)) = false := by simp
      go_wp2
      go_ret
      exact ⟨rfl, hB⟩
end Go.Proofs.YtfihlelhpmjpaaaGreatDoor

namespace Go.Proofs.YtfihlelhpmjpaaaGreatDoor.E
open Go.RowKit Go.Shelf Go.Proofs.YtfihlelhpmjpaaaGreatDoor.C
set_option linter.unusedSimpArgs false
set_option linter.unusedVariables false

/-- Columns of R cells of n bytes. -/
def Grid (R n : Nat) (css : List (List (List UInt8))) : Prop := ∀ j, j < css.length → (css[j]?.getD []).length = R ∧ ∀ i, i < R → ((css[j]?.getD [])[i]?.getD []).length = n
def cellI (css : List (List (List UInt8))) (z : Int × Int) : List UInt8 := cellOf_ css z.1.toNat z.2.toNat
/-- Cells at places, put upon one another. -/
def uponL (n : Nat) (css : List (List (List UInt8))) (l : List (Int × Int)) : List UInt8 := xors (List.replicate n 0) (l.map (cellI css))
/-- A column that is made of those ahead of it. -/
def colL (k p : Int) (n : Nat) (css : List (List (List UInt8))) (col : Int) : List (List UInt8) := (List.range (p - 1).toNat).map fun (row : Nat) => uponL n css (memL k p col (row : Int))
def stepsL (k p : Int) (n : Nat) (css : List (List (List UInt8))) : Nat → List (List (List UInt8))
  | 0 => css
  | m + 1 => stepsL k p n css m ++ [colL k p n (stepsL k p n css m) ((css.length : Int) + (m : Int))]
def inL (R N : Nat) (l : List (Int × Int)) : Prop := ∀ z ∈ l, (0 ≤ z.1 ∧ z.1 < (N : Int)) ∧ (0 ≤ z.2 ∧ z.2 < (R : Int))
theorem uponL_len (n : Nat) (css : List (List (List UInt8))) (l : List (Int × Int)) : (uponL n css l).length = n := by
  unfold uponL
  rw [xors_len, List.length_replicate]
theorem colL_len (k p : Int) (n : Nat) (css : List (List (List UInt8))) (col : Int) : (colL k p n css col).length = (p - 1).toNat := by unfold colL; simp
theorem colL_at (k p : Int) (n : Nat) (css : List (List (List UInt8))) (col : Int) {i : Nat} (hi : i < (p - 1).toNat) : (colL k p n css col)[i]?.getD [] = uponL n css (memL k p col (i : Int)) := by
  unfold colL
  rw [List.getElem?_map, List.getElem?_range hi]
  rfl
theorem Grid.snoc {R n : Nat} {css : List (List (List UInt8))} (h : Grid R n css) {cs : List (List UInt8)} (h1 : cs.length = R) (h2 : ∀ i, i < R → (cs[i]?.getD []).length = n) : Grid R n (css ++ [cs]) := by
  intro j hj
  rw [List.length_append] at hj
  rcases Nat.lt_or_ge j css.length with h3 | h3
  · rw [List.getElem?_append_left h3]
    exact h j h3
  · have : j = css.length := by simp at hj; omega
    subst this
    rw [List.getElem?_append_right (Nat.le_refl _), Nat.sub_self]
    exact ⟨h1, h2⟩
theorem Grid.col {R n : Nat} {css : List (List (List UInt8))} (h : Grid R n css) {k p : Int} (hR : R = (p - 1).toNat) (col : Int) (css' : List (List (List UInt8))) : Grid R n (css ++ [colL k p n css' col]) :=
  h.snoc (by rw [colL_len, hR]) fun i hi => by rw [colL_at k p n css' col (by omega), uponL_len]
theorem Grid.steps {R n : Nat} {css : List (List (List UInt8))} (h : Grid R n css) {k p : Int} (hR : R = (p - 1).toNat) : ∀ m, Grid R n (stepsL k p n css m)
  | 0 => h
  | m + 1 => (Grid.steps h hR m).col hR _ _
theorem Grid.cell {R n : Nat} {css : List (List (List UInt8))} (h : Grid R n css) {z : Int × Int} (h1 : z.1 < (css.length : Int)) (h0 : 0 ≤ z.1) (h2 : z.2 < (R : Int)) (h3 : 0 ≤ z.2) : (cellI css z).length = n :=
  (h z.1.toNat (by omega)).2 z.2.toNat (by omega)
theorem inL.cells {R N n : Nat} {l : List (Int × Int)} (h : inL R N l) {css : List (List (List UInt8))} (hg : Grid R n css) (hN : N ≤ css.length) : ∀ z ∈ l, (cellI css z).length = n := fun z hz => by
  have := h z hz
  exact hg.cell (by omega) (by omega) (by omega) (by omega)
section
variable {p : Int} {css : List (List (List UInt8))}
end
end Go.Proofs.YtfihlelhpmjpaaaGreatDoor.E

namespace Go.Proofs.YtfihlelhpmjpaaaGreatDoor.E
open Go.RowKit Go.Shelf Go.Proofs.YtfihlelhpmjpaaaGreatDoor.C
set_option linter.unusedSimpArgs false
set_option linter.unusedVariables false

theorem xors_next (z : List UInt8) (ls : List (List UInt8)) {k : Nat} (hk : k < ls.length) : xors z (ls.take (k + 1)) = xorB (xors z (ls.take k)) (ls[k]?.getD []) := by
  unfold xors
  rw [List.take_add_one, List.foldl_append, List.getElem?_eq_getElem hk]
  rfl
end Go.Proofs.YtfihlelhpmjpaaaGreatDoor.E

namespace Go.Proofs.YtfihlelhpmjpaaaGreatDoor.Ch
open Go.RowKit Go.Shelf Go.Proofs.YtfihlelhpmjpaaaGreatDoor.C Go.Proofs.YtfihlelhpmjpaaaGreatDoor.E Go.Proofs.YtfihlelhpmjpaaaGreatDoor.T
set_option linter.unusedSimpArgs false
set_option linter.unusedVariables false

theorem bad_two {P Q n a b : Nat} {css : List (List (List UInt8))} {cu cv : List (List UInt8)} (hok : DataOk (P : Int) css) (hn : (firstC css).length = n) (hl : css.length = P) (hab : a < b) (hb : b < P) : Bad P Q n css (((css ++ [rowsMade Q css, diagsMade (P : Int) Q css]).set a cu).set b cv) [(a : Int), (b : Int)] :=
  ⟨hok, hn, by simp [hl], fun c hc hm => by
    have h1 : c ≠ a ∧ c ≠ b := by simp at hm; omega
    rw [List.getElem?_set_ne (by omega), List.getElem?_set_ne (by omega), List.getElem?_append_left (by omega)], fun _ => by
    rw [List.getElem?_set_ne (by omega), List.getElem?_set_ne (by omega), List.getElem?_append_right (by omega), hl, Nat.sub_self]; rfl, fun _ => by
    rw [List.getElem?_set_ne (by omega), List.getElem?_set_ne (by omega), List.getElem?_append_right (by omega), hl, Nat.add_sub_cancel_left]; rfl⟩
/- The places of the chain, each once. -/
end Go.Proofs.YtfihlelhpmjpaaaGreatDoor.Ch

namespace Go.Proofs.YtfihlelhpmjpaaaGreatDoor.T
open Go.RowKit Go.Shelf Go.Maps Go.Proofs.YtfihlelhpmjpaaaGreatDoor.C Go.Proofs.YtfihlelhpmjpaaaGreatDoor.E Go.Proofs.YtfihlelhpmjpaaaGreatDoor.Ch
set_option linter.unusedSimpArgs false
set_option linter.unusedVariables false
attribute [local go_sem] Oper.semAt_some

/-- The rows of the chain, the last of which there is none. -/
def xk (P : Nat) (c : Int) (k : Nat) : Int := ((P : Int) - 1 + ((k : Int) + 1) * c) % (P : Int)
end Go.Proofs.YtfihlelhpmjpaaaGreatDoor.T

