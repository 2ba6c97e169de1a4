/- slices.SortFunc's contract at this program: its numbers. Places put in order: what the sort makes of a row of the call's own. slices.SortFunc over a row of places of the call's own. Places put in order, none of which is there twice. Places as the callers know them. Sets: what goes down columns; what is gathered of such. Sets: what is gathered. Sets: the members of a cell that is made. Sets: what is answered of a place. Sets: Members. -/
import Derived.Shelf.SlSortCmp.WholeK
import Derived.Test.YtggdlklkjnbbjaaGreatDoorKZG3
import Derived.Test.YtggdlklkjnbbjaaGreatDoorKSA
import Derived.Test.YtggdlklkjnbbjaaGreatDoorKMA
import Derived.Deep.AppendLies
import Derived.RangeFuncNested
namespace Go.Proofs.YtggdlklkjnbbjaaGreatDoor
open Go.Shelf
def sortPl_ren : Go.Shelf.Ren := ⟨fun | 6 => 200 | 15 => 214 | 14 => 213 | 28 => 232 | 29 => 233 | 20 => 224 | 21 => 225 | 22 => 226 | 23 => 227 | 24 => 228 | 25 => 229 | 26 => 230 | 27 => 231 | 46 => 237 | 47 => 238 | 48 => 239 | 49 => 240 | 50 => 241 | 57 => 242 | n => n, fun | 22 => 197 | 24 => 195 | 25 => 215 | 3 => 3 | 39 => 228 | 0 => 0 | 53 => 243 | 55 => 245 | 4 => 4 | 46 => 237 | 45 => 236 | 50 => 170 | 5 => 5 | 9 => 9 | 66 => 247 | 70 => 251 | 76 => 253 | 77 => 254 | n => n, fun | n => n⟩
theorem sortPl : Go.Proofs.SlLaysF0.n6 Tryz.prog sortPl_ren := {
  mixed := by kernel_rfl
  f6 := ⟨Tryz.f200.name, by decide, Tryz.func200.trans (congrArg some (by kernel_rfl))⟩
  f14 := ⟨Tryz.f213.name, by decide, Tryz.func213.trans (congrArg some (by kernel_rfl))⟩
  f15 := Tryz.func214.trans (congrArg some (by kernel_rfl))
  f20 := ⟨Tryz.f224.name, by decide, Tryz.func224.trans (congrArg some (by kernel_rfl))⟩
  f21 := ⟨Tryz.f225.name, by decide, Tryz.func225.trans (congrArg some (by kernel_rfl))⟩
  f22 := ⟨Tryz.f226.name, by decide, Tryz.func226.trans (congrArg some (by kernel_rfl))⟩
  f23 := ⟨Tryz.f227.name, by decide, Tryz.func227.trans (congrArg some (by kernel_rfl))⟩
  f24 := ⟨Tryz.f228.name, by decide, Tryz.func228.trans (congrArg some (by kernel_rfl))⟩
  f25 := ⟨Tryz.f229.name, by decide, Tryz.func229.trans (congrArg some (by kernel_rfl))⟩
  f26 := ⟨Tryz.f230.name, by decide, Tryz.func230.trans (congrArg some (by kernel_rfl))⟩
  f27 := ⟨Tryz.f231.name, by decide, Tryz.func231.trans (congrArg some (by kernel_rfl))⟩
  f28 := Tryz.func232.trans (congrArg some (by kernel_rfl))
  f29 := Tryz.func233.trans (congrArg some (by kernel_rfl))
  f46 := ⟨Tryz.f237.name, by decide, Tryz.func237.trans (congrArg some (by kernel_rfl))⟩
  f47 := Tryz.func238.trans (congrArg some (by kernel_rfl))
  f48 := Tryz.func239.trans (congrArg some (by kernel_rfl))
  f49 := ⟨Tryz.f240.name, by decide, Tryz.func240.trans (congrArg some (by kernel_rfl))⟩
  f50 := ⟨Tryz.f241.name, by decide, Tryz.func241.trans (congrArg some (by kernel_rfl))⟩
  f57 := ⟨Tryz.f242.name, by decide, Tryz.func242.trans (congrArg some (by kernel_rfl))⟩
  t0 := Tryz.underlying0
  a0 := Tryz.isAgg0
  z0 := Tryz.sizeOf0
  v0 := Tryz.zeroValue0
  t3 := Tryz.underlying3
  a3 := Tryz.isAgg3
  z3 := Tryz.sizeOf3
  v3 := Tryz.zeroValue3
  t4 := Tryz.underlying4
  a4 := Tryz.isAgg4
  z4 := Tryz.sizeOf4
  v4 := Tryz.zeroValue4
  t5 := Tryz.underlying5
  a5 := Tryz.isAgg5
  z5 := Tryz.sizeOf5
  v5 := Tryz.zeroValue5
  t9 := Tryz.underlying9
  a9 := Tryz.isAgg9
  z9 := Tryz.sizeOf9
  v9 := Tryz.zeroValue9
  t22 := Tryz.underlying197
  a22 := Tryz.isAgg197
  z22 := Tryz.sizeOf197
  v22 := Tryz.zeroValue197
  t25 := Tryz.underlying215
  a25 := Tryz.isAgg215
  z25 := Tryz.sizeOf215
  v25 := Tryz.zeroValue215
  t39 := Tryz.underlying228
  a39 := Tryz.isAgg228
  z39 := Tryz.sizeOf228
  v39 := Tryz.zeroValue228
  t45 := Tryz.underlying236
  a45 := Tryz.isAgg236
  z45 := Tryz.sizeOf236
  v45 := Tryz.zeroValue236
  t46 := Tryz.underlying237
  a46 := Tryz.isAgg237
  z46 := Tryz.sizeOf237
  v46 := Tryz.zeroValue237
  t50 := Tryz.underlying170
  a50 := Tryz.isAgg170
  z50 := Tryz.sizeOf170
  v50 := Tryz.zeroValue170
  t53 := Tryz.underlying243
  a53 := Tryz.isAgg243
  z53 := Tryz.sizeOf243
  v53 := Tryz.zeroValue243
  t55 := Tryz.underlying245
  a55 := Tryz.isAgg245
  z55 := Tryz.sizeOf245
  v55 := Tryz.zeroValue245
  t66 := Tryz.underlying247
  a66 := Tryz.isAgg247
  z66 := Tryz.sizeOf247
  v66 := Tryz.zeroValue247
  t70 := Tryz.underlying251
  a70 := Tryz.isAgg251
  z70 := Tryz.sizeOf251
  v70 := Tryz.zeroValue251
  t76 := Tryz.underlying253
  a76 := Tryz.isAgg253
  z76 := Tryz.sizeOf253
  v76 := Tryz.zeroValue253
  t77 := Tryz.underlying254
  a77 := Tryz.isAgg254
  z77 := Tryz.sizeOf254
  v77 := Tryz.zeroValue254 }
end Go.Proofs.YtggdlklkjnbbjaaGreatDoor

namespace Go.Proofs.YtggdlklkjnbbjaaGreatDoor
open Go.RowKit Go.Shelf
set_option linter.unusedSimpArgs false
set_option linter.unusedVariables false

/-- What the program's comparison tells. -/
def cmpF (x y : Int × Int) : Int := if aheadB x y then -1 else if aheadB y x then 1 else 0
theorem ltOf_cmpF (x y : Int × Int) : ltOf cmpF x y = aheadB x y := by
  unfold ltOf cmpF
  cases h : aheadB x y <;> simp
  cases h2 : aheadB y x <;> simp
theorem swo_cmpF : Go.Sort.SWO (ltOf cmpF) where
  irrefl x := by rw [ltOf_cmpF]; unfold aheadB; simp
  trans x y z h1 h2 := by rw [ltOf_cmpF] at *; unfold aheadB at *; simp at *; omega
  ntrans x y z h1 h2 := by rw [ltOf_cmpF] at *; unfold aheadB at *; simp at *; omega
def encP (x : Int × Int) : List Value := [.int .i64 x.1, .int .i64 x.2]
theorem enter_odd1 : ∀ args W, (callFunc 201 args).run Tryz.prog W = .ok (.enter 201 args) W := enters_of Tryz.func201 (by kernel_rfl) rfl
theorem grow_two (W : World) (os : Array Obj) (o o' : Obj) : ((Go.Sort.grow W os).alloc o).alloc o' = Go.Sort.grow W (os ++ #[o] ++ #[o']) := by
  rw [Go.Sort.alloc_eq_grow, Go.Sort.alloc_eq_grow, Go.Sort.grow_grow, Go.Sort.grow_grow, Array.append_assoc]

set_option maxHeartbeats 1000000 in
theorem odd1_any (hb : Nat) (x1 x2 y1 y2 : Int) (w : World) (hf : w.cell? ⟨hb, 0, none⟩ = some (.func (.func 193) #[] #[])) :
    Calls Tryz.prog 201 #[.agg #[.int .i64 x1, .int .i64 x2], .agg #[.int .i64 y1, .int .i64 y2], .pointer (some ⟨hb, 0, none⟩)] w fun e w' => e = .returned (.int .i64 (cmpF (x1, x2) (y1, y2))) ∧ ∃ q os, w' = Go.Sort.grow (w.drewN q) os := by
  obtain ⟨W0, hW0⟩ : ∃ W0, (w.alloc (.cells #[.int .i64 x1, .int .i64 x2] 195)).alloc (.cells #[.int .i64 y1, .int .i64 y2] 195) = W0 := ⟨_, rfl⟩
  have b0 : Blk W0 w.heap.size 195 #[.int .i64 x1, .int .i64 x2] := by rw [← hW0]; exact (Blk.new w _ _).alloc _
  have b1 : Blk W0 (w.heap.size + 1) 195 #[.int .i64 y1, .int .i64 y2] := by rw [← hW0]; exact Blk.second w _ _ _
  have hB : Below w.heap.size w W0 := by rw [← hW0]; exact below_two w _ _
  have HG : Hid (∃ os, W0 = Go.Sort.grow w os) := ⟨_, by rw [← hW0]; exact (by rw [Go.Sort.alloc_eq_grow, Go.Sort.alloc_eq_grow, Go.Sort.grow_grow])⟩
  have c0 := b0.cell 0
  have c1 := b0.cell 1
  have z0 := b1.cell 0
  have z1 := b1.cell 1
  simp only [List.getElem?_toArray, List.getElem?_cons_zero, List.getElem?_cons_succ] at c0 c1 z0 z1
  have hf0 := nextc hf hB
  have hff := nextc hf hB
  have HC := Lib.hid (show cmpF (x1, x2) (y1, y2) = cmpF (x1, x2) (y1, y2) from rfl)
  cases h1 : aheadB (x1, x2) (y1, y2) with
  | true =>
    have HR : Hid (cmpF (x1, x2) (y1, y2) = -1) := by unfold Hid cmpF; rw [h1]; rfl
    have HA := Lib.hid (fun W => before_any x1 x2 y1 y2 W)
    rw [h1] at HA
    go_enter Tryz.func201, Tryz.ntmps201
    go_wp2_with fail
    clear hW0
    go_wp2_with (go_at_call 193; refine (HA.out _).mono ?_; rintro e w1 ⟨rfl, hw1⟩)
    go_ret
    obtain ⟨os, hos⟩ := HG.out
    exact ⟨by rw [HR.out]; rfl, 0, _, by rw [hos]; exact grow_two _ _ _ _⟩
  | false =>
    have HA := Lib.hid (fun W => before_any x1 x2 y1 y2 W)
    rw [h1] at HA
    cases h2 : aheadB (y1, y2) (x1, x2) with
    | true =>
      have HR : Hid (cmpF (x1, x2) (y1, y2) = 1) := by unfold Hid cmpF; rw [h1, h2]; rfl
      have HA2 := Lib.hid (fun W => before_any y1 y2 x1 x2 W)
      rw [h2] at HA2
      go_enter Tryz.func201, Tryz.ntmps201
      go_wp2_with fail
      clear hW0
      refine (HA.out _).mono ?_
      rintro e w1 ⟨rfl, hw1⟩
      have hB1 : Below W0.heap.size W0 w1 := by rw [hw1]; exact below_two _ _ _
      have HW1 := Lib.hid hw1
      clear hw1
      replace c0 := nextc c0 hB1
      replace c1 := nextc c1 hB1
      replace z0 := nextc z0 hB1
      replace z1 := nextc z1 hB1
      replace hf0 := nextc hf0 hB1
      go_wp2_with (go_at_call 193; refine (HA2.out _).mono ?_; rintro e w2 ⟨rfl, hw2⟩)
      go_ret
      obtain ⟨os, hos⟩ := HG.out
      have hw1 := HW1.out
      rw [hos, grow_two] at hw1
      exact ⟨by rw [HR.out]; rfl, 0, _, by rw [hw1]; exact grow_two _ _ _ _⟩
    | false =>
      have HR : Hid (cmpF (x1, x2) (y1, y2) = 0) := by unfold Hid cmpF; rw [h1, h2]; rfl
      have HA2 := Lib.hid (fun W => before_any y1 y2 x1 x2 W)
      rw [h2] at HA2
      go_enter Tryz.func201, Tryz.ntmps201
      go_wp2_with fail
      clear hW0
      refine (HA.out _).mono ?_
      rintro e w1 ⟨rfl, hw1⟩
      have hB1 : Below W0.heap.size W0 w1 := by rw [hw1]; exact below_two _ _ _
      have HW1 := Lib.hid hw1
      clear hw1
      replace c0 := nextc c0 hB1
      replace c1 := nextc c1 hB1
      replace z0 := nextc z0 hB1
      replace z1 := nextc z1 hB1
      replace hf0 := nextc hf0 hB1
      go_wp2_with (go_at_call 193; refine (HA2.out _).mono ?_; rintro e w2 ⟨rfl, hw2⟩)
      go_ret
      obtain ⟨os, hos⟩ := HG.out
      have hw1 := HW1.out
      rw [hos, grow_two] at hw1
      exact ⟨by rw [HR.out]; rfl, 0, _, by rw [hw1]; exact grow_two _ _ _ _⟩

/-- The value v owns a row of its own, of the places l. -/
def OwnP (w : World) (base : Nat) (v : Value) (l : List (Int × Int)) : Prop := w.ownsRow base 195 2 v l.length (codeCells l)
theorem ownP_nil (w : World) (base : Nat) : OwnP w base (.slice none 0 0) [] := World.ownsRow_nil w base _ 2
theorem codeCells_enc (l : List (Int × Int)) : Go.Sort.flatK encP 2 l.toArray = (codeCells l).toArray := by
  apply Array.ext
  · rw [Go.Sort.size_flatK, List.size_toArray, List.size_toArray, codeCells_len]; omega
  · intro t h1 h2
    rw [Go.Sort.size_flatK, List.size_toArray] at h1
    have h3 := Go.Sort.get_flatK encP 2 l.toArray t (by rw [List.size_toArray]; exact h1)
    rw [getElem!_pos _ t (by rw [Go.Sort.size_flatK, List.size_toArray]; exact h1)] at h3
    rw [h3]
    obtain ⟨e1, e2⟩ := codeCells_at l (t / 2) (by omega)
    have hl : t / 2 < l.length := by omega
    rw [show (l.toArray)[t / 2]! = l[t / 2] by rw [getElem!_pos _ _ (by rw [List.size_toArray]; exact hl)]; rfl]
    rw [List.getElem_toArray]
    rcases Nat.mod_two_eq_zero_or_one t with h | h
    · rw [h]
      rw [List.getElem?_eq_getElem (by rw [codeCells_len]; omega)] at e1
      injection e1 with e1
      rw [show (codeCells l)[t] = (codeCells l)[2 * (t / 2)]'(by rw [codeCells_len]; omega) by congr 1; omega, e1]; rfl
    · rw [h]
      rw [List.getElem?_eq_getElem (by rw [codeCells_len]; omega)] at e2
      injection e2 with e2
      rw [show (codeCells l)[t] = (codeCells l)[2 * (t / 2) + 1]'(by rw [codeCells_len]; omega) by congr 1; omega, e2]; rfl

theorem sortWorld_heap (W : World) (g n : Nat) (d : Array (Int × Int)) (os : Array Obj) (b : Nat) (hb : b ≠ g) (hlt : b < W.heap.size) : (Go.Proofs.sortWorldK encP 2 W g 0 n d os).heap[b]? = W.heap[b]? := by
  unfold Go.Proofs.sortWorldK
  rw [Go.Sort.heap_grow_old _ _ (by rw [Go.Sort.size_putRowK]; exact hlt)]
  unfold Go.Sort.putRowK Go.Sort.putRow Go.Sort.mapBlock Go.Sort.ahead
  simp [Array.getElem?_modify, hb.symm]
theorem sortWorld_grown (W : World) (g n : Nat) (d : Array (Int × Int)) (os : Array Obj) : W.grownBy (Go.Proofs.sortWorldK encP 2 W g 0 n d os) (some g) :=
  ⟨rfl, rfl, rfl, by unfold Go.Proofs.sortWorldK; rw [Go.Sort.size_grow, Go.Sort.size_putRowK]; exact Nat.le_add_right _ _, fun k hk hne => sortWorld_heap W g n d os k (fun e => hne (by rw [e])) hk⟩
end Go.Proofs.YtggdlklkjnbbjaaGreatDoor

namespace Go.Proofs.YtggdlklkjnbbjaaGreatDoor
open Go.RowKit Go.Shelf
set_option linter.unusedSimpArgs false
set_option linter.unusedVariables false

set_option maxHeartbeats 1000000 in
theorem sort_any (W : World) (hb base : Nat) (v : Value) (l : List (Int × Int)) (hne : l ≠ []) (hlen : l.length ≤ 1000) (hown : OwnP W base v l) (hf : W.cell? ⟨hb, 0, none⟩ = some (.func (.func 193) #[] #[])) (hdiff : some hb ≠ v.ownBlock) :
    Calls Tryz.prog 200 #[v, .func (.func 201) #[] #[.pointer (some ⟨hb, 0, none⟩)]] W fun e w' => e = .returned (.tuple #[]) ∧
      ∃ (s : List (Int × Int)) (g cap : Nat), v = .slice (some ⟨g, 0, none⟩) l.length cap ∧ l.length ≤ cap ∧ base ≤ g ∧ g < W.heap.size ∧ g ≠ hb ∧ s.Perm l ∧ s.Pairwise (fun a b => aheadB b a = false) ∧
        (∀ (j : Nat) (hj : j < s.length), w'.cell? ⟨g, 2 * j, none⟩ = some (.int .i64 (s[j]).1) ∧ w'.cell? ⟨g, 2 * j + 1, none⟩ = some (.int .i64 (s[j]).2)) ∧ W.grownBy w' (some g) := by
  have how := hown
  obtain ⟨hl, (⟨rfl, h0⟩ | ⟨g, cap, cur, rfl, hbg, hg, hnc, hcm, hcs, htk⟩)⟩ := hown
  · exact absurd (List.eq_nil_of_length_eq_zero h0) hne
  have hgb : g ≠ hb := fun e => hdiff (by rw [e]; rfl)
  have hblk : g < W.heap.size := (Array.getElem?_eq_some_iff.1 hg).1
  have hbl : hb < W.heap.size := cell_lt hf
  have hH : Go.Sort.HoldsK encP 2 W g 0 l.toArray := by
    intro j hj
    rw [Go.Sort.size_flatK, List.size_toArray] at hj
    rw [Nat.zero_add]
    have hc := World.ownsRow.cellAt how j hj
    rw [List.getElem?_eq_getElem (by rw [codeCells_len]; omega)] at hc
    refine ⟨?_, World.ownsRow.frozenAt how j⟩
    rw [hc, codeCells_enc, getElem!_pos _ _ (by rw [List.size_toArray, codeCells_len]; omega)]
    rfl
  have hcmp : CmpLays Tryz.prog 201 #[.pointer (some ⟨hb, 0, none⟩)] encP 2 cmpF g 0 l.toArray.size W := fun m os dk hs x y =>
    odd1_any hb x.1 x.2 y.1 y.2 _ ((World.cell?_of_block (sortWorld_heap W g m dk os hb (fun e => hgb e.symm) hbl)).trans hf)
  have hcon := AnyQ.slices_SortFunc sortPl 2 Tryz.isAgg195 Tryz.sizeOf195 encP (fun _ => rfl) (fun x v hv => by simp [encP] at hv; rcases hv with rfl | rfl <;> rfl) cmpF swo_cmpF 201 #[.pointer (some ⟨hb, 0, none⟩)] g 0 cap l.toArray W enter_odd1 hcmp hH hblk (by rw [List.size_toArray]; omega)
  change Calls Tryz.prog 200 _ _ _ at hcon
  rw [List.size_toArray] at hcon
  refine hcon.mono ?_
  rintro e w' ⟨rfl, d', n, os, ⟨hp1, _, hp2⟩, hs, rfl⟩
  have hp3 : d'.toList.length = l.length := by rw [Array.length_toList]; exact hp1
  have hsw : SWK encP 2 W g 0 d' (sortWorldK encP 2 W g 0 n d' os) := ⟨n, os, rfl⟩
  have hh := hsw.holds hblk hH (by rw [List.size_toArray, ← Array.length_toList]; exact hp3)
  refine ⟨rfl, d'.toList, g, cap, rfl, hnc, hbg, hblk, hgb, ?_, ?_, ?_, sortWorld_grown _ _ _ _ _⟩
  · have e1 : (d'.extract 0 l.length) = d' := by rw [← hp3, Array.length_toList]; exact Array.extract_size
    have e2 : (l.toArray.extract 0 l.length) = l.toArray := by have := Array.extract_size (xs := l.toArray); rwa [List.size_toArray] at this
    rw [e1, e2] at hp2
    simpa using hp2
  · rw [List.pairwise_iff_getElem]
    intro i j hi hj hij
    have := hs i j (Nat.zero_le _) hij (by rw [← hp3]; exact hj)
    rw [ltOf_cmpF] at this
    rw [getElem!_pos _ _ (by simpa using hj), getElem!_pos _ _ (by simpa using hi)] at this
    simpa using this
  · intro j hj
    have h1 := (hh.cell (i := j) (c := 0) (by simpa using hj) (by omega)).1
    have h2 := (hh.cell (i := j) (c := 1) (by simpa using hj) (by omega)).1
    rw [getElem!_pos d' j (by simpa using hj)] at h1 h2
    rw [show 0 + j * 2 + 0 = 2 * j by omega] at h1
    rw [show 0 + j * 2 + 1 = 2 * j + 1 by omega] at h2
    exact ⟨h1.trans (by simp [encP]), h2.trans (by simp [encP])⟩
end Go.Proofs.YtggdlklkjnbbjaaGreatDoor

namespace Go.Proofs.YtggdlklkjnbbjaaGreatDoor
open Go.RowKit Go.Shelf
set_option linter.unusedSimpArgs false
set_option linter.unusedVariables false

theorem Tryz.infoPlace : (Tryz.prog.info? 195).map (fun i => (i.zero, i.size, i.bytes)) = some (some (.agg #[.int .i64 0, .int .i64 0]), 2, 16) := by kernel_rfl
theorem ahead_of_not {a b : Int × Int} (hne : a ≠ b) (h : aheadB b a = false) : aheadB a b = true := by
  obtain ⟨a1, a2⟩ := a
  obtain ⟨b1, b2⟩ := b
  unfold aheadB at *
  simp at *
  omega
theorem strict_of {s : List (Int × Int)} (hn : s.Nodup) (h : s.Pairwise (fun a b => aheadB b a = false)) : s.Pairwise (fun a b => aheadB a b = true) :=
  (List.pairwise_and_iff.2 ⟨hn, h⟩).imp fun ⟨h1, h2⟩ => ahead_of_not h1 h2
theorem OwnP.take_next {w : World} {base : Nat} {v : Value} {s : List (Int × Int)} {j : Nat} (hj : j < s.length) (h : w.ownsRow base 195 2 v ((s.take j).length + 1) (codeCells (s.take j) ++ [.int .i64 (s[j]).1, .int .i64 (s[j]).2])) : OwnP w base v (s.take (j + 1)) := by
  unfold OwnP
  rw [List.take_succ_eq_append_getElem hj, List.length_append]
  unfold codeCells at *
  rw [List.flatMap_append]
  exact h
theorem OwnP.below {w w' : World} {base : Nat} {v : Value} {l : List (Int × Int)} (h : OwnP w base v l) (hb : Below w.heap.size w w') : OwnP w' base v l := by
  refine ⟨h.1, ?_⟩
  rcases h.2 with h1 | ⟨g, cap, cur, e, h2, hg, rest⟩
  · exact .inl h1
  · exact .inr ⟨g, cap, cur, e, h2, (hb.block g (Array.getElem?_eq_some_iff.1 hg).1).trans hg, rest⟩
theorem OwnP.own_le {w : World} {base : Nat} {v : Value} {l : List (Int × Int)} (h : OwnP w base v l) : ∀ k, v.ownBlock = some k → base ≤ k := fun k e => (World.ownsRow.lt h k e).1
theorem OwnP.less {w : World} {base base' : Nat} {v : Value} {l : List (Int × Int)} (h : OwnP w base v l) (hb : base' ≤ base) : OwnP w base' v l := ⟨h.1, h.2.imp id fun ⟨g, cap, cur, h1, h2, h3⟩ => ⟨g, cap, cur, h1, Nat.le_trans hb h2, h3⟩⟩

set_option maxRecDepth 100000 in
set_option maxHeartbeats 2000000 in
theorem odd_any (W : World) (base : Nat) (v : Value) (l : List (Int × Int)) (hne : l ≠ []) (hnd : l.Nodup) (hlen : l.length ≤ 1000) (hbase : base ≤ W.heap.size) (hown : OwnP W base v l) :
    Calls Tryz.prog 192 #[.func (.func 193) #[] #[], v] W fun e w' => ∃ u s, e = .returned u ∧ s.Perm l ∧ s.Pairwise (fun a b => aheadB a b = true) ∧ OwnP w' W.heap.size u s ∧ Below base W w' := by
  have hmf := make_func
  have hB0 := below_one W (.cells #[.func (.func 193) #[] #[]] 204)
  have bF := Blk.new W 204 #[.func (.func 193) #[] #[]]
  have hdiff : some W.heap.size ≠ v.ownBlock := fun e => by have := (World.ownsRow.lt hown _ e.symm).2; omega
  have HS := Lib.hid (sort_any _ W.heap.size base v l hne hlen (hown.below hB0) bF.one hdiff)
  have HL := Lib.hid hlen
  have HN := Lib.hid hnd
  clear hown hne hdiff hnd hlen
  go_enter Tryz.func192, Tryz.ntmps192
  go_wp2_with (go_at_call 200; refine HS.out.mono ?_; rintro e w1 ⟨rfl, s, g, cap, rfl, hcap, hbg, hgl, hgh, hperm, hsort, hcells, hgr⟩)
  have hN : s.length = l.length := hperm.length_eq
  have hns : s.Nodup := hperm.nodup_iff.2 HN.out
  have HP := Lib.hid hperm
  have HT := Lib.hid (strict_of hns hsort)
  have hW1 : W.heap.size < w1.heap.size := by have := hgr.size; simp at this; omega
  have hg1 : g < w1.heap.size := by simp at hgl; omega
  have bF1 : Blk w1 W.heap.size 204 #[.func (.func 193) #[] #[]] := bF.grown hgr (fun e => by injection e with e; omega)
  have hB1 : Below base W w1 := below_grown (hB0.mono hbase) hgr (by simp; omega) (fun k e => by injection e with e; omega)
  have HC : Hid (∀ (j : Nat) (hj : j < s.length), w1.cell? ⟨g, j * 2, none⟩ = some (.int .i64 (s[j]).1) ∧ w1.cell? ⟨g, j * 2 + 1, none⟩ = some (.int .i64 (s[j]).2)) := fun j hj => by rw [Nat.mul_comm]; exact hcells j hj
  clear HS hsort hperm hcells hgr hgl bF hB0
  obtain ⟨n, hn⟩ : ∃ n, l.length = n := ⟨_, rfl⟩
  rw [hn] at hN hcap HL
  rw [hn]
  have hL := HL.out
  clear hn HL
  have HSL := Lib.hid hN
  clear hN
  go_loopw [5, 14] (fun v i wr => ∃ j : Nat, j ≤ n ∧ i = .int .i64 j ∧ (j = 0 → v = .slice none 0 0) ∧ OwnP wr w1.heap.size v (s.take j) ∧ Below w1.heap.size w1 wr) (fun _ i _ => n - (intOf i).toNat)
  case atStart => exact ⟨0, by omega, rfl, fun _ => rfl, ownP_nil _ _, Below.refl _ _⟩
  case round =>
    obtain ⟨j, hj, rfl, h0, hown, hB⟩ := hrel
    by_cases hlt : j < n
    · have hdec : decide ((j : Int) < (n : Int)) = true := by simp; omega
      have hjs : j < s.length := by rw [HSL.out]; exact hlt
      obtain ⟨x0, x1⟩ := HC.out j hjs
      replace x0 := nextc x0 hB
      replace x1 := nextc x1 hB
      have HNX := Lib.hid (fun W v2 h => OwnP.take_next (w := W) (base := w1.heap.size) (v := v2) hjs h)
      have hlen : (s.take j).length = j := by rw [List.length_take]; omega
      have HLT := Lib.hid hlen
      have HA : Hid (∀ (i : Nat) (hi : i < s.length), i < j → aheadB s[i] s[j] = true) := fun i hi hij => (List.pairwise_iff_getElem.1 HT.out) i j hi hjs hij
      generalize hx : s[j] = x at *
      obtain ⟨px, py⟩ := x
      have bX := Blk.new wr 195 #[.int .i64 px, .int .i64 py]
      have hBx := below_one wr (.cells #[.int .i64 px, .int .i64 py] 195)
      have bF2 := (bF1.below hB hW1).below hBx (by have := hB.size; omega)
      have hownx := hown.below hBx
      have HO : Hid (OwnP ((wr.alloc (.cells #[.int .i64 px, .int .i64 py] 195)).alloc (.cells #[.int .i64 px, .int .i64 py] 195)).drew w1.heap.size u5 (s.take j)) := hownx.below (below_one _ _).drew
      have HU : Hid (Blk ((wr.alloc (.cells #[.int .i64 px, .int .i64 py] 195)).alloc (.cells #[.int .i64 px, .int .i64 py] 195)).drew (wr.heap.size + 1) 195 #[.int .i64 px, .int .i64 py]) := Blk.second wr _ _ _
      have HBB : Hid (Below w1.heap.size w1 ((wr.alloc (.cells #[.int .i64 px, .int .i64 py] 195)).alloc (.cells #[.int .i64 px, .int .i64 py] 195)).drew) := (below_in hB (below_two wr _ _)).drew
      have HOL := Lib.hid hown.own_le
      rcases Nat.eq_zero_or_pos j with hj0 | hj0
      · subst hj0
        obtain rfl := h0 rfl
        have hd0 : decide ((0 : Int) < 0) = false := by decide
        clear HA
        go_upto_region 7 with fail
        go_region
        go_wp2_with (at_builtin; refine wpList_code _ rfl _ _ 197 195 (.agg #[.int .i64 0, .int .i64 0]) 16 rfl Tryz.underlying197 Tryz.infoPlace rfl w1.heap.size _ _ rfl _ HO.out _ 1 _ _ rfl HU.out (by rw [HLT.out]; omega) (by omega) (by have := hB.size; simp; omega) ?_; intro v2 w2 hown2 hgrow2)
        go_roundw
        case rel => exact ⟨_, hlt, by go_num, fun h => by omega, HNX.out _ _ hown2, below_grown HBB.out hgrow2 (by have := hB.size; simp; omega) HOL.out⟩
        case measure => simp [intOf]; omega
      · have hform : ∃ g2 cap2, u5 = .slice (some ⟨g2, 0, none⟩) j cap2 ∧ w1.heap.size ≤ g2 ∧ g2 < wr.heap.size := by
          have := World.ownsRow.form hown (by rw [hlen]; exact hj0)
          rwa [hlen] at this
        obtain ⟨g2, cap2, rfl, hg2, hgl2⟩ := hform
        obtain ⟨m, hm⟩ : ∃ m : Nat, j = m + 1 := ⟨j - 1, by omega⟩
        have hms : m < s.length := by omega
        have hba := HA.out m hms (by omega)
        have hown' := hown
        unfold OwnP at hown'
        rw [hlen] at hown'
        have hl0 := World.ownsRow.cellAt hown' (m * 2) (by omega)
        have hl1 := World.ownsRow.cellAt hown' (m * 2 + 1) (by omega)
        obtain ⟨k0, k1⟩ := codeCells_at (s.take j) m (by rw [hlen]; omega)
        rw [Nat.mul_comm 2 m, List.getElem_take] at k0 k1
        rw [k0] at hl0
        rw [k1] at hl1
        generalize s[m] = q at hba hl0 hl1
        obtain ⟨lx, ly⟩ := q
        have HBE := Lib.hid (fun W => before_any lx ly px py W)
        rw [hba] at HBE
        have hwr : IntKind.i64.wrap ((j : Int) - 1) = (m : Int) := by rw [IntKind.wrap_i64]; omega
        have hwr2 : wrap64 ((j : Int) - 1) = (m : Int) := by unfold wrap64; omega
        have i1 : (0 : Int) ≤ (m : Int) := by omega
        have i2 : (m : Int) < (j : Int) := by omega
        have hd0 : decide (0 < (j : Int)) = true := by simp; omega
        clear k0 k1 hown' hm hba HA hms h0 HO HU HBB
        have y0 := bF2.one
        have y1 := bX.cell 0
        have y2 := bX.cell 1
        have y3 := nextc hl0 hBx
        have y4 := nextc hl1 hBx
        simp only [List.getElem?_toArray, List.getElem?_cons_zero, List.getElem?_cons_succ] at y1 y2
        have HB3 : Hid (∀ V, V = ((wr.alloc (.cells #[.int .i64 px, .int .i64 py] 195)).drew.alloc (.cells #[.int .i64 lx, .int .i64 ly] 195)).alloc (.cells #[.int .i64 px, .int .i64 py] 195) → Below (wr.alloc (.cells #[.int .i64 px, .int .i64 py] 195)).heap.size (wr.alloc (.cells #[.int .i64 px, .int .i64 py] 195)) V) := fun V h => by rw [h]; exact below_in (Below.refl _ _).drew (below_two _ _ _)
        go_upto_region 7 with fail
        have hBy : Below (wr.alloc (.cells #[.int .i64 px, .int .i64 py] 195)).heap.size (wr.alloc (.cells #[.int .i64 px, .int .i64 py] 195)) (wr.alloc (.cells #[.int .i64 px, .int .i64 py] 195)) := Below.refl _ _
        go_region_held3 (fun V => V.cell? ⟨W.heap.size, 0, none⟩ = some (.func (.func 193) #[] #[]) ∧ V.cell? ⟨wr.heap.size, 0, none⟩ = some (.int .i64 px) ∧ V.cell? ⟨wr.heap.size, 1, none⟩ = some (.int .i64 py) ∧ V.cell? ⟨g2, m * 2, none⟩ = some (.int .i64 lx) ∧ V.cell? ⟨g2, m * 2 + 1, none⟩ = some (.int .i64 ly))
          (exact ⟨y0, y1, y2, y3, y4⟩) (first | (go_at_call 193; refine (HBE.out _).mono ?_; rintro e w2 ⟨rfl, hw2⟩; have hB3 := HB3.out _ hw2; clear hw2; replace hBy := hB3; replace y0 := nextc y0 hB3; replace y1 := nextc y1 hB3; replace y2 := nextc y2 hB3; replace y3 := nextc y3 hB3; replace y4 := nextc y4 hB3))
        have HO2 := Lib.hid ((hownx.below hBy).below (below_one w2 (.cells #[.int .i64 px, .int .i64 py] 195)))
        have HU2 := Lib.hid (Blk.new w2 195 #[.int .i64 px, .int .i64 py])
        have HBB2 := Lib.hid (below_in (below_in (below_in hB hBx) hBy) (below_one w2 (.cells #[.int .i64 px, .int .i64 py] 195)))
        go_wp2_with (at_builtin; refine wpList_code _ rfl _ _ 197 195 (.agg #[.int .i64 0, .int .i64 0]) 16 rfl Tryz.underlying197 Tryz.infoPlace rfl w1.heap.size _ _ rfl _ HO2.out _ 1 _ _ rfl HU2.out (by rw [HLT.out]; omega) (by omega) (by have := hB.size; have := hBy.size; simp at *; omega) ?_; intro v2 w3 hown2 hgrow2)
        go_roundw
        case rel => exact ⟨j + 1, hlt, by go_num, fun h => by omega, HNX.out _ _ hown2, below_grown HBB2.out hgrow2 (by have := hB.size; have := hBy.size; simp at *; omega) HOL.out⟩
        case measure => simp [intOf]; omega
    · obtain rfl : j = n := by omega
      have hdec : decide ((j : Int) < (j : Int)) = false := by simp
      rw [List.take_of_length_le (by rw [HSL.out]; exact Nat.le_refl _)] at hown
      have hWl := hW1
      go_wp2
      go_ret
      exact ⟨_, s, rfl, HP.out, HT.out, hown.less (by omega), hB1.trans (hB.mono (by have := hB1.size; omega))⟩
end Go.Proofs.YtggdlklkjnbbjaaGreatDoor

namespace Go.Proofs.YtggdlklkjnbbjaaGreatDoor
open Go.RowKit Go.Shelf
set_option linter.unusedSimpArgs false
set_option linter.unusedVariables false

theorem Tryz.infoAt : (Tryz.prog.info? 56).map (fun i => (i.zero, i.size, i.bytes)) = some (some (.agg #[.int .i64 0, .int .i64 0]), 2, 16) := by kernel_rfl
/-- The cells cs bear the places s, as far as j of them. -/
def Bears (cs : Array Value) (s : List (Int × Int)) (j : Nat) : Prop := cs.size = s.length * 2 ∧ ∀ (i : Nat) (hi : i < s.length), i < j → cs[i * 2]? = some (.int .i64 (s[i]).1) ∧ cs[i * 2 + 1]? = some (.int .i64 (s[i]).2)
theorem Bears.next {cs : Array Value} {s : List (Int × Int)} {j : Nat} (h : Bears cs s j) (hj : j < s.length) {x y : Int} (hx : s[j] = (x, y)) : Bears ((cs.setIfInBounds (j * 2) (.int .i64 x)).setIfInBounds (j * 2 + 1) (.int .i64 y)) s (j + 1) := by
  refine ⟨by simp [h.1], fun i hi hij => ?_⟩
  have hs := h.1
  by_cases e : i = j
  · subst e
    rw [hx]
    exact ⟨by rw [Array.getElem?_setIfInBounds_ne (by omega), Array.getElem?_setIfInBounds_self_of_lt (by omega)], by rw [Array.getElem?_setIfInBounds_self_of_lt (by simp; omega)]⟩
  · obtain ⟨h1, h2⟩ := h.2 i hi (by omega)
    exact ⟨by rw [Array.getElem?_setIfInBounds_ne (by omega), Array.getElem?_setIfInBounds_ne (by omega)]; exact h1, by rw [Array.getElem?_setIfInBounds_ne (by omega), Array.getElem?_setIfInBounds_ne (by omega)]; exact h2⟩
/-- The slice value v reads as the places s, below block B. -/
def ReadP (B : Nat) (W : World) (v : Value) (s : List (Int × Int)) : Prop :=
  ∃ g cap, v = .slice (some ⟨g, 0, none⟩) s.length cap ∧ g < B ∧ ∀ (j : Nat) (hj : j < s.length), W.cell? ⟨g, j * 2, none⟩ = some (.int .i64 (s[j]).1) ∧ W.cell? ⟨g, j * 2 + 1, none⟩ = some (.int .i64 (s[j]).2)
theorem ReadP.below {B : Nat} {W W' : World} {v : Value} {s : List (Int × Int)} (h : ReadP B W v s) (hb : Below B W W') : ReadP B W' v s := by
  obtain ⟨g, cap, e, hg, hc⟩ := h
  exact ⟨g, cap, e, hg, fun j hj => ⟨(hb.cell (p := ⟨g, j * 2, none⟩) hg).trans (hc j hj).1, (hb.cell (p := ⟨g, j * 2 + 1, none⟩) hg).trans (hc j hj).2⟩⟩
theorem ReadP.next {W W' : World} {v : Value} {s : List (Int × Int)} (h : ReadP W.heap.size W v s) (hb : Below W.heap.size W W') : ReadP W'.heap.size W' v s := by
  obtain ⟨g, cap, e, hg, hc⟩ := h.below hb
  exact ⟨g, cap, e, Nat.lt_of_lt_of_le hg hb.size, hc⟩

set_option maxRecDepth 100000 in
set_option maxHeartbeats 2000000 in
theorem told_any (W : World) (base : Nat) (v : Value) (l : List (Int × Int)) (hne : l ≠ []) (hnd : l.Nodup) (hlen : l.length ≤ 1000) (hbase : base ≤ W.heap.size) (hown : OwnP W base v l) :
    Calls Tryz.prog 186 #[v] W fun e w' => ∃ u s, e = .returned u ∧ s.Perm l ∧ s.Pairwise (fun a b => aheadB a b = true) ∧ ReadP w'.heap.size w' u s ∧ Below base W w' := by
  have HS := Lib.hid (odd_any W base v l hne hnd hlen hbase hown)
  have HL := Lib.hid hlen
  have HNE := Lib.hid hne
  obtain ⟨i0, hi, hz0, hz1, hz2⟩ := info_parts Tryz.infoAt
  have hmk := fun (W : World) (N : Nat) (hN : N ≤ 1000) => run_make (P := Tryz.prog) W 49 56 i0 (.agg #[.int .i64 0, .int .i64 0]) Tryz.underlying49 hi hz0 .i64 .i64 (N : Int) (N : Int) (by omega) (by omega) (by rw [hz2]; omega) (by omega)
  simp only [hz1, Int.toNat_natCast] at hmk
  have HMK := Lib.hid hmk
  clear hown hne hnd hlen hmk hi hz0 hz1 hz2
  go_enter Tryz.func186, Tryz.ntmps186
  go_wp2_with fail
  refine HS.out.mono ?_
  rintro e w1 ⟨u, s, rfl, hperm, hst, ho, hB1⟩
  clear HS
  have hN := hperm.length_eq
  have HP := Lib.hid hperm
  have HT := Lib.hid hst
  have hs0 : 0 < s.length := by rw [hN]; exact List.length_pos_iff.2 HNE.out
  have hsl : s.length ≤ 1000 := by rw [hN]; exact HL.out
  obtain ⟨g, cap, rfl, hg, hg1⟩ := World.ownsRow.form ho hs0
  have HC : Hid (∀ (j : Nat) (hj : j < s.length), w1.cell? ⟨g, j * 2, none⟩ = some (.int .i64 (s[j]).1) ∧ w1.cell? ⟨g, j * 2 + 1, none⟩ = some (.int .i64 (s[j]).2)) := fun j hj => by
    obtain ⟨k0, k1⟩ := codeCells_at s j hj
    rw [Nat.mul_comm 2 j] at k0 k1
    exact ⟨(World.ownsRow.cellAt ho (j * 2) (by omega)).trans k0, (World.ownsRow.cellAt ho (j * 2 + 1) (by omega)).trans k1⟩
  clear hperm hst ho hN
  obtain ⟨n, hn⟩ : ∃ n, s.length = n := ⟨_, rfl⟩
  have HSL := Lib.hid hn
  rw [hn] at hs0 hsl
  rw [hn]
  clear hn
  have hmk := HMK.out w1 n hsl
  clear HMK
  have bA := Blk.new w1 56 (madeCells (Value.agg #[.int .i64 0, .int .i64 0]).cells (n * 2))
  have hBA := below_one w1 (.cells (madeCells (Value.agg #[.int .i64 0, .int .i64 0]).cells (n * 2)) 56)
  have hbz : (madeCells (Value.agg #[.int .i64 0, .int .i64 0]).cells (n * 2)).size = n * 2 := size_madeCells _ _
  obtain ⟨wA, hwA⟩ : ∃ wA, w1.alloc (.cells (madeCells (Value.agg #[.int .i64 0, .int .i64 0]).cells (n * 2)) 56) = wA := ⟨_, rfl⟩
  rw [hwA] at hmk bA hBA
  generalize madeCells (Value.agg #[.int .i64 0, .int .i64 0]).cells (n * 2) = csA at bA hbz
  clear hwA
  go_wp2_with fail
  go_loopw [14] (fun i wr => ∃ (j : Nat) (cs : Array Value), j ≤ n ∧ i = .int .i64 j ∧ Blk wr w1.heap.size 56 cs ∧ Bears cs s j ∧ Below w1.heap.size w1 wr) (fun i _ => n - (intOf i).toNat)
  case atStart => exact ⟨0, csA, by omega, rfl, bA, ⟨by rw [hbz, HSL.out], fun i _ h => absurd h (by omega)⟩, hBA⟩
  case round =>
    clear bA hbz hBA hmk
    obtain ⟨j, cs, hj, rfl, bA, hbe, hB⟩ := hrel
    by_cases hlt : j < n
    · have hdec : decide ((j : Int) < (n : Int)) = true := by simp; omega
      have hjs : j < s.length := by rw [HSL.out]; exact hlt
      obtain ⟨x0, x1⟩ := HC.out j hjs
      replace x0 := nextc x0 hB
      replace x1 := nextc x1 hB
      have hsz : cs.size = n * 2 := by rw [hbe.1, HSL.out]
      have HNX := Lib.hid (fun x y (h : s[j] = (x, y)) => hbe.next hjs h)
      generalize hx : s[j] = x at *
      obtain ⟨px, py⟩ := x
      replace HNX := Lib.hid (HNX.out _ _ rfl)
      have hBx := below_one wr (.cells #[.int .i64 px, .int .i64 py] 195)
      have bX := Blk.new wr 195 #[.int .i64 px, .int .i64 py]
      have bA2 := bA.below hBx bA.lt
      have c0 := bA2.cell (j * 2)
      have c1 := bA2.cell (j * 2 + 1)
      rw [Array.getElem?_eq_getElem (show j * 2 < cs.size by omega)] at c0
      rw [Array.getElem?_eq_getElem (show j * 2 + 1 < cs.size by omega)] at c1
      have f0 := bA2.frozen (j * 2)
      have f1 := bA2.frozen (j * 2 + 1)
      have i1 : (0 : Int) ≤ (j : Int) := by omega
      have i2 : (j : Int) < (n : Int) := by omega
      generalize cs[j * 2]'_ = o0 at c0
      generalize cs[j * 2 + 1]'_ = o1 at c1
      clear hx hbe hsz
      have HBX : Hid (∀ V, V = ((wr.alloc (.cells #[.int .i64 px, .int .i64 py] 195)).setCell ⟨w1.heap.size, j * 2, none⟩ (.int .i64 px)).setCell ⟨w1.heap.size, j * 2 + 1, none⟩ (.int .i64 py) →
          Blk V w1.heap.size 56 ((cs.setIfInBounds (j * 2) (.int .i64 px)).setIfInBounds (j * 2 + 1) (.int .i64 py)) ∧ Below w1.heap.size w1 V) := fun V h => by
        rw [h]
        exact ⟨(bA2.set_ (j * 2) _).set_ (j * 2 + 1) _, (((below_in hB hBx)).setCell (Nat.le_refl _) _).setCell (Nat.le_refl _) _⟩
      go_wp2_with fail
      go_roundw
      case rel => exact ⟨j + 1, _, hlt, by go_num, (HBX.out _ rfl).1, HNX.out, (HBX.out _ rfl).2⟩
      case measure => simp [intOf]; omega
    · obtain rfl : j = n := by omega
      have hdec : decide ((j : Int) < (j : Int)) = false := by simp
      go_wp2
      go_ret
      refine ⟨_, s, rfl, HP.out, HT.out, ⟨w1.heap.size, j, by rw [HSL.out]; rfl, bA.lt, fun i hi => ?_⟩, hB1.trans (hB.mono (by have := hB1.size; omega))⟩
      rw [bA.cell (i * 2), bA.cell (i * 2 + 1)]
      exact hbe.2 i hi (by rw [← HSL.out]; exact hi)
end Go.Proofs.YtggdlklkjnbbjaaGreatDoor

namespace Go.Proofs.YtggdlklkjnbbjaaGreatDoor
open Go.RowKit Go.Shelf
set_option linter.unusedSimpArgs false
set_option linter.unusedVariables false
attribute [local go_sem] Oper.semAt_some

theorem OwnI.less {w : World} {base base' : Nat} {v : Value} {l : List Int} (h : OwnI w base v l) (hb : base' ≤ base) : OwnI w base' v l := ⟨h.1, h.2.imp id fun ⟨g, cap, cur, h1, h2, h3⟩ => ⟨g, cap, cur, h1, Nat.le_trans hb h2, h3⟩⟩
/-- The function v goes over the places zs. -/
def Seqs (lo : Nat) (zs : List (Int × Int)) (v : Value) (w : World) : Prop :=
  ∃ gf lb, v = .func (.func gf) #[] lb ∧ (∀ args W, (callFunc gf args).run Tryz.prog W = .ok (.enter gf args) W) ∧
    ∀ n, 6 ≤ n → SeqO Fence.wide n Tryz.prog gf lb (fun x : Int × Int => #[.agg #[.int .i64 x.1, .int .i64 x.2]]) (fun x _ => x ∈ zs) (KeepL lo (w.heap.size - lo)) (fun ys => ys = zs) (fun pre => pre <+: zs) 1000 w
theorem KeepL.less {lo lo' k k' : Nat} {X Y : World} (h : KeepL lo k X Y) (h1 : lo ≤ lo') (h2 : lo' + k' ≤ lo + k) : KeepL lo' k' X Y := ⟨h.1.less h1 h2, h.2⟩
theorem Seqs.less {lo lo' : Nat} {zs : List (Int × Int)} {v : Value} {w : World} (h : Seqs lo zs v w) (hl : lo' ≤ lo) (hw : lo ≤ w.heap.size) : Seqs lo' zs v w := by
  obtain ⟨gf, lb, e, eg, hg⟩ := h
  exact ⟨gf, lb, e, eg, fun n hn l J Jx W o₀ hW ho₀ hJ hJx hr1 hr2 hY h0 => hg n hn l J Jx W o₀ hW ho₀ hJ hJx hr1 hr2 (fun pre x o W1 hj hok hl' hs => (hY pre x o W1 hj hok hl' hs).mono fun _ _ ⟨o', hf, hS, h⟩ => ⟨o', hf, hS, h.imp (fun ⟨h1, h2, h3⟩ => ⟨h1, h2, h3.less hl (by omega)⟩) id⟩) h0⟩
theorem enter_setsDown1 : ∀ args W, (callFunc 211 args).run Tryz.prog W = .ok (.enter 211 args) W := enters_of Tryz.func211 (by kernel_rfl) rfl

set_option maxHeartbeats 1000000 in
theorem setsDown_any (k p d c : Int) (hR : RightC k p) (cs : List Int) (hne : cs ≠ []) (hcs : ∀ x ∈ cs, HasCol k p x) (hcl : cs.length ≤ 20) (w : World) (hL : Laid w) (base : Nat) (v : Value) (hb : base ≤ w.heap.size) (ho : OwnI w base v cs) :
    Calls Tryz.prog 198 #[.agg #[.int .i64 k, .int .i64 p, .int .i64 d, .int .i64 c], v] w fun e w' => ∃ u, e = .returned u ∧ Seqs base (flatC p cs) u w' ∧ Below w.heap.size w w' := by
  have hmf := make_func
  have hlen : 0 < cs.length := List.length_pos_iff.2 hne
  obtain ⟨bq, cap, rfl, hq1, hq2⟩ := World.ownsRow.form ho hlen
  have hcc : ∀ (j : Nat) (hj : j < cs.length), w.cell? ⟨bq, j, none⟩ = some (.int .i64 cs[j]) := fun j hj => by
    rw [World.ownsRow.cellAt ho j (by omega), List.getElem?_map, List.getElem?_eq_getElem hj]; rfl
  have HC := Lib.hid hcc
  clear hcc ho
  have bg := (Blk.new w 190 #[.int .i64 k, .int .i64 p, .int .i64 d, .int .i64 c]).alloc (.cells #[.slice (some ⟨bq, 0, none⟩) cs.length cap] 109)
  have bh := Blk.second w (.cells #[.int .i64 k, .int .i64 p, .int .i64 d, .int .i64 c] 190) 109 #[.slice (some ⟨bq, 0, none⟩) cs.length cap]
  have hB := below_two w (.cells #[.int .i64 k, .int .i64 p, .int .i64 d, .int .i64 c] 190) (.cells #[.slice (some ⟨bq, 0, none⟩) cs.length cap] 109)
  go_enter Tryz.func198, Tryz.ntmps198
  go_wp2
  go_ret
  have hL2 := hL.next hB
  refine ⟨_, rfl, ⟨_, _, rfl, enter_setsDown1, ?_⟩, hB⟩
  intro n hn l J Jx W o₀ hW ho₀ hJ hJx hr1 hr2 hY h0
  have hsz := hW.size
  simp at hsz
  exact setsDown_in n hn l w.heap.size (w.heap.size + 1) base _ bq cap k p d c hR cs hcs hcl ⟨hb, by simp; omega⟩ ⟨by omega, by simp; omega⟩ ⟨hq1, by simp; omega⟩ W (by simp; omega) (hL2.next hW) J Jx o₀ ho₀ hJ hJx hr1 hr2 hY
    (bg.below hW bg.lt) (bh.below hW bh.lt) (fun j hj => nextc (nextc (HC.out j hj) hB) hW) h0

set_option maxHeartbeats 2000000 in
theorem ahead_any (k p d c mx my : Int) (hR : RightC k p) (h1 : 1 ≤ mx) (h2 : mx ≤ 20) (hcs : ∀ x ∈ spanL 0 mx, HasCol k p x) (w : World) (hL : Laid w) :
    Calls Tryz.prog 191 #[.agg #[.int .i64 k, .int .i64 p, .int .i64 d, .int .i64 c], .agg #[.int .i64 mx, .int .i64 my]] w fun e w' => ∃ u, e = .returned u ∧ Seqs w.heap.size (flatC p (spanL 0 mx)) u w' ∧ Below w.heap.size w w' := by
  have HS := Lib.hid (fun W => span_any 0 mx (by omega) (by omega) (by omega) W)
  have hne : spanL 0 mx ≠ [] := fun e => by have := spanL_len 0 mx; rw [e] at this; simp at this; omega
  have hsl : (spanL 0 mx).length ≤ 20 := by rw [spanL_len]; omega
  have HDn := Lib.hid (fun W hL base v hb ho => setsDown_any k p d c hR (spanL 0 mx) hne hcs hsl W hL base v hb ho)
  obtain ⟨W0, hW0⟩ : ∃ W0, (w.alloc (.cells #[.int .i64 k, .int .i64 p, .int .i64 d, .int .i64 c] 190)).alloc (.cells #[.int .i64 mx, .int .i64 my] 195) = W0 := ⟨_, rfl⟩
  have b0 : Blk W0 w.heap.size 190 #[.int .i64 k, .int .i64 p, .int .i64 d, .int .i64 c] := by rw [← hW0]; exact (Blk.new w _ _).alloc _
  have b1 : Blk W0 (w.heap.size + 1) 195 #[.int .i64 mx, .int .i64 my] := by rw [← hW0]; exact Blk.second w _ _ _
  have hB : Below w.heap.size w W0 := by rw [← hW0]; exact below_two w _ _
  have hL0 := hL.next hB
  have hs0 := hB.size
  clear hcs hne hsl hR
  generalize spanL 0 mx = cs at *
  go_enter Tryz.func191, Tryz.ntmps191
  go_wp2_with fail
  clear hW0
  go_region_held3 (fun W => W.cell? ⟨w.heap.size, 0, none⟩ = some (.int .i64 k) ∧ W.cell? ⟨w.heap.size, 1, none⟩ = some (.int .i64 p) ∧ W.cell? ⟨w.heap.size, 2, none⟩ = some (.int .i64 d) ∧ W.cell? ⟨w.heap.size, 3, none⟩ = some (.int .i64 c) ∧ W.cell? ⟨w.heap.size + 1, 0, none⟩ = some (.int .i64 mx))
    (exact ⟨b0.cell 0, b0.cell 1, b0.cell 2, b0.cell 3, b1.cell 0⟩) (first
    | (go_at_call 199; refine (HS.out _).mono ?_; rintro e w1 ⟨u1, rfl, ho1, hB1⟩; (first | replace b0 := b0.below hB1 b0.lt | replace b0 := b0.nextd hB1); (first | replace b1 := b1.below hB1 b1.lt | replace b1 := b1.nextd hB1); (first | replace hB := below_in hB hB1 | replace hB := below_in hB.drew hB1); have hL1 := (by first | exact Laid.next (w := W0.drew) hL0 hB1 | exact Laid.next (w := W0) hL0 hB1 : Laid w1))
    | (go_at_call 198; refine (HDn.out _ hL1 w.heap.size _ (by have := hB.size; omega) (OwnI.less ho1 hs0)).mono ?_; rintro e w2 ⟨u2, rfl, hsq, hB2⟩; replace b0 := b0.below hB2 b0.lt; replace b1 := b1.below hB2 b1.lt; replace hB := below_in hB hB2))
  all_goals go_wp2
  all_goals go_ret
  all_goals exact ⟨_, rfl, hsq, hB⟩
end Go.Proofs.YtggdlklkjnbbjaaGreatDoor

namespace Go.Proofs.YtggdlklkjnbbjaaGreatDoor
open Go.RowKit Go.Shelf
set_option linter.unusedSimpArgs false
set_option linter.unusedVariables false
attribute [local go_sem] Oper.semAt_some

theorem codeCells_one (l : List (Int × Int)) (x y : Int) : codeCells (l ++ [(x, y)]) = codeCells l ++ [.int .i64 x, .int .i64 y] := by unfold codeCells; rw [List.flatMap_append]; rfl
/-- append of one place more to a row of the call's own, in a round. -/
theorem wpListIn_place {F : Fence} {nF : Nat} (w : World) {ops : Array Oper} {rest : List Oper} {o : Oper} {a : Act} {Q : Exit → Act → World → Prop} (hgd : o.guard = none) (s x : Operand)
    (ho : o.op = .call { callee := .builtin .append, args := #[s, x], argTypes := #[197, 197] })
    (base : Nat) (v : Value) (l : List (Int × Int)) (hs : a.eval s = v) (hown : OwnP w base v l) (g : Nat) (p1 p2 : Int) (hx : a.eval x = .slice (some ⟨g, 0, none⟩) 1 1) (hu : Blk w g 195 #[.int .i64 p1, .int .i64 p2])
    (hlen : l.length ≤ 1000000000) (hbase : base ≤ w.heap.size)
    (h : ∀ v' w', OwnP w' base v' (l ++ [(p1, p2)]) → w.grownBy w' v.ownBlock → (v'.ownBlock = v.ownBlock ∨ v'.ownBlock = some w.heap.size) → wpListIn F nF Tryz.prog ops Q rest (a.put o.dst v') w') : wpListIn F nF Tryz.prog ops Q (o :: rest) a w := by
  obtain ⟨i, hi, hz0, hz1, hz2⟩ := info_parts Tryz.infoPlace
  refine wpListIn_append_own_at w hgd s x 197 ho base 195 i (.agg #[.int .i64 0, .int .i64 0]) 2 16 Tryz.underlying197 hi hz0 hz1 hz2 rfl (by omega) v l.length (codeCells l) hs hown ⟨g, 0, none⟩ 1 1 [.int .i64 p1, .int .i64 p2] hx rfl
    (by intro j y hy
        rw [addr_add, Nat.zero_add, hu.cell j, List.getElem?_toArray]
        exact hy)
    (by intro y hy; simp only [List.mem_cons, List.not_mem_nil, or_false] at hy; rcases hy with rfl | rfl <;> rfl) (by unfold maxLen; omega) (by omega) hbase ?_
  intro v' w' h1 h2 h4 h3
  refine h v' w' ?_ h2 h3
  unfold OwnP
  rw [codeCells_one, List.length_append]
  exact h1
theorem OwnP.far {w : World} {base : Nat} {v : Value} {l : List (Int × Int)} (h : OwnP w base v l) {p : Addr} (hp : some p.block ≠ v.ownBlock) (u : Value) : OwnP (w.setCell p u) base v l := by
  refine ⟨h.1, ?_⟩
  rcases h.2 with h1 | ⟨g, cap, cur, e, h2, hg, rest⟩
  · exact .inl h1
  · exact .inr ⟨g, cap, cur, e, h2, (Below.heap_setCell w p u g (fun e2 => hp (by rw [e, ← e2]; rfl))).trans hg, rest⟩
theorem OwnP.kept {w w' : World} {base : Nat} {v : Value} {l : List (Int × Int)} (h : OwnP w base v l) {row : Option Nat} (hg : w.grownBy w' row) (hne : v.ownBlock = none ∨ v.ownBlock ≠ row) : OwnP w' base v l := World.ownsRow.kept h hg hne
theorem OwnP.blks {w w' : World} {base : Nat} {v : Value} {l : List (Int × Int)} (h : OwnP w base v l) (hk : ∀ g t cs, Blk w g t cs → Blk w' g t cs) : OwnP w' base v l :=
  ⟨h.1, h.2.imp id fun ⟨g, cap, cur, e, h2, hg, rest⟩ => ⟨g, cap, cur, e, h2, hk _ _ _ hg, rest⟩⟩
theorem OwnP.rowO {w : World} {base : Nat} {v : Value} {l : List (Int × Int)} (h : OwnP w base v l) : RowO v.ownBlock w := fun b e => by
  rcases h.2 with ⟨rfl, _⟩ | ⟨g, cap, cur, rfl, _, hg, _⟩
  · cases e
  · injection e with e
    subst e
    exact ⟨_, _, _, hg⟩
theorem laid_put {W : World} (h : Laid W) {l : Nat} (hl : ∃ r, W.heap[l]? = some (.loop r)) (ob : Obj) : Laid (W.putObj l ob) := by
  obtain ⟨r, hr⟩ := hl
  have h1 : ∀ {g : Nat} {cs : Array Value}, LaidAt g cs W → LaidAt g cs (W.putObj l ob) := fun {g cs} ⟨t, fr, hg⟩ => ⟨t, fr, (World.putObj_heap_other (fun e => by rw [e, hr] at hg; cases hg)).trans hg⟩
  exact ⟨h1 h.1, h1 h.2⟩

set_option maxRecDepth 100000 in
set_option maxHeartbeats 4000000 in
theorem gathered_any (q : Int → Int → Bool) (zs : List (Int × Int)) (hzl : zs.length ≤ 1000) (lo : Nat) (v1 v2 : Value) (W : World) (hL : Laid W) (hlo : lo ≤ W.heap.size) (h1 : Asks q v1 W) (h2 : Seqs lo zs v2 W) :
    Calls Tryz.prog 189 #[v1, v2] W fun e w' => ∃ u, e = .returned u ∧ OwnP w' W.heap.size u (zs.filter fun x => q x.1 x.2) ∧ Below W.heap.size W w' := by
  obtain ⟨gf, lb, rfl, eg, hg⟩ := h2
  obtain ⟨qf, qb, rfl, eqf, hq⟩ := h1
  obtain ⟨w7, hw7⟩ : ∃ w7, (W.alloc (.cells #[.func (.func qf) #[] qb] 188)).alloc (.cells #[.slice none 0 0] 197) = w7 := ⟨_, rfl⟩
  have b0 : Blk w7 W.heap.size 188 #[.func (.func qf) #[] qb] := by rw [← hw7]; exact (Blk.new W _ _).alloc _
  have b1 : Blk w7 (W.heap.size + 1) 197 #[.slice none 0 0] := by rw [← hw7]; exact Blk.second W _ _ _
  have hB : Below W.heap.size W w7 := by rw [← hw7]; exact below_two W _ _
  have s7 : w7.heap.size = W.heap.size + 2 := by rw [← hw7]; simp
  have hL7 := hL.next hB
  refine (callsIn_wide (n := 9)).1 ?_
  refine callsIn_of_wp_marks Tryz.func189 rfl trivial ?_ rfl
  simp only [Tryz.ntmps189, List.size_toArray, List.length_cons, List.length_nil, Nat.reduceAdd, Nat.reduceSub, Array.replicate_succ, Array.replicate_zero, List.push_toArray, List.append_toArray, List.nil_append, List.cons_append]
  gi_wp2_with fail
  clear hw7
  refine wpIn_rangeBoxO rfl (by omega) (gf := gf) (lb := lb) rfl trivial eg (hg _ (by omega)) (fun h h' => h.trans h') (fun V l ob hl _ hlp => ⟨Keep.putFar V (by omega) ob, fun h => laid_put h hlp ob⟩) hB (fun _ => rfl)
    (fun pre o X => ∃ v, Blk X (W.heap.size + 1) 197 #[v] ∧ OwnP X (W.heap.size + 2) v (pre.filter fun x => q x.1 x.2) ∧ v.ownBlock = o ∧ Blk X W.heap.size 188 #[.func (.func qf) #[] qb] ∧ Below W.heap.size W X)
    (fun _ _ _ _ => False) ?hI (fun c s o X Y row hs _ _ => hs) none (fun b e => by cases e) ⟨_, b1, ownP_nil _ _, rfl, b0, hB⟩
    (fun _ => True) (fun _ _ _ => trivial) 195 (fun z : Int × Int => #[.int .i64 z.1, .int .i64 z.2]) ?a1
    ?assign (fun pre o X h => by obtain ⟨v, _, ho, rfl, _⟩ := h; exact ho.rowO) (fun c pre o X h => h.elim) ?body ?done (fun D c pre o X _ _ _ h => h.elim)
  case hI =>
    rintro s o X Y row ⟨v, hb1, ho, rfl, hb0, hBX⟩ hgr hr
    have hne : ∀ g, g < w7.heap.size → some g ≠ row := fun g hg e => by have := (hr g e.symm).1; omega
    refine ⟨v, hb1.grown hgr (hne _ (by omega)), ho.kept hgr ?_, rfl, hb0.grown hgr (hne _ (by omega)), hBX.grown hgr hBX.size (fun r e => by have := (hr r e).1; omega)⟩
    cases hrow : row with
    | none => exact (Option.eq_none_or_eq_some v.ownBlock).imp id (fun ⟨x, hx⟩ => by rw [hx]; simp)
    | some r => exact .inr (fun e => (hr r hrow).2 e.symm)
  case assign =>
    rintro l' pre z o X KK hsz hol ⟨v, hb1, ho, rfl, hb0, hBX⟩ _ hKK
    gi_wp2
    have hbx := Blk.new X 195 #[.int .i64 z.1, .int .i64 z.2]
    have hBz := below_one X (.cells #[.int .i64 z.1, .int .i64 z.2] 195)
    have hSi : SinceO w7.heap.size v.ownBlock X (X.alloc (.cells #[.int .i64 z.1, .int .i64 z.2] 195)) := SinceO.below hBz
    have hKe : KeepL lo (W.heap.size - lo) X (X.alloc (.cells #[.int .i64 z.1, .int .i64 z.2] 195)) := ⟨Keep.alloc (by omega) _, fun h => h.next hBz⟩
    have h1' := hb1.below hBz hb1.lt
    have h2' := ho.below hBz
    have h3' := hb0.below hBz hb0.lt
    have h4' := below_in hBX hBz
    have hne : some X.heap.size ≠ v.ownBlock := fun e => by have := hol _ e.symm; omega
    clear hBz hol hb1 ho hb0 hBX
    generalize X.alloc (.cells #[.int .i64 z.1, .int .i64 z.2] 195) = X' at *
    generalize X.heap.size = Bx at *
    exact hKK Bx _ hSi hKe ⟨v, h1', h2', rfl, h3', h4'⟩ hbx hne hsz
  case body =>
    rintro l' pre z o Bx X hsz ⟨v, hb1, ho, rfl, hb0, hBX⟩ hbx hne hle _ hlz
    have c0 := hb0.one
    have z0 := hbx.cell 0
    have z1 := hbx.cell 1
    simp only [List.getElem?_toArray, List.getElem?_cons_zero, List.getElem?_cons_succ] at z0 z1
    have HA := Lib.hid (hq z.1 z.2 X (Sub.below hBX))
    have hol := ho.rowO.lt
    cases hqz : q z.1 z.2 with
    | false =>
      rw [hqz] at HA
      have hfl : (pre ++ [z]).filter (fun x => q x.1 x.2) = pre.filter fun x => q x.1 x.2 := by simp [List.filter_append, hqz]
      gi_wp2_with fail
      refine ⟨trivial, (CallsIn.inRound l' (callsIn_wide.2 HA.out)).mono ?_⟩
      rintro e Xa ⟨rfl, hBa⟩
      gi_wp2
      exact ⟨v.ownBlock, .inl rfl, SinceO.below hBa, ⟨Keep.below hBa (by omega), fun h => h.next hBa⟩, v, hb1.below hBa hb1.lt, by rw [hfl]; exact ho.below hBa, rfl, hb0.below hBa hb0.lt, below_in hBX hBa⟩
    | true =>
      rw [hqz] at HA
      have hfl : (pre ++ [z]).filter (fun x => q x.1 x.2) = (pre.filter fun x => q x.1 x.2) ++ [z] := by simp [List.filter_append, hqz]
      have hfn : (pre.filter fun x => q x.1 x.2).length ≤ 1000 := by have := List.length_filter_le (fun x : Int × Int => q x.1 x.2) pre; omega
      have HF := Lib.hid hfl
      clear hfl
      generalize (pre.filter fun x => q x.1 x.2) = fl at *
      gi_wp2_with fail
      refine ⟨trivial, (CallsIn.inRound l' (callsIn_wide.2 HA.out)).mono ?_⟩
      rintro e Xa ⟨rfl, hBa⟩
      clear HA hq hqz c0 z0 z1
      have hbxa := hbx.below hBa hbx.lt
      have hb1a := hb1.below hBa hb1.lt
      have z0 := hbxa.cell 0
      have z1 := hbxa.cell 1
      have c1 := hb1a.one
      simp only [List.getElem?_toArray, List.getElem?_cons_zero, List.getElem?_cons_succ] at z0 z1
      have hBb := below_one Xa (.cells #[.int .i64 z.1, .int .i64 z.2] 195)
      have HO := Lib.hid ((ho.below hBa).below hBb)
      have HU := Lib.hid (Blk.new Xa 195 #[.int .i64 z.1, .int .i64 z.2])
      have hb1b := hb1a.below hBb hb1a.lt
      have hb0b := (hb0.below hBa hb0.lt).below hBb (by have := hBa.size; have := hb0.lt; omega)
      have hBab := below_in hBa hBb
      have hn1 : some (W.heap.size + 1) ≠ v.ownBlock := fun e => by have := ho.own_le _ e.symm; omega
      have hn0 : some W.heap.size ≠ v.ownBlock := fun e => by have := ho.own_le _ e.symm; omega
      have hva := ho.own_le
      have hsa := hBa.size
      have hsb := hBb.size
      gi_wp2_with (gi_at_builtin; refine wpListIn_place _ rfl _ _ rfl (W.heap.size + 2) v _ rfl HO.out Xa.heap.size z.1 z.2 rfl HU.out (by omega) (by simp; omega) ?_; intro v2 w3 ho2 hg2 hd2; (have hfm := World.ownsRow.form ho2 (by simp)); (obtain ⟨g2, cap2, hv2, _, _⟩ := hfm); (generalize (fl ++ [(z.1, z.2)]).length = N at hv2); subst hv2; have hb3 := hb1b.grown hg2 hn1; have hb30 := hb0b.grown hg2 hn0; have c3 := hb3.one; have f3 := hb3.frozen 0)
      have hs3 := hg2.size
      have hn2 : some (W.heap.size + 1) ≠ (Value.slice (some ⟨g2, 0, none⟩) N cap2).ownBlock := fun e => by have := ho2.own_le _ e.symm; omega
      have hfr : FreshO v.ownBlock (Value.slice (some ⟨g2, 0, none⟩) N cap2).ownBlock X := by
        rcases hd2 with h | h
        · exact .inl h
        · exact .inr ⟨_, h, by simp; omega⟩
      have hsi : SinceO w7.heap.size v.ownBlock X (w3.setCell ⟨W.heap.size + 1, 0, none⟩ (Value.slice (some ⟨g2, 0, none⟩) N cap2)) :=
        (SinceO.below hBab).trans_ ⟨by simpa using hs3, fun b h1 h2 h3 => (Below.heap_setCell w3 _ (Value.slice (some ⟨g2, 0, none⟩) N cap2) b (by simp; omega)).trans (hg2.block b h2 h3)⟩
      have hke : Keep lo (W.heap.size - lo) X (w3.setCell ⟨W.heap.size + 1, 0, none⟩ (Value.slice (some ⟨g2, 0, none⟩) N cap2)) :=
        ((Keep.below hBab (by omega)).trans (Keep.grown hg2 (by omega) (fun r e => .inr (by have := hva r e; omega)))).trans (Keep.setFar w3 (by simp; omega) (Value.slice (some ⟨g2, 0, none⟩) N cap2))
      have hla : Laid X → Laid (w3.setCell ⟨W.heap.size + 1, 0, none⟩ (Value.slice (some ⟨g2, 0, none⟩) N cap2)) := fun _ => hL.next (((below_in hBX hBab).grown hg2 (by have := hBX.size; have := hBab.size; omega) (fun r e => by have := hva r e; omega)).setCell (by simp) (Value.slice (some ⟨g2, 0, none⟩) N cap2))
      have hbe : Below W.heap.size W (w3.setCell ⟨W.heap.size + 1, 0, none⟩ (Value.slice (some ⟨g2, 0, none⟩) N cap2)) := ((below_in hBX hBab).grown hg2 (by have := hBX.size; have := hBab.size; omega) (fun r e => by have := hva r e; omega)).setCell (by simp) (Value.slice (some ⟨g2, 0, none⟩) N cap2)
      exact ⟨(Value.slice (some ⟨g2, 0, none⟩) N cap2).ownBlock, hfr, hsi, ⟨hke, hla⟩, (Value.slice (some ⟨g2, 0, none⟩) N cap2), hb3.set_ 0 (Value.slice (some ⟨g2, 0, none⟩) N cap2), by rw [HF.out]; exact ho2.far hn2 (Value.slice (some ⟨g2, 0, none⟩) N cap2), rfl, hb30.far (by simp) (Value.slice (some ⟨g2, 0, none⟩) N cap2), hbe⟩
  case done =>
    rintro D xs o X hD hf rfl ⟨v, hb1, ho, rfl, hb0, hBX⟩ hKD hne
    have c1 := hb1.one
    gi_wp2
    refine leaves_blks W [D] X ⟨by simp, fun E hE => ?_⟩ hBX (fun W' hB' hk => ?_)
    · obtain rfl := List.mem_singleton.1 hE
      exact ⟨by omega, hKD⟩
    · exact ⟨v, by simp [results, Tryz.results189, go_sem], v, rfl, (ho.blks hk).less (by omega), hB'⟩
end Go.Proofs.YtggdlklkjnbbjaaGreatDoor

namespace Go.Proofs.YtggdlklkjnbbjaaGreatDoor
open Go.RowKit Go.Shelf
set_option linter.unusedSimpArgs false
set_option linter.unusedVariables false

theorem Seqs.next {lo : Nat} {zs : List (Int × Int)} {v : Value} {w w' : World} (h : Seqs lo zs v w) (hB : Below w.heap.size w w') : Seqs lo zs v w' := by
  obtain ⟨gf, lb, e, eg, hg⟩ := h
  have hs := hB.size
  exact ⟨gf, lb, e, eg, fun n hn l J Jx W o₀ hW ho₀ hJ hJx hr1 hr2 hY h0 => hg n hn l J Jx W o₀ (below_in hB hW) ho₀ hJ hJx hr1 hr2 (fun pre x o W1 hj hok hl' hs' => (hY pre x o W1 hj hok hl' hs').mono fun _ _ ⟨o', hf, hS, h⟩ => ⟨o', hf, hS, h.imp (fun ⟨h1, h2, h3⟩ => ⟨h1, h2, h3.less (Nat.le_refl _) (by omega)⟩) id⟩) h0⟩
/-- Is the place x a member of the cell of column mx and row my? -/
def memB (k p mx my x y : Int) : Bool := wayB k p (p - shortN k) my (roleN (p - shortN k) mx) x y
/-- The members of a cell that is made. -/
def memL (k p mx my : Int) : List (Int × Int) := (flatC p (spanL 0 mx)).filter fun x => memB k p mx my x.1 x.2
theorem Laid.drew {W : World} (h : Laid W) : Laid W.drew := h
theorem role_made {k p mx my d : Int} (hR : RightC k p) (hc : HasCell k p mx my) (hd : d = p - shortN k) (hx : d ≤ mx) : roleN d mx = 2 ∨ roleN d mx = 3 ∨ roleN d mx = 4 := by
  obtain ⟨⟨h1, h2⟩, _⟩ := hc
  have hu := hR.und
  have m2 := hu.m2
  unfold roleN
  split
  · exact .inl rfl
  · split
    · exact .inr (.inl rfl)
    · split
      · exact .inr (.inr rfl)
      · exfalso; omega
theorem spanL_mem {a b x : Int} (h : x ∈ spanL a b) : a ≤ x ∧ x < b := by
  unfold spanL at h
  obtain ⟨i, hi, rfl⟩ := List.mem_map.1 h
  have := List.mem_range.1 hi
  omega

set_option maxHeartbeats 2000000 in
theorem members_any (k p d c mx my : Int) (hR : RightC k p) (hd : d = p - shortN k) (hc : HasCell k p mx my) (hx : d ≤ mx) (w : World) (hL : Laid w) :
    Calls Tryz.prog 184 #[.agg #[.int .i64 k, .int .i64 p, .int .i64 d, .int .i64 c], .agg #[.int .i64 mx, .int .i64 my]] w fun e w' => ∃ u, e = .returned u ∧ OwnP w' w.heap.size u (memL k p mx my) ∧ Below w.heap.size w w' := by
  have hu := hR.und
  obtain ⟨p1, p2, s1, s2, m1, m2⟩ := hu
  have hc0 := hc
  obtain ⟨⟨x1, x2⟩, y1, y2⟩ := hc0
  have HAs := Lib.hid (fun W hL => asker_any k p d c mx my _ hR hd ⟨x1, x2⟩ rfl (role_made hR hc hd hx) W hL)
  have HAh := Lib.hid (fun W hL => ahead_any k p d c mx my hR (by omega) (by omega) (fun x hm => ⟨(spanL_mem hm).1, by have := (spanL_mem hm).2; omega⟩) W hL)
  have hzl : (flatC p (spanL 0 mx)).length ≤ 1000 := by have := flatC_len p hR.2 (spanL 0 mx); rw [spanL_len] at this; omega
  have HQ : Hid (memL k p mx my = (flatC p (spanL 0 mx)).filter fun x => wayB k p d my (roleN d mx) x.1 x.2) := by rw [hd]; rfl
  have HGa := Lib.hid (fun lo v1 v2 W hL hlo h1 h2 => gathered_any (wayB k p d my (roleN d mx)) _ hzl lo v1 v2 W hL hlo h1 h2)
  obtain ⟨W0, hW0⟩ : ∃ W0, (w.alloc (.cells #[.int .i64 k, .int .i64 p, .int .i64 d, .int .i64 c] 190)).alloc (.cells #[.int .i64 mx, .int .i64 my] 195) = W0 := ⟨_, rfl⟩
  have b0 : Blk W0 w.heap.size 190 #[.int .i64 k, .int .i64 p, .int .i64 d, .int .i64 c] := by rw [← hW0]; exact (Blk.new w _ _).alloc _
  have b1 : Blk W0 (w.heap.size + 1) 195 #[.int .i64 mx, .int .i64 my] := by rw [← hW0]; exact Blk.second w _ _ _
  have hB : Below w.heap.size w W0 := by rw [← hW0]; exact below_two w _ _
  have hL0 := hL.next hB
  have hs0 := hB.size
  clear hc hx hR hd x1 x2 y1 y2 p1 p2 s1 s2 m1 m2 hzl
  generalize wayB k p d my (roleN d mx) = q at *
  generalize flatC p (spanL 0 mx) = zs at *
  go_enter Tryz.func184, Tryz.ntmps184
  go_wp2_with fail
  clear hW0
  go_region_held3 (fun W => W.cell? ⟨w.heap.size, 0, none⟩ = some (.int .i64 k) ∧ W.cell? ⟨w.heap.size, 1, none⟩ = some (.int .i64 p) ∧ W.cell? ⟨w.heap.size, 2, none⟩ = some (.int .i64 d) ∧ W.cell? ⟨w.heap.size, 3, none⟩ = some (.int .i64 c) ∧ W.cell? ⟨w.heap.size + 1, 0, none⟩ = some (.int .i64 mx) ∧ W.cell? ⟨w.heap.size + 1, 1, none⟩ = some (.int .i64 my))
    (exact ⟨b0.cell 0, b0.cell 1, b0.cell 2, b0.cell 3, b1.cell 0, b1.cell 1⟩) (first
    | (go_at_call 190; refine (HAs.out _ (by first | exact hL0 | exact Laid.drew hL0)).mono ?_; rintro e w1 ⟨u1, rfl, hA, hB1⟩; (first | replace b0 := b0.below hB1 b0.lt | replace b0 := b0.nextd hB1); (first | replace b1 := b1.below hB1 b1.lt | replace b1 := b1.nextd hB1); (try replace hSq := hSq.next hB1); (first | replace hB := below_in hB hB1 | replace hB := below_in hB.drew hB1); (first | replace hL0 := Laid.next hL0 hB1 | replace hL0 := Laid.next (Laid.drew hL0) hB1))
    | (go_at_call 191; refine (HAh.out _ (by first | exact hL0 | exact Laid.drew hL0)).mono ?_; rintro e w1 ⟨u2, rfl, hSq0, hB1⟩; (have hSq := hSq0.less (lo' := w.heap.size) (by first | exact hB.size | exact hB.drew.size) (by exact hB1.size)); clear hSq0; (first | replace b0 := b0.below hB1 b0.lt | replace b0 := b0.nextd hB1); (first | replace b1 := b1.below hB1 b1.lt | replace b1 := b1.nextd hB1); (try replace hA := hA.next hB1); (first | replace hB := below_in hB hB1 | replace hB := below_in hB.drew hB1); (first | replace hL0 := Laid.next hL0 hB1 | replace hL0 := Laid.next (Laid.drew hL0) hB1))
    | (go_at_call 189; refine (HGa.out w.heap.size _ _ _ hL0 hB.size hA hSq).mono ?_; rintro e w3 ⟨u3, rfl, ho, hB3⟩; replace b0 := b0.below hB3 b0.lt; replace b1 := b1.below hB3 b1.lt))
  all_goals go_wp2
  all_goals go_ret
  all_goals exact ⟨_, rfl, by rw [HQ.out]; exact ho.less (by have := hB.size; omega), below_in hB hB3⟩
end Go.Proofs.YtggdlklkjnbbjaaGreatDoor

namespace Go.Proofs.YtggdlklkjnbbjaaGreatDoor
open Go.RowKit Go.Shelf
set_option linter.unusedSimpArgs false
set_option linter.unusedVariables false

set_option maxRecDepth 100000 in
set_option maxHeartbeats 1000000 in
theorem answered_no (fh ft : Nat) (k p x y : Int) (hR : ¬ RightC k p) (w : World) (hL : Laid w) :
    Calls Tryz.prog 182 #[.agg #[.int .i64 k, .int .i64 p], .func (.func fh) #[] #[], .func (.func ft) #[] #[], .agg #[.int .i64 x, .int .i64 y]] w fun e w' => e = .returned (.tuple #[.slice none 0 0, .int .i64 2]) ∧ Below w.heap.size w w' := by
  have HA := Lib.hid (fun W hL => setsAsked_no k p hR W hL)
  clear hR
  obtain ⟨W0, hW0⟩ : ∃ W0, (w.alloc (.cells #[.int .i64 k, .int .i64 p] 37)).alloc (.cells #[.int .i64 x, .int .i64 y] 56) = W0 := ⟨_, rfl⟩
  have b0 : Blk W0 w.heap.size 37 #[.int .i64 k, .int .i64 p] := by rw [← hW0]; exact (Blk.new w _ _).alloc _
  have b1 : Blk W0 (w.heap.size + 1) 56 #[.int .i64 x, .int .i64 y] := by rw [← hW0]; exact Blk.second w _ _ _
  have hB : Below w.heap.size w W0 := by rw [← hW0]; exact below_two w _ _
  have hL0 := hL.next hB
  have c0 := b0.cell 0
  have c1 := b0.cell 1
  simp only [List.getElem?_toArray, List.getElem?_cons_zero, List.getElem?_cons_succ] at c0 c1
  go_enter Tryz.func182, Tryz.ntmps182
  go_wp2_with fail
  clear hW0
  refine wp_scope_jumps 0 (fun a' w' => Below w.heap.size w w' ∧ ∃ (u10 u12 u13 u14 u15 u16 u17 u18 u19 u20 u21 u22 u23 u24 u25 u26 u27 u28 u29 : Value), a' = { tmps := #[.agg #[.int .i64 k, .int .i64 p], .func (.func fh) #[] #[], .func (.func ft) #[] #[], .agg #[.int .i64 x, .int .i64 y], .pointer (some ⟨w.heap.size, 0, none⟩), undef, undef, .pointer (some ⟨w.heap.size + 1, 0, none⟩), .slice none 0 0, .int .i64 0, u10, .int .i64 2, u12, u13, u14, u15, u16, u17, u18, u19, u20, u21, u22, u23, u24, u25, u26, u27, u28, u29], defers := [] }) (fun _ _ => 0) rfl ?_ ?_
  · go_wp2_with fail
    refine (HA.out _ hL0).mono ?_
    rintro e w1 ⟨rfl, hB1⟩
    replace hB := below_in hB hB1
    replace hB := below_in hB (below_one _ (.cells #[.int .i64 0, .int .i64 0, .int .i64 0, .int .i64 0] 190))
    go_wp2
    go_step3
    exact ⟨rfl, hB, _, _, _, _, _, _, _, _, _, _, _, _, _, _, _, _, _, _, _, rfl⟩
  · clear hB HA
    rintro a' w' ⟨hB, u10, u12, u13, u14, u15, u16, u17, u18, u19, u20, u21, u22, u23, u24, u25, u26, u27, u28, u29, rfl⟩
    go_wp2
    simp only [Exit.jump]
    go_ret2
    exact ⟨rfl, hB⟩

set_option maxRecDepth 100000 in
set_option maxHeartbeats 1000000 in
theorem answered_out (fh ft : Nat) (eh : ∀ args W, (callFunc fh args).run Tryz.prog W = .ok (.enter fh args) W) (k p x y : Int) (hR : RightC k p) (hh : ∀ W, Laid W → Calls Tryz.prog fh #[(.agg #[.int .i64 k, .int .i64 p, .int .i64 (p - shortN k), .int .i64 (p - shortN k + madeN k)]), .agg #[.int .i64 x, .int .i64 y]] W fun e w' => e = .returned (.bool false) ∧ Below W.heap.size W w') (w : World) (hL : Laid w) :
    Calls Tryz.prog 182 #[.agg #[.int .i64 k, .int .i64 p], .func (.func fh) #[] #[], .func (.func ft) #[] #[], .agg #[.int .i64 x, .int .i64 y]] w fun e w' => e = .returned (.tuple #[.slice none 0 0, .int .i64 4]) ∧ Below w.heap.size w w' := by
  have HA := Lib.hid (fun W hL => setsAsked_yes k p hR W hL)
  have HH := Lib.hid hh
  clear hR hh
  generalize p - shortN k + madeN k = c at *
  generalize p - shortN k = d at *
  obtain ⟨W0, hW0⟩ : ∃ W0, (w.alloc (.cells #[.int .i64 k, .int .i64 p] 37)).alloc (.cells #[.int .i64 x, .int .i64 y] 56) = W0 := ⟨_, rfl⟩
  have b0 : Blk W0 w.heap.size 37 #[.int .i64 k, .int .i64 p] := by rw [← hW0]; exact (Blk.new w _ _).alloc _
  have b1 : Blk W0 (w.heap.size + 1) 56 #[.int .i64 x, .int .i64 y] := by rw [← hW0]; exact Blk.second w _ _ _
  have hB : Below w.heap.size w W0 := by rw [← hW0]; exact below_two w _ _
  have hL0 := hL.next hB
  have c0 := b0.cell 0
  have c1 := b0.cell 1
  simp only [List.getElem?_toArray, List.getElem?_cons_zero, List.getElem?_cons_succ] at c0 c1
  go_enter Tryz.func182, Tryz.ntmps182
  go_wp2_with fail
  clear hW0
  refine wp_scope_jumps 0 (fun a' w' => Below w.heap.size w w' ∧ ∃ (u10 u12 u13 u14 u15 u16 u17 u18 u19 u20 u21 u22 u23 u24 u25 u26 u27 u28 u29 : Value), a' = { tmps := #[.agg #[.int .i64 k, .int .i64 p], .func (.func fh) #[] #[], .func (.func ft) #[] #[], .agg #[.int .i64 x, .int .i64 y], .pointer (some ⟨w.heap.size, 0, none⟩), undef, undef, .pointer (some ⟨w.heap.size + 1, 0, none⟩), .slice none 0 0, .int .i64 0, u10, .int .i64 4, u12, u13, u14, u15, u16, u17, u18, u19, u20, u21, u22, u23, u24, u25, u26, u27, u28, u29], defers := [] }) (fun _ _ => 0) rfl ?_ ?_
  · go_wp2_with fail
    refine (HA.out _ hL0).mono ?_
    rintro e w1 ⟨rfl, hB1⟩
    replace b1 := b1.below hB1 b1.lt
    replace hB := below_in hB hB1
    have b2 := Blk.new w1 190 #[.int .i64 k, .int .i64 p, .int .i64 d, .int .i64 c]
    replace b1 := b1.below (below_one w1 (.cells #[.int .i64 k, .int .i64 p, .int .i64 d, .int .i64 c] 190)) b1.lt
    replace hB := below_in hB (below_one _ (.cells #[.int .i64 k, .int .i64 p, .int .i64 d, .int .i64 c] 190))
    have hL2 := hL.next hB
    have z0 := b1.cell 0
    have z1 := b1.cell 1
    simp only [List.getElem?_toArray, List.getElem?_cons_zero, List.getElem?_cons_succ] at z0 z1
    go_wp2_with fail
    refine (HH.out _ hL2).mono ?_
    rintro e w1 ⟨rfl, hB1⟩
    replace hB := below_in hB hB1
    go_wp2
    go_step3
    exact ⟨rfl, hB, _, _, _, _, _, _, _, _, _, _, _, _, _, _, _, _, _, _, _, rfl⟩
  · clear hB HA
    rintro a' w' ⟨hB, u10, u12, u13, u14, u15, u16, u17, u18, u19, u20, u21, u22, u23, u24, u25, u26, u27, u28, u29, rfl⟩
    go_wp2
    simp only [Exit.jump]
    go_ret2
    exact ⟨rfl, hB⟩

set_option maxRecDepth 100000 in
set_option maxHeartbeats 1000000 in
theorem answered_yes (fh ft : Nat) (eh : ∀ args W, (callFunc fh args).run Tryz.prog W = .ok (.enter fh args) W) (et : ∀ args W, (callFunc ft args).run Tryz.prog W = .ok (.enter ft args) W) (k p x y : Int) (hR : RightC k p) (hh : ∀ W, Laid W → Calls Tryz.prog fh #[(.agg #[.int .i64 k, .int .i64 p, .int .i64 (p - shortN k), .int .i64 (p - shortN k + madeN k)]), .agg #[.int .i64 x, .int .i64 y]] W fun e w' => e = .returned (.bool true) ∧ Below W.heap.size W w') (l : List (Int × Int)) (hne : l ≠ []) (hnd : l.Nodup) (hlen : l.length ≤ 1000)
    (ht : ∀ W, Laid W → Calls Tryz.prog ft #[(.agg #[.int .i64 k, .int .i64 p, .int .i64 (p - shortN k), .int .i64 (p - shortN k + madeN k)]), .agg #[.int .i64 x, .int .i64 y]] W fun e w' => ∃ u, e = .returned u ∧ OwnP w' W.heap.size u l ∧ Below W.heap.size W w') (w : World) (hL : Laid w) :
    Calls Tryz.prog 182 #[.agg #[.int .i64 k, .int .i64 p], .func (.func fh) #[] #[], .func (.func ft) #[] #[], .agg #[.int .i64 x, .int .i64 y]] w fun e w' => ∃ u s, e = .returned (.tuple #[u, .int .i64 0]) ∧ s.Perm l ∧ s.Pairwise (fun a b => aheadB a b = true) ∧ ReadP w'.heap.size w' u s ∧ Below w.heap.size w w' := by
  have HA := Lib.hid (fun W hL => setsAsked_yes k p hR W hL)
  have HH := Lib.hid hh
  have HT := Lib.hid ht
  have HO := Lib.hid (fun W base v hb ho => told_any W base v l hne hnd hlen hb ho)
  clear hR hh ht hne hnd hlen
  generalize p - shortN k + madeN k = c at *
  generalize p - shortN k = d at *
  obtain ⟨W0, hW0⟩ : ∃ W0, (w.alloc (.cells #[.int .i64 k, .int .i64 p] 37)).alloc (.cells #[.int .i64 x, .int .i64 y] 56) = W0 := ⟨_, rfl⟩
  have b0 : Blk W0 w.heap.size 37 #[.int .i64 k, .int .i64 p] := by rw [← hW0]; exact (Blk.new w _ _).alloc _
  have b1 : Blk W0 (w.heap.size + 1) 56 #[.int .i64 x, .int .i64 y] := by rw [← hW0]; exact Blk.second w _ _ _
  have hB : Below w.heap.size w W0 := by rw [← hW0]; exact below_two w _ _
  have hL0 := hL.next hB
  have c0 := b0.cell 0
  have c1 := b0.cell 1
  simp only [List.getElem?_toArray, List.getElem?_cons_zero, List.getElem?_cons_succ] at c0 c1
  go_enter Tryz.func182, Tryz.ntmps182
  go_wp2_with fail
  clear hW0
  refine wp_scope_jumps 0 (fun a' w' => False) (fun _ _ => 0) rfl ?_ (fun _ _ h => h.elim)
  · go_wp2_with fail
    refine (HA.out _ hL0).mono ?_
    rintro e w1 ⟨rfl, hB1⟩
    replace b1 := b1.below hB1 b1.lt
    replace hB := below_in hB hB1
    have b2 := Blk.new w1 190 #[.int .i64 k, .int .i64 p, .int .i64 d, .int .i64 c]
    replace b1 := b1.below (below_one w1 (.cells #[.int .i64 k, .int .i64 p, .int .i64 d, .int .i64 c] 190)) b1.lt
    replace hB := below_in hB (below_one _ (.cells #[.int .i64 k, .int .i64 p, .int .i64 d, .int .i64 c] 190))
    have hL2 := hL.next hB
    have z0 := b1.cell 0
    have z1 := b1.cell 1
    simp only [List.getElem?_toArray, List.getElem?_cons_zero, List.getElem?_cons_succ] at z0 z1
    go_wp2_with fail
    refine (HH.out _ hL2).mono ?_
    rintro e w3 ⟨rfl, hB3⟩
    replace hB := below_in hB hB3
    replace b2 := b2.below hB3 b2.lt
    replace b1 := b1.below hB3 b1.lt
    have e0 := b2.cell 0
    have e1 := b2.cell 1
    have e2 := b2.cell 2
    have e3 := b2.cell 3
    clear z0 z1
    have z0 := b1.cell 0
    have z1 := b1.cell 1
    simp only [List.getElem?_toArray, List.getElem?_cons_zero, List.getElem?_cons_succ] at e0 e1 e2 e3 z0 z1
    have hL3 := hL.next hB
    go_wp2_with fail
    refine (HT.out _ hL3).mono ?_
    rintro e w4 ⟨v, rfl, ho, hB4⟩
    have hs3 := hB.size
    go_wp2_with fail
    refine (HO.out w4 w3.heap.size v hB4.size ho).mono ?_
    rintro e w5 ⟨u, s, rfl, hp, hst, hrd, hB5⟩
    go_wp2
    simp only [Exit.jump]
    go_ret2
    exact ⟨_, s, rfl, hp, hst, hrd, hB.trans ((hB4.trans hB5).mono hs3)⟩
end Go.Proofs.YtggdlklkjnbbjaaGreatDoor

namespace Go.Proofs.YtggdlklkjnbbjaaGreatDoor
open Go.RowKit Go.Shelf
set_option linter.unusedSimpArgs false
set_option linter.unusedVariables false

theorem rowsL_sorted (p : Int) : (rowsL p).Pairwise (· < ·) := by
  unfold rowsL
  rw [List.pairwise_map]
  exact (List.pairwise_lt_range).imp fun h => by omega
theorem spanL_sorted (a b : Int) : (spanL a b).Pairwise (· < ·) := by
  unfold spanL
  rw [List.pairwise_map]
  exact (List.pairwise_lt_range).imp fun h => by omega
theorem flatC_sorted (p : Int) : ∀ cs : List Int, cs.Pairwise (· < ·) → (flatC p cs).Pairwise (fun a b => aheadB a b = true)
  | [], _ => List.Pairwise.nil
  | x :: cs, h => by
    obtain ⟨h1, h2⟩ := List.pairwise_cons.1 h
    unfold flatC
    rw [List.flatMap_cons, List.pairwise_append]
    refine ⟨?_, flatC_sorted p cs h2, ?_⟩
    · rw [List.pairwise_map]
      exact (rowsL_sorted p).imp fun h => by unfold aheadB; simp; omega
    · rintro ⟨a1, a2⟩ ha ⟨b1, b2⟩ hb
      obtain ⟨y, _, e⟩ := List.mem_map.1 ha
      obtain ⟨z, hz, hb⟩ := List.mem_flatMap.1 hb
      obtain ⟨y2, _, e2⟩ := List.mem_map.1 hb
      injection e with e _
      injection e2 with e2 _
      have := h1 z hz
      unfold aheadB
      simp
      omega
theorem ahead_irrefl (a : Int × Int) : aheadB a a = false := by unfold aheadB; simp
theorem ahead_anti {a b : Int × Int} (h1 : aheadB a b = true) (h2 : aheadB b a = true) : a = b := by
  obtain ⟨a1, a2⟩ := a
  obtain ⟨b1, b2⟩ := b
  unfold aheadB at *
  simp at *
  omega
theorem sorted_nodup {l : List (Int × Int)} (h : l.Pairwise (fun a b => aheadB a b = true)) : l.Nodup := h.imp fun {a b} hab e => by rw [e, ahead_irrefl] at hab; cases hab
theorem sorted_one {l s : List (Int × Int)} (hp : s.Perm l) (hs : s.Pairwise (fun a b => aheadB a b = true)) (hl : l.Pairwise (fun a b => aheadB a b = true)) : s = l :=
  hp.eq_of_pairwise (fun a b _ _ h1 h2 => ahead_anti h1 h2) hs hl
theorem memL_sorted (k p mx my : Int) : (memL k p mx my).Pairwise (fun a b => aheadB a b = true) := (flatC_sorted p _ (spanL_sorted _ _)).filter _
theorem flatC_mem {p : Int} {cs : List Int} {x y : Int} (hx : x ∈ cs) (hy : 0 ≤ y ∧ y < p - 1) : (x, y) ∈ flatC p cs := by
  refine List.mem_flatMap.2 ⟨x, hx, List.mem_map.2 ⟨y, ?_, rfl⟩⟩
  unfold rowsL
  exact List.mem_map.2 ⟨y.toNat, List.mem_range.2 (by omega), by omega⟩
theorem memB_first {k p mx my : Int} (hR : RightC k p) (hc : HasCell k p mx my) (hx : p - shortN k ≤ mx) : memB k p mx my 0 my = true := by
  obtain ⟨p1, p2, s1, s2, m1, m2⟩ := hR.und
  obtain ⟨⟨h1, h2⟩, y1, y2⟩ := hc
  have hc0 : HasCell k p 0 my := ⟨⟨by omega, by omega⟩, y1, y2⟩
  have hm : my % p = my := Int.emod_eq_of_lt y1 (by omega)
  have e1 : (0 + my) % p = my := by rw [Int.zero_add]; exact hm
  have e2 : (my - 0) % p = my := by rw [Int.sub_zero]; exact hm
  have hd : 0 < p - shortN k := by omega
  unfold memB wayB
  split
  · unfold inRw; simp; omega
  · split
    · unfold onDg dgN2
      rw [if_pos hc0, e1]
      split <;> simp <;> omega
    · unfold onSl slN2
      rw [if_pos hc0, e2]
      simp; omega
theorem memL_ne {k p mx my : Int} (hR : RightC k p) (hc : HasCell k p mx my) (hx : p - shortN k ≤ mx) : memL k p mx my ≠ [] := by
  have hm : (0, my) ∈ memL k p mx my := by
    obtain ⟨p1, p2, s1, s2, m1, m2⟩ := hR.und
    refine List.mem_filter.2 ⟨flatC_mem ?_ hc.2, memB_first hR hc hx⟩
    unfold spanL
    exact List.mem_map.2 ⟨0, List.mem_range.2 (by omega), rfl⟩
  intro e
  rw [e] at hm
  cases hm
theorem memL_len {k p mx my : Int} (hR : RightC k p) (hc : HasCell k p mx my) : (memL k p mx my).length ≤ 1000 := by
  obtain ⟨p1, p2, s1, s2, m1, m2⟩ := hR.und
  have h1 := List.length_filter_le (fun x : Int × Int => memB k p mx my x.1 x.2) (flatC p (spanL 0 mx))
  have h2 := flatC_len p hR.2 (spanL 0 mx)
  rw [spanL_len] at h2
  have h3 := hc.1.2
  unfold memL
  omega
theorem enter_isMade : ∀ args W, (callFunc 183 args).run Tryz.prog W = .ok (.enter 183 args) W := enters_of Tryz.func183 (by kernel_rfl) rfl
theorem enter_members : ∀ args W, (callFunc 184 args).run Tryz.prog W = .ok (.enter 184 args) W := enters_of Tryz.func184 (by kernel_rfl) rfl

/-- What Members answers. -/
def MembersC (k p x y : Int) (w : World) (e : Ending) (w' : World) : Prop :=
  (¬ RightC k p → e = .returned (.tuple #[.slice none 0 0, .int .i64 2])) ∧
  (RightC k p → ¬ (HasCell k p x y ∧ p - shortN k ≤ x) → e = .returned (.tuple #[.slice none 0 0, .int .i64 4])) ∧
  (RightC k p → HasCell k p x y → p - shortN k ≤ x → ∃ u, e = .returned (.tuple #[u, .int .i64 0]) ∧ ReadP w'.heap.size w' u (memL k p x y)) ∧ Below w.heap.size w w'

theorem MembersC.form {k p x y : Int} {w w' : World} {e : Ending} (h : MembersC k p x y w e w') : ∃ (u : Value) (n : Int), e = .returned (.tuple #[u, .int .i64 n]) := by
  by_cases hR : RightC k p
  · by_cases hm : HasCell k p x y ∧ p - shortN k ≤ x
    · obtain ⟨u, e, _⟩ := h.2.2.1 hR hm.1 hm.2
      exact ⟨u, 0, e⟩
    · exact ⟨_, 4, h.2.1 hR hm⟩
  · exact ⟨_, 2, h.1 hR⟩

set_option maxHeartbeats 1000000 in
theorem setsMembers_any (k p x y : Int) (w : World) (hL : Laid w) : Calls Tryz.prog 180 #[.agg #[.int .i64 k, .int .i64 p], .agg #[.int .i64 x, .int .i64 y]] w (MembersC k p x y w) := by
  obtain ⟨W0, hW0⟩ : ∃ W0, (w.alloc (.cells #[.int .i64 k, .int .i64 p] 37)).alloc (.cells #[.int .i64 x, .int .i64 y] 56) = W0 := ⟨_, rfl⟩
  have b0 : Blk W0 w.heap.size 37 #[.int .i64 k, .int .i64 p] := by rw [← hW0]; exact (Blk.new w _ _).alloc _
  have b1 : Blk W0 (w.heap.size + 1) 56 #[.int .i64 x, .int .i64 y] := by rw [← hW0]; exact Blk.second w _ _ _
  have hB : Below w.heap.size w W0 := by rw [← hW0]; exact below_two w _ _
  have hL0 := hL.next hB
  have c0 := b0.cell 0
  have c1 := b0.cell 1
  have z0 := b1.cell 0
  have z1 := b1.cell 1
  simp only [List.getElem?_toArray, List.getElem?_cons_zero, List.getElem?_cons_succ] at c0 c1 z0 z1
  have HM : Hid (Calls Tryz.prog 182 #[.agg #[.int .i64 k, .int .i64 p], .func (.func 183) #[] #[], .func (.func 184) #[] #[], .agg #[.int .i64 x, .int .i64 y]] W0 (MembersC k p x y W0)) := by
    by_cases hR : RightC k p
    · have HI := fun (b : Bool) (hb : decide (HasCell k p x y ∧ p - shortN k ≤ x) = b) W hL => (isMade_any k p (p - shortN k) (p - shortN k + madeN k) x y hR W hL).mono fun e w' (h : e = .returned (.bool (decide (HasCell k p x y ∧ p - shortN k ≤ x))) ∧ Below W.heap.size W w') => (by rw [hb] at h; exact h : e = .returned (.bool b) ∧ Below W.heap.size W w')
      by_cases hm : HasCell k p x y ∧ p - shortN k ≤ x
      · refine (answered_yes 183 184 enter_isMade enter_members k p x y hR (fun W hL => HI true (decide_eq_true hm) W hL) (memL k p x y) (memL_ne hR hm.1 hm.2) (sorted_nodup (memL_sorted _ _ _ _)) (memL_len hR hm.1) (fun W hL => members_any k p _ _ x y hR rfl hm.1 hm.2 W hL) W0 hL0).mono ?_
        rintro e w' ⟨u, s, rfl, hp, hst, hrd, hB1⟩
        rw [sorted_one hp hst (memL_sorted _ _ _ _)] at hrd
        exact ⟨fun h => absurd hR h, fun _ h => absurd hm h, fun _ _ _ => ⟨u, rfl, hrd⟩, hB1⟩
      · exact (answered_out 183 184 enter_isMade k p x y hR (fun W hL => HI false (decide_eq_false hm) W hL) W0 hL0).mono fun e w' ⟨h1, h2⟩ => ⟨fun h => absurd hR h, fun _ _ => h1, fun _ h3 h4 => absurd ⟨h3, h4⟩ hm, h2⟩
    · exact (answered_no 183 184 k p x y hR W0 hL0).mono fun e w' ⟨h1, h2⟩ => ⟨fun _ => h1, fun h => absurd h hR, fun h => absurd h hR, h2⟩
  go_enter Tryz.func180, Tryz.ntmps180
  go_wp2_with fail
  clear hW0
  refine HM.out.mono ?_
  rintro e w1 hM
  obtain ⟨u, n, rfl⟩ := hM.form
  have hB1 := below_in hB hM.2.2.2
  have HH := Lib.hid hM
  clear hM
  go_wp2
  go_ret2
  exact ⟨HH.out.1, HH.out.2.1, HH.out.2.2.1, hB1⟩
end Go.Proofs.YtggdlklkjnbbjaaGreatDoor

