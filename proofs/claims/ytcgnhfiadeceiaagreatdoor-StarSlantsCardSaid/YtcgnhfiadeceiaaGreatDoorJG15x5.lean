/- STAR: whether columns are those that are made. STAR: Encode, Adjuster, Over, Check, Slants. The laws of STAR: num, code, right. RDP: the members of a column's cells, row by row. RDP: a column that is made of those ahead of it. RDP: columns one behind the other. RDP: columns with others behind them. RDP: the columns that are made. RDP: Encode, what is left out. RDP: the cells that are not as they are made. RDP: the cells that are wrong, gathered. RDP: whether columns are as they are made; the places of an answer, gone over. RDP: Check, and the wrong cells of an answer. -/
import Derived.Test.YtcgnhfiadeceiaaGreatDoorJG14
import Derived.Test.YtcgnhfiadeceiaaGreatDoorJG6
import Derived.Test.YtcgnhfiadeceiaaGreatDoorJG6x1
import Derived.Test.YtcgnhfiadeceiaaGreatDoorJG6x2
import Derived.Test.YtcgnhfiadeceiaaGreatDoorJG6x3
import Derived.Test.YtcgnhfiadeceiaaGreatDoorJG6x4
import Derived.Test.YtcgnhfiadeceiaaGreatDoorJG6x5
import Derived.Test.YtcgnhfiadeceiaaGreatDoorJG8
import Derived.Test.YtcgnhfiadeceiaaGreatDoorJG8x2
import Derived.Test.YtcgnhfiadeceiaaGreatDoorJG8x3
import Derived.Test.YtcgnhfiadeceiaaGreatDoorJG8x4
import Derived.Test.YtcgnhfiadeceiaaGreatDoorJG12
import Derived.Test.YtcgnhfiadeceiaaGreatDoorJG7
import Derived.Laws.OwnMore
import Derived.Laws.EntriesVeiled
import Derived.Test.YtcgnhfiadeceiaaGreatDoorJG2
import Derived.Lib.AppendZeros
import Derived.Test.YtcgnhfiadeceiaaGreatDoorJG4
import Derived.Test.YtcgnhfiadeceiaaGreatDoorJCA
import Derived.Test.YtcgnhfiadeceiaaGreatDoorJG15
import Derived.Test.YtcgnhfiadeceiaaGreatDoorJG15x1
namespace Go.Proofs.YtcgnhfiadeceiaaGreatDoor.T
open Go.RowKit Go.Shelf Go.Proofs.YtcgnhfiadeceiaaGreatDoor.C Go.Proofs.YtcgnhfiadeceiaaGreatDoor.E
set_option linter.unusedSimpArgs false
set_option linter.unusedVariables false

/-- What goes over so many slants, and is no nil. -/
def SlantsC (lo : Nat) (p : Int) (css : List (List (List UInt8))) (L : Nat) (v : Value) (w : World) : Prop :=
  ∃ gf lb, v = .func (.func gf) #[] lb ∧ (∀ args W, (callFunc gf args).run Tryz.prog W = .ok (.enter gf args) W) ∧ (∀ W, (binOp .eql 45 v .nilFunc).run Tryz.prog W = .ok (.bool false) W) ∧
    ∀ n, 4 ≤ n → SeqT Fence.wide n Tryz.prog gf lb encS (OkS w.heap.size p css) (Keep lo (w.heap.size - lo)) (fun ys => ys.length = L) (fun pre => 0 < pre.length ∧ pre.length ≤ L) L w
theorem eql_slants1 (a b : Nat) (W : World) : (binOp .eql 45 (.func (.func 89) #[] #[.pointer (some ⟨a, 0, none⟩), .pointer (some ⟨b, 0, none⟩)]) .nilFunc).run Tryz.prog W = .ok (.bool false) W := by kernel_rfl
theorem none_slants (lo : Nat) (p : Int) (css : List (List (List UInt8))) (w : World) : SlantsC lo p css 0 (.func (.func 55) #[] #[]) w :=
  ⟨_, _, rfl, enter_none, eql_none, fun n _ l J Jx W o₀ _ _ _ _ _ _ _ h0 => none_in n l J Jx o₀ W h0⟩

theorem enter_slantsOf1 : ∀ args W, (callFunc 53 args).run Tryz.prog W = .ok (.enter 53 args) W := enters_of Tryz.func53 (by kernel_rfl) rfl
set_option maxRecDepth 100000 in
set_option maxHeartbeats 2000000 in
theorem slantsOf_yes {B : Nat} (p : Int) (v : Value) (css : List (List (List UInt8))) (hok : DataOk p css) (w : World) (hL : Laid w) (hB : B ≤ w.heap.size) (hC : Cols B w v css) :
    Calls Tryz.prog 23 #[.int .i64 p, v] w fun e w' => ∃ v, e = .returned v ∧ SlantsC w.heap.size p css p.toNat v w' ∧ Below w.heap.size w w' := by
  obtain ⟨hRD, hMN, hlen⟩ : RightD p css ∧ Many3 33 p (RightC 3 p) (css.length : Int) ∧ css.length ≤ 1000 := by have hdn := dataOk_n hok; exact ⟨(data_right.1 hok).1, data_many hok, by omega⟩
  obtain ⟨A, cap, rfl, _, _⟩ := id hC
  obtain ⟨W2, hW2⟩ : ∃ W2, (w.alloc (.cells #[.int .i64 p] 3)).alloc (.cells #[.slice A css.length cap] 22) = W2 := ⟨_, rfl⟩
  have b0 : Blk W2 w.heap.size 3 #[.int .i64 p] := by rw [← hW2]; exact (Blk.new w _ _).alloc _
  have b1 : Blk W2 (w.heap.size + 1) 22 #[.slice A css.length cap] := by rw [← hW2]; exact Blk.second w _ _ _
  have hBW : Below w.heap.size w W2 := by rw [← hW2]; exact below_two w _ _
  have hL2 := hL.next hBW
  have HA := Lib.hid (ans_F_yes 53 #[.pointer (some ⟨w.heap.size, 0, none⟩), .pointer (some ⟨w.heap.size + 1, 0, none⟩)] W2 (fun u W => ∃ hb, u = .func (.func 87) #[] #[.pointer (some ⟨hb, 0, none⟩)] ∧ Held w.heap.size p css hb W) (enter_slantsOf1 _) (fun U hU _ => by
    have hLU := hL2.next hU
    have hBU := below_in hBW hU
    have hCU := hC.below (hBU.mono hB)
    have HQ := Lib.hid (asked_yes (B := B) 33 p (.slice A css.length cap) css hMN U hLU (Nat.le_trans hB hBU.size) hCU hlen hRD)
    have HE := Lib.hid (fun (V : World) (hV : Below U.heap.size U V) => sums_any (B := B) p (.slice A css.length cap) css V (hLU.next hV) (Nat.le_trans hB (Nat.le_trans hBU.size hV.size)) (hCU.below (hV.mono (Nat.le_trans hB hBU.size))) hok)
    have c0 := (b0.below hU b0.lt).one
    have c1 := (b1.below hU b1.lt).one
    clear hC hCU hok b0 b1 hW2 hL hL2 hLU hMN hRD hlen
    generalize css.length = n at *
    go_enter Tryz.func53, Tryz.ntmps53
    go_wp2_with (first
      | (go_at_call 32; refine HQ.out.mono ?_; rintro e w1 ⟨rfl, hB1⟩)
      | (go_at_call 54; refine (HE.out _ hB1).mono ?_; rintro e w2 ⟨hb, rfl, hH, hB2⟩))
    go_ret
    exact ⟨_, rfl, ⟨hb, rfl, Held.less hH (Nat.le_trans hBU.size hB1.size)⟩, below_in hB1 hB2⟩))
  have HB0 : Hid (∀ U, Below W2.heap.size W2 U → U.cell? ⟨w.heap.size, 0, none⟩ = some (.int .i64 p)) := fun U hU => (b0.below hU b0.lt).one
  have hdn := dataOk_n hok
  have hf1 := togOk_first hok.2.2
  have HCN : Hid ((firstC css).length ≤ 1000) := by unfold Hid; omega
  obtain ⟨P, rfl⟩ : ∃ P : Nat, p = (P : Int) := ⟨p.toNat, by omega⟩
  have hP17 : P ≤ 17 := by omega
  rw [Int.toNat_natCast]
  clear hC b0 b1 hL2 hok hMN hRD hlen hdn hf1
  generalize css.length = n at *
  go_enter Tryz.func23, Tryz.ntmps23
  have hmf : ∀ (fn : Fn) (first cap : Array Value) (w : World), (Instr.makeFunc fn first cap).run Tryz.prog w = .ok (.func fn first cap) w := fun _ _ _ _ => rfl
  go_wp2_with fail
  refine HA.out.mono ?_
  rintro e w1 ⟨u, W, rfl, ⟨hb, rfl, hH⟩, bE, hw1, hB1⟩
  have hH1 : Held w.heap.size (P : Int) css hb w1 := by rw [hw1]; exact hH.set_int bE _
  have hBb := below_in hBW hB1
  have c0 := HB0.out _ hB1
  clear hw1 bE hH hW2
  go_wp2_with (go_at_call 56; refine (slants_any P hb _).mono ?_; rintro e w3 ⟨rfl, bg, bh, hB3⟩)
  go_ret
  have hs1 := hBb.size
  exact ⟨_, rfl, ⟨_, _, rfl, enter_slants1, eql_slants1 _ _, fun n hn => slants_seq _ _ hb w.heap.size P css HCN.out hP17 w3 hs1 (by omega) bg bh (hH1.below hB3) n hn⟩, below_in hBb hB3⟩
set_option maxRecDepth 100000 in
set_option maxHeartbeats 2000000 in
theorem slantsOf_no {B : Nat} (p : Int) (v : Value) (css : List (List (List UInt8))) (w : World) (hL : Laid w) (hB : B ≤ w.heap.size) (hC : Cols B w v css) (hlen : css.length ≤ 1000) (hcl : ∀ j, j < css.length → (css[j]?.getD []).length ≤ 1000) (hno : ¬ DataOk p css) :
    Calls Tryz.prog 23 #[.int .i64 p, v] w fun e w' => ∃ v, e = .returned v ∧ SlantsC w.heap.size p css 0 v w' ∧ Below w.heap.size w w' := by
  obtain ⟨A, cap, rfl, _, _⟩ := id hC
  obtain ⟨W2, hW2⟩ : ∃ W2, (w.alloc (.cells #[.int .i64 p] 3)).alloc (.cells #[.slice A css.length cap] 22) = W2 := ⟨_, rfl⟩
  have b0 : Blk W2 w.heap.size 3 #[.int .i64 p] := by rw [← hW2]; exact (Blk.new w _ _).alloc _
  have b1 : Blk W2 (w.heap.size + 1) 22 #[.slice A css.length cap] := by rw [← hW2]; exact Blk.second w _ _ _
  have hBW : Below w.heap.size w W2 := by rw [← hW2]; exact below_two w _ _
  have hL2 := hL.next hBW
  have HA := Lib.hid (ans_F_no 53 #[.pointer (some ⟨w.heap.size, 0, none⟩), .pointer (some ⟨w.heap.size + 1, 0, none⟩)] W2 (enter_slantsOf1 _) (fun U hU _ => by
    have hBU := below_in hBW hU
    have HQ := Lib.hid (asked_no (B := B) 33 p p (.slice A css.length cap) css (many_data p) U (hL2.next hU) (Nat.le_trans hB hBU.size) (hC.below (hBU.mono hB)) hlen hcl (fun h => hno (data_right.2 h)))
    have c0 := (b0.below hU b0.lt).one
    have c1 := (b1.below hU b1.lt).one
    clear hC b0 b1 hW2 hL hL2 hno hcl hlen
    generalize css.length = n at *
    go_enter Tryz.func53, Tryz.ntmps53
    go_wp2_with (go_at_call 32; refine HQ.out.mono ?_; rintro e w1 ⟨rfl, hB1⟩)
    exact ⟨rfl, rfl, hB1⟩))
  clear hC b0 b1 hL2 hno hcl hlen
  generalize css.length = n at *
  go_enter Tryz.func23, Tryz.ntmps23
  have hmf : ∀ (fn : Fn) (first cap : Array Value) (w : World), (Instr.makeFunc fn first cap).run Tryz.prog w = .ok (.func fn first cap) w := fun _ _ _ _ => rfl
  go_wp2_with (go_at_call 52; refine HA.out.mono ?_; rintro e w1 ⟨rfl, hB1⟩)
  go_ret
  exact ⟨_, rfl, none_slants _ _ _ _, below_in hBW hB1⟩
end Go.Proofs.YtcgnhfiadeceiaaGreatDoor.T

