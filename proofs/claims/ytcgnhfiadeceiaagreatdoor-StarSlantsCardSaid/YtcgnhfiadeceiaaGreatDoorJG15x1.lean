/- STAR: whether columns are those that are made. STAR: Encode, Adjuster, Over, Check, Slants. The laws of STAR: num, code, right. RDP: the members of a column's cells, row by row. RDP: a column that is made of those ahead of it. RDP: columns one behind the other. RDP: columns with others behind them. RDP: the columns that are made. RDP: Encode, what is left out. RDP: the cells that are not as they are made. RDP: the cells that are wrong, gathered. RDP: whether columns are as they are made; the places of an answer, gone over. RDP: Check, and the wrong cells of an answer. -/
import Derived.Test.YtcgnhfiadeceiaaGreatDoorJG14
import Derived.Test.YtcgnhfiadeceiaaGreatDoorJG6
import Derived.Test.YtcgnhfiadeceiaaGreatDoorJG6x1
import Derived.Test.YtcgnhfiadeceiaaGreatDoorJG8
import Derived.Test.YtcgnhfiadeceiaaGreatDoorJG12
import Derived.Test.YtcgnhfiadeceiaaGreatDoorJG7
import Derived.Laws.OwnMore
import Derived.Laws.EntriesVeiled
import Derived.Test.YtcgnhfiadeceiaaGreatDoorJG2
import Derived.Lib.AppendZeros
import Derived.Test.YtcgnhfiadeceiaaGreatDoorJG4
import Derived.Test.YtcgnhfiadeceiaaGreatDoorJCA
import Derived.Test.YtcgnhfiadeceiaaGreatDoorJG15
namespace Go.Proofs.YtcgnhfiadeceiaaGreatDoor.T
open Go.RowKit Go.Shelf Go.Proofs.YtcgnhfiadeceiaaGreatDoor.C Go.Proofs.YtcgnhfiadeceiaaGreatDoor.E
set_option linter.unusedSimpArgs false
set_option linter.unusedVariables false

set_option maxRecDepth 100000 in
set_option maxHeartbeats 2000000 in
theorem check_no {B : Nat} (p : Int) (v : Value) (css : List (List (List UInt8))) (w : World) (hL : Laid w) (hB : B ≤ w.heap.size) (hC : Cols B w v css) (hlen : css.length ≤ 1000) (hcl : ∀ j, j < css.length → (css[j]?.getD []).length ≤ 1000) (hno : ¬ AllS p css) :
    Calls Tryz.prog 21 #[.int .i64 p, v] w fun e w' => e = .returned (.tuple #[.bool false, .int .i64 2]) ∧ Below w.heap.size w w' := by
  obtain ⟨A, cap, rfl, _, _⟩ := id hC
  obtain ⟨W2, hW2⟩ : ∃ W2, (w.alloc (.cells #[.int .i64 p] 3)).alloc (.cells #[.slice A css.length cap] 22) = W2 := ⟨_, rfl⟩
  have b0 : Blk W2 w.heap.size 3 #[.int .i64 p] := by rw [← hW2]; exact (Blk.new w _ _).alloc _
  have b1 : Blk W2 (w.heap.size + 1) 22 #[.slice A css.length cap] := by rw [← hW2]; exact Blk.second w _ _ _
  have hBW : Below w.heap.size w W2 := by rw [← hW2]; exact below_two w _ _
  have hL2 := hL.next hBW
  have HA := Lib.hid (ans_T_no 47 #[.pointer (some ⟨w.heap.size, 0, none⟩), .pointer (some ⟨w.heap.size + 1, 0, none⟩)] W2 (enter_check1 _) (fun U hU _ => by
    have hBU := below_in hBW hU
    have HQ := Lib.hid (asked_no (B := B) 48 p (p + 3) (.slice A css.length cap) css (many_cols p) U (hL2.next hU) (Nat.le_trans hB hBU.size) (hC.below (hBU.mono hB)) hlen hcl (fun h => hno (h)))
    have c0 := (b0.below hU b0.lt).one
    have c1 := (b1.below hU b1.lt).one
    clear hC b0 b1 hW2 hL hL2 hno hcl hlen
    generalize css.length = n at *
    go_enter Tryz.func47, Tryz.ntmps47
    go_wp2_with (go_at_call 32; refine HQ.out.mono ?_; rintro e w1 ⟨rfl, hB1⟩)
    exact ⟨rfl, rfl, hB1⟩))
  clear hC b0 b1 hL2 hno hcl hlen
  generalize css.length = n at *
  go_enter Tryz.func21, Tryz.ntmps21
  have hmf : ∀ (fn : Fn) (first cap : Array Value) (w : World), (Instr.makeFunc fn first cap).run Tryz.prog w = .ok (.func fn first cap) w := fun _ _ _ _ => rfl
  go_wp2_with (go_at_call 46; refine HA.out.mono ?_; rintro e w1 ⟨rfl, hB1⟩)
  go_ret2
  exact ⟨rfl, below_in hBW hB1⟩

end Go.Proofs.YtcgnhfiadeceiaaGreatDoor.T

