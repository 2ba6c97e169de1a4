/- ring: Slacken. A range whose round is a known act; what abides from a block on. The laws of EVENODD: what they share: num, code, right. The columns of EVENODD: the adjuster; a cell of the column of diagonals. The columns of EVENODD: what is encoded. EVENODD: Adjuster and Encode. The laws of EVENODD: the chapter's rows. The laws of ring: num, right, told, the chapter's rows. ring: the document's Put. -/
import Derived.Test.YtckfepmahjgmfaaDoorRG8
import Derived.Test.YtckfepmahjgmfaaDoorRG6
import Derived.Test.YtckfepmahjgmfaaDoorRG6x1
import Derived.Test.YtckfepmahjgmfaaDoorRG7
import Derived.Test.YtckfepmahjgmfaaDoorRMA
import Derived.Test.YtckfepmahjgmfaaDoorRMAx1
import Derived.Test.YtckfepmahjgmfaaDoorRG3
import Derived.Test.YtckfepmahjgmfaaDoorRG3x1
import Derived.Test.YtckfepmahjgmfaaDoorRG3x2
import Derived.Test.YtckfepmahjgmfaaDoorRG2
import Derived.Test.YtckfepmahjgmfaaDoorRG2x1
import Derived.Laws.EntriesVeiled
import Derived.Test.YtckfepmahjgmfaaDoorRG1
import Derived.Test.YtckfepmahjgmfaaDoorRG1x1
import Derived.Test.YtckfepmahjgmfaaDoorRSAx1
import Derived.Test.YtckfepmahjgmfaaDoorRCAx1
import Derived.Test.YtckfepmahjgmfaaDoorRCAx2
import Derived.Test.YtckfepmahjgmfaaDoorRG9
import Derived.Test.YtckfepmahjgmfaaDoorRG9x1
namespace Go.Proofs.YtckfepmahjgmfaaDoor.E
open Go.RowKit Go.Shelf Go.Proofs.YtckfepmahjgmfaaDoor.C
set_option linter.unusedSimpArgs false
set_option linter.unusedVariables false

theorem cols_of {W : World} {g n cap : Nat} {t : TypeId} {cs : Array Value} {css : List (List (List UInt8))} (h : Blk W g t cs) (hn : css.length = n) (hc : n ≤ cap) (hA : ∀ j, j < n → ∃ u, cs[j]? = some u ∧ Many W.heap.size W u (css[j]?.getD [])) : Cols W.heap.size W (.slice (some ⟨g, 0, none⟩) n cap) css := by
  subst hn
  refine ⟨_, cap, rfl, hc, fun _ => ⟨g, 0, rfl, h.lt, fun j hj => ?_⟩⟩
  obtain ⟨u, h1, h2⟩ := hA j hj
  exact ⟨u, by rw [Nat.zero_add, h.cell j]; exact h1, h2⟩
end Go.Proofs.YtckfepmahjgmfaaDoor.E

namespace Go.Proofs.YtckfepmahjgmfaaDoor.Rg
open Go.RowKit Go.Shelf Go.Proofs.YtckfepmahjgmfaaDoor.C Go.Proofs.YtckfepmahjgmfaaDoor.E Go.Proofs.YtckfepmahjgmfaaDoor.T
set_option linter.unusedSimpArgs false
set_option linter.unusedVariables false
attribute [local go_sem] Oper.semAt_some

set_option maxRecDepth 100000 in
set_option maxHeartbeats 1000000 in
theorem right_one {B : Nat} (p : Int) (v : Value) (c : List (List UInt8)) (w : World) (hB : B ≤ w.heap.size) (hM : Many B w v c) (b : Bool) (hb : b = true ↔ RightD p [c]) :
    Calls Tryd.prog 11 #[.int .i64 p, v] w fun e w' => e = .returned (.bool b) ∧ Below w.heap.size w w' := by
  obtain ⟨A, cap, rfl, _, _⟩ := id hM
  have hB1 := below_one w (.cells #[.slice A c.length cap] 23)
  have b1 := Blk.new w 23 #[.slice A c.length cap]
  have hC : Cols (w.alloc (.cells #[.slice A c.length cap] 23)).heap.size (w.alloc (.cells #[.slice A c.length cap] 23)) (.slice (some ⟨w.heap.size, 0, none⟩) 1 1) [c] := cols_of b1 rfl (Nat.le_refl _) fun j hj => by
    obtain rfl : j = 0 := by omega
    exact ⟨_, rfl, (hM.below (hB1.mono hB)).more (Nat.le_trans hB hB1.size)⟩
  have HR := Lib.hid (right6_any p _ [c] _ (Nat.le_refl _) hC (by show 1 ≤ 1000; omega) b hb)
  clear hC b1
  go_enter Tryd.func11, Tryd.ntmps11
  go_wp2_with (go_at_call 19; refine HR.out.mono ?_; rintro e w1 ⟨rfl, hB2⟩)
  go_ret
  exact ⟨rfl, below_in hB1 hB2⟩
end Go.Proofs.YtckfepmahjgmfaaDoor.Rg

