/- ring: the mathematics of turned, stretched and slackened columns, byte by byte. The laws of ring: contracts as the laws want them. IsZero. -/
import Derived.Test.YtckfepmahjgmfaaDoorRG9
import Derived.Test.YtckfepmahjgmfaaDoorRG9x1
import Derived.Test.YtckfepmahjgmfaaDoorRG6
import Derived.Test.YtckfepmahjgmfaaDoorRG6x1
import Derived.Test.YtckfepmahjgmfaaDoorRCA
import Derived.Test.YtckfepmahjgmfaaDoorRCAx1
import Derived.Test.YtckfepmahjgmfaaDoorRMAx1
import Derived.Test.YtckfepmahjgmfaaDoorRSAx1
import Derived.Test.YtckfepmahjgmfaaDoorRG1x1
import Derived.Test.YtckfepmahjgmfaaDoorRG2x1
import Derived.Test.YtckfepmahjgmfaaDoorRG3x1
import Derived.Test.YtckfepmahjgmfaaDoorRG10
namespace Go.Proofs.YtckfepmahjgmfaaDoor.Rg
open Go.RowKit Go.Shelf Go.Proofs.YtckfepmahjgmfaaDoor.C Go.Proofs.YtckfepmahjgmfaaDoor.E
set_option linter.unusedSimpArgs false
set_option linter.unusedVariables false

theorem put_good {Q n : Nat} (h1 : 1 ≤ n) (h64 : n ≤ 64) {a b : List (List UInt8)} (ha : GoodC Q n a) : GoodC Q n (putC a b) := by
  unfold putC
  rw [ha.1]
  exact made_good h1 h64 _ fun i hi => by rw [xorB_len]; exact (ha.2 i hi).2
theorem bt_put {P Q n : Nat} (hQ : P = Q + 1) {a b : List (List UInt8)} (ha : GoodC Q n a) (hb : GoodC Q n b) (j : Nat) (r : Int) : Bt P Q n (putC a b) j r = Bt P Q n a j r ^^^ Bt P Q n b j r := by
  unfold putC
  rw [ha.1]
  refine bt_made hQ _ j _ ((Bt.per hQ a j).add (Bt.per hQ b j)) (fun i hi => ?_) r
  show _ = Bt P Q n a j i ^^^ Bt P Q n b j i
  rw [at_xorB _ _ _ ((hb.2 i hi).2.trans (ha.2 i hi).2.symm), bt_at hQ a j hi (Int.emod_eq_of_lt (by omega) (by omega)), bt_at hQ b j hi (Int.emod_eq_of_lt (by omega) (by omega))]
end Go.Proofs.YtckfepmahjgmfaaDoor.Rg

