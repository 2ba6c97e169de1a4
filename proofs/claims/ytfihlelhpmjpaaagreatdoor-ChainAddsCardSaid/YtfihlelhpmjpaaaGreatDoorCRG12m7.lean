/- ring: the document's Put. ring: the mathematics of turned, stretched and slackened columns, byte by byte. -/
import Derived.Laws.CopyOwn
import Derived.Test.YtfihlelhpmjpaaaGreatDoorCRG12
namespace Go.Proofs.YtfihlelhpmjpaaaGreatDoor.Rg
open Go.RowKit Go.Shelf Go.Maps Go.Proofs.YtfihlelhpmjpaaaGreatDoor.C Go.Proofs.YtfihlelhpmjpaaaGreatDoor.E
set_option linter.unusedSimpArgs false
set_option linter.unusedVariables false
attribute [local go_sem] Oper.semAt_some

section
variable {Q : Nat → Prop} {base : Nat} {v : Value}
end
/-- Two columns of one shape, put upon one another. -/
def putC (a b : List (List UInt8)) : List (List UInt8) := (List.range a.length).map fun i => xorB (a[i]?.getD []) (b[i]?.getD [])
end Go.Proofs.YtfihlelhpmjpaaaGreatDoor.Rg

namespace Go.Proofs.YtfihlelhpmjpaaaGreatDoor.Rg
open Go.RowKit Go.Shelf Go.Proofs.YtfihlelhpmjpaaaGreatDoor.C Go.Proofs.YtfihlelhpmjpaaaGreatDoor.E
set_option linter.unusedSimpArgs false
set_option linter.unusedVariables false

theorem put_good {Q n : Nat} (h1 : 1 ≤ n) (h64 : n ≤ 64) {a b : List (List UInt8)} (ha : GoodC Q n a) : GoodC Q n (putC a b) := by
  unfold putC
  rw [ha.1]
  exact made_good h1 h64 _ fun i hi => by rw [xorB_len]; exact (ha.2 i hi).2
theorem bt_put {P Q n : Nat} (hQ : P = Q + 1) {a b : List (List UInt8)} (ha : GoodC Q n a) (hb : GoodC Q n b) (j : Nat) (r : Int) : Bt P Q n (putC a b) j r = Bt P Q n a j r ^^^ Bt P Q n b j r := by
  unfold putC
  rw [ha.1]
  refine bt_made hQ _ j _ ((Bt.per hQ a j).add (Bt.per hQ b j)) (fun i hi => ?_) r
  show _ = Bt P Q n a j i ^^^ Bt P Q n b j i
  rw [at_xorB _ _ _ ((hb.2 i hi).2.trans (ha.2 i hi).2.symm), bt_at hQ a j hi (Int.emod_eq_of_lt (by omega) (by omega)), bt_at hQ b j hi (Int.emod_eq_of_lt (by omega) (by omega))]
end Go.Proofs.YtfihlelhpmjpaaaGreatDoor.Rg

