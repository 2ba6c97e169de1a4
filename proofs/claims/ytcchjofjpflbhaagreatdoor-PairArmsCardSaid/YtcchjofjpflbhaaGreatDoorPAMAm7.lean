/- -/
import Derived.Test.YtcchjofjpflbhaaGreatDoorRows
import Derived.WalkKit
import Derived.WalkSpells
import Derived.WalkLawsBesides
import Derived.Lib.Hide
import Derived.Below
import Derived.Laws.OwnMore
import Derived.Laws.Rows
import Derived.Deep.Draws
import Derived.RangeFuncNested
import Derived.RangeFuncBound
import Derived.RangeFuncCalls
import Derived.RangeFuncLeaves
import Derived.Shelf.Abstract
import Derived.Shelf.RegionOpen
import Derived.OwnWalkIn
import Derived.TacticsInMore
import Derived.LoopNIn
import Derived.LoopIn
import Derived.Maps.AppendAt
import Derived.ProofKit
import Derived.OpenShut
import Derived.Deep.DeepCutAuto
import Derived.Deep.RegionHeld3
import Derived.BigRegion
import Derived.Deep.QuietTactic
import Derived.BigQuiet
import Derived.Deep.RegionWith
import Derived.Outline
import Derived.WalkMore
import Derived.ScopeJumps
import Derived.IntWalk
import Derived.Deep.RegionLaw
import Derived.Sort.LoopGhostIn
import Derived.Test.YtcchjofjpflbhaaGreatDoorPAMA
set_option linter.unusedVariables false
set_option linter.unusedSimpArgs false
set_option maxRecDepth 100000
set_option maxHeartbeats 400000
namespace Go.Proofs.YtcchjofjpflbhaaGreatDoor
open Go.RowKit

theorem tmod_two (p n:Int):(n.tmod p+p) % p=n % p:=by
 rw [Int.add_emod_right,Int.tmod_def,Int.sub_mul_emod_self_left]

theorem rof_any (p n:Int) (w:World) (hp:0<p) (hp2:p≤1000) (_h1:-9223372036854775808≤n) (_h2:n≤9223372036854775807) :
 Calls Tryz.prog 50 #[.int .i64 p,.int .i64 n] w fun e w'=>e = .returned (.int .i64 (n % p))∧w=w':=by
 have HE:=Lib.hid (tmod_two p n)
 have b1:-p<n.tmod p∧n.tmod p<p:=by
  have h2:=Int.emod_nonneg n (show p≠0 by omega)
  have h3:=Int.emod_lt_of_pos n hp
  have h5:=Int.tmod_eq_emod (a:=n) (b:=p)
  rw [h5];split <;> omega
 go_enter Tryz.func50,Tryz.ntmps50
 go_wp2
 go_ret
 exact ⟨ret_i64 HE.out,rfl⟩

end Go.Proofs.YtcchjofjpflbhaaGreatDoor
