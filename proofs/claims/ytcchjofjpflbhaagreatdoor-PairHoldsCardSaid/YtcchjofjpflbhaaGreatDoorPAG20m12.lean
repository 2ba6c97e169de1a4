/- -/
import Derived.Test.YtcchjofjpflbhaaGreatDoorPAG13m12
import Derived.Test.YtcchjofjpflbhaaGreatDoorPAG15m14
import Derived.Test.YtcchjofjpflbhaaGreatDoorPAG20
set_option linter.unusedVariables false
set_option linter.unusedSimpArgs false
set_option maxRecDepth 100000
set_option maxHeartbeats 400000
namespace Go.Proofs.YtcchjofjpflbhaaGreatDoor.Ch
open Go.RowKit Go.Shelf Go.Proofs.YtcchjofjpflbhaaGreatDoor.C Go.Proofs.YtcchjofjpflbhaaGreatDoor.E Go.Proofs.YtcchjofjpflbhaaGreatDoor.T

theorem two_small {Q n:Nat} {A B:List (List UInt8)} (hQ:Q≤1000) (gA:GoodC Q n A) (gB:GoodC Q n B):∀ j:Nat,(([A,B][j]?).getD []).length≤1000:=by
 intro j
 rcases j with _ | _ | j
 · show A.length≤1000;rw [gA.1];exact hQ
 · show B.length≤1000;rw [gB.1];exact hQ
 · simp
theorem sub_mod_ne {P:Nat} {a b:Int} (ha:0≤a) (hab:a<b) (hb:b<(P:Int)):(b - a) % (P:Int)≠0:=by rw [Int.emod_eq_of_lt (by omega) (by omega)];omega
theorem same_two {Q n:Nat} {A B:List (List UInt8)} (hQ:Q≤1000) (gA:GoodC Q n A) (gB:GoodC Q n B) (u v:Value) (W:World) (h1:Cols W.heap.size W u [A,B]) (h2:Cols W.heap.size W v [A,B]) :
 Calls Tryz.prog 27 #[u,v] W fun e w'=>e = .returned (.bool true)∧Below W.heap.size W w':=by
 have h:=same6_any u v [A,B] [A,B] W h1 h2 (Nat.le_refl _) (Nat.le_refl _) (two_small hQ gA gB) (two_small hQ gA gB) (by simp) (by simp)
 rwa [decide_eq_true rfl] at h
section
variable {P Q n:Nat} {x y:List (List (List UInt8))} {L:List Int}
end
end Go.Proofs.YtcchjofjpflbhaaGreatDoor.Ch
