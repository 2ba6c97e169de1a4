/- -/
import Derived.Laws.CopyOwn
import Derived.ArgAppend
import Derived.Test.YtcchjofjpflbhaaGreatDoorPAG4m14
import Derived.Test.YtcchjofjpflbhaaGreatDoorPAG9
set_option linter.unusedVariables false
set_option linter.unusedSimpArgs false
set_option maxRecDepth 100000
set_option maxHeartbeats 400000
namespace Go.Proofs.YtcchjofjpflbhaaGreatDoor.Rg
open Go.RowKit Go.Shelf Go.Maps Go.Proofs.YtcchjofjpflbhaaGreatDoor.C Go.Proofs.YtcchjofjpflbhaaGreatDoor.E
attribute [local go_sem] Oper.semAt_some

theorem RowG.own_lt {α:Type} {r:Rep α} {t:TypeId} {d:α} {Q:Nat→Prop} {W:World} {base:Nat} {v:Value} {xs:List α} (h:RowG r t d Q W base v xs) (k:Nat) (e:v.ownBlock=some k):k<W.heap.size:=by
 obtain ⟨us,ho,_⟩:=h
 exact (World.ownsRow.lt ho k e).2
theorem map_next {α β:Type} (g:α→β) (d:α) (xs:List α) {k:Nat} (hk:k<xs.length):(xs.map g).take (k+1)=(xs.map g).take k ++ [g (xs[k]?.getD d)]:=by
 rw [List.take_succ_eq_append_getElem (by rw [List.length_map];exact hk),List.getElem_map,List.getElem?_eq_getElem hk]
 rfl
section
variable {Q:Nat→Prop} {base:Nat} {v:Value}
end
def putC (a b:List (List UInt8)):List (List UInt8):=(List.range a.length).map fun i=>xorB (a[i]?.getD []) (b[i]?.getD [])
end Go.Proofs.YtcchjofjpflbhaaGreatDoor.Rg

namespace Go.Proofs.YtcchjofjpflbhaaGreatDoor.Rg
open Go.RowKit Go.Shelf Go.Proofs.YtcchjofjpflbhaaGreatDoor.C Go.Proofs.YtcchjofjpflbhaaGreatDoor.E

theorem put_good {Q n:Nat} (h1:1≤n) (h64:n≤64) {a b:List (List UInt8)} (ha:GoodC Q n a):GoodC Q n (putC a b):=by
 unfold putC
 rw [ha.1]
 exact made_good h1 h64 _ fun i hi=>by rw [xorB_len];exact (ha.2 i hi).2
theorem bt_put {P Q n:Nat} (hQ:P=Q+1) {a b:List (List UInt8)} (ha:GoodC Q n a) (hb:GoodC Q n b) (j:Nat) (r:Int):Bt P Q n (putC a b) j r=Bt P Q n a j r ^^^ Bt P Q n b j r:=by
 unfold putC
 rw [ha.1]
 refine bt_made hQ _ j _ ((Bt.per hQ a j).add (Bt.per hQ b j)) (fun i hi=>?_) r
 show _=Bt P Q n a j i ^^^ Bt P Q n b j i
 rw [at_xorB _ _ _ ((hb.2 i hi).2.trans (ha.2 i hi).2.symm),bt_at hQ a j hi (Int.emod_eq_of_lt (by omega) (by omega)),bt_at hQ b j hi (Int.emod_eq_of_lt (by omega) (by omega))]
end Go.Proofs.YtcchjofjpflbhaaGreatDoor.Rg
