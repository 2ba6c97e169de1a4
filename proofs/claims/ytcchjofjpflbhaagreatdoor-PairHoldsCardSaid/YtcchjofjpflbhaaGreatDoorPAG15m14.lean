/- -/
import Derived.Maps.OwnSet
import Derived.Maps.OwnIn
import Derived.Laws.EntriesVeiled
import Derived.Deep.AppendLies
import Derived.RangeFuncNested
import Derived.Shelf.RegionOpen
import Derived.Laws.OwnMore
import Derived.Test.YtcchjofjpflbhaaGreatDoorPAG13m14
import Derived.Test.YtcchjofjpflbhaaGreatDoorPAG15
set_option linter.unusedVariables false
set_option linter.unusedSimpArgs false
set_option maxRecDepth 100000
set_option maxHeartbeats 400000
namespace Go.Proofs.YtcchjofjpflbhaaGreatDoor.E
open Go.RowKit Go.Shelf Go.Proofs.YtcchjofjpflbhaaGreatDoor.C

theorem RowG.own_lt {α:Type} {r:Rep α} {t:TypeId} {d:α} {Q:Nat→Prop} {W:World} {base:Nat} {v:Value} {xs:List α} (h:RowG r t d Q W base v xs) (k:Nat) (e:v.ownBlock=some k):k<W.heap.size:=by
 obtain ⟨us,ho,_⟩:=h
 exact (World.ownsRow.lt ho k e).2
theorem map_next {α β:Type} (g:α→β) (d:α) (xs:List α) {k:Nat} (hk:k<xs.length):(xs.map g).take (k+1)=(xs.map g).take k ++ [g (xs[k]?.getD d)]:=by
 rw [List.take_succ_eq_append_getElem (by rw [List.length_map];exact hk),List.getElem_map,List.getElem?_eq_getElem hk]
 rfl
end Go.Proofs.YtcchjofjpflbhaaGreatDoor.E
