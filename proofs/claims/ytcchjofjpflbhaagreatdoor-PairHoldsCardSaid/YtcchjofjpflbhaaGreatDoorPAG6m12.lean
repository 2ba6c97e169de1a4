/- -/
import Derived.Test.YtcchjofjpflbhaaGreatDoorPAG4m12
import Derived.Test.YtcchjofjpflbhaaGreatDoorPAG6
set_option linter.unusedVariables false
set_option linter.unusedSimpArgs false
set_option maxRecDepth 100000
set_option maxHeartbeats 400000
namespace Go.Proofs.YtcchjofjpflbhaaGreatDoor.Rg
open Go.RowKit Go.Shelf Go.Maps Go.Proofs.YtcchjofjpflbhaaGreatDoor.C Go.Proofs.YtcchjofjpflbhaaGreatDoor.E

theorem hld_len {f:Nat→List UInt8} {z all:List UInt8} {n:Nat} (hz:z.length=n):∀ (l:List Int),(hld f z all l).length=n:=by
 intro l
 unfold hld
 induction l generalizing z with
 | nil=>exact hz
 | cons x l ih=>exact ih (by rw [xorOf_len];exact hz)
section
variable {gm gh Q n B:Nat} {f:Nat→List UInt8} {z all:List UInt8} {pre:List Int} {X Y:World} {hv:Value} {ms:List Value}
end
def slackL (P Q:Nat) (f:Nat→List UInt8) (by_:Int):List (List UInt8):=(List.range Q).map fun r:Nat=>hld f (f Q) (xorOf ((List.range P).map f)) ((rowsF P (walkN P ((P:Int) - 1) by_)).take ((rowsF P (walkN P ((P:Int) - 1) by_)).idxOf (r:Int)+1))
theorem slack_rows (P Q:Nat) (hQ:P=Q+1) (hp:(P:Int)∈prm) (by_:Int) (hby:by_ % (P:Int)≠0):(rowsF P (walkN P ((P:Int) - 1) by_)).Nodup∧(∀ r:Nat,r<Q→(r:Int)∈rowsF P (walkN P ((P:Int) - 1) by_))∧∀ x∈rowsF P (walkN P ((P:Int) - 1) by_),0≤x∧x<(P:Int) - 1:=by
 have hb:=prm_bounds hp
 have h0:=Int.emod_nonneg by_ (show (P:Int)≠0 by omega)
 have h1:=Int.emod_lt_of_pos by_ (show (0:Int)<P by omega)
 obtain ⟨i,i0,i1,hi⟩:=inv_ex (P:Int) hp (by_ % (P:Int)) h0 h1 hby
 rw [walkN_yes (fine_one.2 ⟨hp,by omega,by omega⟩),Int.toNat_natCast]
 have hn:=walk_nodup P ((P:Int) - 1) (by_ % (P:Int)) i hi
 have hin:=walk_in P (by omega) ((P:Int) - 1) (by_ % (P:Int))
 refine ⟨List.Nodup.sublist List.filter_sublist hn,fun r hr=>?_,fun x hx=>?_⟩
 · unfold rowsF
   refine List.mem_filter.2 ⟨?_,by simp;omega⟩
   have hc:=walk_comes P (by omega) ((P:Int) - 1) (r:Int) (by_ % (P:Int)) i hi (by omega) (by omega)
   have h2:=Int.emod_nonneg (((r:Int) - ((P:Int) - 1)) % (P:Int) * i) (show (P:Int)≠0 by omega)
   have h3:=Int.emod_lt_of_pos (((r:Int) - ((P:Int) - 1)) % (P:Int) * i) (show (0:Int)<P by omega)
   unfold walkL
   exact List.mem_map.2 ⟨_,List.mem_range.2 (by omega),hc⟩
 · unfold rowsF at hx
   have h2:=List.mem_filter.1 hx
   have h3:=hin x h2.1
   have h4:x≠(P:Int) - 1:=by simpa using h2.2
   omega
end Go.Proofs.YtcchjofjpflbhaaGreatDoor.Rg
