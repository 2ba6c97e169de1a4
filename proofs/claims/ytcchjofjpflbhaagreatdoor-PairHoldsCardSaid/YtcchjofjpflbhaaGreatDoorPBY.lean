/- -/
import Derived.Test.YtcchjofjpflbhaaGreatDoorPAG20m8
import Derived.Test.YtcchjofjpflbhaaGreatDoorPAX
import Derived.Test.YtcchjofjpflbhaaGreatDoorRows
import Derived.WalkKit
import Derived.WalkSpells
import Derived.WalkLawsBesides
import Derived.Lib.Hide
import Derived.Below
import Derived.Laws.OwnMore
import Derived.Laws.Rows
import Derived.Deep.Draws
import Derived.RangeFuncNested
import Derived.RangeFuncBound
import Derived.RangeFuncCalls
import Derived.RangeFuncLeaves
import Derived.Shelf.Abstract
import Derived.Shelf.RegionOpen
import Derived.OwnWalkIn
import Derived.TacticsInMore
import Derived.LoopNIn
import Derived.LoopIn
import Derived.Maps.AppendAt
import Derived.ProofKit
import Derived.OpenShut
import Derived.Deep.DeepCutAuto
import Derived.Deep.RegionHeld3
import Derived.BigRegion
import Derived.Deep.QuietTactic
import Derived.BigQuiet
import Derived.Deep.RegionWith
import Derived.Outline
import Derived.WalkMore
import Derived.ScopeJumps
import Derived.IntWalk
import Derived.Deep.RegionLaw
import Derived.Sort.LoopGhostIn
import Derived.ShutString
import Derived.ChangeOld
import Derived.LaidMore
import Derived.Stop.Joined
import Derived.MakeChecks
import Derived.Lib.LaidTab
import Derived.Laws.BitsAllLaws
import Derived.Deep.AppendLies
import Derived.Laws.BytesArg
import Derived.Recover
import Derived.Defers
import Derived.Lib.BitFns
import Derived.Lib.Walk
import Derived.Lib.Small
import Derived.Laws.ShiftsVarLaws
import Derived.Lib.SliceRun
import Derived.ArgAppend
import Derived.Laws.IdiomCopy
import Derived.Lib.AppendZeros
import Derived.OrdersIn
import Derived.OrdersHeld
import Derived.Maps.OwnIn
import Derived.BigFrame
import Derived.Deep.Matrix
import Derived.Laws.CopyOwn
import Derived.Laws.Tables
import Derived.Deep.WholeRow
import Derived.Great.BuildSlice
import Derived.Laws.EntriesVeiled
import Derived.Laws.StructEq
import Derived.Maps.OwnSet
import Derived.Deep.Upon
set_option linter.unusedVariables false
set_option linter.unusedSimpArgs false
set_option maxRecDepth 100000
set_option maxHeartbeats 2000000
namespace Go.Proofs.YtcchjofjpflbhaaGreatDoor
open Go.RowKit

section
variable {w w':World} {g:Nat} {t:TypeId} {cs:Array Value}
end

section
variable {W W':World} {B B':Nat} {v:Value} {l:List Int}
end

end Go.Proofs.YtcchjofjpflbhaaGreatDoor

namespace Go.Proofs.YtcchjofjpflbhaaGreatDoor
open Go.RowKit

end Go.Proofs.YtcchjofjpflbhaaGreatDoor

namespace Go.Proofs.YtcchjofjpflbhaaGreatDoor
open Go.RowKit

section
variable {β:Type} {B k:Nat} {I I':β→World→Prop} {X Y Z:World}
end

end Go.Proofs.YtcchjofjpflbhaaGreatDoor

namespace Go.Proofs.YtcchjofjpflbhaaGreatDoor
open Go.RowKit Go.Shelf
attribute [local go_sem] Oper.semAt_some

end Go.Proofs.YtcchjofjpflbhaaGreatDoor

namespace Go.Proofs.YtcchjofjpflbhaaGreatDoor
open Go.RowKit Go.Shelf

end Go.Proofs.YtcchjofjpflbhaaGreatDoor

namespace Go.Proofs.YtcchjofjpflbhaaGreatDoor
open Go.RowKit Go.Shelf

end Go.Proofs.YtcchjofjpflbhaaGreatDoor

namespace Go.Proofs.YtcchjofjpflbhaaGreatDoor
open Go.RowKit Go.Shelf
attribute [local go_sem] Oper.semAt_some

end Go.Proofs.YtcchjofjpflbhaaGreatDoor

namespace Go.Proofs.YtcchjofjpflbhaaGreatDoor
open Go.RowKit Go.Shelf

end Go.Proofs.YtcchjofjpflbhaaGreatDoor

namespace Go.Proofs.YtcchjofjpflbhaaGreatDoor
open Go.RowKit Go.Shelf
attribute [local go_sem] Oper.semAt_some

end Go.Proofs.YtcchjofjpflbhaaGreatDoor

namespace Go.Proofs.YtcchjofjpflbhaaGreatDoor
open Go.RowKit

theorem tmod_two (p n:Int):(n.tmod p+p) % p=n % p:=by
 rw [Int.add_emod_right,Int.tmod_def,Int.sub_mul_emod_self_left]

theorem rof_any (p n:Int) (w:World) (hp:0<p) (hp2:p≤1000) (_h1:-9223372036854775808≤n) (_h2:n≤9223372036854775807) :
 Calls Tryz.prog 50 #[.int .i64 p,.int .i64 n] w fun e w'=>e = .returned (.int .i64 (n % p))∧w=w':=by
 have HE:=Lib.hid (tmod_two p n)
 have b1:-p<n.tmod p∧n.tmod p<p:=by
  have h2:=Int.emod_nonneg n (show p≠0 by omega)
  have h3:=Int.emod_lt_of_pos n hp
  have h5:=Int.tmod_eq_emod (a:=n) (b:=p)
  rw [h5];split <;> omega
 go_enter Tryz.func50,Tryz.ntmps50
 go_wp2
 go_ret
 exact ⟨ret_i64 HE.out,rfl⟩

end Go.Proofs.YtcchjofjpflbhaaGreatDoor

namespace Go.Proofs.YtcchjofjpflbhaaGreatDoor
open Go.RowKit Go.Shelf

end Go.Proofs.YtcchjofjpflbhaaGreatDoor

set_option linter.unusedVariables false
set_option linter.unusedSimpArgs false
set_option maxRecDepth 100000
set_option maxHeartbeats 1000000
namespace Go.Proofs.YtcchjofjpflbhaaGreatDoor
open Go.RowKit Go.Shelf

end Go.Proofs.YtcchjofjpflbhaaGreatDoor

namespace Go.Proofs.YtcchjofjpflbhaaGreatDoor
open Go.RowKit Go.Shelf

end Go.Proofs.YtcchjofjpflbhaaGreatDoor

namespace Go.Proofs.YtcchjofjpflbhaaGreatDoor
open Go.RowKit Go.Shelf

end Go.Proofs.YtcchjofjpflbhaaGreatDoor

namespace Go.Proofs.YtcchjofjpflbhaaGreatDoor
open Go.RowKit Go.Shelf

end Go.Proofs.YtcchjofjpflbhaaGreatDoor

namespace Go.Proofs.YtcchjofjpflbhaaGreatDoor
open Go.RowKit Go.Shelf

end Go.Proofs.YtcchjofjpflbhaaGreatDoor

namespace Go.Proofs.YtcchjofjpflbhaaGreatDoor
open Go.RowKit Go.Shelf

theorem refRows_any (k p:Int) (hR:RightC k p) (w:World):Calls Tryz.prog 78 #[(.agg #[.int .i64 k,.int .i64 p])] w fun e w'=>e = .returned (.int .i64 (p - 1))∧Below w.heap.size w w':=by
 obtain ⟨p1,p2,s1,s2,m1,m2⟩:=hR.und
 go_enter Tryz.func78,Tryz.ntmps78
 go_wp2
 go_ret
 exact ⟨rfl,(below_one w _)⟩

theorem refData_any (k p:Int) (hR:RightC k p) (w:World):Calls Tryz.prog 76 #[(.agg #[.int .i64 k,.int .i64 p])] w fun e w'=>e = .returned (.int .i64 (p - shortN k))∧Below w.heap.size w w':=by
 obtain ⟨p1,p2,s1,s2,m1,m2⟩:=hR.und
 by_cases h:k=2
 · subst h
   go_enter Tryz.func76,Tryz.ntmps76
   go_wp2
   go_ret
   exact ⟨rfl,(below_one w _)⟩
 · have d:((k:Int) == 2)=false:=by simpa using h
   have e:shortN k=0:=if_neg h
   rw [e]
   go_enter Tryz.func76,Tryz.ntmps76
   go_wp2
   go_ret
   exact ⟨ret_i64 (by omega),(below_one w _)⟩

theorem refLost_any (k p:Int) (hR:RightC k p) (w:World):Calls Tryz.prog 127 #[(.agg #[.int .i64 k,.int .i64 p])] w fun e w'=>e = .returned (.int .i64 (madeN k))∧Below w.heap.size w w':=by
 obtain ⟨p1,p2,s1,s2,m1,m2⟩:=hR.und
 by_cases h:k=3
 · subst h
   go_enter Tryz.func127,Tryz.ntmps127
   go_wp2
   go_ret
   exact ⟨rfl,(below_one w _)⟩
 · have d:((k:Int) == 3)=false:=by simpa using h
   have e:madeN k=2:=if_neg h
   rw [e]
   go_enter Tryz.func127,Tryz.ntmps127
   go_wp2
   go_ret
   exact ⟨rfl,(below_one w _)⟩

theorem refCols_any (k p:Int) (hR:RightC k p) (w:World):Calls Tryz.prog 77 #[(.agg #[.int .i64 k,.int .i64 p])] w fun e w'=>e = .returned (.int .i64 (p - shortN k+madeN k))∧Below w.heap.size w w':=by
 obtain ⟨p1,p2,s1,s2,m1,m2⟩:=hR.und
 have HD:=Lib.hid (fun W=>refData_any k p hR W)
 have HLo:=Lib.hid (fun W=>refLost_any k p hR W)
 clear hR
 generalize shortN k=s at *
 generalize madeN k=m at *
 have e1:=IntWalk.i64_in (p - s+m) (by omega)
 go_enter Tryz.func77,Tryz.ntmps77
 go_wp2
 obtain ⟨W0,hW0⟩:∃ W0,w.alloc (.cells #[.int .i64 k,.int .i64 p] 61)=W0:=⟨_,rfl⟩
 have b0:Blk W0 w.heap.size 61 #[.int .i64 k,.int .i64 p]:=by rw [←hW0];exact Blk.new w _ _
 have hB:Below w.heap.size w W0:=by rw [←hW0];exact below_one w _
 rw [hW0]
 clear hW0
 go_region_held3 (fun W=>W.cell? ⟨w.heap.size,0,none⟩=some (.int .i64 k)∧W.cell? ⟨w.heap.size,1,none⟩=some (.int .i64 p))
  (exact ⟨b0.cell 0,b0.cell 1⟩) (first
  | (go_at_call 76;refine (HD.out _).mono ?_;rintro e w1 ⟨rfl,hB1⟩;(first | replace b0:=b0.below hB1 b0.lt | replace b0:=b0.nextd hB1);(first | replace hB:=below_in hB hB1 | replace hB:=below_in hB.drew hB1))
  | (go_at_call 127;refine (HLo.out _).mono ?_;rintro e w1 ⟨rfl,hB1⟩;(first | replace b0:=b0.below hB1 b0.lt | replace b0:=b0.nextd hB1);(first | replace hB:=below_in hB hB1 | replace hB:=below_in hB.drew hB1)))
 all_goals go_wp2
 all_goals go_ret
 all_goals exact ⟨rfl,hB⟩

def rroleN (d x:Int):Int:=if x<d then 1 else x - d+2
theorem role_eq {p s m x:Int} (h:0≤x∧x<p - s+m) (hu:Und p s m):roleN (p - s) x=rroleN (p - s) x:=by
 obtain ⟨p1,p2,s1,s2,m1,m2⟩:=hu
 unfold roleN rroleN
 split <;> (try split) <;> (try split) <;> (try split) <;> omega
theorem refRole_any (k p x:Int) (hR:RightC k p) (hx:0≤x∧x<1000) (w:World):Calls Tryz.prog 180 #[(.agg #[.int .i64 k,.int .i64 p]),.int .i64 x] w fun e w'=>e = .returned (.int .i64 (rroleN (p - shortN k) x))∧Below w.heap.size w w':=by
 obtain ⟨p1,p2,s1,s2,m1,m2⟩:=hR.und
 have HD:=Lib.hid (fun W=>refData_any k p hR W)
 clear hR
 generalize shortN k=s at *
 by_cases h:x<p - s
 · have d:decide (x<p - s)=true:=by simpa using h
   have e:rroleN (p - s) x=1:=if_pos h
   rw [e]
   go_enter Tryz.func180,Tryz.ntmps180
   go_wp2_with fail
   obtain ⟨W0,hW0⟩:∃ W0,w.alloc (.cells #[.int .i64 k,.int .i64 p] 61)=W0:=⟨_,rfl⟩
   have b0:Blk W0 w.heap.size 61 #[.int .i64 k,.int .i64 p]:=by rw [←hW0];exact Blk.new w _ _
   have hB:Below w.heap.size w W0:=by rw [←hW0];exact below_one w _
   try rw [hW0]
   clear hW0
   have c0:=b0.cell 0
   have c1:=b0.cell 1
   simp only [List.getElem?_toArray,List.getElem?_cons_zero,List.getElem?_cons_succ] at c0 c1
   go_wp2_with (go_at_call 76;refine (HD.out _).mono ?_;rintro e w1 ⟨rfl,hB1⟩;(first | replace b0:=b0.below hB1 b0.lt | replace b0:=b0.nextd hB1);(first | replace hB:=below_in hB hB1 | replace hB:=below_in hB.drew hB1))
   go_ret
   exact ⟨rfl,hB⟩
 · have d:decide (x<p - s)=false:=decide_eq_false h
   have e:rroleN (p - s) x=x - (p - s)+2:=if_neg h
   rw [e]
   go_enter Tryz.func180,Tryz.ntmps180
   go_wp2_with fail
   obtain ⟨W0,hW0⟩:∃ W0,w.alloc (.cells #[.int .i64 k,.int .i64 p] 61)=W0:=⟨_,rfl⟩
   have b0:Blk W0 w.heap.size 61 #[.int .i64 k,.int .i64 p]:=by rw [←hW0];exact Blk.new w _ _
   have hB:Below w.heap.size w W0:=by rw [←hW0];exact below_one w _
   try rw [hW0]
   clear hW0
   have c0:=b0.cell 0
   have c1:=b0.cell 1
   simp only [List.getElem?_toArray,List.getElem?_cons_zero,List.getElem?_cons_succ] at c0 c1
   go_wp2_with (go_at_call 76;refine (HD.out _).mono ?_;rintro e w1 ⟨rfl,hB1⟩;(first | replace b0:=b0.below hB1 b0.lt | replace b0:=b0.nextd hB1);(first | replace hB:=below_in hB hB1 | replace hB:=below_in hB.drew hB1);have c0:=b0.cell 0;have c1:=b0.cell 1;simp only [List.getElem?_toArray,List.getElem?_cons_zero,List.getElem?_cons_succ] at c0 c1)
   go_ret
   exact ⟨rfl,hB⟩

theorem refDiagonal_any (k p x y:Int) (hR:RightC k p) (hx:0≤x∧x<24) (hy:0≤y∧y<24) (w:World):Calls Tryz.prog 181 #[(.agg #[.int .i64 k,.int .i64 p]),(.agg #[.int .i64 x,.int .i64 y])] w fun e w'=>e = .returned (.int .i64 ((x+y) % p))∧Below w.heap.size w w':=by
 obtain ⟨p1,p2,s1,s2,m1,m2⟩:=hR.und
 have e1:(x+y).tmod p=(x+y) % p:=Int.tmod_eq_emod_of_nonneg (by omega)
 have n0:¬ p=0:=by omega
 go_enter Tryz.func181,Tryz.ntmps181
 go_wp2
 go_ret
 exact ⟨rfl,below_two w _ _⟩

theorem refSlant_any (k p x y:Int) (hR:RightC k p) (hx:0≤x∧x<24) (hy:0≤y∧y<24) (w:World):Calls Tryz.prog 182 #[(.agg #[.int .i64 k,.int .i64 p]),(.agg #[.int .i64 x,.int .i64 y])] w fun e w'=>e = .returned (.int .i64 ((y - x) % p))∧Below w.heap.size w w':=by
 obtain ⟨p1,p2,s1,s2,m1,m2⟩:=hR.und
 have HO:=Lib.hid (fun W=>rof_any p (y - x) W (by omega) (by omega) (by omega) (by omega))
 go_enter Tryz.func182,Tryz.ntmps182
 go_wp2_with (go_at_call 50;refine (HO.out _).mono ?_;rintro e w1 ⟨rfl,rfl⟩)
 go_ret
 exact ⟨rfl,below_two w _ _⟩

end Go.Proofs.YtcchjofjpflbhaaGreatDoor

namespace Go.Proofs.YtcchjofjpflbhaaGreatDoor
open Go.RowKit Go.Shelf

theorem wpList_code (w:World) {ops:Array Oper} {rest:List Oper} {o:Oper} {a:Act} {Q:Exit→Act→World→Prop} (hgd:o.guard=none) (s x:Operand) (t e:TypeId) (z:Value) (bytes:Nat)
 (ho:o.op = .call { callee:=.builtin .append,args:=#[s,x],argTypes:=#[t,t] }) (ht:Tryz.prog.underlying t=some (.slice e)) (hinfo:(Tryz.prog.info? e).map (fun i=>(i.zero,i.size,i.bytes))=some (some z,2,bytes)) (hzs:z.cells.size=2)
 (base:Nat) (v:Value) (xs:List Value) (hs:a.eval s=v) (n:Nat) (hown:w.ownsRow base e 2 v n xs) (g:Nat) (c:Nat) (k p:Int) (hx:a.eval x = .slice (some ⟨g,0,none⟩) 1 c) (hu:Blk w g e #[.int .i64 k,.int .i64 p])
 (hlen:n≤1000000000) (hby2:bytes≤100) (hbase:base≤w.heap.size)
 (h:∀ v' w',w'.ownsRow base e 2 v' (n+1) (xs ++ [.int .i64 k,.int .i64 p])→w.grownBy w' v.ownBlock→wpList Tryz.prog ops Q rest (a.put o.dst v') w'):wpList Tryz.prog ops Q (o :: rest) a w :=
 wpList_plain hgd fun K hK=>by
  obtain ⟨i,hi,hz0,hz1,hz2⟩:=info_parts hinfo
  have hb:(n+1) * bytes≤140737488355328:=by
   have:=Nat.mul_le_mul (show n+1≤1000000001 by omega) hby2
   omega
  obtain ⟨v',w',hrun,r1,r2,_,r3⟩:=run_append_own_at (P:=Tryz.prog) w base t o.type e i z 2 bytes ht hi hz0 hz1 hz2 hzs (by omega) v n xs hown ⟨g,0,none⟩ 1 c [.int .i64 k,.int .i64 p] (by simp) (by
   intro j y hy
   rw [addr_add,Nat.zero_add,hu.cell j]
   rw [List.getElem?_toArray]
   exact hy) (by intro y hy;simp only [List.mem_cons,List.not_mem_nil,or_false] at hy;rcases hy with rfl | rfl <;> rfl) (by unfold maxLen;omega) hb hbase
  unfold Oper.wp execOp
  simp only [ho,resolve,invoke,builtin,Sem.run_bind,Sem.run_pure,Result.andThen_ok,List.map_toArray,List.map_cons,List.map_nil,hs,hx,hrun]
  exact hK _ _ (h v' w' r1 r2)

end Go.Proofs.YtcchjofjpflbhaaGreatDoor

namespace Go.Proofs.YtcchjofjpflbhaaGreatDoor
open Go.RowKit Go.Shelf

end Go.Proofs.YtcchjofjpflbhaaGreatDoor

namespace Go.Proofs.YtcchjofjpflbhaaGreatDoor
open Go.ChangeShapes Go.WideShapes Go.ChangeAt Go.RowKit Go.Shelf

end Go.Proofs.YtcchjofjpflbhaaGreatDoor

namespace Go.Proofs.YtcchjofjpflbhaaGreatDoor
open Go.RowKit Go.Shelf

section
variable {β:Type} {B k:Nat} {I I':β→World→Prop} {X Y Z:World}
end

end Go.Proofs.YtcchjofjpflbhaaGreatDoor

namespace Go.Proofs.YtcchjofjpflbhaaGreatDoor
open Go.RowKit Go.Shelf
attribute [local go_sem] Oper.semAt_some

end Go.Proofs.YtcchjofjpflbhaaGreatDoor

namespace Go.Proofs.YtcchjofjpflbhaaGreatDoor
open Go.RowKit Go.Shelf
attribute [local go_sem] Oper.semAt_some

end Go.Proofs.YtcchjofjpflbhaaGreatDoor

namespace Go.Proofs.YtcchjofjpflbhaaGreatDoor
open Go.RowKit Go.Shelf

end Go.Proofs.YtcchjofjpflbhaaGreatDoor

set_option linter.unusedVariables false
set_option linter.unusedSimpArgs false
set_option maxRecDepth 100000
set_option maxHeartbeats 1000000
namespace Go.Proofs.YtcchjofjpflbhaaGreatDoor.E
open Go.RowKit Go.Shelf Go.Proofs.YtcchjofjpflbhaaGreatDoor.C

end Go.Proofs.YtcchjofjpflbhaaGreatDoor.E

namespace Go.Proofs.YtcchjofjpflbhaaGreatDoor.E
open Go.RowKit Go.Shelf Go.Proofs.YtcchjofjpflbhaaGreatDoor.C

section
variable {α:Type} {r:Rep α} {d:α} {P Q:Nat→Prop} {W W':World} {v:Value} {xs:List α}
end
section
variable {α:Type} {r:Rep α} {t:TypeId} {d:α} {Q:Nat→Prop} {W W':World} {base:Nat} {v:Value} {xs:List α}
end
section
variable {Q:Nat→Prop} {W W':World} {base:Nat} {v:Value}
end
end Go.Proofs.YtcchjofjpflbhaaGreatDoor.E

namespace Go.Proofs.YtcchjofjpflbhaaGreatDoor.E
open Go.RowKit Go.Shelf Go.Proofs.YtcchjofjpflbhaaGreatDoor.C

section
variable {α:Type} {r:Rep α} {t:TypeId} {d:α} {Q:Nat→Prop} {W W':World} {base:Nat} {v:Value} {xs:List α}
end
end Go.Proofs.YtcchjofjpflbhaaGreatDoor.E

namespace Go.Proofs.YtcchjofjpflbhaaGreatDoor.E
open Go.RowKit Go.Shelf Go.Proofs.YtcchjofjpflbhaaGreatDoor.C Go.ChangeShapes Go.WideShapes

end Go.Proofs.YtcchjofjpflbhaaGreatDoor.E

namespace Go.Proofs.YtcchjofjpflbhaaGreatDoor.Rg
open Go.RowKit Go.Shelf Go.Proofs.YtcchjofjpflbhaaGreatDoor.C Go.Proofs.YtcchjofjpflbhaaGreatDoor.E

theorem idle_C (p:Addr) (w:World) :
 CallsD Tryz.prog 276 #[.pointer (some p)] .returning w fun e u' w'=>e = .returned (.tuple #[])∧u' = .returning∧w'=w:=by
 have hta:=assert_errno
 refine callsD_of_wpS Tryz.func276 rfl fun c₀ cs hu=>?_
 simp only [Tryz.ntmps276,List.size_toArray,List.length_cons,List.length_nil,Nat.reduceAdd,Nat.reduceSub,Array.replicate_succ,Array.replicate_zero,List.push_toArray,List.append_toArray,List.nil_append,List.cons_append]
 apply wpS_seq
 apply wpS_region
 simp [wpOpsS,go_sem,recoverD,hu,Exit.thenS]
 all_goals (refine wpS_of_wp ?_;go_wp2;cases c₀;simp_all [bodyPostS,results,Tryz.results276])
theorem ans_C_yes (f:Nat) (caps:Array Value) (w:World) (Post:Value→World→Prop) (hent:∀ W,(callFunc f caps).run Tryz.prog W = .ok (.enter f caps) W)
 (h:∀ W,Below w.heap.size w W→Blk W w.heap.size 34 #[.int .i64 0]→Calls Tryz.prog f caps W fun e w'=>∃ v,e = .returned v∧Post v w'∧Below W.heap.size W w') :
 Calls Tryz.prog 247 #[.func (.func f) #[] caps] w fun e w'=>∃ v W,e = .returned (.tuple #[v,.int .i64 0])∧Post v W∧Blk W w.heap.size 34 #[.int .i64 0]∧w'=W.setCell ⟨w.heap.size,0,none⟩ (.int .i64 0)∧Below w.heap.size w w':=by
 have hmf:∀ (fn:Fn) (first cap:Array Value) (w:World),(Instr.makeFunc fn first cap).run Tryz.prog w = .ok (.func fn first cap) w:=fun _ _ _ _=>rfl
 have h1:=h (w.alloc (.cells #[.int .i64 0] 34)) ((Below.refl _ w).alloc (Nat.le_refl _) _) (Blk.new w _ _)
 clear h
 go_enter_defers Tryz.func247,Tryz.ntmps247
 go_wp2
 refine h1.mono ?_
 rintro e w1 ⟨v,rfl,hv,hB1⟩
 have b1:Blk w1 w.heap.size 34 #[.int .i64 0]:=(Blk.new w _ _).below hB1 (by simp)
 have c1:=b1.cell 0
 have f1:=b1.frozen 0
 simp only [List.getElem?_toArray,List.getElem?_cons_zero] at c1
 go_wp2
 refine leaves_cons (f:=276) (args:=#[.pointer (some ⟨w.heap.size,0,none⟩)]) (by simp) (by simp [go_sem]) ?_
 refine (idle_C ⟨w.heap.size,0,none⟩ _).mono ?_
 rintro e u' w'' ⟨rfl,rfl,rfl⟩
 have c2:(w1.setCell ⟨w.heap.size,0,none⟩ (.int .i64 0)).cell? ⟨w.heap.size,0,none⟩=some (.int .i64 0):=World.cell?_setCell_same' _ _ _ (by rw [c1];rfl)
 simp [Go.Leaves,settle,results,Tryz.results247,go_sem,c2]
 exact ⟨w1,hv,b1,rfl,(((Below.refl _ w).alloc (Nat.le_refl _) _).trans (hB1.mono (by simp))).setCell (Nat.le_refl _) _⟩
end Go.Proofs.YtcchjofjpflbhaaGreatDoor.Rg

namespace Go.Proofs.YtcchjofjpflbhaaGreatDoor.Rg
open Go.RowKit Go.Shelf Go.Proofs.YtcchjofjpflbhaaGreatDoor.C Go.Proofs.YtcchjofjpflbhaaGreatDoor.E

section
variable {P:Program} {F:Fence} {n:Nat} {ops:Array Oper} {Q:Exit→Act→World→Prop} {rest:List Oper} {o:Oper} {a:Act} {w w':World} {t:TypeId} {p x:Operand} {ad:Addr} {v:Value}
end
end Go.Proofs.YtcchjofjpflbhaaGreatDoor.Rg

namespace Go.Proofs.YtcchjofjpflbhaaGreatDoor.Rg
open Go.RowKit Go.Shelf Go.Proofs.YtcchjofjpflbhaaGreatDoor.C Go.Proofs.YtcchjofjpflbhaaGreatDoor.E
attribute [local go_sem] Oper.semAt_some

section
variable {B B' p n:Nat} {W W':World} {f:Nat→List UInt8} {vs:List Value}
end
end Go.Proofs.YtcchjofjpflbhaaGreatDoor.Rg

namespace Go.Proofs.YtcchjofjpflbhaaGreatDoor.Rg
open Go.RowKit Go.Shelf Go.Maps Go.Proofs.YtcchjofjpflbhaaGreatDoor.C Go.Proofs.YtcchjofjpflbhaaGreatDoor.E
attribute [local go_sem] Oper.semAt_some

end Go.Proofs.YtcchjofjpflbhaaGreatDoor.Rg

namespace Go.Proofs.YtcchjofjpflbhaaGreatDoor.Rg
open Go.RowKit Go.Shelf Go.Proofs.YtcchjofjpflbhaaGreatDoor.C Go.Proofs.YtcchjofjpflbhaaGreatDoor.E

section
variable {A:Nat→Prop} {X Y Z:World} {B:Nat}
end
end Go.Proofs.YtcchjofjpflbhaaGreatDoor.Rg

namespace Go.Proofs.YtcchjofjpflbhaaGreatDoor.Rg
open Go.RowKit Go.Shelf Go.Maps Go.Proofs.YtcchjofjpflbhaaGreatDoor.C Go.Proofs.YtcchjofjpflbhaaGreatDoor.E
attribute [local go_sem] Oper.semAt_some

end Go.Proofs.YtcchjofjpflbhaaGreatDoor.Rg

namespace Go.Proofs.YtcchjofjpflbhaaGreatDoor.Rg
open Go.RowKit Go.Shelf Go.Proofs.YtcchjofjpflbhaaGreatDoor.C Go.Proofs.YtcchjofjpflbhaaGreatDoor.E

section
variable {A A':Nat→Prop} {X Y:World} {v:Value} {l:List UInt8} {B base:Nat}
end
section
variable {A:Nat→Prop} {X Y:World} {F:Nat→List UInt8} {i base:Nat} {ts:List Value}
end
section
variable {F:Fence} {n:Nat} {P:Program} {md:Region.Mode} {ops:Array Oper} {Q:Exit→Act→World→Prop} {S:World→Prop}
end
end Go.Proofs.YtcchjofjpflbhaaGreatDoor.Rg

namespace Go.Proofs.YtcchjofjpflbhaaGreatDoor.Rg
open Go.RowKit Go.Shelf Go.Maps Go.Proofs.YtcchjofjpflbhaaGreatDoor.C Go.Proofs.YtcchjofjpflbhaaGreatDoor.E
attribute [local go_sem] Oper.semAt_some

end Go.Proofs.YtcchjofjpflbhaaGreatDoor.Rg

namespace Go.Proofs.YtcchjofjpflbhaaGreatDoor.Rg
open Go.RowKit Go.Shelf Go.Maps Go.Proofs.YtcchjofjpflbhaaGreatDoor.C Go.Proofs.YtcchjofjpflbhaaGreatDoor.E
attribute [local go_sem] Oper.semAt_some

section
variable {F:Fence} {n:Nat} {P:Program} {o:Oper} {a:Act} {w w':World} {K:Act→World→Prop} {Q:Exit→Act→World→Prop} {t:TypeId} {v:Value}
end
end Go.Proofs.YtcchjofjpflbhaaGreatDoor.Rg

namespace Go.Proofs.YtcchjofjpflbhaaGreatDoor.T
open Go.RowKit Go.Shelf

section
variable {F:Fence} {n:Nat} {P:Program} {md:Region.Mode} {ops:Array Oper} {Q:Exit→Act→World→Prop} {S:World→Prop} {m:Nat}
end
end Go.Proofs.YtcchjofjpflbhaaGreatDoor.T

set_option linter.unusedVariables false
set_option linter.unusedSimpArgs false
set_option maxRecDepth 100000
set_option maxHeartbeats 2000000
namespace Go.Proofs.YtcchjofjpflbhaaGreatDoor
open Go.RowKit Go.Shelf

section
variable {F:Fence} {n:Nat} {P:Program} {md:Region.Mode} {ops:Array Oper} {Q:Exit→Act→World→Prop}
end
end Go.Proofs.YtcchjofjpflbhaaGreatDoor

namespace Go.Proofs.YtcchjofjpflbhaaGreatDoor.Rg
open Go.RowKit Go.Shelf Go.Maps Go.Proofs.YtcchjofjpflbhaaGreatDoor.C Go.Proofs.YtcchjofjpflbhaaGreatDoor.E
attribute [local go_sem] Oper.semAt_some

section
variable {vs ws:List Value} {Q n b0:Nat} {zA:Option Addr} {zc:Nat} {w0:World} {b b':Nat→Bool} {x5 x6 x14 x15 x16 x17 x18 x19 x20 x21 x22:Value} {w w':World}
end
end Go.Proofs.YtcchjofjpflbhaaGreatDoor.Rg

namespace Go.Proofs.YtcchjofjpflbhaaGreatDoor.Rg
open Go.RowKit Go.Shelf Go.Maps Go.Proofs.YtcchjofjpflbhaaGreatDoor.C Go.Proofs.YtcchjofjpflbhaaGreatDoor.E

section
variable {gm gh Q n B:Nat} {f:Nat→List UInt8} {z all:List UInt8} {pre:List Int} {X Y:World} {hv:Value} {ms:List Value}
end
theorem cell_put {X:World} {D:Nat} {ds:Option (List Deferred)} {ob:Obj} {p:Addr} {u:Value} (hD:X.heap[D]?=some (.deferred ds)) (h:X.cell? p=some u):(X.putObj D ob).cell? p=some u:=by
 have hne:p.block≠D:=fun e=>by
  unfold World.cell? at h
  rw [e,hD] at h
  simp at h
 exact (World.cell?_of_block (World.putObj_heap_other hne)).trans h
end Go.Proofs.YtcchjofjpflbhaaGreatDoor.Rg

namespace Go.Proofs.YtcchjofjpflbhaaGreatDoor.E
open Go.RowKit Go.Shelf Go.Proofs.YtcchjofjpflbhaaGreatDoor.C
attribute [local go_sem] Oper.semAt_some

end Go.Proofs.YtcchjofjpflbhaaGreatDoor.E

set_option linter.unusedVariables false
set_option linter.unusedSimpArgs false
set_option maxRecDepth 100000
set_option maxHeartbeats 4000000
namespace Go.Proofs.YtcchjofjpflbhaaGreatDoor.T
open Go.RowKit Go.Shelf Go.Maps Go.Proofs.YtcchjofjpflbhaaGreatDoor.C Go.Proofs.YtcchjofjpflbhaaGreatDoor.E Go.Proofs.YtcchjofjpflbhaaGreatDoor.Ch
attribute [local go_sem] Oper.semAt_some

end Go.Proofs.YtcchjofjpflbhaaGreatDoor.T

namespace Go.Proofs.YtcchjofjpflbhaaGreatDoor.Ch
open Go.RowKit Go.Shelf Go.Proofs.YtcchjofjpflbhaaGreatDoor.C Go.Proofs.YtcchjofjpflbhaaGreatDoor.E

end Go.Proofs.YtcchjofjpflbhaaGreatDoor.Ch

namespace Go.Proofs.YtcchjofjpflbhaaGreatDoor.Ch
open Go.RowKit Go.Shelf Go.Proofs.YtcchjofjpflbhaaGreatDoor.C Go.Proofs.YtcchjofjpflbhaaGreatDoor.E
attribute [local go_sem] Oper.semAt_some

end Go.Proofs.YtcchjofjpflbhaaGreatDoor.Ch

namespace Go.Proofs.YtcchjofjpflbhaaGreatDoor.Rg
open Go.RowKit Go.Shelf Go.Maps Go.Proofs.YtcchjofjpflbhaaGreatDoor.C Go.Proofs.YtcchjofjpflbhaaGreatDoor.E
attribute [local go_sem] Oper.semAt_some

section
variable {Q:Nat→Prop} {base:Nat} {v:Value}
end
end Go.Proofs.YtcchjofjpflbhaaGreatDoor.Rg

namespace Go.Proofs.YtcchjofjpflbhaaGreatDoor.Rg
open Go.RowKit Go.Shelf Go.Proofs.YtcchjofjpflbhaaGreatDoor.C Go.Proofs.YtcchjofjpflbhaaGreatDoor.E

end Go.Proofs.YtcchjofjpflbhaaGreatDoor.Rg

namespace Go.Proofs.YtcchjofjpflbhaaGreatDoor.Rg
open Go.RowKit Go.Shelf Go.Proofs.YtcchjofjpflbhaaGreatDoor.C Go.Proofs.YtcchjofjpflbhaaGreatDoor.E
attribute [local go_sem] Oper.semAt_some

variable {P Q n:Nat}
theorem sameY (d:Dims P Q n) (c e:List (List UInt8)) (hc:GoodC Q n c) (he:c=e) (u v:Value) (w:World) (h1:Many w.heap.size w u c) (h2:Many w.heap.size w v e) :
 Calls Tryz.prog 30 #[u,v] w fun e w'=>e = .returned (.bool true)∧Below w.heap.size w w':=by
 have hl:Q≤100000:=by have:=prm_bounds d.hp;have:=d.hQ;omega
 have h:=sameCol_any u v c e w h1 h2 (by rw [hc.1];exact hl) (by rw [←he,hc.1];exact hl)
 rwa [show decide (c=e)=true by simpa using he] at h
end Go.Proofs.YtcchjofjpflbhaaGreatDoor.Rg

namespace Go.Proofs.YtcchjofjpflbhaaGreatDoor.Ch
open Go.RowKit Go.Shelf Go.Proofs.YtcchjofjpflbhaaGreatDoor.C Go.Proofs.YtcchjofjpflbhaaGreatDoor.E Go.Proofs.YtcchjofjpflbhaaGreatDoor.Rg

section
variable {P Q:Nat} {A B R D:Int→UInt8} {a b:Int}
end
/- The columns that EVENODD makes,byte by byte. -/
section
variable {P Q n:Nat} {css:List (List (List UInt8))}
end
/- Two columns put upon one another. -/
section
variable {P Q n:Nat} {c e:List (List UInt8)}
end
end Go.Proofs.YtcchjofjpflbhaaGreatDoor.Ch

namespace Go.Proofs.YtcchjofjpflbhaaGreatDoor.Ch
open Go.RowKit Go.Shelf Go.Proofs.YtcchjofjpflbhaaGreatDoor.C Go.Proofs.YtcchjofjpflbhaaGreatDoor.E
attribute [local go_sem] Oper.semAt_some

end Go.Proofs.YtcchjofjpflbhaaGreatDoor.Ch

namespace Go.Proofs.YtcchjofjpflbhaaGreatDoor.Ch
open Go.RowKit Go.Shelf Go.Proofs.YtcchjofjpflbhaaGreatDoor.C Go.Proofs.YtcchjofjpflbhaaGreatDoor.E
attribute [local go_sem] Oper.semAt_some

section
variable {P Q n:Nat}
end
section
variable {P Q n:Nat}
end
end Go.Proofs.YtcchjofjpflbhaaGreatDoor.Ch

set_option linter.unusedVariables false
set_option linter.unusedSimpArgs false
set_option maxRecDepth 100000
set_option maxHeartbeats 4000000
namespace Go.Proofs.YtcchjofjpflbhaaGreatDoor.Ch
open Go.RowKit Go.Shelf Go.Proofs.YtcchjofjpflbhaaGreatDoor.C Go.Proofs.YtcchjofjpflbhaaGreatDoor.E
attribute [local go_sem] Oper.semAt_some

end Go.Proofs.YtcchjofjpflbhaaGreatDoor.Ch

namespace Go.Proofs.YtcchjofjpflbhaaGreatDoor.Ch
open Go.RowKit Go.Shelf Go.Proofs.YtcchjofjpflbhaaGreatDoor.C Go.Proofs.YtcchjofjpflbhaaGreatDoor.E Go.Proofs.YtcchjofjpflbhaaGreatDoor.T
attribute [local go_sem] Oper.semAt_some

section
variable {F:Fence} {n:Nat} {P:Program} {md:Region.Mode} {ops:Array Oper} {Q:Exit→Act→World→Prop} {S:World→Prop} {m:Nat}
end
end Go.Proofs.YtcchjofjpflbhaaGreatDoor.Ch

namespace Go.Proofs.YtcchjofjpflbhaaGreatDoor.T
open Go.RowKit Go.Shelf Go.Maps Go.Proofs.YtcchjofjpflbhaaGreatDoor.C Go.Proofs.YtcchjofjpflbhaaGreatDoor.E Go.Proofs.YtcchjofjpflbhaaGreatDoor.Ch
attribute [local go_sem] Oper.semAt_some

end Go.Proofs.YtcchjofjpflbhaaGreatDoor.T

namespace Go.Proofs.YtcchjofjpflbhaaGreatDoor.T
open Go.RowKit Go.Shelf Go.Maps Go.Proofs.YtcchjofjpflbhaaGreatDoor.C Go.Proofs.YtcchjofjpflbhaaGreatDoor.E Go.Proofs.YtcchjofjpflbhaaGreatDoor.Ch
attribute [local go_sem] Oper.semAt_some

end Go.Proofs.YtcchjofjpflbhaaGreatDoor.T

namespace Go.Proofs.YtcchjofjpflbhaaGreatDoor.T
open Go.RowKit Go.Shelf Go.Maps Go.Proofs.YtcchjofjpflbhaaGreatDoor.C Go.Proofs.YtcchjofjpflbhaaGreatDoor.E Go.Proofs.YtcchjofjpflbhaaGreatDoor.Ch
attribute [local go_sem] Oper.semAt_some

end Go.Proofs.YtcchjofjpflbhaaGreatDoor.T

namespace Go.Proofs.YtcchjofjpflbhaaGreatDoor.Ch
open Go.RowKit Go.Shelf Go.Proofs.YtcchjofjpflbhaaGreatDoor.C Go.Proofs.YtcchjofjpflbhaaGreatDoor.E Go.Proofs.YtcchjofjpflbhaaGreatDoor.Rg Go.Proofs.YtcchjofjpflbhaaGreatDoor.T

section
variable {P Q n:Nat} {R D A B:List (List UInt8)} {a b:Int}
end
end Go.Proofs.YtcchjofjpflbhaaGreatDoor.Ch

namespace Go.Proofs.YtcchjofjpflbhaaGreatDoor.Rg
open Go.RowKit Go.Shelf Go.Maps Go.Proofs.YtcchjofjpflbhaaGreatDoor.C Go.Proofs.YtcchjofjpflbhaaGreatDoor.E
attribute [local go_sem] Oper.semAt_some

theorem RowG.empty {α:Type} (r:Rep α) (t:TypeId) (d:α) (Q:Nat→Prop) {W:World} {base g:Nat} (hg:Blk W g t #[]) (hb:base≤g):RowG r t d Q W base (.slice (some ⟨g,0,none⟩) 0 0) [] :=
 ⟨[],⟨rfl,.inr ⟨g,0,#[],rfl,hb,hg,Nat.le_refl _,by unfold maxLen;omega,rfl,rfl⟩⟩,rfl,fun j y hy=>by cases hy⟩
section
open Go.Proofs.YtcchjofjpflbhaaGreatDoor.E
end
end Go.Proofs.YtcchjofjpflbhaaGreatDoor.Rg

namespace Go.Proofs.YtcchjofjpflbhaaGreatDoor.Ch
open Go.RowKit Go.Shelf Go.Proofs.YtcchjofjpflbhaaGreatDoor.C Go.Proofs.YtcchjofjpflbhaaGreatDoor.E Go.Proofs.YtcchjofjpflbhaaGreatDoor.Rg

section
variable {P Q n:Nat} {css:List (List (List UInt8))} {fr:List (List UInt8)} {L:List Int} {f:Int}
end
section
variable {P Q n:Nat} {css:List (List (List UInt8))} {L:List Int}
end
section
variable {P Q n:Nat} {R D:List (List UInt8)} {a b:Int}
end
/- What is put upon one another solves what is put upon one another. -/
section
variable {P Q n:Nat} {R D A B R' D' A' B':List (List UInt8)} {a b:Int}
end
/- Sums of which some lack. -/
/- Of what EVENODD made two columns,or one,are lost. -/
section
variable {P Q n:Nat} {css cs2:List (List (List UInt8))}
variable {L:List Int}
end
end Go.Proofs.YtcchjofjpflbhaaGreatDoor.Ch

namespace Go.Proofs.YtcchjofjpflbhaaGreatDoor.Pr
open Go.RowKit Go.Shelf Go.Proofs.YtcchjofjpflbhaaGreatDoor.C Go.Proofs.YtcchjofjpflbhaaGreatDoor.E

theorem idle_C (p:Addr) (w:World) :
 CallsD Tryz.prog 126 #[.pointer (some p)] .returning w fun e u' w'=>e = .returned (.tuple #[])∧u' = .returning∧w'=w:=by
 have hta:=assert_errnoX
 refine callsD_of_wpS Tryz.func126 rfl fun c₀ cs hu=>?_
 simp only [Tryz.ntmps126,List.size_toArray,List.length_cons,List.length_nil,Nat.reduceAdd,Nat.reduceSub,Array.replicate_succ,Array.replicate_zero,List.push_toArray,List.append_toArray,List.nil_append,List.cons_append]
 apply wpS_seq
 apply wpS_region
 simp [wpOpsS,go_sem,recoverD,hu,Exit.thenS]
 all_goals (refine wpS_of_wp ?_;go_wp2;cases c₀;simp_all [bodyPostS,results,Tryz.results126])
theorem ans_C_yes (f:Nat) (caps:Array Value) (w:World) (Post:Value→World→Prop) (hent:∀ W,(callFunc f caps).run Tryz.prog W = .ok (.enter f caps) W)
 (h:∀ W,Below w.heap.size w W→Blk W w.heap.size 34 #[.int .i64 0]→Calls Tryz.prog f caps W fun e w'=>∃ v,e = .returned v∧Post v w'∧Below W.heap.size W w') :
 Calls Tryz.prog 70 #[.func (.func f) #[] caps] w fun e w'=>∃ v W,e = .returned (.tuple #[v,.int .i64 0])∧Post v W∧Blk W w.heap.size 34 #[.int .i64 0]∧w'=W.setCell ⟨w.heap.size,0,none⟩ (.int .i64 0)∧Below w.heap.size w w':=by
 have hmf:∀ (fn:Fn) (first cap:Array Value) (w:World),(Instr.makeFunc fn first cap).run Tryz.prog w = .ok (.func fn first cap) w:=fun _ _ _ _=>rfl
 have h1:=h (w.alloc (.cells #[.int .i64 0] 34)) ((Below.refl _ w).alloc (Nat.le_refl _) _) (Blk.new w _ _)
 clear h
 go_enter_defers Tryz.func70,Tryz.ntmps70
 go_wp2
 refine h1.mono ?_
 rintro e w1 ⟨v,rfl,hv,hB1⟩
 have b1:Blk w1 w.heap.size 34 #[.int .i64 0]:=(Blk.new w _ _).below hB1 (by simp)
 have c1:=b1.cell 0
 have f1:=b1.frozen 0
 simp only [List.getElem?_toArray,List.getElem?_cons_zero] at c1
 go_wp2
 refine leaves_cons (f:=126) (args:=#[.pointer (some ⟨w.heap.size,0,none⟩)]) (by simp) (by simp [go_sem]) ?_
 refine (idle_C ⟨w.heap.size,0,none⟩ _).mono ?_
 rintro e u' w'' ⟨rfl,rfl,rfl⟩
 have c2:(w1.setCell ⟨w.heap.size,0,none⟩ (.int .i64 0)).cell? ⟨w.heap.size,0,none⟩=some (.int .i64 0):=World.cell?_setCell_same' _ _ _ (by rw [c1];rfl)
 simp [Go.Leaves,settle,results,Tryz.results70,go_sem,c2]
 exact ⟨w1,hv,b1,rfl,(((Below.refl _ w).alloc (Nat.le_refl _) _).trans (hB1.mono (by simp))).setCell (Nat.le_refl _) _⟩
end Go.Proofs.YtcchjofjpflbhaaGreatDoor.Pr

namespace Go.Proofs.YtcchjofjpflbhaaGreatDoor.Pr
open Go.RowKit Go.Shelf Go.Proofs.YtcchjofjpflbhaaGreatDoor.C Go.Proofs.YtcchjofjpflbhaaGreatDoor.E
attribute [local go_sem] Oper.semAt_some

end Go.Proofs.YtcchjofjpflbhaaGreatDoor.Pr

namespace Go.Proofs.YtcchjofjpflbhaaGreatDoor.Pr
open Go.RowKit Go.Shelf Go.Proofs.YtcchjofjpflbhaaGreatDoor.C Go.Proofs.YtcchjofjpflbhaaGreatDoor.E
attribute [local go_sem] Oper.semAt_some

end Go.Proofs.YtcchjofjpflbhaaGreatDoor.Pr

namespace Go.Proofs.YtcchjofjpflbhaaGreatDoor.Pr
open Go.RowKit Go.Shelf Go.Proofs.YtcchjofjpflbhaaGreatDoor.C Go.Proofs.YtcchjofjpflbhaaGreatDoor.E
attribute [local go_sem] Oper.semAt_some

end Go.Proofs.YtcchjofjpflbhaaGreatDoor.Pr

set_option linter.unusedVariables false
set_option linter.unusedSimpArgs false
set_option maxRecDepth 100000
set_option maxHeartbeats 4000000
namespace Go.Proofs.YtcchjofjpflbhaaGreatDoor.T
open Go.RowKit Go.Shelf Go.Maps Go.Proofs.YtcchjofjpflbhaaGreatDoor.C Go.Proofs.YtcchjofjpflbhaaGreatDoor.E Go.Proofs.YtcchjofjpflbhaaGreatDoor.Pr
attribute [local go_sem] Oper.semAt_some

end Go.Proofs.YtcchjofjpflbhaaGreatDoor.T

namespace Go.Proofs.YtcchjofjpflbhaaGreatDoor.T
open Go.RowKit Go.Shelf Go.Maps Go.Proofs.YtcchjofjpflbhaaGreatDoor.C Go.Proofs.YtcchjofjpflbhaaGreatDoor.E Go.Proofs.YtcchjofjpflbhaaGreatDoor.Ch
attribute [local go_sem] Oper.semAt_some

end Go.Proofs.YtcchjofjpflbhaaGreatDoor.T

namespace Go.Proofs.YtcchjofjpflbhaaGreatDoor.T
open Go.RowKit Go.Shelf Go.Maps Go.Proofs.YtcchjofjpflbhaaGreatDoor.C Go.Proofs.YtcchjofjpflbhaaGreatDoor.E Go.Proofs.YtcchjofjpflbhaaGreatDoor.Ch
attribute [local go_sem] Oper.semAt_some

end Go.Proofs.YtcchjofjpflbhaaGreatDoor.T

namespace Go.Proofs.YtcchjofjpflbhaaGreatDoor.T
open Go.RowKit Go.Shelf Go.Maps Go.Proofs.YtcchjofjpflbhaaGreatDoor.C Go.Proofs.YtcchjofjpflbhaaGreatDoor.E Go.Proofs.YtcchjofjpflbhaaGreatDoor.Ch
attribute [local go_sem] Oper.semAt_some

end Go.Proofs.YtcchjofjpflbhaaGreatDoor.T

namespace Go.Proofs.YtcchjofjpflbhaaGreatDoor.T
open Go.RowKit Go.Shelf Go.Maps Go.Proofs.YtcchjofjpflbhaaGreatDoor.C Go.Proofs.YtcchjofjpflbhaaGreatDoor.E Go.Proofs.YtcchjofjpflbhaaGreatDoor.Ch
attribute [local go_sem] Oper.semAt_some

end Go.Proofs.YtcchjofjpflbhaaGreatDoor.T

namespace Go.Proofs.YtcchjofjpflbhaaGreatDoor.Ch
open Go.RowKit Go.Shelf Go.Proofs.YtcchjofjpflbhaaGreatDoor.C Go.Proofs.YtcchjofjpflbhaaGreatDoor.E Go.Proofs.YtcchjofjpflbhaaGreatDoor.Rg Go.Proofs.YtcchjofjpflbhaaGreatDoor.T

section
variable {P Q n:Nat} {css:List (List (List UInt8))} {L:List Int}
end
section
variable {P Q n:Nat} {c:List (List UInt8)}
end
section
variable {P Q n:Nat} {css:List (List (List UInt8))} {A B:List (List UInt8)} {a b:Int} {L:List Int}
end
/- Along an arm. -/
section
variable {P Q n:Nat} {R D A B:List (List UInt8)} {x y:Int}
end
end Go.Proofs.YtcchjofjpflbhaaGreatDoor.Ch

namespace Go.Proofs.YtcchjofjpflbhaaGreatDoor.E
open Go.RowKit Go.Shelf Go.Proofs.YtcchjofjpflbhaaGreatDoor.C

end Go.Proofs.YtcchjofjpflbhaaGreatDoor.E

namespace Go.Proofs.YtcchjofjpflbhaaGreatDoor.E
open Go.RowKit Go.Shelf Go.Proofs.YtcchjofjpflbhaaGreatDoor.C

section
variable {Q:Nat→Prop} {base:Nat} {v:Value}
end
end Go.Proofs.YtcchjofjpflbhaaGreatDoor.E

namespace Go.Proofs.YtcchjofjpflbhaaGreatDoor.E
open Go.RowKit Go.Shelf Go.Proofs.YtcchjofjpflbhaaGreatDoor.C

section
variable {p:Int} {a b css:List (List (List UInt8))}
theorem cell_put (c r:Nat) (hc:c<a.length) (hr:r<(a[c]?.getD []).length):cellOf_ (putOf a b) c r=xorB (cellOf_ a c r) (cellOf_ b c r):=by
 unfold cellOf_ putOf
 rw [List.getElem?_map,List.getElem?_range hc]
 show (putCol (a[c]?.getD []) (b[c]?.getD []))[r]?.getD [] = _
 unfold putCol
 rw [List.getElem?_map,List.getElem?_range hr]
 rfl
theorem putCol_len (xs ys:List (List UInt8)):(putCol xs ys).length=xs.length:=by unfold putCol;rw [List.length_map,List.length_range]
end
end Go.Proofs.YtcchjofjpflbhaaGreatDoor.E

namespace Go.Proofs.YtcchjofjpflbhaaGreatDoor.Ch
open Go.RowKit Go.Shelf Go.Proofs.YtcchjofjpflbhaaGreatDoor.C Go.Proofs.YtcchjofjpflbhaaGreatDoor.E Go.Proofs.YtcchjofjpflbhaaGreatDoor.T

section
variable {P Q n:Nat} {x y:List (List (List UInt8))} {L:List Int}
end
end Go.Proofs.YtcchjofjpflbhaaGreatDoor.Ch

namespace Go.Proofs.YtcchjofjpflbhaaGreatDoor
open Go.RowKit Go.Shelf

end Go.Proofs.YtcchjofjpflbhaaGreatDoor

namespace Go.Proofs.YtcchjofjpflbhaaGreatDoor
open Go.RowKit Go.Shelf

theorem spanL_len (a b:Int):(spanL a b).length=(b - a).toNat:=by unfold spanL;simp

end Go.Proofs.YtcchjofjpflbhaaGreatDoor

namespace Go.Proofs.YtcchjofjpflbhaaGreatDoor
open Go.RowKit Go.Shelf

instance (k p x y:Int):Decidable (HasCell k p x y):=by unfold HasCell;infer_instance
end Go.Proofs.YtcchjofjpflbhaaGreatDoor

namespace Go.Proofs.YtcchjofjpflbhaaGreatDoor
open Go.RowKit Go.Shelf

end Go.Proofs.YtcchjofjpflbhaaGreatDoor

namespace Go.Proofs.YtcchjofjpflbhaaGreatDoor
open Go.RowKit Go.Shelf Go.Maps

end Go.Proofs.YtcchjofjpflbhaaGreatDoor

set_option linter.unusedVariables false
set_option linter.unusedSimpArgs false
set_option maxRecDepth 100000
set_option maxHeartbeats 4000000
namespace Go.Proofs.YtcchjofjpflbhaaGreatDoor
open Go.RowKit Go.Shelf
attribute [local go_sem] Oper.semAt_some

end Go.Proofs.YtcchjofjpflbhaaGreatDoor

namespace Go.Proofs.YtcchjofjpflbhaaGreatDoor
open Go.RowKit Go.Shelf
attribute [local go_sem] Oper.semAt_some

section
variable {B lo mm:Nat} {X Y Z:World} {o o':Option Nat}
end
theorem flatC_len (p:Int) (hp:p∈prm) (cs:List Int):(flatC p cs).length≤16 * cs.length:=by
 have hl:=(rows_walk p hp).2.1
 have hb:=prm_bounds hp
 have h16:(rowsL p).length≤16:=by omega
 unfold flatC
 induction cs with
 | nil=>simp
 | cons x cs ih=>rw [List.flatMap_cons,List.length_append,List.length_map,List.length_cons];omega

end Go.Proofs.YtcchjofjpflbhaaGreatDoor

namespace Go.Proofs.YtcchjofjpflbhaaGreatDoor
open Go.RowKit Go.Shelf
attribute [local go_sem] Oper.semAt_some

end Go.Proofs.YtcchjofjpflbhaaGreatDoor

namespace Go.Proofs.YtcchjofjpflbhaaGreatDoor
open Go.RowKit Go.Shelf
attribute [local go_sem] Oper.semAt_some

end Go.Proofs.YtcchjofjpflbhaaGreatDoor

namespace Go.Proofs.YtcchjofjpflbhaaGreatDoor
open Go.RowKit Go.Shelf

theorem spanL_mem {a b x:Int} (h:x∈spanL a b):a≤x∧x<b:=by
 unfold spanL at h
 obtain ⟨i,hi,rfl⟩:=List.mem_map.1 h
 have:=List.mem_range.1 hi
 omega

end Go.Proofs.YtcchjofjpflbhaaGreatDoor

namespace Go.Proofs.YtcchjofjpflbhaaGreatDoor
open Go.RowKit Go.Shelf

end Go.Proofs.YtcchjofjpflbhaaGreatDoor

namespace Go.Proofs.YtcchjofjpflbhaaGreatDoor
open Go.RowKit Go.Shelf

theorem memL_len {k p mx my:Int} (hR:RightC k p) (hc:HasCell k p mx my):(memL k p mx my).length≤1000:=by
 obtain ⟨p1,p2,s1,s2,m1,m2⟩:=hR.und
 have h1:=List.length_filter_le (fun x:Int×Int=>memB k p mx my x.1 x.2) (flatC p (spanL 0 mx))
 have h2:=flatC_len p hR.2 (spanL 0 mx)
 rw [spanL_len] at h2
 have h3:=hc.1.2
 unfold memL
 omega
end Go.Proofs.YtcchjofjpflbhaaGreatDoor

namespace Go.Proofs.YtcchjofjpflbhaaGreatDoor
open Go.RowKit Go.Shelf
attribute [local go_sem] Oper.semAt_some

end Go.Proofs.YtcchjofjpflbhaaGreatDoor

namespace Go.Proofs.YtcchjofjpflbhaaGreatDoor
open Go.RowKit Go.Shelf

theorem flatC_mem' {p:Int} {cs:List Int} {z:Int×Int} (h:z∈flatC p cs):z.1∈cs∧0≤z.2∧z.2<p - 1:=by
 obtain ⟨x,hx,h⟩:=List.mem_flatMap.1 h
 obtain ⟨y,hy,rfl⟩:=List.mem_map.1 h
 unfold rowsL at hy
 obtain ⟨i,hi,rfl⟩:=List.mem_map.1 hy
 have:=List.mem_range.1 hi
 exact ⟨hx,by simp only;omega,by simp only;omega⟩
theorem flatC_append (p:Int) (a b:List Int):flatC p (a ++ b)=flatC p a ++ flatC p b:=by unfold flatC;rw [List.flatMap_append]
theorem spanL_split (a b c:Int) (h1:a≤b) (h2:b≤c):spanL a c=spanL a b ++ spanL b c:=by
 unfold spanL
 rw [show (c - a).toNat=(b - a).toNat+(c - b).toNat by omega,List.range_add,List.map_append,List.map_map]
 congr 1
 apply List.map_congr_left
 intro i _
 simp only [Function.comp]
 omega
theorem memB_data {k p mx my x y:Int} (hR:RightC k p) (h:memB k p mx my x y=true) (hm:p - shortN k≤mx):x<mx:=by
 obtain ⟨p1,p2,s1,s2,m1,m2⟩:=hR.und
 unfold memB wayB at h
 split at h
 · have:=(of_decide_eq_true h).1;omega
 · rename_i hr
   have:mx≠p - shortN k:=fun e=>hr (by rw [e];exact if_pos rfl)
   split at h
   · unfold onDg at h
     split at h
     · have:=(of_decide_eq_true h).1;omega
     · have:=(of_decide_eq_true h).1;omega
   · have:=(of_decide_eq_true h).1;omega
theorem memL_all {k p mx my:Int} (hR:RightC k p) (hc:HasCell k p mx my) (hm:p - shortN k≤mx):(flatC p (spanL 0 (p - shortN k+madeN k))).filter (fun x=>memB k p mx my x.1 x.2)=memL k p mx my:=by
 obtain ⟨⟨h1,h2⟩,_⟩:=hc
 rw [spanL_split 0 mx _ h1 (by omega),flatC_append,List.filter_append]
 have:(flatC p (spanL mx (p - shortN k+madeN k))).filter (fun x=>memB k p mx my x.1 x.2) = []:=by
  rw [List.filter_eq_nil_iff]
  intro z hz hb
  have h3:=spanL_mem (flatC_mem' hz).1
  have:=memB_data hR hb hm
  omega
 rw [this,List.append_nil]
 rfl
end Go.Proofs.YtcchjofjpflbhaaGreatDoor

namespace Go.Proofs.YtcchjofjpflbhaaGreatDoor
open Go.RowKit Go.Shelf

theorem grid_row (c:Int) (R j:Nat):grid c R (j+1) 0=grid c R j R:=by
 unfold grid
 rw [List.range_succ,List.flatMap_append]
 simp
theorem grid_one (c:Int) (R j n:Nat):grid c R j (n+1)=grid c R j n ++ [(c+(j:Int),(n:Int))]:=by
 unfold grid
 rw [List.range_succ,List.map_append,List.append_assoc]
 rfl
theorem grid_flat (a b p:Int):grid a (p - 1).toNat (b - a).toNat 0=flatC p (spanL a b):=by
 unfold grid flatC spanL rowsL
 rw [List.flatMap_map]
 simp
 rfl
theorem grid_len (c:Int) (R j n:Nat) (hR:R≤16) (hj:j≤20) (hn:n≤R):(grid c R j n).length≤500:=by
 unfold grid
 rw [List.length_append,List.length_flatMap,List.length_map,List.length_range]
 have e:((List.range j).map fun (i:Nat)=>((List.range R).map fun (r:Nat)=>(c+(i:Int),(r:Int))).length)=(List.range j).map fun _=>R:=by
  apply List.map_congr_left
  intro i _
  simp
 rw [e,List.map_const',List.sum_replicate_nat,List.length_range]
 have:=Nat.mul_le_mul hj hR
 omega

end Go.Proofs.YtcchjofjpflbhaaGreatDoor

namespace Go.Proofs.YtcchjofjpflbhaaGreatDoor
open Go.RowKit Go.Shelf
attribute [local go_sem] Oper.semAt_some

def refB (k p my y r o dg sl:Int):Bool :=
 if r=2 then o == 1 && y == my else if r=3∧k=2 then (o == 1 || o == 2) && dg == my else if r=3 then o == 1 && (dg == my || dg == p - 1) else o == 1 && (sl == my || sl == p - 1)
theorem refB_mem {k p mx my x y:Int} (hR:RightC k p) (hc:HasCell k p mx my) (hm:p - shortN k≤mx) (hx:HasCell k p x y):refB k p my y (rroleN (p - shortN k) mx) (rroleN (p - shortN k) x) ((x+y) % p) ((y - x) % p)=memB k p mx my x y:=by
 have hu:=hR.und
 obtain ⟨p1,p2,s1,s2,m1,m2⟩:=hu
 have e1:=role_eq (x:=mx) ⟨hc.1.1,hc.1.2⟩ hR.und
 have e2:(rroleN (p - shortN k) x=1↔x<p - shortN k):=by unfold rroleN;split <;> omega
 have e3:(rroleN (p - shortN k) x=2↔x=p - shortN k):=by unfold rroleN;split <;> omega
 unfold memB wayB inRw onDg onSl dgN2 slN2
 rw [if_pos hx,if_pos hx,e1]
 unfold refB
 generalize rroleN (p - shortN k) mx=r at *
 generalize rroleN (p - shortN k) x=o at *
 generalize (x+y) % p=dg
 generalize (y - x) % p=sl
 generalize p - shortN k=d at *
 by_cases h2:r=2
 · rw [if_pos h2,if_pos h2,Bool.eq_iff_iff]
   simp [e2]
 · rw [if_neg h2,if_neg h2]
   by_cases h3:r=3
   · rw [if_pos h3]
     by_cases hk:k=2
     · rw [if_pos ⟨h3,hk⟩,if_pos hk,Bool.eq_iff_iff]
       simp [e2,e3,h3]
     · rw [if_neg (fun h=>hk h.2),if_pos h3,if_neg hk,Bool.eq_iff_iff]
       simp [e2]
   · rw [if_neg (fun h=>h3 h.1),if_neg h3,if_neg h3,Bool.eq_iff_iff]
     simp [e2]

theorem member_walk (k p mx my x y r o dg sl:Int) (hb:-100≤p∧p≤100) (hRo:∀ W,Calls Tryz.prog 180 #[.agg #[.int .i64 k,.int .i64 p],.int .i64 mx] W fun e w'=>e = .returned (.int .i64 r)∧Below W.heap.size W w')
 (hOf:∀ W,Calls Tryz.prog 180 #[.agg #[.int .i64 k,.int .i64 p],.int .i64 x] W fun e w'=>e = .returned (.int .i64 o)∧Below W.heap.size W w')
 (hDg:∀ W,Calls Tryz.prog 181 #[.agg #[.int .i64 k,.int .i64 p],.agg #[.int .i64 x,.int .i64 y]] W fun e w'=>e = .returned (.int .i64 dg)∧Below W.heap.size W w')
 (hSl:∀ W,Calls Tryz.prog 182 #[.agg #[.int .i64 k,.int .i64 p],.agg #[.int .i64 x,.int .i64 y]] W fun e w'=>e = .returned (.int .i64 sl)∧Below W.heap.size W w') (w:World) :
 Calls Tryz.prog 128 #[.agg #[.int .i64 k,.int .i64 p],.agg #[.int .i64 mx,.int .i64 my],.agg #[.int .i64 x,.int .i64 y]] w fun e w'=>e = .returned (.bool (refB k p my y r o dg sl))∧Below w.heap.size w w':=by
 have HRo:=Lib.hid hRo
 have HOf:=Lib.hid hOf
 have HDg:=Lib.hid hDg
 have HSl:=Lib.hid hSl
 clear hRo hOf hDg hSl
 obtain ⟨W0,hW0⟩:∃ W0,((w.alloc (.cells #[.int .i64 k,.int .i64 p] 61)).alloc (.cells #[.int .i64 mx,.int .i64 my] 31)).alloc (.cells #[.int .i64 x,.int .i64 y] 31)=W0:=⟨_,rfl⟩
 have b0:Blk W0 w.heap.size 61 #[.int .i64 k,.int .i64 p]:=by rw [←hW0];exact ((Blk.new w _ _).alloc _).alloc _
 have b1:Blk W0 (w.heap.size+1) 31 #[.int .i64 mx,.int .i64 my]:=by rw [←hW0];exact (Blk.second w _ _ _).alloc _
 have b2:Blk W0 (w.heap.size+1+1) 31 #[.int .i64 x,.int .i64 y]:=by
  rw [←hW0]
  have:=Blk.new ((w.alloc (.cells #[.int .i64 k,.int .i64 p] 61)).alloc (.cells #[.int .i64 mx,.int .i64 my] 31)) 31 #[.int .i64 x,.int .i64 y]
  rwa [World.size_alloc,World.size_alloc] at this
 have hB:Below w.heap.size w W0:=by rw [←hW0];exact (below_two w _ _).alloc (by simp;omega) _
 have c0:=b0.cell 0
 have c1:=b0.cell 1
 have a0:=b1.cell 0
 have a1:=b1.cell 1
 have z0:=b2.cell 0
 have z1:=b2.cell 1
 simp only [gz9] at c0 c1 a0 a1 z0 z1
 refine (callsIn_wide (n:=12)).1 ?_
 refine callsIn_of_wp_marks Tryz.func128 rfl trivial ?_ rfl
 simp only [Tryz.ntmps128,List.size_toArray,List.length_cons,List.length_nil,Nat.reduceAdd,Nat.reduceSub,Array.replicate_succ,Array.replicate_zero,List.push_toArray,List.append_toArray,List.nil_append,List.cons_append]
 gi_wp2_with fail
 clear hW0
 have hS:(fun V:World=>V.cell? ⟨w.heap.size,0,none⟩=some (.int .i64 k)∧V.cell? ⟨w.heap.size,1,none⟩=some (.int .i64 p)∧V.cell? ⟨w.heap.size+1,0,none⟩=some (.int .i64 mx)∧V.cell? ⟨w.heap.size+1,1,none⟩=some (.int .i64 my)∧V.cell? ⟨w.heap.size+1+1,0,none⟩=some (.int .i64 x)∧V.cell? ⟨w.heap.size+1+1,1,none⟩=some (.int .i64 y)) _:=⟨c0,c1,a0,a1,z0,z1⟩
 refine wpIn_mono (region_HF (Q:=NoPanic _) (S:=(fun V:World=>V.cell? ⟨w.heap.size,0,none⟩=some (.int .i64 k)∧V.cell? ⟨w.heap.size,1,none⟩=some (.int .i64 p)∧V.cell? ⟨w.heap.size+1,0,none⟩=some (.int .i64 mx)∧V.cell? ⟨w.heap.size+1,1,none⟩=some (.int .i64 my)∧V.cell? ⟨w.heap.size+1+1,0,none⟩=some (.int .i64 x)∧V.cell? ⟨w.heap.size+1+1,1,none⟩=some (.int .i64 y))) (by kernel_rfl) ?_) NoPanic.imp
 refine tkF (i:=0) (d:=11) (v:=.agg #[.int .i64 k,.int .i64 p]) (s:=hS) (c:=?_)
 simp only [ud9]
 refine tkF (i:=1) (d:=12) (v:=.pointer (some ⟨w.heap.size+1,0,none⟩)) (s:=hS) (c:=?_)
 simp only [ud9]
 refine tkF (i:=2) (d:=13) (v:=.int .i64 mx) (s:=hS) (c:=?_)
 simp only [ud9]
 refine tkF (i:=4) (d:=15) (v:=.agg #[.int .i64 k,.int .i64 p]) (s:=hS) (c:=?_)
 simp only [ud9]
 refine tkF (i:=5) (d:=16) (v:=.pointer (some ⟨w.heap.size+1+1,0,none⟩)) (s:=hS) (c:=?_)
 simp only [ud9]
 refine tkF (i:=6) (d:=17) (v:=.int .i64 x) (s:=hS) (c:=?_)
 simp only [ud9]
 refine oneF (i:=3) (c:=?_)
 gi_wp2_with fail
 refine ⟨trivial,(callsIn_wide.2 (HRo.out _)).mono ?_⟩
 rintro e w1 ⟨rfl,hB1⟩
 replace hB1:=below_undrew hB1
 replace b0:=b0.below hB1 b0.lt
 replace b1:=b1.below hB1 b1.lt
 replace b2:=b2.below hB1 b2.lt
 replace hB:=below_in hB hB1
 clear c0 c1 a0 a1 z0 z1
 have c0:=b0.cell 0
 have c1:=b0.cell 1
 have a0:=b1.cell 0
 have a1:=b1.cell 1
 have z0:=b2.cell 0
 have z1:=b2.cell 1
 simp only [gz9] at c0 c1 a0 a1 z0 z1
 clear hS
 gi_wp2
 refine oneF (i:=7) (c:=?_)
 gi_wp2_with fail
 refine ⟨trivial,(callsIn_wide.2 (HOf.out _)).mono ?_⟩
 rintro e w1 ⟨rfl,hB1⟩
 replace b0:=b0.below hB1 b0.lt
 replace b1:=b1.below hB1 b1.lt
 replace b2:=b2.below hB1 b2.lt
 replace hB:=below_in hB hB1
 clear c0 c1 a0 a1 z0 z1
 have c0:=b0.cell 0
 have c1:=b0.cell 1
 have a0:=b1.cell 0
 have a1:=b1.cell 1
 have z0:=b2.cell 0
 have z1:=b2.cell 1
 simp only [gz9] at c0 c1 a0 a1 z0 z1
 gi_wp2
 refine oneF (i:=8) (c:=?_)
 gi_wp2
 refine oneF (i:=9) (c:=?_)
 gi_wp2
 refine anyHF_done (by kernel_rfl) ?_ _
 refine NoPanic.normal ?_
 gi_wp2_with fail
 have hS:(fun V:World=>V.cell? ⟨w.heap.size,0,none⟩=some (.int .i64 k)∧V.cell? ⟨w.heap.size,1,none⟩=some (.int .i64 p)∧V.cell? ⟨w.heap.size+1,0,none⟩=some (.int .i64 mx)∧V.cell? ⟨w.heap.size+1,1,none⟩=some (.int .i64 my)∧V.cell? ⟨w.heap.size+1+1,0,none⟩=some (.int .i64 x)∧V.cell? ⟨w.heap.size+1+1,1,none⟩=some (.int .i64 y)) _:=⟨c0,c1,a0,a1,z0,z1⟩
 refine wpIn_mono (region_HF (Q:=NoPanic _) (S:=(fun V:World=>V.cell? ⟨w.heap.size,0,none⟩=some (.int .i64 k)∧V.cell? ⟨w.heap.size,1,none⟩=some (.int .i64 p)∧V.cell? ⟨w.heap.size+1,0,none⟩=some (.int .i64 mx)∧V.cell? ⟨w.heap.size+1,1,none⟩=some (.int .i64 my)∧V.cell? ⟨w.heap.size+1+1,0,none⟩=some (.int .i64 x)∧V.cell? ⟨w.heap.size+1+1,1,none⟩=some (.int .i64 y))) (by kernel_rfl) ?_) NoPanic.imp
 refine tkF (i:=0) (d:=19) (v:=.agg #[.int .i64 k,.int .i64 p]) (s:=hS) (c:=?_)
 simp only [ud9]
 refine tkF (i:=1) (d:=20) (v:=.agg #[.int .i64 x,.int .i64 y]) (s:=hS) (c:=?_)
 simp only [ud9]
 refine tkF (i:=3) (d:=22) (v:=.agg #[.int .i64 k,.int .i64 p]) (s:=hS) (c:=?_)
 simp only [ud9]
 refine tkF (i:=4) (d:=23) (v:=.agg #[.int .i64 x,.int .i64 y]) (s:=hS) (c:=?_)
 simp only [ud9]
 refine oneF (i:=2) (c:=?_)
 gi_wp2_with fail
 refine ⟨trivial,(callsIn_wide.2 (HDg.out _)).mono ?_⟩
 rintro e w1 ⟨rfl,hB1⟩
 replace hB1:=below_undrew hB1
 replace b0:=b0.below hB1 b0.lt
 replace b1:=b1.below hB1 b1.lt
 replace b2:=b2.below hB1 b2.lt
 replace hB:=below_in hB hB1
 clear c0 c1 a0 a1 z0 z1
 have c0:=b0.cell 0
 have c1:=b0.cell 1
 have a0:=b1.cell 0
 have a1:=b1.cell 1
 have z0:=b2.cell 0
 have z1:=b2.cell 1
 simp only [gz9] at c0 c1 a0 a1 z0 z1
 gi_wp2
 refine oneF (i:=5) (c:=?_)
 gi_wp2_with fail
 refine ⟨trivial,(callsIn_wide.2 (HSl.out _)).mono ?_⟩
 rintro e w1 ⟨rfl,hB1⟩
 replace b0:=b0.below hB1 b0.lt
 replace b1:=b1.below hB1 b1.lt
 replace b2:=b2.below hB1 b2.lt
 replace hB:=below_in hB hB1
 clear c0 c1 a0 a1 z0 z1
 have c0:=b0.cell 0
 have c1:=b0.cell 1
 have a0:=b1.cell 0
 have a1:=b1.cell 1
 have z0:=b2.cell 0
 have z1:=b2.cell 1
 simp only [gz9] at c0 c1 a0 a1 z0 z1
 gi_wp2
 refine oneF (i:=6) (c:=?_)
 gi_wp2
 refine oneF (i:=7) (c:=?_)
 gi_wp2
 refine anyHF_done (by kernel_rfl) ?_ _
 refine NoPanic.normal ?_
 clear hS HRo HOf HDg HSl
 cases hr2:((r == 2):Bool) with
 | true =>
   cases ho1:((o == 1):Bool) with
   | true =>
     cases hymy:((y == my):Bool) with
     | true =>
       gi_wp2
       exact ⟨.bool true,by simp [results,Tryz.results128,go_sem],ret_bool (by unfold refB;simp_all),hB⟩
     | false =>
       gi_wp2
       exact ⟨.bool false,by simp [results,Tryz.results128,go_sem],ret_bool (by unfold refB;simp_all),hB⟩
   | false =>
     gi_wp2
     exact ⟨.bool false,by simp [results,Tryz.results128,go_sem],ret_bool (by unfold refB;simp_all),hB⟩
 | false =>
   cases hr3:((r == 3):Bool) with
   | true =>
     cases hk2:((k == 2):Bool) with
     | true =>
       cases ho1:((o == 1):Bool) with
       | true =>
         cases hdgmy:((dg == my):Bool) with
         | true =>
           gi_wp2
           exact ⟨.bool true,by simp [results,Tryz.results128,go_sem],ret_bool (by unfold refB;simp_all),hB⟩
         | false =>
           gi_wp2
           exact ⟨.bool false,by simp [results,Tryz.results128,go_sem],ret_bool (by unfold refB;simp_all),hB⟩
       | false =>
         cases ho2:((o == 2):Bool) with
         | true =>
           cases hdgmy:((dg == my):Bool) with
           | true =>
             gi_wp2
             exact ⟨.bool true,by simp [results,Tryz.results128,go_sem],ret_bool (by unfold refB;simp_all),hB⟩
           | false =>
             gi_wp2
             exact ⟨.bool false,by simp [results,Tryz.results128,go_sem],ret_bool (by unfold refB;simp_all),hB⟩
         | false =>
           gi_wp2
           exact ⟨.bool false,by simp [results,Tryz.results128,go_sem],ret_bool (by unfold refB;simp_all),hB⟩
     | false =>
       cases ho1:((o == 1):Bool) with
       | true =>
         cases hdgmy:((dg == my):Bool) with
         | true =>
           gi_wp2
           exact ⟨.bool true,by simp [results,Tryz.results128,go_sem],ret_bool (by unfold refB;simp_all),hB⟩
         | false =>
           cases hdgp:((dg == p - 1):Bool) with
           | true =>
             gi_wp2
             exact ⟨.bool true,by simp [results,Tryz.results128,go_sem],ret_bool (by unfold refB;simp_all),hB⟩
           | false =>
             gi_wp2
             exact ⟨.bool false,by simp [results,Tryz.results128,go_sem],ret_bool (by unfold refB;simp_all),hB⟩
       | false =>
         gi_wp2
         exact ⟨.bool false,by simp [results,Tryz.results128,go_sem],ret_bool (by unfold refB;simp_all),hB⟩
   | false =>
     cases ho1:((o == 1):Bool) with
     | true =>
       cases hslmy:((sl == my):Bool) with
       | true =>
         gi_wp2
         exact ⟨.bool true,by simp [results,Tryz.results128,go_sem],ret_bool (by unfold refB;simp_all),hB⟩
       | false =>
         cases hslp:((sl == p - 1):Bool) with
         | true =>
           gi_wp2
           exact ⟨.bool true,by simp [results,Tryz.results128,go_sem],ret_bool (by unfold refB;simp_all),hB⟩
         | false =>
           gi_wp2
           exact ⟨.bool false,by simp [results,Tryz.results128,go_sem],ret_bool (by unfold refB;simp_all),hB⟩
     | false =>
       gi_wp2
       exact ⟨.bool false,by simp [results,Tryz.results128,go_sem],ret_bool (by unfold refB;simp_all),hB⟩
end Go.Proofs.YtcchjofjpflbhaaGreatDoor

set_option linter.unusedVariables false
set_option linter.unusedSimpArgs false
set_option maxRecDepth 100000
set_option maxHeartbeats 4000000
namespace Go.Proofs.YtcchjofjpflbhaaGreatDoor
open Go.RowKit Go.Shelf

theorem refMember_any (k p mx my x y:Int) (hR:RightC k p) (hc:HasCell k p mx my) (hm:p - shortN k≤mx) (hx:HasCell k p x y) (w:World) :
 Calls Tryz.prog 128 #[.agg #[.int .i64 k,.int .i64 p],.agg #[.int .i64 mx,.int .i64 my],.agg #[.int .i64 x,.int .i64 y]] w fun e w'=>e = .returned (.bool (memB k p mx my x y))∧Below w.heap.size w w':=by
 obtain ⟨p1,p2,s1,s2,m1,m2⟩:=hR.und
 have h:=member_walk k p mx my x y _ _ _ _ (by omega) (fun W=>refRole_any k p mx hR ⟨hc.1.1,by have:=hc.1.2;omega⟩ W) (fun W=>refRole_any k p x hR ⟨hx.1.1,by have:=hx.1.2;omega⟩ W)
  (fun W=>refDiagonal_any k p x y hR ⟨hx.1.1,by have:=hx.1.2;omega⟩ ⟨hx.2.1,by have:=hx.2.2;omega⟩ W) (fun W=>refSlant_any k p x y hR ⟨hx.1.1,by have:=hx.1.2;omega⟩ ⟨hx.2.1,by have:=hx.2.2;omega⟩ W) w
 rw [refB_mem hR hc hm hx] at h
 exact h

theorem refMembers_any (k p mx my:Int) (hR:RightC k p) (hc:HasCell k p mx my) (hm:p - shortN k≤mx) (w:World) :
 Calls Tryz.prog 80 #[.agg #[.int .i64 k,.int .i64 p],.agg #[.int .i64 mx,.int .i64 my]] w fun e w'=>∃ v,e = .returned v∧OwnA w' w.heap.size v (memL k p mx my)∧Below w.heap.size w w':=by
 obtain ⟨p1,p2,s1,s2,m1,m2⟩:=hR.und
 have HME:=Lib.hid (fun x y hx W=>refMember_any k p mx my x y hR hc hm hx W)
 have HCo:=Lib.hid (fun W=>refCols_any k p hR W)
 have HRw:=Lib.hid (fun W=>refRows_any k p hR W)
 have HEND:Hid ((grid 0 (p - 1).toNat (p - shortN k+madeN k).toNat 0).filter (fun z=>memB k p mx my z.1 z.2)=memL k p mx my):=by
  have:=grid_flat 0 (p - shortN k+madeN k) p
  rw [Int.sub_zero] at this
  unfold Hid
  rw [this]
  exact memL_all hR hc hm
 unfold HasCell at HME
 generalize memL k p mx my=want at *
 generalize hq:(fun z:Int×Int=>memB k p mx my z.1 z.2)=q at HEND
 have HQ:=Lib.hid (fun x y=>(congrFun hq (x,y):memB k p mx my x y=q (x,y)))
 clear hq hc hm hR
 have hcc:0≤p - shortN k+madeN k∧p - shortN k+madeN k≤20:=by omega
 generalize p - shortN k+madeN k=cc at *
 obtain ⟨C,rfl⟩:∃ C:Nat,cc=(C:Int):=⟨cc.toNat,by omega⟩
 obtain ⟨R,hRR⟩:∃ R:Nat,p - 1=(R:Int):=⟨(p - 1).toNat,by omega⟩
 rw [hRR] at HRw HME HEND
 have hR16:R≤16:=by omega
 have hC19:C≤20:=by omega
 clear hRR p1 p2 s1 s2 m1 m2 hcc
 obtain ⟨W0,hW0⟩:∃ W0,(w.alloc (.cells #[.int .i64 k,.int .i64 p] 61)).alloc (.cells #[.int .i64 mx,.int .i64 my] 31)=W0:=⟨_,rfl⟩
 have b0:Blk W0 w.heap.size 61 #[.int .i64 k,.int .i64 p]:=by rw [←hW0];exact (Blk.new w _ _).alloc _
 have b1:Blk W0 (w.heap.size+1) 31 #[.int .i64 mx,.int .i64 my]:=by rw [←hW0];exact Blk.second w _ _ _
 have hB:Below w.heap.size w W0:=by rw [←hW0];exact below_two w _ _
 go_enter Tryz.func80,Tryz.ntmps80
 go_wp2_with fail
 clear hW0
 go_loopw [5,6] (fun v i wr=>∃ j:Nat,j≤C∧i = .int .i64 j∧OwnA wr (w.heap.size+2) v ((grid 0 R j 0).filter q)∧Blk wr w.heap.size 61 #[.int .i64 k,.int .i64 p]∧Blk wr (w.heap.size+1) 31 #[.int .i64 mx,.int .i64 my]∧Below w.heap.size w wr) (fun _ i _=>C - (intOf i).toNat)
 case atStart=>exact ⟨0,by omega,rfl,ownA_nil _ _,b0,b1,hB⟩
 case round =>
  clear b0 b1 hB
  obtain ⟨j,hj,rfl,ho,b0,b1,hB⟩:=hrel
  have c0:=b0.cell 0;have c1:=b0.cell 1;have a0:=b1.cell 0;have a1:=b1.cell 1;simp only [gz9] at c0 c1 a0 a1
  by_cases hlt:j<C
  · have hdec:decide ((j:Int)<(C:Int))=true:=by simp;omega
    go_wp2_with (go_at_call 77;refine (HCo.out _).mono ?_;rintro e w1 ⟨rfl,hB1⟩;replace ho:=ho.below hB1;replace b0:=b0.below hB1 b0.lt;replace b1:=b1.below hB1 b1.lt;replace hB:=below_in hB hB1;have c0:=b0.cell 0;have c1:=b0.cell 1;have a0:=b1.cell 0;have a1:=b1.cell 1;simp only [gz9] at c0 c1 a0 a1)
    go_loopw [5,7] (fun v i wz=>∃ n:Nat,n≤R∧i = .int .i64 n∧OwnA wz (w.heap.size+2) v ((grid 0 R j n).filter q)∧Blk wz w.heap.size 61 #[.int .i64 k,.int .i64 p]∧Blk wz (w.heap.size+1) 31 #[.int .i64 mx,.int .i64 my]∧Below w.heap.size w wz) (fun _ i _=>R - (intOf i).toNat)
    case atStart=>exact ⟨0,by omega,rfl,ho,b0,b1,hB⟩
    case round =>
     clear ho b0 b1 hB c0 c1 a0 a1
     obtain ⟨n,hn,rfl,ho,b0,b1,hB⟩:=hrel
     have c0:=b0.cell 0;have c1:=b0.cell 1;have a0:=b1.cell 0;have a1:=b1.cell 1;simp only [gz9] at c0 c1 a0 a1
     by_cases hlt2:n<R
     · have hdec2:decide ((n:Int)<(R:Int))=true:=by simp;omega
       have hfl:((grid 0 R j n).filter q).length≤500:=Nat.le_trans (List.length_filter_le _ _) (grid_len 0 R j n hR16 (by omega) (by omega))
       go_wp2_with fail
       refine (HRw.out _).mono ?_
       rintro e w1 ⟨rfl,hB1⟩
       replace ho:=ho.below hB1
       replace b0:=b0.below hB1 b0.lt
       replace b1:=b1.below hB1 b1.lt
       replace hB:=below_in hB hB1
       clear hB1 c0 c1 a0 a1
       have hBx:=below_one w1 (.cells #[.int .i64 j,.int .i64 n] 31)
       have b2:=Blk.new w1 31 #[.int .i64 j,.int .i64 n]
       replace ho:=ho.below hBx
       replace b0:=b0.below hBx b0.lt
       replace b1:=b1.below hBx b1.lt
       replace hB:=below_in hB hBx
       have c0:=b0.cell 0;have c1:=b0.cell 1;have a0:=b1.cell 0;have a1:=b1.cell 1;simp only [gz9] at c0 c1 a0 a1
       have z0:=b2.cell 0;have z1:=b2.cell 1;simp only [gz9] at z0 z1
       have HM:=Lib.hid (HME.out j n ⟨⟨by omega,by omega⟩,by omega,by omega⟩)
       have hqq:=HQ.out (j:Int) (n:Int)
       rw [hqq] at HM
       clear hqq
       cases hqz:q ((j:Int),(n:Int)) with
       | false =>
         rw [hqz] at HM
         have hnx:(grid 0 R j (n+1)).filter q=(grid 0 R j n).filter q:=by rw [grid_one,List.filter_append];simp [hqz]
         generalize (grid 0 R j n).filter q=l at *
         have HN:=Lib.hid hnx
         clear hnx
         go_wp2_with (go_at_call 128;refine (HM.out _).mono ?_;rintro e w3 ⟨rfl,hB1⟩;replace ho:=ho.below hB1;replace b0:=b0.below hB1 b0.lt;replace b1:=b1.below hB1 b1.lt;replace hB:=below_in hB hB1)
         go_roundw
         case rel=>exact ⟨n+1,by omega,by go_num,by rw [HN.out];exact ho,b0,b1,hB⟩
         case measure=>simp [intOf];omega
       | true =>
         rw [hqz] at HM
         have hnx:(grid 0 R j (n+1)).filter q=(grid 0 R j n).filter q ++ [((j:Int),(n:Int))]:=by rw [grid_one,List.filter_append];simp [hqz]
         generalize (grid 0 R j n).filter q=l at *
         have HN:=Lib.hid hnx
         clear hnx
         go_wp2_with fail
         refine (HM.out _).mono ?_
         rintro e w3 ⟨rfl,hB1⟩
         replace ho:=ho.below hB1
         replace b0:=b0.below hB1 b0.lt
         replace b1:=b1.below hB1 b1.lt
         replace b2:=b2.below hB1 b2.lt
         replace hB:=below_in hB hB1
         clear c0 c1 a0 a1 z0 z1
         have z0:=b2.cell 0;have z1:=b2.cell 1;simp only [gz9] at z0 z1
         have hBy:=below_one w3 (.cells #[.int .i64 j,.int .i64 n] 31)
         have HO:=Lib.hid (ho.below hBy)
         have HU:=Lib.hid (Blk.new w3 31 #[.int .i64 j,.int .i64 n])
         replace b0:=b0.below hBy b0.lt
         replace b1:=b1.below hBy b1.lt
         replace hB:=below_in hB hBy
         have hs3:=hB.size
         have hs4:=b1.lt
         have ho4:=ho.own_le
         have hn0:=ho.ne (g:=w.heap.size) (by omega)
         have hn1:=ho.ne (g:=w.heap.size+1) (by omega)
         go_wp2_with (at_builtin;refine wpList_code _ rfl _ _ 23 31 (.agg #[.int .i64 0,.int .i64 0]) 16 rfl Tryz.underlying23 Tryz.infoAt rfl (w.heap.size+2) _ _ rfl _ HO.out _ 1 _ _ rfl HU.out (by omega) (by omega) (by omega) ?_;intro v2 w2 hown2 hgrow2)
         go_roundw
         case rel=>exact ⟨n+1,by omega,by go_num,by rw [HN.out];exact OwnA.push hown2,b0.grown hgrow2 hn0,b1.grown hgrow2 hn1,hB.grown hgrow2 hB.size (fun r e=>by have:=ho4 r e;omega)⟩
         case measure=>simp [intOf];omega
     · obtain rfl:n=R:=by omega
       have hdec2:decide ((n:Int)<(n:Int))=false:=by simp
       go_wp2_with (go_at_call 78;refine (HRw.out _).mono ?_;rintro e w1 ⟨rfl,hB1⟩;replace ho:=ho.below hB1;replace b0:=b0.below hB1 b0.lt;replace b1:=b1.below hB1 b1.lt;replace hB:=below_in hB hB1;have c0:=b0.cell 0;have c1:=b0.cell 1;have a0:=b1.cell 0;have a1:=b1.cell 1;simp only [gz9] at c0 c1 a0 a1)
       go_roundw
       case rel=>exact ⟨j+1,by omega,by go_num,by rw [grid_row];exact ho,b0,b1,hB⟩
       case measure=>simp [intOf];omega
  · obtain rfl:j=C:=by omega
    have hdec:decide ((j:Int)<(j:Int))=false:=by simp
    go_wp2_with (go_at_call 77;refine (HCo.out _).mono ?_;rintro e w1 ⟨rfl,hB1⟩;replace ho:=ho.below hB1;replace b0:=b0.below hB1 b0.lt;replace b1:=b1.below hB1 b1.lt;replace hB:=below_in hB hB1;have c0:=b0.cell 0;have c1:=b0.cell 1;have a0:=b1.cell 0;have a1:=b1.cell 1;simp only [gz9] at c0 c1 a0 a1)
    have he:=HEND.out
    simp only [Int.toNat_natCast] at he
    rw [he] at ho
    go_wp2
    go_ret
    exact ⟨_,rfl,ho.less (by omega),hB⟩
end Go.Proofs.YtcchjofjpflbhaaGreatDoor

namespace Go.Proofs.YtcchjofjpflbhaaGreatDoor.E
open Go.RowKit Go.Shelf Go.Proofs.YtcchjofjpflbhaaGreatDoor.C

def natZ (z:Int×Int):Nat×Nat:=(z.1.toNat,z.2.toNat)

theorem stepsL_len (k p:Int) (n:Nat) (css:List (List (List UInt8))):∀ m,(stepsL k p n css m).length=css.length+m
 | 0=>rfl
 | m+1=>by
   show (stepsL k p n css m ++ [_]).length = _
   rw [List.length_append,stepsL_len k p n css m]
   rfl
theorem togOk_grid {R:Nat} {css:List (List (List UInt8))} (h:TogOk R css):Grid R (firstC css).length css:=fun j hj=>⟨(h.2 j hj).1,fun i hi=>togOk_cell h hj hi⟩
theorem at_uponL {n:Nat} {css:List (List (List UInt8))} {l:List (Int×Int)} (h:∀ z∈l,(cellI css z).length=n) (j:Nat):at_ (uponL n css l) j=xa (l.map fun z=>by_ css j z.1.toNat z.2.toNat):=by
 unfold uponL
 rw [at_upon (fun x hx=>by
  obtain ⟨z,hz,rfl⟩:=List.mem_map.1 hx
  exact h z hz),List.map_map]
 rfl
theorem at_uponN {n:Nat} {css:List (List (List UInt8))} {l:List (Int×Int)} (h:∀ z∈l,(cellI css z).length=n) (j:Nat):at_ (uponL n css l) j=xa ((l.map natZ).map fun x=>by_ css j x.1 x.2):=by
 rw [at_uponL h,List.map_map]
 rfl
section
variable {p:Int} {css:List (List (List UInt8))}
end
end Go.Proofs.YtcchjofjpflbhaaGreatDoor.E

namespace Go.Proofs.YtcchjofjpflbhaaGreatDoor.E
open Go.RowKit Go.Shelf Go.Proofs.YtcchjofjpflbhaaGreatDoor.C

theorem uponL_next (n:Nat) (css:List (List (List UInt8))) (l:List (Int×Int)) {k:Nat} (hk:k<l.length):uponL n css (l.take (k+1))=xorB (uponL n css (l.take k)) (cellI css l[k]):=by
 unfold uponL
 rw [List.map_take,xors_next _ _ (by rw [List.length_map];exact hk),List.map_take,List.getElem?_map,List.getElem?_eq_getElem hk]
 rfl
theorem nought6_fresh (n:Nat) (hn:n≤1000) (w:World):Calls Tryz.prog 89 #[.int .i64 (n:Int)] w fun e w'=>∃ u,e = .returned u∧Fresh w.heap.size w' u (List.replicate n 0)∧Below w.heap.size w w':=by
 obtain ⟨i0,hi,hz0,hz1,hz2⟩:=info_parts Tryz.infoByte
 have hmk:=fun W:World=>run_make (P:=Tryz.prog) W 64 5 i0 (.int .u8 0) Tryz.underlying64 hi hz0 .i64 .i64 (n:Int) (n:Int) (by omega) (by omega) (by rw [hz2];omega) (by omega)
 simp only [hz1,Nat.mul_one,Int.toNat_natCast] at hmk
 have hR:=Row.made w n
 have hBz:=below_one w (.cells (madeCells #[.int .u8 0] n) 5)
 go_enter Tryz.func89,Tryz.ntmps89
 go_wp2
 go_ret
 exact ⟨_,rfl,Row.fresh hR (Nat.le_refl _) (by simp),hBz⟩
theorem upon6_any {B:Nat} (vs vl:Value) (css:List (List (List UInt8))) (l:List (Int×Int)) (R n:Nat) (w:World) (hB:B≤w.heap.size) (hC:Cols B w vs css) (hl:ReadA w vl l) (hg:Grid R n css) (hin:inL R css.length l) (hn:n≤1000) (hll:l.length≤1000) (hcl:css.length≤1000) (hR:R≤1000) :
 Calls Tryz.prog 79 #[vs,vl,.int .i64 (n:Int)] w fun e w'=>∃ u,e = .returned u∧Fresh w.heap.size w' u (uponL n css l)∧Below w.heap.size w w':=by
 obtain ⟨A,cap,rfl,_,_⟩:=id hC
 obtain ⟨Al,capl,rfl,hRd⟩:=hl
 have HR1:=Lib.hid hRd
 have HCC:=Lib.hid hC
 have HG:=Lib.hid hg
 have HIN:=Lib.hid hin
 obtain ⟨N,hN⟩:∃ N,l.length=N:=⟨_,rfl⟩
 obtain ⟨C,hCn⟩:∃ C,css.length=C:=⟨_,rfl⟩
 have HN:=Lib.hid hN
 have HCN:=Lib.hid hCn
 rw [hN] at hll
 rw [hCn] at hcl
 rw [hN,hCn]
 have HNO:=Lib.hid (fun (U:World)=>nought6_fresh n hn U)
 have HNX:Hid (∀ k,k<N→∀ hk:k<l.length,uponL n css (l.take (k+1))=xorB (uponL n css (l.take k)) (cellI css l[k])):=fun k _ hk=>uponL_next n css l hk
 have HE:Hid (uponL n css (l.take N)=uponL n css l):=by unfold Hid;rw [←hN,List.take_length]
 have HLN:Hid (∀ k,(uponL n css (l.take k)).length=n):=fun k=>uponL_len n css _
 clear hN hCn hC hRd hg hin
 go_enter Tryz.func79,Tryz.ntmps79
 go_wp2_with (go_at_call 89;refine (HNO.out _).mono ?_;rintro e w1 ⟨u0,rfl,hu0,hB1⟩)
 go_loopw [7,8] (fun v i wr=>∃ j:Nat,j≤N∧i = .int .i64 j∧Fresh w.heap.size wr v (uponL n css (l.take j))∧Below w.heap.size w wr) (fun _ i _=>N - (intOf i).toNat)
 case atStart=>exact ⟨0,by omega,rfl,hu0,hB1⟩
 case round =>
  clear hu0 hB1
  obtain ⟨j,hj,rfl,hu,hBr⟩:=hrel
  by_cases hlt:j<N
  · have hdec:decide ((j:Int)<(N:Int))=true:=by simp;omega
    have hjs:j<l.length:=by rw [HN.out];exact hlt
    have hnx:=HNX.out j hlt hjs
    obtain ⟨g1,rfl,hg1,x0,x1⟩:=HR1.out j hjs
    obtain ⟨hz1,hz2⟩:=HIN.out l[j] (List.getElem_mem hjs)
    have hlen:=HLN.out j
    clear HR1 HIN HNX
    generalize l[j]=z at *
    obtain ⟨zx,zy⟩:=z
    simp only at hz1 hz2 x0 x1
    rw [HCN.out] at hz1
    obtain ⟨X,rfl⟩:∃ X:Nat,zx=(X:Int):=⟨zx.toNat,by omega⟩
    obtain ⟨Y,rfl⟩:∃ Y:Nat,zy=(Y:Int):=⟨zy.toNat,by omega⟩
    have hX:X<C:=by omega
    have hY:Y<R:=by omega
    obtain ⟨b1,off1,cq1,e1,hcq,hb1,hrow1⟩:=HCC.out.at_ (by rw [HCN.out];omega)
    rw [HCN.out] at e1 hcq
    injection e1 with e1 _ e1c
    subst e1 e1c
    obtain ⟨u1,hc1,hm1⟩:=hrow1 X (by rw [HCN.out];exact hX)
    obtain ⟨hcr,hce⟩:=HG.out X (by rw [HCN.out];exact hX)
    obtain ⟨A3,cap3,rfl,_,_⟩:=id hm1
    obtain ⟨b2,off3,rfl,hb2,hrow3⟩:=many_at hm1 (by omega)
    obtain ⟨Aa,ca,hc3,hby⟩:=hrow3 Y (by omega)
    have hcl2:=hce Y hY
    rw [hcr] at hc1
    rw [hcl2] at hc3 hby
    have hcI:cellI css ((X:Int),(Y:Int))=(css[X]?.getD [])[Y]?.getD []:=rfl
    rw [hcI] at hnx
    have HJX:=Lib.hid hnx
    clear hnx
    have x0':=(hBr.cell (p:=⟨g1,j * 2,none⟩) hg1).trans x0
    have x1':=(hBr.cell (p:=⟨g1,j * 2+1,none⟩) hg1).trans x1
    have y0':=(hBr.cell (p:=⟨b1,off1+X,none⟩) (Nat.lt_of_lt_of_le hb1 hB)).trans hc1
    have y1':=(hBr.cell (p:=⟨b2,off3+Y,none⟩) (Nat.lt_of_lt_of_le hb2 hB)).trans hc3
    have HP:=Lib.hid (fun (U:World) (v:Value) (hU:Below w.heap.size w U) (hv:Bytes U.heap.size U v (uponL n css (l.take j)))=>rput_any v (.slice Aa n ca) (uponL n css (l.take j)) ((css[X]?.getD [])[Y]?.getD []) U hv ((hby.below (hU.mono hB)).more (Nat.le_trans hB hU.size)) (by omega) (by omega))
    clear hcI hce hrow1 hrow3 hm1 hby x0 x1 hc1 hc3
    generalize (css[X]?.getD [])[Y]?.getD []=xy at *
    generalize uponL n css (l.take j)=cur at *
    have i1:(0:Int)≤(j:Int):=by omega
    have i2:(j:Int)<(N:Int):=by omega
    have i3:(0:Int)≤(X:Int):=by omega
    have i4:(X:Int)<(C:Int):=by omega
    have i5:(0:Int)≤(Y:Int):=by omega
    have i6:(Y:Int)<(R:Int):=by omega
    have HHU:=Lib.hid hu.bytes
    have hBz:=hBr.size
    clear hlen hcl2 hcr hu
    go_wp2
    go_region_held3 (fun U=>U.cell? ⟨g1,j * 2,none⟩=some (.int .i64 (X:Int))∧U.cell? ⟨g1,j * 2+1,none⟩=some (.int .i64 (Y:Int))∧U.cell? ⟨b1,off1+X,none⟩=some (.slice (some ⟨b2,off3,none⟩) R cap3)∧U.cell? ⟨b2,off3+Y,none⟩=some (.slice Aa n ca))
     (first | exact ⟨x0',x1',y0',y1'⟩ | exact ⟨(hB4.cell (p:=⟨g1,j * 2,none⟩) (Nat.lt_of_lt_of_le hg1 hBz)).trans x0',(hB4.cell (p:=⟨g1,j * 2+1,none⟩) (Nat.lt_of_lt_of_le hg1 hBz)).trans x1',(hB4.cell (p:=⟨b1,off1+X,none⟩) (Nat.lt_of_lt_of_le hb1 (Nat.le_trans hB hBz))).trans y0',(hB4.cell (p:=⟨b2,off3+Y,none⟩) (Nat.lt_of_lt_of_le hb2 (Nat.le_trans hB hBz))).trans y1'⟩) (first | (go_at_call 81;refine (HP.out _ _ hBr.drew (HHU.out.below ((Below.refl _ _).drew))).mono ?_;rintro e w4 ⟨v4,rfl,hv4,hB4⟩;replace hB4:=below_undrew hB4))
    all_goals go_wp2
    all_goals go_roundw
    case rel=>exact ⟨j+1,by omega,by go_num,by rw [HJX.out];exact hv4.fresh.less hBz,below_in hBr hB4⟩
    case measure=>simp [intOf];omega
  · obtain rfl:j=N:=by omega
    have hdec:decide ((j:Int)<(j:Int))=false:=by simp
    rw [HE.out] at hu
    go_wp2
    go_ret
    exact ⟨_,rfl,hu,hBr⟩
end Go.Proofs.YtcchjofjpflbhaaGreatDoor.E

namespace Go.Proofs.YtcchjofjpflbhaaGreatDoor.E
open Go.RowKit Go.Shelf Go.Proofs.YtcchjofjpflbhaaGreatDoor.C

theorem colL_next (k p:Int) (n:Nat) (css:List (List (List UInt8))) (col:Int) {r:Nat} (hr:r<(p - 1).toNat):(colL k p n css col).take (r+1)=(colL k p n css col).take r ++ [uponL n css (memL k p col (r:Int))]:=by
 unfold colL
 rw [map_next _ 0 _ (by rw [List.length_range];exact hr),List.getElem?_range hr]
 rfl
theorem memL_in {k p:Int} (hR:RightC k p) {col row:Int} {R N:Nat} (hRR:p - 1=(R:Int)) (hN:col≤(N:Int)):inL R N (memL k p col row):=by
 intro z hz
 unfold memL at hz
 have h1:=flatC_mem' (List.mem_filter.1 hz).1
 have h2:=spanL_mem h1.1
 omega
theorem encode6_any {B:Nat} (k p:Int) (hR:RightC k p) (v1:Value) (css:List (List (List UInt8))) (n:Nat) (w:World) (hB:B≤w.heap.size) (hC:Cols B w v1 css) (hlen:(css.length:Int)=p - shortN k) (hG:Grid (p - 1).toNat n css) (hn:n≤1000) :
 Calls Tryz.prog 33 #[.agg #[.int .i64 k,.int .i64 p],v1] w fun e w'=>∃ u,e = .returned u∧Cols w'.heap.size w' u (stepsL k p n css (madeN k).toNat)∧Below w.heap.size w w':=by
 obtain ⟨p1,p2,s1,s2,m1,m2⟩:=hR.und
 obtain ⟨b1,off1,cap,rfl,hcap,hb1,hrow0⟩:=hC.at_ (by omega)
 obtain ⟨R,hRR⟩:∃ R:Nat,p - 1=(R:Int):=⟨(p - 1).toNat,by omega⟩
 obtain ⟨M,hM⟩:∃ M:Nat,madeN k=(M:Int):=⟨(madeN k).toNat,by omega⟩
 have hRt:(p - 1).toNat=R:=by omega
 have hMt:(madeN k).toNat=M:=by omega
 rw [hRt] at hG
 rw [hMt]
 have HCo:=Lib.hid (fun W=>refCols_any k p hR W)
 have HDa:=Lib.hid (fun W=>refData_any k p hR W)
 have HRw:=Lib.hid (fun W=>refRows_any k p hR W)
 have hcd:p - shortN k+madeN k=((css.length+M:Nat):Int):=by omega
 rw [hcd] at HCo
 rw [←hlen] at HDa
 rw [hRR] at HRw
 have HMB:=Lib.hid (fun (m r:Nat) (hm:m<M) (hr:r<R) (W:World)=>refMembers_any k p ((css.length+m:Nat):Int) (r:Int) hR ⟨by omega,by omega⟩ (by omega) W)
 have HMI:=Lib.hid (fun (m r:Nat)=>(memL_in hR hRR (Int.le_refl _):inL R (css.length+m) (memL k p ((css.length+m:Nat):Int) (r:Int))))
 have HMLN:=Lib.hid (fun (m r:Nat) (hm:m<M) (hr:r<R)=>(memL_len (k:=k) (p:=p) (mx:=((css.length+m:Nat):Int)) (my:=(r:Int)) hR ⟨by omega,by omega⟩))
 have HGR:=Lib.hid (fun m=>hG.steps (k:=k) (p:=p) hRt.symm m)
 have HSL:=Lib.hid (fun m=>stepsL_len k p n css m)
 have HSN:Hid (∀ m,stepsL k p n css (m+1)=stepsL k p n css m ++ [colL k p n (stepsL k p n css m) ((css.length+m:Nat):Int)]):=fun m=>by
  show _ ++ [colL k p n _ ((css.length:Int)+(m:Int))] = _
  rw [Int.natCast_add]
 have HCN:Hid (∀ (m r:Nat),r<R→(colL k p n (stepsL k p n css m) ((css.length+m:Nat):Int)).take (r+1)=(colL k p n (stepsL k p n css m) ((css.length+m:Nat):Int)).take r ++ [uponL n (stepsL k p n css m) (memL k p ((css.length+m:Nat):Int) (r:Int))]):=fun m r hr=>colL_next k p n _ _ (by omega)
 have HCL:=Lib.hid (fun m=>(colL_len k p n (stepsL k p n css m) ((css.length+m:Nat):Int)).trans hRt)
 have HUL:=Lib.hid (fun m r=>uponL_len n (stepsL k p n css m) (memL k p ((css.length+m:Nat):Int) (r:Int)))
 have hR16:R≤16:=by omega
 have hR2:2≤R:=by omega
 have hM3:M≤3:=by omega
 have hn20:css.length≤17:=by omega
 have hn1:1≤css.length:=by omega
 -- the first cell
 obtain ⟨u1,hc1,hm1⟩:=hrow0 0 (by omega)
 obtain ⟨hcr,hce⟩:=hG 0 (by omega)
 obtain ⟨A3,cap3,rfl,_,_⟩:=id hm1
 obtain ⟨b2,off3,rfl,hb2,hrow3⟩:=many_at hm1 (by omega)
 obtain ⟨Aa,ca,hc3,_⟩:=hrow3 0 (by omega)
 rw [hcr,Nat.add_zero] at hc1
 rw [hce 0 (by omega),Nat.add_zero] at hc3
 have HROW:=Lib.hid hrow0
 have HCC:=Lib.hid hC
 have HG0:=Lib.hid (fun j hj=>(hG j hj).1)
 have b0:=Blk.new w 61 #[.int .i64 k,.int .i64 p]
 have hBW:=below_one w (.cells #[.int .i64 k,.int .i64 p] 61)
 have HCI:Hid (∀ j,j<css.length→css.take (j+1)=css.take j ++ [css[j]?.getD []]):=fun j hj=>by rw [List.take_add_one,List.getElem?_eq_getElem hj];rfl
 have HCE:Hid (css.take css.length=stepsL k p n css 0):=by unfold Hid;rw [List.take_length];rfl
 have HSS:=Lib.hid (fun (V:World) (hV:Below w.heap.size w V) (hb:Blk V w.heap.size 61 #[.int .i64 k,.int .i64 p])=>(⟨by have:=hb.cell 0;simpa using this,by have:=hb.cell 1;simpa using this,(hV.cell (p:=⟨b1,off1,none⟩) (Nat.lt_of_lt_of_le hb1 hB)).trans hc1,(hV.cell (p:=⟨b2,off3,none⟩) (Nat.lt_of_lt_of_le hb2 hB)).trans hc3⟩:(fun V:World=>V.cell? ⟨w.heap.size,0,none⟩=some (.int .i64 k)∧V.cell? ⟨w.heap.size,1,none⟩=some (.int .i64 p)∧V.cell? ⟨b1,off1,none⟩=some (.slice (some ⟨b2,off3,none⟩) R cap3)∧V.cell? ⟨b2,off3,none⟩=some (.slice Aa n ca)) V))
 clear hm1 hrow3 hcr hce hc1 hc3 hrow0 hC hG hcd hlen hRR hRt hM hMt hR p1 p2 s1 s2 m1 m2
 generalize hn0:css.length=n0 at *
 clear hn0
 go_enter Tryz.func33,Tryz.ntmps33
 go_wp2_with fail
 go_loopw [5,6] (fun v i wr=>∃ m:Nat,m≤n0∧i = .int .i64 m∧RowC (fun _=>True) wr (w.heap.size+1) v (css.take m)∧Blk wr w.heap.size 61 #[.int .i64 k,.int .i64 p]∧Below w.heap.size w wr) (fun _ i _=>n0 - (intOf i).toNat)
 case atStart=>exact ⟨0,Nat.zero_le _,rfl,RowG.nil _ _ _ _ _ _,b0,hBW⟩
 case round =>
  clear b0 hBW
  obtain ⟨m,hm,rfl,hrow,b0,hBr⟩:=hrel
  by_cases hlt:m<n0
  · have hdec:decide ((m:Int)<(n0:Int))=true:=by simp;omega
    obtain ⟨u1,hc1,hm1⟩:=HROW.out m hlt
    obtain ⟨A4,cap4,rfl,_,_⟩:=id hm1
    have hc2:=(hBr.cell (p:=⟨b1,off1+m,none⟩) (Nat.lt_of_lt_of_le hb1 hB)).trans hc1
    have hnx:=HCI.out m hlt
    have hm2:Many B wr _ _:=hm1.below (hBr.mono hB)
    have HVLE:=Lib.hid (fun b e=>RowG.own_le hrow b e)
    have hpl:(css.take m).length≤100:=by rw [List.length_take];omega
    clear hc1 hm1
    generalize css[m]?.getD []=xs at *
    generalize css.take m=pre at *
    generalize xs.length=n7 at *
    have i1:(0:Int)≤(m:Int):=by omega
    have i2:(m:Int)<(n0:Int):=by omega
    have hcells:Below wr.heap.size wr (wr.alloc (.cells #[.slice A4 n7 cap4] 50)):=below_one wr _
    have hszr:=hBr.size
    have HROWC:=Lib.hid (RowG.below hrow hcells)
    have HBLK:=Lib.hid (Blk.new wr 50 #[.slice A4 n7 cap4])
    have HCP:Hid (manyR.R (fun b=>b<(wr.alloc (.cells #[.slice A4 n7 cap4] 50)).heap.size∧some b≠u5.ownBlock∧True) (wr.alloc (.cells #[.slice A4 n7 cap4] 50)) (.slice A4 n7 cap4) xs) :=
     SliceP.imp (hm2.below (hcells.mono (Nat.le_trans hB hszr))) fun b hb=>⟨by have hb':b<B:=hb;simp;omega,fun e=>by have:=HVLE.out b e.symm;have hb':b<B:=hb;omega,trivial⟩
    have hb5:Blk (wr.alloc (.cells #[.slice A4 n7 cap4] 50)) w.heap.size 61 #[.int .i64 k,.int .i64 p]:=b0.alloc _
    clear hrow hm2
    go_wp2_with (at_builtin;refine wpList_pushC (T:=57) _ rfl _ _ rfl Tryz.underlying57 pre rfl HROWC.out wr.heap.size 50 _ xs rfl HBLK.out HCP.out (by omega) (by simp;omega) ?_;intro v' w2 hrow4 hgrow hown)
    go_roundw
    case rel=>exact ⟨m+1,by omega,by go_num,by rw [hnx];exact hrow4,hb5.grown hgrow (fun e=>by have:=HVLE.out _ e.symm;omega),below_grown (below_in hBr hcells) hgrow (by simp;omega) (fun g e=>by have:=HVLE.out g e;omega)⟩
    case measure=>simp [intOf];omega
  · obtain rfl:m=n0:=by omega
    have e1:decide ((m:Int)<(m:Int))=false:=by simp
    rw [HCE.out] at hrow
    have c0:=b0.cell 0;have c1:=b0.cell 1;simp only [gz9] at c0 c1
    go_wp2_with (go_at_call 76;refine (HDa.out _).mono ?_;rintro e w1 ⟨rfl,hB1⟩;replace hrow:=RowG.below hrow hB1;replace b0:=b0.below hB1 b0.lt;replace hBr:=below_in hBr hB1)
    clear c0 c1
    go_loopw [5,7] (fun v i wr=>∃ j:Nat,j≤M∧i = .int .i64 ((m+j:Nat):Int)∧RowC (fun _=>True) wr (w.heap.size+1) v (stepsL k p n css j)∧Blk wr w.heap.size 61 #[.int .i64 k,.int .i64 p]∧Below w.heap.size w wr) (fun _ i _=>m+M - (intOf i).toNat)
    case atStart=>exact ⟨0,Nat.zero_le _,rfl,hrow,b0,hBr⟩
    case round =>
     clear b0 hBr hrow
     obtain ⟨j,hj,rfl,hrow,b0,hBr⟩:=hrel
     have c0:=b0.cell 0;have c1:=b0.cell 1;simp only [gz9] at c0 c1
     by_cases hlt:j<M
     · have HMEM:=Lib.hid (fun (r:Nat) (hr:r<R) (W:World)=>HMB.out j r hlt hr W)
       have HMIJ:=Lib.hid (fun r=>HMI.out j r)
       have HMLJ:=Lib.hid (fun r hr=>HMLN.out j r hlt hr)
       have HGJ:=Lib.hid (HGR.out j)
       have HSJ:=Lib.hid (HSL.out j)
       have HNX:=Lib.hid (HSN.out j)
       have HNR:=Lib.hid (fun r hr=>HCN.out j r hr)
       have HLC:=Lib.hid (HCL.out j)
       have HLU:=Lib.hid (fun r=>HUL.out j r)
       have hmj:m+j≤20:=by omega
       have hpl:Hid ((stepsL k p n css j).length≤100):=by unfold Hid;rw [HSL.out j];omega
       clear HMB HGR HSL HSN HCN HCL HUL HCI HCE HROW HG0 HMI HMLN
       have hdec0:((m+j:Nat):Int)<((m+M:Nat):Int):=by omega
       have hwr:wrap64 (((m+j:Nat):Int)+1)=((m+(j+1):Nat):Int):=by rw [IntWalk.wrap64_in _ (by omega)];omega
       generalize hcol:((m+j:Nat):Int)=col at *
       generalize htot:((m+M:Nat):Int)=tot at *
       have hdec:decide (col<tot)=true:=by simpa using hdec0
       have hcb1:0≤col:=by omega
       have hcb2:col≤100:=by omega
       have HCOL:=Lib.hid hcol
       have HWR:=Lib.hid hwr
       have HTOT:=Lib.hid htot
       clear hcol hwr htot hdec0
       generalize hmade:colL k p n (stepsL k p n css j) col=made at *
       generalize hst:stepsL k p n css j=st at *
       clear hmade hst
       go_wp2_with (go_at_call 77;refine (HCo.out _).mono ?_;rintro e wq ⟨rfl,hB1⟩;replace hrow:=RowG.below hrow hB1;replace b0:=b0.below hB1 b0.lt;replace hBr:=below_in hBr hB1)
       clear c0 c1 hB1
       have hgl:=b0.lt
       have HBL:=Lib.hid b0
       have HUP:=Lib.hid (fun (r:Nat) (hr:r<R) (V:World) (vm:Value) (hV:Below wq.heap.size wq V) (hm:ReadA V vm (memL k p col (r:Int)))=>upon6_any (B:=V.heap.size) u5 vm st _ R n V (Nat.le_refl _) (RowC.cols (RowG.below hrow hV)) hm HGJ.out (by rw [HSJ.out];exact HMIJ.out r) hn (HMLJ.out r hr) (by rw [HSJ.out];omega) (by omega))
       have HSS2:=Lib.hid (fun (V:World) (hV:Below wq.heap.size wq V)=>HSS.out V (below_in hBr hV) (HBL.out.below hV hgl))
       have HVLT:=Lib.hid (fun b e=>RowG.own_lt hrow b e)
       have HVLE:=Lib.hid (fun b e=>RowG.own_le hrow b e)
       have HROWQ:=Lib.hid hrow
       clear hrow
       go_wp2
       go_loopw [8,9] (fun v2 i wr=>∃ r:Nat,r≤R∧i = .int .i64 r∧RowM (fun b=>some b≠u5.ownBlock) wr wq.heap.size v2 (made.take r)∧Below wq.heap.size wq wr) (fun _ i _=>R - (intOf i).toNat)
       case atStart=>exact ⟨0,Nat.zero_le _,rfl,RowG.nil _ _ _ _ _ _,Below.refl _ _⟩
       case round =>
        obtain ⟨r,hr,rfl,hrow2,hBs⟩:=hrel
        have b5:=HBL.out.below hBs hgl
        have c0:=b5.cell 0;have c1:=b5.cell 1;simp only [gz9] at c0 c1
        by_cases hlt2:r<R
        · have hdec2:decide ((r:Int)<(R:Int))=true:=by simp;omega
          go_wp2_with (go_at_call 78;refine (HRw.out _).mono ?_;rintro e wr2 ⟨rfl,hB1⟩;replace hrow2:=RowG.below hrow2 hB1;replace hBs:=below_in hBs hB1)
          have hS0:=HSS2.out _ hBs
          have hr16:(made.take r).length≤100:=by rw [List.length_take,HLC.out];omega
          have HPL2:=Lib.hid hr16
          have HNX2:=Lib.hid (HNR.out r hlt2)
          have HLX:Hid ((uponL n st (memL k p col (r:Int))).length=n):=HLU.out r
          have HVLT2:=Lib.hid (fun b e=>RowG.own_lt hrow2 b e)
          have HVLE2:=Lib.hid (fun b e=>RowG.own_le hrow2 b e)
          have HMEMR:=Lib.hid (fun W=>HMEM.out r hlt2 W)
          have HUPR:=Lib.hid (fun V vm hV hm=>HUP.out r hlt2 V vm hV hm)
          have i5:(0:Int)≤(r:Int):=by omega
          have z1:(0:Int)<(m:Int):=by omega
          have z2:(0:Int)<(R:Int):=by omega
          have z3:¬ R=0:=by omega
          have z4:¬ m=0:=by omega
          clear hr16 c0 c1 b5
          generalize uponL n st (memL k p col (r:Int))=xone at *
          generalize memL k p col (r:Int)=mem at *
          generalize made.take r=pre2 at *
          go_wp2_with fail
          have hS:(fun V:World=>V.cell? ⟨w.heap.size,0,none⟩=some (.int .i64 k)∧V.cell? ⟨w.heap.size,1,none⟩=some (.int .i64 p)∧V.cell? ⟨b1,off1,none⟩=some (.slice (some ⟨b2,off3,none⟩) R cap3)∧V.cell? ⟨b2,off3,none⟩=some (.slice Aa n ca)) wr2.drew:=HSS2.out _ hBs.drew
          refine (wpIn_wide (n:=12)).1 (wpIn_mono (region_HF (Q:=NoPanic _) (S:=(fun V:World=>V.cell? ⟨w.heap.size,0,none⟩=some (.int .i64 k)∧V.cell? ⟨w.heap.size,1,none⟩=some (.int .i64 p)∧V.cell? ⟨b1,off1,none⟩=some (.slice (some ⟨b2,off3,none⟩) R cap3)∧V.cell? ⟨b2,off3,none⟩=some (.slice Aa n ca))) (by kernel_rfl) ?_) NoPanic.imp)
          refine tkF (i:=0) (d:=37) (v:=u8) (s:=hS) (c:=?_)
          simp only [ud9]
          refine tkF (i:=1) (d:=38) (v:=u5) (s:=hS) (c:=?_)
          simp only [ud9]
          refine tkF (i:=2) (d:=39) (v:=.agg #[.int .i64 k,.int .i64 p]) (s:=hS) (c:=?_)
          simp only [ud9]
          refine tkF (i:=3) (d:=40) (v:=.int .i64 col) (s:=hS) (c:=?_)
          simp only [ud9]
          refine tkF (i:=4) (d:=41) (v:=.int .i64 (r:Int)) (s:=hS) (c:=?_)
          simp only [ud9]
          refine tkF (i:=5) (d:=42) (v:=.agg #[.int .i64 col,.int .i64 (r:Int)]) (s:=hS) (c:=?_)
          simp only [ud9]
          refine tkF (i:=7) (d:=44) (v:=.slice (some ⟨b1,off1,none⟩) m cap) (s:=hS) (c:=?_)
          simp only [ud9]
          refine tkF (i:=8) (d:=45) (v:=.pointer (some ⟨b1,off1,none⟩)) (s:=hS) (c:=?_)
          simp only [ud9]
          refine tkF (i:=9) (d:=46) (v:=.slice (some ⟨b2,off3,none⟩) R cap3) (s:=hS) (c:=?_)
          simp only [ud9]
          refine tkF (i:=10) (d:=47) (v:=.pointer (some ⟨b2,off3,none⟩)) (s:=hS) (c:=?_)
          simp only [ud9]
          refine tkF (i:=11) (d:=48) (v:=.slice Aa n ca) (s:=hS) (c:=?_)
          simp only [ud9]
          refine tkF (i:=12) (d:=49) (v:=.int .i64 (n:Int)) (s:=hS) (c:=?_)
          simp only [ud9]
          refine oneF (i:=6) (c:=?_)
          gi_wp2_with fail
          refine ⟨trivial,(callsIn_wide.2 (HMEMR.out _)).mono ?_⟩
          rintro e wm ⟨vm,rfl,hmem,hBm⟩
          replace hBm:=below_undrew hBm
          clear hS
          have hS:(fun V:World=>V.cell? ⟨w.heap.size,0,none⟩=some (.int .i64 k)∧V.cell? ⟨w.heap.size,1,none⟩=some (.int .i64 p)∧V.cell? ⟨b1,off1,none⟩=some (.slice (some ⟨b2,off3,none⟩) R cap3)∧V.cell? ⟨b2,off3,none⟩=some (.slice Aa n ca)) wm:=HSS2.out _ (below_in hBs hBm)
          gi_wp2
          try (refine ⟨hS,?_⟩)
          refine oneF (i:=13) (c:=?_)
          gi_wp2_with fail
          refine ⟨trivial,(callsIn_wide.2 (HUPR.out _ vm (below_in hBs hBm) hmem.readA)).mono ?_⟩
          rintro e wn ⟨v',rfl,hfr,hBn⟩
          obtain ⟨Ax,cx,hxe,_,_⟩:=id hfr
          rw [HLX.out] at hxe
          subst hxe
          replace hfr:=hfr.less hBm.size
          replace hBn:=below_in hBm hBn
          clear hS
          have hS:(fun V:World=>V.cell? ⟨w.heap.size,0,none⟩=some (.int .i64 k)∧V.cell? ⟨w.heap.size,1,none⟩=some (.int .i64 p)∧V.cell? ⟨b1,off1,none⟩=some (.slice (some ⟨b2,off3,none⟩) R cap3)∧V.cell? ⟨b2,off3,none⟩=some (.slice Aa n ca)) wn:=HSS2.out _ (below_in hBs hBn)
          gi_wp2
          try (refine ⟨hS,?_⟩)
          refine oneF (i:=14) (c:=?_)
          have hcells:Below wn.heap.size wn (wn.alloc (.cells #[.slice Ax n cx] 64)):=below_one wn _
          have hBc:=below_in hBn hcells
          have HROWM:=Lib.hid (RowG.below hrow2 hBc)
          have HBLK:=Lib.hid (Blk.new wn 64 #[.slice Ax n cx])
          have hss:=hBs.size
          have hbn:=hBn.size
          have hcs:=hcells.size
          have hwq:=hBr.size
          have HBY:Hid (BytesP (fun b=>b<(wn.alloc (.cells #[.slice Ax n cx] 64)).heap.size∧some b≠u8.ownBlock∧some b≠u5.ownBlock) (wn.alloc (.cells #[.slice Ax n cx] 64)) (.slice Ax n cx) xone):=by
           obtain ⟨A8,cp8,e8,h8,hA8⟩:=hfr.below hcells
           refine ⟨A8,cp8,by rw [HLX.out] at e8 ⊢;exact e8,h8,fun hp=>?_⟩
           obtain ⟨b,off,q1,q2,q3,q4⟩:=hA8 hp
           exact ⟨b,off,q1,⟨q3,fun e=>by have:=HVLT2.out b e.symm;omega,fun e=>by have:=HVLT.out b e.symm;omega⟩,q4⟩
          clear hfr hS
          have hS:(fun V:World=>V.cell? ⟨w.heap.size,0,none⟩=some (.int .i64 k)∧V.cell? ⟨w.heap.size,1,none⟩=some (.int .i64 p)∧V.cell? ⟨b1,off1,none⟩=some (.slice (some ⟨b2,off3,none⟩) R cap3)∧V.cell? ⟨b2,off3,none⟩=some (.slice Aa n ca)) (wn.alloc (.cells #[.slice Ax n cx] 64)):=HSS2.out _ (below_in hBs hBc)
          gi_wp2
          try (refine ⟨hS,?_⟩)
          refine oneF (i:=15) (c:=?_)
          refine opIn_pushM (T:=50) (v:=u8) _ (.tmp 37) (.tmp 51) rfl Tryz.underlying50 pre2 rfl HROWM.out wn.heap.size 64 _ xone rfl HBLK.out HBY.out (by have:=HPL2.out;omega) (by omega) ?_
          intro v' w4 hrow4 hgrow4 hown4
          clear hS
          have hB4:Below wq.heap.size wq w4:=below_grown (below_in hBs hBc) hgrow4 (by omega) (fun g e=>HVLE2.out g e)
          have hS:(fun V:World=>V.cell? ⟨w.heap.size,0,none⟩=some (.int .i64 k)∧V.cell? ⟨w.heap.size,1,none⟩=some (.int .i64 p)∧V.cell? ⟨b1,off1,none⟩=some (.slice (some ⟨b2,off3,none⟩) R cap3)∧V.cell? ⟨b2,off3,none⟩=some (.slice Aa n ca)) w4:=HSS2.out _ hB4
          gi_wp2_with fail
          try (refine ⟨hS,?_⟩)
          refine oneF (i:=16) (c:=?_)
          gi_wp2
          refine anyHF_done (by kernel_rfl) ?_ _
          refine NoPanic.normal ?_
          clear hS
          gi_wp2_with fail
          go_wp2
          go_roundw
          case rel=>exact ⟨r+1,by omega,by go_num,by rw [HNX2.out];exact hrow4,hB4⟩
          case measure=>simp [intOf];omega
        · obtain rfl:r=R:=by omega
          have e1:decide ((r:Int)<(r:Int))=false:=by simp
          have HTK:Hid (made.take r=made):=by unfold Hid;rw [List.take_of_length_le];rw [HLC.out];exact Nat.le_refl _
          rw [HTK.out] at hrow2
          obtain ⟨A7,cp7,hu7,_,_⟩:=id (RowM.many hrow2 (S:=fun _=>True) (fun _ _ _=>trivial))
          subst hu7
          have HNX3:=Lib.hid HNX.out
          generalize made.length=n7 at *
          have HRC:=Lib.hid (fun (V:World) (hV:Below wr.heap.size wr V)=>RowG.below HROWQ.out (below_in (below_in hBs hV) (below_one V (.cells #[.slice A7 n7 cp7] 50))))
          have HBK:=Lib.hid (fun V:World=>Blk.new V 50 #[.slice A7 n7 cp7])
          have HMC:=Lib.hid (fun (V:World) (hV:Below wr.heap.size wr V)=>(RowM.many (RowG.below (RowG.below hrow2 hV) (below_one V (.cells #[.slice A7 n7 cp7] 50))) (fun b hb hq=>⟨hb,(by rcases hq with h | h;exact h;exact fun e=>by have:=HVLT.out b e.symm;omega),trivial⟩):manyR.R (fun b=>b<(V.alloc (.cells #[.slice A7 n7 cp7] 50)).heap.size∧some b≠u5.ownBlock∧True) (V.alloc (.cells #[.slice A7 n7 cp7] 50)) (.slice A7 n7 cp7) made))
          have HPL3:=Lib.hid (show st.length≤100000 by have:=hpl.out;omega)
          have HBS3:=Lib.hid (fun (V:World) (hV:Below wr.heap.size wr V)=>(show w.heap.size+1≤(V.alloc (.cells #[.slice A7 n7 cp7] 50)).heap.size by have:=hV.size;have:=hBs.size;have:=hBr.size;simp;omega))
          have HRL:=Lib.hid (fun (V W:World) (v':Value) (hV:Below wr.heap.size wr V) (hg:(V.alloc (.cells #[.slice A7 n7 cp7] 50)).grownBy W u5.ownBlock)=>(⟨((HBL.out.below (below_in hBs hV) hgl).alloc _).grown hg (fun e=>by have:=HVLE.out _ e.symm;omega),below_grown (below_in hBr (below_in (below_in hBs hV) (below_one V _))) hg (by have:=HBS3.out V hV;omega) (fun g e=>by have:=HVLE.out g e;omega)⟩:Blk W w.heap.size 61 #[.int .i64 k,.int .i64 p]∧Below w.heap.size w W))
          have HMS:Hid (m+M - (col+1).toNat<m+M - col.toNat):=by have h1:=HCOL.out;unfold Hid;clear HWR;omega
          have HW1:Hid (col+1=((m+(j+1):Nat):Int)):=by have h2:=HCOL.out;unfold Hid;clear HWR;omega
          clear hrow2 hBs
          go_wp2_with (first
           | (go_at_call 78;refine (HRw.out _).mono ?_;rintro e wr2 ⟨rfl,hB1⟩)
           | (at_builtin;refine wpList_pushC (T:=57) _ rfl _ _ rfl Tryz.underlying57 st rfl (HRC.out _ hB1) wr2.heap.size 50 _ made rfl (HBK.out _) (HMC.out _ hB1) HPL3.out (HBS3.out _ hB1) ?_;intro v' w2 hrow4 hgrow hown))
          go_roundw
          case rel=>exact ⟨j+1,by omega,congrArg _ HW1.out,by rw [HNX3.out];exact hrow4,HRL.out _ _ v' hB1 hgrow⟩
          case measure=>exact HMS.out
     · obtain rfl:j=M:=by omega
       have e1:decide (((m+j:Nat):Int)<((m+j:Nat):Int))=false:=by simp
       go_wp2_with (go_at_call 77;refine (HCo.out _).mono ?_;rintro e wq ⟨rfl,hB1⟩;replace hrow:=RowG.below hrow hB1;replace hBr:=below_in hBr hB1)
       go_ret
       exact ⟨_,rfl,RowC.cols hrow,hBr⟩
end Go.Proofs.YtcchjofjpflbhaaGreatDoor.E

namespace Go.Proofs.YtcchjofjpflbhaaGreatDoor.Ch
open Go.RowKit Go.Shelf Go.Proofs.YtcchjofjpflbhaaGreatDoor.C Go.Proofs.YtcchjofjpflbhaaGreatDoor.E Go.Proofs.YtcchjofjpflbhaaGreatDoor.T

theorem append_stripe (ty:TypeId) (v x:Value) (W:World):(Builtin.append_ #[40,57] ty #[v,x]).run Tryz.prog W=(Builtin.append_ #[40,40] ty #[v,x]).run Tryz.prog W:=by
 have h1:=Tryz.underlying40
 have h2:=Tryz.underlying57
 unfold Builtin.append_
 simp only [List.getElem?_toArray,List.getElem?_cons_zero,List.getElem?_cons_succ,Sem.run_bind,run_underlying h1,run_underlying h2,Result.andThen_ok,Sem.run_pure]
 cases v <;> simp only [Sem.run_bind,run_underlying h1,run_underlying h2,Result.andThen_ok,Sem.run_pure]
theorem wpList_appStripe {Q:Nat→Prop} {base:Nat} {v v2:Value} (w:World) {ops:Array Oper} {rest:List Oper} {o:Oper} {a:Act} {QQ:Exit→Act→World→Prop} (hgd:Region.wanted o (yielded ops a.tmps)=true) (s x:Operand)
 (ho:o.op = .call { callee:=.builtin .append,args:=#[s,x],argTypes:=#[40,57] }) (css ds:List (List (List UInt8))) (hs:a.eval s=v) (h:RowC Q w base v css) (hx:a.eval x=v2)
 (h2:colsR.R (fun b=>b<w.heap.size∧some b≠v.ownBlock∧Q b) w v2 ds) (h0:0<ds.length) (hlen:css.length≤100000) (hlen2:ds.length≤100000) (hbase:base≤w.heap.size)
 (hK:∀ v' w',RowC Q w' base v' (css ++ ds)→w.grownBy w' v.ownBlock→(v'.ownBlock=v.ownBlock∨v'.ownBlock=some w.heap.size)→wpList Tryz.prog ops QQ rest (a.put o.dst v') w'):wpList Tryz.prog ops QQ (o :: rest) a w :=
 BigFrame.wpList_want hgd fun K hK2=>by
  obtain ⟨i,hi,hz0,hz1,hz2⟩:=info_parts Tryz.infoCol
  obtain ⟨v',w',hrun,h1,h3,h4⟩:=RowG.append i hi hz0 hz1 hz2 40 o.type Tryz.underlying40 h h2 (fun A cap e hA=>by
   obtain ⟨A2,c2,e2,_,hA2⟩:=h2
   rw [e] at e2
   injection e2 with _ e3 _
   omega) hlen hlen2 hbase
  unfold Oper.wp execOp
  simp only [ho,resolve,invoke,builtin,Sem.run_bind,Sem.run_pure,Result.andThen_ok,List.map_toArray,List.map_cons,List.map_nil,hs,hx,append_stripe,hrun]
  exact hK2 _ _ (hK v' w' h1 h3 h4)
theorem cols_of_blk {B N cc g:Nat} {W:World} {cur:Array Value} {css:List (List (List UInt8))} (hb:Blk W g 50 cur) (hg:g<B) (hN:css.length=N) (hc:N≤cc) (h:∀ j,j<N→∃ u,cur[j]?=some u∧Many B W u (css[j]?.getD [])):Cols B W (.slice (some ⟨g,0,none⟩) N cc) css:=by
 refine ⟨some ⟨g,0,none⟩,cc,by rw [hN],by rw [hN];exact hc,fun _=>⟨g,0,rfl,hg,fun j hj=>?_⟩⟩
 obtain ⟨u,h1,h2⟩:=h j (by omega)
 exact ⟨u,by rw [Nat.zero_add,hb.cell j];exact h1,h2⟩
theorem rowC_blkT {base:Nat} {W:World} {v:Value} {css:List (List (List UInt8))} (h:RowC (fun _=>True) W base v css) (h0:0<css.length) :
 ∃ g cap cur,v = .slice (some ⟨g,0,none⟩) css.length cap∧css.length≤cap∧base≤g∧Blk W g 50 cur∧css.length≤cur.size∧∀ j,j<css.length→∃ u,cur[j]?=some u∧manyR.R (fun b=>b<W.heap.size∧b≠g) W u (css[j]?.getD []):=by
 obtain ⟨us,ho,hn,hr⟩:=h
 rcases ho.2 with ⟨_,h1⟩ | ⟨g,cap,cur,e,hb,hg,hc,_,hs,ht⟩
 · omega
 · rw [hn] at e hc
   refine ⟨g,cap,cur,e,hc,hb,hg,by omega,fun j hj=>?_⟩
   have hj2:j<us.length:=by omega
   have e2:cur[j]?=us[j]?:=by
    rw [←ht,List.getElem?_take,if_pos (by omega),Array.getElem?_toList]
   refine ⟨us[j],by rw [e2,List.getElem?_eq_getElem hj2],?_⟩
   exact manyR.imp (hr j us[j] (List.getElem?_eq_getElem hj2)) fun b hb=>⟨hb.1,fun e3=>hb.2.1 (by rw [e3,e];rfl)⟩
theorem cols_two_set {N cc g a b:Nat} {W:World} {cur:Array Value} {all:List (List (List UInt8))} {u v:Value} {cu cv:List (List UInt8)} (hb:Blk W g 50 cur) (hl:all.length=N) (hcc:N≤cc) (hcs:N≤cur.size)
 (hcu:∀ j,j<all.length→∃ u,cur[j]?=some u∧manyR.R (fun b=>b<W.heap.size∧b≠g) W u (all[j]?.getD [])) (ha:a<N) (hbN:b<N) (hab:a≠b) (hu:manyR.R (fun b=>b<W.heap.size∧b≠g) W u cu) (hv:manyR.R (fun b=>b<W.heap.size∧b≠g) W v cv) (X:World) (hX:(W.setCell ⟨g,a,none⟩ u).setCell ⟨g,b,none⟩ v=X) :
 Cols X.heap.size X (.slice (some ⟨g,0,none⟩) N cc) ((all.set a cu).set b cv):=by
 have h1:=hb.set_ a u
 have h2:=h1.set_ b v
 have hXs:X.heap.size=W.heap.size:=by rw [←hX];simp
 rw [hX] at h2
 have hk:∀ {x:Value} {c:List (List UInt8)},manyR.R (fun b=>b<W.heap.size∧b≠g) W x c→Many X.heap.size X x c:=fun {x c} h=>by
  refine manyR_iff.1 (manyR.imp (manyR.keep h (W':=X) fun k hk=>?_) fun k hk=>?_)
  · rw [←hX,Below.heap_setCell _ ⟨g,b,none⟩ v k hk.2,Below.heap_setCell _ ⟨g,a,none⟩ u k hk.2]
  · show k<X.heap.size
    rw [hXs];exact hk.1
 refine cols_of_blk h2 h2.lt (by rw [List.length_set,List.length_set];exact hl) hcc fun j hj=>?_
 by_cases hjb:j=b
 · subst hjb
   refine ⟨v,by rw [Array.getElem?_setIfInBounds,if_pos rfl,if_pos (by rw [Array.size_setIfInBounds];omega)],?_⟩
   rw [List.getElem?_set_self (by rw [List.length_set];omega)]
   exact hk hv
 · by_cases hja:j=a
   · subst hja
     refine ⟨u,by rw [Array.getElem?_setIfInBounds_ne (by omega),Array.getElem?_setIfInBounds,if_pos rfl,if_pos (by omega)],?_⟩
     rw [List.getElem?_set_ne (by omega),List.getElem?_set_self (by omega)]
     exact hk hu
   · obtain ⟨x,hx1,hx2⟩:=hcu j (by omega)
     refine ⟨x,by rw [Array.getElem?_setIfInBounds_ne (by omega),Array.getElem?_setIfInBounds_ne (by omega)];exact hx1,?_⟩
     rw [List.getElem?_set_ne (by omega),List.getElem?_set_ne (by omega)]
     exact hk hx2
/- The places of the chain,each once. -/
end Go.Proofs.YtcchjofjpflbhaaGreatDoor.Ch

set_option linter.unusedVariables false
set_option linter.unusedSimpArgs false
set_option maxRecDepth 100000
set_option maxHeartbeats 8000000
namespace Go.Proofs.YtcchjofjpflbhaaGreatDoor.R
open Go.RowKit Go.Shelf Go.Proofs.YtcchjofjpflbhaaGreatDoor.C Go.Proofs.YtcchjofjpflbhaaGreatDoor.E

def DataR (p:Int) (css:List (List (List UInt8))):Prop:=RightD p css∧(css.length:Int)=p - 1
end Go.Proofs.YtcchjofjpflbhaaGreatDoor.R

namespace Go.Proofs.YtcchjofjpflbhaaGreatDoor.R
open Go.RowKit Go.Shelf Go.Proofs.YtcchjofjpflbhaaGreatDoor.C Go.Proofs.YtcchjofjpflbhaaGreatDoor.E

section
variable {Q:Nat→Prop} {base:Nat} {v:Value}
end
end Go.Proofs.YtcchjofjpflbhaaGreatDoor.R

namespace Go.Proofs.YtcchjofjpflbhaaGreatDoor.R
open Go.RowKit Go.Shelf Go.Proofs.YtcchjofjpflbhaaGreatDoor.C Go.Proofs.YtcchjofjpflbhaaGreatDoor.E

end Go.Proofs.YtcchjofjpflbhaaGreatDoor.R

namespace Go.Proofs.YtcchjofjpflbhaaGreatDoor.R
open Go.RowKit Go.Shelf Go.Proofs.YtcchjofjpflbhaaGreatDoor.C Go.Proofs.YtcchjofjpflbhaaGreatDoor.E

def rdpOf (p:Int) (css:List (List (List UInt8))):List (List (List UInt8)):=[colL 2 p (firstC css).length css (p - 1),colL 2 p (firstC css).length (css ++ [colL 2 p (firstC css).length css (p - 1)]) p]
theorem steps2 {p:Int} {css:List (List (List UInt8))} (h:DataR p css):stepsL 2 p (firstC css).length css 2=css ++ rdpOf p css:=by
 have e0:((css.length:Int)+((0:Nat):Int))=p - 1:=by have:=h.2;omega
 have e1:((css.length:Int)+((1:Nat):Int))=p:=by have:=h.2;omega
 show (css ++ [colL 2 p _ css _]) ++ [colL 2 p _ (css ++ [colL 2 p _ css _]) _] = _
 rw [e0,e1,List.append_assoc]
 rfl
end Go.Proofs.YtcchjofjpflbhaaGreatDoor.R

namespace Go.Proofs.YtcchjofjpflbhaaGreatDoor.R
open Go.RowKit Go.Shelf Go.Proofs.YtcchjofjpflbhaaGreatDoor.C Go.Proofs.YtcchjofjpflbhaaGreatDoor.E

section
attribute [local go_sem] Oper.semAt_some
end
end Go.Proofs.YtcchjofjpflbhaaGreatDoor.R

namespace Go.Proofs.YtcchjofjpflbhaaGreatDoor.R
open Go.RowKit Go.Shelf Go.Proofs.YtcchjofjpflbhaaGreatDoor.C Go.Proofs.YtcchjofjpflbhaaGreatDoor.E
attribute [local go_sem] Oper.semAt_some

def encA (z:Int×Int):Array Value:=#[.agg #[.int .i64 z.1,.int .i64 z.2]]
end Go.Proofs.YtcchjofjpflbhaaGreatDoor.R

namespace Go.Proofs.YtcchjofjpflbhaaGreatDoor.R
open Go.RowKit Go.Shelf Go.Proofs.YtcchjofjpflbhaaGreatDoor.C Go.Proofs.YtcchjofjpflbhaaGreatDoor.E
attribute [local go_sem] Oper.semAt_some

theorem _root_.Go.Proofs.YtcchjofjpflbhaaGreatDoor.OwnA.far {w:World} {base:Nat} {v:Value} {l:List (Int×Int)} (h:OwnA w base v l) {p:Addr} (hp:some p.block≠v.ownBlock) (u:Value):OwnA (w.setCell p u) base v l:=by
 refine ⟨h.1,?_⟩
 rcases h.2 with h1 | ⟨g,cap,cur,e,h2,hg,rest⟩
 · exact .inl h1
 · exact .inr ⟨g,cap,cur,e,h2,(Below.heap_setCell w p u g (fun e2=>hp (by rw [e,←e2];rfl))).trans hg,rest⟩
theorem _root_.Go.Proofs.YtcchjofjpflbhaaGreatDoor.OwnA.kept {w w':World} {base:Nat} {v:Value} {l:List (Int×Int)} (h:OwnA w base v l) {row:Option Nat} (hg:w.grownBy w' row) (hne:v.ownBlock=none∨v.ownBlock≠row):OwnA w' base v l:=World.ownsRow.kept h hg hne
theorem _root_.Go.Proofs.YtcchjofjpflbhaaGreatDoor.OwnA.blks {w w':World} {base:Nat} {v:Value} {l:List (Int×Int)} (h:OwnA w base v l) (hk:∀ g t cs,Blk w g t cs→Blk w' g t cs):OwnA w' base v l :=
 ⟨h.1,h.2.imp id fun ⟨g,cap,cur,e,h2,hg,rest⟩=>⟨g,cap,cur,e,h2,hk _ _ _ hg,rest⟩⟩
theorem _root_.Go.Proofs.YtcchjofjpflbhaaGreatDoor.OwnA.rowO {w:World} {base:Nat} {v:Value} {l:List (Int×Int)} (h:OwnA w base v l):RowO v.ownBlock w:=fun b e=>by
 rcases h.2 with ⟨rfl,_⟩ | ⟨g,cap,cur,rfl,_,hg,_⟩
 · cases e
 · injection e with e
   subst e
   exact ⟨_,_,_,hg⟩
end Go.Proofs.YtcchjofjpflbhaaGreatDoor.R

namespace Go.Proofs.YtcchjofjpflbhaaGreatDoor.R
open Go.RowKit Go.Shelf Go.Proofs.YtcchjofjpflbhaaGreatDoor.C Go.Proofs.YtcchjofjpflbhaaGreatDoor.E

def KeepP (P:Nat→Prop) (X Y:World):Prop:=X.heap.size≤Y.heap.size∧∀ b,P b→Y.heap[b]?=X.heap[b]?
theorem KeepP.refl (P:Nat→Prop) (X:World):KeepP P X X:=⟨Nat.le_refl _,fun _ _=>rfl⟩
theorem KeepP.trans {P:Nat→Prop} {X Y Z:World} (h:KeepP P X Y) (h':KeepP P Y Z):KeepP P X Z:=⟨Nat.le_trans h.1 h'.1,fun b hb=>(h'.2 b hb).trans (h.2 b hb)⟩
theorem KeepP.below {P:Nat→Prop} {X Y:World} (h:Below X.heap.size X Y) (hP:∀ b,P b→b<X.heap.size):KeepP P X Y:=⟨h.size,fun b hb=>h.block b (hP b hb)⟩
theorem KeepP.putFar {P:Nat→Prop} (X:World) {l:Nat} (hl:¬ P l) (o:Obj):KeepP P X (X.putObj l o):=⟨by simp [World.putObj],fun b hb=>World.putObj_heap_other (fun e=>hl (e▸hb))⟩
theorem KeepP.setFar {P:Nat→Prop} (X:World) {p:Addr} (hp:¬ P p.block) (v:Value):KeepP P X (X.setCell p v):=⟨by simp,fun b hb=>Below.heap_setCell X p v b (fun e=>hp (e▸hb))⟩
section
attribute [local go_sem] Oper.semAt_some
end
end Go.Proofs.YtcchjofjpflbhaaGreatDoor.R

namespace Go.Proofs.YtcchjofjpflbhaaGreatDoor.R
open Go.RowKit Go.Shelf Go.Proofs.YtcchjofjpflbhaaGreatDoor.C Go.Proofs.YtcchjofjpflbhaaGreatDoor.E

def stepN (n:Int) (z:Int×Int):Int:=wrap64 (wrap64 (wrap64 (100 * n)+wrap64 (10 * z.1))+z.2)
def nv (l:List (Int×Int)):Int:=l.foldl stepN 0
attribute [local go_sem] Oper.semAt_some
end Go.Proofs.YtcchjofjpflbhaaGreatDoor.R

namespace Go.Proofs.YtcchjofjpflbhaaGreatDoor.E
open Go.RowKit Go.Shelf Go.Proofs.YtcchjofjpflbhaaGreatDoor.C
theorem RowG.empty {α:Type} (r:Rep α) (t:TypeId) (d:α) (Q:Nat→Prop) {W:World} {base g:Nat} (hg:Blk W g t #[]) (hb:base≤g):RowG r t d Q W base (.slice (some ⟨g,0,none⟩) 0 0) [] :=
 ⟨[],⟨rfl,.inr ⟨g,0,#[],rfl,hb,hg,Nat.le_refl _,by unfold maxLen;omega,rfl,rfl⟩⟩,rfl,fun j y hy=>by cases hy⟩
section
variable {p:Int} {a b:List (List (List UInt8))}
end
end Go.Proofs.YtcchjofjpflbhaaGreatDoor.E

namespace Go.Proofs.YtcchjofjpflbhaaGreatDoor.R
open Go.RowKit Go.Shelf Go.Proofs.YtcchjofjpflbhaaGreatDoor.C Go.Proofs.YtcchjofjpflbhaaGreatDoor.E

theorem grid_tog {R n:Nat} {css:List (List (List UInt8))} (hg:Grid R n css) (h0:0<css.length) (hR:0<R) (hn:1≤n∧n≤64):TogOk R css∧(firstC css).length=n:=by
 have hf:(firstC css).length=n:=(hg 0 h0).2 0 hR
 refine ⟨⟨h0,fun j hj=>⟨(hg j hj).1,?_,fun i hi=>?_⟩⟩,hf⟩
 · unfold Cell
   rw [hf]
   exact hn
 · rw [hf]
   exact (hg j hj).2 i (by rw [←(hg j hj).1];exact hi)
theorem Grid.app {R n:Nat} {a b:List (List (List UInt8))} (ha:Grid R n a) (hb:Grid R n b):Grid R n (a ++ b):=by
 intro j hj
 rw [List.length_append] at hj
 rcases Nat.lt_or_ge j a.length with h | h
 · rw [List.getElem?_append_left h];exact ha j h
 · rw [List.getElem?_append_right h];exact hb _ (by omega)
theorem Grid.put {R n:Nat} {a b:List (List (List UInt8))} (ha:Grid R n a):Grid R n (putOf a b):=by
 intro j hj
 rw [putOf_len] at hj
 refine ⟨by rw [putOf_col hj,putCol_len];exact (ha j hj).1,fun i hi=>?_⟩
 have hc:=cell_put (a:=a) (b:=b) j i hj (by rw [(ha j hj).1];exact hi)
 unfold cellOf_ at hc
 rw [hc,xorB_len]
 exact (ha j hj).2 i hi
theorem Grid.rdp {R n:Nat} {p:Int} (hR:R=(p - 1).toNat) {a:List (List (List UInt8))} (hn:(firstC a).length=n):Grid R n (rdpOf p a):=by
 intro j hj
 have hj2:j=0∨j=1:=by have:j<2:=hj;omega
 rcases hj2 with rfl | rfl
 · exact ⟨by rw [hR];exact colL_len _ _ _ _ _,fun i hi=>by
    show ((colL 2 p _ a (p - 1))[i]?.getD []).length=n
    rw [colL_at _ _ _ _ _ (by omega),uponL_len];exact hn⟩
 · exact ⟨by rw [hR];exact colL_len _ _ _ _ _,fun i hi=>by
    show ((colL 2 p _ _ p)[i]?.getD []).length=n
    rw [colL_at _ _ _ _ _ (by omega),uponL_len];exact hn⟩
section
variable {p:Int} {a b:List (List (List UInt8))}
theorem dataR_n (h:DataR p a):(a.length:Int)=p - 1∧3≤p∧p≤17∧p - 1=((p - 1).toNat:Int)∧1≤(firstC a).length∧(firstC a).length≤64:=by
 have hpp:=prm_bounds h.1.1
 have h1:=togOk_first h.1.2
 exact ⟨h.2,hpp.1,hpp.2,by omega,h1.1,h1.2⟩
theorem allR_of (ha:DataR p a):AllR p (a ++ rdpOf p a)∧Grid (p - 1).toNat (firstC a).length (a ++ rdpOf p a):=by
 obtain ⟨n1,n2,n3,n4,n5,n6⟩:=dataR_n ha
 have hG:=Grid.app (togOk_grid ha.1.2) (Grid.rdp (a:=a) (p:=p) rfl rfl)
 exact ⟨⟨⟨ha.1.1,(grid_tog hG (by rw [List.length_append];omega) (by omega) ⟨n5,n6⟩).1⟩,by rw [List.length_append];show ((a.length+2:Nat):Int) = _;omega⟩,hG⟩
end
end Go.Proofs.YtcchjofjpflbhaaGreatDoor.R

namespace Go.Proofs.YtcchjofjpflbhaaGreatDoor.T
open Go.RowKit Go.Shelf Go.Maps Go.Proofs.YtcchjofjpflbhaaGreatDoor.C Go.Proofs.YtcchjofjpflbhaaGreatDoor.E Go.Proofs.YtcchjofjpflbhaaGreatDoor.Ch
attribute [local go_sem] Oper.semAt_some

end Go.Proofs.YtcchjofjpflbhaaGreatDoor.T

namespace Go.Proofs.YtcchjofjpflbhaaGreatDoor.T
open Go.RowKit Go.Shelf Go.Maps Go.Proofs.YtcchjofjpflbhaaGreatDoor.C Go.Proofs.YtcchjofjpflbhaaGreatDoor.E Go.Proofs.YtcchjofjpflbhaaGreatDoor.Ch
attribute [local go_sem] Oper.semAt_some

end Go.Proofs.YtcchjofjpflbhaaGreatDoor.T

set_option linter.unusedVariables false
set_option linter.unusedSimpArgs false
set_option maxRecDepth 100000
set_option maxHeartbeats 8000000
namespace Go.Proofs.YtcchjofjpflbhaaGreatDoor.T
open Go.RowKit Go.Shelf Go.Maps Go.Proofs.YtcchjofjpflbhaaGreatDoor.C Go.Proofs.YtcchjofjpflbhaaGreatDoor.E Go.Proofs.YtcchjofjpflbhaaGreatDoor.Ch
attribute [local go_sem] Oper.semAt_some

end Go.Proofs.YtcchjofjpflbhaaGreatDoor.T

namespace Go.Proofs.YtcchjofjpflbhaaGreatDoor.T
open Go.RowKit Go.Shelf Go.Maps Go.Proofs.YtcchjofjpflbhaaGreatDoor.C Go.Proofs.YtcchjofjpflbhaaGreatDoor.E Go.Proofs.YtcchjofjpflbhaaGreatDoor.Ch
attribute [local go_sem] Oper.semAt_some

end Go.Proofs.YtcchjofjpflbhaaGreatDoor.T

namespace Go.Proofs.YtcchjofjpflbhaaGreatDoor.T
open Go.RowKit Go.Shelf Go.Maps Go.Proofs.YtcchjofjpflbhaaGreatDoor.C Go.Proofs.YtcchjofjpflbhaaGreatDoor.E Go.Proofs.YtcchjofjpflbhaaGreatDoor.Ch
attribute [local go_sem] Oper.semAt_some

end Go.Proofs.YtcchjofjpflbhaaGreatDoor.T

namespace Go.Proofs.YtcchjofjpflbhaaGreatDoor.T
open Go.RowKit Go.Shelf Go.Maps Go.Proofs.YtcchjofjpflbhaaGreatDoor.C Go.Proofs.YtcchjofjpflbhaaGreatDoor.E
attribute [local go_sem] Oper.semAt_some

theorem pAlone_any (lv dv nv:Value) (p:Int) (A:Option Addr) (k c:Nat) (hl:lv.oneCell'=true) (w:World) :
 Calls Tryz.prog 73 #[.agg #[.int .i64 2,.int .i64 p,.slice A k c,lv,dv,nv]] w fun e w'=>e = .returned lv∧Below w.heap.size w w':=by
 have b:=Blk.new w 99 #[.int .i64 2,.int .i64 p,.slice A k c,lv,dv,nv]
 have hB:=below_one w (.cells #[.int .i64 2,.int .i64 p,.slice A k c,lv,dv,nv] 99)
 have k3:=b.cell 3
 simp only [gz9] at k3
 go_enter Tryz.func73,Tryz.ntmps73
 go_wp2
 go_ret
 exact ⟨rfl,hB⟩
end Go.Proofs.YtcchjofjpflbhaaGreatDoor.T

namespace Go.Proofs.YtcchjofjpflbhaaGreatDoor.T
open Go.RowKit Go.Shelf Go.Maps Go.Proofs.YtcchjofjpflbhaaGreatDoor.C Go.Proofs.YtcchjofjpflbhaaGreatDoor.E Go.Proofs.YtcchjofjpflbhaaGreatDoor.Ch
attribute [local go_sem] Oper.semAt_some

end Go.Proofs.YtcchjofjpflbhaaGreatDoor.T

set_option linter.unusedVariables false
set_option linter.unusedSimpArgs false
set_option maxRecDepth 100000
set_option maxHeartbeats 8000000
namespace Go.Proofs.YtcchjofjpflbhaaGreatDoor.Ch
open Go.RowKit Go.Shelf Go.Proofs.YtcchjofjpflbhaaGreatDoor.C Go.Proofs.YtcchjofjpflbhaaGreatDoor.E Go.Proofs.YtcchjofjpflbhaaGreatDoor.T

theorem memRow2:∀ p∈prm,∀ r∈List.range (p - 1).toNat,memL 2 p (p - 1) (r:Int)=(List.range (p - 1).toNat).map fun (c:Nat)=>((c:Int),(r:Int)):=by decide +kernel
theorem memDiag2:∀ p∈prm,∀ r∈List.range (p - 1).toNat,((memL 2 p p (r:Int)).map natZ).isPerm (diagAt p (r:Int) p.toNat)=true:=by decide +kernel
theorem encR_all {P Q n:Nat} (d:Rg.Dims P Q n) {css:List (List (List UInt8))} (hd:R.DataR (P:Int) css) (hn:(firstC css).length=n) {B:Nat} (v:Value) (w:World) (hB:B≤w.heap.size) (hC:Cols B w v css) :
 Calls Tryz.prog 33 #[.agg #[.int .i64 2,.int .i64 (P:Int)],v] w fun e w'=>∃ u,e = .returned u∧Cols w'.heap.size w' u (css ++ R.rdpOf (P:Int) css)∧Below w.heap.size w w':=by
 have hpb:=prm_bounds d.hp
 have h64:=d.h64
 have h2:=hd.2
 have h:=encode6_any (B:=B) 2 (P:Int) ⟨by omega,d.hp⟩ v css n w hB hC (by simp [shortN];omega) (by rw [←hn];exact togOk_grid hd.1.2) (by omega)
 rwa [show (madeN 2).toNat=2 from rfl,←hn,R.steps2 hd] at h
structure PairOk (P Q n:Nat) (all:List (List (List UInt8))):Prop where
 hl:all.length=P+1
 hg:∀ c:Nat,c<P+1→GoodC Q n (all[c]?.getD [])
 hR:∀ j r,xa ((List.range P).map fun c:Nat=>Rg.Bt P Q n (all[c]?.getD []) j r)=0
 hD:∀ j r,r % (P:Int)≠(Q:Int)→Rg.Bt P Q n (all[P]?.getD []) j r=xa ((List.range P).map fun c:Nat=>Rg.Bt P Q n (all[c]?.getD []) j (r - (c:Int)))
theorem rdp_ok {P Q n:Nat} (d:Rg.Dims P Q n) {css:List (List (List UInt8))} (hd:R.DataR (P:Int) css) (hn:(firstC css).length=n):PairOk P Q n (css ++ R.rdpOf (P:Int) css):=by
 have hQ:=d.hQ
 have hpb:=prm_bounds d.hp
 have h2:=hd.2
 have hPQ:((P:Int) - 1).toNat=Q:=by omega
 have hPt:(P:Int).toNat=P:=Int.toNat_natCast P
 have hlc:css.length=Q:=by omega
 have hG:=(R.allR_of hd).2
 rw [hn,hPQ] at hG
 have hG0:=togOk_grid hd.1.2
 rw [hn,hPQ] at hG0
 obtain ⟨c1,hc1⟩:∃ x,colL 2 (P:Int) n css ((P:Int) - 1)=x:=⟨_,rfl⟩
 obtain ⟨c2,hc2⟩:∃ x,colL 2 (P:Int) n (css ++ [c1]) (P:Int)=x:=⟨_,rfl⟩
 have hall:R.rdpOf (P:Int) css = [c1,c2]:=by unfold R.rdpOf;rw [hn,hc1,hc2]
 rw [hall] at hG ⊢
 have hlen:(css ++ [c1,c2]).length=P+1:=by simp;omega
 have hg:∀ c:Nat,c<P+1→GoodC Q n ((css ++ [c1,c2])[c]?.getD []):=fun c hc=>by
  have h:=hG c (by omega)
  exact ⟨h.1,fun r hr=>⟨by have:=h.2 r hr;unfold Cell;rw [this];exact ⟨d.h1,d.h64⟩,h.2 r hr⟩⟩
 have g1:(css ++ [c1,c2])[Q]?.getD []=c1:=by rw [List.getElem?_append_right (by omega),hlc,Nat.sub_self];rfl
 have g2:(css ++ [c1,c2])[P]?.getD []=c2:=by rw [List.getElem?_append_right (by omega),hlc,show P - Q=1 by omega];rfl
 have g0:∀ c,c<Q→(css ++ [c1,c2])[c]?.getD []=css[c]?.getD []:=fun c hc=>by rw [List.getElem?_append_left (by omega)]
 have g3:∀ c,c<P→(css ++ [c1])[c]?.getD []=(css ++ [c1,c2])[c]?.getD []:=fun c hc=>by
  rw [show css ++ [c1,c2]=(css ++ [c1]) ++ [c2] by simp,List.getElem?_append_left (l₁:=css ++ [c1]) (by simp;omega)]
 refine ⟨hlen,hg,fun j r=>?_,fun j r hr=>?_⟩
 · rcases Rg.row_lt hQ r with ⟨i,hi,e⟩ | e
   · have e1:∀ c:Nat,Rg.Bt P Q n ((css ++ [c1,c2])[c]?.getD []) j r=at_ (((css ++ [c1,c2])[c]?.getD [])[i]?.getD []) j:=fun c=>Rg.bt_at hQ _ j hi e
     rw [show (fun c:Nat=>Rg.Bt P Q n ((css ++ [c1,c2])[c]?.getD []) j r)=fun c:Nat=>at_ (((css ++ [c1,c2])[c]?.getD [])[i]?.getD []) j from funext e1]
     have hin:inL Q css.length (memL 2 (P:Int) ((P:Int) - 1) (i:Int)):=memL_in ⟨by omega,d.hp⟩ (by omega) (by omega)
     have e2:at_ (c1[i]?.getD []) j=xa ((List.range Q).map fun c:Nat=>at_ ((css[c]?.getD [])[i]?.getD []) j):=by
      rw [←hc1,colL_at 2 (P:Int) n css ((P:Int) - 1) (by omega),at_uponL (hin.cells hG0 (Nat.le_refl _)) j,memRow2 _ d.hp i (List.mem_range.2 (by omega)),List.map_map,hPQ]
      rfl
     have e3:xa ((List.range P).map fun c:Nat=>at_ (((css ++ [c1,c2])[c]?.getD [])[i]?.getD []) j)=xa ((List.range Q).map fun c:Nat=>at_ (((css ++ [c1,c2])[c]?.getD [])[i]?.getD []) j) ^^^ xa [at_ (((css ++ [c1,c2])[Q]?.getD [])[i]?.getD []) j]:=by
      rw [show List.range P=List.range Q ++ [Q] by rw [hQ,List.range_succ],List.map_append,xa_append]
      rfl
     rw [e3,g1,e2,xa_cons,xa_nil,UInt8.xor_zero]
     have e4:((List.range Q).map fun c:Nat=>at_ (((css ++ [c1,c2])[c]?.getD [])[i]?.getD []) j)=(List.range Q).map fun c:Nat=>at_ ((css[c]?.getD [])[i]?.getD []) j:=List.map_congr_left fun c hc=>by rw [g0 c (List.mem_range.1 hc)]
     rw [e4,UInt8.xor_self]
   · rw [show (fun c:Nat=>Rg.Bt P Q n ((css ++ [c1,c2])[c]?.getD []) j r)=fun _=>0 from funext fun c=>by rw [(Rg.Bt.per hQ _ j).1 _ _ e];exact (Rg.Bt.per hQ _ j).2,List.map_const',Rg.xa_zero]
 · rcases Rg.row_lt hQ r with ⟨i,hi,e⟩ | e
   · rw [Rg.bt_at hQ _ j hi e,g2]
     have hG1:Grid Q n (css ++ [c1]):=fun c hc=>by
      have hc':c<P:=by rw [List.length_append] at hc;simp at hc;omega
      rw [g3 c hc']
      exact hG c (by omega)
     have hin:inL Q (css ++ [c1]).length (memL 2 (P:Int) (P:Int) (i:Int)):=memL_in ⟨by omega,d.hp⟩ (by omega) (by simp;omega)
     have e2:at_ (c2[i]?.getD []) j=dg_ (P:Int) (css ++ [c1]) j (i:Int):=by
      rw [←hc2,colL_at 2 (P:Int) n (css ++ [c1]) (P:Int) (by omega),at_uponN (hin.cells hG1 (Nat.le_refl _)) j,xa_perm ((List.isPerm_iff.1 (memDiag2 _ d.hp i (List.mem_range.2 (by omega)))).map _)]
      rfl
     have e5:(i:Int) % (P:Int)=r % (P:Int):=by rw [e,Int.emod_eq_of_lt (by omega) (by omega)]
     rw [e2,dg_bt d]
     congr 1
     refine List.map_congr_left fun c hc=>?_
     rw [g3 c (List.mem_range.1 hc)]
     exact (Rg.Bt.per hQ _ j).1 _ _ (Rg.mod_sub e5 _)
   · exact absurd (by rw [e,Rg.last_mod hQ]) hr
section
variable {P Q n:Nat} {all cs2:List (List (List UInt8))} {L:List Int}
structure BadP (P:Nat) (all cs2:List (List (List UInt8))) (L:List Int):Prop where
 hl:cs2.length=P+1
 hd:∀ c:Nat,c<P+1→(c:Int)∉L→cs2[c]?.getD []=all[c]?.getD []
theorem BadP.good (ok:PairOk P Q n all) (h:BadP P all cs2 L):∀ i:Nat,i<cs2.length→(i:Int)∉L→GoodC Q n (cs2[i]?.getD []):=fun i hi hm=>by
 have hl:=h.hl
 rw [h.hd i (by omega) hm]
 exact ok.hg i (by omega)
theorem BadP.rows (d:Rg.Dims P Q n) (ok:PairOk P Q n all) (h:BadP P all cs2 L) (j:Nat) (r:Int):Rg.Bt P Q n (rsP P Q (lostC L Q n cs2)) j r=xa ((List.range P).map fun c:Nat=>Rg.Bt P Q n (all[c]?.getD []) j r) ^^^ xa ((List.range P).map fun c:Nat=>if (c:Int)∈L then 0 else Rg.Bt P Q n (all[c]?.getD []) j r):=by
 have hl:=h.hl
 have hgl:=lostC_goods d (h.good ok)
 rw [bt_rsP d (by rw [lostC_len,h.hl]) (fun c hc=>hgl c (by omega)),ok.hR,UInt8.zero_xor]
 congr 1
 refine List.map_congr_left fun c hc=>?_
 have hc':=List.mem_range.1 hc
 rw [bt_lost d (by omega)]
 split
 · rfl
 · rename_i hm
   rw [h.hd c (by omega) hm]
theorem BadP.solves {a b:Nat} (d:Rg.Dims P Q n) (ok:PairOk P Q n all) (h:BadP P all cs2 [(a:Int),(b:Int)]) (hab:a<b) (hb:b<P):SolvesP P Q n (rsP P Q (lostC [(a:Int),(b:Int)] Q n cs2)) (dsP P Q (lostC [(a:Int),(b:Int)] Q n cs2)) (all[a]?.getD []) (all[b]?.getD []) (a:Int) (b:Int):=by
 have hl:=h.hl
 have hgl:=lostC_goods d (h.good ok)
 have hP:((P:Nat):Int)∉[(a:Int),(b:Int)]:=by simp;omega
 refine ⟨ok.hg a (by omega),ok.hg b (by omega),fun j r=>?_,fun j r hr=>?_⟩
 · rw [h.rows d ok]
   exact xa_lack2 P a b (by omega) hb (by omega) (fun c:Nat=>Rg.Bt P Q n (all[c]?.getD []) j r)
 · rw [bt_dsP d (by rw [lostC_len,h.hl]) (fun c hc=>hgl c (by omega)) j r hr,bt_lost d (by omega),if_neg hP,h.hd P (by omega) hP,ok.hD j r hr]
   have e:((List.range P).map fun c:Nat=>Rg.Bt P Q n ((lostC [(a:Int),(b:Int)] Q n cs2)[c]?.getD []) j (r - (c:Int)))=(List.range P).map fun c:Nat=>if (c:Int)∈[(a:Int),(b:Int)] then 0 else Rg.Bt P Q n (all[c]?.getD []) j (r - (c:Int)):=List.map_congr_left fun c hc=>by
    have hc':=List.mem_range.1 hc
    rw [bt_lost d (by omega)]
    split
    · rfl
    · rename_i hm
      rw [h.hd c (by omega) hm]
   rw [e]
   exact xa_lack2 P a b (by omega) hb (by omega) (fun c:Nat=>Rg.Bt P Q n (all[c]?.getD []) j (r - (c:Int)))
theorem BadP.row {b:Nat} (d:Rg.Dims P Q n) (ok:PairOk P Q n all) (h:BadP P all cs2 [(b:Int),(P:Int)]) (hb:b<P):rsP P Q (lostC [(b:Int),(P:Int)] Q n cs2)=all[b]?.getD []:=by
 have hl:=h.hl
 have hgl:=lostC_goods d (h.good ok)
 refine Rg.col_ext d.hQ (rsP_good d (by rw [lostC_len,h.hl]) (fun c hc=>hgl c (by omega))) (ok.hg b (by omega)) fun j r=>?_
 rw [h.rows d ok]
 exact xa_lack1 P b hb (fun c hc=>by simp;omega) (fun c:Nat=>Rg.Bt P Q n (all[c]?.getD []) j r)
theorem badP_two {a b:Nat} {cu cv:List (List UInt8)} (hl:all.length=P+1):BadP P all ((all.set a cu).set b cv) [(a:Int),(b:Int)] :=
 ⟨by simp [hl],fun c hc hm=>by
  have h1:c≠a∧c≠b:=by simp at hm;omega
  rw [List.getElem?_set_ne (by omega),List.getElem?_set_ne (by omega)]⟩
end
/- The places of both arms,each once. -/
def chkO (p a b:Int):Bool:=decide ((orderP p a b).length=(2 * p - 2).toNat) && decide ((armP p a b).length+(armP p b a).length=(2 * p - 2).toNat) && decide ((orderP p a b).Nodup) && (orderP p a b).all fun z=>(decide (z.1=a) || decide (z.1=b)) && decide (0≤z.2) && decide (z.2<p - 1)
theorem chkO_fin:∀ p∈prm,∀ a∈List.range 17,∀ b∈List.range 17,(a:Int)<(b:Int)→(b:Int)<p→chkO p (a:Int) (b:Int)=true:=by decide +kernel
theorem chkO_is {p:Int} (hp:p∈prm) {a b:Nat} (hab:a<b) (hb:(b:Int)<p):(orderP p (a:Int) (b:Int)).length=(2 * p - 2).toNat∧(armP p (a:Int) (b:Int)).length+(armP p (b:Int) (a:Int)).length=(2 * p - 2).toNat∧(orderP p (a:Int) (b:Int)).Nodup∧∀ z∈orderP p (a:Int) (b:Int),(z.1=(a:Int)∨z.1=(b:Int))∧0≤z.2∧z.2<p - 1:=by
 have hpb:=prm_bounds hp
 have h:=chkO_fin p hp a (List.mem_range.2 (by omega)) b (List.mem_range.2 (by omega)) (by omega) hb
 unfold chkO at h
 simp only [Bool.and_eq_true,decide_eq_true_eq] at h
 refine ⟨h.1.1.1,h.1.1.2,h.1.2,fun z hz=>?_⟩
 have h2:=List.all_eq_true.1 h.2 z hz
 simp only [Bool.and_eq_true,Bool.or_eq_true,decide_eq_true_eq] at h2
 exact ⟨h2.1.1,h2.1.2,h2.2⟩
theorem nd_new {l:List (Int×Int)} (hn:l.Nodup) {k:Nat} (hk:k<l.length):l[k]∉l.take k:=by
 intro h
 obtain ⟨i,hi,e⟩:=List.mem_iff_getElem.1 h
 rw [List.length_take] at hi
 rw [List.getElem_take] at e
 exact (List.pairwise_iff_getElem.1 hn i k (by omega) hk (by omega)) e
end Go.Proofs.YtcchjofjpflbhaaGreatDoor.Ch

namespace Go.Proofs.YtcchjofjpflbhaaGreatDoor.T
open Go.RowKit Go.Shelf Go.Maps Go.Proofs.YtcchjofjpflbhaaGreatDoor.C Go.Proofs.YtcchjofjpflbhaaGreatDoor.E Go.Proofs.YtcchjofjpflbhaaGreatDoor.Ch
attribute [local go_sem] Oper.semAt_some

end Go.Proofs.YtcchjofjpflbhaaGreatDoor.T

namespace Go.Proofs.YtcchjofjpflbhaaGreatDoor.T
open Go.RowKit Go.Shelf Go.Maps Go.Proofs.YtcchjofjpflbhaaGreatDoor.C Go.Proofs.YtcchjofjpflbhaaGreatDoor.E Go.Proofs.YtcchjofjpflbhaaGreatDoor.Ch
attribute [local go_sem] Oper.semAt_some

end Go.Proofs.YtcchjofjpflbhaaGreatDoor.T

namespace Go.Proofs.YtcchjofjpflbhaaGreatDoor.T
open Go.RowKit Go.Shelf Go.Maps Go.Proofs.YtcchjofjpflbhaaGreatDoor.C Go.Proofs.YtcchjofjpflbhaaGreatDoor.E Go.Proofs.YtcchjofjpflbhaaGreatDoor.Ch
attribute [local go_sem] Oper.semAt_some

end Go.Proofs.YtcchjofjpflbhaaGreatDoor.T

namespace Go.Proofs.YtcchjofjpflbhaaGreatDoor
open Go.RowKit Go.Shelf

end Go.Proofs.YtcchjofjpflbhaaGreatDoor

namespace Go.Proofs.YtcchjofjpflbhaaGreatDoor.T
open Go.RowKit Go.Shelf Go.Maps Go.Proofs.YtcchjofjpflbhaaGreatDoor.C Go.Proofs.YtcchjofjpflbhaaGreatDoor.E
attribute [local go_sem] Oper.semAt_some

end Go.Proofs.YtcchjofjpflbhaaGreatDoor.T

namespace Go.Proofs.YtcchjofjpflbhaaGreatDoor.T
open Go.RowKit Go.Shelf Go.Maps Go.Proofs.YtcchjofjpflbhaaGreatDoor.C Go.Proofs.YtcchjofjpflbhaaGreatDoor.E
attribute [local go_sem] Oper.semAt_some

end Go.Proofs.YtcchjofjpflbhaaGreatDoor.T

set_option linter.unusedVariables false
set_option linter.unusedSimpArgs false
set_option maxRecDepth 100000
set_option maxHeartbeats 8000000
namespace Go.Proofs.YtcchjofjpflbhaaGreatDoor.T
open Go.RowKit Go.Shelf Go.Maps Go.Proofs.YtcchjofjpflbhaaGreatDoor.C Go.Proofs.YtcchjofjpflbhaaGreatDoor.E Go.Proofs.YtcchjofjpflbhaaGreatDoor.Ch
attribute [local go_sem] Oper.semAt_some

end Go.Proofs.YtcchjofjpflbhaaGreatDoor.T

namespace Go.Proofs.YtcchjofjpflbhaaGreatDoor.T
open Go.RowKit Go.Shelf Go.Maps Go.Proofs.YtcchjofjpflbhaaGreatDoor.C Go.Proofs.YtcchjofjpflbhaaGreatDoor.E Go.Proofs.YtcchjofjpflbhaaGreatDoor.Ch
attribute [local go_sem] Oper.semAt_some

theorem enter_pRow1:∀ args W,(callFunc 71 args).run Tryz.prog W = .ok (.enter 71 args) W:=enters_of Tryz.func71 (by kernel_rfl) rfl
theorem pgood_one {p a:Int} (ha:0≤a) (hb:a<p):∀ i,i < [a].length→Pr.GoodL p [a] i:=by
 intro i hi
 obtain rfl:i=0:=by simp at hi;omega
 exact ⟨⟨ha,hb⟩,.inl rfl⟩
theorem pone_cell {V:World} {g:Nat} {a:Int} (h:Blk V g 3 #[.int .i64 a]):∀ j,j < [a].length→V.cell? ⟨g,j,none⟩=some (.int .i64 ([a][j]?.getD 0)):=by
 intro j hj
 obtain rfl:j=0:=by simp at hj;omega
 exact h.cell 0
theorem pone_vals {V:World} {g:Nat} {a:Int} (h:Blk V g 3 #[.int .i64 a]):Vals V.heap.size V (.slice (some ⟨g,0,none⟩) 1 1) ([a].map (Value.int .i64)):=.inr ⟨g,0,1,rfl,by simp,h.lt,fun j u hu=>by
 rcases j with _ | j
 · simp at hu;subst hu;exact h.cell 0
 · simp at hu⟩
theorem pRow_yes {B P Q n:Nat} (d:Rg.Dims P Q n) (a:Int) (ha:0≤a) (haP:a<(P:Int)) (css:List (List (List UInt8))) (N:Nat) (hcl:css.length=N) (hN:N=P+1) (hgood:∀ i,i<css.length→(i:Int)∉[a,(P:Int)]→GoodC Q n (css[i]?.getD [])) (vA:Option Addr) (vc:Nat) (w:World) (hL:Laid w) (hB:B≤w.heap.size) (hC:Cols B w (.slice vA N vc) css) :
 Calls Tryz.prog 29 #[.int .i64 (P:Int),.slice vA N vc,.int .i64 a] w fun e w'=>∃ u,e = .returned (.tuple #[u,.int .i64 0])∧Many w'.heap.size w' u (rsP P Q (lostC [a,(P:Int)] Q n css))∧Below w.heap.size w w':=by
 have hQ:=d.hQ
 have hpb:=prm_bounds d.hp
 obtain ⟨W2,hW2⟩:∃ x,((w.alloc (.cells #[.int .i64 (P:Int)] 3)).alloc (.cells #[.slice vA N vc] 40)).alloc (.cells #[.int .i64 a] 3)=x:=⟨_,rfl⟩
 have b0:Blk W2 (w.heap.size) 3 #[.int .i64 (P:Int)]:=by rw [←hW2];exact ((Blk.new w _ _).alloc _).alloc _
 have b1:Blk W2 (w.heap.size+1) 40 #[.slice vA N vc]:=by rw [←hW2];exact (Blk.second w _ _ _).alloc _
 have b2:Blk W2 (w.heap.size+1+1) 3 #[.int .i64 a]:=by rw [←hW2];exact Rg.Blk.at_ (Blk.new _ _ _) (by simp)
 have hBW:Below w.heap.size w W2:=by rw [←hW2];exact ((below_two w _ _)).alloc (by simp;omega) _
 obtain ⟨W2b,hW2b⟩:∃ x,w.heap.size=x:=⟨_,rfl⟩
 obtain ⟨W2c,hW2c⟩:∃ x,w.heap.size+1=x:=⟨_,rfl⟩
 obtain ⟨W2d,hW2d⟩:∃ x,w.heap.size+1+1=x:=⟨_,rfl⟩
 have HA:=Lib.hid (Pr.ans_C_yes 71 #[.pointer (some ⟨w.heap.size,0,none⟩),.pointer (some ⟨w.heap.size+1,0,none⟩),.pointer (some ⟨w.heap.size+1+1,0,none⟩)] W2 (fun u W=>∃ x y z,u = .slice x y z∧Many W.heap.size W u (rsP P Q (lostC [a,(P:Int)] Q n css))) (enter_pRow1 _) (fun U hU bU=>by
  have hBU:=below_in hBW hU
  have HAS:=Lib.hid (fun (V:World) (g:Nat) (hV:Below U.heap.size U V) (bE:Blk V g 3 #[.int .i64 a])=>Pr.asked_yes (P:Int) d.hp vA N vc (by omega) g [a] (by simp) (pgood_one ha haP) V (hL.next (below_in hBU hV)) bE.lt (pone_cell bE))
  obtain ⟨i0,hi0,hm0⟩:∃ i:Nat,i<P∧(i:Int)≠a:=by
   by_cases h:a=0
   · exact ⟨1,by omega,by omega⟩
   · exact ⟨0,by omega,by omega⟩
  have hk0:0<(kept ([a] ++ [(P:Int)]) css css.length).length:=kept_pos (i:=i0) (by omega) (by simp;omega)
  have hrg:∀ x∈[a] ++ [(P:Int)],0≤x∧x<(css.length:Int):=by intro x hx;simp at hx;rcases hx with rfl | rfl <;> omega
  have HOF:=Lib.hid (fun (V:World) (gl gE:Nat) (hV:Below U.heap.size U V) (bL:Blk V gl 3 #[.int .i64 a]) (bE:Blk V gE 3 #[.int .i64 (P:Int)])=>(by
   have h:=pOf_yes (B:=B) P Q d.hQ d.hp [a] [(P:Int)] ⟨by simp,by simp⟩ (by simp) gl css N hcl (by omega) (by omega) vA vc (some ⟨gE,0,none⟩) 1 V (hL.next (below_in hBU hV)) (Nat.le_trans hB (below_in hBU hV).size) bL.lt (pone_cell bL) (pone_vals bE) (hC.below ((below_in hBU hV).mono hB)) n d hN (by rw [←hcl];exact hrg) hk0 (fun i hi hm=>hgood i hi hm)
   exact h:Calls Tryz.prog 62 #[.agg #[.int .i64 2,.int .i64 (P:Int),.slice (some ⟨gl,0,none⟩) 1 1],.slice vA N vc,.slice (some ⟨gE,0,none⟩) 1 1] V fun e w'=>∃ A1 k1 A2 k2 nA nc,e = .returned (.agg #[.int .i64 2,.int .i64 (P:Int),.slice (some ⟨gl,0,none⟩) 1 1,.slice A1 Q k1,.slice A2 Q k2,.slice nA n nc])∧Many w'.heap.size w' (.slice A1 Q k1) (rsP P Q (lostC [a,(P:Int)] Q n css))∧Many w'.heap.size w' (.slice A2 Q k2) (dsP P Q (lostC [a,(P:Int)] Q n css))∧Bytes w'.heap.size w' (.slice nA n nc) (List.replicate n 0)∧Below V.heap.size V w'))
  have b0x:=b0.below hU b0.lt
  have b1x:=b1.below hU b1.lt
  have b2x:=b2.below hU b2.lt
  rw [hW2b] at b0x
  rw [hW2c] at b1x
  rw [hW2d] at b2x
  have j0:=b0x.one
  have j1:=b1x.one
  have j2:=b2x.one
  rw [hW2d,hW2c,hW2b]
  have HBU:=Lib.hid hBU
  clear b0 b1 b2 hW2 hL hW2d hW2c hW2b bU ha haP hcl hN hgood hC hB hk0 hrg hi0 hm0 d hQ hpb hBU
  refine (callsIn_wide (n:=9)).1 ?_
  refine callsIn_of_wp_marks Tryz.func71 rfl trivial ?_ rfl
  simp only [Tryz.ntmps71,List.size_toArray,List.length_cons,List.length_nil,Nat.reduceAdd,Nat.reduceSub,Array.replicate_succ,Array.replicate_zero,List.push_toArray,List.append_toArray,List.nil_append,List.cons_append]
  gi_wp2_with fail
  have hBe:=below_one U (.cells #[.int .i64 a] 3)
  have bL:=Blk.new U 3 #[.int .i64 a]
  obtain ⟨wl,hwl⟩:∃ x,U.alloc (.cells #[.int .i64 a] 3)=x:=⟨_,rfl⟩
  obtain ⟨gl,hgl⟩:∃ x,U.heap.size=x:=⟨_,rfl⟩
  rw [hwl] at hBe bL ⊢
  rw [hgl] at bL ⊢
  refine ⟨trivial,(callsIn_wide.2 (HAS.out wl gl hBe bL)).mono ?_⟩
  rintro e w5 ⟨rfl,hB5⟩
  have hBu5:=below_in hBe hB5
  replace bL:=bL.below hB5 bL.lt
  gi_wp2_with fail
  have hB6:=below_one w5 (.cells #[.int .i64 2,.int .i64 (P:Int),.slice (some ⟨gl,0,none⟩) 1 1] 90)
  have b6:=Blk.new w5 90 #[.int .i64 2,.int .i64 (P:Int),.slice (some ⟨gl,0,none⟩) 1 1]
  obtain ⟨w6,hw6⟩:∃ x,w5.alloc (.cells #[.int .i64 2,.int .i64 (P:Int),.slice (some ⟨gl,0,none⟩) 1 1] 90)=x:=⟨_,rfl⟩
  obtain ⟨g6,hg6⟩:∃ x,w5.heap.size=x:=⟨_,rfl⟩
  rw [hw6] at hB6 b6 ⊢
  rw [hg6] at b6 ⊢
  have hBx6:=below_in hBu5 hB6
  replace bL:=bL.below hB6 bL.lt
  replace b1x:=b1x.below hBx6 b1x.lt
  have hbl:=b1x.lt
  have HSS:Hid (∀ V,Below w6.heap.size w6 V→(fun U:World=>U.cell? ⟨W2c,0,none⟩=some (.slice vA N vc)∧U.cell? ⟨g6,0,none⟩=some (.int .i64 2)∧U.cell? ⟨g6,1,none⟩=some (.int .i64 (P:Int))∧U.cell? ⟨g6,2,none⟩=some (.slice (some ⟨gl,0,none⟩) 1 1)) V):=fun V hV=>by
   have h6:=b6.below hV b6.lt
   exact ⟨(b1x.below hV b1x.lt).one,h6.cell 0,h6.cell 1,h6.cell 2⟩
  have hBx:=(Below.refl w6.heap.size w6).drew
  replace bL:=bL.below hBx bL.lt
  have hS:=HSS.out _ hBx
  clear b1x b6 hB6 hBu5 hB5 hBe j0 j1 j2 hw6 hg6 hwl hgl b0x b2x
  (try gi_wp2_with fail)
  refine wpIn_mono (region_HF (Q:=NoPanic _) (S:=(fun U:World=>U.cell? ⟨W2c,0,none⟩=some (.slice vA N vc)∧U.cell? ⟨g6,0,none⟩=some (.int .i64 2)∧U.cell? ⟨g6,1,none⟩=some (.int .i64 (P:Int))∧U.cell? ⟨g6,2,none⟩=some (.slice (some ⟨gl,0,none⟩) 1 1))) (by kernel_rfl) ?_) NoPanic.imp
  refine tkF (i:=0) (d:=10) (v:=.agg #[.int .i64 2,.int .i64 (P:Int),.slice (some ⟨gl,0,none⟩) 1 1]) (s:=hS) (c:=?_)
  simp only [ud9]
  refine tkF (i:=1) (d:=11) (v:=.slice vA N vc) (s:=hS) (c:=?_)
  simp only [ud9]
  refine tkF (i:=2) (d:=12) (v:=.agg #[.int .i64 2,.int .i64 (P:Int),.slice (some ⟨gl,0,none⟩) 1 1]) (s:=hS) (c:=?_)
  simp only [ud9]
  refine oneF (i:=3) (c:=?_)
  gi_wp2_with fail
  refine ⟨trivial,(callsIn_wide.2 (Pr.diagonalsAt_any (P:Int) (some ⟨gl,0,none⟩) 1 1 _)).mono ?_⟩
  rintro e v1 ⟨rfl,hB⟩
  replace bL:=bL.below hB bL.lt
  replace hBx:=below_in hBx hB
  clear hS
  have hS:(fun U:World=>U.cell? ⟨W2c,0,none⟩=some (.slice vA N vc)∧U.cell? ⟨g6,0,none⟩=some (.int .i64 2)∧U.cell? ⟨g6,1,none⟩=some (.int .i64 (P:Int))∧U.cell? ⟨g6,2,none⟩=some (.slice (some ⟨gl,0,none⟩) 1 1)) v1:=HSS.out _ hBx
  clear hB
  gi_wp2
  try (refine ⟨hS,?_⟩)
  refine oneF (i:=4) (c:=?_)
  have hgl_g3:=hBx.size
  have hB:Below v1.heap.size v1 (v1.alloc (.cells #[.int .i64 (P:Int)] 3)):=below_one v1 _
  have bE:Blk (v1.alloc (.cells #[.int .i64 (P:Int)] 3)) v1.heap.size 3 #[.int .i64 (P:Int)]:=Blk.new v1 _ _
  obtain ⟨v2,he_v2⟩:∃ x,(v1.alloc (.cells #[.int .i64 (P:Int)] 3))=x:=⟨_,rfl⟩
  obtain ⟨g3,hg_g3⟩:∃ x,v1.heap.size=x:=⟨_,rfl⟩
  rw [he_v2] at hB bE
  rw [hg_g3] at bE
  replace bL:=bL.below hB bL.lt
  replace hBx:=below_in hBx hB
  clear hS
  have hS:(fun U:World=>U.cell? ⟨W2c,0,none⟩=some (.slice vA N vc)∧U.cell? ⟨g6,0,none⟩=some (.int .i64 2)∧U.cell? ⟨g6,1,none⟩=some (.int .i64 (P:Int))∧U.cell? ⟨g6,2,none⟩=some (.slice (some ⟨gl,0,none⟩) 1 1)) v2:=HSS.out _ hBx
  gi_wp2
  (try rw [hg_g3]);(try rw [he_v2])
  try (refine ⟨hS,?_⟩)
  clear hB he_v2 hg_g3
  refine oneF (i:=5) (c:=?_)
  gi_wp2_with fail
  refine ⟨trivial,(callsIn_wide.2 (HOF.out _ gl g3 (below_in hBx6 hBx) bL bE)).mono ?_⟩
  rintro e v4 ⟨A1,k1,A2,k2,nA,nc,rfl,hCl,hCl2,hNo,hB⟩
  clear hCl2 hNo
  replace bL:=bL.below hB bL.lt
  replace bE:=bE.below hB bE.lt
  replace hBx:=below_in hBx hB
  clear hS
  have hS:(fun U:World=>U.cell? ⟨W2c,0,none⟩=some (.slice vA N vc)∧U.cell? ⟨g6,0,none⟩=some (.int .i64 2)∧U.cell? ⟨g6,1,none⟩=some (.int .i64 (P:Int))∧U.cell? ⟨g6,2,none⟩=some (.slice (some ⟨gl,0,none⟩) 1 1)) v4:=HSS.out _ hBx
  clear hB
  gi_wp2
  try (refine ⟨hS,?_⟩)
  refine oneF (i:=6) (c:=?_)
  gi_wp2_with fail
  refine ⟨trivial,(callsIn_wide.2 (pAlone_any (.slice A1 Q k1) (.slice A2 Q k2) (.slice nA n nc) (P:Int) (some ⟨gl,0,none⟩) 1 1 rfl _)).mono ?_⟩
  rintro e v5 ⟨rfl,hB⟩
  replace bL:=bL.below hB bL.lt
  replace bE:=bE.below hB bE.lt
  replace hCl:=(hCl.below hB).more hB.size
  replace hBx:=below_in hBx hB
  clear hS
  have hS:(fun U:World=>U.cell? ⟨W2c,0,none⟩=some (.slice vA N vc)∧U.cell? ⟨g6,0,none⟩=some (.int .i64 2)∧U.cell? ⟨g6,1,none⟩=some (.int .i64 (P:Int))∧U.cell? ⟨g6,2,none⟩=some (.slice (some ⟨gl,0,none⟩) 1 1)) v5:=HSS.out _ hBx
  clear hB
  gi_wp2
  try (refine ⟨hS,?_⟩)
  refine oneF (i:=7) (c:=?_)
  gi_wp2
  refine anyHF_done (by kernel_rfl) ?_ _
  refine NoPanic.normal ?_
  clear hS
  gi_wp2_with fail
  exact ⟨_,by simp [results,Tryz.results71,go_sem],_,rfl,⟨_,_,_,rfl,hCl⟩,below_in hBx6 hBx⟩))
 clear b0 b1 b2 hL hW2d hW2c hW2b ha haP hcl hN hgood hC hB d hQ hpb
 go_enter Tryz.func29,Tryz.ntmps29
 have hmf:∀ (fn:Fn) (first cap:Array Value) (w:World),(Instr.makeFunc fn first cap).run Tryz.prog w = .ok (.func fn first cap) w:=fun _ _ _ _=>rfl
 go_wp2_with (go_at_call 70;refine HA.out.mono ?_;rintro e w1 ⟨u,W,rfl,⟨uA,un,uc,rfl,hu⟩,bE,rfl,hB1⟩)
 go_ret2
 exact ⟨_,rfl,(many_num hu bE).more (by simp),below_in hBW hB1⟩
end Go.Proofs.YtcchjofjpflbhaaGreatDoor.T

namespace Go.Proofs.YtcchjofjpflbhaaGreatDoor.T
open Go.RowKit Go.Shelf Go.Maps Go.Proofs.YtcchjofjpflbhaaGreatDoor.C Go.Proofs.YtcchjofjpflbhaaGreatDoor.E Go.Proofs.YtcchjofjpflbhaaGreatDoor.Ch Go.Proofs.YtcchjofjpflbhaaGreatDoor.Rg
attribute [local go_sem] Oper.semAt_some

end Go.Proofs.YtcchjofjpflbhaaGreatDoor.T

namespace Go.Proofs.YtcchjofjpflbhaaGreatDoor.Cd
open Go.RowKit Go.Shelf Go.Proofs.YtcchjofjpflbhaaGreatDoor.C Go.Proofs.YtcchjofjpflbhaaGreatDoor.E Go.ChangeShapes Go.WideShapes

end Go.Proofs.YtcchjofjpflbhaaGreatDoor.Cd

