/- -/
import Derived.Test.YtcchjofjpflbhaaGreatDoorPAG7m1
import Derived.Test.YtcchjofjpflbhaaGreatDoorPAG8m7
set_option linter.unusedVariables false
set_option linter.unusedSimpArgs false
set_option maxRecDepth 100000
set_option maxHeartbeats 4000000
namespace Go.Proofs.YtcchjofjpflbhaaGreatDoor.Pr
open Go.RowKit Go.Shelf Go.Proofs.YtcchjofjpflbhaaGreatDoor.C Go.Proofs.YtcchjofjpflbhaaGreatDoor.E
attribute [local go_sem] Oper.semAt_some

theorem losing_no2 (p:Int) (hp:p∉prm) (A:Option Addr) (n c:Nat) (w:World) (hL:Laid w) :
 Calls Tryz.prog 53 #[.int .i64 p,.slice A n c] w fun e w'=>e = .panicked (gave 2)∧Below w.heap.size w w':=by
 have HCK:=Lib.hid (fun W (hW:Laid W)=>(shapeCheck_any 2 p W hW).mono fun e w' h=>And.intro (h.2.1 (fun h=>hp h.2)) h.2.2)
 obtain ⟨w0,hw0⟩:∃ z,w.alloc (.cells #[.int .i64 0,.int .i64 0,.slice none 0 0] 90)=z:=⟨_,rfl⟩
 have hB0:Below w.heap.size w w0:=by rw [←hw0];exact below_one w _
 have HW:=Lib.hid hw0
 have HLW:=Lib.hid (fun (U:World) (hU:Below w.heap.size w U)=>hL.next hU)
 clear hp hL hw0
 go_enter Tryz.func53,Tryz.ntmps53
 go_wp2_with fail
 (try rw [HW.out])
 refine (codeOf_any p _).mono ?_
 rintro e w1 ⟨rfl,hB1⟩
 have hBw1:=below_in hB0 hB1
 have hA2:=below_one w1 (.cells #[.int .i64 2,.int .i64 p,.slice A n c] 90)
 obtain ⟨w2,hw2⟩:∃ z,w1.alloc (.cells #[.int .i64 2,.int .i64 p,.slice A n c] 90)=z:=⟨_,rfl⟩
 obtain ⟨gl,hgl⟩:∃ z,w1.heap.size=z:=⟨_,rfl⟩
 have bl:Blk w2 gl 90 #[.int .i64 2,.int .i64 p,.slice A n c]:=by rw [←hw2,←hgl];exact Blk.new w1 _ _
 rw [hw2] at hA2
 have hBw2:=below_in hBw1 hA2
 have k0:=bl.cell 0
 have k1:=bl.cell 1
 simp only [gz9] at k0 k1
 have HW2:=Lib.hid (And.intro hw2 hgl)
 clear hB1 hBw1 hB0 hA2 hw2 hgl
 go_wp2_with fail
 (try rw [HW2.out.1]);(try rw [HW2.out.2])
 refine (HCK.out _ (HLW.out _ hBw2)).mono ?_
 rintro e w3 ⟨rfl,hB3⟩
 go_wp2_with fail
 refine (need_no _ _).mono ?_
 rintro e w4 ⟨rfl,rfl⟩
 exact ⟨rfl,rfl,below_in hBw2 hB3⟩
end Go.Proofs.YtcchjofjpflbhaaGreatDoor.Pr
