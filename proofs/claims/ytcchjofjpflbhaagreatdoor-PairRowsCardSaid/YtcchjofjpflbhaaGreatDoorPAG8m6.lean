/- -/
import Derived.Test.YtcchjofjpflbhaaGreatDoorPAG4m6
import Derived.Test.YtcchjofjpflbhaaGreatDoorPAG8m7
set_option linter.unusedVariables false
set_option linter.unusedSimpArgs false
set_option maxRecDepth 100000
set_option maxHeartbeats 4000000
namespace Go.Proofs.YtcchjofjpflbhaaGreatDoor.Pr
open Go.RowKit Go.Shelf Go.Proofs.YtcchjofjpflbhaaGreatDoor.C Go.Proofs.YtcchjofjpflbhaaGreatDoor.E
attribute [local go_sem] Oper.semAt_some

theorem sureI_no (n y:Int) (hy:(y == 0)=false) (w:World):Calls Tryz.prog 109 #[.int .i64 n,.int .i64 y] w fun e w'=>e = .panicked (gave y)∧w=w':=by
 go_enter Tryz.func109,Tryz.ntmps109
 go_wp2_with (go_at_call 98;refine (need_no _ _).mono ?_;rintro e w1 ⟨rfl,rfl⟩)
 exact ⟨rfl,rfl,rfl⟩
theorem asked_no4 (p:Int) (hp:p∈prm) (A:Option Addr) (N cap:Nat) (hN:(N:Int)=p+1) (g:Nat) (ls:List Int) (hls:ls.length≤1000) (z:Nat) (hz:z<ls.length) (hgood:∀ i,i<z→GoodL p ls i) (hbad:¬ GoodL p ls z) (w:World) (hL:Laid w) (hg:g<w.heap.size) (hcell:∀ j,j<ls.length→w.cell? ⟨g,j,none⟩=some (.int .i64 (ls[j]?.getD 0))) :
 Calls Tryz.prog 61 #[.int .i64 p,.slice A N cap,.slice (some ⟨g,0,none⟩) ls.length ls.length] w fun e w'=>e = .panicked (gave 4)∧Below w.heap.size w w':=by
 have HCO:=Lib.hid (fun W (hW:Laid W)=>(shapeCols_any 2 p W hW).mono fun _ _ h=>(⟨h.1 (rightC2 hp),h.2.2⟩:_∧_))
 rw [show shortN 2=1 from rfl,show madeN 2=2 from rfl,show p - 1+2=p+1 by omega] at HCO
 have HLO:=Lib.hid (fun (W:World) (hB:Below w.heap.size w W)=>losing_no p hp g ls hls z hz hgood hbad W (hL.next hB) (Nat.lt_of_lt_of_le hg hB.size) (fun j hj=>(hB.cell (p:=⟨g,j,none⟩) hg).trans (hcell j hj)))
 have he:((N:Int) == p+1)=true:=by simp;omega
 obtain ⟨w0,hw0⟩:∃ z,w.alloc (.cells #[.int .i64 0,.int .i64 0,.slice none 0 0] 90)=z:=⟨_,rfl⟩
 have bz:Blk w0 w.heap.size 90 #[.int .i64 0,.int .i64 0,.slice none 0 0]:=by rw [←hw0];exact Blk.new w _ _
 have hB0:Below w.heap.size w w0:=by rw [←hw0];exact below_one w _
 have HW:=Lib.hid hw0
 have HLW:=Lib.hid (fun (U:World) (hU:Below w.heap.size w U)=>hL.next hU)
 clear hcell hgood hp hN hbad hz hL hw0
 generalize p+1=q at *
 generalize ls.length=n at *
 go_enter Tryz.func61,Tryz.ntmps61
 go_wp2_with fail
 (try rw [HW.out])
 refine (codeOf_any p _).mono ?_
 rintro e w1 ⟨rfl,hB1⟩
 replace bz:=bz.below hB1 bz.lt
 have hBw1:=below_in hB0 hB1
 go_wp2_with fail
 refine (HCO.out _ (HLW.out _ hBw1)).mono ?_
 rintro e w2 ⟨rfl,hB2⟩
 replace bz:=bz.below hB2 bz.lt
 replace hBw1:=below_in hBw1 hB2
 go_wp2_with fail
 refine (sureI _ _).mono ?_
 rintro e w3 ⟨rfl,rfl⟩
 go_wp2_with fail
 refine (need_yes _ _).mono ?_
 rintro e w4 ⟨rfl,rfl⟩
 go_wp2_with fail
 refine (HLO.out _ hBw1).mono ?_
 rintro e w5 ⟨rfl,hB5⟩
 exact ⟨rfl,rfl,below_in hBw1 hB5⟩
theorem asked_no2 (p:Int) (A B:Option Addr) (N cap n m:Nat) (hno:¬ (p∈prm∧(N:Int)=p+1)) (w:World) (hL:Laid w) :
 Calls Tryz.prog 61 #[.int .i64 p,.slice A N cap,.slice B n m] w fun e w'=>e = .panicked (gave 2)∧Below w.heap.size w w':=by
 obtain ⟨w0,hw0⟩:∃ z,w.alloc (.cells #[.int .i64 0,.int .i64 0,.slice none 0 0] 90)=z:=⟨_,rfl⟩
 have bz:Blk w0 w.heap.size 90 #[.int .i64 0,.int .i64 0,.slice none 0 0]:=by rw [←hw0];exact Blk.new w _ _
 have hB0:Below w.heap.size w w0:=by rw [←hw0];exact below_one w _
 have HW:=Lib.hid hw0
 have HLW:=Lib.hid (fun (U:World) (hU:Below w.heap.size w U)=>hL.next hU)
 by_cases hp:p∈prm
 · have HCO:=Lib.hid (fun W (hW:Laid W)=>(shapeCols_any 2 p W hW).mono fun _ _ h=>(⟨h.1 (rightC2 hp),h.2.2⟩:_∧_))
   rw [show shortN 2=1 from rfl,show madeN 2=2 from rfl,show p - 1+2=p+1 by omega] at HCO
   have he:((N:Int) == p+1)=false:=by
    rw [beq_eq_false_iff_ne]
    exact fun h=>hno ⟨hp,h⟩
   clear hno hp hL hw0
   generalize p+1=q at *
   go_enter Tryz.func61,Tryz.ntmps61
   go_wp2_with fail
   (try rw [HW.out])
   refine (codeOf_any p _).mono ?_
   rintro e w1 ⟨rfl,hB1⟩
   replace bz:=bz.below hB1 bz.lt
   have hBw1:=below_in hB0 hB1
   go_wp2_with fail
   refine (HCO.out _ (HLW.out _ hBw1)).mono ?_
   rintro e w2 ⟨rfl,hB2⟩
   replace bz:=bz.below hB2 bz.lt
   replace hBw1:=below_in hBw1 hB2
   go_wp2_with fail
   refine (sureI _ _).mono ?_
   rintro e w3 ⟨rfl,rfl⟩
   go_wp2_with fail
   refine (need_no _ _).mono ?_
   rintro e w4 ⟨rfl,rfl⟩
   exact ⟨rfl,rfl,hBw1⟩
 · have HCO:=Lib.hid (fun W (hW:Laid W)=>(shapeCols_any 2 p W hW).mono fun _ _ h=>(⟨h.2.1 (fun h=>hp h.2),h.2.2⟩:_∧_))
   clear hno hp hL hw0
   go_enter Tryz.func61,Tryz.ntmps61
   go_wp2_with fail
   (try rw [HW.out])
   refine (codeOf_any p _).mono ?_
   rintro e w1 ⟨rfl,hB1⟩
   replace bz:=bz.below hB1 bz.lt
   have hBw1:=below_in hB0 hB1
   go_wp2_with fail
   refine (HCO.out _ (HLW.out _ hBw1)).mono ?_
   rintro e w2 ⟨rfl,hB2⟩
   replace bz:=bz.below hB2 bz.lt
   replace hBw1:=below_in hBw1 hB2
   go_wp2_with fail
   refine (sureI_no _ 2 rfl _).mono ?_
   rintro e w3 ⟨rfl,rfl⟩
   exact ⟨rfl,rfl,hBw1⟩
end Go.Proofs.YtcchjofjpflbhaaGreatDoor.Pr
