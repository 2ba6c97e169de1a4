/- -/
import Derived.Test.YtkllhjhkcipkoaaGreatDoorTHG29
import Derived.Test.YtkllhjhkcipkoaaGreatDoorTHG31
import Derived.Test.YtkllhjhkcipkoaaGreatDoorCards
import Derived.Test.YtkllhjhkcipkoaaGreatDoorTie
import Derived.SevenTiedAt
namespace Go.Proofs.YtkllhjhkcipkoaaGreatDoor.tripleHolds
open Go.ChangeShapes Go.WideShapes Go.ChangeAt Go.RowKit Go.Shelf
set_option linter.unusedVariables false
set_option linter.unusedSimpArgs false
attribute [local go_sem] Oper.semAt_some

open Go.Proofs.YtkllhjhkcipkoaaGreatDoor.E Go.Proofs.YtkllhjhkcipkoaaGreatDoor.C Go.Proofs.YtkllhjhkcipkoaaGreatDoor.T Go.Proofs.YtkllhjhkcipkoaaGreatDoor.Ch Go.Proofs.YtkllhjhkcipkoaaGreatDoor.Tr in
set_option maxRecDepth 100000 in
set_option maxHeartbeats 8000000 in
theorem riseD (p:Int) (g:Nat) (x0 x1 x2:Int) (b:Bool) (hb:RiseOk p [x0,x1,x2]↔b=true) (U:World) (h:Blk U g 23 #[.int .i64 x0,.int .i64 x1,.int .i64 x2]) :
    Calls Tryz.prog 23 #[.int .i64 p,.slice (some ⟨g,0,none⟩) 3 3] U fun e w'=>e = .returned (.bool b)∧Below U.heap.size U w' :=
  (rise13_any p g 0 3 [x0,x1,x2] 3 rfl (by omega) U h.lt (fun j hj=>by rw [Nat.zero_add];exact cells3 h j hj)).mono fun e w' ⟨⟨r,he,hr⟩,hB⟩=>⟨by
    rw [he]
    have e1:r=b:=by
      cases r <;> cases b
      · rfl
      · exact absurd (hr.1 (hb.2 rfl)) (by simp)
      · exact absurd (hb.1 (hr.2 rfl)) (by simp)
      · rfl
    rw [e1],hB⟩
open Go.Proofs.YtkllhjhkcipkoaaGreatDoor.E Go.Proofs.YtkllhjhkcipkoaaGreatDoor.C Go.Proofs.YtkllhjhkcipkoaaGreatDoor.T Go.Proofs.YtkllhjhkcipkoaaGreatDoor.Ch Go.Proofs.YtkllhjhkcipkoaaGreatDoor.Tr in
set_option maxRecDepth 100000 in
set_option maxHeartbeats 8000000 in
theorem nf (p:Int) (v:Value) (css:List (List (List UInt8))) (x0 x1 x2 s:Int) (vj:Value) (cj:List (List UInt8)) (w:World) (hL:Laid w) (wp:-9223372036854775808≤p∧p≤9223372036854775807) (hC:Cols w.heap.size w v css) (wx:-9223372036854775808≤x0∧x0≤9223372036854775807) (wy:-9223372036854775808≤x1∧x1≤9223372036854775807) (wz:-9223372036854775808≤x2∧x2≤9223372036854775807) (ws:-9223372036854775808≤s∧s≤9223372036854775807) (hJ:Many w.heap.size w vj cj) (hf:¬ Few6 css) :
    Calls Tryz.prog 6 #[.int .i64 p,v,.agg #[.int .i64 x0,.int .i64 x1,.int .i64 x2],.int .i64 s,vj] w fun e w'=>e = .returned (.bool true)∧Below w.heap.size w w':=by
  obtain ⟨w0,hw0⟩:∃ x,w.alloc (.cells #[.int .i64 x0,.int .i64 x1,.int .i64 x2] 23)=x:=⟨_,rfl⟩
  obtain ⟨g0,hg0⟩:∃ g,w.heap.size=g:=⟨_,rfl⟩
  have b0:Blk w0 g0 23 #[.int .i64 x0,.int .i64 x1,.int .i64 x2]:=by rw [←hw0,←hg0];exact Blk.new w _ _
  have hB0:Below w.heap.size w w0:=by rw [←hw0];exact below_one w _
  have HW0:=Lib.hid hw0
  have HG0:=Lib.hid hg0
  have HLW:=Lib.hid (fun (U:World) (hU:Below w.heap.size w U)=>hL.next hU)
  have hs0:w.heap.size<w0.heap.size:=by rw [hg0];exact b0.lt
  obtain ⟨A,cap,rfl,_,_⟩:=id hC
  have hBw:=hB0
  have hBW0:=Below.refl w0.heap.size w0
  have HF:=Lib.hid (fun (U:World) (hU:Below w.heap.size w U)=>few6_any _ css U (hC.below hU) false (by simp [hf]))
  clear hL hw0 hg0 hs0 hC hJ hf
  generalize css.length=N at *
  go_enter Tryz.func6,Tryz.ntmps6
  have k0:w0.cell? ⟨g0,0,none⟩=some (.int .i64 x0):=b0.cell 0
  have k1:w0.cell? ⟨g0,1,none⟩=some (.int .i64 x1):=b0.cell 1
  have k2:w0.cell? ⟨g0,2,none⟩=some (.int .i64 x2):=b0.cell 2
  go_wp2_with fail
  (try rw [HW0.out]);(try rw [HG0.out])
  refine (HF.out _ hBw).mono ?_
  rintro e w' ⟨rfl,rfl⟩
  go_wp2_with fail
  refine (works13_any _ (HLW.out _ hBw)).mono ?_
  rintro e wz ⟨rfl,hBz⟩
  go_wp2
  go_ret
  exact ⟨rfl,below_in hBw hBz⟩
open Go.Proofs.YtkllhjhkcipkoaaGreatDoor.E Go.Proofs.YtkllhjhkcipkoaaGreatDoor.C Go.Proofs.YtkllhjhkcipkoaaGreatDoor.T Go.Proofs.YtkllhjhkcipkoaaGreatDoor.Ch Go.Proofs.YtkllhjhkcipkoaaGreatDoor.Tr in
set_option maxRecDepth 100000 in
set_option maxHeartbeats 8000000 in
theorem nr (p:Int) (v:Value) (css:List (List (List UInt8))) (x0 x1 x2 s:Int) (vj:Value) (cj:List (List UInt8)) (w:World) (hL:Laid w) (wp:-9223372036854775808≤p∧p≤9223372036854775807) (hC:Cols w.heap.size w v css) (wx:-9223372036854775808≤x0∧x0≤9223372036854775807) (wy:-9223372036854775808≤x1∧x1≤9223372036854775807) (wz:-9223372036854775808≤x2∧x2≤9223372036854775807) (ws:-9223372036854775808≤s∧s≤9223372036854775807) (hJ:Many w.heap.size w vj cj) (hf:Few6 css) (hr:¬ RightD p css) :
    Calls Tryz.prog 6 #[.int .i64 p,v,.agg #[.int .i64 x0,.int .i64 x1,.int .i64 x2],.int .i64 s,vj] w fun e w'=>e = .returned (.bool true)∧Below w.heap.size w w':=by
  obtain ⟨w0,hw0⟩:∃ x,w.alloc (.cells #[.int .i64 x0,.int .i64 x1,.int .i64 x2] 23)=x:=⟨_,rfl⟩
  obtain ⟨g0,hg0⟩:∃ g,w.heap.size=g:=⟨_,rfl⟩
  have b0:Blk w0 g0 23 #[.int .i64 x0,.int .i64 x1,.int .i64 x2]:=by rw [←hw0,←hg0];exact Blk.new w _ _
  have hB0:Below w.heap.size w w0:=by rw [←hw0];exact below_one w _
  have HW0:=Lib.hid hw0
  have HG0:=Lib.hid hg0
  have HLW:=Lib.hid (fun (U:World) (hU:Below w.heap.size w U)=>hL.next hU)
  have hs0:w.heap.size<w0.heap.size:=by rw [hg0];exact b0.lt
  obtain ⟨A,cap,rfl,_,_⟩:=id hC
  have hBw:=hB0
  have hBW0:=Below.refl w0.heap.size w0
  have HF:=Lib.hid (fun (U:World) (hU:Below w.heap.size w U)=>few6_any _ css U (hC.below hU) true (by simp [hf]))
  have HR:=Lib.hid (fun (U:World) (hU:Below w.heap.size w U)=>right6_any p _ css U hU.size (hC.below hU) (by have:=hf.1;omega) false (by simp [hr]))
  clear hL hw0 hg0 hs0 hC hJ hf hr
  generalize css.length=N at *
  go_enter Tryz.func6,Tryz.ntmps6
  have k0:w0.cell? ⟨g0,0,none⟩=some (.int .i64 x0):=b0.cell 0
  have k1:w0.cell? ⟨g0,1,none⟩=some (.int .i64 x1):=b0.cell 1
  have k2:w0.cell? ⟨g0,2,none⟩=some (.int .i64 x2):=b0.cell 2
  go_wp2_with fail
  (try rw [HW0.out]);(try rw [HG0.out])
  refine (HF.out _ hBw).mono ?_
  rintro e w' ⟨rfl,rfl⟩
  go_wp2_with fail
  refine (HR.out _ hBw).mono ?_
  rintro e w1 ⟨rfl,hB1⟩
  clear k0 k1 k2
  replace b0:=b0.below hB1 b0.lt
  have k0:w1.cell? ⟨g0,0,none⟩=some (.int .i64 x0):=b0.cell 0
  have k1:w1.cell? ⟨g0,1,none⟩=some (.int .i64 x1):=b0.cell 1
  have k2:w1.cell? ⟨g0,2,none⟩=some (.int .i64 x2):=b0.cell 2
  replace hBw:=below_in hBw hB1
  clear hB1
  go_wp2_with fail
  refine (works13_any _ (HLW.out _ hBw)).mono ?_
  rintro e wz ⟨rfl,hBz⟩
  go_wp2
  go_ret
  exact ⟨rfl,below_in hBw hBz⟩
open Go.Proofs.YtkllhjhkcipkoaaGreatDoor.E Go.Proofs.YtkllhjhkcipkoaaGreatDoor.C Go.Proofs.YtkllhjhkcipkoaaGreatDoor.T Go.Proofs.YtkllhjhkcipkoaaGreatDoor.Ch Go.Proofs.YtkllhjhkcipkoaaGreatDoor.Tr in
set_option maxRecDepth 100000 in
set_option maxHeartbeats 8000000 in
theorem nl (p:Int) (v:Value) (css:List (List (List UInt8))) (x0 x1 x2 s:Int) (vj:Value) (cj:List (List UInt8)) (w:World) (hL:Laid w) (wp:-9223372036854775808≤p∧p≤9223372036854775807) (hC:Cols w.heap.size w v css) (wx:-9223372036854775808≤x0∧x0≤9223372036854775807) (wy:-9223372036854775808≤x1∧x1≤9223372036854775807) (wz:-9223372036854775808≤x2∧x2≤9223372036854775807) (ws:-9223372036854775808≤s∧s≤9223372036854775807) (hJ:Many w.heap.size w vj cj) (hf:Few6 css) (hr:RightD p css) (hl:(css.length:Int)≠p) :
    Calls Tryz.prog 6 #[.int .i64 p,v,.agg #[.int .i64 x0,.int .i64 x1,.int .i64 x2],.int .i64 s,vj] w fun e w'=>e = .returned (.bool true)∧Below w.heap.size w w':=by
  obtain ⟨w0,hw0⟩:∃ x,w.alloc (.cells #[.int .i64 x0,.int .i64 x1,.int .i64 x2] 23)=x:=⟨_,rfl⟩
  obtain ⟨g0,hg0⟩:∃ g,w.heap.size=g:=⟨_,rfl⟩
  have b0:Blk w0 g0 23 #[.int .i64 x0,.int .i64 x1,.int .i64 x2]:=by rw [←hw0,←hg0];exact Blk.new w _ _
  have hB0:Below w.heap.size w w0:=by rw [←hw0];exact below_one w _
  have HW0:=Lib.hid hw0
  have HG0:=Lib.hid hg0
  have HLW:=Lib.hid (fun (U:World) (hU:Below w.heap.size w U)=>hL.next hU)
  have hs0:w.heap.size<w0.heap.size:=by rw [hg0];exact b0.lt
  obtain ⟨A,cap,rfl,_,_⟩:=id hC
  have hBw:=hB0
  have hBW0:=Below.refl w0.heap.size w0
  have HF:=Lib.hid (fun (U:World) (hU:Below w.heap.size w U)=>few6_any _ css U (hC.below hU) true (by simp [hf]))
  have HR:=Lib.hid (fun (U:World) (hU:Below w.heap.size w U)=>right6_any p _ css U hU.size (hC.below hU) (by have:=hf.1;omega) true (by simp [hr]))
  have hne:((css.length:Int) != p)=true:=bne_iff_ne.2 hl
  clear hL hw0 hg0 hs0 hC hJ hf hr hl
  generalize css.length=N at *
  go_enter Tryz.func6,Tryz.ntmps6
  have k0:w0.cell? ⟨g0,0,none⟩=some (.int .i64 x0):=b0.cell 0
  have k1:w0.cell? ⟨g0,1,none⟩=some (.int .i64 x1):=b0.cell 1
  have k2:w0.cell? ⟨g0,2,none⟩=some (.int .i64 x2):=b0.cell 2
  go_wp2_with fail
  (try rw [HW0.out]);(try rw [HG0.out])
  refine (HF.out _ hBw).mono ?_
  rintro e w' ⟨rfl,rfl⟩
  go_wp2_with fail
  refine (HR.out _ hBw).mono ?_
  rintro e w1 ⟨rfl,hB1⟩
  clear k0 k1 k2
  replace b0:=b0.below hB1 b0.lt
  have k0:w1.cell? ⟨g0,0,none⟩=some (.int .i64 x0):=b0.cell 0
  have k1:w1.cell? ⟨g0,1,none⟩=some (.int .i64 x1):=b0.cell 1
  have k2:w1.cell? ⟨g0,2,none⟩=some (.int .i64 x2):=b0.cell 2
  replace hBw:=below_in hBw hB1
  clear hB1
  go_wp2_with fail
  refine (works13_any _ (HLW.out _ hBw)).mono ?_
  rintro e wz ⟨rfl,hBz⟩
  go_wp2
  go_ret
  exact ⟨rfl,below_in hBw hBz⟩
open Go.Proofs.YtkllhjhkcipkoaaGreatDoor.E Go.Proofs.YtkllhjhkcipkoaaGreatDoor.C Go.Proofs.YtkllhjhkcipkoaaGreatDoor.T Go.Proofs.YtkllhjhkcipkoaaGreatDoor.Ch Go.Proofs.YtkllhjhkcipkoaaGreatDoor.Tr in
set_option maxRecDepth 100000 in
set_option maxHeartbeats 8000000 in
theorem nth (p:Int) (v:Value) (css:List (List (List UInt8))) (x0 x1 x2 s:Int) (vj:Value) (cj:List (List UInt8)) (w:World) (hL:Laid w) (wp:-9223372036854775808≤p∧p≤9223372036854775807) (hC:Cols w.heap.size w v css) (wx:-9223372036854775808≤x0∧x0≤9223372036854775807) (wy:-9223372036854775808≤x1∧x1≤9223372036854775807) (wz:-9223372036854775808≤x2∧x2≤9223372036854775807) (ws:-9223372036854775808≤s∧s≤9223372036854775807) (hJ:Many w.heap.size w vj cj) (hf:Few6 css) (hr:RightD p css) (hl:(css.length:Int)=p) (hri:¬ RiseOk p [x0,x1,x2]) :
    Calls Tryz.prog 6 #[.int .i64 p,v,.agg #[.int .i64 x0,.int .i64 x1,.int .i64 x2],.int .i64 s,vj] w fun e w'=>e = .returned (.bool true)∧Below w.heap.size w w':=by
  obtain ⟨w0,hw0⟩:∃ x,w.alloc (.cells #[.int .i64 x0,.int .i64 x1,.int .i64 x2] 23)=x:=⟨_,rfl⟩
  obtain ⟨g0,hg0⟩:∃ g,w.heap.size=g:=⟨_,rfl⟩
  have b0:Blk w0 g0 23 #[.int .i64 x0,.int .i64 x1,.int .i64 x2]:=by rw [←hw0,←hg0];exact Blk.new w _ _
  have hB0:Below w.heap.size w w0:=by rw [←hw0];exact below_one w _
  have HW0:=Lib.hid hw0
  have HG0:=Lib.hid hg0
  have HLW:=Lib.hid (fun (U:World) (hU:Below w.heap.size w U)=>hL.next hU)
  have hs0:w.heap.size<w0.heap.size:=by rw [hg0];exact b0.lt
  obtain ⟨A,cap,rfl,_,_⟩:=id hC
  have hBw:=hB0
  have hBW0:=Below.refl w0.heap.size w0
  have HF:=Lib.hid (fun (U:World) (hU:Below w.heap.size w U)=>few6_any _ css U (hC.below hU) true (by simp [hf]))
  have HR:=Lib.hid (fun (U:World) (hU:Below w.heap.size w U)=>right6_any p _ css U hU.size (hC.below hU) (by have:=hf.1;omega) true (by simp [hr]))
  have hne:((css.length:Int) != p)=false:=by rw [hl];simp
  have HRI:=Lib.hid (fun (U:World) (h:Blk U g0 23 #[.int .i64 x0,.int .i64 x1,.int .i64 x2])=>riseD p g0 x0 x1 x2 false (by simp [hri]) U h)
  clear hL hw0 hg0 hs0 hC hJ hf hr hl hri
  generalize css.length=N at *
  go_enter Tryz.func6,Tryz.ntmps6
  have k0:w0.cell? ⟨g0,0,none⟩=some (.int .i64 x0):=b0.cell 0
  have k1:w0.cell? ⟨g0,1,none⟩=some (.int .i64 x1):=b0.cell 1
  have k2:w0.cell? ⟨g0,2,none⟩=some (.int .i64 x2):=b0.cell 2
  go_wp2_with fail
  (try rw [HW0.out]);(try rw [HG0.out])
  refine (HF.out _ hBw).mono ?_
  rintro e w' ⟨rfl,rfl⟩
  go_wp2_with fail
  refine (HR.out _ hBw).mono ?_
  rintro e w1 ⟨rfl,hB1⟩
  clear k0 k1 k2
  replace b0:=b0.below hB1 b0.lt
  have k0:w1.cell? ⟨g0,0,none⟩=some (.int .i64 x0):=b0.cell 0
  have k1:w1.cell? ⟨g0,1,none⟩=some (.int .i64 x1):=b0.cell 1
  have k2:w1.cell? ⟨g0,2,none⟩=some (.int .i64 x2):=b0.cell 2
  replace hBw:=below_in hBw hB1
  clear hB1
  go_wp2_with fail
  refine (HRI.out _ b0).mono ?_
  rintro e wr ⟨rfl,hB1⟩
  clear k0 k1 k2
  replace b0:=b0.below hB1 b0.lt
  have k0:wr.cell? ⟨g0,0,none⟩=some (.int .i64 x0):=b0.cell 0
  have k1:wr.cell? ⟨g0,1,none⟩=some (.int .i64 x1):=b0.cell 1
  have k2:wr.cell? ⟨g0,2,none⟩=some (.int .i64 x2):=b0.cell 2
  replace hBw:=below_in hBw hB1
  clear hB1
  go_wp2_with fail
  refine (works13_any _ (HLW.out _ hBw)).mono ?_
  rintro e wz ⟨rfl,hBz⟩
  go_wp2
  go_ret
  exact ⟨rfl,below_in hBw hBz⟩
open Go.Proofs.YtkllhjhkcipkoaaGreatDoor.E Go.Proofs.YtkllhjhkcipkoaaGreatDoor.C Go.Proofs.YtkllhjhkcipkoaaGreatDoor.T Go.Proofs.YtkllhjhkcipkoaaGreatDoor.Ch Go.Proofs.YtkllhjhkcipkoaaGreatDoor.Tr in
set_option maxRecDepth 100000 in
set_option maxHeartbeats 8000000 in
theorem nis (p:Int) (v:Value) (css:List (List (List UInt8))) (x0 x1 x2 s:Int) (vj:Value) (cj:List (List UInt8)) (w:World) (hL:Laid w) (wp:-9223372036854775808≤p∧p≤9223372036854775807) (hC:Cols w.heap.size w v css) (wx:-9223372036854775808≤x0∧x0≤9223372036854775807) (wy:-9223372036854775808≤x1∧x1≤9223372036854775807) (wz:-9223372036854775808≤x2∧x2≤9223372036854775807) (ws:-9223372036854775808≤s∧s≤9223372036854775807) (hJ:Many w.heap.size w vj cj) (hf:Few6 css) (hr:RightD p css) (hl:(css.length:Int)=p) (hri:RiseOk p [x0,x1,x2]) (his:¬ IsRole s) :
    Calls Tryz.prog 6 #[.int .i64 p,v,.agg #[.int .i64 x0,.int .i64 x1,.int .i64 x2],.int .i64 s,vj] w fun e w'=>e = .returned (.bool true)∧Below w.heap.size w w':=by
  obtain ⟨w0,hw0⟩:∃ x,w.alloc (.cells #[.int .i64 x0,.int .i64 x1,.int .i64 x2] 23)=x:=⟨_,rfl⟩
  obtain ⟨g0,hg0⟩:∃ g,w.heap.size=g:=⟨_,rfl⟩
  have b0:Blk w0 g0 23 #[.int .i64 x0,.int .i64 x1,.int .i64 x2]:=by rw [←hw0,←hg0];exact Blk.new w _ _
  have hB0:Below w.heap.size w w0:=by rw [←hw0];exact below_one w _
  have HW0:=Lib.hid hw0
  have HG0:=Lib.hid hg0
  have HLW:=Lib.hid (fun (U:World) (hU:Below w.heap.size w U)=>hL.next hU)
  have hs0:w.heap.size<w0.heap.size:=by rw [hg0];exact b0.lt
  obtain ⟨A,cap,rfl,_,_⟩:=id hC
  have hBw:=hB0
  have hBW0:=Below.refl w0.heap.size w0
  have HF:=Lib.hid (fun (U:World) (hU:Below w.heap.size w U)=>few6_any _ css U (hC.below hU) true (by simp [hf]))
  have HR:=Lib.hid (fun (U:World) (hU:Below w.heap.size w U)=>right6_any p _ css U hU.size (hC.below hU) (by have:=hf.1;omega) true (by simp [hr]))
  have hne:((css.length:Int) != p)=false:=by rw [hl];simp
  have HRI:=Lib.hid (fun (U:World) (h:Blk U g0 23 #[.int .i64 x0,.int .i64 x1,.int .i64 x2])=>riseD p g0 x0 x1 x2 true (by simp [hri]) U h)
  have HIS:=Lib.hid (fun (U:World)=>is13_any s U)
  rw [decide_eq_false his] at HIS
  clear hL hw0 hg0 hs0 hC hJ hf hr hl hri his
  generalize css.length=N at *
  go_enter Tryz.func6,Tryz.ntmps6
  have k0:w0.cell? ⟨g0,0,none⟩=some (.int .i64 x0):=b0.cell 0
  have k1:w0.cell? ⟨g0,1,none⟩=some (.int .i64 x1):=b0.cell 1
  have k2:w0.cell? ⟨g0,2,none⟩=some (.int .i64 x2):=b0.cell 2
  go_wp2_with fail
  (try rw [HW0.out]);(try rw [HG0.out])
  refine (HF.out _ hBw).mono ?_
  rintro e w' ⟨rfl,rfl⟩
  go_wp2_with fail
  refine (HR.out _ hBw).mono ?_
  rintro e w1 ⟨rfl,hB1⟩
  clear k0 k1 k2
  replace b0:=b0.below hB1 b0.lt
  have k0:w1.cell? ⟨g0,0,none⟩=some (.int .i64 x0):=b0.cell 0
  have k1:w1.cell? ⟨g0,1,none⟩=some (.int .i64 x1):=b0.cell 1
  have k2:w1.cell? ⟨g0,2,none⟩=some (.int .i64 x2):=b0.cell 2
  replace hBw:=below_in hBw hB1
  clear hB1
  go_wp2_with fail
  refine (HRI.out _ b0).mono ?_
  rintro e wr ⟨rfl,hB1⟩
  clear k0 k1 k2
  replace b0:=b0.below hB1 b0.lt
  have k0:wr.cell? ⟨g0,0,none⟩=some (.int .i64 x0):=b0.cell 0
  have k1:wr.cell? ⟨g0,1,none⟩=some (.int .i64 x1):=b0.cell 1
  have k2:wr.cell? ⟨g0,2,none⟩=some (.int .i64 x2):=b0.cell 2
  replace hBw:=below_in hBw hB1
  clear hB1
  go_wp2_with fail
  refine (HIS.out _).mono ?_
  rintro e w' ⟨rfl,rfl⟩
  go_wp2_with fail
  refine (works13_any _ (HLW.out _ hBw)).mono ?_
  rintro e wz ⟨rfl,hBz⟩
  go_wp2
  go_ret
  exact ⟨rfl,below_in hBw hBz⟩
open Go.Proofs.YtkllhjhkcipkoaaGreatDoor.E Go.Proofs.YtkllhjhkcipkoaaGreatDoor.C Go.Proofs.YtkllhjhkcipkoaaGreatDoor.T Go.Proofs.YtkllhjhkcipkoaaGreatDoor.Ch Go.Proofs.YtkllhjhkcipkoaaGreatDoor.Tr in
set_option maxRecDepth 100000 in
set_option maxHeartbeats 8000000 in
theorem yes (p:Int) (v:Value) (css:List (List (List UInt8))) (x0 x1 x2 s:Int) (vj:Value) (cj:List (List UInt8)) (w:World) (hL:Laid w) (wp:-9223372036854775808≤p∧p≤9223372036854775807) (hC:Cols w.heap.size w v css) (wx:-9223372036854775808≤x0∧x0≤9223372036854775807) (wy:-9223372036854775808≤x1∧x1≤9223372036854775807) (wz:-9223372036854775808≤x2∧x2≤9223372036854775807) (ws:-9223372036854775808≤s∧s≤9223372036854775807) (hJ:Many w.heap.size w vj cj) (hf:Few6 css) (hr:RightD p css) (hl:(css.length:Int)=p) (hri:RiseOk p [x0,x1,x2]) (his:IsRole s) :
    Calls Tryz.prog 6 #[.int .i64 p,v,.agg #[.int .i64 x0,.int .i64 x1,.int .i64 x2],.int .i64 s,vj] w fun e w'=>e = .returned (.bool true)∧Below w.heap.size w w':=by
  obtain ⟨t,rfl⟩:∃ t:Nat,s=(t:Int)+2:=⟨(s - 2).toNat,by obtain ⟨h1,h2⟩:=his;omega⟩
  have ht2:t≤2:=by obtain ⟨h1,h2⟩:=his;omega
  have hr0:=hri 0 (show 0<3 by omega)
  have hr1:=hri 1 (show 1<3 by omega)
  have hr2:=hri 2 (show 2<3 by omega)
  have hth:0≤x0∧x0<x1∧x1<x2∧x2<p:=⟨by have h:(-1:Int)<x0:=hr0.1;omega,hr1.1,hr2.1,hr2.2⟩
  clear hr0 hr1 hr2
  obtain ⟨a,rfl⟩:∃ a:Nat,x0=(a:Int):=⟨x0.toNat,by omega⟩
  obtain ⟨b,rfl⟩:∃ b:Nat,x1=(b:Int):=⟨x1.toNat,by omega⟩
  obtain ⟨c,rfl⟩:∃ c:Nat,x2=(c:Int):=⟨x2.toNat,by omega⟩
  obtain ⟨w0,hw0⟩:∃ x,w.alloc (.cells #[.int .i64 (a:Int),.int .i64 (b:Int),.int .i64 (c:Int)] 23)=x:=⟨_,rfl⟩
  obtain ⟨g0,hg0⟩:∃ g,w.heap.size=g:=⟨_,rfl⟩
  have b0:Blk w0 g0 23 #[.int .i64 (a:Int),.int .i64 (b:Int),.int .i64 (c:Int)]:=by rw [←hw0,←hg0];exact Blk.new w _ _
  have hB0:Below w.heap.size w w0:=by rw [←hw0];exact below_one w _
  have HW0:=Lib.hid hw0
  have HG0:=Lib.hid hg0
  have HLW:=Lib.hid (fun (U:World) (hU:Below w.heap.size w U)=>hL.next hU)
  have hs0:w.heap.size<w0.heap.size:=by rw [hg0];exact b0.lt
  obtain ⟨A,cap,rfl,_,_⟩:=id hC
  have hBw:=hB0
  have hBW0:=Below.refl w0.heap.size w0
  obtain ⟨Aj,kj,rfl,_,_⟩:=id hJ
  have HF:=Lib.hid (fun (U:World) (hU:Below w.heap.size w U)=>few6_any _ css U (hC.below hU) true (by simp [hf]))
  have HR:=Lib.hid (fun (U:World) (hU:Below w.heap.size w U)=>right6_any p _ css U hU.size (hC.below hU) (by have:=hf.1;omega) true (by simp [hr]))
  have hne:((css.length:Int) != p)=false:=by rw [hl];simp
  have HRI:=Lib.hid (fun (U:World) (h:Blk U g0 23 #[.int .i64 (a:Int),.int .i64 (b:Int),.int .i64 (c:Int)])=>riseD p g0 (a:Int) (b:Int) (c:Int) true (by simp [hri]) U h)
  have HIS:=Lib.hid (fun (U:World)=>is13_any ((t:Int)+2) U)
  rw [decide_eq_true his] at HIS
  obtain ⟨P,Q,n,rfl,hQ,hp,h1,h64,hn,hg⟩:=Rg.right_yes hr hr.2.1
  have d:Rg.Dims P Q n:=⟨hQ,hp,h1,h64⟩
  have hpb:=prm_bounds hp
  have hlP:css.length=P:=Int.ofNat_inj.1 hl
  have hab:a<b:=Int.ofNat_lt.1 hth.2.1
  have hbc:b<c:=Int.ofNat_lt.1 hth.2.2.1
  have hcP:c<P:=Int.ofNat_lt.1 hth.2.2.2
  have hok:DataOk (P:Int) css:=⟨⟨by omega,hp⟩,by rw [hlP],hr.2⟩
  have HEN:=Lib.hid (fun (U:World) (hU:Below w.heap.size w U)=>enc_star d hr hlP hn (B:=w.heap.size) (.slice A css.length cap) U hU.size (hC.below hU))
  have HAL:Hid ((allS P Q css).length=P+3):=allS_len hlP
  obtain ⟨o0,o1,ho,hoa,hob,hon⟩:=oth_two (P:=P) ht2
  have hc1:Bad3 P Q n css ((((allS P Q css).set a cj).set b []).set c cj) [(a:Int),(b:Int),(c:Int)] [2,3,4]:=bad_1 hok hn hlP hab hbc hcP
  have hc2:Bad3 P Q n css ((((allS P Q css).set a []).set c cj).set (P+t) cj) [(a:Int),(c:Int)] (butL ((t:Int)+2)):=bad_2 rfl ht2 hok hn hlP (by omega) hcP
  have hc3:Bad3 P Q n css ((((allS P Q css).set b cj).set o0 cj).set o1 []) [(b:Int)] [((t:Int)+2)]:=bad_3 rfl ht2 ⟨hoa.1,hoa.2.1⟩ ⟨hob.1,hob.2.1⟩ hok hn hlP (by omega)
  have HTH:=Lib.hid (fun (U:World) (g k:Nat) (hU:Below w.heap.size w U) (h:Cols U.heap.size U (.slice (some ⟨g,0,none⟩) (P+3) k) ((((allS P Q css).set a cj).set b []).set c cj))=>(by
    have h2:=Three_yes (B:=U.heap.size) d (a:Int) (b:Int) (c:Int) hth.1 hth.2.1 hth.2.2.1 hth.2.2.2 _ hc1.hl (hc1.goodD d) (hc1.goodR d) _ U (hL.next hU) (Nat.le_refl _) h
    rw [hc1.three d hab hbc hcP] at h2
    exact h2:Calls Tryz.prog 10 #[.int .i64 (P:Int),.slice (some ⟨g,0,none⟩) (P+3) k,.int .i64 (a:Int),.int .i64 (b:Int),.int .i64 (c:Int)] U fun e w'=>∃ u,e = .returned (.tuple #[u,.int .i64 0])∧Cols w'.heap.size w' u [css[a]?.getD [],css[b]?.getD [],css[c]?.getD []]∧Below U.heap.size U w'))
  have HTW:=Lib.hid (fun (U:World) (g k:Nat) (hU:Below w.heap.size w U) (h:Cols U.heap.size U (.slice (some ⟨g,0,none⟩) (P+3) k) ((((allS P Q css).set a []).set c cj).set (P+t) cj))=>(by
    have h2:=Two_yes (B:=U.heap.size) d (a:Int) (c:Int) ((t:Int)+2) his hth.1 (by omega) hth.2.2.2 _ hc2.hl (hc2.goodD d) (hc2.goodR d) _ U (hL.next hU) (Nat.le_refl _) h
    rw [hc2.two d his (by omega) hcP] at h2
    exact h2:Calls Tryz.prog 16 #[.int .i64 (P:Int),.slice (some ⟨g,0,none⟩) (P+3) k,.int .i64 (a:Int),.int .i64 (c:Int),.int .i64 ((t:Int)+2)] U fun e w'=>∃ u,e = .returned (.tuple #[u,.int .i64 0])∧Cols w'.heap.size w' u [css[a]?.getD [],css[c]?.getD []]∧Below U.heap.size U w'))
  have hone:=hc3.one d (show b<P by omega)
  have HON:=Lib.hid (fun (U:World) (g k:Nat) (hU:Below w.heap.size w U) (h:Cols U.heap.size U (.slice (some ⟨g,0,none⟩) (P+3) k) ((((allS P Q css).set b cj).set o0 cj).set o1 []))=>(by
    have h2:=One_yes (B:=U.heap.size) d (b:Int) ((t:Int)+2) his (by omega) (by omega) _ hc3.hl (hc3.goodD d) (hc3.goodR d) _ U (hL.next hU) (Nat.le_refl _) h
    rw [hone.2] at h2
    exact h2:Calls Tryz.prog 18 #[.int .i64 (P:Int),.slice (some ⟨g,0,none⟩) (P+3) k,.int .i64 (b:Int),.int .i64 ((t:Int)+2)] U fun e w'=>∃ u,e = .returned (.tuple #[u,.int .i64 0])∧Many w'.heap.size w' u (css[b]?.getD [])∧Below U.heap.size U w'))
  have HSH:=Lib.hid (fun (U:World) (g k gl:Nat) (hU:Below w.heap.size w U) (hgl:Blk U gl 3 #[.int .i64 (b:Int)]) (h:Cols U.heap.size U (.slice (some ⟨g,0,none⟩) (P+3) k) ((((allS P Q css).set b cj).set o0 cj).set o1 []))=>(by
    have h2:=Share_one (B:=U.heap.size) d (b:Int) ((t:Int)+2) his (by omega) (by omega) _ hc3.hl (hc3.goodD d) (hc3.goodR d) gl 1 _ U (hL.next hU) (Nat.le_refl _) h hgl
    rw [hone.1] at h2
    exact h2:Calls Tryz.prog 25 #[.int .i64 (P:Int),.slice (some ⟨g,0,none⟩) (P+3) k,.int .i64 ((t:Int)+2),.slice (some ⟨gl,0,none⟩) 1 1] U fun e w'=>∃ u,e = .returned (.tuple #[u,.int .i64 0])∧Many w'.heap.size w' u (Rg.turnC P Q n (css[b]?.getD []) (kOf ((t:Int)+2) * (b:Int)))∧Below U.heap.size U w'))
  have gA:=good_of d hok hn a (by omega)
  have gB:=good_of d hok hn b (by omega)
  have gC:=good_of d hok hn c hcP
  have HSB:=Lib.hid (fun (u v:Value) (U:World) (h1:Many U.heap.size U u (css[b]?.getD [])) (h2:Many U.heap.size U v (css[b]?.getD []))=>Rg.sameY d _ _ gB rfl u v U h1 h2)
  have HTU:=Lib.hid (fun (y:Int) (y1:-1000≤y) (y2:y≤1000) (v:Value) (U:World) (h:Many U.heap.size U v (css[b]?.getD []))=>Rg.turnD_any d y (by omega) (by omega) _ gB v U h)
  have HST:=Lib.hid (fun (y:Int) (u v:Value) (U:World) (h1:Many U.heap.size U u (Rg.turnC P Q n (css[b]?.getD []) y)) (h2:Many U.heap.size U v (Rg.turnC P Q n (css[b]?.getD []) y))=>Rg.sameY d _ _ (Rg.turn_good (P:=P) d.h1 d.h64 gB y) rfl u v U h1 h2)
  have HQT:Hid (∀ y:Int,(Rg.turnC P Q n (css[b]?.getD []) y).length=Q):=fun y=>(Rg.turn_good (P:=P) d.h1 d.h64 gB y).1
  have HKY:Hid (∃ y:Int,kOf ((t:Int)+2) * (b:Int)=y∧-1000≤y∧y≤1000∧(t=0→y=0)∧(t=1→y=(b:Int))∧(t=2→y = -(b:Int))):=by
    have h3:t=0∨t=1∨t=2:=by omega
    rcases h3 with rfl | rfl | rfl
    · refine ⟨0,?_,by omega,by omega,fun _=>rfl,by omega,by omega⟩
      show 0 * (b:Int)=0;omega
    · refine ⟨(b:Int),?_,by omega,by omega,by omega,fun _=>rfl,by omega⟩
      show 1 * (b:Int)=b;omega
    · refine ⟨-(b:Int),?_,by omega,by omega,by omega,by omega,fun _=>rfl⟩
      show -1 * (b:Int) = -b;omega
  have HOT:=Lib.hid (fun (U:World)=>others_any (P:Int) ((t:Int)+2) (by omega) (by omega) U)
  rw [ho] at HOT
  have HSM:Hid (∀ x∈[css[a]?.getD [],css[b]?.getD [],css[c]?.getD []],x.length≤1000):=by
    have hQ2:=d.hQ
    intro x hx
    simp only [List.mem_cons,List.not_mem_nil,or_false] at hx
    rcases hx with rfl | rfl | rfl
    · rw [gA.1];omega
    · rw [gB.1];omega
    · rw [gC.1];omega
  have HJ:=Lib.hid (fun (U:World) (hU:Below w.heap.size w U)=>hJ.below hU)
  have HLAa:Hid ((allS P Q css)[a]?.getD []=css[a]?.getD []):=allS_data hlP (by omega)
  have HLAb:Hid ((allS P Q css)[b]?.getD []=css[b]?.getD []):=allS_data hlP (by omega)
  have HLAc:Hid ((allS P Q css)[c]?.getD []=css[c]?.getD []):=allS_data hlP (by omega)
  have HPQ:=Lib.hid hQ
  have HP17:Hid (P≤17):=by unfold Hid;omega
  have HP3:Hid (3≤P):=by unfold Hid;omega
  have j_a:(a:Int)<(P:Int)+3:=by omega
  have j_b:(b:Int)<(P:Int)+3:=by omega
  have j_c:(c:Int)<(P:Int)+3:=by omega
  have j_t:(P:Int)+(t:Int)<(P:Int)+3:=by omega
  have j_o0:(o0:Int)<(P:Int)+3:=by omega
  have j_o1:(o1:Int)<(P:Int)+3:=by omega
  have i_a:(0:Int)≤(a:Int):=Int.natCast_nonneg _
  have i_b:(0:Int)≤(b:Int):=Int.natCast_nonneg _
  have i_c:(0:Int)≤(c:Int):=Int.natCast_nonneg _
  have i_o0:(0:Int)≤(o0:Int):=Int.natCast_nonneg _
  have i_o1:(0:Int)≤(o1:Int):=Int.natCast_nonneg _
  have i_t:(0:Int)≤(P:Int)+(t:Int):=by omega
  have e_t:((P:Int)+(t:Int)).toNat=P+t:=by omega
  have HAB:=Lib.hid (And.intro hab (And.intro hbc (And.intro hcP (And.intro hlP (And.intro ht2 (And.intro hoa (And.intro hob hon)))))))
  have HGQ:=Lib.hid (And.intro gA.1 (And.intro gB.1 gC.1))
  have hw1:IntKind.i64.wrap ((P:Int)+((t:Int)+2))=(P:Int)+((t:Int)+2):=IntWalk.i64_in _ (by omega)
  have hw2:IntKind.i64.wrap ((P:Int)+((t:Int)+2) - 2)=(P:Int)+(t:Int):=by rw [IntWalk.i64_in _ (by omega)];omega
  have hw3:IntKind.i64.wrap (-(b:Int)) = -(b:Int):=IntWalk.i64_in _ (by omega)
  have hw4:IntKind.i64.wrap 0=0:=by kernel_rfl
  generalize (allS P Q css)=allC at *
  generalize css[a]?.getD []=cA at *
  generalize css[b]?.getD []=cB at *
  generalize css[c]?.getD []=cC at *
  have HS0:=Lib.hid hs0
  generalize hgl:cj.length=lj at *
  clear hw0 hg0 hL hC hJ hB0 hs0 hf hr hl hth hQ hp h1 h64 hn hg hpb hlP hab hbc hcP hok hc1 hc2 hc3 hone gA gB gC hgl ht2 ho hoa hob hon hri his d
  generalize css.length=N at *
  go_enter Tryz.func6,Tryz.ntmps6
  have k0:w0.cell? ⟨g0,0,none⟩=some (.int .i64 (a:Int)):=b0.cell 0
  have k1:w0.cell? ⟨g0,1,none⟩=some (.int .i64 (b:Int)):=b0.cell 1
  have k2:w0.cell? ⟨g0,2,none⟩=some (.int .i64 (c:Int)):=b0.cell 2
  go_wp2_with fail
  (try rw [HW0.out]);(try rw [HG0.out])
  refine (HF.out _ hBw).mono ?_
  rintro e w' ⟨rfl,rfl⟩
  go_wp2_with fail
  refine (HR.out _ hBw).mono ?_
  rintro e w1 ⟨rfl,hB1⟩
  clear k0 k1 k2
  replace b0:=b0.below hB1 b0.lt
  have k0:w1.cell? ⟨g0,0,none⟩=some (.int .i64 (a:Int)):=b0.cell 0
  have k1:w1.cell? ⟨g0,1,none⟩=some (.int .i64 (b:Int)):=b0.cell 1
  have k2:w1.cell? ⟨g0,2,none⟩=some (.int .i64 (c:Int)):=b0.cell 2
  replace hBw:=below_in hBw hB1
  clear hB1
  go_wp2_with fail
  refine (HRI.out _ b0).mono ?_
  rintro e wr ⟨rfl,hB1⟩
  clear k0 k1 k2
  replace b0:=b0.below hB1 b0.lt
  have k0:wr.cell? ⟨g0,0,none⟩=some (.int .i64 (a:Int)):=b0.cell 0
  have k1:wr.cell? ⟨g0,1,none⟩=some (.int .i64 (b:Int)):=b0.cell 1
  have k2:wr.cell? ⟨g0,2,none⟩=some (.int .i64 (c:Int)):=b0.cell 2
  replace hBw:=below_in hBw hB1
  clear hB1
  go_wp2_with fail
  refine (HIS.out _).mono ?_
  rintro e w' ⟨rfl,rfl⟩
  go_wp2_with fail
  refine (star13_any _ _).mono ?_
  rintro e ws ⟨rfl,hB1⟩
  clear k0 k1 k2
  replace b0:=b0.below hB1 b0.lt
  have k0:ws.cell? ⟨g0,0,none⟩=some (.int .i64 (a:Int)):=b0.cell 0
  have k1:ws.cell? ⟨g0,1,none⟩=some (.int .i64 (b:Int)):=b0.cell 1
  have k2:ws.cell? ⟨g0,2,none⟩=some (.int .i64 (c:Int)):=b0.cell 2
  replace hBw:=below_in hBw hB1
  clear hB1
  go_wp2_with fail
  refine (HEN.out _ hBw).mono ?_
  rintro e w2 ⟨u,rfl,hu,hB1⟩
  obtain ⟨bu,ou,ku,eu,hku,hbu,hrowu⟩:=hu.at_ (by rw [HAL.out];omega)
  rw [HAL.out] at eu hku
  subst eu
  obtain ⟨ua,hua,hma⟩:=hrowu a (by rw [HAL.out];have:=HAB.out;omega)
  rw [HLAa.out] at hma
  obtain ⟨Ca,qa,rfl,_,_⟩:=id hma
  rw [HGQ.out.1] at hua hma
  obtain ⟨ub,hub,hmb⟩:=hrowu b (by rw [HAL.out];have:=HAB.out;omega)
  rw [HLAb.out] at hmb
  obtain ⟨Cb,qb,rfl,_,_⟩:=id hmb
  rw [HGQ.out.2.1] at hub hmb
  obtain ⟨uc,huc,hmc⟩:=hrowu c (by rw [HAL.out];have:=HAB.out;omega)
  rw [HLAc.out] at hmc
  obtain ⟨Cc,qc,rfl,_,_⟩:=id hmc
  rw [HGQ.out.2.2] at huc hmc
  clear k0 k1 k2
  replace b0:=b0.below hB1 b0.lt
  replace hBw:=below_in hBw hB1
  have hg0z:=b0.lt
  have hwz:=hBw.size
  have H2:Hid (∀ U,Below w2.heap.size w2 U→Below w.heap.size w U∧Blk U g0 23 #[.int .i64 (a:Int),.int .i64 (b:Int),.int .i64 (c:Int)]∧Cols w2.heap.size U (.slice (some ⟨bu,ou,none⟩) (P+3) ku) allC∧U.cell? ⟨bu,ou+a,none⟩=some (.slice Ca Q qa)∧U.cell? ⟨bu,ou+b,none⟩=some (.slice Cb Q qb)∧U.cell? ⟨bu,ou+c,none⟩=some (.slice Cc Q qc)∧Many w2.heap.size U (.slice Ca Q qa) cA∧Many w2.heap.size U (.slice Cb Q qb) cB∧Many w2.heap.size U (.slice Cc Q qc) cC):=fun U hU=>⟨below_in hBw hU,b0.below hU b0.lt,hu.below hU,(hU.cell (p:=⟨bu,ou+a,none⟩) hbu).trans hua,(hU.cell (p:=⟨bu,ou+b,none⟩) hbu).trans hub,(hU.cell (p:=⟨bu,ou+c,none⟩) hbu).trans huc,hma.below hU,hmb.below hU,hmc.below hU⟩
  have hB:=Below.refl w2.heap.size w2
  clear hB1 HEN HF HR HRI HIS hrowu hua hub huc hma hmb hmc hu b0 hBw
  have hAA:=below_one w2 (.cells #[] 41)
  obtain ⟨eA,heA⟩:∃ x,w2.alloc (.cells #[] 41)=x:=⟨_,rfl⟩
  obtain ⟨zA,hzA⟩:∃ x,w2.heap.size=x:=⟨_,rfl⟩
  have HZA:=Lib.hid hzA
  have HROA:Hid (RowC (fun _=>True) eA zA (.slice (some ⟨zA,0,none⟩) 0 0) []):=by unfold Hid;rw [←heA,←hzA];exact Rg.RowG.empty _ _ _ _ (Blk.new w2 41 #[]) (Nat.le_refl _)
  rw [heA] at hAA
  have HXA:=Lib.hid (app_far hAA (by rw [hzA];exact Nat.le_refl _) HROA.out (((H2.out _ hB).2.2.1.more hB.size).below hAA))
  have HSZA:Hid (zA≤eA.heap.size):=by unfold Hid;rw [←hzA];exact hAA.size
  have hzwA:w2.heap.size≤zA:=by rw [←hzA];exact hB.size
  have HBA:=Lib.hid (below_in hB hAA)
  have HEA:=Lib.hid heA
  clear hB hzA heA hAA
  go_wp2_with (at_builtin;((try rw [HZA.out]);(try rw [HEA.out]);refine wpList_appStripe _ rfl _ _ rfl [] allC rfl HROA.out rfl HXA.out (by have:=HP17.out;rw [HAL.out];omega) (by simp) (by have:=HP17.out;rw [HAL.out];omega) HSZA.out ?_;intro vbA rA hrowA hgrowA _;rw [List.nil_append] at hrowA;obtain ⟨gbA,cbA,curA,hveA,hcbA,hgbA,bBA,hcsA,hcuA⟩:=rowC_blkT hrowA (by rw [HAL.out];omega);rw [HAL.out] at hveA hcbA hcsA;subst hveA;have hBgA:Below zA eA rA:=below_grown (Below.refl _ _) hgrowA HSZA.out (fun q e=>RowG.own_le HROA.out q e);have hB:Below w2.heap.size w2 rA:=HBA.out.trans (hBgA.mono hzwA);have hgzA:w2.heap.size≤gbA:=Nat.le_trans hzwA hgbA;have hvjA:manyR.R (fun b=>b<rA.heap.size∧b≠gbA) rA (.slice Aj lj kj) cj:=manyR.imp (manyR_iff.2 (HJ.out _ (H2.out _ hB).1)) (fun k hk=>by have hk2:k<w.heap.size:=hk;have hs:=hB.size;exact ⟨by omega,by omega⟩);have hniA:manyR.R (fun b=>b<rA.heap.size∧b≠gbA) rA (.slice none 0 0) []:=⟨none,0,rfl,Nat.le_refl _,fun h=>absurd h (Nat.lt_irrefl _)⟩;have kk:=(H2.out _ hB).2.1;have k0:=kk.cell 0;have k1:=kk.cell 1;have k2:=kk.cell 2;simp only [List.getElem?_toArray,List.getElem?_cons_zero,List.getElem?_cons_succ] at k0 k1 k2;clear kk;have b0A_:=bBA;obtain ⟨l00A,y00A⟩:∃ old,rA.cell? ⟨gbA,a,none⟩=some old:=⟨_,(by rw [bBA.cell (a),Array.getElem?_eq_getElem (by have:=HAB.out;omega)])⟩;have f00A:=bBA.frozen (a);obtain ⟨l01A,y01A⟩:∃ old,rA.cell? ⟨gbA,b,none⟩=some old:=⟨_,(by rw [bBA.cell (b),Array.getElem?_eq_getElem (by have:=HAB.out;omega)])⟩;have f01A:=bBA.frozen (b);obtain ⟨l02A,y02A⟩:∃ old,rA.cell? ⟨gbA,c,none⟩=some old:=⟨_,(by rw [bBA.cell (c),Array.getElem?_eq_getElem (by have:=HAB.out;omega)])⟩;have f02A:=bBA.frozen (c);have hn01A:¬ a=b:=(by have:=HAB.out;omega);have hn02A:¬ a=c:=(by have:=HAB.out;omega);have hn10A:¬ b=a:=(by have:=HAB.out;omega);have hn12A:¬ b=c:=(by have:=HAB.out;omega);have hn20A:¬ c=a:=(by have:=HAB.out;omega);have hn21A:¬ c=b:=(by have:=HAB.out;omega);have h1A:Below w2.heap.size w2 (rA.setCell ⟨gbA,a,none⟩ (.slice Aj lj kj)):=hB.setCell (p:=⟨gbA,a,none⟩) hgzA _;have b1A:=bBA.set_ (a) (.slice Aj lj kj);have f11A:=b1A.frozen (b);have y11A:(rA.setCell ⟨gbA,a,none⟩ (.slice Aj lj kj)).cell? ⟨gbA,b,none⟩=some l01A:=(World.cell?_setCell_other _ _ _ _ (fun e=>hn01A (by injection e with e1 e2 e3))).trans y01A;have f12A:=b1A.frozen (c);have y12A:(rA.setCell ⟨gbA,a,none⟩ (.slice Aj lj kj)).cell? ⟨gbA,c,none⟩=some l02A:=(World.cell?_setCell_other _ _ _ _ (fun e=>hn02A (by injection e with e1 e2 e3))).trans y02A;have h2A:Below w2.heap.size w2 ((rA.setCell ⟨gbA,a,none⟩ (.slice Aj lj kj)).setCell ⟨gbA,b,none⟩ (.slice none 0 0)):=h1A.setCell (p:=⟨gbA,b,none⟩) hgzA _;have b2A:=b1A.set_ (b) (.slice none 0 0);have f22A:=b2A.frozen (c);have y22A:((rA.setCell ⟨gbA,a,none⟩ (.slice Aj lj kj)).setCell ⟨gbA,b,none⟩ (.slice none 0 0)).cell? ⟨gbA,c,none⟩=some l02A:=(World.cell?_setCell_other _ _ _ _ (fun e=>hn12A (by injection e with e1 e2 e3))).trans y12A;have h3A:Below w2.heap.size w2 (((rA.setCell ⟨gbA,a,none⟩ (.slice Aj lj kj)).setCell ⟨gbA,b,none⟩ (.slice none 0 0)).setCell ⟨gbA,c,none⟩ (.slice Aj lj kj)):=h2A.setCell (p:=⟨gbA,c,none⟩) hgzA _;have b3A:=b2A.set_ (c) (.slice Aj lj kj);have hCA:Cols (((rA.setCell ⟨gbA,a,none⟩ (.slice Aj lj kj)).setCell ⟨gbA,b,none⟩ (.slice none 0 0)).setCell ⟨gbA,c,none⟩ (.slice Aj lj kj)).heap.size (((rA.setCell ⟨gbA,a,none⟩ (.slice Aj lj kj)).setCell ⟨gbA,b,none⟩ (.slice none 0 0)).setCell ⟨gbA,c,none⟩ (.slice Aj lj kj)) (.slice (some ⟨gbA,0,none⟩) (P+3) cbA) (((allC.set a cj).set b []).set c cj):=cols_three_set bBA HAL.out hcbA hcsA hcuA (by have:=HAB.out;omega) (by have:=HAB.out;omega) (by have:=HAB.out;omega) (by have:=HAB.out;omega) (by have:=HAB.out;omega) (by have:=HAB.out;omega) hvjA hniA hvjA _ rfl;have hXA:Below w2.heap.size w2 (((rA.setCell ⟨gbA,a,none⟩ (.slice Aj lj kj)).setCell ⟨gbA,b,none⟩ (.slice none 0 0)).setCell ⟨gbA,c,none⟩ (.slice Aj lj kj)):=h3A;have kk:=(H2.out _ hXA).2.1;have q0:=kk.cell 0;have q1:=kk.cell 1;have q2:=kk.cell 2;simp only [List.getElem?_toArray,List.getElem?_cons_zero,List.getElem?_cons_succ] at q0 q1 q2;clear kk;obtain ⟨XA,eXA⟩:∃ x,(((rA.setCell ⟨gbA,a,none⟩ (.slice Aj lj kj)).setCell ⟨gbA,b,none⟩ (.slice none 0 0)).setCell ⟨gbA,c,none⟩ (.slice Aj lj kj))=x:=⟨_,rfl⟩;rw [eXA] at hCA hXA q0 q1 q2;have HX6A:=Lib.hid eXA;clear eXA b1A b2A b3A b0A_ bBA hcuA hcsA hB hvjA hniA h1A h2A h3A))
  clear hgrowA hrowA HBA HROA HXA HSZA hzwA hgbA hBgA
  (try rw [HX6A.out])
  refine (HTH.out _ _ _ (H2.out _ hXA).1 hCA).mono ?_
  rintro e w3 ⟨ul,rfl,hl,hB3⟩
  have hB:=below_in hXA hB3
  clear y00A f00A y01A f01A y02A f02A hn01A hn02A hn10A hn12A hn20A hn21A f11A y11A f12A y12A f22A y22A HX6A q0 q1 q2 k0 k1 k2 hCA hXA HTH
  obtain ⟨Al,kl,el,_,_⟩:=id hl
  have el':ul = .slice Al 3 kl:=el
  subst el'
  clear el
  have HCA:Hid (∀ U,Below w2.heap.size w2 U→(fun U:World=>U.cell? ⟨g0,0,none⟩=some (.int .i64 (a:Int))∧U.cell? ⟨g0,1,none⟩=some (.int .i64 (b:Int))∧U.cell? ⟨g0,2,none⟩=some (.int .i64 (c:Int))∧U.cell? ⟨bu,ou+a,none⟩=some (.slice Ca Q qa)∧U.cell? ⟨bu,ou+b,none⟩=some (.slice Cb Q qb)∧U.cell? ⟨bu,ou+c,none⟩=some (.slice Cc Q qc)) U):=fun U hU=>⟨(H2.out _ hU).2.1.cell 0,(H2.out _ hU).2.1.cell 1,(H2.out _ hU).2.1.cell 2,(H2.out _ hU).2.2.2.1,(H2.out _ hU).2.2.2.2.1,(H2.out _ hU).2.2.2.2.2.1⟩
  go_wp2_with fail
  replace hB:=hB.drew
  replace hl:Cols w3.drew.heap.size w3.drew _ _:=hl
  have hS:(fun U:World=>U.cell? ⟨g0,0,none⟩=some (.int .i64 (a:Int))∧U.cell? ⟨g0,1,none⟩=some (.int .i64 (b:Int))∧U.cell? ⟨g0,2,none⟩=some (.int .i64 (c:Int))∧U.cell? ⟨bu,ou+a,none⟩=some (.slice Ca Q qa)∧U.cell? ⟨bu,ou+b,none⟩=some (.slice Cb Q qb)∧U.cell? ⟨bu,ou+c,none⟩=some (.slice Cc Q qc)) w3.drew:=HCA.out _ hB
  refine (wpIn_wide (n:=12)).1 (wpIn_mono (region_HF (Q:=NoPanic _) (S:=(fun U:World=>U.cell? ⟨g0,0,none⟩=some (.int .i64 (a:Int))∧U.cell? ⟨g0,1,none⟩=some (.int .i64 (b:Int))∧U.cell? ⟨g0,2,none⟩=some (.int .i64 (c:Int))∧U.cell? ⟨bu,ou+a,none⟩=some (.slice Ca Q qa)∧U.cell? ⟨bu,ou+b,none⟩=some (.slice Cb Q qb)∧U.cell? ⟨bu,ou+c,none⟩=some (.slice Cc Q qc))) (by kernel_rfl) ?_) NoPanic.imp)
  refine anyHF_take (i:=0) (d:=83) (v:=.int .i64 0) (by kernel_rfl) rfl (by kernel_rfl) (by kernel_rfl) (by kernel_rfl) rfl (fun _ _ _ h=>h) ⟨Or.inl ⟨by rfl,fun w hS=>by obtain ⟨h0,h1,h2,h3,h4,h5⟩:=hS;go_simp⟩,fun _=>rfl⟩ hS ?_
  simp only [List.setIfInBounds_toArray,List.set_cons_zero,List.set_cons_succ]
  refine anyHF_one (i:=1) (by kernel_rfl) rfl (by kernel_rfl) (by rfl) ?_
  gi_wp2_with fail
  refine ⟨trivial,(callsIn_wide.2 (num13_any _ _)).mono ?_⟩
  rintro e wn ⟨rfl,rfl⟩
  gi_wp2
  try (refine ⟨hS,?_⟩)
  refine anyHF_take (i:=2) (d:=85) (v:=.bool false) (by kernel_rfl) rfl (by kernel_rfl) (by kernel_rfl) (by kernel_rfl) rfl (fun _ _ _ h=>h) ⟨Or.inl ⟨by rfl,fun w hS=>by obtain ⟨h0,h1,h2,h3,h4,h5⟩:=hS;go_simp⟩,fun _=>rfl⟩ hS ?_
  simp only [List.setIfInBounds_toArray,List.set_cons_zero,List.set_cons_succ]
  refine anyHF_take (i:=3) (d:=86) (v:=.bool false) (by kernel_rfl) rfl (by kernel_rfl) (by kernel_rfl) (by kernel_rfl) rfl (fun _ _ _ h=>h) ⟨Or.inl ⟨by rfl,fun w hS=>by obtain ⟨h0,h1,h2,h3,h4,h5⟩:=hS;go_simp⟩,fun _=>rfl⟩ hS ?_
  simp only [List.setIfInBounds_toArray,List.set_cons_zero,List.set_cons_succ]
  refine anyHF_take (i:=4) (d:=87) (v:=.slice Al 3 kl) (by kernel_rfl) rfl (by kernel_rfl) (by kernel_rfl) (by kernel_rfl) rfl (fun _ _ _ h=>h) ⟨Or.inl ⟨by rfl,fun w hS=>by obtain ⟨h0,h1,h2,h3,h4,h5⟩:=hS;go_simp⟩,fun _=>rfl⟩ hS ?_
  simp only [List.setIfInBounds_toArray,List.set_cons_zero,List.set_cons_succ]
  refine anyHF_take (i:=5) (d:=88) (v:=.slice (some ⟨bu,ou,none⟩) (P+3) ku) (by kernel_rfl) rfl (by kernel_rfl) (by kernel_rfl) (by kernel_rfl) rfl (fun _ _ _ h=>h) ⟨Or.inl ⟨by rfl,fun w hS=>by obtain ⟨h0,h1,h2,h3,h4,h5⟩:=hS;go_simp⟩,fun _=>rfl⟩ hS ?_
  simp only [List.setIfInBounds_toArray,List.set_cons_zero,List.set_cons_succ]
  refine anyHF_take (i:=6) (d:=89) (v:=.pointer (some ⟨g0,0,none⟩)) (by kernel_rfl) rfl (by kernel_rfl) (by kernel_rfl) (by kernel_rfl) rfl (fun _ _ _ h=>h) ⟨Or.inl ⟨by rfl,fun w hS=>by obtain ⟨h0,h1,h2,h3,h4,h5⟩:=hS;go_simp⟩,fun _=>rfl⟩ hS ?_
  simp only [List.setIfInBounds_toArray,List.set_cons_zero,List.set_cons_succ]
  refine anyHF_take (i:=7) (d:=90) (v:=.int .i64 (a:Int)) (by kernel_rfl) rfl (by kernel_rfl) (by kernel_rfl) (by kernel_rfl) rfl (fun _ _ _ h=>h) ⟨Or.inl ⟨by rfl,fun w hS=>by obtain ⟨h0,h1,h2,h3,h4,h5⟩:=hS;go_simp⟩,fun _=>rfl⟩ hS ?_
  simp only [List.setIfInBounds_toArray,List.set_cons_zero,List.set_cons_succ]
  refine anyHF_take (i:=8) (d:=91) (v:=.pointer (some ⟨bu,ou+a,none⟩)) (by kernel_rfl) rfl (by kernel_rfl) (by kernel_rfl) (by kernel_rfl) rfl (fun _ _ _ h=>h) ⟨Or.inl ⟨by rfl,fun w hS=>by obtain ⟨h0,h1,h2,h3,h4,h5⟩:=hS;go_simp⟩,fun _=>rfl⟩ hS ?_
  simp only [List.setIfInBounds_toArray,List.set_cons_zero,List.set_cons_succ]
  refine anyHF_take (i:=9) (d:=92) (v:=.slice Ca Q qa) (by kernel_rfl) rfl (by kernel_rfl) (by kernel_rfl) (by kernel_rfl) rfl (fun _ _ _ h=>h) ⟨Or.inl ⟨by rfl,fun w hS=>by obtain ⟨h0,h1,h2,h3,h4,h5⟩:=hS;go_simp⟩,fun _=>rfl⟩ hS ?_
  simp only [List.setIfInBounds_toArray,List.set_cons_zero,List.set_cons_succ]
  refine anyHF_take (i:=10) (d:=93) (v:=.slice (some ⟨bu,ou,none⟩) (P+3) ku) (by kernel_rfl) rfl (by kernel_rfl) (by kernel_rfl) (by kernel_rfl) rfl (fun _ _ _ h=>h) ⟨Or.inl ⟨by rfl,fun w hS=>by obtain ⟨h0,h1,h2,h3,h4,h5⟩:=hS;go_simp⟩,fun _=>rfl⟩ hS ?_
  simp only [List.setIfInBounds_toArray,List.set_cons_zero,List.set_cons_succ]
  refine anyHF_take (i:=11) (d:=94) (v:=.pointer (some ⟨g0,1,none⟩)) (by kernel_rfl) rfl (by kernel_rfl) (by kernel_rfl) (by kernel_rfl) rfl (fun _ _ _ h=>h) ⟨Or.inl ⟨by rfl,fun w hS=>by obtain ⟨h0,h1,h2,h3,h4,h5⟩:=hS;go_simp⟩,fun _=>rfl⟩ hS ?_
  simp only [List.setIfInBounds_toArray,List.set_cons_zero,List.set_cons_succ]
  refine anyHF_take (i:=12) (d:=95) (v:=.int .i64 (b:Int)) (by kernel_rfl) rfl (by kernel_rfl) (by kernel_rfl) (by kernel_rfl) rfl (fun _ _ _ h=>h) ⟨Or.inl ⟨by rfl,fun w hS=>by obtain ⟨h0,h1,h2,h3,h4,h5⟩:=hS;go_simp⟩,fun _=>rfl⟩ hS ?_
  simp only [List.setIfInBounds_toArray,List.set_cons_zero,List.set_cons_succ]
  refine anyHF_take (i:=13) (d:=96) (v:=.pointer (some ⟨bu,ou+b,none⟩)) (by kernel_rfl) rfl (by kernel_rfl) (by kernel_rfl) (by kernel_rfl) rfl (fun _ _ _ h=>h) ⟨Or.inl ⟨by rfl,fun w hS=>by obtain ⟨h0,h1,h2,h3,h4,h5⟩:=hS;go_simp⟩,fun _=>rfl⟩ hS ?_
  simp only [List.setIfInBounds_toArray,List.set_cons_zero,List.set_cons_succ]
  refine anyHF_take (i:=14) (d:=97) (v:=.slice Cb Q qb) (by kernel_rfl) rfl (by kernel_rfl) (by kernel_rfl) (by kernel_rfl) rfl (fun _ _ _ h=>h) ⟨Or.inl ⟨by rfl,fun w hS=>by obtain ⟨h0,h1,h2,h3,h4,h5⟩:=hS;go_simp⟩,fun _=>rfl⟩ hS ?_
  simp only [List.setIfInBounds_toArray,List.set_cons_zero,List.set_cons_succ]
  refine anyHF_take (i:=15) (d:=98) (v:=.slice (some ⟨bu,ou,none⟩) (P+3) ku) (by kernel_rfl) rfl (by kernel_rfl) (by kernel_rfl) (by kernel_rfl) rfl (fun _ _ _ h=>h) ⟨Or.inl ⟨by rfl,fun w hS=>by obtain ⟨h0,h1,h2,h3,h4,h5⟩:=hS;go_simp⟩,fun _=>rfl⟩ hS ?_
  simp only [List.setIfInBounds_toArray,List.set_cons_zero,List.set_cons_succ]
  refine anyHF_take (i:=16) (d:=99) (v:=.pointer (some ⟨g0,2,none⟩)) (by kernel_rfl) rfl (by kernel_rfl) (by kernel_rfl) (by kernel_rfl) rfl (fun _ _ _ h=>h) ⟨Or.inl ⟨by rfl,fun w hS=>by obtain ⟨h0,h1,h2,h3,h4,h5⟩:=hS;go_simp⟩,fun _=>rfl⟩ hS ?_
  simp only [List.setIfInBounds_toArray,List.set_cons_zero,List.set_cons_succ]
  refine anyHF_take (i:=17) (d:=100) (v:=.int .i64 (c:Int)) (by kernel_rfl) rfl (by kernel_rfl) (by kernel_rfl) (by kernel_rfl) rfl (fun _ _ _ h=>h) ⟨Or.inl ⟨by rfl,fun w hS=>by obtain ⟨h0,h1,h2,h3,h4,h5⟩:=hS;go_simp⟩,fun _=>rfl⟩ hS ?_
  simp only [List.setIfInBounds_toArray,List.set_cons_zero,List.set_cons_succ]
  refine anyHF_take (i:=18) (d:=101) (v:=.pointer (some ⟨bu,ou+c,none⟩)) (by kernel_rfl) rfl (by kernel_rfl) (by kernel_rfl) (by kernel_rfl) rfl (fun _ _ _ h=>h) ⟨Or.inl ⟨by rfl,fun w hS=>by obtain ⟨h0,h1,h2,h3,h4,h5⟩:=hS;go_simp⟩,fun _=>rfl⟩ hS ?_
  simp only [List.setIfInBounds_toArray,List.set_cons_zero,List.set_cons_succ]
  refine anyHF_take (i:=19) (d:=102) (v:=.slice Cc Q qc) (by kernel_rfl) rfl (by kernel_rfl) (by kernel_rfl) (by kernel_rfl) rfl (fun _ _ _ h=>h) ⟨Or.inl ⟨by rfl,fun w hS=>by obtain ⟨h0,h1,h2,h3,h4,h5⟩:=hS;go_simp⟩,fun _=>rfl⟩ hS ?_
  simp only [List.setIfInBounds_toArray,List.set_cons_zero,List.set_cons_succ]
  refine anyHF_one (i:=20) (by kernel_rfl) rfl (by kernel_rfl) (by rfl) ?_
  have bE:=Blk.new w3.drew 41 #[.slice Ca Q qa,.slice Cb Q qb,.slice Cc Q qc]
  have hE:=below_one w3.drew (.cells #[.slice Ca Q qa,.slice Cb Q qb,.slice Cc Q qc] 41)
  obtain ⟨xEA,eE⟩:∃ x,(w3.drew.alloc (.cells #[.slice Ca Q qa,.slice Cb Q qb,.slice Cc Q qc] 41))=x:=⟨_,rfl⟩
  obtain ⟨gEA,eG⟩:∃ x,w3.drew.heap.size=x:=⟨_,rfl⟩
  rw [eE] at bE hE
  replace hl:=(hl.below hE).more hE.size
  rw [eG] at bE
  replace hB:=below_in hB hE
  clear hE hS
  have hS:(fun U:World=>U.cell? ⟨g0,0,none⟩=some (.int .i64 (a:Int))∧U.cell? ⟨g0,1,none⟩=some (.int .i64 (b:Int))∧U.cell? ⟨g0,2,none⟩=some (.int .i64 (c:Int))∧U.cell? ⟨bu,ou+a,none⟩=some (.slice Ca Q qa)∧U.cell? ⟨bu,ou+b,none⟩=some (.slice Cb Q qb)∧U.cell? ⟨bu,ou+c,none⟩=some (.slice Cc Q qc)) xEA:=HCA.out _ hB
  gi_wp2
  (try rw [eG]);(try rw [eE])
  try (refine ⟨hS,?_⟩)
  refine anyHF_one (i:=21) (by kernel_rfl) rfl (by kernel_rfl) (by rfl) ?_
  gi_wp2_with fail
  refine ⟨trivial,(callsIn_wide.2 (same_T HSM.out (by simp) _ _ _ hl (cols_three bE ((H2.out _ hB).2.2.2.2.2.2.1.more hB.size) ((H2.out _ hB).2.2.2.2.2.2.2.1.more hB.size) ((H2.out _ hB).2.2.2.2.2.2.2.2.more hB.size) bE.lt))).mono ?_⟩
  rintro e yA ⟨rfl,hBn⟩
  replace hB:=below_in hB hBn
  clear hBn bE hl hS
  have hS:(fun U:World=>U.cell? ⟨g0,0,none⟩=some (.int .i64 (a:Int))∧U.cell? ⟨g0,1,none⟩=some (.int .i64 (b:Int))∧U.cell? ⟨g0,2,none⟩=some (.int .i64 (c:Int))∧U.cell? ⟨bu,ou+a,none⟩=some (.slice Ca Q qa)∧U.cell? ⟨bu,ou+b,none⟩=some (.slice Cb Q qb)∧U.cell? ⟨bu,ou+c,none⟩=some (.slice Cc Q qc)) yA:=HCA.out _ hB
  gi_wp2
  try (refine ⟨hS,?_⟩)
  refine anyHF_take (i:=22) (d:=105) (v:=.bool false) (by kernel_rfl) rfl (by kernel_rfl) (by kernel_rfl) (by kernel_rfl) rfl (fun _ _ _ h=>h) ⟨Or.inl ⟨by rfl,fun w hS=>by obtain ⟨h0,h1,h2,h3,h4,h5⟩:=hS;go_simp⟩,fun _=>rfl⟩ hS ?_
  simp only [List.setIfInBounds_toArray,List.set_cons_zero,List.set_cons_succ]
  refine anyHF_take (i:=23) (d:=106) (v:=.bool false) (by kernel_rfl) rfl (by kernel_rfl) (by kernel_rfl) (by kernel_rfl) rfl (fun _ _ _ h=>h) ⟨Or.inl ⟨by rfl,fun w hS=>by obtain ⟨h0,h1,h2,h3,h4,h5⟩:=hS;go_simp⟩,fun _=>rfl⟩ hS ?_
  simp only [List.setIfInBounds_toArray,List.set_cons_zero,List.set_cons_succ]
  refine anyHF_done (by kernel_rfl) ?_ _
  refine NoPanic.normal ?_
  clear hS HCA
  have hAB:=below_one yA (.cells #[] 41)
  obtain ⟨eB,heB⟩:∃ x,yA.alloc (.cells #[] 41)=x:=⟨_,rfl⟩
  obtain ⟨zB,hzB⟩:∃ x,yA.heap.size=x:=⟨_,rfl⟩
  have HZB:=Lib.hid hzB
  have HROB:Hid (RowC (fun _=>True) eB zB (.slice (some ⟨zB,0,none⟩) 0 0) []):=by unfold Hid;rw [←heB,←hzB];exact Rg.RowG.empty _ _ _ _ (Blk.new yA 41 #[]) (Nat.le_refl _)
  rw [heB] at hAB
  have HXB:=Lib.hid (app_far hAB (by rw [hzB];exact Nat.le_refl _) HROB.out (((H2.out _ hB).2.2.1.more hB.size).below hAB))
  have HSZB:Hid (zB≤eB.heap.size):=by unfold Hid;rw [←hzB];exact hAB.size
  have hzwB:w2.heap.size≤zB:=by rw [←hzB];exact hB.size
  have HBB:=Lib.hid (below_in hB hAB)
  have HEB:=Lib.hid heB
  clear hB hzB heB hAB
  go_wp2_with (at_builtin;((try rw [HZB.out]);(try rw [HEB.out]);refine wpList_appStripe _ rfl _ _ rfl [] allC rfl HROB.out rfl HXB.out (by have:=HP17.out;rw [HAL.out];omega) (by simp) (by have:=HP17.out;rw [HAL.out];omega) HSZB.out ?_;intro vbB rB hrowB hgrowB _;rw [List.nil_append] at hrowB;obtain ⟨gbB,cbB,curB,hveB,hcbB,hgbB,bBB,hcsB,hcuB⟩:=rowC_blkT hrowB (by rw [HAL.out];omega);rw [HAL.out] at hveB hcbB hcsB;subst hveB;have hBgB:Below zB eB rB:=below_grown (Below.refl _ _) hgrowB HSZB.out (fun q e=>RowG.own_le HROB.out q e);have hB:Below w2.heap.size w2 rB:=HBB.out.trans (hBgB.mono hzwB);have hgzB:w2.heap.size≤gbB:=Nat.le_trans hzwB hgbB;have hvjB:manyR.R (fun b=>b<rB.heap.size∧b≠gbB) rB (.slice Aj lj kj) cj:=manyR.imp (manyR_iff.2 (HJ.out _ (H2.out _ hB).1)) (fun k hk=>by have hk2:k<w.heap.size:=hk;have hs:=hB.size;exact ⟨by omega,by omega⟩);have hniB:manyR.R (fun b=>b<rB.heap.size∧b≠gbB) rB (.slice none 0 0) []:=⟨none,0,rfl,Nat.le_refl _,fun h=>absurd h (Nat.lt_irrefl _)⟩;have kk:=(H2.out _ hB).2.1;have k0:=kk.cell 0;have k1:=kk.cell 1;have k2:=kk.cell 2;simp only [List.getElem?_toArray,List.getElem?_cons_zero,List.getElem?_cons_succ] at k0 k1 k2;clear kk;have b0B_:=bBB;obtain ⟨l00B,y00B⟩:∃ old,rB.cell? ⟨gbB,a,none⟩=some old:=⟨_,(by rw [bBB.cell (a),Array.getElem?_eq_getElem (by have:=HAB.out;omega)])⟩;have f00B:=bBB.frozen (a);obtain ⟨l01B,y01B⟩:∃ old,rB.cell? ⟨gbB,c,none⟩=some old:=⟨_,(by rw [bBB.cell (c),Array.getElem?_eq_getElem (by have:=HAB.out;omega)])⟩;have f01B:=bBB.frozen (c);obtain ⟨l02B,y02B⟩:∃ old,rB.cell? ⟨gbB,P+t,none⟩=some old:=⟨_,(by rw [bBB.cell (P+t),Array.getElem?_eq_getElem (by have:=HAB.out;omega)])⟩;have f02B:=bBB.frozen (P+t);have hn01B:¬ a=c:=(by have:=HAB.out;omega);have hn02B:¬ a=P+t:=(by have:=HAB.out;omega);have hn10B:¬ c=a:=(by have:=HAB.out;omega);have hn12B:¬ c=P+t:=(by have:=HAB.out;omega);have hn20B:¬ P+t=a:=(by have:=HAB.out;omega);have hn21B:¬ P+t=c:=(by have:=HAB.out;omega);have h1B:Below w2.heap.size w2 (rB.setCell ⟨gbB,a,none⟩ (.slice none 0 0)):=hB.setCell (p:=⟨gbB,a,none⟩) hgzB _;have b1B:=bBB.set_ (a) (.slice none 0 0);have f11B:=b1B.frozen (c);have y11B:(rB.setCell ⟨gbB,a,none⟩ (.slice none 0 0)).cell? ⟨gbB,c,none⟩=some l01B:=(World.cell?_setCell_other _ _ _ _ (fun e=>hn01B (by injection e with e1 e2 e3))).trans y01B;have f12B:=b1B.frozen (P+t);have y12B:(rB.setCell ⟨gbB,a,none⟩ (.slice none 0 0)).cell? ⟨gbB,P+t,none⟩=some l02B:=(World.cell?_setCell_other _ _ _ _ (fun e=>hn02B (by injection e with e1 e2 e3))).trans y02B;have h2B:Below w2.heap.size w2 ((rB.setCell ⟨gbB,a,none⟩ (.slice none 0 0)).setCell ⟨gbB,c,none⟩ (.slice Aj lj kj)):=h1B.setCell (p:=⟨gbB,c,none⟩) hgzB _;have b2B:=b1B.set_ (c) (.slice Aj lj kj);have f22B:=b2B.frozen (P+t);have y22B:((rB.setCell ⟨gbB,a,none⟩ (.slice none 0 0)).setCell ⟨gbB,c,none⟩ (.slice Aj lj kj)).cell? ⟨gbB,P+t,none⟩=some l02B:=(World.cell?_setCell_other _ _ _ _ (fun e=>hn12B (by injection e with e1 e2 e3))).trans y12B;have h3B:Below w2.heap.size w2 (((rB.setCell ⟨gbB,a,none⟩ (.slice none 0 0)).setCell ⟨gbB,c,none⟩ (.slice Aj lj kj)).setCell ⟨gbB,P+t,none⟩ (.slice Aj lj kj)):=h2B.setCell (p:=⟨gbB,P+t,none⟩) hgzB _;have b3B:=b2B.set_ (P+t) (.slice Aj lj kj);have hCB:Cols (((rB.setCell ⟨gbB,a,none⟩ (.slice none 0 0)).setCell ⟨gbB,c,none⟩ (.slice Aj lj kj)).setCell ⟨gbB,P+t,none⟩ (.slice Aj lj kj)).heap.size (((rB.setCell ⟨gbB,a,none⟩ (.slice none 0 0)).setCell ⟨gbB,c,none⟩ (.slice Aj lj kj)).setCell ⟨gbB,P+t,none⟩ (.slice Aj lj kj)) (.slice (some ⟨gbB,0,none⟩) (P+3) cbB) (((allC.set a []).set c cj).set (P+t) cj):=cols_three_set bBB HAL.out hcbB hcsB hcuB (by have:=HAB.out;omega) (by have:=HAB.out;omega) (by have:=HAB.out;omega) (by have:=HAB.out;omega) (by have:=HAB.out;omega) (by have:=HAB.out;omega) hniB hvjB hvjB _ rfl;have hXB:Below w2.heap.size w2 (((rB.setCell ⟨gbB,a,none⟩ (.slice none 0 0)).setCell ⟨gbB,c,none⟩ (.slice Aj lj kj)).setCell ⟨gbB,P+t,none⟩ (.slice Aj lj kj)):=h3B;have kk:=(H2.out _ hXB).2.1;have q0:=kk.cell 0;have q1:=kk.cell 1;have q2:=kk.cell 2;simp only [List.getElem?_toArray,List.getElem?_cons_zero,List.getElem?_cons_succ] at q0 q1 q2;clear kk;obtain ⟨XB,eXB⟩:∃ x,(((rB.setCell ⟨gbB,a,none⟩ (.slice none 0 0)).setCell ⟨gbB,c,none⟩ (.slice Aj lj kj)).setCell ⟨gbB,P+t,none⟩ (.slice Aj lj kj))=x:=⟨_,rfl⟩;rw [eXB] at hCB hXB q0 q1 q2;have HX6B:=Lib.hid eXB;clear eXB b1B b2B b3B b0B_ bBB hcuB hcsB hB hvjB hniB h1B h2B h3B))
  clear hgrowB hrowB HBB HROB HXB HSZB hzwB hgbB hBgB
  (try rw [HX6B.out])
  refine (HTW.out _ _ _ (H2.out _ hXB).1 hCB).mono ?_
  rintro e w4 ⟨ul,rfl,hl,hB3⟩
  have hB:=below_in hXB hB3
  clear y00B f00B y01B f01B y02B f02B hn01B hn02B hn10B hn12B hn20B hn21B f11B y11B f12B y12B f22B y22B HX6B q0 q1 q2 k0 k1 k2 hCB hXB HTW
  obtain ⟨Al,kl,el,_,_⟩:=id hl
  have el':ul = .slice Al 2 kl:=el
  subst el'
  clear el
  have HCB:Hid (∀ U,Below w2.heap.size w2 U→(fun U:World=>U.cell? ⟨g0,0,none⟩=some (.int .i64 (a:Int))∧U.cell? ⟨g0,1,none⟩=some (.int .i64 (b:Int))∧U.cell? ⟨g0,2,none⟩=some (.int .i64 (c:Int))∧U.cell? ⟨bu,ou+a,none⟩=some (.slice Ca Q qa)∧U.cell? ⟨bu,ou+c,none⟩=some (.slice Cc Q qc)) U):=fun U hU=>⟨(H2.out _ hU).2.1.cell 0,(H2.out _ hU).2.1.cell 1,(H2.out _ hU).2.1.cell 2,(H2.out _ hU).2.2.2.1,(H2.out _ hU).2.2.2.2.2.1⟩
  go_wp2_with fail
  replace hB:=hB.drew
  replace hl:Cols w4.drew.heap.size w4.drew _ _:=hl
  have hS:(fun U:World=>U.cell? ⟨g0,0,none⟩=some (.int .i64 (a:Int))∧U.cell? ⟨g0,1,none⟩=some (.int .i64 (b:Int))∧U.cell? ⟨g0,2,none⟩=some (.int .i64 (c:Int))∧U.cell? ⟨bu,ou+a,none⟩=some (.slice Ca Q qa)∧U.cell? ⟨bu,ou+c,none⟩=some (.slice Cc Q qc)) w4.drew:=HCB.out _ hB
  refine (wpIn_wide (n:=12)).1 (wpIn_mono (region_HF (Q:=NoPanic _) (S:=(fun U:World=>U.cell? ⟨g0,0,none⟩=some (.int .i64 (a:Int))∧U.cell? ⟨g0,1,none⟩=some (.int .i64 (b:Int))∧U.cell? ⟨g0,2,none⟩=some (.int .i64 (c:Int))∧U.cell? ⟨bu,ou+a,none⟩=some (.slice Ca Q qa)∧U.cell? ⟨bu,ou+c,none⟩=some (.slice Cc Q qc))) (by kernel_rfl) ?_) NoPanic.imp)
  refine anyHF_take (i:=0) (d:=137) (v:=.int .i64 0) (by kernel_rfl) rfl (by kernel_rfl) (by kernel_rfl) (by kernel_rfl) rfl (fun _ _ _ h=>h) ⟨Or.inl ⟨by rfl,fun w hS=>by obtain ⟨h0,h1,h2,h3,h4⟩:=hS;go_simp⟩,fun _=>rfl⟩ hS ?_
  simp only [List.setIfInBounds_toArray,List.set_cons_zero,List.set_cons_succ]
  refine anyHF_one (i:=1) (by kernel_rfl) rfl (by kernel_rfl) (by rfl) ?_
  gi_wp2_with fail
  refine ⟨trivial,(callsIn_wide.2 (num13_any _ _)).mono ?_⟩
  rintro e wn ⟨rfl,rfl⟩
  gi_wp2
  try (refine ⟨hS,?_⟩)
  refine anyHF_take (i:=2) (d:=139) (v:=.bool false) (by kernel_rfl) rfl (by kernel_rfl) (by kernel_rfl) (by kernel_rfl) rfl (fun _ _ _ h=>h) ⟨Or.inl ⟨by rfl,fun w hS=>by obtain ⟨h0,h1,h2,h3,h4⟩:=hS;go_simp⟩,fun _=>rfl⟩ hS ?_
  simp only [List.setIfInBounds_toArray,List.set_cons_zero,List.set_cons_succ]
  refine anyHF_take (i:=3) (d:=140) (v:=.bool false) (by kernel_rfl) rfl (by kernel_rfl) (by kernel_rfl) (by kernel_rfl) rfl (fun _ _ _ h=>h) ⟨Or.inl ⟨by rfl,fun w hS=>by obtain ⟨h0,h1,h2,h3,h4⟩:=hS;go_simp⟩,fun _=>rfl⟩ hS ?_
  simp only [List.setIfInBounds_toArray,List.set_cons_zero,List.set_cons_succ]
  refine anyHF_take (i:=4) (d:=141) (v:=.slice Al 2 kl) (by kernel_rfl) rfl (by kernel_rfl) (by kernel_rfl) (by kernel_rfl) rfl (fun _ _ _ h=>h) ⟨Or.inl ⟨by rfl,fun w hS=>by obtain ⟨h0,h1,h2,h3,h4⟩:=hS;go_simp⟩,fun _=>rfl⟩ hS ?_
  simp only [List.setIfInBounds_toArray,List.set_cons_zero,List.set_cons_succ]
  refine anyHF_take (i:=5) (d:=142) (v:=.slice (some ⟨bu,ou,none⟩) (P+3) ku) (by kernel_rfl) rfl (by kernel_rfl) (by kernel_rfl) (by kernel_rfl) rfl (fun _ _ _ h=>h) ⟨Or.inl ⟨by rfl,fun w hS=>by obtain ⟨h0,h1,h2,h3,h4⟩:=hS;go_simp⟩,fun _=>rfl⟩ hS ?_
  simp only [List.setIfInBounds_toArray,List.set_cons_zero,List.set_cons_succ]
  refine anyHF_take (i:=6) (d:=143) (v:=.pointer (some ⟨g0,0,none⟩)) (by kernel_rfl) rfl (by kernel_rfl) (by kernel_rfl) (by kernel_rfl) rfl (fun _ _ _ h=>h) ⟨Or.inl ⟨by rfl,fun w hS=>by obtain ⟨h0,h1,h2,h3,h4⟩:=hS;go_simp⟩,fun _=>rfl⟩ hS ?_
  simp only [List.setIfInBounds_toArray,List.set_cons_zero,List.set_cons_succ]
  refine anyHF_take (i:=7) (d:=144) (v:=.int .i64 (a:Int)) (by kernel_rfl) rfl (by kernel_rfl) (by kernel_rfl) (by kernel_rfl) rfl (fun _ _ _ h=>h) ⟨Or.inl ⟨by rfl,fun w hS=>by obtain ⟨h0,h1,h2,h3,h4⟩:=hS;go_simp⟩,fun _=>rfl⟩ hS ?_
  simp only [List.setIfInBounds_toArray,List.set_cons_zero,List.set_cons_succ]
  refine anyHF_take (i:=8) (d:=145) (v:=.pointer (some ⟨bu,ou+a,none⟩)) (by kernel_rfl) rfl (by kernel_rfl) (by kernel_rfl) (by kernel_rfl) rfl (fun _ _ _ h=>h) ⟨Or.inl ⟨by rfl,fun w hS=>by obtain ⟨h0,h1,h2,h3,h4⟩:=hS;go_simp⟩,fun _=>rfl⟩ hS ?_
  simp only [List.setIfInBounds_toArray,List.set_cons_zero,List.set_cons_succ]
  refine anyHF_take (i:=9) (d:=146) (v:=.slice Ca Q qa) (by kernel_rfl) rfl (by kernel_rfl) (by kernel_rfl) (by kernel_rfl) rfl (fun _ _ _ h=>h) ⟨Or.inl ⟨by rfl,fun w hS=>by obtain ⟨h0,h1,h2,h3,h4⟩:=hS;go_simp⟩,fun _=>rfl⟩ hS ?_
  simp only [List.setIfInBounds_toArray,List.set_cons_zero,List.set_cons_succ]
  refine anyHF_take (i:=10) (d:=147) (v:=.slice (some ⟨bu,ou,none⟩) (P+3) ku) (by kernel_rfl) rfl (by kernel_rfl) (by kernel_rfl) (by kernel_rfl) rfl (fun _ _ _ h=>h) ⟨Or.inl ⟨by rfl,fun w hS=>by obtain ⟨h0,h1,h2,h3,h4⟩:=hS;go_simp⟩,fun _=>rfl⟩ hS ?_
  simp only [List.setIfInBounds_toArray,List.set_cons_zero,List.set_cons_succ]
  refine anyHF_take (i:=11) (d:=148) (v:=.pointer (some ⟨g0,2,none⟩)) (by kernel_rfl) rfl (by kernel_rfl) (by kernel_rfl) (by kernel_rfl) rfl (fun _ _ _ h=>h) ⟨Or.inl ⟨by rfl,fun w hS=>by obtain ⟨h0,h1,h2,h3,h4⟩:=hS;go_simp⟩,fun _=>rfl⟩ hS ?_
  simp only [List.setIfInBounds_toArray,List.set_cons_zero,List.set_cons_succ]
  refine anyHF_take (i:=12) (d:=149) (v:=.int .i64 (c:Int)) (by kernel_rfl) rfl (by kernel_rfl) (by kernel_rfl) (by kernel_rfl) rfl (fun _ _ _ h=>h) ⟨Or.inl ⟨by rfl,fun w hS=>by obtain ⟨h0,h1,h2,h3,h4⟩:=hS;go_simp⟩,fun _=>rfl⟩ hS ?_
  simp only [List.setIfInBounds_toArray,List.set_cons_zero,List.set_cons_succ]
  refine anyHF_take (i:=13) (d:=150) (v:=.pointer (some ⟨bu,ou+c,none⟩)) (by kernel_rfl) rfl (by kernel_rfl) (by kernel_rfl) (by kernel_rfl) rfl (fun _ _ _ h=>h) ⟨Or.inl ⟨by rfl,fun w hS=>by obtain ⟨h0,h1,h2,h3,h4⟩:=hS;go_simp⟩,fun _=>rfl⟩ hS ?_
  simp only [List.setIfInBounds_toArray,List.set_cons_zero,List.set_cons_succ]
  refine anyHF_take (i:=14) (d:=151) (v:=.slice Cc Q qc) (by kernel_rfl) rfl (by kernel_rfl) (by kernel_rfl) (by kernel_rfl) rfl (fun _ _ _ h=>h) ⟨Or.inl ⟨by rfl,fun w hS=>by obtain ⟨h0,h1,h2,h3,h4⟩:=hS;go_simp⟩,fun _=>rfl⟩ hS ?_
  simp only [List.setIfInBounds_toArray,List.set_cons_zero,List.set_cons_succ]
  refine anyHF_one (i:=15) (by kernel_rfl) rfl (by kernel_rfl) (by rfl) ?_
  have bE:=Blk.new w4.drew 41 #[.slice Ca Q qa,.slice Cc Q qc]
  have hE:=below_one w4.drew (.cells #[.slice Ca Q qa,.slice Cc Q qc] 41)
  obtain ⟨xEB,eE⟩:∃ x,(w4.drew.alloc (.cells #[.slice Ca Q qa,.slice Cc Q qc] 41))=x:=⟨_,rfl⟩
  obtain ⟨gEB,eG⟩:∃ x,w4.drew.heap.size=x:=⟨_,rfl⟩
  rw [eE] at bE hE
  replace hl:=(hl.below hE).more hE.size
  rw [eG] at bE
  replace hB:=below_in hB hE
  clear hE hS
  have hS:(fun U:World=>U.cell? ⟨g0,0,none⟩=some (.int .i64 (a:Int))∧U.cell? ⟨g0,1,none⟩=some (.int .i64 (b:Int))∧U.cell? ⟨g0,2,none⟩=some (.int .i64 (c:Int))∧U.cell? ⟨bu,ou+a,none⟩=some (.slice Ca Q qa)∧U.cell? ⟨bu,ou+c,none⟩=some (.slice Cc Q qc)) xEB:=HCB.out _ hB
  gi_wp2
  (try rw [eG]);(try rw [eE])
  try (refine ⟨hS,?_⟩)
  refine anyHF_one (i:=16) (by kernel_rfl) rfl (by kernel_rfl) (by rfl) ?_
  gi_wp2_with fail
  refine ⟨trivial,(callsIn_wide.2 (same_T (fun x hx=>HSM.out x (by simp only [List.mem_cons,List.not_mem_nil,or_false] at hx ⊢;rcases hx with rfl | rfl <;> simp)) (by simp) _ _ _ hl (Rg.cols_two bE ((H2.out _ hB).2.2.2.2.2.2.1.more hB.size) ((H2.out _ hB).2.2.2.2.2.2.2.2.more hB.size) bE.lt))).mono ?_⟩
  rintro e yB ⟨rfl,hBn⟩
  replace hB:=below_in hB hBn
  clear hBn bE hl hS
  have hS:(fun U:World=>U.cell? ⟨g0,0,none⟩=some (.int .i64 (a:Int))∧U.cell? ⟨g0,1,none⟩=some (.int .i64 (b:Int))∧U.cell? ⟨g0,2,none⟩=some (.int .i64 (c:Int))∧U.cell? ⟨bu,ou+a,none⟩=some (.slice Ca Q qa)∧U.cell? ⟨bu,ou+c,none⟩=some (.slice Cc Q qc)) yB:=HCB.out _ hB
  gi_wp2
  try (refine ⟨hS,?_⟩)
  refine anyHF_take (i:=17) (d:=154) (v:=.bool false) (by kernel_rfl) rfl (by kernel_rfl) (by kernel_rfl) (by kernel_rfl) rfl (fun _ _ _ h=>h) ⟨Or.inl ⟨by rfl,fun w hS=>by obtain ⟨h0,h1,h2,h3,h4⟩:=hS;go_simp⟩,fun _=>rfl⟩ hS ?_
  simp only [List.setIfInBounds_toArray,List.set_cons_zero,List.set_cons_succ]
  refine anyHF_take (i:=18) (d:=155) (v:=.bool false) (by kernel_rfl) rfl (by kernel_rfl) (by kernel_rfl) (by kernel_rfl) rfl (fun _ _ _ h=>h) ⟨Or.inl ⟨by rfl,fun w hS=>by obtain ⟨h0,h1,h2,h3,h4⟩:=hS;go_simp⟩,fun _=>rfl⟩ hS ?_
  simp only [List.setIfInBounds_toArray,List.set_cons_zero,List.set_cons_succ]
  refine anyHF_done (by kernel_rfl) ?_ _
  refine NoPanic.normal ?_
  clear hS HCB
  have hAC:=below_one yB (.cells #[] 41)
  obtain ⟨eC,heC⟩:∃ x,yB.alloc (.cells #[] 41)=x:=⟨_,rfl⟩
  obtain ⟨zC,hzC⟩:∃ x,yB.heap.size=x:=⟨_,rfl⟩
  have HZC:=Lib.hid hzC
  have HROC:Hid (RowC (fun _=>True) eC zC (.slice (some ⟨zC,0,none⟩) 0 0) []):=by unfold Hid;rw [←heC,←hzC];exact Rg.RowG.empty _ _ _ _ (Blk.new yB 41 #[]) (Nat.le_refl _)
  rw [heC] at hAC
  have HXC:=Lib.hid (app_far hAC (by rw [hzC];exact Nat.le_refl _) HROC.out (((H2.out _ hB).2.2.1.more hB.size).below hAC))
  have HSZC:Hid (zC≤eC.heap.size):=by unfold Hid;rw [←hzC];exact hAC.size
  have hzwC:w2.heap.size≤zC:=by rw [←hzC];exact hB.size
  have HBC:=Lib.hid (below_in hB hAC)
  have HEC:=Lib.hid heC
  clear hB hzC heC hAC
  go_wp2_with (at_builtin;((try rw [HZC.out]);(try rw [HEC.out]);refine wpList_appStripe _ rfl _ _ rfl [] allC rfl HROC.out rfl HXC.out (by have:=HP17.out;rw [HAL.out];omega) (by simp) (by have:=HP17.out;rw [HAL.out];omega) HSZC.out ?_;intro vbC rC hrowC hgrowC _;rw [List.nil_append] at hrowC;obtain ⟨gbC,cbC,curC,hveC,hcbC,hgbC,bBC,hcsC,hcuC⟩:=rowC_blkT hrowC (by rw [HAL.out];omega);rw [HAL.out] at hveC hcbC hcsC;subst hveC;have hBgC:Below zC eC rC:=below_grown (Below.refl _ _) hgrowC HSZC.out (fun q e=>RowG.own_le HROC.out q e);have hB:Below w2.heap.size w2 rC:=HBC.out.trans (hBgC.mono hzwC);have hgzC:w2.heap.size≤gbC:=Nat.le_trans hzwC hgbC;have hvjC:manyR.R (fun b=>b<rC.heap.size∧b≠gbC) rC (.slice Aj lj kj) cj:=manyR.imp (manyR_iff.2 (HJ.out _ (H2.out _ hB).1)) (fun k hk=>by have hk2:k<w.heap.size:=hk;have hs:=hB.size;exact ⟨by omega,by omega⟩);have hniC:manyR.R (fun b=>b<rC.heap.size∧b≠gbC) rC (.slice none 0 0) []:=⟨none,0,rfl,Nat.le_refl _,fun h=>absurd h (Nat.lt_irrefl _)⟩;have hRS:RowSt rC gbC (P+3) allC:=⟨HAL.out,curC,bBC,hcsC,(fun j hj=>hcuC j (by rw [HAL.out];exact hj))⟩;have kk:=(H2.out _ hB).2.1;have k0:=kk.cell 0;have k1:=kk.cell 1;have k2:=kk.cell 2;simp only [List.getElem?_toArray,List.getElem?_cons_zero,List.getElem?_cons_succ] at k0 k1 k2;clear kk;obtain ⟨l0C,y0C⟩:=hRS.old (i:=b) (by have:=HAB.out;omega);have f0C:=hRS.frozen b;have hR:=hRS.set (i:=b) (by have:=HAB.out;omega) hvjC;have hX:=hB.setCell (p:=⟨gbC,b,none⟩) hgzC (.slice Aj lj kj);obtain ⟨XC,eXC⟩:∃ x,(rC.setCell ⟨gbC,b,none⟩ (.slice Aj lj kj))=x:=⟨_,rfl⟩;rw [eXC] at hR hX;have HX6C:=Lib.hid eXC;clear eXC hRS bBC hcuC hcsC hB hvjC hniC))
  clear hgrowC hrowC HBC HROC HXC HSZC hzwC hgbC hBgC
  (try rw [HX6C.out])
  refine (HOT.out _).mono ?_
  rintro e w5 ⟨vo,rfl,hown,hB3⟩
  have hB:=below_in hX hB3
  have hgl:=hR.below hB3
  have hlt0:gbC<XC.heap.size:=by obtain ⟨_,cur,hb,_⟩:=hR;exact hb.lt
  clear y0C f0C k0 k1 k2 HX6C HOT hR hX hB3
  have hR:=hgl
  clear hgl
  have hoo:=fun g e=>(World.ownsRow.lt hown g e).1
  obtain ⟨oA,ko,eo,_,hoA⟩:=hown.ints
  obtain ⟨bo,oo,rfl,hbo,hco⟩:=hoA (show 0<2 by omega)
  have eo':vo = .slice (some ⟨bo,oo,none⟩) 2 ko:=eo
  subst eo'
  have hne:bo≠gbC:=by have:=hoo bo rfl;omega
  have hc0:w5.cell? ⟨bo,oo,none⟩=some (.int .i64 (o0:Int)):=hco 0 (show 0<2 by omega)
  have hc1:w5.cell? ⟨bo,oo+1,none⟩=some (.int .i64 (o1:Int)):=hco 1 (show 1<2 by omega)
  clear hown hoo eo hoA hco hbo hlt0
  go_wp2_with fail
  replace hB:=hB.drew
  replace hR:RowSt w5.drew _ _ _:=hR.below ((Below.refl _ _).drew)
  replace hc0:w5.drew.cell? _ = _:=hc0
  replace hc1:w5.drew.cell? _ = _:=hc1
  obtain ⟨xd,hxd⟩:∃ x,w5.drew=x:=⟨_,rfl⟩
  rw [hxd] at hB hR hc0 hc1
  have hS:(fun U:World=>U.cell? ⟨bo,oo,none⟩=some (.int .i64 (o0:Int))∧U.cell? ⟨bo,oo+1,none⟩=some (.int .i64 (o1:Int))) xd:=⟨hc0,hc1⟩
  refine (wpIn_wide (n:=12)).1 (wpIn_mono (region_HF (Q:=NoPanic _) (S:=(fun U:World=>U.cell? ⟨bo,oo,none⟩=some (.int .i64 (o0:Int))∧U.cell? ⟨bo,oo+1,none⟩=some (.int .i64 (o1:Int)))) (by kernel_rfl) ?_) NoPanic.imp)
  rw [hxd]
  refine anyHF_take (i:=0) (d:=167) (v:=.slice (some ⟨gbC,0,none⟩) (P+3) cbC) (by kernel_rfl) rfl (by kernel_rfl) (by kernel_rfl) (by kernel_rfl) rfl (fun _ _ _ h=>h) ⟨Or.inl ⟨by rfl,fun w hS=>by obtain ⟨h0,h1⟩:=hS;go_simp⟩,fun _=>rfl⟩ hS ?_
  simp only [List.setIfInBounds_toArray,List.set_cons_zero,List.set_cons_succ]
  refine anyHF_take (i:=1) (d:=168) (v:=.slice (some ⟨bo,oo,none⟩) 2 ko) (by kernel_rfl) rfl (by kernel_rfl) (by kernel_rfl) (by kernel_rfl) rfl (fun _ _ _ h=>h) ⟨Or.inl ⟨by rfl,fun w hS=>by obtain ⟨h0,h1⟩:=hS;go_simp⟩,fun _=>rfl⟩ hS ?_
  simp only [List.setIfInBounds_toArray,List.set_cons_zero,List.set_cons_succ]
  refine anyHF_take (i:=2) (d:=169) (v:=.pointer (some ⟨bo,oo,none⟩)) (by kernel_rfl) rfl (by kernel_rfl) (by kernel_rfl) (by kernel_rfl) rfl (fun _ _ _ h=>h) ⟨Or.inl ⟨by rfl,fun w hS=>by obtain ⟨h0,h1⟩:=hS;go_simp⟩,fun _=>rfl⟩ hS ?_
  simp only [List.setIfInBounds_toArray,List.set_cons_zero,List.set_cons_succ]
  refine anyHF_take (i:=3) (d:=170) (v:=.int .i64 (o0:Int)) (by kernel_rfl) rfl (by kernel_rfl) (by kernel_rfl) (by kernel_rfl) rfl (fun _ _ _ h=>h) ⟨Or.inl ⟨by rfl,fun w hS=>by obtain ⟨h0,h1⟩:=hS;go_simp⟩,fun _=>rfl⟩ hS ?_
  simp only [List.setIfInBounds_toArray,List.set_cons_zero,List.set_cons_succ]
  refine anyHF_take (i:=4) (d:=171) (v:=.slice (some ⟨gbC,0,none⟩) (P+3) cbC) (by kernel_rfl) rfl (by kernel_rfl) (by kernel_rfl) (by kernel_rfl) rfl (fun _ _ _ h=>h) ⟨Or.inl ⟨by rfl,fun w hS=>by obtain ⟨h0,h1⟩:=hS;go_simp⟩,fun _=>rfl⟩ hS ?_
  simp only [List.setIfInBounds_toArray,List.set_cons_zero,List.set_cons_succ]
  refine anyHF_take (i:=5) (d:=172) (v:=.slice (some ⟨bo,oo,none⟩) 2 ko) (by kernel_rfl) rfl (by kernel_rfl) (by kernel_rfl) (by kernel_rfl) rfl (fun _ _ _ h=>h) ⟨Or.inl ⟨by rfl,fun w hS=>by obtain ⟨h0,h1⟩:=hS;go_simp⟩,fun _=>rfl⟩ hS ?_
  simp only [List.setIfInBounds_toArray,List.set_cons_zero,List.set_cons_succ]
  refine anyHF_take (i:=6) (d:=173) (v:=.pointer (some ⟨bo,oo+1,none⟩)) (by kernel_rfl) rfl (by kernel_rfl) (by kernel_rfl) (by kernel_rfl) rfl (fun _ _ _ h=>h) ⟨Or.inl ⟨by rfl,fun w hS=>by obtain ⟨h0,h1⟩:=hS;go_simp⟩,fun _=>rfl⟩ hS ?_
  simp only [List.setIfInBounds_toArray,List.set_cons_zero,List.set_cons_succ]
  refine anyHF_take (i:=7) (d:=174) (v:=.int .i64 (o1:Int)) (by kernel_rfl) rfl (by kernel_rfl) (by kernel_rfl) (by kernel_rfl) rfl (fun _ _ _ h=>h) ⟨Or.inl ⟨by rfl,fun w hS=>by obtain ⟨h0,h1⟩:=hS;go_simp⟩,fun _=>rfl⟩ hS ?_
  simp only [List.setIfInBounds_toArray,List.set_cons_zero,List.set_cons_succ]
  refine anyHF_take (i:=8) (d:=175) (v:=.slice Aj lj kj) (by kernel_rfl) rfl (by kernel_rfl) (by kernel_rfl) (by kernel_rfl) rfl (fun _ _ _ h=>h) ⟨Or.inl ⟨by rfl,fun w hS=>by obtain ⟨h0,h1⟩:=hS;go_simp⟩,fun _=>rfl⟩ hS ?_
  simp only [List.setIfInBounds_toArray,List.set_cons_zero,List.set_cons_succ]
  refine anyHF_take (i:=9) (d:=176) (v:=.pointer (some ⟨gbC,o0,none⟩)) (by kernel_rfl) rfl (by kernel_rfl) (by kernel_rfl) (by kernel_rfl) rfl (fun _ _ _ h=>h) ⟨Or.inl ⟨by rfl,fun w hS=>by obtain ⟨h0,h1⟩:=hS;go_simp⟩,fun _=>rfl⟩ hS ?_
  simp only [List.setIfInBounds_toArray,List.set_cons_zero,List.set_cons_succ]
  refine anyHF_one (i:=10) (by kernel_rfl) rfl (by kernel_rfl) (by rfl) ?_
  obtain ⟨l1,y1⟩:=hR.old (i:=o0) (by have:=HAB.out;omega)
  have f1:=hR.frozen o0
  have hRn:=hR.set (i:=o0) (v:=.slice Aj lj kj) (c:=cj) (by have:=HAB.out;omega) (manyR.imp (manyR_iff.2 (HJ.out _ (H2.out _ hB).1)) (fun k hk=>by have hk2:k<w.heap.size:=hk;have hs:=hB.size;exact ⟨by omega,by omega⟩))
  have hBn:=hB.setCell (p:=⟨gbC,o0,none⟩) hgzC (.slice Aj lj kj)
  replace hc0:(xd.setCell ⟨gbC,o0,none⟩ (.slice Aj lj kj)).cell? ⟨bo,oo,none⟩ = _:=cell_farK hc0 hne
  replace hc1:(xd.setCell ⟨gbC,o0,none⟩ (.slice Aj lj kj)).cell? ⟨bo,oo+1,none⟩ = _:=cell_farK hc1 hne
  obtain ⟨z1,ez⟩:∃ x,(xd.setCell ⟨gbC,o0,none⟩ (.slice Aj lj kj))=x:=⟨_,rfl⟩
  rw [ez] at hRn hBn hc0 hc1
  clear hR hB
  have hR:=hRn
  have hB:=hBn
  clear hRn hBn
  gi_wp2
  (try rw [ez])
  clear ez y1 f1 hS
  have hS:(fun U:World=>U.cell? ⟨bo,oo,none⟩=some (.int .i64 (o0:Int))∧U.cell? ⟨bo,oo+1,none⟩=some (.int .i64 (o1:Int))) z1:=⟨hc0,hc1⟩
  try (refine ⟨hS,?_⟩)
  refine anyHF_take (i:=11) (d:=177) (v:=.pointer (some ⟨gbC,o1,none⟩)) (by kernel_rfl) rfl (by kernel_rfl) (by kernel_rfl) (by kernel_rfl) rfl (fun _ _ _ h=>h) ⟨Or.inl ⟨by rfl,fun w hS=>by obtain ⟨h0,h1⟩:=hS;go_simp⟩,fun _=>rfl⟩ hS ?_
  simp only [List.setIfInBounds_toArray,List.set_cons_zero,List.set_cons_succ]
  refine anyHF_one (i:=12) (by kernel_rfl) rfl (by kernel_rfl) (by rfl) ?_
  obtain ⟨l2,y2⟩:=hR.old (i:=o1) (by have:=HAB.out;omega)
  have f2:=hR.frozen o1
  have hRn:=hR.set (i:=o1) (v:=.slice none 0 0) (c:=[]) (by have:=HAB.out;omega) ⟨none,0,rfl,Nat.le_refl _,fun h=>absurd h (Nat.lt_irrefl _)⟩
  have hBn:=hB.setCell (p:=⟨gbC,o1,none⟩) hgzC (.slice none 0 0)
  replace hc0:(z1.setCell ⟨gbC,o1,none⟩ (.slice none 0 0)).cell? ⟨bo,oo,none⟩ = _:=cell_farK hc0 hne
  replace hc1:(z1.setCell ⟨gbC,o1,none⟩ (.slice none 0 0)).cell? ⟨bo,oo+1,none⟩ = _:=cell_farK hc1 hne
  obtain ⟨z2,ez⟩:∃ x,(z1.setCell ⟨gbC,o1,none⟩ (.slice none 0 0))=x:=⟨_,rfl⟩
  rw [ez] at hRn hBn hc0 hc1
  clear hR hB
  have hR:=hRn
  have hB:=hBn
  clear hRn hBn
  gi_wp2
  (try rw [ez])
  clear ez y2 f2 hS
  have hS:(fun U:World=>U.cell? ⟨bo,oo,none⟩=some (.int .i64 (o0:Int))∧U.cell? ⟨bo,oo+1,none⟩=some (.int .i64 (o1:Int))) z2:=⟨hc0,hc1⟩
  try (refine ⟨hS,?_⟩)
  refine anyHF_done (by kernel_rfl) ?_ _
  refine NoPanic.normal ?_
  clear hS hc0 hc1 hxd
  have kk:=(H2.out _ hB).2.1
  have k0:=kk.cell 0
  have k1:=kk.cell 1
  have k2:=kk.cell 2
  simp only [List.getElem?_toArray,List.getElem?_cons_zero,List.getElem?_cons_succ] at k0 k1 k2
  clear kk
  go_wp2_with fail
  refine (HON.out _ _ _ (H2.out _ hB).1 (hR.cols hcbC)).mono ?_
  rintro e w6 ⟨uc,rfl,hcm,hB3⟩
  replace hB:=below_in hB hB3
  replace hR:=hR.below hB3
  clear k0 k1 k2 hB3
  obtain ⟨Dc,pc,euc,_⟩:=id hcm
  rw [HGQ.out.2.1] at euc
  subst euc
  have kk:=(H2.out _ hB).2.1
  have k0:=kk.cell 0
  have k1:=kk.cell 1
  have k2:=kk.cell 2
  simp only [List.getElem?_toArray,List.getElem?_cons_zero,List.getElem?_cons_succ] at k0 k1 k2
  clear kk
  have hE:=below_one w6 (.cells #[.int .i64 (b:Int)] 3)
  have bE:=Blk.new w6 3 #[.int .i64 (b:Int)]
  have hBE:=below_in hB hE
  have HSA:=Lib.hid (HSH.out _ gbC cbC _ (H2.out _ hBE).1 bE ((hR.below hE).cols hcbC))
  have HE6:=Lib.hid (And.intro hE hBE)
  clear hE bE hBE
  go_wp2_with fail
  refine HSA.out.mono ?_
  rintro e w7 ⟨us,rfl,hsm,hB3⟩
  replace hB:=below_in HE6.out.2 hB3
  replace hcm:=(hcm.below (below_in HE6.out.1 hB3)).more (below_in HE6.out.1 hB3).size
  clear k0 k1 k2 hB3 HSA HE6 hR
  obtain ⟨As,ps,eus,_⟩:=id hsm
  rw [HQT.out] at eus
  subst eus
  obtain ⟨y,hy,hy1,hy2,hk0,hk1,hk2⟩:=HKY.out
  rw [hy] at hsm
  clear hy HKY HON HSH e_t j_t i_t hw1 hw2
  have h3:t=0∨t=1∨t=2:=by have:=HAB.out;omega
  obtain ⟨s,hs⟩:∃ s,(t:Int)+2=s:=⟨_,rfl⟩
  rw [hs]
  have h4:(s=2∧y=0)∨(s=3∧y=(b:Int))∨(s=4∧y = -(b:Int)):=by
    rcases h3 with h | h | h
    · exact .inl ⟨by omega,hk0 h⟩
    · exact .inr (.inl ⟨by omega,hk1 h⟩)
    · exact .inr (.inr ⟨by omega,hk2 h⟩)
  clear h3 hs hk0 hk1 hk2 HAB
  rcases h4 with ⟨rfl,rfl⟩ | ⟨rfl,rfl⟩ | ⟨rfl,rfl⟩
  · have hE:=below_one w7 (.cells #[.int .i64 0,.int .i64 0,.int .i64 0,.int .i64 (b:Int),.int .i64 (-(b:Int))] 3)
    replace hcm:=(hcm.below hE).more hE.size
    replace hsm:=(hsm.below hE).more hE.size
    have kk:=(H2.out _ hB).2.1
    have k0:=kk.cell 0
    have k1:=kk.cell 1
    have k2:=kk.cell 2
    simp only [List.getElem?_toArray,List.getElem?_cons_zero,List.getElem?_cons_succ] at k0 k1 k2
    clear kk
    replace hB:=below_in hB hE
    obtain ⟨w8,hw8⟩:∃ x,w7.alloc (.cells #[.int .i64 0,.int .i64 0,.int .i64 0,.int .i64 (b:Int),.int .i64 (-(b:Int))] 3)=x:=⟨_,rfl⟩
    rw [hw8] at hB hcm hsm
    have HW8:=Lib.hid hw8
    clear hw8 hE
    go_wp2_with fail
    (try rw [HW8.out])
    clear k0 k1 k2
    have kk:=(H2.out _ hB).2.1
    have k0:=kk.cell 0
    have k1:=kk.cell 1
    have k2:=kk.cell 2
    simp only [List.getElem?_toArray,List.getElem?_cons_zero,List.getElem?_cons_succ] at k0 k1 k2
    clear kk
    have kb:=(H2.out _ hB).2.2.2.2.1
    refine (num13_any _ _).mono ?_
    rintro e w' ⟨rfl,rfl⟩
    go_wp2_with fail
    refine (num13_any _ _).mono ?_
    rintro e w' ⟨rfl,rfl⟩
    go_wp2_with fail
    refine (HSB.out _ _ _ hcm ((H2.out _ hB).2.2.2.2.2.2.2.1.more hB.size)).mono ?_
    rintro e w9 ⟨rfl,hB3⟩
    replace hB:=below_in hB hB3
    replace hsm:=(hsm.below hB3).more hB3.size
    clear k0 k1 k2 kb hB3 hcm
    have kk:=(H2.out _ hB).2.1
    have k0:=kk.cell 0
    have k1:=kk.cell 1
    have k2:=kk.cell 2
    simp only [List.getElem?_toArray,List.getElem?_cons_zero,List.getElem?_cons_succ] at k0 k1 k2
    clear kk
    have kb:=(H2.out _ hB).2.2.2.2.1
    go_wp2_with fail
    refine (HTU.out 0 (by omega) (by omega) _ _ ((H2.out _ hB).2.2.2.2.2.2.2.1.more hB.size)).mono ?_
    rintro e w10 ⟨ut,rfl,hut,hB3⟩
    replace hB:=below_in hB hB3
    replace hsm:=(hsm.below hB3).more hB3.size
    clear k0 k1 k2 kb hB3
    go_wp2_with fail
    refine (HST.out 0 _ _ _ hsm hut).mono ?_
    rintro e w11 ⟨rfl,hB3⟩
    replace hB:=below_in hB hB3
    clear hB3 hsm hut
    go_wp2_with fail
    refine (works13_any _ (HLW.out _ (H2.out _ hB).1)).mono ?_
    rintro e wz ⟨rfl,hBz⟩
    go_wp2
    go_ret
    exact ⟨rfl,below_in (H2.out _ hB).1 hBz⟩
  · have hE:=below_one w7 (.cells #[.int .i64 0,.int .i64 0,.int .i64 0,.int .i64 (b:Int),.int .i64 (-(b:Int))] 3)
    replace hcm:=(hcm.below hE).more hE.size
    replace hsm:=(hsm.below hE).more hE.size
    have kk:=(H2.out _ hB).2.1
    have k0:=kk.cell 0
    have k1:=kk.cell 1
    have k2:=kk.cell 2
    simp only [List.getElem?_toArray,List.getElem?_cons_zero,List.getElem?_cons_succ] at k0 k1 k2
    clear kk
    replace hB:=below_in hB hE
    obtain ⟨w8,hw8⟩:∃ x,w7.alloc (.cells #[.int .i64 0,.int .i64 0,.int .i64 0,.int .i64 (b:Int),.int .i64 (-(b:Int))] 3)=x:=⟨_,rfl⟩
    rw [hw8] at hB hcm hsm
    have HW8:=Lib.hid hw8
    clear hw8 hE
    go_wp2_with fail
    (try rw [HW8.out])
    clear k0 k1 k2
    have kk:=(H2.out _ hB).2.1
    have k0:=kk.cell 0
    have k1:=kk.cell 1
    have k2:=kk.cell 2
    simp only [List.getElem?_toArray,List.getElem?_cons_zero,List.getElem?_cons_succ] at k0 k1 k2
    clear kk
    have kb:=(H2.out _ hB).2.2.2.2.1
    refine (num13_any _ _).mono ?_
    rintro e w' ⟨rfl,rfl⟩
    go_wp2_with fail
    refine (num13_any _ _).mono ?_
    rintro e w' ⟨rfl,rfl⟩
    go_wp2_with fail
    refine (HSB.out _ _ _ hcm ((H2.out _ hB).2.2.2.2.2.2.2.1.more hB.size)).mono ?_
    rintro e w9 ⟨rfl,hB3⟩
    replace hB:=below_in hB hB3
    replace hsm:=(hsm.below hB3).more hB3.size
    clear k0 k1 k2 kb hB3 hcm
    have kk:=(H2.out _ hB).2.1
    have k0:=kk.cell 0
    have k1:=kk.cell 1
    have k2:=kk.cell 2
    simp only [List.getElem?_toArray,List.getElem?_cons_zero,List.getElem?_cons_succ] at k0 k1 k2
    clear kk
    have kb:=(H2.out _ hB).2.2.2.2.1
    go_wp2_with fail
    refine (HTU.out (b:Int) (by omega) (by omega) _ _ ((H2.out _ hB).2.2.2.2.2.2.2.1.more hB.size)).mono ?_
    rintro e w10 ⟨ut,rfl,hut,hB3⟩
    replace hB:=below_in hB hB3
    replace hsm:=(hsm.below hB3).more hB3.size
    clear k0 k1 k2 kb hB3
    go_wp2_with fail
    refine (HST.out (b:Int) _ _ _ hsm hut).mono ?_
    rintro e w11 ⟨rfl,hB3⟩
    replace hB:=below_in hB hB3
    clear hB3 hsm hut
    go_wp2_with fail
    refine (works13_any _ (HLW.out _ (H2.out _ hB).1)).mono ?_
    rintro e wz ⟨rfl,hBz⟩
    go_wp2
    go_ret
    exact ⟨rfl,below_in (H2.out _ hB).1 hBz⟩
  · have hE:=below_one w7 (.cells #[.int .i64 0,.int .i64 0,.int .i64 0,.int .i64 (b:Int),.int .i64 (-(b:Int))] 3)
    replace hcm:=(hcm.below hE).more hE.size
    replace hsm:=(hsm.below hE).more hE.size
    have kk:=(H2.out _ hB).2.1
    have k0:=kk.cell 0
    have k1:=kk.cell 1
    have k2:=kk.cell 2
    simp only [List.getElem?_toArray,List.getElem?_cons_zero,List.getElem?_cons_succ] at k0 k1 k2
    clear kk
    replace hB:=below_in hB hE
    obtain ⟨w8,hw8⟩:∃ x,w7.alloc (.cells #[.int .i64 0,.int .i64 0,.int .i64 0,.int .i64 (b:Int),.int .i64 (-(b:Int))] 3)=x:=⟨_,rfl⟩
    rw [hw8] at hB hcm hsm
    have HW8:=Lib.hid hw8
    clear hw8 hE
    go_wp2_with fail
    (try rw [HW8.out])
    clear k0 k1 k2
    have kk:=(H2.out _ hB).2.1
    have k0:=kk.cell 0
    have k1:=kk.cell 1
    have k2:=kk.cell 2
    simp only [List.getElem?_toArray,List.getElem?_cons_zero,List.getElem?_cons_succ] at k0 k1 k2
    clear kk
    have kb:=(H2.out _ hB).2.2.2.2.1
    refine (num13_any _ _).mono ?_
    rintro e w' ⟨rfl,rfl⟩
    go_wp2_with fail
    refine (num13_any _ _).mono ?_
    rintro e w' ⟨rfl,rfl⟩
    go_wp2_with fail
    refine (HSB.out _ _ _ hcm ((H2.out _ hB).2.2.2.2.2.2.2.1.more hB.size)).mono ?_
    rintro e w9 ⟨rfl,hB3⟩
    replace hB:=below_in hB hB3
    replace hsm:=(hsm.below hB3).more hB3.size
    clear k0 k1 k2 kb hB3 hcm
    have kk:=(H2.out _ hB).2.1
    have k0:=kk.cell 0
    have k1:=kk.cell 1
    have k2:=kk.cell 2
    simp only [List.getElem?_toArray,List.getElem?_cons_zero,List.getElem?_cons_succ] at k0 k1 k2
    clear kk
    have kb:=(H2.out _ hB).2.2.2.2.1
    go_wp2_with fail
    refine (HTU.out (-(b:Int)) (by omega) (by omega) _ _ ((H2.out _ hB).2.2.2.2.2.2.2.1.more hB.size)).mono ?_
    rintro e w10 ⟨ut,rfl,hut,hB3⟩
    replace hB:=below_in hB hB3
    replace hsm:=(hsm.below hB3).more hB3.size
    clear k0 k1 k2 kb hB3
    go_wp2_with fail
    refine (HST.out (-(b:Int)) _ _ _ hsm hut).mono ?_
    rintro e w11 ⟨rfl,hB3⟩
    replace hB:=below_in hB hB3
    clear hB3 hsm hut
    go_wp2_with fail
    refine (works13_any _ (HLW.out _ (H2.out _ hB).1)).mono ?_
    rintro e wz ⟨rfl,hBz⟩
    go_wp2
    go_ret
    exact ⟨rfl,below_in (H2.out _ hB).1 hBz⟩
open Go.Proofs.YtkllhjhkcipkoaaGreatDoor.E Go.Proofs.YtkllhjhkcipkoaaGreatDoor.C Go.Proofs.YtkllhjhkcipkoaaGreatDoor.T Go.Proofs.YtkllhjhkcipkoaaGreatDoor.Ch Go.Proofs.YtkllhjhkcipkoaaGreatDoor.Tr in
set_option maxRecDepth 100000 in
set_option maxHeartbeats 8000000 in
theorem walk (p:Int) (v:Value) (css:List (List (List UInt8))) (x0 x1 x2 s:Int) (vj:Value) (cj:List (List UInt8)) (w:World) (hL:Laid w) (wp:-9223372036854775808≤p∧p≤9223372036854775807) (hC:Cols w.heap.size w v css) (wx:-9223372036854775808≤x0∧x0≤9223372036854775807) (wy:-9223372036854775808≤x1∧x1≤9223372036854775807) (wz:-9223372036854775808≤x2∧x2≤9223372036854775807) (ws:-9223372036854775808≤s∧s≤9223372036854775807) (hJ:Many w.heap.size w vj cj) :
    Calls Tryz.prog 6 #[.int .i64 p,v,.agg #[.int .i64 x0,.int .i64 x1,.int .i64 x2],.int .i64 s,vj] w fun e w'=>e = .returned (.bool true)∧Below w.heap.size w w':=by
  by_cases hf:Few6 css
  case neg=>exact nf p v css x0 x1 x2 s vj cj w hL wp hC wx wy wz ws hJ hf
  by_cases hr:RightD p css
  case neg=>exact nr p v css x0 x1 x2 s vj cj w hL wp hC wx wy wz ws hJ hf hr
  by_cases hl:(css.length:Int)=p
  case neg=>exact nl p v css x0 x1 x2 s vj cj w hL wp hC wx wy wz ws hJ hf hr hl
  by_cases hri:RiseOk p [x0,x1,x2]
  case neg=>exact nth p v css x0 x1 x2 s vj cj w hL wp hC wx wy wz ws hJ hf hr hl hri
  by_cases his:IsRole s
  case neg=>exact nis p v css x0 x1 x2 s vj cj w hL wp hC wx wy wz ws hJ hf hr hl hri his
  exact yes p v css x0 x1 x2 s vj cj w hL wp hC wx wy wz ws hJ hf hr hl hri his

end Go.Proofs.YtkllhjhkcipkoaaGreatDoor.tripleHolds
