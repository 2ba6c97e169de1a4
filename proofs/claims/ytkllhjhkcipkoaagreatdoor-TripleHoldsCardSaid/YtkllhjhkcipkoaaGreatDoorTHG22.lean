/- -/
import Derived.Test.YtkllhjhkcipkoaaGreatDoorTHG21
set_option linter.unusedVariables false
set_option linter.unusedSimpArgs false
set_option maxRecDepth 100000
set_option maxHeartbeats 8000000
namespace Go.Proofs.YtkllhjhkcipkoaaGreatDoor.Tr
open Go.RowKit Go.Shelf Go.Maps Go.Proofs.YtkllhjhkcipkoaaGreatDoor.C Go.Proofs.YtkllhjhkcipkoaaGreatDoor.E Go.Proofs.YtkllhjhkcipkoaaGreatDoor.T Go.Proofs.YtkllhjhkcipkoaaGreatDoor.Rg
attribute [local go_sem] Oper.semAt_some

def GaveT (y:Int) (U:World):Exit→Act→World→Prop:=fun e a w'=>e = .panic (gave y)∧a.defers = []∧Below U.heap.size U w'
theorem inOrder0 (y:Int) (hy:¬ y=0) (x0:Int) (x1:Option Addr) (x2 x3:Nat) (x4:Option Addr) (x5 x6:Nat) (x7:Option Addr) (x8 x9:Nat) (ga:Nat) (w:World) (hga:Blk w ga 99 #[.func (.func 56) #[] #[],.func (.func 57) #[] #[],.func (.func 58) #[] #[]]) (C0:∀ V,Below w.heap.size w V→Calls Tryz.prog 56 #[.agg #[.int .i64 x0,.slice x1 x2 x3,.slice x4 x5 x6,.slice x7 x8 x9]] V fun e w'=>e = .returned (.int .i64 y)∧Below V.heap.size V w'):Calls Tryz.prog 55 #[.agg #[.int .i64 x0,.slice x1 x2 x3,.slice x4 x5 x6,.slice x7 x8 x9],.slice (some ⟨ga,0,none⟩) 3 3] w fun e w'=>e = .panicked (gave y)∧Below w.heap.size w w':=by
 have b2:=Blk.new w 67 #[.int .i64 x0,.slice x1 x2 x3,.slice x4 x5 x6,.slice x7 x8 x9]
 have hB0:=below_one w (.cells #[.int .i64 x0,.slice x1 x2 x3,.slice x4 x5 x6,.slice x7 x8 x9] 67)
 obtain ⟨w0,hw0⟩:∃ x,w.alloc (.cells #[.int .i64 x0,.slice x1 x2 x3,.slice x4 x5 x6,.slice x7 x8 x9] 67)=x:=⟨_,rfl⟩
 obtain ⟨g2,hg2⟩:∃ x,w.heap.size=x:=⟨_,rfl⟩
 rw [hw0] at b2 hB0
 rw [hg2] at b2
 have ba:=hga.below hB0 hga.lt
 have HSS:Hid (∀ V,Below w0.heap.size w0 V→(fun U:World=>U.cell? ⟨g2,0,none⟩=some (.int .i64 x0)∧U.cell? ⟨g2,1,none⟩=some (.slice x1 x2 x3)∧U.cell? ⟨g2,2,none⟩=some (.slice x4 x5 x6)∧U.cell? ⟨g2,3,none⟩=some (.slice x7 x8 x9)) V):=fun V hV=>⟨(b2.below hV b2.lt).cell 0,(b2.below hV b2.lt).cell 1,(b2.below hV b2.lt).cell 2,(b2.below hV b2.lt).cell 3⟩
 have HBA:Hid (∀ V,Below w0.heap.size w0 V→Blk V ga 99 #[.func (.func 56) #[] #[],.func (.func 57) #[] #[],.func (.func 58) #[] #[]]):=fun V hV=>ba.below hV ba.lt
 have HC0:=Lib.hid (fun (V:World) (hV:Below w0.heap.size w0 V)=>C0 V (below_in hB0 hV))
 have HB0:=Lib.hid hB0
 have HW0:=Lib.hid (And.intro hw0 hg2)
 have hen0:∀ args W,(callFunc 56 args).run Tryz.prog W = .ok (.enter 56 args) W:=enters_of Tryz.func56 (by kernel_rfl) rfl
 have hen1:∀ args W,(callFunc 57 args).run Tryz.prog W = .ok (.enter 57 args) W:=enters_of Tryz.func57 (by kernel_rfl) rfl
 have hen2:∀ args W,(callFunc 58 args).run Tryz.prog W = .ok (.enter 58 args) W:=enters_of Tryz.func58 (by kernel_rfl) rfl
 have HY:=Lib.hid hy
 clear hga b2 ba hB0 hw0 hg2 C0 hy
 refine (callsIn_wide (n:=9)).1 ?_
 refine callsIn_of_wp_marks Tryz.func55 rfl trivial ?_ rfl
 simp only [Tryz.ntmps55,List.size_toArray,List.length_cons,List.length_nil,Nat.reduceAdd,Nat.reduceSub,Array.replicate_succ,Array.replicate_zero,List.push_toArray,List.append_toArray,List.nil_append,List.cons_append]
 gi_wp2_with fail
 (try rw [HW0.out.2]);(try rw [HW0.out.1])
 have hBx:=Below.refl w0.heap.size w0
 refine wpIn_loop_rounds 5 ?_
 rw [roundsIn_succ]
 have cF:=(HBA.out _ hBx).cell 0
 simp only [gz9] at cF
 gi_wp2_with fail
 clear cF
 have hd:Below w0.heap.size w0 w0.drew:=(Below.refl _ _).drew
 replace hBx:=below_in hBx hd
 clear hd
 have hS:=HSS.out _ hBx
 refine wpIn_mono (region_HF (Q:=GaveT y w) (S:=(fun U:World=>U.cell? ⟨g2,0,none⟩=some (.int .i64 x0)∧U.cell? ⟨g2,1,none⟩=some (.slice x1 x2 x3)∧U.cell? ⟨g2,2,none⟩=some (.slice x4 x5 x6)∧U.cell? ⟨g2,3,none⟩=some (.slice x7 x8 x9))) (by kernel_rfl) ?_) (fun e a w' h=>by obtain ⟨rfl,hd,hB⟩:=h;obtain ⟨tm,df⟩:=a;have hd':df = []:=hd;subst hd';exact ⟨rfl,hB⟩)
 refine tkF (i:=0) (d:=12) (v:=.agg #[.int .i64 x0,.slice x1 x2 x3,.slice x4 x5 x6,.slice x7 x8 x9]) (s:=hS) (c:=?_)
 simp only [ud9]
 refine tkF (i:=1) (d:=13) (v:=.func (.func 56) #[] #[]) (s:=hS) (c:=?_)
 simp only [ud9]
 refine tkF (i:=2) (d:=14) (v:=.agg #[.int .i64 x0,.slice x1 x2 x3,.slice x4 x5 x6,.slice x7 x8 x9]) (s:=hS) (c:=?_)
 simp only [ud9]
 refine oneF (i:=3) (c:=?_)
 gi_wp2_with fail
 refine ⟨trivial,(callsIn_wide.2 (HC0.out _ hBx)).mono ?_⟩
 rintro e v1 ⟨rfl,hB⟩
 replace hBx:=below_in hBx hB
 clear hS
 have hS:(fun U:World=>U.cell? ⟨g2,0,none⟩=some (.int .i64 x0)∧U.cell? ⟨g2,1,none⟩=some (.slice x1 x2 x3)∧U.cell? ⟨g2,2,none⟩=some (.slice x4 x5 x6)∧U.cell? ⟨g2,3,none⟩=some (.slice x7 x8 x9)) v1:=HSS.out _ hBx
 clear hB
 gi_wp2
 try (refine ⟨hS,?_⟩)
 refine oneF (i:=4) (c:=?_)
 gi_wp2_with fail
 refine ⟨trivial,(callsIn_wide.2 (sureL_no y HY.out x0 x1 x2 x3 x4 x5 x6 x7 x8 x9 _)).mono ?_⟩
 rintro e wz ⟨rfl,hB⟩
 exact ⟨rfl,rfl,below_in HB0.out (below_in hBx hB)⟩
theorem inOrder1 (y:Int) (hy:¬ y=0) (x0:Int) (x1:Option Addr) (x2 x3:Nat) (x4:Option Addr) (x5 x6:Nat) (x7:Option Addr) (x8 x9:Nat) (ga:Nat) (w:World) (hga:Blk w ga 99 #[.func (.func 56) #[] #[],.func (.func 57) #[] #[],.func (.func 58) #[] #[]]) (C0:∀ V,Below w.heap.size w V→Calls Tryz.prog 56 #[.agg #[.int .i64 x0,.slice x1 x2 x3,.slice x4 x5 x6,.slice x7 x8 x9]] V fun e w'=>e = .returned (.int .i64 0)∧Below V.heap.size V w') (C1:∀ V,Below w.heap.size w V→Calls Tryz.prog 57 #[.agg #[.int .i64 x0,.slice x1 x2 x3,.slice x4 x5 x6,.slice x7 x8 x9]] V fun e w'=>e = .returned (.int .i64 y)∧Below V.heap.size V w'):Calls Tryz.prog 55 #[.agg #[.int .i64 x0,.slice x1 x2 x3,.slice x4 x5 x6,.slice x7 x8 x9],.slice (some ⟨ga,0,none⟩) 3 3] w fun e w'=>e = .panicked (gave y)∧Below w.heap.size w w':=by
 have b2:=Blk.new w 67 #[.int .i64 x0,.slice x1 x2 x3,.slice x4 x5 x6,.slice x7 x8 x9]
 have hB0:=below_one w (.cells #[.int .i64 x0,.slice x1 x2 x3,.slice x4 x5 x6,.slice x7 x8 x9] 67)
 obtain ⟨w0,hw0⟩:∃ x,w.alloc (.cells #[.int .i64 x0,.slice x1 x2 x3,.slice x4 x5 x6,.slice x7 x8 x9] 67)=x:=⟨_,rfl⟩
 obtain ⟨g2,hg2⟩:∃ x,w.heap.size=x:=⟨_,rfl⟩
 rw [hw0] at b2 hB0
 rw [hg2] at b2
 have ba:=hga.below hB0 hga.lt
 have HSS:Hid (∀ V,Below w0.heap.size w0 V→(fun U:World=>U.cell? ⟨g2,0,none⟩=some (.int .i64 x0)∧U.cell? ⟨g2,1,none⟩=some (.slice x1 x2 x3)∧U.cell? ⟨g2,2,none⟩=some (.slice x4 x5 x6)∧U.cell? ⟨g2,3,none⟩=some (.slice x7 x8 x9)) V):=fun V hV=>⟨(b2.below hV b2.lt).cell 0,(b2.below hV b2.lt).cell 1,(b2.below hV b2.lt).cell 2,(b2.below hV b2.lt).cell 3⟩
 have HBA:Hid (∀ V,Below w0.heap.size w0 V→Blk V ga 99 #[.func (.func 56) #[] #[],.func (.func 57) #[] #[],.func (.func 58) #[] #[]]):=fun V hV=>ba.below hV ba.lt
 have HC0:=Lib.hid (fun (V:World) (hV:Below w0.heap.size w0 V)=>C0 V (below_in hB0 hV))
 have HC1:=Lib.hid (fun (V:World) (hV:Below w0.heap.size w0 V)=>C1 V (below_in hB0 hV))
 have HB0:=Lib.hid hB0
 have HW0:=Lib.hid (And.intro hw0 hg2)
 have hen0:∀ args W,(callFunc 56 args).run Tryz.prog W = .ok (.enter 56 args) W:=enters_of Tryz.func56 (by kernel_rfl) rfl
 have hen1:∀ args W,(callFunc 57 args).run Tryz.prog W = .ok (.enter 57 args) W:=enters_of Tryz.func57 (by kernel_rfl) rfl
 have hen2:∀ args W,(callFunc 58 args).run Tryz.prog W = .ok (.enter 58 args) W:=enters_of Tryz.func58 (by kernel_rfl) rfl
 have HY:=Lib.hid hy
 clear hga b2 ba hB0 hw0 hg2 C0 C1 hy
 refine (callsIn_wide (n:=9)).1 ?_
 refine callsIn_of_wp_marks Tryz.func55 rfl trivial ?_ rfl
 simp only [Tryz.ntmps55,List.size_toArray,List.length_cons,List.length_nil,Nat.reduceAdd,Nat.reduceSub,Array.replicate_succ,Array.replicate_zero,List.push_toArray,List.append_toArray,List.nil_append,List.cons_append]
 gi_wp2_with fail
 (try rw [HW0.out.2]);(try rw [HW0.out.1])
 have hBx:=Below.refl w0.heap.size w0
 refine wpIn_loop_rounds 5 ?_
 rw [roundsIn_succ]
 have cF:=(HBA.out _ hBx).cell 0
 simp only [gz9] at cF
 gi_wp2_with fail
 clear cF
 have hd:Below w0.heap.size w0 w0.drew:=(Below.refl _ _).drew
 replace hBx:=below_in hBx hd
 clear hd
 have hS:=HSS.out _ hBx
 refine wpIn_mono (region_HF (Q:=NoPanic _) (S:=(fun U:World=>U.cell? ⟨g2,0,none⟩=some (.int .i64 x0)∧U.cell? ⟨g2,1,none⟩=some (.slice x1 x2 x3)∧U.cell? ⟨g2,2,none⟩=some (.slice x4 x5 x6)∧U.cell? ⟨g2,3,none⟩=some (.slice x7 x8 x9))) (by kernel_rfl) ?_) NoPanic.imp
 refine tkF (i:=0) (d:=12) (v:=.agg #[.int .i64 x0,.slice x1 x2 x3,.slice x4 x5 x6,.slice x7 x8 x9]) (s:=hS) (c:=?_)
 simp only [ud9]
 refine tkF (i:=1) (d:=13) (v:=.func (.func 56) #[] #[]) (s:=hS) (c:=?_)
 simp only [ud9]
 refine tkF (i:=2) (d:=14) (v:=.agg #[.int .i64 x0,.slice x1 x2 x3,.slice x4 x5 x6,.slice x7 x8 x9]) (s:=hS) (c:=?_)
 simp only [ud9]
 refine oneF (i:=3) (c:=?_)
 gi_wp2_with fail
 refine ⟨trivial,(callsIn_wide.2 (HC0.out _ hBx)).mono ?_⟩
 rintro e v1 ⟨rfl,hB⟩
 replace hBx:=below_in hBx hB
 clear hS
 have hS:(fun U:World=>U.cell? ⟨g2,0,none⟩=some (.int .i64 x0)∧U.cell? ⟨g2,1,none⟩=some (.slice x1 x2 x3)∧U.cell? ⟨g2,2,none⟩=some (.slice x4 x5 x6)∧U.cell? ⟨g2,3,none⟩=some (.slice x7 x8 x9)) v1:=HSS.out _ hBx
 clear hB
 gi_wp2
 try (refine ⟨hS,?_⟩)
 refine oneF (i:=4) (c:=?_)
 gi_wp2_with fail
 refine ⟨trivial,(callsIn_wide.2 (sureL x0 x1 x2 x3 x4 x5 x6 x7 x8 x9 _)).mono ?_⟩
 rintro e v2 ⟨rfl,hB⟩
 replace hBx:=below_in hBx hB
 clear hS
 have hS:(fun U:World=>U.cell? ⟨g2,0,none⟩=some (.int .i64 x0)∧U.cell? ⟨g2,1,none⟩=some (.slice x1 x2 x3)∧U.cell? ⟨g2,2,none⟩=some (.slice x4 x5 x6)∧U.cell? ⟨g2,3,none⟩=some (.slice x7 x8 x9)) v2:=HSS.out _ hBx
 clear hB
 gi_wp2
 try (refine ⟨hS,?_⟩)
 refine anyHF_done (by kernel_rfl) ?_ _
 refine NoPanic.normal ?_
 clear hS
 gi_wp2_with fail
 rw [roundsIn_succ]
 have cF:=(HBA.out _ hBx).cell 1
 simp only [gz9] at cF
 gi_wp2_with fail
 clear cF
 have hd:Below v2.heap.size v2 v2.drew:=(Below.refl _ _).drew
 replace hBx:=below_in hBx hd
 clear hd
 have hS:(fun U:World=>U.cell? ⟨g2,0,none⟩=some (.int .i64 x0)∧U.cell? ⟨g2,1,none⟩=some (.slice x1 x2 x3)∧U.cell? ⟨g2,2,none⟩=some (.slice x4 x5 x6)∧U.cell? ⟨g2,3,none⟩=some (.slice x7 x8 x9)) v2.drew:=HSS.out _ hBx
 refine wpIn_mono (region_HF (Q:=GaveT y w) (S:=(fun U:World=>U.cell? ⟨g2,0,none⟩=some (.int .i64 x0)∧U.cell? ⟨g2,1,none⟩=some (.slice x1 x2 x3)∧U.cell? ⟨g2,2,none⟩=some (.slice x4 x5 x6)∧U.cell? ⟨g2,3,none⟩=some (.slice x7 x8 x9))) (by kernel_rfl) ?_) (fun e a w' h=>by obtain ⟨rfl,hd,hB⟩:=h;obtain ⟨tm,df⟩:=a;have hd':df = []:=hd;subst hd';exact ⟨rfl,hB⟩)
 refine tkF (i:=0) (d:=12) (v:=.agg #[.int .i64 x0,.slice x1 x2 x3,.slice x4 x5 x6,.slice x7 x8 x9]) (s:=hS) (c:=?_)
 simp only [ud9]
 refine tkF (i:=1) (d:=13) (v:=.func (.func 57) #[] #[]) (s:=hS) (c:=?_)
 simp only [ud9]
 refine tkF (i:=2) (d:=14) (v:=.agg #[.int .i64 x0,.slice x1 x2 x3,.slice x4 x5 x6,.slice x7 x8 x9]) (s:=hS) (c:=?_)
 simp only [ud9]
 refine oneF (i:=3) (c:=?_)
 gi_wp2_with fail
 refine ⟨trivial,(callsIn_wide.2 (HC1.out _ hBx)).mono ?_⟩
 rintro e v11 ⟨rfl,hB⟩
 replace hBx:=below_in hBx hB
 clear hS
 have hS:(fun U:World=>U.cell? ⟨g2,0,none⟩=some (.int .i64 x0)∧U.cell? ⟨g2,1,none⟩=some (.slice x1 x2 x3)∧U.cell? ⟨g2,2,none⟩=some (.slice x4 x5 x6)∧U.cell? ⟨g2,3,none⟩=some (.slice x7 x8 x9)) v11:=HSS.out _ hBx
 clear hB
 gi_wp2
 try (refine ⟨hS,?_⟩)
 refine oneF (i:=4) (c:=?_)
 gi_wp2_with fail
 refine ⟨trivial,(callsIn_wide.2 (sureL_no y HY.out x0 x1 x2 x3 x4 x5 x6 x7 x8 x9 _)).mono ?_⟩
 rintro e wz ⟨rfl,hB⟩
 exact ⟨rfl,rfl,below_in HB0.out (below_in hBx hB)⟩
theorem inOrder2 (y:Int) (hy:¬ y=0) (x0:Int) (x1:Option Addr) (x2 x3:Nat) (x4:Option Addr) (x5 x6:Nat) (x7:Option Addr) (x8 x9:Nat) (ga:Nat) (w:World) (hga:Blk w ga 99 #[.func (.func 56) #[] #[],.func (.func 57) #[] #[],.func (.func 58) #[] #[]]) (C0:∀ V,Below w.heap.size w V→Calls Tryz.prog 56 #[.agg #[.int .i64 x0,.slice x1 x2 x3,.slice x4 x5 x6,.slice x7 x8 x9]] V fun e w'=>e = .returned (.int .i64 0)∧Below V.heap.size V w') (C1:∀ V,Below w.heap.size w V→Calls Tryz.prog 57 #[.agg #[.int .i64 x0,.slice x1 x2 x3,.slice x4 x5 x6,.slice x7 x8 x9]] V fun e w'=>e = .returned (.int .i64 0)∧Below V.heap.size V w') (C2:∀ V,Below w.heap.size w V→Calls Tryz.prog 58 #[.agg #[.int .i64 x0,.slice x1 x2 x3,.slice x4 x5 x6,.slice x7 x8 x9]] V fun e w'=>e = .returned (.int .i64 y)∧Below V.heap.size V w'):Calls Tryz.prog 55 #[.agg #[.int .i64 x0,.slice x1 x2 x3,.slice x4 x5 x6,.slice x7 x8 x9],.slice (some ⟨ga,0,none⟩) 3 3] w fun e w'=>e = .panicked (gave y)∧Below w.heap.size w w':=by
 have b2:=Blk.new w 67 #[.int .i64 x0,.slice x1 x2 x3,.slice x4 x5 x6,.slice x7 x8 x9]
 have hB0:=below_one w (.cells #[.int .i64 x0,.slice x1 x2 x3,.slice x4 x5 x6,.slice x7 x8 x9] 67)
 obtain ⟨w0,hw0⟩:∃ x,w.alloc (.cells #[.int .i64 x0,.slice x1 x2 x3,.slice x4 x5 x6,.slice x7 x8 x9] 67)=x:=⟨_,rfl⟩
 obtain ⟨g2,hg2⟩:∃ x,w.heap.size=x:=⟨_,rfl⟩
 rw [hw0] at b2 hB0
 rw [hg2] at b2
 have ba:=hga.below hB0 hga.lt
 have HSS:Hid (∀ V,Below w0.heap.size w0 V→(fun U:World=>U.cell? ⟨g2,0,none⟩=some (.int .i64 x0)∧U.cell? ⟨g2,1,none⟩=some (.slice x1 x2 x3)∧U.cell? ⟨g2,2,none⟩=some (.slice x4 x5 x6)∧U.cell? ⟨g2,3,none⟩=some (.slice x7 x8 x9)) V):=fun V hV=>⟨(b2.below hV b2.lt).cell 0,(b2.below hV b2.lt).cell 1,(b2.below hV b2.lt).cell 2,(b2.below hV b2.lt).cell 3⟩
 have HBA:Hid (∀ V,Below w0.heap.size w0 V→Blk V ga 99 #[.func (.func 56) #[] #[],.func (.func 57) #[] #[],.func (.func 58) #[] #[]]):=fun V hV=>ba.below hV ba.lt
 have HC0:=Lib.hid (fun (V:World) (hV:Below w0.heap.size w0 V)=>C0 V (below_in hB0 hV))
 have HC1:=Lib.hid (fun (V:World) (hV:Below w0.heap.size w0 V)=>C1 V (below_in hB0 hV))
 have HC2:=Lib.hid (fun (V:World) (hV:Below w0.heap.size w0 V)=>C2 V (below_in hB0 hV))
 have HB0:=Lib.hid hB0
 have HW0:=Lib.hid (And.intro hw0 hg2)
 have hen0:∀ args W,(callFunc 56 args).run Tryz.prog W = .ok (.enter 56 args) W:=enters_of Tryz.func56 (by kernel_rfl) rfl
 have hen1:∀ args W,(callFunc 57 args).run Tryz.prog W = .ok (.enter 57 args) W:=enters_of Tryz.func57 (by kernel_rfl) rfl
 have hen2:∀ args W,(callFunc 58 args).run Tryz.prog W = .ok (.enter 58 args) W:=enters_of Tryz.func58 (by kernel_rfl) rfl
 have HY:=Lib.hid hy
 clear hga b2 ba hB0 hw0 hg2 C0 C1 C2 hy
 refine (callsIn_wide (n:=9)).1 ?_
 refine callsIn_of_wp_marks Tryz.func55 rfl trivial ?_ rfl
 simp only [Tryz.ntmps55,List.size_toArray,List.length_cons,List.length_nil,Nat.reduceAdd,Nat.reduceSub,Array.replicate_succ,Array.replicate_zero,List.push_toArray,List.append_toArray,List.nil_append,List.cons_append]
 gi_wp2_with fail
 (try rw [HW0.out.2]);(try rw [HW0.out.1])
 have hBx:=Below.refl w0.heap.size w0
 refine wpIn_loop_rounds 5 ?_
 rw [roundsIn_succ]
 have cF:=(HBA.out _ hBx).cell 0
 simp only [gz9] at cF
 gi_wp2_with fail
 clear cF
 have hd:Below w0.heap.size w0 w0.drew:=(Below.refl _ _).drew
 replace hBx:=below_in hBx hd
 clear hd
 have hS:=HSS.out _ hBx
 refine wpIn_mono (region_HF (Q:=NoPanic _) (S:=(fun U:World=>U.cell? ⟨g2,0,none⟩=some (.int .i64 x0)∧U.cell? ⟨g2,1,none⟩=some (.slice x1 x2 x3)∧U.cell? ⟨g2,2,none⟩=some (.slice x4 x5 x6)∧U.cell? ⟨g2,3,none⟩=some (.slice x7 x8 x9))) (by kernel_rfl) ?_) NoPanic.imp
 refine tkF (i:=0) (d:=12) (v:=.agg #[.int .i64 x0,.slice x1 x2 x3,.slice x4 x5 x6,.slice x7 x8 x9]) (s:=hS) (c:=?_)
 simp only [ud9]
 refine tkF (i:=1) (d:=13) (v:=.func (.func 56) #[] #[]) (s:=hS) (c:=?_)
 simp only [ud9]
 refine tkF (i:=2) (d:=14) (v:=.agg #[.int .i64 x0,.slice x1 x2 x3,.slice x4 x5 x6,.slice x7 x8 x9]) (s:=hS) (c:=?_)
 simp only [ud9]
 refine oneF (i:=3) (c:=?_)
 gi_wp2_with fail
 refine ⟨trivial,(callsIn_wide.2 (HC0.out _ hBx)).mono ?_⟩
 rintro e v1 ⟨rfl,hB⟩
 replace hBx:=below_in hBx hB
 clear hS
 have hS:(fun U:World=>U.cell? ⟨g2,0,none⟩=some (.int .i64 x0)∧U.cell? ⟨g2,1,none⟩=some (.slice x1 x2 x3)∧U.cell? ⟨g2,2,none⟩=some (.slice x4 x5 x6)∧U.cell? ⟨g2,3,none⟩=some (.slice x7 x8 x9)) v1:=HSS.out _ hBx
 clear hB
 gi_wp2
 try (refine ⟨hS,?_⟩)
 refine oneF (i:=4) (c:=?_)
 gi_wp2_with fail
 refine ⟨trivial,(callsIn_wide.2 (sureL x0 x1 x2 x3 x4 x5 x6 x7 x8 x9 _)).mono ?_⟩
 rintro e v2 ⟨rfl,hB⟩
 replace hBx:=below_in hBx hB
 clear hS
 have hS:(fun U:World=>U.cell? ⟨g2,0,none⟩=some (.int .i64 x0)∧U.cell? ⟨g2,1,none⟩=some (.slice x1 x2 x3)∧U.cell? ⟨g2,2,none⟩=some (.slice x4 x5 x6)∧U.cell? ⟨g2,3,none⟩=some (.slice x7 x8 x9)) v2:=HSS.out _ hBx
 clear hB
 gi_wp2
 try (refine ⟨hS,?_⟩)
 refine anyHF_done (by kernel_rfl) ?_ _
 refine NoPanic.normal ?_
 clear hS
 gi_wp2_with fail
 rw [roundsIn_succ]
 have cF:=(HBA.out _ hBx).cell 1
 simp only [gz9] at cF
 gi_wp2_with fail
 clear cF
 have hd:Below v2.heap.size v2 v2.drew:=(Below.refl _ _).drew
 replace hBx:=below_in hBx hd
 clear hd
 have hS:(fun U:World=>U.cell? ⟨g2,0,none⟩=some (.int .i64 x0)∧U.cell? ⟨g2,1,none⟩=some (.slice x1 x2 x3)∧U.cell? ⟨g2,2,none⟩=some (.slice x4 x5 x6)∧U.cell? ⟨g2,3,none⟩=some (.slice x7 x8 x9)) v2.drew:=HSS.out _ hBx
 refine wpIn_mono (region_HF (Q:=NoPanic _) (S:=(fun U:World=>U.cell? ⟨g2,0,none⟩=some (.int .i64 x0)∧U.cell? ⟨g2,1,none⟩=some (.slice x1 x2 x3)∧U.cell? ⟨g2,2,none⟩=some (.slice x4 x5 x6)∧U.cell? ⟨g2,3,none⟩=some (.slice x7 x8 x9))) (by kernel_rfl) ?_) NoPanic.imp
 refine tkF (i:=0) (d:=12) (v:=.agg #[.int .i64 x0,.slice x1 x2 x3,.slice x4 x5 x6,.slice x7 x8 x9]) (s:=hS) (c:=?_)
 simp only [ud9]
 refine tkF (i:=1) (d:=13) (v:=.func (.func 57) #[] #[]) (s:=hS) (c:=?_)
 simp only [ud9]
 refine tkF (i:=2) (d:=14) (v:=.agg #[.int .i64 x0,.slice x1 x2 x3,.slice x4 x5 x6,.slice x7 x8 x9]) (s:=hS) (c:=?_)
 simp only [ud9]
 refine oneF (i:=3) (c:=?_)
 gi_wp2_with fail
 refine ⟨trivial,(callsIn_wide.2 (HC1.out _ hBx)).mono ?_⟩
 rintro e v11 ⟨rfl,hB⟩
 replace hBx:=below_in hBx hB
 clear hS
 have hS:(fun U:World=>U.cell? ⟨g2,0,none⟩=some (.int .i64 x0)∧U.cell? ⟨g2,1,none⟩=some (.slice x1 x2 x3)∧U.cell? ⟨g2,2,none⟩=some (.slice x4 x5 x6)∧U.cell? ⟨g2,3,none⟩=some (.slice x7 x8 x9)) v11:=HSS.out _ hBx
 clear hB
 gi_wp2
 try (refine ⟨hS,?_⟩)
 refine oneF (i:=4) (c:=?_)
 gi_wp2_with fail
 refine ⟨trivial,(callsIn_wide.2 (sureL x0 x1 x2 x3 x4 x5 x6 x7 x8 x9 _)).mono ?_⟩
 rintro e v12 ⟨rfl,hB⟩
 replace hBx:=below_in hBx hB
 clear hS
 have hS:(fun U:World=>U.cell? ⟨g2,0,none⟩=some (.int .i64 x0)∧U.cell? ⟨g2,1,none⟩=some (.slice x1 x2 x3)∧U.cell? ⟨g2,2,none⟩=some (.slice x4 x5 x6)∧U.cell? ⟨g2,3,none⟩=some (.slice x7 x8 x9)) v12:=HSS.out _ hBx
 clear hB
 gi_wp2
 try (refine ⟨hS,?_⟩)
 refine anyHF_done (by kernel_rfl) ?_ _
 refine NoPanic.normal ?_
 clear hS
 gi_wp2_with fail
 rw [roundsIn_succ]
 have cF:=(HBA.out _ hBx).cell 2
 simp only [gz9] at cF
 gi_wp2_with fail
 clear cF
 have hd:Below v12.heap.size v12 v12.drew:=(Below.refl _ _).drew
 replace hBx:=below_in hBx hd
 clear hd
 have hS:(fun U:World=>U.cell? ⟨g2,0,none⟩=some (.int .i64 x0)∧U.cell? ⟨g2,1,none⟩=some (.slice x1 x2 x3)∧U.cell? ⟨g2,2,none⟩=some (.slice x4 x5 x6)∧U.cell? ⟨g2,3,none⟩=some (.slice x7 x8 x9)) v12.drew:=HSS.out _ hBx
 refine wpIn_mono (region_HF (Q:=GaveT y w) (S:=(fun U:World=>U.cell? ⟨g2,0,none⟩=some (.int .i64 x0)∧U.cell? ⟨g2,1,none⟩=some (.slice x1 x2 x3)∧U.cell? ⟨g2,2,none⟩=some (.slice x4 x5 x6)∧U.cell? ⟨g2,3,none⟩=some (.slice x7 x8 x9))) (by kernel_rfl) ?_) (fun e a w' h=>by obtain ⟨rfl,hd,hB⟩:=h;obtain ⟨tm,df⟩:=a;have hd':df = []:=hd;subst hd';exact ⟨rfl,hB⟩)
 refine tkF (i:=0) (d:=12) (v:=.agg #[.int .i64 x0,.slice x1 x2 x3,.slice x4 x5 x6,.slice x7 x8 x9]) (s:=hS) (c:=?_)
 simp only [ud9]
 refine tkF (i:=1) (d:=13) (v:=.func (.func 58) #[] #[]) (s:=hS) (c:=?_)
 simp only [ud9]
 refine tkF (i:=2) (d:=14) (v:=.agg #[.int .i64 x0,.slice x1 x2 x3,.slice x4 x5 x6,.slice x7 x8 x9]) (s:=hS) (c:=?_)
 simp only [ud9]
 refine oneF (i:=3) (c:=?_)
 gi_wp2_with fail
 refine ⟨trivial,(callsIn_wide.2 (HC2.out _ hBx)).mono ?_⟩
 rintro e v21 ⟨rfl,hB⟩
 replace hBx:=below_in hBx hB
 clear hS
 have hS:(fun U:World=>U.cell? ⟨g2,0,none⟩=some (.int .i64 x0)∧U.cell? ⟨g2,1,none⟩=some (.slice x1 x2 x3)∧U.cell? ⟨g2,2,none⟩=some (.slice x4 x5 x6)∧U.cell? ⟨g2,3,none⟩=some (.slice x7 x8 x9)) v21:=HSS.out _ hBx
 clear hB
 gi_wp2
 try (refine ⟨hS,?_⟩)
 refine oneF (i:=4) (c:=?_)
 gi_wp2_with fail
 refine ⟨trivial,(callsIn_wide.2 (sureL_no y HY.out x0 x1 x2 x3 x4 x5 x6 x7 x8 x9 _)).mono ?_⟩
 rintro e wz ⟨rfl,hB⟩
 exact ⟨rfl,rfl,below_in HB0.out (below_in hBx hB)⟩
theorem inOrder3 (x0:Int) (x1:Option Addr) (x2 x3:Nat) (x4:Option Addr) (x5 x6:Nat) (x7:Option Addr) (x8 x9:Nat) (ga:Nat) (w:World) (hga:Blk w ga 99 #[.func (.func 56) #[] #[],.func (.func 57) #[] #[],.func (.func 58) #[] #[]]) (C0:∀ V,Below w.heap.size w V→Calls Tryz.prog 56 #[.agg #[.int .i64 x0,.slice x1 x2 x3,.slice x4 x5 x6,.slice x7 x8 x9]] V fun e w'=>e = .returned (.int .i64 0)∧Below V.heap.size V w') (C1:∀ V,Below w.heap.size w V→Calls Tryz.prog 57 #[.agg #[.int .i64 x0,.slice x1 x2 x3,.slice x4 x5 x6,.slice x7 x8 x9]] V fun e w'=>e = .returned (.int .i64 0)∧Below V.heap.size V w') (C2:∀ V,Below w.heap.size w V→Calls Tryz.prog 58 #[.agg #[.int .i64 x0,.slice x1 x2 x3,.slice x4 x5 x6,.slice x7 x8 x9]] V fun e w'=>e = .returned (.int .i64 0)∧Below V.heap.size V w'):Calls Tryz.prog 55 #[.agg #[.int .i64 x0,.slice x1 x2 x3,.slice x4 x5 x6,.slice x7 x8 x9],.slice (some ⟨ga,0,none⟩) 3 3] w fun e w'=>e = .returned (.tuple #[])∧Below w.heap.size w w':=by
 have b2:=Blk.new w 67 #[.int .i64 x0,.slice x1 x2 x3,.slice x4 x5 x6,.slice x7 x8 x9]
 have hB0:=below_one w (.cells #[.int .i64 x0,.slice x1 x2 x3,.slice x4 x5 x6,.slice x7 x8 x9] 67)
 obtain ⟨w0,hw0⟩:∃ x,w.alloc (.cells #[.int .i64 x0,.slice x1 x2 x3,.slice x4 x5 x6,.slice x7 x8 x9] 67)=x:=⟨_,rfl⟩
 obtain ⟨g2,hg2⟩:∃ x,w.heap.size=x:=⟨_,rfl⟩
 rw [hw0] at b2 hB0
 rw [hg2] at b2
 have ba:=hga.below hB0 hga.lt
 have HSS:Hid (∀ V,Below w0.heap.size w0 V→(fun U:World=>U.cell? ⟨g2,0,none⟩=some (.int .i64 x0)∧U.cell? ⟨g2,1,none⟩=some (.slice x1 x2 x3)∧U.cell? ⟨g2,2,none⟩=some (.slice x4 x5 x6)∧U.cell? ⟨g2,3,none⟩=some (.slice x7 x8 x9)) V):=fun V hV=>⟨(b2.below hV b2.lt).cell 0,(b2.below hV b2.lt).cell 1,(b2.below hV b2.lt).cell 2,(b2.below hV b2.lt).cell 3⟩
 have HBA:Hid (∀ V,Below w0.heap.size w0 V→Blk V ga 99 #[.func (.func 56) #[] #[],.func (.func 57) #[] #[],.func (.func 58) #[] #[]]):=fun V hV=>ba.below hV ba.lt
 have HC0:=Lib.hid (fun (V:World) (hV:Below w0.heap.size w0 V)=>C0 V (below_in hB0 hV))
 have HC1:=Lib.hid (fun (V:World) (hV:Below w0.heap.size w0 V)=>C1 V (below_in hB0 hV))
 have HC2:=Lib.hid (fun (V:World) (hV:Below w0.heap.size w0 V)=>C2 V (below_in hB0 hV))
 have HB0:=Lib.hid hB0
 have HW0:=Lib.hid (And.intro hw0 hg2)
 have hen0:∀ args W,(callFunc 56 args).run Tryz.prog W = .ok (.enter 56 args) W:=enters_of Tryz.func56 (by kernel_rfl) rfl
 have hen1:∀ args W,(callFunc 57 args).run Tryz.prog W = .ok (.enter 57 args) W:=enters_of Tryz.func57 (by kernel_rfl) rfl
 have hen2:∀ args W,(callFunc 58 args).run Tryz.prog W = .ok (.enter 58 args) W:=enters_of Tryz.func58 (by kernel_rfl) rfl
 clear hga b2 ba hB0 hw0 hg2 C0 C1 C2
 refine (callsIn_wide (n:=9)).1 ?_
 refine callsIn_of_wp_marks Tryz.func55 rfl trivial ?_ rfl
 simp only [Tryz.ntmps55,List.size_toArray,List.length_cons,List.length_nil,Nat.reduceAdd,Nat.reduceSub,Array.replicate_succ,Array.replicate_zero,List.push_toArray,List.append_toArray,List.nil_append,List.cons_append]
 gi_wp2_with fail
 (try rw [HW0.out.2]);(try rw [HW0.out.1])
 have hBx:=Below.refl w0.heap.size w0
 refine wpIn_loop_rounds 5 ?_
 rw [roundsIn_succ]
 have cF:=(HBA.out _ hBx).cell 0
 simp only [gz9] at cF
 gi_wp2_with fail
 clear cF
 have hd:Below w0.heap.size w0 w0.drew:=(Below.refl _ _).drew
 replace hBx:=below_in hBx hd
 clear hd
 have hS:=HSS.out _ hBx
 refine wpIn_mono (region_HF (Q:=NoPanic _) (S:=(fun U:World=>U.cell? ⟨g2,0,none⟩=some (.int .i64 x0)∧U.cell? ⟨g2,1,none⟩=some (.slice x1 x2 x3)∧U.cell? ⟨g2,2,none⟩=some (.slice x4 x5 x6)∧U.cell? ⟨g2,3,none⟩=some (.slice x7 x8 x9))) (by kernel_rfl) ?_) NoPanic.imp
 refine tkF (i:=0) (d:=12) (v:=.agg #[.int .i64 x0,.slice x1 x2 x3,.slice x4 x5 x6,.slice x7 x8 x9]) (s:=hS) (c:=?_)
 simp only [ud9]
 refine tkF (i:=1) (d:=13) (v:=.func (.func 56) #[] #[]) (s:=hS) (c:=?_)
 simp only [ud9]
 refine tkF (i:=2) (d:=14) (v:=.agg #[.int .i64 x0,.slice x1 x2 x3,.slice x4 x5 x6,.slice x7 x8 x9]) (s:=hS) (c:=?_)
 simp only [ud9]
 refine oneF (i:=3) (c:=?_)
 gi_wp2_with fail
 refine ⟨trivial,(callsIn_wide.2 (HC0.out _ hBx)).mono ?_⟩
 rintro e v1 ⟨rfl,hB⟩
 replace hBx:=below_in hBx hB
 clear hS
 have hS:(fun U:World=>U.cell? ⟨g2,0,none⟩=some (.int .i64 x0)∧U.cell? ⟨g2,1,none⟩=some (.slice x1 x2 x3)∧U.cell? ⟨g2,2,none⟩=some (.slice x4 x5 x6)∧U.cell? ⟨g2,3,none⟩=some (.slice x7 x8 x9)) v1:=HSS.out _ hBx
 clear hB
 gi_wp2
 try (refine ⟨hS,?_⟩)
 refine oneF (i:=4) (c:=?_)
 gi_wp2_with fail
 refine ⟨trivial,(callsIn_wide.2 (sureL x0 x1 x2 x3 x4 x5 x6 x7 x8 x9 _)).mono ?_⟩
 rintro e v2 ⟨rfl,hB⟩
 replace hBx:=below_in hBx hB
 clear hS
 have hS:(fun U:World=>U.cell? ⟨g2,0,none⟩=some (.int .i64 x0)∧U.cell? ⟨g2,1,none⟩=some (.slice x1 x2 x3)∧U.cell? ⟨g2,2,none⟩=some (.slice x4 x5 x6)∧U.cell? ⟨g2,3,none⟩=some (.slice x7 x8 x9)) v2:=HSS.out _ hBx
 clear hB
 gi_wp2
 try (refine ⟨hS,?_⟩)
 refine anyHF_done (by kernel_rfl) ?_ _
 refine NoPanic.normal ?_
 clear hS
 gi_wp2_with fail
 rw [roundsIn_succ]
 have cF:=(HBA.out _ hBx).cell 1
 simp only [gz9] at cF
 gi_wp2_with fail
 clear cF
 have hd:Below v2.heap.size v2 v2.drew:=(Below.refl _ _).drew
 replace hBx:=below_in hBx hd
 clear hd
 have hS:(fun U:World=>U.cell? ⟨g2,0,none⟩=some (.int .i64 x0)∧U.cell? ⟨g2,1,none⟩=some (.slice x1 x2 x3)∧U.cell? ⟨g2,2,none⟩=some (.slice x4 x5 x6)∧U.cell? ⟨g2,3,none⟩=some (.slice x7 x8 x9)) v2.drew:=HSS.out _ hBx
 refine wpIn_mono (region_HF (Q:=NoPanic _) (S:=(fun U:World=>U.cell? ⟨g2,0,none⟩=some (.int .i64 x0)∧U.cell? ⟨g2,1,none⟩=some (.slice x1 x2 x3)∧U.cell? ⟨g2,2,none⟩=some (.slice x4 x5 x6)∧U.cell? ⟨g2,3,none⟩=some (.slice x7 x8 x9))) (by kernel_rfl) ?_) NoPanic.imp
 refine tkF (i:=0) (d:=12) (v:=.agg #[.int .i64 x0,.slice x1 x2 x3,.slice x4 x5 x6,.slice x7 x8 x9]) (s:=hS) (c:=?_)
 simp only [ud9]
 refine tkF (i:=1) (d:=13) (v:=.func (.func 57) #[] #[]) (s:=hS) (c:=?_)
 simp only [ud9]
 refine tkF (i:=2) (d:=14) (v:=.agg #[.int .i64 x0,.slice x1 x2 x3,.slice x4 x5 x6,.slice x7 x8 x9]) (s:=hS) (c:=?_)
 simp only [ud9]
 refine oneF (i:=3) (c:=?_)
 gi_wp2_with fail
 refine ⟨trivial,(callsIn_wide.2 (HC1.out _ hBx)).mono ?_⟩
 rintro e v11 ⟨rfl,hB⟩
 replace hBx:=below_in hBx hB
 clear hS
 have hS:(fun U:World=>U.cell? ⟨g2,0,none⟩=some (.int .i64 x0)∧U.cell? ⟨g2,1,none⟩=some (.slice x1 x2 x3)∧U.cell? ⟨g2,2,none⟩=some (.slice x4 x5 x6)∧U.cell? ⟨g2,3,none⟩=some (.slice x7 x8 x9)) v11:=HSS.out _ hBx
 clear hB
 gi_wp2
 try (refine ⟨hS,?_⟩)
 refine oneF (i:=4) (c:=?_)
 gi_wp2_with fail
 refine ⟨trivial,(callsIn_wide.2 (sureL x0 x1 x2 x3 x4 x5 x6 x7 x8 x9 _)).mono ?_⟩
 rintro e v12 ⟨rfl,hB⟩
 replace hBx:=below_in hBx hB
 clear hS
 have hS:(fun U:World=>U.cell? ⟨g2,0,none⟩=some (.int .i64 x0)∧U.cell? ⟨g2,1,none⟩=some (.slice x1 x2 x3)∧U.cell? ⟨g2,2,none⟩=some (.slice x4 x5 x6)∧U.cell? ⟨g2,3,none⟩=some (.slice x7 x8 x9)) v12:=HSS.out _ hBx
 clear hB
 gi_wp2
 try (refine ⟨hS,?_⟩)
 refine anyHF_done (by kernel_rfl) ?_ _
 refine NoPanic.normal ?_
 clear hS
 gi_wp2_with fail
 rw [roundsIn_succ]
 have cF:=(HBA.out _ hBx).cell 2
 simp only [gz9] at cF
 gi_wp2_with fail
 clear cF
 have hd:Below v12.heap.size v12 v12.drew:=(Below.refl _ _).drew
 replace hBx:=below_in hBx hd
 clear hd
 have hS:(fun U:World=>U.cell? ⟨g2,0,none⟩=some (.int .i64 x0)∧U.cell? ⟨g2,1,none⟩=some (.slice x1 x2 x3)∧U.cell? ⟨g2,2,none⟩=some (.slice x4 x5 x6)∧U.cell? ⟨g2,3,none⟩=some (.slice x7 x8 x9)) v12.drew:=HSS.out _ hBx
 refine wpIn_mono (region_HF (Q:=NoPanic _) (S:=(fun U:World=>U.cell? ⟨g2,0,none⟩=some (.int .i64 x0)∧U.cell? ⟨g2,1,none⟩=some (.slice x1 x2 x3)∧U.cell? ⟨g2,2,none⟩=some (.slice x4 x5 x6)∧U.cell? ⟨g2,3,none⟩=some (.slice x7 x8 x9))) (by kernel_rfl) ?_) NoPanic.imp
 refine tkF (i:=0) (d:=12) (v:=.agg #[.int .i64 x0,.slice x1 x2 x3,.slice x4 x5 x6,.slice x7 x8 x9]) (s:=hS) (c:=?_)
 simp only [ud9]
 refine tkF (i:=1) (d:=13) (v:=.func (.func 58) #[] #[]) (s:=hS) (c:=?_)
 simp only [ud9]
 refine tkF (i:=2) (d:=14) (v:=.agg #[.int .i64 x0,.slice x1 x2 x3,.slice x4 x5 x6,.slice x7 x8 x9]) (s:=hS) (c:=?_)
 simp only [ud9]
 refine oneF (i:=3) (c:=?_)
 gi_wp2_with fail
 refine ⟨trivial,(callsIn_wide.2 (HC2.out _ hBx)).mono ?_⟩
 rintro e v21 ⟨rfl,hB⟩
 replace hBx:=below_in hBx hB
 clear hS
 have hS:(fun U:World=>U.cell? ⟨g2,0,none⟩=some (.int .i64 x0)∧U.cell? ⟨g2,1,none⟩=some (.slice x1 x2 x3)∧U.cell? ⟨g2,2,none⟩=some (.slice x4 x5 x6)∧U.cell? ⟨g2,3,none⟩=some (.slice x7 x8 x9)) v21:=HSS.out _ hBx
 clear hB
 gi_wp2
 try (refine ⟨hS,?_⟩)
 refine oneF (i:=4) (c:=?_)
 gi_wp2_with fail
 refine ⟨trivial,(callsIn_wide.2 (sureL x0 x1 x2 x3 x4 x5 x6 x7 x8 x9 _)).mono ?_⟩
 rintro e v22 ⟨rfl,hB⟩
 replace hBx:=below_in hBx hB
 clear hS
 have hS:(fun U:World=>U.cell? ⟨g2,0,none⟩=some (.int .i64 x0)∧U.cell? ⟨g2,1,none⟩=some (.slice x1 x2 x3)∧U.cell? ⟨g2,2,none⟩=some (.slice x4 x5 x6)∧U.cell? ⟨g2,3,none⟩=some (.slice x7 x8 x9)) v22:=HSS.out _ hBx
 clear hB
 gi_wp2
 try (refine ⟨hS,?_⟩)
 refine anyHF_done (by kernel_rfl) ?_ _
 refine NoPanic.normal ?_
 clear hS
 gi_wp2_with fail
 rw [roundsIn_succ]
 gi_wp2_with fail
 exact ⟨_,results_none rfl _ _ _,rfl,below_in HB0.out hBx⟩
theorem asked0 (y:Int) (hy:¬ y=0)  (x0:Int) (x1:Option Addr) (x2 x3:Nat) (x4:Option Addr) (x5 x6:Nat) (x7:Option Addr) (x8 x9:Nat) (w:World) (C0:∀ V,Below w.heap.size w V→Calls Tryz.prog 56 #[.agg #[.int .i64 x0,.slice x1 x2 x3,.slice x4 x5 x6,.slice x7 x8 x9]] V fun e w'=>e = .returned (.int .i64 y)∧Below V.heap.size V w'):Calls Tryz.prog 30 #[.int .i64 x0,.slice x1 x2 x3,.slice x4 x5 x6,.slice x7 x8 x9] w fun e w'=>e = .panicked (gave y)∧Below w.heap.size w w':=by
 have ba:=(Blk.new w 67 #[.int .i64 0,.slice none 0 0,.slice none 0 0,.slice none 0 0]).alloc (.cells #[.int .i64 x0,.slice x1 x2 x3,.slice x4 x5 x6,.slice x7 x8 x9] 67)
 have bb:=Blk.second w (.cells #[.int .i64 0,.slice none 0 0,.slice none 0 0,.slice none 0 0] 67) 67 #[.int .i64 x0,.slice x1 x2 x3,.slice x4 x5 x6,.slice x7 x8 x9]
 have hB:=below_two w (.cells #[.int .i64 0,.slice none 0 0,.slice none 0 0,.slice none 0 0] 67) (.cells #[.int .i64 x0,.slice x1 x2 x3,.slice x4 x5 x6,.slice x7 x8 x9] 67)
 obtain ⟨w1,hw1⟩:∃ x,(w.alloc (.cells #[.int .i64 0,.slice none 0 0,.slice none 0 0,.slice none 0 0] 67)).alloc (.cells #[.int .i64 x0,.slice x1 x2 x3,.slice x4 x5 x6,.slice x7 x8 x9] 67)=x:=⟨_,rfl⟩
 rw [hw1] at ba bb hB
 have kb0:=bb.cell 0
 have kb1:=bb.cell 1
 have kb2:=bb.cell 2
 have kb3:=bb.cell 3
 simp only [gz9] at kb0 kb1 kb2 kb3
 have be:=Blk.new w1 99 #[.func (.func 56) #[] #[],.func (.func 57) #[] #[],.func (.func 58) #[] #[]]
 have hBe:=hB.alloc hB.size (.cells #[.func (.func 56) #[] #[],.func (.func 57) #[] #[],.func (.func 58) #[] #[]] 99)
 have bae:=ba.alloc (.cells #[.func (.func 56) #[] #[],.func (.func 57) #[] #[],.func (.func 58) #[] #[]] 99)
 have bbe:=bb.alloc (.cells #[.func (.func 56) #[] #[],.func (.func 57) #[] #[],.func (.func 58) #[] #[]] 99)
 have HIO:=Lib.hid (inOrder0 y hy x0 x1 x2 x3 x4 x5 x6 x7 x8 x9 _ _ be (fun V hV=>C0 V (below_in hBe hV)))
 have HB:=Lib.hid (And.intro bae (And.intro bbe hBe))
 clear C0 hy be hBe bae bbe ba bb hB
 go_enter Tryz.func30,Tryz.ntmps30
 go_wp2_with (go_at_call 55;(first | refine HIO.out.mono ?_);rintro e w3 ⟨rfl,hB3⟩)
 exact ⟨rfl,rfl,below_in HB.out.2.2 hB3⟩
theorem asked1 (y:Int) (hy:¬ y=0)  (x0:Int) (x1:Option Addr) (x2 x3:Nat) (x4:Option Addr) (x5 x6:Nat) (x7:Option Addr) (x8 x9:Nat) (w:World) (C0:∀ V,Below w.heap.size w V→Calls Tryz.prog 56 #[.agg #[.int .i64 x0,.slice x1 x2 x3,.slice x4 x5 x6,.slice x7 x8 x9]] V fun e w'=>e = .returned (.int .i64 0)∧Below V.heap.size V w') (C1:∀ V,Below w.heap.size w V→Calls Tryz.prog 57 #[.agg #[.int .i64 x0,.slice x1 x2 x3,.slice x4 x5 x6,.slice x7 x8 x9]] V fun e w'=>e = .returned (.int .i64 y)∧Below V.heap.size V w'):Calls Tryz.prog 30 #[.int .i64 x0,.slice x1 x2 x3,.slice x4 x5 x6,.slice x7 x8 x9] w fun e w'=>e = .panicked (gave y)∧Below w.heap.size w w':=by
 have ba:=(Blk.new w 67 #[.int .i64 0,.slice none 0 0,.slice none 0 0,.slice none 0 0]).alloc (.cells #[.int .i64 x0,.slice x1 x2 x3,.slice x4 x5 x6,.slice x7 x8 x9] 67)
 have bb:=Blk.second w (.cells #[.int .i64 0,.slice none 0 0,.slice none 0 0,.slice none 0 0] 67) 67 #[.int .i64 x0,.slice x1 x2 x3,.slice x4 x5 x6,.slice x7 x8 x9]
 have hB:=below_two w (.cells #[.int .i64 0,.slice none 0 0,.slice none 0 0,.slice none 0 0] 67) (.cells #[.int .i64 x0,.slice x1 x2 x3,.slice x4 x5 x6,.slice x7 x8 x9] 67)
 obtain ⟨w1,hw1⟩:∃ x,(w.alloc (.cells #[.int .i64 0,.slice none 0 0,.slice none 0 0,.slice none 0 0] 67)).alloc (.cells #[.int .i64 x0,.slice x1 x2 x3,.slice x4 x5 x6,.slice x7 x8 x9] 67)=x:=⟨_,rfl⟩
 rw [hw1] at ba bb hB
 have kb0:=bb.cell 0
 have kb1:=bb.cell 1
 have kb2:=bb.cell 2
 have kb3:=bb.cell 3
 simp only [gz9] at kb0 kb1 kb2 kb3
 have be:=Blk.new w1 99 #[.func (.func 56) #[] #[],.func (.func 57) #[] #[],.func (.func 58) #[] #[]]
 have hBe:=hB.alloc hB.size (.cells #[.func (.func 56) #[] #[],.func (.func 57) #[] #[],.func (.func 58) #[] #[]] 99)
 have bae:=ba.alloc (.cells #[.func (.func 56) #[] #[],.func (.func 57) #[] #[],.func (.func 58) #[] #[]] 99)
 have bbe:=bb.alloc (.cells #[.func (.func 56) #[] #[],.func (.func 57) #[] #[],.func (.func 58) #[] #[]] 99)
 have HIO:=Lib.hid (inOrder1 y hy x0 x1 x2 x3 x4 x5 x6 x7 x8 x9 _ _ be (fun V hV=>C0 V (below_in hBe hV)) (fun V hV=>C1 V (below_in hBe hV)))
 have HB:=Lib.hid (And.intro bae (And.intro bbe hBe))
 clear C0 C1 hy be hBe bae bbe ba bb hB
 go_enter Tryz.func30,Tryz.ntmps30
 go_wp2_with (go_at_call 55;(first | refine HIO.out.mono ?_);rintro e w3 ⟨rfl,hB3⟩)
 exact ⟨rfl,rfl,below_in HB.out.2.2 hB3⟩
theorem asked2 (y:Int) (hy:¬ y=0)  (x0:Int) (x1:Option Addr) (x2 x3:Nat) (x4:Option Addr) (x5 x6:Nat) (x7:Option Addr) (x8 x9:Nat) (w:World) (C0:∀ V,Below w.heap.size w V→Calls Tryz.prog 56 #[.agg #[.int .i64 x0,.slice x1 x2 x3,.slice x4 x5 x6,.slice x7 x8 x9]] V fun e w'=>e = .returned (.int .i64 0)∧Below V.heap.size V w') (C1:∀ V,Below w.heap.size w V→Calls Tryz.prog 57 #[.agg #[.int .i64 x0,.slice x1 x2 x3,.slice x4 x5 x6,.slice x7 x8 x9]] V fun e w'=>e = .returned (.int .i64 0)∧Below V.heap.size V w') (C2:∀ V,Below w.heap.size w V→Calls Tryz.prog 58 #[.agg #[.int .i64 x0,.slice x1 x2 x3,.slice x4 x5 x6,.slice x7 x8 x9]] V fun e w'=>e = .returned (.int .i64 y)∧Below V.heap.size V w'):Calls Tryz.prog 30 #[.int .i64 x0,.slice x1 x2 x3,.slice x4 x5 x6,.slice x7 x8 x9] w fun e w'=>e = .panicked (gave y)∧Below w.heap.size w w':=by
 have ba:=(Blk.new w 67 #[.int .i64 0,.slice none 0 0,.slice none 0 0,.slice none 0 0]).alloc (.cells #[.int .i64 x0,.slice x1 x2 x3,.slice x4 x5 x6,.slice x7 x8 x9] 67)
 have bb:=Blk.second w (.cells #[.int .i64 0,.slice none 0 0,.slice none 0 0,.slice none 0 0] 67) 67 #[.int .i64 x0,.slice x1 x2 x3,.slice x4 x5 x6,.slice x7 x8 x9]
 have hB:=below_two w (.cells #[.int .i64 0,.slice none 0 0,.slice none 0 0,.slice none 0 0] 67) (.cells #[.int .i64 x0,.slice x1 x2 x3,.slice x4 x5 x6,.slice x7 x8 x9] 67)
 obtain ⟨w1,hw1⟩:∃ x,(w.alloc (.cells #[.int .i64 0,.slice none 0 0,.slice none 0 0,.slice none 0 0] 67)).alloc (.cells #[.int .i64 x0,.slice x1 x2 x3,.slice x4 x5 x6,.slice x7 x8 x9] 67)=x:=⟨_,rfl⟩
 rw [hw1] at ba bb hB
 have kb0:=bb.cell 0
 have kb1:=bb.cell 1
 have kb2:=bb.cell 2
 have kb3:=bb.cell 3
 simp only [gz9] at kb0 kb1 kb2 kb3
 have be:=Blk.new w1 99 #[.func (.func 56) #[] #[],.func (.func 57) #[] #[],.func (.func 58) #[] #[]]
 have hBe:=hB.alloc hB.size (.cells #[.func (.func 56) #[] #[],.func (.func 57) #[] #[],.func (.func 58) #[] #[]] 99)
 have bae:=ba.alloc (.cells #[.func (.func 56) #[] #[],.func (.func 57) #[] #[],.func (.func 58) #[] #[]] 99)
 have bbe:=bb.alloc (.cells #[.func (.func 56) #[] #[],.func (.func 57) #[] #[],.func (.func 58) #[] #[]] 99)
 have HIO:=Lib.hid (inOrder2 y hy x0 x1 x2 x3 x4 x5 x6 x7 x8 x9 _ _ be (fun V hV=>C0 V (below_in hBe hV)) (fun V hV=>C1 V (below_in hBe hV)) (fun V hV=>C2 V (below_in hBe hV)))
 have HB:=Lib.hid (And.intro bae (And.intro bbe hBe))
 clear C0 C1 C2 hy be hBe bae bbe ba bb hB
 go_enter Tryz.func30,Tryz.ntmps30
 go_wp2_with (go_at_call 55;(first | refine HIO.out.mono ?_);rintro e w3 ⟨rfl,hB3⟩)
 exact ⟨rfl,rfl,below_in HB.out.2.2 hB3⟩
theorem asked3  (x0:Int) (x1:Option Addr) (x2 x3:Nat) (x4:Option Addr) (x5 x6:Nat) (x7:Option Addr) (x8 x9:Nat) (w:World) (C0:∀ V,Below w.heap.size w V→Calls Tryz.prog 56 #[.agg #[.int .i64 x0,.slice x1 x2 x3,.slice x4 x5 x6,.slice x7 x8 x9]] V fun e w'=>e = .returned (.int .i64 0)∧Below V.heap.size V w') (C1:∀ V,Below w.heap.size w V→Calls Tryz.prog 57 #[.agg #[.int .i64 x0,.slice x1 x2 x3,.slice x4 x5 x6,.slice x7 x8 x9]] V fun e w'=>e = .returned (.int .i64 0)∧Below V.heap.size V w') (C2:∀ V,Below w.heap.size w V→Calls Tryz.prog 58 #[.agg #[.int .i64 x0,.slice x1 x2 x3,.slice x4 x5 x6,.slice x7 x8 x9]] V fun e w'=>e = .returned (.int .i64 0)∧Below V.heap.size V w'):Calls Tryz.prog 30 #[.int .i64 x0,.slice x1 x2 x3,.slice x4 x5 x6,.slice x7 x8 x9] w fun e w'=>e = .returned (.agg #[.int .i64 x0,.slice x1 x2 x3,.slice x4 x5 x6,.slice x7 x8 x9])∧Below w.heap.size w w':=by
 have ba:=(Blk.new w 67 #[.int .i64 0,.slice none 0 0,.slice none 0 0,.slice none 0 0]).alloc (.cells #[.int .i64 x0,.slice x1 x2 x3,.slice x4 x5 x6,.slice x7 x8 x9] 67)
 have bb:=Blk.second w (.cells #[.int .i64 0,.slice none 0 0,.slice none 0 0,.slice none 0 0] 67) 67 #[.int .i64 x0,.slice x1 x2 x3,.slice x4 x5 x6,.slice x7 x8 x9]
 have hB:=below_two w (.cells #[.int .i64 0,.slice none 0 0,.slice none 0 0,.slice none 0 0] 67) (.cells #[.int .i64 x0,.slice x1 x2 x3,.slice x4 x5 x6,.slice x7 x8 x9] 67)
 obtain ⟨w1,hw1⟩:∃ x,(w.alloc (.cells #[.int .i64 0,.slice none 0 0,.slice none 0 0,.slice none 0 0] 67)).alloc (.cells #[.int .i64 x0,.slice x1 x2 x3,.slice x4 x5 x6,.slice x7 x8 x9] 67)=x:=⟨_,rfl⟩
 rw [hw1] at ba bb hB
 have kb0:=bb.cell 0
 have kb1:=bb.cell 1
 have kb2:=bb.cell 2
 have kb3:=bb.cell 3
 simp only [gz9] at kb0 kb1 kb2 kb3
 have be:=Blk.new w1 99 #[.func (.func 56) #[] #[],.func (.func 57) #[] #[],.func (.func 58) #[] #[]]
 have hBe:=hB.alloc hB.size (.cells #[.func (.func 56) #[] #[],.func (.func 57) #[] #[],.func (.func 58) #[] #[]] 99)
 have bae:=ba.alloc (.cells #[.func (.func 56) #[] #[],.func (.func 57) #[] #[],.func (.func 58) #[] #[]] 99)
 have bbe:=bb.alloc (.cells #[.func (.func 56) #[] #[],.func (.func 57) #[] #[],.func (.func 58) #[] #[]] 99)
 have HIO:=Lib.hid (inOrder3 x0 x1 x2 x3 x4 x5 x6 x7 x8 x9 _ _ be (fun V hV=>C0 V (below_in hBe hV)) (fun V hV=>C1 V (below_in hBe hV)) (fun V hV=>C2 V (below_in hBe hV)))
 have HB:=Lib.hid (And.intro bae (And.intro bbe hBe))
 clear C0 C1 C2 be hBe bae bbe ba bb hB
 go_enter Tryz.func30,Tryz.ntmps30
 go_wp2_with (go_at_call 55;(first | refine HIO.out.mono ?_);rintro e w3 ⟨rfl,hB3⟩;obtain ⟨bae,bbe,hBe⟩:=HB.out;replace bae:=bae.below hB3 bae.lt;replace bbe:=bbe.below hB3 bbe.lt;have c0:=bbe.cell 0;have d0:=bae.cell 0;have f0:=bae.frozen 0;have c1:=bbe.cell 1;have d1:=bae.cell 1;have f1:=bae.frozen 1;have c2:=bbe.cell 2;have d2:=bae.cell 2;have f2:=bae.frozen 2;have c3:=bbe.cell 3;have d3:=bae.cell 3;have f3:=bae.frozen 3;simp only [gz9] at c0 c1 c2 c3 d0 d1 d2 d3)
 have q:=(((bae.set_ 0 (.int .i64 x0)).set_ 1 (.slice x1 x2 x3)).set_ 2 (.slice x4 x5 x6)).set_ 3 (.slice x7 x8 x9)
 have r0:=q.cell 0
 have r1:=q.cell 1
 have r2:=q.cell 2
 have r3:=q.cell 3
 simp only [List.setIfInBounds_toArray,List.set_cons_zero,List.set_cons_succ,List.getElem?_toArray,List.getElem?_cons_zero,List.getElem?_cons_succ] at r0 r1 r2 r3
 exact bodyPost_ret (v:=.agg #[.int .i64 x0,.slice x1 x2 x3,.slice x4 x5 x6,.slice x7 x8 x9]) (by simp [results,Tryz.results30,go_sem,r0,r1,r2,r3]) rfl ⟨rfl,((((below_in hBe hB3).setCell (p:=⟨w.heap.size,0,none⟩) (Nat.le_refl _) _).setCell (p:=⟨w.heap.size,1,none⟩) (Nat.le_refl _) _).setCell (p:=⟨w.heap.size,2,none⟩) (Nat.le_refl _) _).setCell (p:=⟨w.heap.size,3,none⟩) (Nat.le_refl _) _⟩
end Go.Proofs.YtkllhjhkcipkoaaGreatDoor.Tr
