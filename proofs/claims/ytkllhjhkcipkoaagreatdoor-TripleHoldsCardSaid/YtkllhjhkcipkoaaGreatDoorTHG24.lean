/- -/
import Derived.Test.YtkllhjhkcipkoaaGreatDoorTHG15
import Derived.Test.YtkllhjhkcipkoaaGreatDoorTHG22
import Derived.Test.YtkllhjhkcipkoaaGreatDoorTHG23
set_option linter.unusedVariables false
set_option linter.unusedSimpArgs false
set_option maxRecDepth 100000
set_option maxHeartbeats 8000000
namespace Go.Proofs.YtkllhjhkcipkoaaGreatDoor.Tr
open Go.RowKit Go.Shelf Go.Maps Go.Proofs.YtkllhjhkcipkoaaGreatDoor.C Go.Proofs.YtkllhjhkcipkoaaGreatDoor.E Go.Proofs.YtkllhjhkcipkoaaGreatDoor.T Go.Proofs.YtkllhjhkcipkoaaGreatDoor.Rg
attribute [local go_sem] Oper.semAt_some

theorem field_S (A:Option Addr) (m c:Nat) (vf:Value):∀ W:World,(Instr.field 94 (.agg #[.slice A m c,vf]) 0).run Tryz.prog W = .ok (.slice A m c) W:=fun W=>by kernel_rfl
def butL (s:Int):List Int:=if s=2 then [3,4] else if s=3 then [2,4] else [2,3]
theorem delete_any {B:Nat} (s:Int) (hs:IsRole s) (g gb:Nat) (hBg:B≤g) (hne:gb≠g) (w:World) (bs:Blk w g 44 #[.int .i64 2,.int .i64 3,.int .i64 4]) (hb:Blk w gb 44 #[.int .i64 s]) :
 Calls Tryz.prog 63 #[.slice (some ⟨g,0,none⟩) 3 3,.func (.func 64) #[] #[.pointer (some ⟨gb,0,none⟩)]] w fun e w'=>e = .returned (.slice (some ⟨g,0,none⟩) 2 3)∧(∀ j,j<2→w'.cell? ⟨g,j,none⟩=some (.int .i64 ((butL s)[j]?.getD 0)))∧g<w'.heap.size∧Below B w w':=by
 have hs3:s=2∨s=3∨s=4:=by obtain ⟨h1,h2⟩:=hs;omega
 rcases hs3 with rfl | rfl | rfl
 · refine (delete0 g gb hBg hne w bs hb).mono ?_
   rintro e w' ⟨rfl,hb2,hB⟩
   refine ⟨rfl,fun j hj=>?_,hb2.lt,hB⟩
   have hj2:j=0∨j=1:=by omega
   rcases hj2 with rfl | rfl
   · exact hb2.cell 0
   · exact hb2.cell 1
 · refine (delete1 g gb hBg hne w bs hb).mono ?_
   rintro e w' ⟨rfl,hb2,hB⟩
   refine ⟨rfl,fun j hj=>?_,hb2.lt,hB⟩
   have hj2:j=0∨j=1:=by omega
   rcases hj2 with rfl | rfl
   · exact hb2.cell 0
   · exact hb2.cell 1
 · refine (delete2 g gb hBg hne w bs hb).mono ?_
   rintro e w' ⟨rfl,hb2,hB⟩
   refine ⟨rfl,fun j hj=>?_,hb2.lt,hB⟩
   have hj2:j=0∨j=1:=by omega
   rcases hj2 with rfl | rfl
   · exact hb2.cell 0
   · exact hb2.cell 1
theorem but_yes (s:Int) (hs:IsRole s) (w:World):Calls Tryz.prog 40 #[.int .i64 s] w fun e w'=>∃ g,e = .returned (.slice (some ⟨g,0,none⟩) 2 3)∧(∀ j,j<2→w'.cell? ⟨g,j,none⟩=some (.int .i64 ((butL s)[j]?.getD 0)))∧w.heap.size≤g∧g<w'.heap.size∧Below w.heap.size w w':=by
 have bS:=Blk.new w 44 #[.int .i64 s]
 have hB0:=below_one w (.cells #[.int .i64 s] 44)
 obtain ⟨w0,hw0⟩:∃ x,w.alloc (.cells #[.int .i64 s] 44)=x:=⟨_,rfl⟩
 rw [hw0] at bS hB0
 have c0:=bS.one
 have HIO:=Lib.hid (isOther_any s w0)
 rw [show decide (¬ IsRole s)=false from decide_eq_false (fun h=>h hs)] at HIO
 have HB:=Lib.hid (And.intro bS hB0)
 have HDF:=Lib.hid (fun (V:World) (g:Nat) (hg:w.heap.size≤g) (hne:w.heap.size≠g)=>delete_any s hs g w.heap.size hg hne V)
 clear bS hB0
 have hmf:∀ (fn:Fn) (first cap:Array Value) (w:World),(Instr.makeFunc fn first cap).run Tryz.prog w = .ok (.func fn first cap) w:=fun _ _ _ _=>rfl
 go_enter Tryz.func40,Tryz.ntmps40
 go_wp2_with (first
  | (go_at_call 62;(try rw [hw0]);refine HIO.out.mono ?_;rintro e w1 ⟨rfl,hB1⟩)
  | (go_at_call 61;refine (need_yes 2 _).mono ?_;rintro e w2 ⟨rfl,rfl⟩)
  | (go_at_call 31;refine (roles_any _).mono ?_;rintro e w3 ⟨g,rfl,hg,hb,hB3⟩)
  | (go_at_call 63;have hsz1:=HB.out.2.size;have hlt0:=HB.out.1.lt;have hsz:=hB1.size;refine (HDF.out _ g (by omega) (by omega) hb ((HB.out.1.below hB1 HB.out.1.lt).below hB3 (by omega))).mono ?_;rintro e w4 ⟨rfl,hcl,hlt,hB4⟩))
 go_ret
 exact ⟨g,rfl,hcl,by omega,hlt,(below_in (below_in HB.out.2 hB1) hB3).trans hB4⟩
theorem three1_yes (x0:Int) (x1:Option Addr) (x2 x3:Nat) (a b c:Int) (gp ga q1 q2 q3:Nat) (U:World) (Post:Value→World→Prop) (b0:Blk U gp 3 #[.int .i64 x0]) (b1:Blk U ga 22 #[.slice x1 x2 x3]) (b2:Blk U q1 3 #[.int .i64 a]) (b3:Blk U q2 3 #[.int .i64 b]) (b4:Blk U q3 3 #[.int .i64 c]) (HAS:∀ (V:World) (gR:Nat) (hV:Below U.heap.size U V) (hR:Blk V gR 44 #[.int .i64 2,.int .i64 3,.int .i64 4]) (gE:Nat) (hE:Blk V gE 3 #[.int .i64 a,.int .i64 b,.int .i64 c]),Calls Tryz.prog 30 #[.int .i64 x0,.slice x1 x2 x3,.slice (some ⟨gR,0,none⟩) 3 3,.slice (some ⟨gE,0,none⟩) 3 3] V fun e w'=>e = .returned (.agg #[.int .i64 x0,.slice x1 x2 x3,.slice (some ⟨gR,0,none⟩) 3 3,.slice (some ⟨gE,0,none⟩) 3 3])∧Below V.heap.size V w')  (HTO:∀ (V:World) (gR:Nat) (hV:Below U.heap.size U V) (hR:Blk V gR 44 #[.int .i64 2,.int .i64 3,.int .i64 4]) (gE:Nat) (hE:Blk V gE 3 #[.int .i64 a,.int .i64 b,.int .i64 c]),Calls Tryz.prog 32 #[.agg #[.int .i64 x0,.slice x1 x2 x3,.slice (some ⟨gR,0,none⟩) 3 3,.slice (some ⟨gE,0,none⟩) 3 3]] V fun e w'=>∃ gc n c,e = .returned (.slice (some ⟨gc,0,none⟩) n c)∧Post (.slice (some ⟨gc,0,none⟩) n c) w'∧Below V.heap.size V w') :
 Calls Tryz.prog 29 #[.pointer (some ⟨gp,0,none⟩),.pointer (some ⟨ga,0,none⟩),.pointer (some ⟨q1,0,none⟩),.pointer (some ⟨q2,0,none⟩),.pointer (some ⟨q3,0,none⟩)] U fun e w'=>∃ v,e = .returned v∧Post v w'∧Below U.heap.size U w':=by
 have HASH:=Lib.hid HAS
 have HTOH:=Lib.hid HTO
 have HSS:Hid (∀ V,Below U.heap.size U V→(fun U:World=>U.cell? ⟨gp,0,none⟩=some (.int .i64 x0)∧U.cell? ⟨ga,0,none⟩=some (.slice x1 x2 x3)∧U.cell? ⟨q1,0,none⟩=some (.int .i64 a)∧U.cell? ⟨q2,0,none⟩=some (.int .i64 b)∧U.cell? ⟨q3,0,none⟩=some (.int .i64 c)) V):=fun V hV=>⟨(b0.below hV b0.lt).one,(b1.below hV b1.lt).one,(b2.below hV b2.lt).one,(b3.below hV b3.lt).one,(b4.below hV b4.lt).one⟩
 have hBx:=Below.refl U.heap.size U
 clear b0 b1 b2 b3 b4 HAS HTO
 refine (callsIn_wide (n:=9)).1 ?_
 refine callsIn_of_wp_marks Tryz.func29 rfl trivial ?_ rfl
 simp only [Tryz.ntmps29,List.size_toArray,List.length_cons,List.length_nil,Nat.reduceAdd,Nat.reduceSub,Array.replicate_succ,Array.replicate_zero,List.push_toArray,List.append_toArray,List.nil_append,List.cons_append]
 gi_wp2_with fail
 have hd:Below U.heap.size U U.drew:=(Below.refl _ _).drew
 replace hBx:=below_in hBx hd
 clear hd
 have hS:(fun U:World=>U.cell? ⟨gp,0,none⟩=some (.int .i64 x0)∧U.cell? ⟨ga,0,none⟩=some (.slice x1 x2 x3)∧U.cell? ⟨q1,0,none⟩=some (.int .i64 a)∧U.cell? ⟨q2,0,none⟩=some (.int .i64 b)∧U.cell? ⟨q3,0,none⟩=some (.int .i64 c)) U.drew:=HSS.out _ hBx
 refine wpIn_mono (region_HF (Q:=NoPanic _) (S:=(fun U:World=>U.cell? ⟨gp,0,none⟩=some (.int .i64 x0)∧U.cell? ⟨ga,0,none⟩=some (.slice x1 x2 x3)∧U.cell? ⟨q1,0,none⟩=some (.int .i64 a)∧U.cell? ⟨q2,0,none⟩=some (.int .i64 b)∧U.cell? ⟨q3,0,none⟩=some (.int .i64 c))) (by kernel_rfl) ?_) NoPanic.imp
 refine tkF (i:=0) (d:=6) (v:=.int .i64 x0) (s:=hS) (c:=?_)
 simp only [ud9]
 refine tkF (i:=1) (d:=7) (v:=.slice x1 x2 x3) (s:=hS) (c:=?_)
 simp only [ud9]
 refine tkF (i:=3) (d:=9) (v:=.int .i64 a) (s:=hS) (c:=?_)
 simp only [ud9]
 refine tkF (i:=4) (d:=10) (v:=.int .i64 b) (s:=hS) (c:=?_)
 simp only [ud9]
 refine tkF (i:=5) (d:=11) (v:=.int .i64 c) (s:=hS) (c:=?_)
 simp only [ud9]
 refine Rg.anyHF_both (i:=2) (j:=6) (by kernel_rfl) rfl rfl (by rfl) (by rfl) ?c1a ?c1b
 case c1a =>
  gi_wp2_with fail
  refine ⟨trivial,(callsIn_wide.2 (roles_any U.drew)).mono ?_⟩
  rintro e v3 ⟨g2,rfl,hge_g2,bR,hB⟩
  replace hBx:=below_in hBx hB
  clear hS
  have hS:(fun U:World=>U.cell? ⟨gp,0,none⟩=some (.int .i64 x0)∧U.cell? ⟨ga,0,none⟩=some (.slice x1 x2 x3)∧U.cell? ⟨q1,0,none⟩=some (.int .i64 a)∧U.cell? ⟨q2,0,none⟩=some (.int .i64 b)∧U.cell? ⟨q3,0,none⟩=some (.int .i64 c)) v3:=HSS.out _ hBx
  clear hB
  gi_wp2
  try (refine ⟨hS,?_⟩)
  refine oneF (i:=6) (c:=?_)
  have hgl_g5:=hBx.size
  have hB:Below v3.heap.size v3 (v3.alloc (.cells #[.int .i64 a,.int .i64 b,.int .i64 c] 3)):=below_one v3 _
  have bE:Blk (v3.alloc (.cells #[.int .i64 a,.int .i64 b,.int .i64 c] 3)) v3.heap.size 3 #[.int .i64 a,.int .i64 b,.int .i64 c]:=Blk.new v3 _ _
  obtain ⟨v4,he_v4⟩:∃ x,(v3.alloc (.cells #[.int .i64 a,.int .i64 b,.int .i64 c] 3))=x:=⟨_,rfl⟩
  obtain ⟨g5,hg_g5⟩:∃ x,v3.heap.size=x:=⟨_,rfl⟩
  rw [he_v4] at hB bE
  rw [hg_g5] at bE
  replace bR:=bR.below hB bR.lt
  replace hBx:=below_in hBx hB
  clear hS
  have hS:(fun U:World=>U.cell? ⟨gp,0,none⟩=some (.int .i64 x0)∧U.cell? ⟨ga,0,none⟩=some (.slice x1 x2 x3)∧U.cell? ⟨q1,0,none⟩=some (.int .i64 a)∧U.cell? ⟨q2,0,none⟩=some (.int .i64 b)∧U.cell? ⟨q3,0,none⟩=some (.int .i64 c)) v4:=HSS.out _ hBx
  gi_wp2
  (try rw [hg_g5]);(try rw [he_v4])
  try (refine ⟨hS,?_⟩)
  clear hB he_v4 hg_g5
  refine oneF (i:=7) (c:=?_)
  gi_wp2_with fail
  refine ⟨trivial,(callsIn_wide.2 (HASH.out _ g2 hBx bR g5 bE)).mono ?_⟩
  rintro e v6 ⟨rfl,hB⟩
  replace bR:=bR.below hB bR.lt
  replace bE:=bE.below hB bE.lt
  replace hBx:=below_in hBx hB
  clear hS
  have hS:(fun U:World=>U.cell? ⟨gp,0,none⟩=some (.int .i64 x0)∧U.cell? ⟨ga,0,none⟩=some (.slice x1 x2 x3)∧U.cell? ⟨q1,0,none⟩=some (.int .i64 a)∧U.cell? ⟨q2,0,none⟩=some (.int .i64 b)∧U.cell? ⟨q3,0,none⟩=some (.int .i64 c)) v6:=HSS.out _ hBx
  clear hB
  gi_wp2
  try (refine ⟨hS,?_⟩)
  refine oneF (i:=8) (c:=?_)
  gi_wp2_with fail
  refine ⟨trivial,(callsIn_wide.2 (HTOH.out _ g2 hBx bR g5 bE)).mono ?_⟩
  rintro e v7 ⟨gc,nz,cz,rfl,hP,hB⟩
  replace bR:=bR.below hB bR.lt
  replace bE:=bE.below hB bE.lt
  replace hBx:=below_in hBx hB
  clear hS
  have hS:(fun U:World=>U.cell? ⟨gp,0,none⟩=some (.int .i64 x0)∧U.cell? ⟨ga,0,none⟩=some (.slice x1 x2 x3)∧U.cell? ⟨q1,0,none⟩=some (.int .i64 a)∧U.cell? ⟨q2,0,none⟩=some (.int .i64 b)∧U.cell? ⟨q3,0,none⟩=some (.int .i64 c)) v7:=HSS.out _ hBx
  clear hB
  gi_wp2
  try (refine ⟨hS,?_⟩)
  refine oneF (i:=9) (c:=?_)
  gi_wp2
  refine anyHF_done (by kernel_rfl) ?_ _
  refine NoPanic.normal ?_
  clear hS
  gi_wp2_with fail
  exact ⟨_,results_tmp rfl _ _ _,.slice (some ⟨gc,0,none⟩) nz cz,rfl,hP,hBx⟩
 case c1b =>
  have hgl_g9:=hBx.size
  have hB:Below U.drew.heap.size U.drew (U.drew.alloc (.cells #[.int .i64 a,.int .i64 b,.int .i64 c] 3)):=below_one U.drew _
  have bE:Blk (U.drew.alloc (.cells #[.int .i64 a,.int .i64 b,.int .i64 c] 3)) U.drew.heap.size 3 #[.int .i64 a,.int .i64 b,.int .i64 c]:=Blk.new U.drew _ _
  obtain ⟨v8,he_v8⟩:∃ x,(U.drew.alloc (.cells #[.int .i64 a,.int .i64 b,.int .i64 c] 3))=x:=⟨_,rfl⟩
  obtain ⟨g9,hg_g9⟩:∃ x,U.drew.heap.size=x:=⟨_,rfl⟩
  rw [he_v8] at hB bE
  rw [hg_g9] at bE
  replace hBx:=below_in hBx hB
  clear hS
  have hS:(fun U:World=>U.cell? ⟨gp,0,none⟩=some (.int .i64 x0)∧U.cell? ⟨ga,0,none⟩=some (.slice x1 x2 x3)∧U.cell? ⟨q1,0,none⟩=some (.int .i64 a)∧U.cell? ⟨q2,0,none⟩=some (.int .i64 b)∧U.cell? ⟨q3,0,none⟩=some (.int .i64 c)) v8:=HSS.out _ hBx
  gi_wp2
  (try rw [hg_g9]);(try rw [he_v8])
  try (refine ⟨hS,?_⟩)
  clear hB he_v8 hg_g9
  refine oneF (i:=2) (c:=?_)
  gi_wp2_with fail
  refine ⟨trivial,(callsIn_wide.2 (roles_any v8)).mono ?_⟩
  rintro e v11 ⟨g10,rfl,hge_g10,bR,hB⟩
  replace bE:=bE.below hB bE.lt
  replace hBx:=below_in hBx hB
  clear hS
  have hS:(fun U:World=>U.cell? ⟨gp,0,none⟩=some (.int .i64 x0)∧U.cell? ⟨ga,0,none⟩=some (.slice x1 x2 x3)∧U.cell? ⟨q1,0,none⟩=some (.int .i64 a)∧U.cell? ⟨q2,0,none⟩=some (.int .i64 b)∧U.cell? ⟨q3,0,none⟩=some (.int .i64 c)) v11:=HSS.out _ hBx
  clear hB
  gi_wp2
  try (refine ⟨hS,?_⟩)
  refine oneF (i:=7) (c:=?_)
  gi_wp2_with fail
  refine ⟨trivial,(callsIn_wide.2 (HASH.out _ g10 hBx bR g9 bE)).mono ?_⟩
  rintro e v12 ⟨rfl,hB⟩
  replace bE:=bE.below hB bE.lt
  replace bR:=bR.below hB bR.lt
  replace hBx:=below_in hBx hB
  clear hS
  have hS:(fun U:World=>U.cell? ⟨gp,0,none⟩=some (.int .i64 x0)∧U.cell? ⟨ga,0,none⟩=some (.slice x1 x2 x3)∧U.cell? ⟨q1,0,none⟩=some (.int .i64 a)∧U.cell? ⟨q2,0,none⟩=some (.int .i64 b)∧U.cell? ⟨q3,0,none⟩=some (.int .i64 c)) v12:=HSS.out _ hBx
  clear hB
  gi_wp2
  try (refine ⟨hS,?_⟩)
  refine oneF (i:=8) (c:=?_)
  gi_wp2_with fail
  refine ⟨trivial,(callsIn_wide.2 (HTOH.out _ g10 hBx bR g9 bE)).mono ?_⟩
  rintro e v13 ⟨gc,nz,cz,rfl,hP,hB⟩
  replace bE:=bE.below hB bE.lt
  replace bR:=bR.below hB bR.lt
  replace hBx:=below_in hBx hB
  clear hS
  have hS:(fun U:World=>U.cell? ⟨gp,0,none⟩=some (.int .i64 x0)∧U.cell? ⟨ga,0,none⟩=some (.slice x1 x2 x3)∧U.cell? ⟨q1,0,none⟩=some (.int .i64 a)∧U.cell? ⟨q2,0,none⟩=some (.int .i64 b)∧U.cell? ⟨q3,0,none⟩=some (.int .i64 c)) v13:=HSS.out _ hBx
  clear hB
  gi_wp2
  try (refine ⟨hS,?_⟩)
  refine oneF (i:=9) (c:=?_)
  gi_wp2
  refine anyHF_done (by kernel_rfl) ?_ _
  refine NoPanic.normal ?_
  clear hS
  gi_wp2_with fail
  exact ⟨_,results_tmp rfl _ _ _,.slice (some ⟨gc,0,none⟩) nz cz,rfl,hP,hBx⟩
theorem three1_no (y:Int) (x0:Int) (x1:Option Addr) (x2 x3:Nat) (a b c:Int) (gp ga q1 q2 q3:Nat) (U:World) (b0:Blk U gp 3 #[.int .i64 x0]) (b1:Blk U ga 22 #[.slice x1 x2 x3]) (b2:Blk U q1 3 #[.int .i64 a]) (b3:Blk U q2 3 #[.int .i64 b]) (b4:Blk U q3 3 #[.int .i64 c]) (HAS:∀ (V:World) (gR:Nat) (hV:Below U.heap.size U V) (hR:Blk V gR 44 #[.int .i64 2,.int .i64 3,.int .i64 4]) (gE:Nat) (hE:Blk V gE 3 #[.int .i64 a,.int .i64 b,.int .i64 c]),Calls Tryz.prog 30 #[.int .i64 x0,.slice x1 x2 x3,.slice (some ⟨gR,0,none⟩) 3 3,.slice (some ⟨gE,0,none⟩) 3 3] V fun e w'=>e = .panicked (gave y)∧Below V.heap.size V w')  :
 Calls Tryz.prog 29 #[.pointer (some ⟨gp,0,none⟩),.pointer (some ⟨ga,0,none⟩),.pointer (some ⟨q1,0,none⟩),.pointer (some ⟨q2,0,none⟩),.pointer (some ⟨q3,0,none⟩)] U fun e w'=>e = .panicked (gave y)∧Below U.heap.size U w':=by
 have HASH:=Lib.hid HAS
 have HSS:Hid (∀ V,Below U.heap.size U V→(fun U:World=>U.cell? ⟨gp,0,none⟩=some (.int .i64 x0)∧U.cell? ⟨ga,0,none⟩=some (.slice x1 x2 x3)∧U.cell? ⟨q1,0,none⟩=some (.int .i64 a)∧U.cell? ⟨q2,0,none⟩=some (.int .i64 b)∧U.cell? ⟨q3,0,none⟩=some (.int .i64 c)) V):=fun V hV=>⟨(b0.below hV b0.lt).one,(b1.below hV b1.lt).one,(b2.below hV b2.lt).one,(b3.below hV b3.lt).one,(b4.below hV b4.lt).one⟩
 have hBx:=Below.refl U.heap.size U
 clear b0 b1 b2 b3 b4 HAS
 refine (callsIn_wide (n:=9)).1 ?_
 refine callsIn_of_wp_marks Tryz.func29 rfl trivial ?_ rfl
 simp only [Tryz.ntmps29,List.size_toArray,List.length_cons,List.length_nil,Nat.reduceAdd,Nat.reduceSub,Array.replicate_succ,Array.replicate_zero,List.push_toArray,List.append_toArray,List.nil_append,List.cons_append]
 gi_wp2_with fail
 have hd:Below U.heap.size U U.drew:=(Below.refl _ _).drew
 replace hBx:=below_in hBx hd
 clear hd
 have hS:(fun U:World=>U.cell? ⟨gp,0,none⟩=some (.int .i64 x0)∧U.cell? ⟨ga,0,none⟩=some (.slice x1 x2 x3)∧U.cell? ⟨q1,0,none⟩=some (.int .i64 a)∧U.cell? ⟨q2,0,none⟩=some (.int .i64 b)∧U.cell? ⟨q3,0,none⟩=some (.int .i64 c)) U.drew:=HSS.out _ hBx
 refine wpIn_mono (region_HF (Q:=GaveT y U) (S:=(fun U:World=>U.cell? ⟨gp,0,none⟩=some (.int .i64 x0)∧U.cell? ⟨ga,0,none⟩=some (.slice x1 x2 x3)∧U.cell? ⟨q1,0,none⟩=some (.int .i64 a)∧U.cell? ⟨q2,0,none⟩=some (.int .i64 b)∧U.cell? ⟨q3,0,none⟩=some (.int .i64 c))) (by kernel_rfl) ?_) (fun e a w' h=>by obtain ⟨rfl,hd,hB⟩:=h;obtain ⟨tm,df⟩:=a;have hd':df = []:=hd;subst hd';exact ⟨rfl,hB⟩)
 refine tkF (i:=0) (d:=6) (v:=.int .i64 x0) (s:=hS) (c:=?_)
 simp only [ud9]
 refine tkF (i:=1) (d:=7) (v:=.slice x1 x2 x3) (s:=hS) (c:=?_)
 simp only [ud9]
 refine tkF (i:=3) (d:=9) (v:=.int .i64 a) (s:=hS) (c:=?_)
 simp only [ud9]
 refine tkF (i:=4) (d:=10) (v:=.int .i64 b) (s:=hS) (c:=?_)
 simp only [ud9]
 refine tkF (i:=5) (d:=11) (v:=.int .i64 c) (s:=hS) (c:=?_)
 simp only [ud9]
 refine Rg.anyHF_both (i:=2) (j:=6) (by kernel_rfl) rfl rfl (by rfl) (by rfl) ?c1a ?c1b
 case c1a =>
  gi_wp2_with fail
  refine ⟨trivial,(callsIn_wide.2 (roles_any U.drew)).mono ?_⟩
  rintro e v3 ⟨g2,rfl,hge_g2,bR,hB⟩
  replace hBx:=below_in hBx hB
  clear hS
  have hS:(fun U:World=>U.cell? ⟨gp,0,none⟩=some (.int .i64 x0)∧U.cell? ⟨ga,0,none⟩=some (.slice x1 x2 x3)∧U.cell? ⟨q1,0,none⟩=some (.int .i64 a)∧U.cell? ⟨q2,0,none⟩=some (.int .i64 b)∧U.cell? ⟨q3,0,none⟩=some (.int .i64 c)) v3:=HSS.out _ hBx
  clear hB
  gi_wp2
  try (refine ⟨hS,?_⟩)
  refine oneF (i:=6) (c:=?_)
  have hgl_g5:=hBx.size
  have hB:Below v3.heap.size v3 (v3.alloc (.cells #[.int .i64 a,.int .i64 b,.int .i64 c] 3)):=below_one v3 _
  have bE:Blk (v3.alloc (.cells #[.int .i64 a,.int .i64 b,.int .i64 c] 3)) v3.heap.size 3 #[.int .i64 a,.int .i64 b,.int .i64 c]:=Blk.new v3 _ _
  obtain ⟨v4,he_v4⟩:∃ x,(v3.alloc (.cells #[.int .i64 a,.int .i64 b,.int .i64 c] 3))=x:=⟨_,rfl⟩
  obtain ⟨g5,hg_g5⟩:∃ x,v3.heap.size=x:=⟨_,rfl⟩
  rw [he_v4] at hB bE
  rw [hg_g5] at bE
  replace bR:=bR.below hB bR.lt
  replace hBx:=below_in hBx hB
  clear hS
  have hS:(fun U:World=>U.cell? ⟨gp,0,none⟩=some (.int .i64 x0)∧U.cell? ⟨ga,0,none⟩=some (.slice x1 x2 x3)∧U.cell? ⟨q1,0,none⟩=some (.int .i64 a)∧U.cell? ⟨q2,0,none⟩=some (.int .i64 b)∧U.cell? ⟨q3,0,none⟩=some (.int .i64 c)) v4:=HSS.out _ hBx
  gi_wp2
  (try rw [hg_g5]);(try rw [he_v4])
  try (refine ⟨hS,?_⟩)
  clear hB he_v4 hg_g5
  refine oneF (i:=7) (c:=?_)
  gi_wp2_with fail
  refine ⟨trivial,(callsIn_wide.2 (HASH.out _ g2 hBx bR g5 bE)).mono ?_⟩
  rintro e wp ⟨rfl,hB1⟩
  exact ⟨rfl,rfl,below_in hBx hB1⟩
 case c1b =>
  have hgl_g7:=hBx.size
  have hB:Below U.drew.heap.size U.drew (U.drew.alloc (.cells #[.int .i64 a,.int .i64 b,.int .i64 c] 3)):=below_one U.drew _
  have bE:Blk (U.drew.alloc (.cells #[.int .i64 a,.int .i64 b,.int .i64 c] 3)) U.drew.heap.size 3 #[.int .i64 a,.int .i64 b,.int .i64 c]:=Blk.new U.drew _ _
  obtain ⟨v6,he_v6⟩:∃ x,(U.drew.alloc (.cells #[.int .i64 a,.int .i64 b,.int .i64 c] 3))=x:=⟨_,rfl⟩
  obtain ⟨g7,hg_g7⟩:∃ x,U.drew.heap.size=x:=⟨_,rfl⟩
  rw [he_v6] at hB bE
  rw [hg_g7] at bE
  replace hBx:=below_in hBx hB
  clear hS
  have hS:(fun U:World=>U.cell? ⟨gp,0,none⟩=some (.int .i64 x0)∧U.cell? ⟨ga,0,none⟩=some (.slice x1 x2 x3)∧U.cell? ⟨q1,0,none⟩=some (.int .i64 a)∧U.cell? ⟨q2,0,none⟩=some (.int .i64 b)∧U.cell? ⟨q3,0,none⟩=some (.int .i64 c)) v6:=HSS.out _ hBx
  gi_wp2
  (try rw [hg_g7]);(try rw [he_v6])
  try (refine ⟨hS,?_⟩)
  clear hB he_v6 hg_g7
  refine oneF (i:=2) (c:=?_)
  gi_wp2_with fail
  refine ⟨trivial,(callsIn_wide.2 (roles_any v6)).mono ?_⟩
  rintro e v9 ⟨g8,rfl,hge_g8,bR,hB⟩
  replace bE:=bE.below hB bE.lt
  replace hBx:=below_in hBx hB
  clear hS
  have hS:(fun U:World=>U.cell? ⟨gp,0,none⟩=some (.int .i64 x0)∧U.cell? ⟨ga,0,none⟩=some (.slice x1 x2 x3)∧U.cell? ⟨q1,0,none⟩=some (.int .i64 a)∧U.cell? ⟨q2,0,none⟩=some (.int .i64 b)∧U.cell? ⟨q3,0,none⟩=some (.int .i64 c)) v9:=HSS.out _ hBx
  clear hB
  gi_wp2
  try (refine ⟨hS,?_⟩)
  refine oneF (i:=7) (c:=?_)
  gi_wp2_with fail
  refine ⟨trivial,(callsIn_wide.2 (HASH.out _ g8 hBx bR g7 bE)).mono ?_⟩
  rintro e wp ⟨rfl,hB1⟩
  exact ⟨rfl,rfl,below_in hBx hB1⟩
theorem two1_yes (x0:Int) (x1:Option Addr) (x2 x3:Nat) (a b:Int) (s:Int) (gp ga gs q1 q2:Nat) (U:World) (Post:Value→World→Prop) (b0:Blk U gp 3 #[.int .i64 x0]) (b1:Blk U ga 22 #[.slice x1 x2 x3]) (b2:Blk U gs 44 #[.int .i64 s]) (b3:Blk U q1 3 #[.int .i64 a]) (b4:Blk U q2 3 #[.int .i64 b]) (hs:IsRole s) (HAS:∀ (V:World) (gR:Nat) (hV:Below U.heap.size U V) (hR:∀ j,j<2→V.cell? ⟨gR,j,none⟩=some (.int .i64 ((butL s)[j]?.getD 0))) (hRl:gR<V.heap.size) (gE:Nat) (hE:Blk V gE 3 #[.int .i64 a,.int .i64 b]),Calls Tryz.prog 30 #[.int .i64 x0,.slice x1 x2 x3,.slice (some ⟨gR,0,none⟩) 2 3,.slice (some ⟨gE,0,none⟩) 2 2] V fun e w'=>e = .returned (.agg #[.int .i64 x0,.slice x1 x2 x3,.slice (some ⟨gR,0,none⟩) 2 3,.slice (some ⟨gE,0,none⟩) 2 2])∧Below V.heap.size V w')  (HTO:∀ (V:World) (gR:Nat) (hV:Below U.heap.size U V) (hR:∀ j,j<2→V.cell? ⟨gR,j,none⟩=some (.int .i64 ((butL s)[j]?.getD 0))) (hRl:gR<V.heap.size) (gE:Nat) (hE:Blk V gE 3 #[.int .i64 a,.int .i64 b]),Calls Tryz.prog 32 #[.agg #[.int .i64 x0,.slice x1 x2 x3,.slice (some ⟨gR,0,none⟩) 2 3,.slice (some ⟨gE,0,none⟩) 2 2]] V fun e w'=>∃ gc n c,e = .returned (.slice (some ⟨gc,0,none⟩) n c)∧Post (.slice (some ⟨gc,0,none⟩) n c) w'∧Below V.heap.size V w') :
 Calls Tryz.prog 39 #[.pointer (some ⟨gp,0,none⟩),.pointer (some ⟨ga,0,none⟩),.pointer (some ⟨gs,0,none⟩),.pointer (some ⟨q1,0,none⟩),.pointer (some ⟨q2,0,none⟩)] U fun e w'=>∃ v,e = .returned v∧Post v w'∧Below U.heap.size U w':=by
 have HSR:=Lib.hid hs
 have HASH:=Lib.hid HAS
 have HTOH:=Lib.hid HTO
 have HSS:Hid (∀ V,Below U.heap.size U V→(fun U:World=>U.cell? ⟨gp,0,none⟩=some (.int .i64 x0)∧U.cell? ⟨ga,0,none⟩=some (.slice x1 x2 x3)∧U.cell? ⟨gs,0,none⟩=some (.int .i64 s)∧U.cell? ⟨q1,0,none⟩=some (.int .i64 a)∧U.cell? ⟨q2,0,none⟩=some (.int .i64 b)) V):=fun V hV=>⟨(b0.below hV b0.lt).one,(b1.below hV b1.lt).one,(b2.below hV b2.lt).one,(b3.below hV b3.lt).one,(b4.below hV b4.lt).one⟩
 have hBx:=Below.refl U.heap.size U
 clear b0 b1 b2 b3 b4 HAS HTO hs
 refine (callsIn_wide (n:=9)).1 ?_
 refine callsIn_of_wp_marks Tryz.func39 rfl trivial ?_ rfl
 simp only [Tryz.ntmps39,List.size_toArray,List.length_cons,List.length_nil,Nat.reduceAdd,Nat.reduceSub,Array.replicate_succ,Array.replicate_zero,List.push_toArray,List.append_toArray,List.nil_append,List.cons_append]
 gi_wp2_with fail
 have hd:Below U.heap.size U U.drew:=(Below.refl _ _).drew
 replace hBx:=below_in hBx hd
 clear hd
 have hS:(fun U:World=>U.cell? ⟨gp,0,none⟩=some (.int .i64 x0)∧U.cell? ⟨ga,0,none⟩=some (.slice x1 x2 x3)∧U.cell? ⟨gs,0,none⟩=some (.int .i64 s)∧U.cell? ⟨q1,0,none⟩=some (.int .i64 a)∧U.cell? ⟨q2,0,none⟩=some (.int .i64 b)) U.drew:=HSS.out _ hBx
 refine wpIn_mono (region_HF (Q:=NoPanic _) (S:=(fun U:World=>U.cell? ⟨gp,0,none⟩=some (.int .i64 x0)∧U.cell? ⟨ga,0,none⟩=some (.slice x1 x2 x3)∧U.cell? ⟨gs,0,none⟩=some (.int .i64 s)∧U.cell? ⟨q1,0,none⟩=some (.int .i64 a)∧U.cell? ⟨q2,0,none⟩=some (.int .i64 b))) (by kernel_rfl) ?_) NoPanic.imp
 refine tkF (i:=0) (d:=6) (v:=.int .i64 x0) (s:=hS) (c:=?_)
 simp only [ud9]
 refine tkF (i:=1) (d:=7) (v:=.slice x1 x2 x3) (s:=hS) (c:=?_)
 simp only [ud9]
 refine tkF (i:=2) (d:=8) (v:=.int .i64 s) (s:=hS) (c:=?_)
 simp only [ud9]
 refine tkF (i:=4) (d:=10) (v:=.int .i64 a) (s:=hS) (c:=?_)
 simp only [ud9]
 refine tkF (i:=5) (d:=11) (v:=.int .i64 b) (s:=hS) (c:=?_)
 simp only [ud9]
 refine Rg.anyHF_both (i:=3) (j:=6) (by kernel_rfl) rfl rfl (by rfl) (by rfl) ?c1a ?c1b
 case c1a =>
  gi_wp2_with fail
  refine ⟨trivial,(callsIn_wide.2 (but_yes s HSR.out U.drew)).mono ?_⟩
  rintro e v3 ⟨g2,rfl,hR,hge_g2,hRl,hB⟩
  replace hBx:=below_in hBx hB
  clear hS
  have hS:(fun U:World=>U.cell? ⟨gp,0,none⟩=some (.int .i64 x0)∧U.cell? ⟨ga,0,none⟩=some (.slice x1 x2 x3)∧U.cell? ⟨gs,0,none⟩=some (.int .i64 s)∧U.cell? ⟨q1,0,none⟩=some (.int .i64 a)∧U.cell? ⟨q2,0,none⟩=some (.int .i64 b)) v3:=HSS.out _ hBx
  clear hB
  gi_wp2
  try (refine ⟨hS,?_⟩)
  refine oneF (i:=6) (c:=?_)
  have hgl_g5:=hBx.size
  have hB:Below v3.heap.size v3 (v3.alloc (.cells #[.int .i64 a,.int .i64 b] 3)):=below_one v3 _
  have bE:Blk (v3.alloc (.cells #[.int .i64 a,.int .i64 b] 3)) v3.heap.size 3 #[.int .i64 a,.int .i64 b]:=Blk.new v3 _ _
  obtain ⟨v4,he_v4⟩:∃ x,(v3.alloc (.cells #[.int .i64 a,.int .i64 b] 3))=x:=⟨_,rfl⟩
  obtain ⟨g5,hg_g5⟩:∃ x,v3.heap.size=x:=⟨_,rfl⟩
  rw [he_v4] at hB bE
  rw [hg_g5] at bE
  replace hR:∀ j,j<2→World.cell? _ ⟨g2,j,none⟩ = _:=fun j hj=>(hB.cell (p:=⟨g2,j,none⟩) hRl).trans (hR j hj)
  replace hRl:=Nat.lt_of_lt_of_le hRl hB.size
  replace hBx:=below_in hBx hB
  clear hS
  have hS:(fun U:World=>U.cell? ⟨gp,0,none⟩=some (.int .i64 x0)∧U.cell? ⟨ga,0,none⟩=some (.slice x1 x2 x3)∧U.cell? ⟨gs,0,none⟩=some (.int .i64 s)∧U.cell? ⟨q1,0,none⟩=some (.int .i64 a)∧U.cell? ⟨q2,0,none⟩=some (.int .i64 b)) v4:=HSS.out _ hBx
  gi_wp2
  (try rw [hg_g5]);(try rw [he_v4])
  try (refine ⟨hS,?_⟩)
  clear hB he_v4 hg_g5
  refine oneF (i:=7) (c:=?_)
  gi_wp2_with fail
  refine ⟨trivial,(callsIn_wide.2 (HASH.out _ g2 hBx hR hRl g5 bE)).mono ?_⟩
  rintro e v6 ⟨rfl,hB⟩
  replace bE:=bE.below hB bE.lt
  replace hR:∀ j,j<2→World.cell? _ ⟨g2,j,none⟩ = _:=fun j hj=>(hB.cell (p:=⟨g2,j,none⟩) hRl).trans (hR j hj)
  replace hRl:=Nat.lt_of_lt_of_le hRl hB.size
  replace hBx:=below_in hBx hB
  clear hS
  have hS:(fun U:World=>U.cell? ⟨gp,0,none⟩=some (.int .i64 x0)∧U.cell? ⟨ga,0,none⟩=some (.slice x1 x2 x3)∧U.cell? ⟨gs,0,none⟩=some (.int .i64 s)∧U.cell? ⟨q1,0,none⟩=some (.int .i64 a)∧U.cell? ⟨q2,0,none⟩=some (.int .i64 b)) v6:=HSS.out _ hBx
  clear hB
  gi_wp2
  try (refine ⟨hS,?_⟩)
  refine oneF (i:=8) (c:=?_)
  gi_wp2_with fail
  refine ⟨trivial,(callsIn_wide.2 (HTOH.out _ g2 hBx hR hRl g5 bE)).mono ?_⟩
  rintro e v7 ⟨gc,nz,cz,rfl,hP,hB⟩
  replace bE:=bE.below hB bE.lt
  replace hR:∀ j,j<2→World.cell? _ ⟨g2,j,none⟩ = _:=fun j hj=>(hB.cell (p:=⟨g2,j,none⟩) hRl).trans (hR j hj)
  replace hRl:=Nat.lt_of_lt_of_le hRl hB.size
  replace hBx:=below_in hBx hB
  clear hS
  have hS:(fun U:World=>U.cell? ⟨gp,0,none⟩=some (.int .i64 x0)∧U.cell? ⟨ga,0,none⟩=some (.slice x1 x2 x3)∧U.cell? ⟨gs,0,none⟩=some (.int .i64 s)∧U.cell? ⟨q1,0,none⟩=some (.int .i64 a)∧U.cell? ⟨q2,0,none⟩=some (.int .i64 b)) v7:=HSS.out _ hBx
  clear hB
  gi_wp2
  try (refine ⟨hS,?_⟩)
  refine oneF (i:=9) (c:=?_)
  gi_wp2
  refine anyHF_done (by kernel_rfl) ?_ _
  refine NoPanic.normal ?_
  clear hS
  gi_wp2_with fail
  exact ⟨_,results_tmp rfl _ _ _,.slice (some ⟨gc,0,none⟩) nz cz,rfl,hP,hBx⟩
 case c1b =>
  have hgl_g9:=hBx.size
  have hB:Below U.drew.heap.size U.drew (U.drew.alloc (.cells #[.int .i64 a,.int .i64 b] 3)):=below_one U.drew _
  have bE:Blk (U.drew.alloc (.cells #[.int .i64 a,.int .i64 b] 3)) U.drew.heap.size 3 #[.int .i64 a,.int .i64 b]:=Blk.new U.drew _ _
  obtain ⟨v8,he_v8⟩:∃ x,(U.drew.alloc (.cells #[.int .i64 a,.int .i64 b] 3))=x:=⟨_,rfl⟩
  obtain ⟨g9,hg_g9⟩:∃ x,U.drew.heap.size=x:=⟨_,rfl⟩
  rw [he_v8] at hB bE
  rw [hg_g9] at bE
  replace hBx:=below_in hBx hB
  clear hS
  have hS:(fun U:World=>U.cell? ⟨gp,0,none⟩=some (.int .i64 x0)∧U.cell? ⟨ga,0,none⟩=some (.slice x1 x2 x3)∧U.cell? ⟨gs,0,none⟩=some (.int .i64 s)∧U.cell? ⟨q1,0,none⟩=some (.int .i64 a)∧U.cell? ⟨q2,0,none⟩=some (.int .i64 b)) v8:=HSS.out _ hBx
  gi_wp2
  (try rw [hg_g9]);(try rw [he_v8])
  try (refine ⟨hS,?_⟩)
  clear hB he_v8 hg_g9
  refine oneF (i:=3) (c:=?_)
  gi_wp2_with fail
  refine ⟨trivial,(callsIn_wide.2 (but_yes s HSR.out v8)).mono ?_⟩
  rintro e v11 ⟨g10,rfl,hR,hge_g10,hRl,hB⟩
  replace bE:=bE.below hB bE.lt
  replace hBx:=below_in hBx hB
  clear hS
  have hS:(fun U:World=>U.cell? ⟨gp,0,none⟩=some (.int .i64 x0)∧U.cell? ⟨ga,0,none⟩=some (.slice x1 x2 x3)∧U.cell? ⟨gs,0,none⟩=some (.int .i64 s)∧U.cell? ⟨q1,0,none⟩=some (.int .i64 a)∧U.cell? ⟨q2,0,none⟩=some (.int .i64 b)) v11:=HSS.out _ hBx
  clear hB
  gi_wp2
  try (refine ⟨hS,?_⟩)
  refine oneF (i:=7) (c:=?_)
  gi_wp2_with fail
  refine ⟨trivial,(callsIn_wide.2 (HASH.out _ g10 hBx hR hRl g9 bE)).mono ?_⟩
  rintro e v12 ⟨rfl,hB⟩
  replace bE:=bE.below hB bE.lt
  replace hR:∀ j,j<2→World.cell? _ ⟨g10,j,none⟩ = _:=fun j hj=>(hB.cell (p:=⟨g10,j,none⟩) hRl).trans (hR j hj)
  replace hRl:=Nat.lt_of_lt_of_le hRl hB.size
  replace hBx:=below_in hBx hB
  clear hS
  have hS:(fun U:World=>U.cell? ⟨gp,0,none⟩=some (.int .i64 x0)∧U.cell? ⟨ga,0,none⟩=some (.slice x1 x2 x3)∧U.cell? ⟨gs,0,none⟩=some (.int .i64 s)∧U.cell? ⟨q1,0,none⟩=some (.int .i64 a)∧U.cell? ⟨q2,0,none⟩=some (.int .i64 b)) v12:=HSS.out _ hBx
  clear hB
  gi_wp2
  try (refine ⟨hS,?_⟩)
  refine oneF (i:=8) (c:=?_)
  gi_wp2_with fail
  refine ⟨trivial,(callsIn_wide.2 (HTOH.out _ g10 hBx hR hRl g9 bE)).mono ?_⟩
  rintro e v13 ⟨gc,nz,cz,rfl,hP,hB⟩
  replace bE:=bE.below hB bE.lt
  replace hR:∀ j,j<2→World.cell? _ ⟨g10,j,none⟩ = _:=fun j hj=>(hB.cell (p:=⟨g10,j,none⟩) hRl).trans (hR j hj)
  replace hRl:=Nat.lt_of_lt_of_le hRl hB.size
  replace hBx:=below_in hBx hB
  clear hS
  have hS:(fun U:World=>U.cell? ⟨gp,0,none⟩=some (.int .i64 x0)∧U.cell? ⟨ga,0,none⟩=some (.slice x1 x2 x3)∧U.cell? ⟨gs,0,none⟩=some (.int .i64 s)∧U.cell? ⟨q1,0,none⟩=some (.int .i64 a)∧U.cell? ⟨q2,0,none⟩=some (.int .i64 b)) v13:=HSS.out _ hBx
  clear hB
  gi_wp2
  try (refine ⟨hS,?_⟩)
  refine oneF (i:=9) (c:=?_)
  gi_wp2
  refine anyHF_done (by kernel_rfl) ?_ _
  refine NoPanic.normal ?_
  clear hS
  gi_wp2_with fail
  exact ⟨_,results_tmp rfl _ _ _,.slice (some ⟨gc,0,none⟩) nz cz,rfl,hP,hBx⟩
theorem share1_yes (x0:Int) (x1:Option Addr) (x2 x3:Nat) (z1:Option Addr) (z2 z3:Nat) (s:Int) (gp ga gs gl:Nat) (U:World) (Post:Value→World→Prop) (b0:Blk U gp 3 #[.int .i64 x0]) (b1:Blk U ga 22 #[.slice x1 x2 x3]) (b2:Blk U gs 44 #[.int .i64 s]) (b3:Blk U gl 30 #[.slice z1 z2 z3]) (HAS:∀ (V:World) (gR:Nat) (hV:Below U.heap.size U V) (hR:Blk V gR 44 #[.int .i64 s]) ,Calls Tryz.prog 30 #[.int .i64 x0,.slice x1 x2 x3,.slice (some ⟨gR,0,none⟩) 1 1,.slice z1 z2 z3] V fun e w'=>e = .returned (.agg #[.int .i64 x0,.slice x1 x2 x3,.slice (some ⟨gR,0,none⟩) 1 1,.slice z1 z2 z3])∧Below V.heap.size V w')  (HTO:∀ (V:World) (gR:Nat) (hV:Below U.heap.size U V) (hR:Blk V gR 44 #[.int .i64 s]) ,Calls Tryz.prog 51 #[.agg #[.int .i64 x0,.slice x1 x2 x3,.slice (some ⟨gR,0,none⟩) 1 1,.slice z1 z2 z3],.int .i64 s] V fun e w'=>∃ A m c vf,e = .returned (.agg #[.slice A m c,vf])∧Post (.slice A m c) w'∧Below V.heap.size V w') :
 Calls Tryz.prog 50 #[.pointer (some ⟨gp,0,none⟩),.pointer (some ⟨ga,0,none⟩),.pointer (some ⟨gs,0,none⟩),.pointer (some ⟨gl,0,none⟩)] U fun e w'=>∃ v,e = .returned v∧Post v w'∧Below U.heap.size U w':=by
 have HASH:=Lib.hid HAS
 have HTOH:=Lib.hid HTO
 have HSS:Hid (∀ V,Below U.heap.size U V→(fun U:World=>U.cell? ⟨gp,0,none⟩=some (.int .i64 x0)∧U.cell? ⟨ga,0,none⟩=some (.slice x1 x2 x3)∧U.cell? ⟨gs,0,none⟩=some (.int .i64 s)∧U.cell? ⟨gl,0,none⟩=some (.slice z1 z2 z3)) V):=fun V hV=>⟨(b0.below hV b0.lt).one,(b1.below hV b1.lt).one,(b2.below hV b2.lt).one,(b3.below hV b3.lt).one⟩
 have hBx:=Below.refl U.heap.size U
 clear b0 b1 b2 b3 HAS HTO
 refine (callsIn_wide (n:=9)).1 ?_
 refine callsIn_of_wp_marks Tryz.func50 rfl trivial ?_ rfl
 simp only [Tryz.ntmps50,List.size_toArray,List.length_cons,List.length_nil,Nat.reduceAdd,Nat.reduceSub,Array.replicate_succ,Array.replicate_zero,List.push_toArray,List.append_toArray,List.nil_append,List.cons_append]
 gi_wp2_with fail
 have hd:Below U.heap.size U U.drew:=(Below.refl _ _).drew
 replace hBx:=below_in hBx hd
 clear hd
 have hS:(fun U:World=>U.cell? ⟨gp,0,none⟩=some (.int .i64 x0)∧U.cell? ⟨ga,0,none⟩=some (.slice x1 x2 x3)∧U.cell? ⟨gs,0,none⟩=some (.int .i64 s)∧U.cell? ⟨gl,0,none⟩=some (.slice z1 z2 z3)) U.drew:=HSS.out _ hBx
 refine wpIn_mono (region_HF (Q:=NoPanic _) (S:=(fun U:World=>U.cell? ⟨gp,0,none⟩=some (.int .i64 x0)∧U.cell? ⟨ga,0,none⟩=some (.slice x1 x2 x3)∧U.cell? ⟨gs,0,none⟩=some (.int .i64 s)∧U.cell? ⟨gl,0,none⟩=some (.slice z1 z2 z3))) (by kernel_rfl) ?_) NoPanic.imp
 refine tkF (i:=0) (d:=5) (v:=.int .i64 x0) (s:=hS) (c:=?_)
 simp only [ud9]
 refine tkF (i:=1) (d:=6) (v:=.slice x1 x2 x3) (s:=hS) (c:=?_)
 simp only [ud9]
 refine tkF (i:=2) (d:=7) (v:=.int .i64 s) (s:=hS) (c:=?_)
 simp only [ud9]
 refine tkF (i:=4) (d:=9) (v:=.slice z1 z2 z3) (s:=hS) (c:=?_)
 simp only [ud9]
 refine tkF (i:=6) (d:=11) (v:=.int .i64 s) (s:=hS) (c:=?_)
 simp only [ud9]
 refine oneF (i:=3) (c:=?_)
 have hgl_g2:=hBx.size
 have hB:Below U.drew.heap.size U.drew (U.drew.alloc (.cells #[.int .i64 s] 44)):=below_one U.drew _
 have bR:Blk (U.drew.alloc (.cells #[.int .i64 s] 44)) U.drew.heap.size 44 #[.int .i64 s]:=Blk.new U.drew _ _
 obtain ⟨v1,he_v1⟩:∃ x,(U.drew.alloc (.cells #[.int .i64 s] 44))=x:=⟨_,rfl⟩
 obtain ⟨g2,hg_g2⟩:∃ x,U.drew.heap.size=x:=⟨_,rfl⟩
 rw [he_v1] at hB bR
 rw [hg_g2] at bR
 replace hBx:=below_in hBx hB
 clear hS
 have hS:(fun U:World=>U.cell? ⟨gp,0,none⟩=some (.int .i64 x0)∧U.cell? ⟨ga,0,none⟩=some (.slice x1 x2 x3)∧U.cell? ⟨gs,0,none⟩=some (.int .i64 s)∧U.cell? ⟨gl,0,none⟩=some (.slice z1 z2 z3)) v1:=HSS.out _ hBx
 gi_wp2
 (try rw [hg_g2]);(try rw [he_v1])
 try (refine ⟨hS,?_⟩)
 clear hB he_v1 hg_g2
 refine oneF (i:=5) (c:=?_)
 gi_wp2_with fail
 refine ⟨trivial,(callsIn_wide.2 (HASH.out _ g2 hBx bR)).mono ?_⟩
 rintro e v3 ⟨rfl,hB⟩
 replace bR:=bR.below hB bR.lt
 replace hBx:=below_in hBx hB
 clear hS
 have hS:(fun U:World=>U.cell? ⟨gp,0,none⟩=some (.int .i64 x0)∧U.cell? ⟨ga,0,none⟩=some (.slice x1 x2 x3)∧U.cell? ⟨gs,0,none⟩=some (.int .i64 s)∧U.cell? ⟨gl,0,none⟩=some (.slice z1 z2 z3)) v3:=HSS.out _ hBx
 clear hB
 gi_wp2
 try (refine ⟨hS,?_⟩)
 refine oneF (i:=7) (c:=?_)
 gi_wp2_with fail
 refine ⟨trivial,(callsIn_wide.2 (HTOH.out _ g2 hBx bR)).mono ?_⟩
 rintro e v4 ⟨Az,mz,cz,vf,rfl,hP,hB⟩
 have hfl:=field_S Az mz cz vf
 replace bR:=bR.below hB bR.lt
 replace hBx:=below_in hBx hB
 clear hS
 have hS:(fun U:World=>U.cell? ⟨gp,0,none⟩=some (.int .i64 x0)∧U.cell? ⟨ga,0,none⟩=some (.slice x1 x2 x3)∧U.cell? ⟨gs,0,none⟩=some (.int .i64 s)∧U.cell? ⟨gl,0,none⟩=some (.slice z1 z2 z3)) v4:=HSS.out _ hBx
 clear hB
 gi_wp2
 try (refine ⟨hS,?_⟩)
 refine tkF (i:=8) (d:=13) (v:=.slice Az mz cz) (s:=hS) (c:=?_)
 simp only [ud9]
 refine oneF (i:=9) (c:=?_)
 gi_wp2
 refine anyHF_done (by kernel_rfl) ?_ _
 refine NoPanic.normal ?_
 clear hS
 gi_wp2_with fail
 exact ⟨_,results_tmp rfl _ _ _,.slice Az mz cz,rfl,hP,hBx⟩
end Go.Proofs.YtkllhjhkcipkoaaGreatDoor.Tr
