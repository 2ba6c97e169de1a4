/- -/
import Derived.Test.YtkllhjhkcipkoaaGreatDoorTHG20
import Derived.Test.YtkllhjhkcipkoaaGreatDoorTHG24
set_option linter.unusedVariables false
set_option linter.unusedSimpArgs false
set_option maxRecDepth 100000
set_option maxHeartbeats 4000000
namespace Go.Proofs.YtkllhjhkcipkoaaGreatDoor.Tr
open Go.RowKit Go.Shelf Go.Maps Go.Proofs.YtkllhjhkcipkoaaGreatDoor.C Go.Proofs.YtkllhjhkcipkoaaGreatDoor.E Go.Proofs.YtkllhjhkcipkoaaGreatDoor.T Go.Proofs.YtkllhjhkcipkoaaGreatDoor.Rg
attribute [local go_sem] Oper.semAt_some

theorem one1_yes  (x0:Int) (x1:Option Addr) (x2 x3:Nat) (a s:Int) (gp ga gs q1:Nat) (U:World) (Post:Value→World→Prop) (b0:Blk U gp 3 #[.int .i64 x0]) (b1:Blk U ga 22 #[.slice x1 x2 x3]) (b2:Blk U gs 44 #[.int .i64 s]) (b3:Blk U q1 3 #[.int .i64 a]) (HAS:∀ (V:World) (gR:Nat) (hV:Below U.heap.size U V) (hR:Blk V gR 44 #[.int .i64 s]) (gE:Nat) (hE:Blk V gE 3 #[.int .i64 a]),Calls Tryz.prog 30 #[.int .i64 x0,.slice x1 x2 x3,.slice (some ⟨gR,0,none⟩) 1 1,.slice (some ⟨gE,0,none⟩) 1 1] V fun e w'=>e = .returned (.agg #[.int .i64 x0,.slice x1 x2 x3,.slice (some ⟨gR,0,none⟩) 1 1,.slice (some ⟨gE,0,none⟩) 1 1])∧Below V.heap.size V w') (HTO:∀ (V:World) (gR:Nat) (hV:Below U.heap.size U V) (hR:Blk V gR 44 #[.int .i64 s]) (gE:Nat) (hE:Blk V gE 3 #[.int .i64 a]),Calls Tryz.prog 32 #[.agg #[.int .i64 x0,.slice x1 x2 x3,.slice (some ⟨gR,0,none⟩) 1 1,.slice (some ⟨gE,0,none⟩) 1 1]] V fun e w'=>∃ gc A m c,e = .returned (.slice (some ⟨gc,0,none⟩) 1 1)∧w'.cell? ⟨gc,0,none⟩=some (.slice A m c)∧Post (.slice A m c) w'∧Below V.heap.size V w') :
 Calls Tryz.prog 42 #[.pointer (some ⟨gp,0,none⟩),.pointer (some ⟨ga,0,none⟩),.pointer (some ⟨gs,0,none⟩),.pointer (some ⟨q1,0,none⟩)] U fun e w'=>∃ v,e = .returned v∧Post v w'∧Below U.heap.size U w':=by
 have bR:=(Blk.new U 44 #[.int .i64 s]).alloc (.cells #[.int .i64 a] 3)
 have bE:=Blk.second U (.cells #[.int .i64 s] 44) 3 #[.int .i64 a]
 have hB:=below_two U (.cells #[.int .i64 s] 44) (.cells #[.int .i64 a] 3)
 have c0:=b0.one
 have c1:=b1.one
 have c2:=b2.one
 have c3:=(b3.alloc (.cells #[.int .i64 s] 44)).one
 have HA:=Lib.hid (HAS _ _ hB bR _ bE)
 have HB:=Lib.hid (And.intro bR (And.intro bE hB))
 have HTOH:=Lib.hid HTO
 clear HAS HTO bR bE hB b0 b1 b2 b3
 go_enter Tryz.func42,Tryz.ntmps42
 go_wp2_with (first
  | (go_at_call 30;refine HA.out.mono ?_;rintro e w1 ⟨rfl,hB1⟩)
  | (go_at_call 32;refine (HTOH.out _ _ (below_in HB.out.2.2 hB1) (HB.out.1.below hB1 HB.out.1.lt) _ (HB.out.2.1.below hB1 HB.out.2.1.lt)).mono ?_;rintro e w2 ⟨gc,A,m,c,rfl,hC0,hP,hB2⟩))
 go_ret
 exact ⟨_,rfl,hP,below_in (below_in HB.out.2.2 hB1) hB2⟩
theorem one1_no (y:Int) (x0:Int) (x1:Option Addr) (x2 x3:Nat) (a s:Int) (gp ga gs q1:Nat) (U:World) (b0:Blk U gp 3 #[.int .i64 x0]) (b1:Blk U ga 22 #[.slice x1 x2 x3]) (b2:Blk U gs 44 #[.int .i64 s]) (b3:Blk U q1 3 #[.int .i64 a]) (HAS:∀ (V:World) (gR:Nat) (hV:Below U.heap.size U V) (hR:Blk V gR 44 #[.int .i64 s]) (gE:Nat) (hE:Blk V gE 3 #[.int .i64 a]),Calls Tryz.prog 30 #[.int .i64 x0,.slice x1 x2 x3,.slice (some ⟨gR,0,none⟩) 1 1,.slice (some ⟨gE,0,none⟩) 1 1] V fun e w'=>e = .panicked (gave y)∧Below V.heap.size V w') :
 Calls Tryz.prog 42 #[.pointer (some ⟨gp,0,none⟩),.pointer (some ⟨ga,0,none⟩),.pointer (some ⟨gs,0,none⟩),.pointer (some ⟨q1,0,none⟩)] U fun e w'=>e = .panicked (gave y)∧Below U.heap.size U w':=by
 have bR:=(Blk.new U 44 #[.int .i64 s]).alloc (.cells #[.int .i64 a] 3)
 have bE:=Blk.second U (.cells #[.int .i64 s] 44) 3 #[.int .i64 a]
 have hB:=below_two U (.cells #[.int .i64 s] 44) (.cells #[.int .i64 a] 3)
 have c0:=b0.one
 have c1:=b1.one
 have c2:=b2.one
 have c3:=(b3.alloc (.cells #[.int .i64 s] 44)).one
 have HA:=Lib.hid (HAS _ _ hB bR _ bE)
 have HB:=Lib.hid (And.intro bR (And.intro bE hB))
 clear HAS bR bE hB b0 b1 b2 b3
 go_enter Tryz.func42,Tryz.ntmps42
 go_wp2_with (first
  | (go_at_call 30;refine HA.out.mono ?_;rintro e w1 ⟨rfl,hB1⟩))
 exact ⟨rfl,rfl,below_in HB.out.2.2 hB1⟩
theorem three_yes (x0:Int) (x1:Option Addr) (x2 x3:Nat) (a b c:Int) (w:World) (ANS:List (List (List UInt8))) (HAS:∀ (V:World) (gR:Nat) (hV:Below w.heap.size w V) (hR:Blk V gR 44 #[.int .i64 2,.int .i64 3,.int .i64 4]) (gE:Nat) (hE:Blk V gE 3 #[.int .i64 a,.int .i64 b,.int .i64 c]),Calls Tryz.prog 30 #[.int .i64 x0,.slice x1 x2 x3,.slice (some ⟨gR,0,none⟩) 3 3,.slice (some ⟨gE,0,none⟩) 3 3] V fun e w'=>e = .returned (.agg #[.int .i64 x0,.slice x1 x2 x3,.slice (some ⟨gR,0,none⟩) 3 3,.slice (some ⟨gE,0,none⟩) 3 3])∧Below V.heap.size V w') (HTO:∀ (V:World) (gR:Nat) (hV:Below w.heap.size w V) (hR:Blk V gR 44 #[.int .i64 2,.int .i64 3,.int .i64 4]) (gE:Nat) (hE:Blk V gE 3 #[.int .i64 a,.int .i64 b,.int .i64 c]),Calls Tryz.prog 32 #[.agg #[.int .i64 x0,.slice x1 x2 x3,.slice (some ⟨gR,0,none⟩) 3 3,.slice (some ⟨gE,0,none⟩) 3 3]] V fun e w'=>∃ gc n c,e = .returned (.slice (some ⟨gc,0,none⟩) n c)∧Cols w'.heap.size w' (.slice (some ⟨gc,0,none⟩) n c) ANS∧Below V.heap.size V w') :
 Calls Tryz.prog 10 #[.int .i64 x0,.slice x1 x2 x3,.int .i64 a,.int .i64 b,.int .i64 c] w fun e w'=>∃ u,e = .returned (.tuple #[u,.int .i64 0])∧Cols w'.heap.size w' u ANS∧Below w.heap.size w w':=by
 obtain ⟨W2,hW2⟩:∃ x,((((w.alloc (.cells #[.int .i64 x0] 3)).alloc (.cells #[.slice x1 x2 x3] 22)).alloc (.cells #[.int .i64 a] 3)).alloc (.cells #[.int .i64 b] 3)).alloc (.cells #[.int .i64 c] 3)=x:=⟨_,rfl⟩
 have b0:Blk W2 (w.heap.size) 3 #[.int .i64 x0]:=by rw [←hW2];exact ((((Blk.new w _ _).alloc _).alloc _).alloc _).alloc _
 have b1:Blk W2 (w.heap.size+1) 22 #[.slice x1 x2 x3]:=by rw [←hW2];exact (((Blk.second w _ _ _).alloc _).alloc _).alloc _
 have b2:Blk W2 (w.heap.size+1+1) 3 #[.int .i64 a]:=by rw [←hW2];exact ((Rg.Blk.at_ (Blk.new _ _ _) (by simp)).alloc _).alloc _
 have b3:Blk W2 (w.heap.size+1+1+1) 3 #[.int .i64 b]:=by rw [←hW2];exact (Rg.Blk.at_ (Blk.new _ _ _) (by simp)).alloc _
 have b4:Blk W2 (w.heap.size+1+1+1+1) 3 #[.int .i64 c]:=by rw [←hW2];exact Rg.Blk.at_ (Blk.new _ _ _) (by simp)
 have hBW:Below w.heap.size w W2:=by rw [←hW2];exact ((((below_two w _ _)).alloc (by simp;omega) _).alloc (by simp;omega) _).alloc (by simp;omega) _
 have HA:=Lib.hid (ans_S_yes 29 #[.pointer (some ⟨w.heap.size,0,none⟩),.pointer (some ⟨w.heap.size+1,0,none⟩),.pointer (some ⟨w.heap.size+2,0,none⟩),.pointer (some ⟨w.heap.size+3,0,none⟩),.pointer (some ⟨w.heap.size+4,0,none⟩)] W2 (fun u W=>(∃ x y z,u = .slice x y z)∧Cols W.heap.size W u ANS) (fun W=>enters_of Tryz.func29 (by kernel_rfl) rfl _ W) (fun U hU bU=>three1_yes x0 x1 x2 x3 a b c (w.heap.size) (w.heap.size+1) (w.heap.size+2) (w.heap.size+3) (w.heap.size+4) U (fun u W=>(∃ x y z,u = .slice x y z)∧Cols W.heap.size W u ANS) (b0.below hU b0.lt) (b1.below hU b1.lt) (b2.below hU b2.lt) (b3.below hU b3.lt) (b4.below hU b4.lt) (fun V gR hV hR gE hE=>HAS V gR (below_in (below_in hBW hU) hV) hR gE hE) (fun V gR hV hR gE hE=>(HTO V gR (below_in (below_in hBW hU) hV) hR gE hE).mono fun e w' ⟨gc,n,c,he,hC,hB⟩=>⟨gc,n,c,he,⟨⟨_,_,_,rfl⟩,hC⟩,hB⟩)))
 have HBW:=Lib.hid hBW
 clear hBW b0 b1 b2 b3 b4 HAS HTO
 go_enter Tryz.func10,Tryz.ntmps10
 have hmf:∀ (fn:Fn) (first cap:Array Value) (w:World),(Instr.makeFunc fn first cap).run Tryz.prog w = .ok (.func fn first cap) w:=fun _ _ _ _=>rfl
 go_wp2_with (go_at_call 28;(try rw [hW2]);refine HA.out.mono ?_;rintro e w1 ⟨u,W,rfl,⟨⟨uA,un,uc,rfl⟩,hu⟩,bE,rfl,hB1⟩)
 go_ret2
 exact ⟨_,rfl,(cols_num hu bE).more (by simp),below_in HBW.out hB1⟩
theorem three_no (y:Int) (x0:Int) (x1:Option Addr) (x2 x3:Nat) (a b c:Int) (w:World) (HAS:∀ (V:World) (gR:Nat) (hV:Below w.heap.size w V) (hR:Blk V gR 44 #[.int .i64 2,.int .i64 3,.int .i64 4]) (gE:Nat) (hE:Blk V gE 3 #[.int .i64 a,.int .i64 b,.int .i64 c]),Calls Tryz.prog 30 #[.int .i64 x0,.slice x1 x2 x3,.slice (some ⟨gR,0,none⟩) 3 3,.slice (some ⟨gE,0,none⟩) 3 3] V fun e w'=>e = .panicked (gave y)∧Below V.heap.size V w') :
 Calls Tryz.prog 10 #[.int .i64 x0,.slice x1 x2 x3,.int .i64 a,.int .i64 b,.int .i64 c] w fun e w'=>e = .returned (.tuple #[.slice none 0 0,.int .i64 y])∧Below w.heap.size w w':=by
 obtain ⟨W2,hW2⟩:∃ x,((((w.alloc (.cells #[.int .i64 x0] 3)).alloc (.cells #[.slice x1 x2 x3] 22)).alloc (.cells #[.int .i64 a] 3)).alloc (.cells #[.int .i64 b] 3)).alloc (.cells #[.int .i64 c] 3)=x:=⟨_,rfl⟩
 have b0:Blk W2 (w.heap.size) 3 #[.int .i64 x0]:=by rw [←hW2];exact ((((Blk.new w _ _).alloc _).alloc _).alloc _).alloc _
 have b1:Blk W2 (w.heap.size+1) 22 #[.slice x1 x2 x3]:=by rw [←hW2];exact (((Blk.second w _ _ _).alloc _).alloc _).alloc _
 have b2:Blk W2 (w.heap.size+1+1) 3 #[.int .i64 a]:=by rw [←hW2];exact ((Rg.Blk.at_ (Blk.new _ _ _) (by simp)).alloc _).alloc _
 have b3:Blk W2 (w.heap.size+1+1+1) 3 #[.int .i64 b]:=by rw [←hW2];exact (Rg.Blk.at_ (Blk.new _ _ _) (by simp)).alloc _
 have b4:Blk W2 (w.heap.size+1+1+1+1) 3 #[.int .i64 c]:=by rw [←hW2];exact Rg.Blk.at_ (Blk.new _ _ _) (by simp)
 have hBW:Below w.heap.size w W2:=by rw [←hW2];exact ((((below_two w _ _)).alloc (by simp;omega) _).alloc (by simp;omega) _).alloc (by simp;omega) _
 have HA:=Lib.hid (ans_S_no y 29 #[.pointer (some ⟨w.heap.size,0,none⟩),.pointer (some ⟨w.heap.size+1,0,none⟩),.pointer (some ⟨w.heap.size+2,0,none⟩),.pointer (some ⟨w.heap.size+3,0,none⟩),.pointer (some ⟨w.heap.size+4,0,none⟩)] W2 (fun W=>enters_of Tryz.func29 (by kernel_rfl) rfl _ W) (fun U hU hlU=>three1_no y x0 x1 x2 x3 a b c (w.heap.size) (w.heap.size+1) (w.heap.size+2) (w.heap.size+3) (w.heap.size+4) U (b0.below hU b0.lt) (b1.below hU b1.lt) (b2.below hU b2.lt) (b3.below hU b3.lt) (b4.below hU b4.lt) (fun V gR hV hR gE hE=>HAS V gR (below_in (below_in hBW hU) hV) hR gE hE)))
 have HBW:=Lib.hid hBW
 clear hBW b0 b1 b2 b3 b4 HAS
 go_enter Tryz.func10,Tryz.ntmps10
 have hmf:∀ (fn:Fn) (first cap:Array Value) (w:World),(Instr.makeFunc fn first cap).run Tryz.prog w = .ok (.func fn first cap) w:=fun _ _ _ _=>rfl
 go_wp2_with (go_at_call 28;(try rw [hW2]);refine HA.out.mono ?_;rintro e w1 ⟨rfl,hB1⟩)
 go_ret2
 exact ⟨rfl,below_in HBW.out hB1⟩
theorem two_yes (x0:Int) (x1:Option Addr) (x2 x3:Nat) (a b s:Int) (w:World) (ANS:List (List (List UInt8))) (hs:IsRole s) (HAS:∀ (V:World) (gR:Nat) (hV:Below w.heap.size w V) (hR:∀ j,j<2→V.cell? ⟨gR,j,none⟩=some (.int .i64 ((butL s)[j]?.getD 0))) (hRl:gR<V.heap.size) (gE:Nat) (hE:Blk V gE 3 #[.int .i64 a,.int .i64 b]),Calls Tryz.prog 30 #[.int .i64 x0,.slice x1 x2 x3,.slice (some ⟨gR,0,none⟩) 2 3,.slice (some ⟨gE,0,none⟩) 2 2] V fun e w'=>e = .returned (.agg #[.int .i64 x0,.slice x1 x2 x3,.slice (some ⟨gR,0,none⟩) 2 3,.slice (some ⟨gE,0,none⟩) 2 2])∧Below V.heap.size V w') (HTO:∀ (V:World) (gR:Nat) (hV:Below w.heap.size w V) (hR:∀ j,j<2→V.cell? ⟨gR,j,none⟩=some (.int .i64 ((butL s)[j]?.getD 0))) (hRl:gR<V.heap.size) (gE:Nat) (hE:Blk V gE 3 #[.int .i64 a,.int .i64 b]),Calls Tryz.prog 32 #[.agg #[.int .i64 x0,.slice x1 x2 x3,.slice (some ⟨gR,0,none⟩) 2 3,.slice (some ⟨gE,0,none⟩) 2 2]] V fun e w'=>∃ gc n c,e = .returned (.slice (some ⟨gc,0,none⟩) n c)∧Cols w'.heap.size w' (.slice (some ⟨gc,0,none⟩) n c) ANS∧Below V.heap.size V w') :
 Calls Tryz.prog 16 #[.int .i64 x0,.slice x1 x2 x3,.int .i64 a,.int .i64 b,.int .i64 s] w fun e w'=>∃ u,e = .returned (.tuple #[u,.int .i64 0])∧Cols w'.heap.size w' u ANS∧Below w.heap.size w w':=by
 obtain ⟨W2,hW2⟩:∃ x,((((w.alloc (.cells #[.int .i64 x0] 3)).alloc (.cells #[.slice x1 x2 x3] 22)).alloc (.cells #[.int .i64 a] 3)).alloc (.cells #[.int .i64 b] 3)).alloc (.cells #[.int .i64 s] 44)=x:=⟨_,rfl⟩
 have b0:Blk W2 (w.heap.size) 3 #[.int .i64 x0]:=by rw [←hW2];exact ((((Blk.new w _ _).alloc _).alloc _).alloc _).alloc _
 have b1:Blk W2 (w.heap.size+1) 22 #[.slice x1 x2 x3]:=by rw [←hW2];exact (((Blk.second w _ _ _).alloc _).alloc _).alloc _
 have b2:Blk W2 (w.heap.size+1+1) 3 #[.int .i64 a]:=by rw [←hW2];exact ((Rg.Blk.at_ (Blk.new _ _ _) (by simp)).alloc _).alloc _
 have b3:Blk W2 (w.heap.size+1+1+1) 3 #[.int .i64 b]:=by rw [←hW2];exact (Rg.Blk.at_ (Blk.new _ _ _) (by simp)).alloc _
 have b4:Blk W2 (w.heap.size+1+1+1+1) 44 #[.int .i64 s]:=by rw [←hW2];exact Rg.Blk.at_ (Blk.new _ _ _) (by simp)
 have hBW:Below w.heap.size w W2:=by rw [←hW2];exact ((((below_two w _ _)).alloc (by simp;omega) _).alloc (by simp;omega) _).alloc (by simp;omega) _
 have HA:=Lib.hid (ans_S_yes 39 #[.pointer (some ⟨w.heap.size,0,none⟩),.pointer (some ⟨w.heap.size+1,0,none⟩),.pointer (some ⟨w.heap.size+4,0,none⟩),.pointer (some ⟨w.heap.size+2,0,none⟩),.pointer (some ⟨w.heap.size+3,0,none⟩)] W2 (fun u W=>(∃ x y z,u = .slice x y z)∧Cols W.heap.size W u ANS) (fun W=>enters_of Tryz.func39 (by kernel_rfl) rfl _ W) (fun U hU bU=>two1_yes x0 x1 x2 x3 a b s (w.heap.size) (w.heap.size+1) (w.heap.size+4) (w.heap.size+2) (w.heap.size+3) U (fun u W=>(∃ x y z,u = .slice x y z)∧Cols W.heap.size W u ANS) (b0.below hU b0.lt) (b1.below hU b1.lt) (b4.below hU b4.lt) (b2.below hU b2.lt) (b3.below hU b3.lt) hs (fun V gR hV hR hRl gE hE=>HAS V gR (below_in (below_in hBW hU) hV) hR hRl gE hE) (fun V gR hV hR hRl gE hE=>(HTO V gR (below_in (below_in hBW hU) hV) hR hRl gE hE).mono fun e w' ⟨gc,n,c,he,hC,hB⟩=>⟨gc,n,c,he,⟨⟨_,_,_,rfl⟩,hC⟩,hB⟩)))
 have HBW:=Lib.hid hBW
 clear hBW b0 b1 b2 b3 b4 HAS HTO hs
 go_enter Tryz.func16,Tryz.ntmps16
 have hmf:∀ (fn:Fn) (first cap:Array Value) (w:World),(Instr.makeFunc fn first cap).run Tryz.prog w = .ok (.func fn first cap) w:=fun _ _ _ _=>rfl
 go_wp2_with (go_at_call 28;(try rw [hW2]);refine HA.out.mono ?_;rintro e w1 ⟨u,W,rfl,⟨⟨uA,un,uc,rfl⟩,hu⟩,bE,rfl,hB1⟩)
 go_ret2
 exact ⟨_,rfl,(cols_num hu bE).more (by simp),below_in HBW.out hB1⟩
theorem one_yes (x0:Int) (x1:Option Addr) (x2 x3:Nat) (a s:Int) (w:World) (ANS:List (List UInt8)) (HAS:∀ (V:World) (gR:Nat) (hV:Below w.heap.size w V) (hR:Blk V gR 44 #[.int .i64 s]) (gE:Nat) (hE:Blk V gE 3 #[.int .i64 a]),Calls Tryz.prog 30 #[.int .i64 x0,.slice x1 x2 x3,.slice (some ⟨gR,0,none⟩) 1 1,.slice (some ⟨gE,0,none⟩) 1 1] V fun e w'=>e = .returned (.agg #[.int .i64 x0,.slice x1 x2 x3,.slice (some ⟨gR,0,none⟩) 1 1,.slice (some ⟨gE,0,none⟩) 1 1])∧Below V.heap.size V w') (HTO:∀ (V:World) (gR:Nat) (hV:Below w.heap.size w V) (hR:Blk V gR 44 #[.int .i64 s]) (gE:Nat) (hE:Blk V gE 3 #[.int .i64 a]),Calls Tryz.prog 32 #[.agg #[.int .i64 x0,.slice x1 x2 x3,.slice (some ⟨gR,0,none⟩) 1 1,.slice (some ⟨gE,0,none⟩) 1 1]] V fun e w'=>∃ gc A m c,e = .returned (.slice (some ⟨gc,0,none⟩) 1 1)∧w'.cell? ⟨gc,0,none⟩=some (.slice A m c)∧Many w'.heap.size w' (.slice A m c) ANS∧Below V.heap.size V w') :
 Calls Tryz.prog 18 #[.int .i64 x0,.slice x1 x2 x3,.int .i64 a,.int .i64 s] w fun e w'=>∃ u,e = .returned (.tuple #[u,.int .i64 0])∧Many w'.heap.size w' u ANS∧Below w.heap.size w w':=by
 obtain ⟨W2,hW2⟩:∃ x,(((w.alloc (.cells #[.int .i64 x0] 3)).alloc (.cells #[.slice x1 x2 x3] 22)).alloc (.cells #[.int .i64 a] 3)).alloc (.cells #[.int .i64 s] 44)=x:=⟨_,rfl⟩
 have b0:Blk W2 (w.heap.size) 3 #[.int .i64 x0]:=by rw [←hW2];exact (((Blk.new w _ _).alloc _).alloc _).alloc _
 have b1:Blk W2 (w.heap.size+1) 22 #[.slice x1 x2 x3]:=by rw [←hW2];exact ((Blk.second w _ _ _).alloc _).alloc _
 have b2:Blk W2 (w.heap.size+1+1) 3 #[.int .i64 a]:=by rw [←hW2];exact (Rg.Blk.at_ (Blk.new _ _ _) (by simp)).alloc _
 have b3:Blk W2 (w.heap.size+1+1+1) 44 #[.int .i64 s]:=by rw [←hW2];exact Rg.Blk.at_ (Blk.new _ _ _) (by simp)
 have hBW:Below w.heap.size w W2:=by rw [←hW2];exact (((below_two w _ _)).alloc (by simp;omega) _).alloc (by simp;omega) _
 have HA:=Lib.hid (ans_C_yes 42 #[.pointer (some ⟨w.heap.size,0,none⟩),.pointer (some ⟨w.heap.size+1,0,none⟩),.pointer (some ⟨w.heap.size+3,0,none⟩),.pointer (some ⟨w.heap.size+2,0,none⟩)] W2 (fun u W=>(∃ x y z,u = .slice x y z)∧Many W.heap.size W u ANS) (fun W=>enters_of Tryz.func42 (by kernel_rfl) rfl _ W) (fun U hU bU=>one1_yes x0 x1 x2 x3 a s (w.heap.size) (w.heap.size+1) (w.heap.size+3) (w.heap.size+2) U (fun u W=>(∃ x y z,u = .slice x y z)∧Many W.heap.size W u ANS) (b0.below hU b0.lt) (b1.below hU b1.lt) (b3.below hU b3.lt) (b2.below hU b2.lt) (fun V gR hV hR gE hE=>HAS V gR (below_in (below_in hBW hU) hV) hR gE hE) (fun V gR hV hR gE hE=>(HTO V gR (below_in (below_in hBW hU) hV) hR gE hE).mono fun e w' ⟨gc,A,m,c,he,h0,hC,hB⟩=>⟨gc,A,m,c,he,h0,⟨⟨_,_,_,rfl⟩,hC⟩,hB⟩)))
 have HBW:=Lib.hid hBW
 clear hBW b0 b1 b2 b3 HAS HTO
 go_enter Tryz.func18,Tryz.ntmps18
 have hmf:∀ (fn:Fn) (first cap:Array Value) (w:World),(Instr.makeFunc fn first cap).run Tryz.prog w = .ok (.func fn first cap) w:=fun _ _ _ _=>rfl
 go_wp2_with (go_at_call 41;(try rw [hW2]);refine HA.out.mono ?_;rintro e w1 ⟨u,W,rfl,⟨⟨uA,un,uc,rfl⟩,hu⟩,bE,rfl,hB1⟩)
 go_ret2
 exact ⟨_,rfl,(many_num hu bE).more (by simp),below_in HBW.out hB1⟩
theorem one_no (y:Int) (x0:Int) (x1:Option Addr) (x2 x3:Nat) (a s:Int) (w:World) (HAS:∀ (V:World) (gR:Nat) (hV:Below w.heap.size w V) (hR:Blk V gR 44 #[.int .i64 s]) (gE:Nat) (hE:Blk V gE 3 #[.int .i64 a]),Calls Tryz.prog 30 #[.int .i64 x0,.slice x1 x2 x3,.slice (some ⟨gR,0,none⟩) 1 1,.slice (some ⟨gE,0,none⟩) 1 1] V fun e w'=>e = .panicked (gave y)∧Below V.heap.size V w') :
 Calls Tryz.prog 18 #[.int .i64 x0,.slice x1 x2 x3,.int .i64 a,.int .i64 s] w fun e w'=>e = .returned (.tuple #[.slice none 0 0,.int .i64 y])∧Below w.heap.size w w':=by
 obtain ⟨W2,hW2⟩:∃ x,(((w.alloc (.cells #[.int .i64 x0] 3)).alloc (.cells #[.slice x1 x2 x3] 22)).alloc (.cells #[.int .i64 a] 3)).alloc (.cells #[.int .i64 s] 44)=x:=⟨_,rfl⟩
 have b0:Blk W2 (w.heap.size) 3 #[.int .i64 x0]:=by rw [←hW2];exact (((Blk.new w _ _).alloc _).alloc _).alloc _
 have b1:Blk W2 (w.heap.size+1) 22 #[.slice x1 x2 x3]:=by rw [←hW2];exact ((Blk.second w _ _ _).alloc _).alloc _
 have b2:Blk W2 (w.heap.size+1+1) 3 #[.int .i64 a]:=by rw [←hW2];exact (Rg.Blk.at_ (Blk.new _ _ _) (by simp)).alloc _
 have b3:Blk W2 (w.heap.size+1+1+1) 44 #[.int .i64 s]:=by rw [←hW2];exact Rg.Blk.at_ (Blk.new _ _ _) (by simp)
 have hBW:Below w.heap.size w W2:=by rw [←hW2];exact (((below_two w _ _)).alloc (by simp;omega) _).alloc (by simp;omega) _
 have HA:=Lib.hid (ans_C_no y 42 #[.pointer (some ⟨w.heap.size,0,none⟩),.pointer (some ⟨w.heap.size+1,0,none⟩),.pointer (some ⟨w.heap.size+3,0,none⟩),.pointer (some ⟨w.heap.size+2,0,none⟩)] W2 (fun W=>enters_of Tryz.func42 (by kernel_rfl) rfl _ W) (fun U hU hlU=>one1_no y x0 x1 x2 x3 a s (w.heap.size) (w.heap.size+1) (w.heap.size+3) (w.heap.size+2) U (b0.below hU b0.lt) (b1.below hU b1.lt) (b3.below hU b3.lt) (b2.below hU b2.lt) (fun V gR hV hR gE hE=>HAS V gR (below_in (below_in hBW hU) hV) hR gE hE)))
 have HBW:=Lib.hid hBW
 clear hBW b0 b1 b2 b3 HAS
 go_enter Tryz.func18,Tryz.ntmps18
 have hmf:∀ (fn:Fn) (first cap:Array Value) (w:World),(Instr.makeFunc fn first cap).run Tryz.prog w = .ok (.func fn first cap) w:=fun _ _ _ _=>rfl
 go_wp2_with (go_at_call 41;(try rw [hW2]);refine HA.out.mono ?_;rintro e w1 ⟨rfl,hB1⟩)
 go_ret2
 exact ⟨rfl,below_in HBW.out hB1⟩
theorem share_yes (x0:Int) (x1:Option Addr) (x2 x3:Nat) (z1:Option Addr) (z2 z3:Nat) (s:Int) (w:World) (ANS:List (List UInt8)) (HAS:∀ (V:World) (gR:Nat) (hV:Below w.heap.size w V) (hR:Blk V gR 44 #[.int .i64 s]) ,Calls Tryz.prog 30 #[.int .i64 x0,.slice x1 x2 x3,.slice (some ⟨gR,0,none⟩) 1 1,.slice z1 z2 z3] V fun e w'=>e = .returned (.agg #[.int .i64 x0,.slice x1 x2 x3,.slice (some ⟨gR,0,none⟩) 1 1,.slice z1 z2 z3])∧Below V.heap.size V w') (HTO:∀ (V:World) (gR:Nat) (hV:Below w.heap.size w V) (hR:Blk V gR 44 #[.int .i64 s]) ,Calls Tryz.prog 51 #[.agg #[.int .i64 x0,.slice x1 x2 x3,.slice (some ⟨gR,0,none⟩) 1 1,.slice z1 z2 z3],.int .i64 s] V fun e w'=>∃ A m c vf,e = .returned (.agg #[.slice A m c,vf])∧Many w'.heap.size w' (.slice A m c) ANS∧Below V.heap.size V w') :
 Calls Tryz.prog 25 #[.int .i64 x0,.slice x1 x2 x3,.int .i64 s,.slice z1 z2 z3] w fun e w'=>∃ u,e = .returned (.tuple #[u,.int .i64 0])∧Many w'.heap.size w' u ANS∧Below w.heap.size w w':=by
 obtain ⟨W2,hW2⟩:∃ x,(((w.alloc (.cells #[.int .i64 x0] 3)).alloc (.cells #[.slice x1 x2 x3] 22)).alloc (.cells #[.int .i64 s] 44)).alloc (.cells #[.slice z1 z2 z3] 30)=x:=⟨_,rfl⟩
 have b0:Blk W2 (w.heap.size) 3 #[.int .i64 x0]:=by rw [←hW2];exact (((Blk.new w _ _).alloc _).alloc _).alloc _
 have b1:Blk W2 (w.heap.size+1) 22 #[.slice x1 x2 x3]:=by rw [←hW2];exact ((Blk.second w _ _ _).alloc _).alloc _
 have b2:Blk W2 (w.heap.size+1+1) 44 #[.int .i64 s]:=by rw [←hW2];exact (Rg.Blk.at_ (Blk.new _ _ _) (by simp)).alloc _
 have b3:Blk W2 (w.heap.size+1+1+1) 30 #[.slice z1 z2 z3]:=by rw [←hW2];exact Rg.Blk.at_ (Blk.new _ _ _) (by simp)
 have hBW:Below w.heap.size w W2:=by rw [←hW2];exact (((below_two w _ _)).alloc (by simp;omega) _).alloc (by simp;omega) _
 have HA:=Lib.hid (ans_C_yes 50 #[.pointer (some ⟨w.heap.size,0,none⟩),.pointer (some ⟨w.heap.size+1,0,none⟩),.pointer (some ⟨w.heap.size+2,0,none⟩),.pointer (some ⟨w.heap.size+3,0,none⟩)] W2 (fun u W=>(∃ x y z,u = .slice x y z)∧Many W.heap.size W u ANS) (fun W=>enters_of Tryz.func50 (by kernel_rfl) rfl _ W) (fun U hU bU=>share1_yes x0 x1 x2 x3 z1 z2 z3 s (w.heap.size) (w.heap.size+1) (w.heap.size+2) (w.heap.size+3) U (fun u W=>(∃ x y z,u = .slice x y z)∧Many W.heap.size W u ANS) (b0.below hU b0.lt) (b1.below hU b1.lt) (b2.below hU b2.lt) (b3.below hU b3.lt) (fun V gR hV hR=>HAS V gR (below_in (below_in hBW hU) hV) hR) (fun V gR hV hR=>(HTO V gR (below_in (below_in hBW hU) hV) hR).mono fun e w' ⟨A,m,c,vf,he,hC,hB⟩=>⟨A,m,c,vf,he,⟨⟨_,_,_,rfl⟩,hC⟩,hB⟩)))
 have HBW:=Lib.hid hBW
 clear hBW b0 b1 b2 b3 HAS HTO
 go_enter Tryz.func25,Tryz.ntmps25
 have hmf:∀ (fn:Fn) (first cap:Array Value) (w:World),(Instr.makeFunc fn first cap).run Tryz.prog w = .ok (.func fn first cap) w:=fun _ _ _ _=>rfl
 go_wp2_with (go_at_call 41;(try rw [hW2]);refine HA.out.mono ?_;rintro e w1 ⟨u,W,rfl,⟨⟨uA,un,uc,rfl⟩,hu⟩,bE,rfl,hB1⟩)
 go_ret2
 exact ⟨_,rfl,(many_num hu bE).more (by simp),below_in HBW.out hB1⟩
end Go.Proofs.YtkllhjhkcipkoaaGreatDoor.Tr

namespace Go.Proofs.YtkllhjhkcipkoaaGreatDoor.Tr
open Go.RowKit Go.Shelf Go.Maps Go.Proofs.YtkllhjhkcipkoaaGreatDoor.C Go.Proofs.YtkllhjhkcipkoaaGreatDoor.E Go.Proofs.YtkllhjhkcipkoaaGreatDoor.T Go.Proofs.YtkllhjhkcipkoaaGreatDoor.Rg Go.Proofs.YtkllhjhkcipkoaaGreatDoor.Ch
attribute [local go_sem] Oper.semAt_some

theorem keptL_eq {P:Nat} (hp:(P:Int)∈prm) (L:List Int):keptL (P:Int) L=((List.range P).map fun c:Nat=>(c:Int)).filter fun x=>decide (x∉L):=by
 have hpb:=prm_bounds hp
 unfold keptL keptF
 rw [walkN_yes (fine_one.2 ⟨hp,by omega,by omega⟩)]
 congr 1
 unfold walkL
 rw [Int.toNat_natCast]
 refine List.map_congr_left fun c hc=>?_
 have hc':=List.mem_range.1 hc
 unfold walkAt
 rw [Int.emod_eq_of_lt (a:=1) (by omega) (by omega),Int.zero_add,Int.mul_one,Int.emod_eq_of_lt (by omega) (by omega)]
theorem xa_kept {P:Nat} (hp:(P:Int)∈prm) (L:List Int) (f:Int→UInt8):xa ((keptL (P:Int) L).map f)=xa ((List.range P).map fun c:Nat=>if (c:Int)∈L then 0 else f (c:Int)):=by
 rw [keptL_eq hp,xa_filter,List.map_map]
 congr 1
 refine List.map_congr_left fun c _=>?_
 show (if decide ((c:Int)∉L)=true then f (c:Int) else 0) = _
 by_cases h:(c:Int)∈L
 · rw [if_pos h,if_neg (by simp [h])]
 · rw [if_neg h,if_pos (by simp [h])]
section
variable {P Q n:Nat} {css:List (List (List UInt8))} {L rs:List Int}
theorem bt_sumC (d:Dims P Q n) {l:List (List (List UInt8))} (h0:0<l.length) (h:∀ c∈l,GoodC Q n c) (j:Nat) (r:Int):Bt P Q n (sumC Q l) j r=xa (l.map fun c=>Bt P Q n c j r):=bt_sum d.hQ h0 h j r
theorem bt_sh (d:Dims P Q n) {rcl:List (List UInt8)} {k:Int} (hr:GoodC Q n rcl) (hg:∀ c:Nat,c<P→(c:Int)∉L→GoodC Q n (css[c]?.getD [])) (j:Nat) (r:Int) :
 Bt P Q n (shT P Q n css rcl k L) j r=Bt P Q n rcl j r ^^^ xa ((List.range P).map fun c:Nat=>if (c:Int)∈L then 0 else tu (k * (c:Int)) (Bt P Q n (css[c]?.getD []) j) r):=by
 unfold shT
 rw [bt_sumC d (by rw [List.length_cons];exact Nat.succ_pos _) (shares_good (k:=k) d hr hg) j r,List.map_cons,xa_cons,List.map_map]
 congr 1
 refine Eq.trans ?_ (xa_kept d.hp L fun x=>tu (k * x) (Bt P Q n (css[x.toNat]?.getD []) j) r)
 congr 1
 refine List.map_congr_left fun x hx=>?_
 obtain ⟨h1,h2⟩:=kept_all d.hp hx
 exact bt_turn d.hQ (hg x.toNat (by omega) (by rwa [show ((x.toNat:Nat):Int)=x by omega])) _ j r
theorem right_goods (d:Dims P Q n) {l:List (List (List UInt8))} (h0:0<l.length) (h:∀ c∈l,GoodC Q n c):RightD (P:Int) l:=by
 have hpb:=prm_bounds d.hp
 have hQ:=d.hQ
 have g:=mem_get (d:=[]) h
 have e1:((P:Int) - 1).toNat=Q:=by omega
 have e2:(firstC l).length=n:=((g 0 h0).2 0 (by omega)).2
 refine (rightD_iff d.hp h0).2 fun j hj=>?_
 rw [e1,e2]
 exact g j hj
theorem there_yes (d:Dims P Q n) (h0:0<rs.length) (hg:∀ c:Nat,c<P→(c:Int)∉L→GoodC Q n (css[c]?.getD [])) (hr:∀ r∈rs,GoodC Q n (css[P+(r - 2).toNat]?.getD [])):RightD (P:Int) (thereL P css L rs):=by
 refine right_goods d (by unfold thereL;rw [List.length_append,List.length_map,List.length_map];omega) fun c hc=>?_
 unfold thereL at hc
 rcases List.mem_append.1 hc with h | h
 · obtain ⟨x,hx,rfl⟩:=List.mem_map.1 h
   obtain ⟨h1,h2⟩:=kept_all d.hp hx
   exact hg x.toNat (by omega) (by rwa [show ((x.toNat:Nat):Int)=x by omega])
 · obtain ⟨r,hr',rfl⟩:=List.mem_map.1 h
   exact hr r hr'
theorem there_small (d:Dims P Q n) (hg:∀ c:Nat,c<P→(c:Int)∉L→GoodC Q n (css[c]?.getD [])) (hr:∀ r∈rs,GoodC Q n (css[P+(r - 2).toNat]?.getD [])):∀ x∈thereL P css L rs,x.length≤1000:=by
 have hpb:=prm_bounds d.hp
 have hQ:=d.hQ
 intro c hc
 unfold thereL at hc
 rcases List.mem_append.1 hc with h | h
 · obtain ⟨x,hx,rfl⟩:=List.mem_map.1 h
   obtain ⟨h1,h2⟩:=kept_all d.hp hx
   rw [(hg x.toNat (by omega) (by rwa [show ((x.toNat:Nat):Int)=x by omega])).1];omega
 · obtain ⟨r,hr',rfl⟩:=List.mem_map.1 h
   rw [(hr r hr').1];omega
end
section
variable {rs L:List Int} {vA lA:Option Addr} {N vc gr rc ln lc gl:Nat} {p:Int} {w:World}
theorem asked_kn (hN:N≤1000) (hrs:rs.length≤1000) (hL:Laid w) (hg:gr<w.heap.size) (hrc:∀ j,j<rs.length→w.cell? ⟨gr,j,none⟩=some (.int .i64 (rs[j]?.getD 0))) (h:¬ KnownOk p N rs) :
 Calls Tryz.prog 30 #[.int .i64 p,.slice vA N vc,.slice (some ⟨gr,0,none⟩) rs.length rc,.slice lA ln lc] w fun e w'=>e = .panicked (gave 2)∧Below w.heap.size w w' :=
 asked0 2 (by omega) _ _ _ _ _ _ _ _ _ _ w fun V hV=>(known_any p vA N vc hN gr rc rs hrs lA ln lc V (hL.next hV) (Nat.lt_of_lt_of_le hg hV.size) (fun j hj=>(hV.cell (p:=⟨gr,j,none⟩) hg).trans (hrc j hj))).mono fun e w' ⟨y,he,_,h2,hB⟩=>by
  rw [h2 h] at he;exact ⟨he,hB⟩
theorem asked_ri (hN:N≤1000) (hrs:rs.length≤1000) (hls:L.length≤3) (hL:Laid w) (hg:gr<w.heap.size) (hrc:∀ j,j<rs.length→w.cell? ⟨gr,j,none⟩=some (.int .i64 (rs[j]?.getD 0))) (hgl:gl<w.heap.size) (hlc:∀ j,j<L.length→w.cell? ⟨gl,j,none⟩=some (.int .i64 (L[j]?.getD 0))) (h:KnownOk p N rs) (h2:¬ RiseOk p L) :
 Calls Tryz.prog 30 #[.int .i64 p,.slice vA N vc,.slice (some ⟨gr,0,none⟩) rs.length rc,.slice (some ⟨gl,0,none⟩) L.length lc] w fun e w'=>e = .panicked (gave 4)∧Below w.heap.size w w' :=
 asked1 4 (by omega) _ _ _ _ _ _ _ _ _ _ w (fun V hV=>(known_any p vA N vc hN gr rc rs hrs _ _ lc V (hL.next hV) (Nat.lt_of_lt_of_le hg hV.size) (fun j hj=>(hV.cell (p:=⟨gr,j,none⟩) hg).trans (hrc j hj))).mono fun e w' ⟨y,he,h1,_,hB⟩=>by
  rw [h1 h] at he;exact ⟨he,hB⟩) fun V hV=>(rising_any p vA N vc _ _ rc gl lc L hls V (Nat.lt_of_lt_of_le hgl hV.size) (fun j hj=>(hV.cell (p:=⟨gl,j,none⟩) hgl).trans (hlc j hj))).mono fun e w' ⟨y,he,_,h3,hB⟩=>by
  rw [h3 h2] at he;exact ⟨he,hB⟩
end
section
variable {rs L:List Int} {N vc gr rc lc gl P b1 off1:Nat} {w:World} {css:List (List (List UInt8))}
theorem asked_to (hN:N=P+3) (hp:(P:Int)∈prm) (hrs:rs.length≤3) (hls:L.length≤3) (hL:Laid w) (hg:gr<w.heap.size) (hrc:∀ j,j<rs.length→w.cell? ⟨gr,j,none⟩=some (.int .i64 (rs[j]?.getD 0))) (hgl:gl<w.heap.size) (hlc:∀ j,j<L.length→w.cell? ⟨gl,j,none⟩=some (.int .i64 (L[j]?.getD 0)))
 (hcl:css.length=N) (hsm:∀ x∈thereL P css L rs,x.length≤1000) (hb1:b1<w.heap.size) (hC:∀ j,j<N→∃ u,w.cell? ⟨b1,off1+j,none⟩=some u∧Many w.heap.size w u (css[j]?.getD [])) (h:KnownOk (P:Int) N rs) (h2:RiseOk (P:Int) L) :
 (RightD (P:Int) (thereL P css L rs)→Calls Tryz.prog 30 #[.int .i64 (P:Int),.slice (some ⟨b1,off1,none⟩) N vc,.slice (some ⟨gr,0,none⟩) rs.length rc,.slice (some ⟨gl,0,none⟩) L.length lc] w fun e w'=>e = .returned (.agg #[.int .i64 (P:Int),.slice (some ⟨b1,off1,none⟩) N vc,.slice (some ⟨gr,0,none⟩) rs.length rc,.slice (some ⟨gl,0,none⟩) L.length lc])∧Below w.heap.size w w') ∧
 (¬ RightD (P:Int) (thereL P css L rs)→Calls Tryz.prog 30 #[.int .i64 (P:Int),.slice (some ⟨b1,off1,none⟩) N vc,.slice (some ⟨gr,0,none⟩) rs.length rc,.slice (some ⟨gl,0,none⟩) L.length lc] w fun e w'=>e = .panicked (gave 2)∧Below w.heap.size w w'):=by
 have hpb:=prm_bounds hp
 have K:∀ V,Below w.heap.size w V→Calls Tryz.prog 56 #[.agg #[.int .i64 (P:Int),.slice (some ⟨b1,off1,none⟩) N vc,.slice (some ⟨gr,0,none⟩) rs.length rc,.slice (some ⟨gl,0,none⟩) L.length lc]] V fun e w'=>e = .returned (.int .i64 0)∧Below V.heap.size V w':=fun V hV=>(known_any (P:Int) _ N vc (by omega) gr rc rs (by omega) _ _ lc V (hL.next hV) (Nat.lt_of_lt_of_le hg hV.size) (fun j hj=>(hV.cell (p:=⟨gr,j,none⟩) hg).trans (hrc j hj))).mono fun e w' ⟨y,he,h1,_,hB⟩=>by
  rw [h1 h] at he;exact ⟨he,hB⟩
 have R:∀ V,Below w.heap.size w V→Calls Tryz.prog 57 #[.agg #[.int .i64 (P:Int),.slice (some ⟨b1,off1,none⟩) N vc,.slice (some ⟨gr,0,none⟩) rs.length rc,.slice (some ⟨gl,0,none⟩) L.length lc]] V fun e w'=>e = .returned (.int .i64 0)∧Below V.heap.size V w':=fun V hV=>(rising_any (P:Int) _ N vc _ _ rc gl lc L hls V (Nat.lt_of_lt_of_le hgl hV.size) (fun j hj=>(hV.cell (p:=⟨gl,j,none⟩) hgl).trans (hlc j hj))).mono fun e w' ⟨y,he,h1,_,hB⟩=>by
  rw [h1 h2] at he;exact ⟨he,hB⟩
 have Tt:=fun (V:World) (hV:Below w.heap.size w V)=>together_any P hp b1 off1 N vc hN gr rc rs hrs h.2.2 L gl 0 lc (by omega) css hcl hsm V (hL.next hV) (Nat.lt_of_lt_of_le hgl hV.size) (fun j hj=>by rw [Nat.zero_add];exact (hV.cell (p:=⟨gl,j,none⟩) hgl).trans (hlc j hj)) (Nat.lt_of_lt_of_le hg hV.size) (fun j hj=>(hV.cell (p:=⟨gr,j,none⟩) hg).trans (hrc j hj)) (Nat.lt_of_lt_of_le hb1 hV.size) (fun j hj=>by
  obtain ⟨u,e1,e2⟩:=hC j hj
  exact ⟨u,(hV.cell (p:=⟨b1,off1+j,none⟩) hb1).trans e1,(e2.below hV).more hV.size⟩)
 refine ⟨fun hr=>?_,fun hr=>?_⟩
 · exact asked3 _ _ _ _ _ _ _ _ _ _ w K R fun V hV=>(Tt V hV).mono fun e w' ⟨y,he,h1,_,hB⟩=>by rw [h1 hr] at he;exact ⟨he,hB⟩
 · exact asked2 2 (by omega) _ _ _ _ _ _ _ _ _ _ w K R fun V hV=>(Tt V hV).mono fun e w' ⟨y,he,_,h1,hB⟩=>by rw [h1 hr] at he;exact ⟨he,hB⟩
end
end Go.Proofs.YtkllhjhkcipkoaaGreatDoor.Tr

namespace Go.Proofs.YtkllhjhkcipkoaaGreatDoor.Tr
open Go.RowKit Go.Shelf Go.Maps Go.Proofs.YtkllhjhkcipkoaaGreatDoor.C Go.Proofs.YtkllhjhkcipkoaaGreatDoor.E Go.Proofs.YtkllhjhkcipkoaaGreatDoor.T Go.Proofs.YtkllhjhkcipkoaaGreatDoor.Rg Go.Proofs.YtkllhjhkcipkoaaGreatDoor.Ch
attribute [local go_sem] Oper.semAt_some

theorem cells1 {W:World} {g:Nat} {t:TypeId} {x:Int} (h:Blk W g t #[.int .i64 x]):∀ j,j < [x].length→W.cell? ⟨g,j,none⟩=some (.int .i64 (([x]:List Int)[j]?.getD 0)):=fun j hj=>by
 have hj2:j=0:=by have:j<1:=hj;omega
 subst hj2
 exact h.cell 0
theorem cells2 {W:World} {g:Nat} {t:TypeId} {x y:Int} (h:Blk W g t #[.int .i64 x,.int .i64 y]):∀ j,j < [x,y].length→W.cell? ⟨g,j,none⟩=some (.int .i64 (([x,y]:List Int)[j]?.getD 0)):=fun j hj=>by
 have hj2:j=0∨j=1:=by have:j<2:=hj;omega
 rcases hj2 with rfl | rfl
 · exact h.cell 0
 · exact h.cell 1
theorem cells3 {W:World} {g:Nat} {t:TypeId} {x y z:Int} (h:Blk W g t #[.int .i64 x,.int .i64 y,.int .i64 z]):∀ j,j < [x,y,z].length→W.cell? ⟨g,j,none⟩=some (.int .i64 (([x,y,z]:List Int)[j]?.getD 0)):=fun j hj=>by
 have hj2:j=0∨j=1∨j=2:=by have:j<3:=hj;omega
 rcases hj2 with rfl | rfl | rfl
 · exact h.cell 0
 · exact h.cell 1
 · exact h.cell 2
theorem rise3 {p a b c:Int} (ha:0≤a) (hab:a<b) (hbc:b<c) (hc:c<p):RiseOk p [a,b,c]:=fun i hi=>by
 have hi2:i=0∨i=1∨i=2:=by have:i<3:=hi;omega
 rcases hi2 with rfl | rfl | rfl
 · exact ⟨show (-1:Int)<a by omega,show a<p by omega⟩
 · exact ⟨show a<b from hab,show b<p by omega⟩
 · exact ⟨show b<c from hbc,show c<p by omega⟩
theorem rise2 {p a b:Int} (ha:0≤a) (hab:a<b) (hb:b<p):RiseOk p [a,b]:=fun i hi=>by
 have hi2:i=0∨i=1:=by have:i<2:=hi;omega
 rcases hi2 with rfl | rfl
 · exact ⟨show (-1:Int)<a by omega,show a<p by omega⟩
 · exact ⟨show a<b from hab,show b<p by omega⟩
theorem rise1 {p a:Int} (ha:0≤a) (hb:a<p):RiseOk p [a]:=fun i hi=>by
 have hi2:i=0:=by have:i<1:=hi;omega
 subst hi2
 exact ⟨show (-1:Int)<a by omega,hb⟩
def kOf (r:Int):Int:=if r=2 then 0 else if r=3 then 1 else -1
theorem role_k {r:Int} (h:IsRole r):RoleK r (kOf r):=by
 have h3:r=2∨r=3∨r=4:=by obtain ⟨h1,h2⟩:=h;omega
 rcases h3 with rfl | rfl | rfl
 · exact .inl ⟨rfl,rfl⟩
 · exact .inr (.inl ⟨rfl,rfl⟩)
 · exact .inr (.inr ⟨rfl,rfl⟩)
theorem but_role {s:Int} (hs:IsRole s):∀ r∈butL s,IsRole r:=by
 have h3:s=2∨s=3∨s=4:=by obtain ⟨h1,h2⟩:=hs;omega
 rcases h3 with rfl | rfl | rfl <;> · intro r hr;simp [butL] at hr;rcases hr with rfl | rfl <;> exact ⟨by omega,by omega⟩
theorem but_two {s:Int} (hs:IsRole s):∃ x y,butL s = [x,y]:=by
 have h3:s=2∨s=3∨s=4:=by obtain ⟨h1,h2⟩:=hs;omega
 rcases h3 with rfl | rfl | rfl
 · exact ⟨_,_,rfl⟩
 · exact ⟨_,_,rfl⟩
 · exact ⟨_,_,rfl⟩
theorem but_ne {P:Nat} (hp:(P:Int)∈prm) {s a b:Int} (hs:IsRole s) (ha:0≤a) (hab:a<b) (hb:b<(P:Int)):(kOf ((butL s)[1]?.getD 0) * (b - a) - kOf ((butL s)[0]?.getD 0) * (b - a)) % (P:Int)≠0:=by
 have h3:s=2∨s=3∨s=4:=by obtain ⟨h1,h2⟩:=hs;omega
 have hpb:=prm_bounds hp
 have hodd:(P:Int) % 2=1:=by
  have h:=hp
  simp [prm] at h
  omega
 rcases h3 with rfl | rfl | rfl
 · show (-1 * (b - a) - 1 * (b - a)) % (P:Int)≠0
   intro h
   obtain ⟨q,hq⟩:=Int.dvd_of_emod_eq_zero h
   have hq2:q=0∨q = -1∨q≤-2∨1≤q:=by omega
   rcases hq2 with rfl | rfl | h2 | h2
   · omega
   · omega
   · have:=Int.mul_le_mul_of_nonneg_left h2 (show (0:Int)≤(P:Int) by omega)
     omega
   · have:=Int.mul_le_mul_of_nonneg_left h2 (show (0:Int)≤(P:Int) by omega)
     omega
 · show (-1 * (b - a) - 0 * (b - a)) % (P:Int)≠0
   intro h
   obtain ⟨q,hq⟩:=Int.dvd_of_emod_eq_zero h
   have hq2:q=0∨q≤-1∨1≤q:=by omega
   rcases hq2 with rfl | h2 | h2
   · omega
   · have:=Int.mul_le_mul_of_nonneg_left h2 (show (0:Int)≤(P:Int) by omega)
     omega
   · have:=Int.mul_le_mul_of_nonneg_left h2 (show (0:Int)≤(P:Int) by omega)
     omega
 · show (1 * (b - a) - 0 * (b - a)) % (P:Int)≠0
   rw [Int.emod_eq_of_lt (by omega) (by omega)]
   omega
theorem Three_yes {B P Q n:Nat} (d:Dims P Q n) (a b c:Int) (ha:0≤a) (hab:a<b) (hbc:b<c) (hc:c<(P:Int)) (css:List (List (List UInt8))) (hcl:css.length=P+3) (hg:∀ i:Nat,i<P→(i:Int)∉[a,b,c]→GoodC Q n (css[i]?.getD [])) (hr:∀ r∈([2,3,4]:List Int),GoodC Q n (css[P+(r - 2).toNat]?.getD [])) (v:Value) (w:World) (hL:Laid w) (hB:B≤w.heap.size) (hC:Cols B w v css) :
 Calls Tryz.prog 10 #[.int .i64 (P:Int),v,.int .i64 a,.int .i64 b,.int .i64 c] w fun e w'=>∃ u,e = .returned (.tuple #[u,.int .i64 0])∧Cols w'.heap.size w' u [aT3 P Q n (shT P Q n css (css[P+((2:Int) - 2).toNat]?.getD []) (0) [a,b,c]) (shT P Q n css (css[P+((3:Int) - 2).toNat]?.getD []) (1) [a,b,c]) (shT P Q n css (css[P+((4:Int) - 2).toNat]?.getD []) (-1) [a,b,c]) a b c,bT3 P Q n (shT P Q n css (css[P+((2:Int) - 2).toNat]?.getD []) (0) [a,b,c]) (shT P Q n css (css[P+((3:Int) - 2).toNat]?.getD []) (1) [a,b,c]) (shT P Q n css (css[P+((4:Int) - 2).toNat]?.getD []) (-1) [a,b,c]) a b c,cT3 P Q n (shT P Q n css (css[P+((2:Int) - 2).toNat]?.getD []) (0) [a,b,c]) (shT P Q n css (css[P+((3:Int) - 2).toNat]?.getD []) (1) [a,b,c]) (shT P Q n css (css[P+((4:Int) - 2).toNat]?.getD []) (-1) [a,b,c]) a b c]∧Below w.heap.size w w':=by
 obtain ⟨b1,off1,vc,rfl,_,hb1,hcell⟩:=hC.at_ (by omega)
 have hc':∀ V,Below w.heap.size w V→b1<V.heap.size∧∀ j,j<css.length→∃ u,V.cell? ⟨b1,off1+j,none⟩=some u∧Many V.heap.size V u (css[j]?.getD []):=fun V hV=>⟨by have:=hV.size;omega,fun j hj=>by
  obtain ⟨u,e1,e2⟩:=hcell j hj
  exact ⟨u,(hV.cell (p:=⟨b1,off1+j,none⟩) (by show b1<w.heap.size;omega)).trans e1,(e2.below (hV.mono hB)).more (Nat.le_trans hB hV.size)⟩⟩
 refine three_yes _ _ _ _ a b c w _ (fun V gR hV hR gE hE=>?_) (fun V gR hV hR gE hE=>?_)
 · exact (asked_to (rs:=[2,3,4]) (L:=[a,b,c]) hcl d.hp (by simp) (by simp) (hL.next hV) hR.lt (cells3 hR) hE.lt (cells3 hE) rfl (there_small d hg hr) (hc' V hV).1 (hc' V hV).2 ⟨d.hp,by omega,by intro r hr;simp at hr;rcases hr with rfl | rfl | rfl <;> exact ⟨by omega,by omega⟩⟩ (rise3 ha hab hbc hc)).1 (there_yes d (by simp) hg hr)
 · refine (ltold_any d 3 (by omega) (by omega) b1 off1 css.length vc hcl gR 3 [2,3,4] [0,1,-1] rfl rfl (fun j hj=>?_) [a,b,c] rfl gE 3 css rfl (fun j hj=>?_) hg V (hL.next hV) hE.lt (cells3 hE) hR.lt (cells3 hR) (hc' V hV).1 (hc' V hV).2 _ (fun V' gs mc hV' hmc hgs hco=>?_)).mono fun e w' ⟨gc,he,h1,h2⟩=>⟨gc,3,3,he,h1,h2⟩
   · have hj2:j=0∨j=1∨j=2:=by omega
     rcases hj2 with rfl | rfl | rfl
     · exact .inl ⟨rfl,rfl⟩
     · exact .inr (.inl ⟨rfl,rfl⟩)
     · exact .inr (.inr ⟨rfl,rfl⟩)
   · have hj2:j=0∨j=1∨j=2:=by omega
     rcases hj2 with rfl | rfl | rfl
     · exact hr 2 (by simp)
     · exact hr 3 (by simp)
     · exact hr 4 (by simp)
   · obtain ⟨A0,c0,e0,f0,m0⟩:=hco 0 (by omega)
     obtain ⟨A1,c1,e1,f1,m1⟩:=hco 1 (by omega)
     obtain ⟨A2,c2,e2,f2,m2⟩:=hco 2 (by omega)
     have bE:=hE.below hV' hE.lt
     exact told3_any d a b c ha hab hbc hc gE gs mc hmc A0 c0 _ (sh_good d (hr 2 (by simp)) hg) A1 c1 _ (sh_good d (hr 3 (by simp)) hg) A2 c2 _ (sh_good d (hr 4 (by simp)) hg) V' ((hL.next hV).next hV') bE.lt hgs (bE.cell 0) (bE.cell 1) (bE.cell 2) e0 f0 m0 e1 f1 m1 e2 f2 m2
theorem Two_yes {B P Q n:Nat} (d:Dims P Q n) (a b s:Int) (hs:IsRole s) (ha:0≤a) (hab:a<b) (hb:b<(P:Int)) (css:List (List (List UInt8))) (hcl:css.length=P+3) (hg:∀ i:Nat,i<P→(i:Int)∉[a,b]→GoodC Q n (css[i]?.getD [])) (hr:∀ r∈(butL s:List Int),GoodC Q n (css[P+(r - 2).toNat]?.getD [])) (v:Value) (w:World) (hL:Laid w) (hB:B≤w.heap.size) (hC:Cols B w v css) :
 Calls Tryz.prog 16 #[.int .i64 (P:Int),v,.int .i64 a,.int .i64 b,.int .i64 s] w fun e w'=>∃ u,e = .returned (.tuple #[u,.int .i64 0])∧Cols w'.heap.size w' u [aT2 P Q n (shT P Q n css (css[P+(((butL s)[0]?.getD 0) - 2).toNat]?.getD []) (kOf ((butL s)[0]?.getD 0)) [a,b]) (shT P Q n css (css[P+(((butL s)[1]?.getD 0) - 2).toNat]?.getD []) (kOf ((butL s)[1]?.getD 0)) [a,b]) (kOf ((butL s)[0]?.getD 0)) (kOf ((butL s)[1]?.getD 0)) a b,secT P Q n (shT P Q n css (css[P+(((butL s)[0]?.getD 0) - 2).toNat]?.getD []) (kOf ((butL s)[0]?.getD 0)) [a,b]) (shT P Q n css (css[P+(((butL s)[1]?.getD 0) - 2).toNat]?.getD []) (kOf ((butL s)[1]?.getD 0)) [a,b]) (kOf ((butL s)[0]?.getD 0)) (kOf ((butL s)[1]?.getD 0)) a b]∧Below w.heap.size w w':=by
 obtain ⟨b1,off1,vc,rfl,_,hb1,hcell⟩:=hC.at_ (by omega)
 have hc':∀ V,Below w.heap.size w V→b1<V.heap.size∧∀ j,j<css.length→∃ u,V.cell? ⟨b1,off1+j,none⟩=some u∧Many V.heap.size V u (css[j]?.getD []):=fun V hV=>⟨by have:=hV.size;omega,fun j hj=>by
  obtain ⟨u,e1,e2⟩:=hcell j hj
  exact ⟨u,(hV.cell (p:=⟨b1,off1+j,none⟩) (by show b1<w.heap.size;omega)).trans e1,(e2.below (hV.mono hB)).more (Nat.le_trans hB hV.size)⟩⟩
 obtain ⟨y0,y1,hxy⟩:=but_two hs
 have hisr:=but_role hs
 have hne:=but_ne d.hp hs ha hab hb
 rw [hxy] at hr hisr hne ⊢
 refine two_yes _ _ _ _ a b s w _ hs (fun V gR hV hR hRl gE hE=>?_) (fun V gR hV hR hRl gE hE=>?_)
 · rw [hxy] at hR
   exact (asked_to (rs:=[y0,y1]) (L:=[a,b]) hcl d.hp (by simp) (by simp) (hL.next hV) hRl hR hE.lt (cells2 hE) rfl (there_small d hg hr) (hc' V hV).1 (hc' V hV).2 ⟨d.hp,by omega,hisr⟩ (rise2 ha hab hb)).1 (there_yes d (by simp) hg hr)
 · rw [hxy] at hR
   have k0:=role_k (hisr y0 (by simp))
   have k1:=role_k (hisr y1 (by simp))
   have kk:∀ {r k:Int},RoleK r k→k=0∨k=1∨k = -1:=fun h=>by rcases h with ⟨_,h⟩ | ⟨_,h⟩ | ⟨_,h⟩ <;> simp [h]
   refine (ltold_any d 2 (by omega) (by omega) b1 off1 css.length vc hcl gR 3 [y0,y1] [kOf y0,kOf y1] rfl rfl (fun j hj=>?_) [a,b] rfl gE 2 css rfl (fun j hj=>?_) hg V (hL.next hV) hE.lt (cells2 hE) hRl hR (hc' V hV).1 (hc' V hV).2 _ (fun V' gs mc hV' hmc hgs hco=>?_)).mono fun e w' ⟨gc,he,h1,h2⟩=>⟨gc,2,2,he,h1,h2⟩
   · have hj2:j=0∨j=1:=by omega
     rcases hj2 with rfl | rfl
     · exact k0
     · exact k1
   · have hj2:j=0∨j=1:=by omega
     rcases hj2 with rfl | rfl
     · exact hr y0 (by simp)
     · exact hr y1 (by simp)
   · obtain ⟨A0,c0,e0,f0,m0⟩:=hco 0 (by omega)
     obtain ⟨A1,c1,e1,f1,m1⟩:=hco 1 (by omega)
     have bE:=hE.below hV' hE.lt
     exact told2_any d (kOf y0) (kk k0) (kOf y1) (kk k1) a b ha hab hb hne gE gs mc hmc A0 c0 _ (sh_good d (hr y0 (by simp)) hg) A1 c1 _ (sh_good d (hr y1 (by simp)) hg) V' ((hL.next hV).next hV') bE.lt hgs (bE.cell 0) (bE.cell 1) e0 f0 m0 e1 f1 m1
theorem One_yes {B P Q n:Nat} (d:Dims P Q n) (a s:Int) (hs:IsRole s) (ha:0≤a) (hb:a<(P:Int)) (css:List (List (List UInt8))) (hcl:css.length=P+3) (hg:∀ i:Nat,i<P→(i:Int)∉[a]→GoodC Q n (css[i]?.getD [])) (hr:∀ r∈([s]:List Int),GoodC Q n (css[P+(r - 2).toNat]?.getD [])) (v:Value) (w:World) (hL:Laid w) (hB:B≤w.heap.size) (hC:Cols B w v css) :
 Calls Tryz.prog 18 #[.int .i64 (P:Int),v,.int .i64 a,.int .i64 s] w fun e w'=>∃ u,e = .returned (.tuple #[u,.int .i64 0])∧Many w'.heap.size w' u (turnC P Q n (shT P Q n css (css[P+(s - 2).toNat]?.getD []) (kOf s) [a]) (-(kOf s * a)))∧Below w.heap.size w w':=by
 obtain ⟨b1,off1,vc,rfl,_,hb1,hcell⟩:=hC.at_ (by omega)
 have hc':∀ V,Below w.heap.size w V→b1<V.heap.size∧∀ j,j<css.length→∃ u,V.cell? ⟨b1,off1+j,none⟩=some u∧Many V.heap.size V u (css[j]?.getD []):=fun V hV=>⟨by have:=hV.size;omega,fun j hj=>by
  obtain ⟨u,e1,e2⟩:=hcell j hj
  exact ⟨u,(hV.cell (p:=⟨b1,off1+j,none⟩) (by show b1<w.heap.size;omega)).trans e1,(e2.below (hV.mono hB)).more (Nat.le_trans hB hV.size)⟩⟩
 have k0:=role_k hs
 have kk:∀ {r k:Int},RoleK r k→k=0∨k=1∨k = -1:=fun h=>by rcases h with ⟨_,h⟩ | ⟨_,h⟩ | ⟨_,h⟩ <;> simp [h]
 refine one_yes _ _ _ _ a s w _ (fun V gR hV hR gE hE=>?_) (fun V gR hV hR gE hE=>?_)
 · exact (asked_to (rs:=[s]) (L:=[a]) hcl d.hp (by simp) (by simp) (hL.next hV) hR.lt (cells1 hR) hE.lt (cells1 hE) rfl (there_small d hg hr) (hc' V hV).1 (hc' V hV).2 ⟨d.hp,by omega,by intro r hr;simp at hr;subst hr;exact hs⟩ (rise1 ha hb)).1 (there_yes d (by simp) hg hr)
 · refine (ltold_any d 1 (by omega) (by omega) b1 off1 css.length vc hcl gR 1 [s] [kOf s] rfl rfl (fun j hj=>?_) [a] rfl gE 1 css rfl (fun j hj=>?_) hg V (hL.next hV) hE.lt (cells1 hE) hR.lt (cells1 hR) (hc' V hV).1 (hc' V hV).2 [turnC P Q n (shT P Q n css (css[P+(s - 2).toNat]?.getD []) (kOf s) [a]) (-(kOf s * a))] (fun V' gs mc hV' hmc hgs hco=>?_)).mono fun e w' ⟨gc,he,h1,h2⟩=>?_
   · have hj2:j=0:=by omega
     subst hj2
     exact k0
   · have hj2:j=0:=by omega
     subst hj2
     exact hr s (by simp)
   · obtain ⟨A0,c0,e0,f0,m0⟩:=hco 0 (by omega)
     have bE:=hE.below hV' hE.lt
     exact told1_any d (kOf s) (kk k0) a ha hb gE gs mc hmc A0 c0 _ (sh_good d (hr s (by simp)) hg) V' ((hL.next hV).next hV') bE.lt hgs (bE.cell 0) e0 f0 m0
   · obtain ⟨b2,off2,c2,hve,_,hb2,hce⟩:=h1.at_ (by simp)
     injection hve with e1 _ _
     injection e1 with e1
     injection e1 with e1 e2
     subst e1 e2
     obtain ⟨u,hu,hm⟩:=hce 0 (by simp)
     obtain ⟨A,k,rfl,_,_⟩:=id hm
     exact ⟨gc,A,_,k,he,hu,hm,h2⟩
theorem Share_one {B P Q n:Nat} (d:Dims P Q n) (a s:Int) (hs:IsRole s) (ha:0≤a) (hb:a<(P:Int)) (css:List (List (List UInt8))) (hcl:css.length=P+3) (hg:∀ i:Nat,i<P→(i:Int)∉[a]→GoodC Q n (css[i]?.getD [])) (hr:∀ r∈([s]:List Int),GoodC Q n (css[P+(r - 2).toNat]?.getD [])) (gl lc:Nat) (v:Value) (w:World) (hL:Laid w) (hB:B≤w.heap.size) (hC:Cols B w v css) (hgl:Blk w gl 3 #[.int .i64 a]) :
 Calls Tryz.prog 25 #[.int .i64 (P:Int),v,.int .i64 s,.slice (some ⟨gl,0,none⟩) 1 lc] w fun e w'=>∃ u,e = .returned (.tuple #[u,.int .i64 0])∧Many w'.heap.size w' u (shT P Q n css (css[P+(s - 2).toNat]?.getD []) (kOf s) [a])∧Below w.heap.size w w':=by
 obtain ⟨b1,off1,vc,rfl,_,hb1,hcell⟩:=hC.at_ (by omega)
 have hc':∀ V,Below w.heap.size w V→b1<V.heap.size∧∀ j,j<css.length→∃ u,V.cell? ⟨b1,off1+j,none⟩=some u∧Many V.heap.size V u (css[j]?.getD []):=fun V hV=>⟨by have:=hV.size;omega,fun j hj=>by
  obtain ⟨u,e1,e2⟩:=hcell j hj
  exact ⟨u,(hV.cell (p:=⟨b1,off1+j,none⟩) (by show b1<w.heap.size;omega)).trans e1,(e2.below (hV.mono hB)).more (Nat.le_trans hB hV.size)⟩⟩
 have hE:∀ V,Below w.heap.size w V→Blk V gl 3 #[.int .i64 a]:=fun V hV=>hgl.below hV hgl.lt
 refine share_yes _ _ _ _ _ _ _ s w _ (fun V gR hV hR=>?_) (fun V gR hV hR=>?_)
 · exact (asked_to (rs:=[s]) (L:=[a]) hcl d.hp (by simp) (by simp) (hL.next hV) hR.lt (cells1 hR) (hE V hV).lt (cells1 (hE V hV)) rfl (there_small d hg hr) (hc' V hV).1 (hc' V hV).2 ⟨d.hp,by omega,by intro r hr;simp at hr;subst hr;exact hs⟩ (rise1 ha hb)).1 (there_yes d (by simp) hg hr)
 · refine (share_any d s (kOf s) (role_k hs) b1 off1 css.length vc hcl _ _ _ [a] gl 0 lc (by simp) css rfl (hr s (by simp)) hg V (hL.next hV) (hE V hV).lt (fun j hj=>by rw [Nat.zero_add];exact cells1 (hE V hV) j hj) (hc' V hV).1 (hc' V hV).2).mono fun e w' ⟨A,c,he,hf,hB2⟩=>⟨A,Q,c,byK (kOf s),he,?_,hB2⟩
   refine many_of_fresh (P:=fun b=>b<w'.heap.size) hf (fun j hj=>?_) (fun b _ h=>h)
   have hgd:=sh_good (k:=kOf s) d (hr s (by simp)) hg
   have:=(hgd.2 j (by rw [←hgd.1];exact hj)).1
   exact this.1
end Go.Proofs.YtkllhjhkcipkoaaGreatDoor.Tr

namespace Go.Proofs.YtkllhjhkcipkoaaGreatDoor.E
open Go.RowKit Go.Shelf Go.Proofs.YtkllhjhkcipkoaaGreatDoor.C

theorem RowG.own_lt {α:Type} {r:Rep α} {t:TypeId} {d:α} {Q:Nat→Prop} {W:World} {base:Nat} {v:Value} {xs:List α} (h:RowG r t d Q W base v xs) (k:Nat) (e:v.ownBlock=some k):k<W.heap.size:=by
 obtain ⟨us,ho,_⟩:=h
 exact (World.ownsRow.lt ho k e).2
theorem map_next {α β:Type} (g:α→β) (d:α) (xs:List α) {k:Nat} (hk:k<xs.length):(xs.map g).take (k+1)=(xs.map g).take k ++ [g (xs[k]?.getD d)]:=by
 rw [List.take_succ_eq_append_getElem (by rw [List.length_map];exact hk),List.getElem_map,List.getElem?_eq_getElem hk]
 rfl
theorem diagAt_in {p a:Int} (hp:0<p) {x:Nat×Nat} {n:Nat} (hx:x∈diagAt p a n):x.1<n∧(x.2:Int)<p - 1:=by
 unfold diagAt at hx
 obtain ⟨i,hi,rfl⟩:=List.mem_map.1 hx
 obtain ⟨hi1,hi2⟩:=List.mem_filter.1 hi
 have h1:=of_decide_eq_true hi2
 have h2:0≤(a - (i:Int)) % p:=Int.emod_nonneg _ (by omega)
 exact ⟨List.mem_range.1 hi1,by show (((a - (i:Int)) % p).toNat:Int)<p - 1;omega⟩
end Go.Proofs.YtkllhjhkcipkoaaGreatDoor.E

namespace Go.Proofs.YtkllhjhkcipkoaaGreatDoor.E
open Go.RowKit Go.Shelf Go.Proofs.YtkllhjhkcipkoaaGreatDoor.C

def putCol (xs ys:List (List UInt8)):List (List UInt8):=(List.range xs.length).map fun k=>xorB (xs[k]?.getD []) (ys[k]?.getD [])
def putOf (a b:List (List (List UInt8))):List (List (List UInt8)):=(List.range a.length).map fun i=>putCol (a[i]?.getD []) (b[i]?.getD [])
section
variable {Q:Nat→Prop} {base:Nat} {v:Value}
theorem opIn_pushM {F:Fence} {nF:Nat} {T:TypeId} (w:World) {o:Oper} {a:Act} {K:Act→World→Prop} {QQ:Exit→Act→World→Prop} (s x:Operand)
 (ho:o.op = .call { callee:=.builtin .append,args:=#[s,x],argTypes:=#[T,T] }) (hT:Tryz.prog.underlying T=some (.slice 60)) (ls:List (List UInt8)) (hs:a.eval s=v) (h:RowM Q w base v ls)
 (g:Nat) (tg:TypeId) (u:Value) (l:List UInt8) (hx:a.eval x = .slice (some ⟨g,0,none⟩) 1 1) (hg:Blk w g tg #[u]) (hu:BytesP (fun b=>b<w.heap.size∧some b≠v.ownBlock∧Q b) w u l) (hlen:ls.length≤100000) (hbase:base≤w.heap.size)
 (hK:∀ v' w',RowM Q w' base v' (ls ++ [l])→w.grownBy w' v.ownBlock→(v'.ownBlock=v.ownBlock∨v'.ownBlock=some w.heap.size)→K (a.put o.dst v') w'):Oper.wpIn F nF Tryz.prog o a w K QQ:=by
 obtain ⟨i,hi,hz0,hz1,hz2⟩:=info_parts Tryz.infoSlcE
 obtain ⟨v',w',hrun,h1,h2,h3⟩:=RowG.push i hi hz0 hz1 hz2 T o.type hT h g tg u l hg hu hlen hbase
 unfold Oper.wpIn
 refine ⟨by simp [Oper.about,ho,resolve,Target.leads,Sem.run_pure],?_⟩
 rw [Oper.semAt_plain F _ _ (by rw [ho];intro c hc';cases hc')]
 simp [execOp,ho,resolve,invoke,builtin,hs,hx,hrun,Result.andThen,Oper.uponIn]
 exact hK v' w' h1 h2 h3
end
end Go.Proofs.YtkllhjhkcipkoaaGreatDoor.E

namespace Go.Proofs.YtkllhjhkcipkoaaGreatDoor.E
open Go.RowKit Go.Shelf Go.Proofs.YtkllhjhkcipkoaaGreatDoor.C

def grid (R n:Nat):List (Nat×Nat):=(List.range R).flatMap fun r=>(List.range n).map fun c=>(c,r)
def slants (p:Int):List (Nat×Nat):=(List.range p.toNat).flatMap fun (a:Nat)=>diagAt p (a:Int) p.toNat
section
variable {p:Int} {a b css:List (List (List UInt8))}
theorem cell_put (c r:Nat) (hc:c<a.length) (hr:r<(a[c]?.getD []).length):cellOf_ (putOf a b) c r=xorB (cellOf_ a c r) (cellOf_ b c r):=by
 unfold cellOf_ putOf
 rw [List.getElem?_map,List.getElem?_range hc]
 show (putCol (a[c]?.getD []) (b[c]?.getD []))[r]?.getD [] = _
 unfold putCol
 rw [List.getElem?_map,List.getElem?_range hr]
 rfl
theorem putOf_len:(putOf a b).length=a.length:=by unfold putOf;rw [List.length_map,List.length_range]
theorem putOf_col {c:Nat} (hc:c<a.length):(putOf a b)[c]?.getD []=putCol (a[c]?.getD []) (b[c]?.getD []):=by
 unfold putOf
 rw [List.getElem?_map,List.getElem?_range hc]
 rfl
theorem putCol_len (xs ys:List (List UInt8)):(putCol xs ys).length=xs.length:=by unfold putCol;rw [List.length_map,List.length_range]
end
end Go.Proofs.YtkllhjhkcipkoaaGreatDoor.E

namespace Go.Proofs.YtkllhjhkcipkoaaGreatDoor
open Go.RowKit Go.Shelf

def spanL (a b:Int):List Int:=(List.range (b - a).toNat).map fun (i:Nat)=>a+(i:Int)
theorem spanL_len (a b:Int):(spanL a b).length=(b - a).toNat:=by unfold spanL;simp

end Go.Proofs.YtkllhjhkcipkoaaGreatDoor

namespace Go.Proofs.YtkllhjhkcipkoaaGreatDoor
open Go.RowKit Go.Shelf

instance (k p x y:Int):Decidable (HasCell k p x y):=by unfold HasCell;infer_instance
def dgN2 (k p x y:Int):Int:=if HasCell k p x y then (x+y) % p else 0
def slN2 (k p x y:Int):Int:=if HasCell k p x y then (y - x) % p else 0
end Go.Proofs.YtkllhjhkcipkoaaGreatDoor
