/- -/
import Derived.Test.YtknkdbincaonbaaGreatDoorCCG23
set_option linter.unusedVariables false
set_option linter.unusedSimpArgs false
set_option maxRecDepth 100000
set_option maxHeartbeats 2000000
namespace Go.Proofs.YtknkdbincaonbaaGreatDoor.Cd
open Go.RowKit Go.Shelf Go.Maps Go.Proofs.YtknkdbincaonbaaGreatDoor.C Go.Proofs.YtknkdbincaonbaaGreatDoor.E Go.Proofs.YtknkdbincaonbaaGreatDoor.Q
attribute [local go_sem] Oper.semAt_some

theorem stripe_R {k p:Int} {n:Nat} {s:List (List (List UInt8))} (h:StripeK k p n s):0<(p - 1).toNat∧0<s.length:=by
 obtain ⟨p1,p2,hp,s1,s2,m1,m2⟩:=stripe_n h
 have:=h.2.1
 omega
theorem changed_no2 {B:Nat} (k p:Int) (v:Value) (s:List (List (List UInt8))) (x y:Int) (c:List UInt8) (vc:Value) (h:AllK k p s) (hno:c.length≠(firstC s).length) (w:World) (hL:Laid w) (hB:B≤w.heap.size) (hC:Cols B w v s) (hb:Bytes B w vc c) :
 Calls Tryz.prog 63 #[.agg #[.int .i64 k,.int .i64 p,v],.agg #[.int .i64 x,.int .i64 y],vc] w fun e w'=>e = .panicked (gave 2)∧Below w.heap.size w w':=by
 have hst:=all_stripe h
 have hln:=all_len h
 obtain ⟨hR1,hN0⟩:=stripe_R hst
 obtain ⟨A,cap,rfl,_,_⟩:=id hC
 obtain ⟨Ac,capc,rfl,_,_⟩:=id hb
 obtain ⟨W2,hW2⟩:∃ W2,(((w).alloc (.cells #[.int .i64 k,.int .i64 p,.slice A s.length cap] 76)).alloc (.cells #[.int .i64 x,.int .i64 y] 53)).alloc (.cells #[.slice none 0 0,.slice none 0 0] 98)=W2:=⟨_,rfl⟩
 have hBW:Below w.heap.size w W2:=by rw [←hW2];exact (below_two w _ _).alloc (by simp;omega) _
 have S2:Hid (W2.heap.size=w.heap.size+3):=by unfold Hid;rw [←hW2];simp
 have b0:Blk W2 (w.heap.size) 76 #[.int .i64 k,.int .i64 p,.slice A s.length cap]:=by rw [←hW2];exact ((Blk.new (w) 76 #[.int .i64 k,.int .i64 p,.slice A s.length cap]).alloc (.cells #[.int .i64 x,.int .i64 y] 53)).alloc (.cells #[.slice none 0 0,.slice none 0 0] 98)
 have b1:Blk W2 (w.heap.size+1) 53 #[.int .i64 x,.int .i64 y]:=by rw [←hW2];exact (Blk.at_size (Blk.new ((w).alloc (.cells #[.int .i64 k,.int .i64 p,.slice A s.length cap] 76)) 53 #[.int .i64 x,.int .i64 y]) (by simp)).alloc (.cells #[.slice none 0 0,.slice none 0 0] 98)
 have b2:Blk W2 (w.heap.size+2) 98 #[.slice none 0 0,.slice none 0 0]:=by rw [←hW2];exact Blk.at_size (Blk.new (((w).alloc (.cells #[.int .i64 k,.int .i64 p,.slice A s.length cap] 76)).alloc (.cells #[.int .i64 x,.int .i64 y] 53)) 98 #[.slice none 0 0,.slice none 0 0]) (by simp)
 have hL2:=hL.next hBW
 have HLEN:=Lib.hid (length_any (.slice A s.length cap) s W2 (hC.below (hBW.mono hB)) hN0 (by rw [(hst.2.2.1 0 hN0).1];exact hR1))
 have hnn:((c.length:Int) == ((firstC s).length:Int))=false:=beq_eq_false_iff_ne.2 (fun e=>hno (Int.ofNat.inj e))
 have c0:=b0.cell 0
 have c1:=b0.cell 1
 have c2:=b0.cell 2
 have c3:=b1.cell 0
 have c4:=b1.cell 1
 simp only [gz9] at c0 c1 c2 c3 c4
 clear hC hb hst hln hL hL2 hno
 generalize c.length=nc at *
 generalize (firstC s).length=n at *
 generalize s.length=N at *
 go_enter Tryz.func63,Tryz.ntmps63
 go_wp2_with (first
  | (go_at_call 87;refine HLEN.out.mono ?_;rintro e wz ⟨rfl,rfl⟩)
  | (go_at_call 72;refine (need_no _).mono ?_;rintro e wz ⟨rfl,rfl⟩))
 exact ⟨rfl,rfl,hBW⟩
theorem changed_no4 {B:Nat} (k p:Int) (v:Value) (s:List (List (List UInt8))) (x y:Int) (c:List UInt8) (vc:Value) (h:AllK k p s) (hc:c.length=(firstC s).length) (hno:¬ (HasCell k p x y∧x<p - shortN k)) (w:World) (hL:Laid w) (hB:B≤w.heap.size) (hC:Cols B w v s) (hb:Bytes B w vc c) :
 Calls Tryz.prog 63 #[.agg #[.int .i64 k,.int .i64 p,v],.agg #[.int .i64 x,.int .i64 y],vc] w fun e w'=>e = .panicked (gave 4)∧Below w.heap.size w w':=by
 have hst:=all_stripe h
 have hln:=all_len h
 obtain ⟨hR1,hN0⟩:=stripe_R hst
 obtain ⟨A,cap,rfl,_,_⟩:=id hC
 obtain ⟨Ac,capc,rfl,_,_⟩:=id hb
 obtain ⟨W2,hW2⟩:∃ W2,(((w).alloc (.cells #[.int .i64 k,.int .i64 p,.slice A s.length cap] 76)).alloc (.cells #[.int .i64 x,.int .i64 y] 53)).alloc (.cells #[.slice none 0 0,.slice none 0 0] 98)=W2:=⟨_,rfl⟩
 have hBW:Below w.heap.size w W2:=by rw [←hW2];exact (below_two w _ _).alloc (by simp;omega) _
 have S2:Hid (W2.heap.size=w.heap.size+3):=by unfold Hid;rw [←hW2];simp
 have b0:Blk W2 (w.heap.size) 76 #[.int .i64 k,.int .i64 p,.slice A s.length cap]:=by rw [←hW2];exact ((Blk.new (w) 76 #[.int .i64 k,.int .i64 p,.slice A s.length cap]).alloc (.cells #[.int .i64 x,.int .i64 y] 53)).alloc (.cells #[.slice none 0 0,.slice none 0 0] 98)
 have b1:Blk W2 (w.heap.size+1) 53 #[.int .i64 x,.int .i64 y]:=by rw [←hW2];exact (Blk.at_size (Blk.new ((w).alloc (.cells #[.int .i64 k,.int .i64 p,.slice A s.length cap] 76)) 53 #[.int .i64 x,.int .i64 y]) (by simp)).alloc (.cells #[.slice none 0 0,.slice none 0 0] 98)
 have b2:Blk W2 (w.heap.size+2) 98 #[.slice none 0 0,.slice none 0 0]:=by rw [←hW2];exact Blk.at_size (Blk.new (((w).alloc (.cells #[.int .i64 k,.int .i64 p,.slice A s.length cap] 76)).alloc (.cells #[.int .i64 x,.int .i64 y] 53)) 98 #[.slice none 0 0,.slice none 0 0]) (by simp)
 have hL2:=hL.next hBW
 have HLEN:=Lib.hid (length_any (.slice A s.length cap) s W2 (hC.below (hBW.mono hB)) hN0 (by rw [(hst.2.2.1 0 hN0).1];exact hR1))
 have HT:=Lib.hid ((setsTouched_any k p x y W2 hL2).mono fun _ _ hh=>(⟨hh.2.1 h.1.1 hno,hh.2.2.2⟩:_∧_))
 have hnn:(((firstC s).length:Int) == ((firstC s).length:Int))=true:=by simp
 rw [hc] at hb ⊢
 have c0:=b0.cell 0
 have c1:=b0.cell 1
 have c2:=b0.cell 2
 have c3:=b1.cell 0
 have c4:=b1.cell 1
 simp only [gz9] at c0 c1 c2 c3 c4
 clear hC hb hst hln hL hL2 hno hc
 generalize c.length=nc at *
 generalize (firstC s).length=n at *
 generalize s.length=N at *
 go_enter Tryz.func63,Tryz.ntmps63
 go_wp2_with (first
  | (go_at_call 87;refine HLEN.out.mono ?_;rintro e wz ⟨rfl,rfl⟩)
  | (go_at_call 72;refine (need_yes _).mono ?_;rintro e wz ⟨rfl,rfl⟩)
  | (go_at_call 101;refine HT.out.mono ?_;rintro e w1 ⟨rfl,hB1⟩)
  | (go_at_call 100;refine (sureA_no _ _).mono ?_;rintro e wz ⟨rfl,rfl⟩))
 exact ⟨rfl,rfl,below_in hBW hB1⟩
theorem enter_change1:∀ args W,(callFunc 62 args).run Tryz.prog W = .ok (.enter 62 args) W:=enters_of Tryz.func62 (by kernel_rfl) rfl
theorem change_yes {B:Nat} (k p:Int) (v:Value) (s:List (List (List UInt8))) (x y:Int) (c:List UInt8) (vc:Value) (h:AllK k p s) (hc:c.length=(firstC s).length) (hx:0≤x∧x<p - shortN k) (hy:0≤y∧y<p - 1) (w:World) (hL:Laid w) (hB:B≤w.heap.size) (hC:Cols B w v s) (hb:Bytes B w vc c) :
 Calls Tryz.prog 24 #[.agg #[.int .i64 k,.int .i64 p],v,.agg #[.int .i64 x,.int .i64 y],vc] w fun e w'=>∃ A m cc A2 n2 c2,e = .returned (.tuple #[.slice A m cc,.slice A2 n2 c2,.int .i64 0])∧sepC.R (fun b=>w.heap.size≤b∧b<w'.heap.size) w' (.slice A m cc) (chgK k p s x y c)∧ReadP w'.heap.size w' (.slice A2 n2 c2) (touL k p x y)∧Below w.heap.size w w':=by
 have hln:=all_len h
 have hne:=(chg_list h.1.1 hx hy).2.2
 obtain ⟨A,cap,rfl,_,_⟩:=id hC
 obtain ⟨Ac,capc,rfl,_,_⟩:=id hb
 obtain ⟨W2,hW2⟩:∃ W2,((((w).alloc (.cells #[.int .i64 k,.int .i64 p] 24)).alloc (.cells #[.slice A s.length cap] 28)).alloc (.cells #[.int .i64 x,.int .i64 y] 53)).alloc (.cells #[.slice Ac c.length capc] 32)=W2:=⟨_,rfl⟩
 have hBW:Below w.heap.size w W2:=by rw [←hW2];exact ((below_two w _ _).alloc (by simp;omega) _).alloc (by simp;omega) _
 have S2:Hid (W2.heap.size=w.heap.size+4):=by unfold Hid;rw [←hW2];simp
 have b0:Blk W2 (w.heap.size) 24 #[.int .i64 k,.int .i64 p]:=by rw [←hW2];exact (((Blk.new (w) 24 #[.int .i64 k,.int .i64 p]).alloc (.cells #[.slice A s.length cap] 28)).alloc (.cells #[.int .i64 x,.int .i64 y] 53)).alloc (.cells #[.slice Ac c.length capc] 32)
 have b1:Blk W2 (w.heap.size+1) 28 #[.slice A s.length cap]:=by rw [←hW2];exact ((Blk.at_size (Blk.new ((w).alloc (.cells #[.int .i64 k,.int .i64 p] 24)) 28 #[.slice A s.length cap]) (by simp)).alloc (.cells #[.int .i64 x,.int .i64 y] 53)).alloc (.cells #[.slice Ac c.length capc] 32)
 have b2:Blk W2 (w.heap.size+2) 53 #[.int .i64 x,.int .i64 y]:=by rw [←hW2];exact (Blk.at_size (Blk.new (((w).alloc (.cells #[.int .i64 k,.int .i64 p] 24)).alloc (.cells #[.slice A s.length cap] 28)) 53 #[.int .i64 x,.int .i64 y]) (by simp)).alloc (.cells #[.slice Ac c.length capc] 32)
 have b3:Blk W2 (w.heap.size+3) 32 #[.slice Ac c.length capc]:=by rw [←hW2];exact Blk.at_size (Blk.new ((((w).alloc (.cells #[.int .i64 k,.int .i64 p] 24)).alloc (.cells #[.slice A s.length cap] 28)).alloc (.cells #[.int .i64 x,.int .i64 y] 53)) 32 #[.slice Ac c.length capc]) (by simp)
 have hL2:=hL.next hBW
 have HA:=Lib.hid (ans_H_yes 62 #[.pointer (some ⟨w.heap.size,0,none⟩),.pointer (some ⟨w.heap.size+1,0,none⟩),.pointer (some ⟨w.heap.size+2,0,none⟩),.pointer (some ⟨w.heap.size+3,0,none⟩)] W2 (fun u W=>∃ A m cc A2 n2 c2,u = .agg #[.slice A m cc,.slice A2 n2 c2]∧sepC.R (fun b=>W2.heap.size+2≤b∧b<W.heap.size) W (.slice A m cc) (chgK k p s x y c)∧ReadP W.heap.size W (.slice A2 n2 c2) (touL k p x y)) (enter_change1 _) (fun u W W' hP e0 e1 hk hsz=>by
  obtain ⟨A,m,cc,A2,n2,c2,rfl,h1,g9,cap9,e9,hg9,hc9⟩:=hP
  have h0:0<(touL k p x y).length:=List.length_pos_iff.2 hne
  have hn0:g9≠W2.heap.size:=fun e=>by
   have h2:=(hc9 0 h0).1
   rw [e,Nat.zero_mul,e0.cell 0] at h2
   cases h2
  have hn1:g9≠W2.heap.size+1:=fun e=>by
   have h2:=(hc9 0 h0).2
   rw [e,Nat.zero_mul,e1.cell 1] at h2
   cases h2
  refine ⟨A,m,cc,A2,n2,c2,rfl,sepC.imp (sepC.keep h1 fun q hq=>hk q (by have h3:W2.heap.size+2≤q∧q<W.heap.size:=hq;constructor <;> omega)) (fun q hq=>by rw [←hsz];exact hq),g9,cap9,e9,by rw [←hsz];exact hg9,fun i hi=>⟨(World.cell?_of_block (hk g9 ⟨hn0,hn1⟩)).trans (hc9 i hi).1,(World.cell?_of_block (hk g9 ⟨hn0,hn1⟩)).trans (hc9 i hi).2⟩⟩) (fun U hU hsU=>by
  have hLU:=hL2.next hU
  have hBU:=below_in hBW hU
  have hCU:=hC.below (hBU.mono hB)
  have hbU:=hb.below (hBU.mono hB)
  have hBu:=Nat.le_trans hB hBU.size
  have HQ:=Lib.hid (fun (V:World) (hV:Below U.heap.size U V)=>asked_yes (B:=B) 43 k p (.slice A s.length cap) s (by have h2:=many_cols k p;rwa [←h.1.2] at h2) h.1.1 V (hLU.next hV) (Nat.le_trans hBu hV.size) (hCU.below (hV.mono hBu)) (by omega) h.2)
  have HCH:=Lib.hid (fun (V:World) (hV:Below U.heap.size U V)=>changed_yes (B:=B) k p (.slice A s.length cap) s x y c (.slice Ac c.length capc) h hc hx hy V (hLU.next hV) (Nat.le_trans hBu hV.size) (hCU.below (hV.mono hBu)) (hbU.below (hV.mono hBu)))
  have HSS:Hid (∀ V,Below U.heap.size U V→(fun U:World=>U.cell? ⟨w.heap.size,0,none⟩=some (.int .i64 k)∧U.cell? ⟨w.heap.size,1,none⟩=some (.int .i64 p)∧U.cell? ⟨w.heap.size+1,0,none⟩=some (.slice A s.length cap)∧U.cell? ⟨w.heap.size+2,0,none⟩=some (.int .i64 x)∧U.cell? ⟨w.heap.size+2,1,none⟩=some (.int .i64 y)∧U.cell? ⟨w.heap.size+3,0,none⟩=some (.slice Ac c.length capc)) V):=fun V hV=>⟨((b0.below hU b0.lt).below hV (b0.below hU b0.lt).lt).cell 0,((b0.below hU b0.lt).below hV (b0.below hU b0.lt).lt).cell 1,((b1.below hU b1.lt).below hV (b1.below hU b1.lt).lt).cell 0,((b2.below hU b2.lt).below hV (b2.below hU b2.lt).lt).cell 0,((b2.below hU b2.lt).below hV (b2.below hU b2.lt).lt).cell 1,((b3.below hU b3.lt).below hV (b3.below hU b3.lt).lt).cell 0⟩
  have HSV:Hid (∀ V u1 u2,(fun U:World=>U.cell? ⟨w.heap.size,0,none⟩=some (.int .i64 k)∧U.cell? ⟨w.heap.size,1,none⟩=some (.int .i64 p)∧U.cell? ⟨w.heap.size+1,0,none⟩=some (.slice A s.length cap)∧U.cell? ⟨w.heap.size+2,0,none⟩=some (.int .i64 x)∧U.cell? ⟨w.heap.size+2,1,none⟩=some (.int .i64 y)∧U.cell? ⟨w.heap.size+3,0,none⟩=some (.slice Ac c.length capc)) V→(fun U:World=>U.cell? ⟨w.heap.size,0,none⟩=some (.int .i64 k)∧U.cell? ⟨w.heap.size,1,none⟩=some (.int .i64 p)∧U.cell? ⟨w.heap.size+1,0,none⟩=some (.slice A s.length cap)∧U.cell? ⟨w.heap.size+2,0,none⟩=some (.int .i64 x)∧U.cell? ⟨w.heap.size+2,1,none⟩=some (.int .i64 y)∧U.cell? ⟨w.heap.size+3,0,none⟩=some (.slice Ac c.length capc)) ((V.setCell ⟨U.heap.size,0,none⟩ u1).setCell ⟨U.heap.size,1,none⟩ u2)):=fun V u1 u2 hS=>by
   have h0:=(b0.below hU b0.lt).lt
   have h1:=(b1.below hU b1.lt).lt
   have h2:=(b2.below hU b2.lt).lt
   have h3:=(b3.below hU b3.lt).lt
   have hkk:∀ q:Addr,q.block<U.heap.size→((V.setCell ⟨U.heap.size,0,none⟩ u1).setCell ⟨U.heap.size,1,none⟩ u2).cell? q=V.cell? q:=fun q hq=>World.cell?_of_block ((Below.heap_setCell _ ⟨U.heap.size,1,none⟩ u2 q.block (Nat.ne_of_lt hq)).trans (Below.heap_setCell V ⟨U.heap.size,0,none⟩ u1 q.block (Nat.ne_of_lt hq)))
   obtain ⟨q0,q1,q2,q3,q4,q5⟩:=hS
   exact ⟨(hkk ⟨w.heap.size,0,none⟩ h0).trans q0,(hkk ⟨w.heap.size,1,none⟩ h0).trans q1,(hkk ⟨w.heap.size+1,0,none⟩ h1).trans q2,(hkk ⟨w.heap.size+2,0,none⟩ h2).trans q3,(hkk ⟨w.heap.size+2,1,none⟩ h2).trans q4,(hkk ⟨w.heap.size+3,0,none⟩ h3).trans q5⟩
  have hBz:=below_one U (.cells #[.slice none 0 0,.slice none 0 0] 98)
  have bz:=Blk.new U 98 #[.slice none 0 0,.slice none 0 0]
  have HNE:Hid (0<(touL k p x y).length):=List.length_pos_iff.2 hne
  have hlU:W2.heap.size≤U.heap.size:=hU.size
  clear hb hC hCU hbU b0 b1 b2 b3 hW2 hL hL2 hLU h hc hx hy hln hne
  generalize touL k p x y=tl at *
  generalize chgK k p s x y c=cg at *
  generalize s.length=N at *
  generalize c.length=nc at *
  obtain ⟨Uz,hUz⟩:∃ Uz,U.alloc (.cells #[.slice none 0 0,.slice none 0 0] 98)=Uz:=⟨_,rfl⟩
  rw [hUz] at hBz bz
  refine (callsIn_wide (n:=9)).1 ?_
  refine callsIn_of_wp_marks Tryz.func62 rfl trivial ?_ rfl
  simp only [Tryz.ntmps62,List.size_toArray,List.length_cons,List.length_nil,Nat.reduceAdd,Nat.reduceSub,Array.replicate_succ,Array.replicate_zero,List.push_toArray,List.append_toArray,List.nil_append,List.cons_append]
  gi_wp2_with fail
  have hBx:Below Uz.heap.size Uz Uz.drew:=(Below.refl _ _).drew
  have HSS2:=Lib.hid (fun (V:World) (hV:Below Uz.heap.size Uz V)=>HSS.out V (below_in hBz hV))
  have hS:(fun U:World=>U.cell? ⟨w.heap.size,0,none⟩=some (.int .i64 k)∧U.cell? ⟨w.heap.size,1,none⟩=some (.int .i64 p)∧U.cell? ⟨w.heap.size+1,0,none⟩=some (.slice A N cap)∧U.cell? ⟨w.heap.size+2,0,none⟩=some (.int .i64 x)∧U.cell? ⟨w.heap.size+2,1,none⟩=some (.int .i64 y)∧U.cell? ⟨w.heap.size+3,0,none⟩=some (.slice Ac nc capc)) Uz.drew:=HSS2.out _ hBx
  refine wpIn_mono (region_HF (Q:=NoPanic _) (S:=(fun U:World=>U.cell? ⟨w.heap.size,0,none⟩=some (.int .i64 k)∧U.cell? ⟨w.heap.size,1,none⟩=some (.int .i64 p)∧U.cell? ⟨w.heap.size+1,0,none⟩=some (.slice A N cap)∧U.cell? ⟨w.heap.size+2,0,none⟩=some (.int .i64 x)∧U.cell? ⟨w.heap.size+2,1,none⟩=some (.int .i64 y)∧U.cell? ⟨w.heap.size+3,0,none⟩=some (.slice Ac nc capc))) (by kernel_rfl) ?_) NoPanic.imp
  refine tkF (i:=0) (d:=5) (v:=.agg #[.int .i64 k,.int .i64 p]) (s:=hS) (c:=?_)
  simp only [ud9]
  refine tkF (i:=1) (d:=6) (v:=.slice A N cap) (s:=hS) (c:=?_)
  simp only [ud9]
  refine tkF (i:=3) (d:=8) (v:=.agg #[.int .i64 x,.int .i64 y]) (s:=hS) (c:=?_)
  simp only [ud9]
  refine tkF (i:=4) (d:=9) (v:=.slice Ac nc capc) (s:=hS) (c:=?_)
  simp only [ud9]
  refine oneF (i:=2) (c:=?_)
  gi_wp2_with fail
  refine ⟨trivial,(callsIn_wide.2 (HQ.out _ (below_in hBz hBx))).mono ?_⟩
  rintro e wn ⟨rfl,hB1⟩
  replace hBx:=below_in hBx hB1
  clear hS
  have hS:(fun U:World=>U.cell? ⟨w.heap.size,0,none⟩=some (.int .i64 k)∧U.cell? ⟨w.heap.size,1,none⟩=some (.int .i64 p)∧U.cell? ⟨w.heap.size+1,0,none⟩=some (.slice A N cap)∧U.cell? ⟨w.heap.size+2,0,none⟩=some (.int .i64 x)∧U.cell? ⟨w.heap.size+2,1,none⟩=some (.int .i64 y)∧U.cell? ⟨w.heap.size+3,0,none⟩=some (.slice Ac nc capc)) wn:=HSS2.out _ hBx
  gi_wp2
  try (refine ⟨hS,?_⟩)
  refine oneF (i:=5) (c:=?_)
  gi_wp2_with fail
  refine ⟨trivial,(callsIn_wide.2 (HCH.out _ (below_in hBz hBx))).mono ?_⟩
  rintro e wm ⟨cA,cn,cc,hA,hn,hc2,rfl,hsep,hrd,hB2⟩
  have hsn:=hBx.size
  replace hBx:=below_in hBx hB2
  clear hS
  have hS:(fun U:World=>U.cell? ⟨w.heap.size,0,none⟩=some (.int .i64 k)∧U.cell? ⟨w.heap.size,1,none⟩=some (.int .i64 p)∧U.cell? ⟨w.heap.size+1,0,none⟩=some (.slice A N cap)∧U.cell? ⟨w.heap.size+2,0,none⟩=some (.int .i64 x)∧U.cell? ⟨w.heap.size+2,1,none⟩=some (.int .i64 y)∧U.cell? ⟨w.heap.size+3,0,none⟩=some (.slice Ac nc capc)) wm:=HSS2.out _ hBx
  gi_wp2
  try (refine ⟨hS,?_⟩)
  refine oneF (i:=6) (c:=?_)
  have bzm:=bz.below hBx bz.lt
  have g0:=bzm.cell 0
  have g1:=bzm.cell 1
  have f0:=bzm.frozen 0
  have f1:=bzm.frozen 1
  simp only [gz9] at g0 g1
  have hSV:(fun U:World=>U.cell? ⟨w.heap.size,0,none⟩=some (.int .i64 k)∧U.cell? ⟨w.heap.size,1,none⟩=some (.int .i64 p)∧U.cell? ⟨w.heap.size+1,0,none⟩=some (.slice A N cap)∧U.cell? ⟨w.heap.size+2,0,none⟩=some (.int .i64 x)∧U.cell? ⟨w.heap.size+2,1,none⟩=some (.int .i64 y)∧U.cell? ⟨w.heap.size+3,0,none⟩=some (.slice Ac nc capc)) ((wm.setCell ⟨U.heap.size,0,none⟩ (.slice cA cn cc)).setCell ⟨U.heap.size,1,none⟩ (.slice hA hn hc2)):=HSV.out _ _ _ hS
  gi_wp2_with fail
  try (refine ⟨hSV,?_⟩)
  refine anyHF_done (by kernel_rfl) ?_ _
  refine NoPanic.normal ?_
  have r:=(bzm.set_ 0 (.slice cA cn cc)).set_ 1 (.slice hA hn hc2)
  have r0:=r.cell 0
  have r1:=r.cell 1
  simp only [List.setIfInBounds_toArray,List.set_cons_zero,List.set_cons_succ,List.getElem?_toArray,List.getElem?_cons_zero,List.getElem?_cons_succ] at r0 r1
  have hkk:∀ q:Nat,q≠U.heap.size→((wm.setCell ⟨U.heap.size,0,none⟩ (.slice cA cn cc)).setCell ⟨U.heap.size,1,none⟩ (.slice hA hn hc2)).heap[q]?=wm.heap[q]?:=fun q hq=>(Below.heap_setCell _ ⟨U.heap.size,1,none⟩ _ q hq).trans (Below.heap_setCell wm ⟨U.heap.size,0,none⟩ _ q hq)
  have hsz:((wm.setCell ⟨U.heap.size,0,none⟩ (.slice cA cn cc)).setCell ⟨U.heap.size,1,none⟩ (.slice hA hn hc2)).heap.size=wm.heap.size:=by simp
  have hU1:U.heap.size<Uz.heap.size:=bz.lt
  have hg0:=bzm.cell 0
  gi_wp2
  refine ⟨.agg #[.slice cA cn cc,.slice hA hn hc2],by simp [results,Tryz.results62,go_sem,r0,r1],cA,cn,cc,hA,hn,hc2,rfl,⟨cA,cn,cc,hA,hn,hc2,rfl,?_,?_⟩,?_⟩
  · refine sepC.imp (sepC.keep hsep fun q hq=>hkk q (by have h9:wn.heap.size<q∧q<wm.heap.size:=hq;omega)) fun q hq=>?_
    have h9:wn.heap.size<q∧q<wm.heap.size:=hq
    rw [hsz]
    exact ⟨by omega,h9.2⟩
  · obtain ⟨g9,cap9,e9,hg9,hc9⟩:=hrd
    have hne9:g9≠U.heap.size:=fun e=>by
     have h1:=(hc9 0 HNE.out).1
     rw [e,Nat.zero_mul,hg0] at h1
     cases h1
    refine ⟨g9,cap9,e9,by rw [hsz];exact hg9,fun i hi=>⟨?_,?_⟩⟩
    · exact (World.cell?_of_block (hkk g9 hne9)).trans (hc9 i hi).1
    · exact (World.cell?_of_block (hkk g9 hne9)).trans (hc9 i hi).2
  · exact ((below_in hBz hBx).setCell (by show U.heap.size≤U.heap.size;omega) _).setCell (by show U.heap.size≤U.heap.size;omega) _
  ))
 clear hb hC b0 b1 b2 b3 hL2 h hc hx hy hln hL
 obtain ⟨tl,htl⟩:∃ tl,touL k p x y=tl:=⟨_,rfl⟩
 rw [htl] at HA hne ⊢
 have HNE2:Hid (0<tl.length):=List.length_pos_iff.2 hne
 clear htl hne
 generalize chgK k p s x y c=cg at *
 generalize s.length=N at *
 generalize c.length=nc at *
 go_enter Tryz.func24,Tryz.ntmps24
 have hmf:∀ (fn:Fn) (first cap:Array Value) (w:World),(Instr.makeFunc fn first cap).run Tryz.prog w = .ok (.func fn first cap) w:=fun _ _ _ _=>rfl
 go_wp2_with (go_at_call 61;refine HA.out.mono ?_;rintro e w1 ⟨u,rfl,⟨cA,cn,cc,hA,hn,hc2,rfl,hsep,hrd⟩,hB1⟩)
 have bq:=Blk.new w1 98 #[.slice cA cn cc,.slice hA hn hc2]
 have hBq:=below_one w1 (.cells #[.slice cA cn cc,.slice hA hn hc2] 98)
 have c0:=bq.cell 0
 have c1:=bq.cell 1
 simp only [gz9] at c0 c1
 obtain ⟨wq,hwq⟩:∃ wq,w1.alloc (.cells #[.slice cA cn cc,.slice hA hn hc2] 98)=wq:=⟨_,rfl⟩
 rw [hwq] at hBq c0 c1 ⊢
 go_region
 go_wp2
 go_ret3
 have s2:=S2.out
 have hsw:=hBW.size
 refine ⟨cA,cn,cc,hA,hn,hc2,rfl,?_,?_,below_in (below_in hBW hB1) hBq.drew⟩
 · refine sepC.imp (sepC.keep hsep fun q hq=>hBq.drew.block q (by have h9:W2.heap.size+2≤q∧q<w1.heap.size:=hq;omega)) fun q hq=>?_
   have h9:W2.heap.size+2≤q∧q<w1.heap.size:=hq
   have h10:=hBq.drew.size
   exact ⟨by omega,by omega⟩
 · exact hrd.next hBq.drew
theorem change_no1 {B:Nat} (k p:Int) (v:Value) (s:List (List (List UInt8))) (x y:Int) (c:List UInt8) (vc:Value) (hlen:s.length≤1000) (hcl:∀ j,j<s.length→(s[j]?.getD []).length≤1000) (hno:¬ AllK k p s) (w:World) (hL:Laid w) (hB:B≤w.heap.size) (hC:Cols B w v s) (hb:Bytes B w vc c) :
 Calls Tryz.prog 24 #[.agg #[.int .i64 k,.int .i64 p],v,.agg #[.int .i64 x,.int .i64 y],vc] w fun e w'=>e = .returned (.tuple #[.slice none 0 0,.slice none 0 0,.int .i64 2])∧Below w.heap.size w w':=by
 obtain ⟨A,cap,rfl,_,_⟩:=id hC
 obtain ⟨Ac,capc,rfl,_,_⟩:=id hb
 obtain ⟨W2,hW2⟩:∃ W2,((((w).alloc (.cells #[.int .i64 k,.int .i64 p] 24)).alloc (.cells #[.slice A s.length cap] 28)).alloc (.cells #[.int .i64 x,.int .i64 y] 53)).alloc (.cells #[.slice Ac c.length capc] 32)=W2:=⟨_,rfl⟩
 have hBW:Below w.heap.size w W2:=by rw [←hW2];exact ((below_two w _ _).alloc (by simp;omega) _).alloc (by simp;omega) _
 have S2:Hid (W2.heap.size=w.heap.size+4):=by unfold Hid;rw [←hW2];simp
 have b0:Blk W2 (w.heap.size) 24 #[.int .i64 k,.int .i64 p]:=by rw [←hW2];exact (((Blk.new (w) 24 #[.int .i64 k,.int .i64 p]).alloc (.cells #[.slice A s.length cap] 28)).alloc (.cells #[.int .i64 x,.int .i64 y] 53)).alloc (.cells #[.slice Ac c.length capc] 32)
 have b1:Blk W2 (w.heap.size+1) 28 #[.slice A s.length cap]:=by rw [←hW2];exact ((Blk.at_size (Blk.new ((w).alloc (.cells #[.int .i64 k,.int .i64 p] 24)) 28 #[.slice A s.length cap]) (by simp)).alloc (.cells #[.int .i64 x,.int .i64 y] 53)).alloc (.cells #[.slice Ac c.length capc] 32)
 have b2:Blk W2 (w.heap.size+2) 53 #[.int .i64 x,.int .i64 y]:=by rw [←hW2];exact (Blk.at_size (Blk.new (((w).alloc (.cells #[.int .i64 k,.int .i64 p] 24)).alloc (.cells #[.slice A s.length cap] 28)) 53 #[.int .i64 x,.int .i64 y]) (by simp)).alloc (.cells #[.slice Ac c.length capc] 32)
 have b3:Blk W2 (w.heap.size+3) 32 #[.slice Ac c.length capc]:=by rw [←hW2];exact Blk.at_size (Blk.new ((((w).alloc (.cells #[.int .i64 k,.int .i64 p] 24)).alloc (.cells #[.slice A s.length cap] 28)).alloc (.cells #[.int .i64 x,.int .i64 y] 53)) 32 #[.slice Ac c.length capc]) (by simp)
 have hL2:=hL.next hBW
 have HA:=Lib.hid (ans_H_no 2 62 #[.pointer (some ⟨w.heap.size,0,none⟩),.pointer (some ⟨w.heap.size+1,0,none⟩),.pointer (some ⟨w.heap.size+2,0,none⟩),.pointer (some ⟨w.heap.size+3,0,none⟩)] W2 (enter_change1 _) (fun U hU=>by
  have hLU:=hL2.next hU
  have hBU:=below_in hBW hU
  have hCU:=hC.below (hBU.mono hB)
  have hbU:=hb.below (hBU.mono hB)
  have hBu:=Nat.le_trans hB hBU.size
  have HQ:=Lib.hid (fun (V:World) (hV:Below U.heap.size U V)=>asked_no (B:=B) 43 k p (p - shortN k+madeN k) (.slice A s.length cap) s (many_cols k p) V (hLU.next hV) (Nat.le_trans hBu hV.size) (hCU.below (hV.mono hBu)) hlen hcl hno)
  have HSS:Hid (∀ V,Below U.heap.size U V→(fun U:World=>U.cell? ⟨w.heap.size,0,none⟩=some (.int .i64 k)∧U.cell? ⟨w.heap.size,1,none⟩=some (.int .i64 p)∧U.cell? ⟨w.heap.size+1,0,none⟩=some (.slice A s.length cap)∧U.cell? ⟨w.heap.size+2,0,none⟩=some (.int .i64 x)∧U.cell? ⟨w.heap.size+2,1,none⟩=some (.int .i64 y)∧U.cell? ⟨w.heap.size+3,0,none⟩=some (.slice Ac c.length capc)) V):=fun V hV=>⟨((b0.below hU b0.lt).below hV (b0.below hU b0.lt).lt).cell 0,((b0.below hU b0.lt).below hV (b0.below hU b0.lt).lt).cell 1,((b1.below hU b1.lt).below hV (b1.below hU b1.lt).lt).cell 0,((b2.below hU b2.lt).below hV (b2.below hU b2.lt).lt).cell 0,((b2.below hU b2.lt).below hV (b2.below hU b2.lt).lt).cell 1,((b3.below hU b3.lt).below hV (b3.below hU b3.lt).lt).cell 0⟩
  have hBz:=below_one U (.cells #[.slice none 0 0,.slice none 0 0] 98)
  clear hb hC hCU hbU b0 b1 b2 b3 hW2 hL hL2 hLU hlen hcl hno
  generalize s.length=N at *
  generalize c.length=nc at *
  obtain ⟨Uz,hUz⟩:∃ Uz,U.alloc (.cells #[.slice none 0 0,.slice none 0 0] 98)=Uz:=⟨_,rfl⟩
  rw [hUz] at hBz
  refine (callsIn_wide (n:=9)).1 ?_
  refine callsIn_of_wp_marks Tryz.func62 rfl trivial ?_ rfl
  simp only [Tryz.ntmps62,List.size_toArray,List.length_cons,List.length_nil,Nat.reduceAdd,Nat.reduceSub,Array.replicate_succ,Array.replicate_zero,List.push_toArray,List.append_toArray,List.nil_append,List.cons_append]
  gi_wp2_with fail
  have hBx:Below Uz.heap.size Uz Uz.drew:=(Below.refl _ _).drew
  have HSS2:=Lib.hid (fun (V:World) (hV:Below Uz.heap.size Uz V)=>HSS.out V (below_in hBz hV))
  have hS:(fun U:World=>U.cell? ⟨w.heap.size,0,none⟩=some (.int .i64 k)∧U.cell? ⟨w.heap.size,1,none⟩=some (.int .i64 p)∧U.cell? ⟨w.heap.size+1,0,none⟩=some (.slice A N cap)∧U.cell? ⟨w.heap.size+2,0,none⟩=some (.int .i64 x)∧U.cell? ⟨w.heap.size+2,1,none⟩=some (.int .i64 y)∧U.cell? ⟨w.heap.size+3,0,none⟩=some (.slice Ac nc capc)) Uz.drew:=HSS2.out _ hBx
  refine wpIn_mono (region_HF (Q:=GaveX 2 Uz) (S:=(fun U:World=>U.cell? ⟨w.heap.size,0,none⟩=some (.int .i64 k)∧U.cell? ⟨w.heap.size,1,none⟩=some (.int .i64 p)∧U.cell? ⟨w.heap.size+1,0,none⟩=some (.slice A N cap)∧U.cell? ⟨w.heap.size+2,0,none⟩=some (.int .i64 x)∧U.cell? ⟨w.heap.size+2,1,none⟩=some (.int .i64 y)∧U.cell? ⟨w.heap.size+3,0,none⟩=some (.slice Ac nc capc))) (by kernel_rfl) ?_) (fun e a w' h=>by obtain ⟨rfl,hd,hB⟩:=h;obtain ⟨tm,df⟩:=a;have hd':df = []:=hd;subst hd';exact ⟨rfl,below_in hBz hB⟩)
  refine anyHF_take (i:=0) (d:=5) (v:=.agg #[.int .i64 k,.int .i64 p]) (by kernel_rfl) rfl (by kernel_rfl) (by kernel_rfl) (by kernel_rfl) rfl (fun _ _ _ h=>⟨h.1,by simpa [Act.put] using h.2.1,h.2.2⟩) ⟨Or.inl ⟨by rfl,fun w hS=>by obtain ⟨h0,h1,h2,h3,h4,h5⟩:=hS;go_simp⟩,fun _=>rfl⟩ hS ?_
  simp only [ud9]
  refine anyHF_take (i:=1) (d:=6) (v:=.slice A N cap) (by kernel_rfl) rfl (by kernel_rfl) (by kernel_rfl) (by kernel_rfl) rfl (fun _ _ _ h=>⟨h.1,by simpa [Act.put] using h.2.1,h.2.2⟩) ⟨Or.inl ⟨by rfl,fun w hS=>by obtain ⟨h0,h1,h2,h3,h4,h5⟩:=hS;go_simp⟩,fun _=>rfl⟩ hS ?_
  simp only [ud9]
  refine anyHF_take (i:=3) (d:=8) (v:=.agg #[.int .i64 x,.int .i64 y]) (by kernel_rfl) rfl (by kernel_rfl) (by kernel_rfl) (by kernel_rfl) rfl (fun _ _ _ h=>⟨h.1,by simpa [Act.put] using h.2.1,h.2.2⟩) ⟨Or.inl ⟨by rfl,fun w hS=>by obtain ⟨h0,h1,h2,h3,h4,h5⟩:=hS;go_simp⟩,fun _=>rfl⟩ hS ?_
  simp only [ud9]
  refine anyHF_take (i:=4) (d:=9) (v:=.slice Ac nc capc) (by kernel_rfl) rfl (by kernel_rfl) (by kernel_rfl) (by kernel_rfl) rfl (fun _ _ _ h=>⟨h.1,by simpa [Act.put] using h.2.1,h.2.2⟩) ⟨Or.inl ⟨by rfl,fun w hS=>by obtain ⟨h0,h1,h2,h3,h4,h5⟩:=hS;go_simp⟩,fun _=>rfl⟩ hS ?_
  simp only [ud9]
  refine oneF (i:=2) (c:=?_)
  gi_wp2_with fail
  refine ⟨trivial,(callsIn_wide.2 (HQ.out _ (below_in hBz hBx))).mono ?_⟩
  rintro e wz ⟨rfl,hB1⟩
  exact ⟨rfl,rfl,below_in hBx hB1⟩
  ))
 clear hb hC b0 b1 b2 b3 hL2 hlen hcl hno hL
 generalize s.length=N at *
 generalize c.length=nc at *
 go_enter Tryz.func24,Tryz.ntmps24
 have hmf:∀ (fn:Fn) (first cap:Array Value) (w:World),(Instr.makeFunc fn first cap).run Tryz.prog w = .ok (.func fn first cap) w:=fun _ _ _ _=>rfl
 go_wp2_with (go_at_call 61;refine HA.out.mono ?_;rintro e w1 ⟨rfl,hB1⟩)
 have bq:=Blk.new w1 98 #[.slice none 0 0,.slice none 0 0]
 have hBq:=below_one w1 (.cells #[.slice none 0 0,.slice none 0 0] 98)
 have c0:=bq.cell 0
 have c1:=bq.cell 1
 simp only [gz9] at c0 c1
 obtain ⟨wq,hwq⟩:∃ wq,w1.alloc (.cells #[.slice none 0 0,.slice none 0 0] 98)=wq:=⟨_,rfl⟩
 rw [hwq] at hBq c0 c1 ⊢
 go_region
 go_wp2
 go_ret3
 exact ⟨rfl,below_in (below_in hBW hB1) hBq.drew⟩
theorem change_no2 {B:Nat} (k p:Int) (v:Value) (s:List (List (List UInt8))) (x y:Int) (c:List UInt8) (vc:Value) (h:AllK k p s) (hno:c.length≠(firstC s).length) (w:World) (hL:Laid w) (hB:B≤w.heap.size) (hC:Cols B w v s) (hb:Bytes B w vc c) :
 Calls Tryz.prog 24 #[.agg #[.int .i64 k,.int .i64 p],v,.agg #[.int .i64 x,.int .i64 y],vc] w fun e w'=>e = .returned (.tuple #[.slice none 0 0,.slice none 0 0,.int .i64 2])∧Below w.heap.size w w':=by
 have hln:=all_len h
 obtain ⟨A,cap,rfl,_,_⟩:=id hC
 obtain ⟨Ac,capc,rfl,_,_⟩:=id hb
 obtain ⟨W2,hW2⟩:∃ W2,((((w).alloc (.cells #[.int .i64 k,.int .i64 p] 24)).alloc (.cells #[.slice A s.length cap] 28)).alloc (.cells #[.int .i64 x,.int .i64 y] 53)).alloc (.cells #[.slice Ac c.length capc] 32)=W2:=⟨_,rfl⟩
 have hBW:Below w.heap.size w W2:=by rw [←hW2];exact ((below_two w _ _).alloc (by simp;omega) _).alloc (by simp;omega) _
 have S2:Hid (W2.heap.size=w.heap.size+4):=by unfold Hid;rw [←hW2];simp
 have b0:Blk W2 (w.heap.size) 24 #[.int .i64 k,.int .i64 p]:=by rw [←hW2];exact (((Blk.new (w) 24 #[.int .i64 k,.int .i64 p]).alloc (.cells #[.slice A s.length cap] 28)).alloc (.cells #[.int .i64 x,.int .i64 y] 53)).alloc (.cells #[.slice Ac c.length capc] 32)
 have b1:Blk W2 (w.heap.size+1) 28 #[.slice A s.length cap]:=by rw [←hW2];exact ((Blk.at_size (Blk.new ((w).alloc (.cells #[.int .i64 k,.int .i64 p] 24)) 28 #[.slice A s.length cap]) (by simp)).alloc (.cells #[.int .i64 x,.int .i64 y] 53)).alloc (.cells #[.slice Ac c.length capc] 32)
 have b2:Blk W2 (w.heap.size+2) 53 #[.int .i64 x,.int .i64 y]:=by rw [←hW2];exact (Blk.at_size (Blk.new (((w).alloc (.cells #[.int .i64 k,.int .i64 p] 24)).alloc (.cells #[.slice A s.length cap] 28)) 53 #[.int .i64 x,.int .i64 y]) (by simp)).alloc (.cells #[.slice Ac c.length capc] 32)
 have b3:Blk W2 (w.heap.size+3) 32 #[.slice Ac c.length capc]:=by rw [←hW2];exact Blk.at_size (Blk.new ((((w).alloc (.cells #[.int .i64 k,.int .i64 p] 24)).alloc (.cells #[.slice A s.length cap] 28)).alloc (.cells #[.int .i64 x,.int .i64 y] 53)) 32 #[.slice Ac c.length capc]) (by simp)
 have hL2:=hL.next hBW
 have HA:=Lib.hid (ans_H_no 2 62 #[.pointer (some ⟨w.heap.size,0,none⟩),.pointer (some ⟨w.heap.size+1,0,none⟩),.pointer (some ⟨w.heap.size+2,0,none⟩),.pointer (some ⟨w.heap.size+3,0,none⟩)] W2 (enter_change1 _) (fun U hU=>by
  have hLU:=hL2.next hU
  have hBU:=below_in hBW hU
  have hCU:=hC.below (hBU.mono hB)
  have hbU:=hb.below (hBU.mono hB)
  have hBu:=Nat.le_trans hB hBU.size
  have HQ:=Lib.hid (fun (V:World) (hV:Below U.heap.size U V)=>asked_yes (B:=B) 43 k p (.slice A s.length cap) s (by have h2:=many_cols k p;rwa [←h.1.2] at h2) h.1.1 V (hLU.next hV) (Nat.le_trans hBu hV.size) (hCU.below (hV.mono hBu)) (by omega) h.2)
  have HCH:=Lib.hid (fun (V:World) (hV:Below U.heap.size U V)=>changed_no2 (B:=B) k p (.slice A s.length cap) s x y c (.slice Ac c.length capc) h hno V (hLU.next hV) (Nat.le_trans hBu hV.size) (hCU.below (hV.mono hBu)) (hbU.below (hV.mono hBu)))
  have HSS:Hid (∀ V,Below U.heap.size U V→(fun U:World=>U.cell? ⟨w.heap.size,0,none⟩=some (.int .i64 k)∧U.cell? ⟨w.heap.size,1,none⟩=some (.int .i64 p)∧U.cell? ⟨w.heap.size+1,0,none⟩=some (.slice A s.length cap)∧U.cell? ⟨w.heap.size+2,0,none⟩=some (.int .i64 x)∧U.cell? ⟨w.heap.size+2,1,none⟩=some (.int .i64 y)∧U.cell? ⟨w.heap.size+3,0,none⟩=some (.slice Ac c.length capc)) V):=fun V hV=>⟨((b0.below hU b0.lt).below hV (b0.below hU b0.lt).lt).cell 0,((b0.below hU b0.lt).below hV (b0.below hU b0.lt).lt).cell 1,((b1.below hU b1.lt).below hV (b1.below hU b1.lt).lt).cell 0,((b2.below hU b2.lt).below hV (b2.below hU b2.lt).lt).cell 0,((b2.below hU b2.lt).below hV (b2.below hU b2.lt).lt).cell 1,((b3.below hU b3.lt).below hV (b3.below hU b3.lt).lt).cell 0⟩
  have hBz:=below_one U (.cells #[.slice none 0 0,.slice none 0 0] 98)
  clear hb hC hCU hbU b0 b1 b2 b3 hW2 hL hL2 hLU h hno hln
  generalize s.length=N at *
  generalize c.length=nc at *
  obtain ⟨Uz,hUz⟩:∃ Uz,U.alloc (.cells #[.slice none 0 0,.slice none 0 0] 98)=Uz:=⟨_,rfl⟩
  rw [hUz] at hBz
  refine (callsIn_wide (n:=9)).1 ?_
  refine callsIn_of_wp_marks Tryz.func62 rfl trivial ?_ rfl
  simp only [Tryz.ntmps62,List.size_toArray,List.length_cons,List.length_nil,Nat.reduceAdd,Nat.reduceSub,Array.replicate_succ,Array.replicate_zero,List.push_toArray,List.append_toArray,List.nil_append,List.cons_append]
  gi_wp2_with fail
  have hBx:Below Uz.heap.size Uz Uz.drew:=(Below.refl _ _).drew
  have HSS2:=Lib.hid (fun (V:World) (hV:Below Uz.heap.size Uz V)=>HSS.out V (below_in hBz hV))
  have hS:(fun U:World=>U.cell? ⟨w.heap.size,0,none⟩=some (.int .i64 k)∧U.cell? ⟨w.heap.size,1,none⟩=some (.int .i64 p)∧U.cell? ⟨w.heap.size+1,0,none⟩=some (.slice A N cap)∧U.cell? ⟨w.heap.size+2,0,none⟩=some (.int .i64 x)∧U.cell? ⟨w.heap.size+2,1,none⟩=some (.int .i64 y)∧U.cell? ⟨w.heap.size+3,0,none⟩=some (.slice Ac nc capc)) Uz.drew:=HSS2.out _ hBx
  refine wpIn_mono (region_HF (Q:=GaveX 2 Uz) (S:=(fun U:World=>U.cell? ⟨w.heap.size,0,none⟩=some (.int .i64 k)∧U.cell? ⟨w.heap.size,1,none⟩=some (.int .i64 p)∧U.cell? ⟨w.heap.size+1,0,none⟩=some (.slice A N cap)∧U.cell? ⟨w.heap.size+2,0,none⟩=some (.int .i64 x)∧U.cell? ⟨w.heap.size+2,1,none⟩=some (.int .i64 y)∧U.cell? ⟨w.heap.size+3,0,none⟩=some (.slice Ac nc capc))) (by kernel_rfl) ?_) (fun e a w' h=>by obtain ⟨rfl,hd,hB⟩:=h;obtain ⟨tm,df⟩:=a;have hd':df = []:=hd;subst hd';exact ⟨rfl,below_in hBz hB⟩)
  refine anyHF_take (i:=0) (d:=5) (v:=.agg #[.int .i64 k,.int .i64 p]) (by kernel_rfl) rfl (by kernel_rfl) (by kernel_rfl) (by kernel_rfl) rfl (fun _ _ _ h=>⟨h.1,by simpa [Act.put] using h.2.1,h.2.2⟩) ⟨Or.inl ⟨by rfl,fun w hS=>by obtain ⟨h0,h1,h2,h3,h4,h5⟩:=hS;go_simp⟩,fun _=>rfl⟩ hS ?_
  simp only [ud9]
  refine anyHF_take (i:=1) (d:=6) (v:=.slice A N cap) (by kernel_rfl) rfl (by kernel_rfl) (by kernel_rfl) (by kernel_rfl) rfl (fun _ _ _ h=>⟨h.1,by simpa [Act.put] using h.2.1,h.2.2⟩) ⟨Or.inl ⟨by rfl,fun w hS=>by obtain ⟨h0,h1,h2,h3,h4,h5⟩:=hS;go_simp⟩,fun _=>rfl⟩ hS ?_
  simp only [ud9]
  refine anyHF_take (i:=3) (d:=8) (v:=.agg #[.int .i64 x,.int .i64 y]) (by kernel_rfl) rfl (by kernel_rfl) (by kernel_rfl) (by kernel_rfl) rfl (fun _ _ _ h=>⟨h.1,by simpa [Act.put] using h.2.1,h.2.2⟩) ⟨Or.inl ⟨by rfl,fun w hS=>by obtain ⟨h0,h1,h2,h3,h4,h5⟩:=hS;go_simp⟩,fun _=>rfl⟩ hS ?_
  simp only [ud9]
  refine anyHF_take (i:=4) (d:=9) (v:=.slice Ac nc capc) (by kernel_rfl) rfl (by kernel_rfl) (by kernel_rfl) (by kernel_rfl) rfl (fun _ _ _ h=>⟨h.1,by simpa [Act.put] using h.2.1,h.2.2⟩) ⟨Or.inl ⟨by rfl,fun w hS=>by obtain ⟨h0,h1,h2,h3,h4,h5⟩:=hS;go_simp⟩,fun _=>rfl⟩ hS ?_
  simp only [ud9]
  refine oneF (i:=2) (c:=?_)
  gi_wp2_with fail
  refine ⟨trivial,(callsIn_wide.2 (HQ.out _ (below_in hBz hBx))).mono ?_⟩
  rintro e wn ⟨rfl,hB1⟩
  replace hBx:=below_in hBx hB1
  clear hS
  have hS:(fun U:World=>U.cell? ⟨w.heap.size,0,none⟩=some (.int .i64 k)∧U.cell? ⟨w.heap.size,1,none⟩=some (.int .i64 p)∧U.cell? ⟨w.heap.size+1,0,none⟩=some (.slice A N cap)∧U.cell? ⟨w.heap.size+2,0,none⟩=some (.int .i64 x)∧U.cell? ⟨w.heap.size+2,1,none⟩=some (.int .i64 y)∧U.cell? ⟨w.heap.size+3,0,none⟩=some (.slice Ac nc capc)) wn:=HSS2.out _ hBx
  gi_wp2
  try (refine ⟨hS,?_⟩)
  refine oneF (i:=5) (c:=?_)
  gi_wp2_with fail
  refine ⟨trivial,(callsIn_wide.2 (HCH.out _ (below_in hBz hBx))).mono ?_⟩
  rintro e wz ⟨rfl,hB1⟩
  exact ⟨rfl,rfl,below_in hBx hB1⟩
  ))
 clear hb hC b0 b1 b2 b3 hL2 h hno hln hL
 generalize s.length=N at *
 generalize c.length=nc at *
 go_enter Tryz.func24,Tryz.ntmps24
 have hmf:∀ (fn:Fn) (first cap:Array Value) (w:World),(Instr.makeFunc fn first cap).run Tryz.prog w = .ok (.func fn first cap) w:=fun _ _ _ _=>rfl
 go_wp2_with (go_at_call 61;refine HA.out.mono ?_;rintro e w1 ⟨rfl,hB1⟩)
 have bq:=Blk.new w1 98 #[.slice none 0 0,.slice none 0 0]
 have hBq:=below_one w1 (.cells #[.slice none 0 0,.slice none 0 0] 98)
 have c0:=bq.cell 0
 have c1:=bq.cell 1
 simp only [gz9] at c0 c1
 obtain ⟨wq,hwq⟩:∃ wq,w1.alloc (.cells #[.slice none 0 0,.slice none 0 0] 98)=wq:=⟨_,rfl⟩
 rw [hwq] at hBq c0 c1 ⊢
 go_region
 go_wp2
 go_ret3
 exact ⟨rfl,below_in (below_in hBW hB1) hBq.drew⟩
theorem change_no4 {B:Nat} (k p:Int) (v:Value) (s:List (List (List UInt8))) (x y:Int) (c:List UInt8) (vc:Value) (h:AllK k p s) (hc:c.length=(firstC s).length) (hno:¬ (HasCell k p x y∧x<p - shortN k)) (w:World) (hL:Laid w) (hB:B≤w.heap.size) (hC:Cols B w v s) (hb:Bytes B w vc c) :
 Calls Tryz.prog 24 #[.agg #[.int .i64 k,.int .i64 p],v,.agg #[.int .i64 x,.int .i64 y],vc] w fun e w'=>e = .returned (.tuple #[.slice none 0 0,.slice none 0 0,.int .i64 4])∧Below w.heap.size w w':=by
 have hln:=all_len h
 obtain ⟨A,cap,rfl,_,_⟩:=id hC
 obtain ⟨Ac,capc,rfl,_,_⟩:=id hb
 obtain ⟨W2,hW2⟩:∃ W2,((((w).alloc (.cells #[.int .i64 k,.int .i64 p] 24)).alloc (.cells #[.slice A s.length cap] 28)).alloc (.cells #[.int .i64 x,.int .i64 y] 53)).alloc (.cells #[.slice Ac c.length capc] 32)=W2:=⟨_,rfl⟩
 have hBW:Below w.heap.size w W2:=by rw [←hW2];exact ((below_two w _ _).alloc (by simp;omega) _).alloc (by simp;omega) _
 have S2:Hid (W2.heap.size=w.heap.size+4):=by unfold Hid;rw [←hW2];simp
 have b0:Blk W2 (w.heap.size) 24 #[.int .i64 k,.int .i64 p]:=by rw [←hW2];exact (((Blk.new (w) 24 #[.int .i64 k,.int .i64 p]).alloc (.cells #[.slice A s.length cap] 28)).alloc (.cells #[.int .i64 x,.int .i64 y] 53)).alloc (.cells #[.slice Ac c.length capc] 32)
 have b1:Blk W2 (w.heap.size+1) 28 #[.slice A s.length cap]:=by rw [←hW2];exact ((Blk.at_size (Blk.new ((w).alloc (.cells #[.int .i64 k,.int .i64 p] 24)) 28 #[.slice A s.length cap]) (by simp)).alloc (.cells #[.int .i64 x,.int .i64 y] 53)).alloc (.cells #[.slice Ac c.length capc] 32)
 have b2:Blk W2 (w.heap.size+2) 53 #[.int .i64 x,.int .i64 y]:=by rw [←hW2];exact (Blk.at_size (Blk.new (((w).alloc (.cells #[.int .i64 k,.int .i64 p] 24)).alloc (.cells #[.slice A s.length cap] 28)) 53 #[.int .i64 x,.int .i64 y]) (by simp)).alloc (.cells #[.slice Ac c.length capc] 32)
 have b3:Blk W2 (w.heap.size+3) 32 #[.slice Ac c.length capc]:=by rw [←hW2];exact Blk.at_size (Blk.new ((((w).alloc (.cells #[.int .i64 k,.int .i64 p] 24)).alloc (.cells #[.slice A s.length cap] 28)).alloc (.cells #[.int .i64 x,.int .i64 y] 53)) 32 #[.slice Ac c.length capc]) (by simp)
 have hL2:=hL.next hBW
 have HA:=Lib.hid (ans_H_no 4 62 #[.pointer (some ⟨w.heap.size,0,none⟩),.pointer (some ⟨w.heap.size+1,0,none⟩),.pointer (some ⟨w.heap.size+2,0,none⟩),.pointer (some ⟨w.heap.size+3,0,none⟩)] W2 (enter_change1 _) (fun U hU=>by
  have hLU:=hL2.next hU
  have hBU:=below_in hBW hU
  have hCU:=hC.below (hBU.mono hB)
  have hbU:=hb.below (hBU.mono hB)
  have hBu:=Nat.le_trans hB hBU.size
  have HQ:=Lib.hid (fun (V:World) (hV:Below U.heap.size U V)=>asked_yes (B:=B) 43 k p (.slice A s.length cap) s (by have h2:=many_cols k p;rwa [←h.1.2] at h2) h.1.1 V (hLU.next hV) (Nat.le_trans hBu hV.size) (hCU.below (hV.mono hBu)) (by omega) h.2)
  have HCH:=Lib.hid (fun (V:World) (hV:Below U.heap.size U V)=>changed_no4 (B:=B) k p (.slice A s.length cap) s x y c (.slice Ac c.length capc) h hc hno V (hLU.next hV) (Nat.le_trans hBu hV.size) (hCU.below (hV.mono hBu)) (hbU.below (hV.mono hBu)))
  have HSS:Hid (∀ V,Below U.heap.size U V→(fun U:World=>U.cell? ⟨w.heap.size,0,none⟩=some (.int .i64 k)∧U.cell? ⟨w.heap.size,1,none⟩=some (.int .i64 p)∧U.cell? ⟨w.heap.size+1,0,none⟩=some (.slice A s.length cap)∧U.cell? ⟨w.heap.size+2,0,none⟩=some (.int .i64 x)∧U.cell? ⟨w.heap.size+2,1,none⟩=some (.int .i64 y)∧U.cell? ⟨w.heap.size+3,0,none⟩=some (.slice Ac c.length capc)) V):=fun V hV=>⟨((b0.below hU b0.lt).below hV (b0.below hU b0.lt).lt).cell 0,((b0.below hU b0.lt).below hV (b0.below hU b0.lt).lt).cell 1,((b1.below hU b1.lt).below hV (b1.below hU b1.lt).lt).cell 0,((b2.below hU b2.lt).below hV (b2.below hU b2.lt).lt).cell 0,((b2.below hU b2.lt).below hV (b2.below hU b2.lt).lt).cell 1,((b3.below hU b3.lt).below hV (b3.below hU b3.lt).lt).cell 0⟩
  have hBz:=below_one U (.cells #[.slice none 0 0,.slice none 0 0] 98)
  clear hb hC hCU hbU b0 b1 b2 b3 hW2 hL hL2 hLU h hc hno hln
  generalize s.length=N at *
  generalize c.length=nc at *
  obtain ⟨Uz,hUz⟩:∃ Uz,U.alloc (.cells #[.slice none 0 0,.slice none 0 0] 98)=Uz:=⟨_,rfl⟩
  rw [hUz] at hBz
  refine (callsIn_wide (n:=9)).1 ?_
  refine callsIn_of_wp_marks Tryz.func62 rfl trivial ?_ rfl
  simp only [Tryz.ntmps62,List.size_toArray,List.length_cons,List.length_nil,Nat.reduceAdd,Nat.reduceSub,Array.replicate_succ,Array.replicate_zero,List.push_toArray,List.append_toArray,List.nil_append,List.cons_append]
  gi_wp2_with fail
  have hBx:Below Uz.heap.size Uz Uz.drew:=(Below.refl _ _).drew
  have HSS2:=Lib.hid (fun (V:World) (hV:Below Uz.heap.size Uz V)=>HSS.out V (below_in hBz hV))
  have hS:(fun U:World=>U.cell? ⟨w.heap.size,0,none⟩=some (.int .i64 k)∧U.cell? ⟨w.heap.size,1,none⟩=some (.int .i64 p)∧U.cell? ⟨w.heap.size+1,0,none⟩=some (.slice A N cap)∧U.cell? ⟨w.heap.size+2,0,none⟩=some (.int .i64 x)∧U.cell? ⟨w.heap.size+2,1,none⟩=some (.int .i64 y)∧U.cell? ⟨w.heap.size+3,0,none⟩=some (.slice Ac nc capc)) Uz.drew:=HSS2.out _ hBx
  refine wpIn_mono (region_HF (Q:=GaveX 4 Uz) (S:=(fun U:World=>U.cell? ⟨w.heap.size,0,none⟩=some (.int .i64 k)∧U.cell? ⟨w.heap.size,1,none⟩=some (.int .i64 p)∧U.cell? ⟨w.heap.size+1,0,none⟩=some (.slice A N cap)∧U.cell? ⟨w.heap.size+2,0,none⟩=some (.int .i64 x)∧U.cell? ⟨w.heap.size+2,1,none⟩=some (.int .i64 y)∧U.cell? ⟨w.heap.size+3,0,none⟩=some (.slice Ac nc capc))) (by kernel_rfl) ?_) (fun e a w' h=>by obtain ⟨rfl,hd,hB⟩:=h;obtain ⟨tm,df⟩:=a;have hd':df = []:=hd;subst hd';exact ⟨rfl,below_in hBz hB⟩)
  refine anyHF_take (i:=0) (d:=5) (v:=.agg #[.int .i64 k,.int .i64 p]) (by kernel_rfl) rfl (by kernel_rfl) (by kernel_rfl) (by kernel_rfl) rfl (fun _ _ _ h=>⟨h.1,by simpa [Act.put] using h.2.1,h.2.2⟩) ⟨Or.inl ⟨by rfl,fun w hS=>by obtain ⟨h0,h1,h2,h3,h4,h5⟩:=hS;go_simp⟩,fun _=>rfl⟩ hS ?_
  simp only [ud9]
  refine anyHF_take (i:=1) (d:=6) (v:=.slice A N cap) (by kernel_rfl) rfl (by kernel_rfl) (by kernel_rfl) (by kernel_rfl) rfl (fun _ _ _ h=>⟨h.1,by simpa [Act.put] using h.2.1,h.2.2⟩) ⟨Or.inl ⟨by rfl,fun w hS=>by obtain ⟨h0,h1,h2,h3,h4,h5⟩:=hS;go_simp⟩,fun _=>rfl⟩ hS ?_
  simp only [ud9]
  refine anyHF_take (i:=3) (d:=8) (v:=.agg #[.int .i64 x,.int .i64 y]) (by kernel_rfl) rfl (by kernel_rfl) (by kernel_rfl) (by kernel_rfl) rfl (fun _ _ _ h=>⟨h.1,by simpa [Act.put] using h.2.1,h.2.2⟩) ⟨Or.inl ⟨by rfl,fun w hS=>by obtain ⟨h0,h1,h2,h3,h4,h5⟩:=hS;go_simp⟩,fun _=>rfl⟩ hS ?_
  simp only [ud9]
  refine anyHF_take (i:=4) (d:=9) (v:=.slice Ac nc capc) (by kernel_rfl) rfl (by kernel_rfl) (by kernel_rfl) (by kernel_rfl) rfl (fun _ _ _ h=>⟨h.1,by simpa [Act.put] using h.2.1,h.2.2⟩) ⟨Or.inl ⟨by rfl,fun w hS=>by obtain ⟨h0,h1,h2,h3,h4,h5⟩:=hS;go_simp⟩,fun _=>rfl⟩ hS ?_
  simp only [ud9]
  refine oneF (i:=2) (c:=?_)
  gi_wp2_with fail
  refine ⟨trivial,(callsIn_wide.2 (HQ.out _ (below_in hBz hBx))).mono ?_⟩
  rintro e wn ⟨rfl,hB1⟩
  replace hBx:=below_in hBx hB1
  clear hS
  have hS:(fun U:World=>U.cell? ⟨w.heap.size,0,none⟩=some (.int .i64 k)∧U.cell? ⟨w.heap.size,1,none⟩=some (.int .i64 p)∧U.cell? ⟨w.heap.size+1,0,none⟩=some (.slice A N cap)∧U.cell? ⟨w.heap.size+2,0,none⟩=some (.int .i64 x)∧U.cell? ⟨w.heap.size+2,1,none⟩=some (.int .i64 y)∧U.cell? ⟨w.heap.size+3,0,none⟩=some (.slice Ac nc capc)) wn:=HSS2.out _ hBx
  gi_wp2
  try (refine ⟨hS,?_⟩)
  refine oneF (i:=5) (c:=?_)
  gi_wp2_with fail
  refine ⟨trivial,(callsIn_wide.2 (HCH.out _ (below_in hBz hBx))).mono ?_⟩
  rintro e wz ⟨rfl,hB1⟩
  exact ⟨rfl,rfl,below_in hBx hB1⟩
  ))
 clear hb hC b0 b1 b2 b3 hL2 h hc hno hln hL
 generalize s.length=N at *
 generalize c.length=nc at *
 go_enter Tryz.func24,Tryz.ntmps24
 have hmf:∀ (fn:Fn) (first cap:Array Value) (w:World),(Instr.makeFunc fn first cap).run Tryz.prog w = .ok (.func fn first cap) w:=fun _ _ _ _=>rfl
 go_wp2_with (go_at_call 61;refine HA.out.mono ?_;rintro e w1 ⟨rfl,hB1⟩)
 have bq:=Blk.new w1 98 #[.slice none 0 0,.slice none 0 0]
 have hBq:=below_one w1 (.cells #[.slice none 0 0,.slice none 0 0] 98)
 have c0:=bq.cell 0
 have c1:=bq.cell 1
 simp only [gz9] at c0 c1
 obtain ⟨wq,hwq⟩:∃ wq,w1.alloc (.cells #[.slice none 0 0,.slice none 0 0] 98)=wq:=⟨_,rfl⟩
 rw [hwq] at hBq c0 c1 ⊢
 go_region
 go_wp2
 go_ret3
 exact ⟨rfl,below_in (below_in hBW hB1) hBq.drew⟩
end Go.Proofs.YtknkdbincaonbaaGreatDoor.Cd
