/- -/
import Derived.Test.YtknkdbincaonbaaGreatDoorCEG24
import Derived.Test.YtknkdbincaonbaaGreatDoorCEG16
import Derived.Test.YtknkdbincaonbaaGreatDoorCEG15
import Derived.Test.YtknkdbincaonbaaGreatDoorCEG7
set_option linter.unusedVariables false
set_option linter.unusedSimpArgs false
set_option maxRecDepth 100000
set_option maxHeartbeats 4000000
namespace Go.Proofs.YtknkdbincaonbaaGreatDoor.Cd
open Go.RowKit Go.Shelf Go.Maps Go.Proofs.YtknkdbincaonbaaGreatDoor.C Go.Proofs.YtknkdbincaonbaaGreatDoor.E Go.Proofs.YtknkdbincaonbaaGreatDoor.Q
attribute [local go_sem] Oper.semAt_some

theorem enter_change1:∀ args W,(callFunc 62 args).run Tryz.prog W = .ok (.enter 62 args) W:=enters_of Tryz.func62 (by kernel_rfl) rfl
theorem change_yes {B:Nat} (k p:Int) (v:Value) (s:List (List (List UInt8))) (x y:Int) (c:List UInt8) (vc:Value) (h:AllK k p s) (hc:c.length=(firstC s).length) (hx:0≤x∧x<p - shortN k) (hy:0≤y∧y<p - 1) (w:World) (hL:Laid w) (hB:B≤w.heap.size) (hC:Cols B w v s) (hb:Bytes B w vc c) :
 Calls Tryz.prog 24 #[.agg #[.int .i64 k,.int .i64 p],v,.agg #[.int .i64 x,.int .i64 y],vc] w fun e w'=>∃ A m cc A2 n2 c2,e = .returned (.tuple #[.slice A m cc,.slice A2 n2 c2,.int .i64 0])∧sepC.R (fun b=>w.heap.size≤b∧b<w'.heap.size) w' (.slice A m cc) (chgK k p s x y c)∧ReadP w'.heap.size w' (.slice A2 n2 c2) (touL k p x y)∧Below w.heap.size w w':=by
 have hln:=all_len h
 have hne:=(chg_list h.1.1 hx hy).2.2
 obtain ⟨A,cap,rfl,_,_⟩:=id hC
 obtain ⟨Ac,capc,rfl,_,_⟩:=id hb
 obtain ⟨W2,hW2⟩:∃ W2,((((w).alloc (.cells #[.int .i64 k,.int .i64 p] 24)).alloc (.cells #[.slice A s.length cap] 28)).alloc (.cells #[.int .i64 x,.int .i64 y] 53)).alloc (.cells #[.slice Ac c.length capc] 32)=W2:=⟨_,rfl⟩
 have hBW:Below w.heap.size w W2:=by rw [←hW2];exact ((below_two w _ _).alloc (by simp;omega) _).alloc (by simp;omega) _
 have S2:Hid (W2.heap.size=w.heap.size+4):=by unfold Hid;rw [←hW2];simp
 have b0:Blk W2 (w.heap.size) 24 #[.int .i64 k,.int .i64 p]:=by rw [←hW2];exact (((Blk.new (w) 24 #[.int .i64 k,.int .i64 p]).alloc (.cells #[.slice A s.length cap] 28)).alloc (.cells #[.int .i64 x,.int .i64 y] 53)).alloc (.cells #[.slice Ac c.length capc] 32)
 have b1:Blk W2 (w.heap.size+1) 28 #[.slice A s.length cap]:=by rw [←hW2];exact ((Blk.at_size (Blk.new ((w).alloc (.cells #[.int .i64 k,.int .i64 p] 24)) 28 #[.slice A s.length cap]) (by simp)).alloc (.cells #[.int .i64 x,.int .i64 y] 53)).alloc (.cells #[.slice Ac c.length capc] 32)
 have b2:Blk W2 (w.heap.size+2) 53 #[.int .i64 x,.int .i64 y]:=by rw [←hW2];exact (Blk.at_size (Blk.new (((w).alloc (.cells #[.int .i64 k,.int .i64 p] 24)).alloc (.cells #[.slice A s.length cap] 28)) 53 #[.int .i64 x,.int .i64 y]) (by simp)).alloc (.cells #[.slice Ac c.length capc] 32)
 have b3:Blk W2 (w.heap.size+3) 32 #[.slice Ac c.length capc]:=by rw [←hW2];exact Blk.at_size (Blk.new ((((w).alloc (.cells #[.int .i64 k,.int .i64 p] 24)).alloc (.cells #[.slice A s.length cap] 28)).alloc (.cells #[.int .i64 x,.int .i64 y] 53)) 32 #[.slice Ac c.length capc]) (by simp)
 have hL2:=hL.next hBW
 have HA:=Lib.hid (ans_H_yes 62 #[.pointer (some ⟨w.heap.size,0,none⟩),.pointer (some ⟨w.heap.size+1,0,none⟩),.pointer (some ⟨w.heap.size+2,0,none⟩),.pointer (some ⟨w.heap.size+3,0,none⟩)] W2 (fun u W=>∃ A m cc A2 n2 c2,u = .agg #[.slice A m cc,.slice A2 n2 c2]∧sepC.R (fun b=>W2.heap.size+2≤b∧b<W.heap.size) W (.slice A m cc) (chgK k p s x y c)∧ReadP W.heap.size W (.slice A2 n2 c2) (touL k p x y)) (enter_change1 _) (fun u W W' hP e0 e1 hk hsz=>by
  obtain ⟨A,m,cc,A2,n2,c2,rfl,h1,g9,cap9,e9,hg9,hc9⟩:=hP
  have h0:0<(touL k p x y).length:=List.length_pos_iff.2 hne
  have hn0:g9≠W2.heap.size:=fun e=>by
   have h2:=(hc9 0 h0).1
   rw [e,Nat.zero_mul,e0.cell 0] at h2
   cases h2
  have hn1:g9≠W2.heap.size+1:=fun e=>by
   have h2:=(hc9 0 h0).2
   rw [e,Nat.zero_mul,e1.cell 1] at h2
   cases h2
  refine ⟨A,m,cc,A2,n2,c2,rfl,sepC.imp (sepC.keep h1 fun q hq=>hk q (by have h3:W2.heap.size+2≤q∧q<W.heap.size:=hq;constructor <;> omega)) (fun q hq=>by rw [←hsz];exact hq),g9,cap9,e9,by rw [←hsz];exact hg9,fun i hi=>⟨(World.cell?_of_block (hk g9 ⟨hn0,hn1⟩)).trans (hc9 i hi).1,(World.cell?_of_block (hk g9 ⟨hn0,hn1⟩)).trans (hc9 i hi).2⟩⟩) (fun U hU hsU=>by
  have hLU:=hL2.next hU
  have hBU:=below_in hBW hU
  have hCU:=hC.below (hBU.mono hB)
  have hbU:=hb.below (hBU.mono hB)
  have hBu:=Nat.le_trans hB hBU.size
  have HQ:=Lib.hid (fun (V:World) (hV:Below U.heap.size U V)=>asked_yes (B:=B) 43 k p (.slice A s.length cap) s (by have h2:=many_cols k p;rwa [←h.1.2] at h2) h.1.1 V (hLU.next hV) (Nat.le_trans hBu hV.size) (hCU.below (hV.mono hBu)) (by omega) h.2)
  have HCH:=Lib.hid (fun (V:World) (hV:Below U.heap.size U V)=>changed_yes (B:=B) k p (.slice A s.length cap) s x y c (.slice Ac c.length capc) h hc hx hy V (hLU.next hV) (Nat.le_trans hBu hV.size) (hCU.below (hV.mono hBu)) (hbU.below (hV.mono hBu)))
  have HSS:Hid (∀ V,Below U.heap.size U V→(fun U:World=>U.cell? ⟨w.heap.size,0,none⟩=some (.int .i64 k)∧U.cell? ⟨w.heap.size,1,none⟩=some (.int .i64 p)∧U.cell? ⟨w.heap.size+1,0,none⟩=some (.slice A s.length cap)∧U.cell? ⟨w.heap.size+2,0,none⟩=some (.int .i64 x)∧U.cell? ⟨w.heap.size+2,1,none⟩=some (.int .i64 y)∧U.cell? ⟨w.heap.size+3,0,none⟩=some (.slice Ac c.length capc)) V):=fun V hV=>⟨((b0.below hU b0.lt).below hV (b0.below hU b0.lt).lt).cell 0,((b0.below hU b0.lt).below hV (b0.below hU b0.lt).lt).cell 1,((b1.below hU b1.lt).below hV (b1.below hU b1.lt).lt).cell 0,((b2.below hU b2.lt).below hV (b2.below hU b2.lt).lt).cell 0,((b2.below hU b2.lt).below hV (b2.below hU b2.lt).lt).cell 1,((b3.below hU b3.lt).below hV (b3.below hU b3.lt).lt).cell 0⟩
  have HSV:Hid (∀ V u1 u2,(fun U:World=>U.cell? ⟨w.heap.size,0,none⟩=some (.int .i64 k)∧U.cell? ⟨w.heap.size,1,none⟩=some (.int .i64 p)∧U.cell? ⟨w.heap.size+1,0,none⟩=some (.slice A s.length cap)∧U.cell? ⟨w.heap.size+2,0,none⟩=some (.int .i64 x)∧U.cell? ⟨w.heap.size+2,1,none⟩=some (.int .i64 y)∧U.cell? ⟨w.heap.size+3,0,none⟩=some (.slice Ac c.length capc)) V→(fun U:World=>U.cell? ⟨w.heap.size,0,none⟩=some (.int .i64 k)∧U.cell? ⟨w.heap.size,1,none⟩=some (.int .i64 p)∧U.cell? ⟨w.heap.size+1,0,none⟩=some (.slice A s.length cap)∧U.cell? ⟨w.heap.size+2,0,none⟩=some (.int .i64 x)∧U.cell? ⟨w.heap.size+2,1,none⟩=some (.int .i64 y)∧U.cell? ⟨w.heap.size+3,0,none⟩=some (.slice Ac c.length capc)) ((V.setCell ⟨U.heap.size,0,none⟩ u1).setCell ⟨U.heap.size,1,none⟩ u2)):=fun V u1 u2 hS=>by
   have h0:=(b0.below hU b0.lt).lt
   have h1:=(b1.below hU b1.lt).lt
   have h2:=(b2.below hU b2.lt).lt
   have h3:=(b3.below hU b3.lt).lt
   have hkk:∀ q:Addr,q.block<U.heap.size→((V.setCell ⟨U.heap.size,0,none⟩ u1).setCell ⟨U.heap.size,1,none⟩ u2).cell? q=V.cell? q:=fun q hq=>World.cell?_of_block ((Below.heap_setCell _ ⟨U.heap.size,1,none⟩ u2 q.block (Nat.ne_of_lt hq)).trans (Below.heap_setCell V ⟨U.heap.size,0,none⟩ u1 q.block (Nat.ne_of_lt hq)))
   obtain ⟨q0,q1,q2,q3,q4,q5⟩:=hS
   exact ⟨(hkk ⟨w.heap.size,0,none⟩ h0).trans q0,(hkk ⟨w.heap.size,1,none⟩ h0).trans q1,(hkk ⟨w.heap.size+1,0,none⟩ h1).trans q2,(hkk ⟨w.heap.size+2,0,none⟩ h2).trans q3,(hkk ⟨w.heap.size+2,1,none⟩ h2).trans q4,(hkk ⟨w.heap.size+3,0,none⟩ h3).trans q5⟩
  have hBz:=below_one U (.cells #[.slice none 0 0,.slice none 0 0] 98)
  have bz:=Blk.new U 98 #[.slice none 0 0,.slice none 0 0]
  have HNE:Hid (0<(touL k p x y).length):=List.length_pos_iff.2 hne
  have hlU:W2.heap.size≤U.heap.size:=hU.size
  clear hb hC hCU hbU b0 b1 b2 b3 hW2 hL hL2 hLU h hc hx hy hln hne
  generalize touL k p x y=tl at *
  generalize chgK k p s x y c=cg at *
  generalize s.length=N at *
  generalize c.length=nc at *
  obtain ⟨Uz,hUz⟩:∃ Uz,U.alloc (.cells #[.slice none 0 0,.slice none 0 0] 98)=Uz:=⟨_,rfl⟩
  rw [hUz] at hBz bz
  refine (callsIn_wide (n:=9)).1 ?_
  refine callsIn_of_wp_marks Tryz.func62 rfl trivial ?_ rfl
  simp only [Tryz.ntmps62,List.size_toArray,List.length_cons,List.length_nil,Nat.reduceAdd,Nat.reduceSub,Array.replicate_succ,Array.replicate_zero,List.push_toArray,List.append_toArray,List.nil_append,List.cons_append]
  gi_wp2_with fail
  have hBx:Below Uz.heap.size Uz Uz.drew:=(Below.refl _ _).drew
  have HSS2:=Lib.hid (fun (V:World) (hV:Below Uz.heap.size Uz V)=>HSS.out V (below_in hBz hV))
  have hS:(fun U:World=>U.cell? ⟨w.heap.size,0,none⟩=some (.int .i64 k)∧U.cell? ⟨w.heap.size,1,none⟩=some (.int .i64 p)∧U.cell? ⟨w.heap.size+1,0,none⟩=some (.slice A N cap)∧U.cell? ⟨w.heap.size+2,0,none⟩=some (.int .i64 x)∧U.cell? ⟨w.heap.size+2,1,none⟩=some (.int .i64 y)∧U.cell? ⟨w.heap.size+3,0,none⟩=some (.slice Ac nc capc)) Uz.drew:=HSS2.out _ hBx
  refine wpIn_mono (region_HF (Q:=NoPanic _) (S:=(fun U:World=>U.cell? ⟨w.heap.size,0,none⟩=some (.int .i64 k)∧U.cell? ⟨w.heap.size,1,none⟩=some (.int .i64 p)∧U.cell? ⟨w.heap.size+1,0,none⟩=some (.slice A N cap)∧U.cell? ⟨w.heap.size+2,0,none⟩=some (.int .i64 x)∧U.cell? ⟨w.heap.size+2,1,none⟩=some (.int .i64 y)∧U.cell? ⟨w.heap.size+3,0,none⟩=some (.slice Ac nc capc))) (by kernel_rfl) ?_) NoPanic.imp
  refine tkF (i:=0) (d:=5) (v:=.agg #[.int .i64 k,.int .i64 p]) (s:=hS) (c:=?_)
  simp only [ud9]
  refine tkF (i:=1) (d:=6) (v:=.slice A N cap) (s:=hS) (c:=?_)
  simp only [ud9]
  refine tkF (i:=3) (d:=8) (v:=.agg #[.int .i64 x,.int .i64 y]) (s:=hS) (c:=?_)
  simp only [ud9]
  refine tkF (i:=4) (d:=9) (v:=.slice Ac nc capc) (s:=hS) (c:=?_)
  simp only [ud9]
  refine oneF (i:=2) (c:=?_)
  gi_wp2_with fail
  refine ⟨trivial,(callsIn_wide.2 (HQ.out _ (below_in hBz hBx))).mono ?_⟩
  rintro e wn ⟨rfl,hB1⟩
  replace hBx:=below_in hBx hB1
  clear hS
  have hS:(fun U:World=>U.cell? ⟨w.heap.size,0,none⟩=some (.int .i64 k)∧U.cell? ⟨w.heap.size,1,none⟩=some (.int .i64 p)∧U.cell? ⟨w.heap.size+1,0,none⟩=some (.slice A N cap)∧U.cell? ⟨w.heap.size+2,0,none⟩=some (.int .i64 x)∧U.cell? ⟨w.heap.size+2,1,none⟩=some (.int .i64 y)∧U.cell? ⟨w.heap.size+3,0,none⟩=some (.slice Ac nc capc)) wn:=HSS2.out _ hBx
  gi_wp2
  try (refine ⟨hS,?_⟩)
  refine oneF (i:=5) (c:=?_)
  gi_wp2_with fail
  refine ⟨trivial,(callsIn_wide.2 (HCH.out _ (below_in hBz hBx))).mono ?_⟩
  rintro e wm ⟨cA,cn,cc,hA,hn,hc2,rfl,hsep,hrd,hB2⟩
  have hsn:=hBx.size
  replace hBx:=below_in hBx hB2
  clear hS
  have hS:(fun U:World=>U.cell? ⟨w.heap.size,0,none⟩=some (.int .i64 k)∧U.cell? ⟨w.heap.size,1,none⟩=some (.int .i64 p)∧U.cell? ⟨w.heap.size+1,0,none⟩=some (.slice A N cap)∧U.cell? ⟨w.heap.size+2,0,none⟩=some (.int .i64 x)∧U.cell? ⟨w.heap.size+2,1,none⟩=some (.int .i64 y)∧U.cell? ⟨w.heap.size+3,0,none⟩=some (.slice Ac nc capc)) wm:=HSS2.out _ hBx
  gi_wp2
  try (refine ⟨hS,?_⟩)
  refine oneF (i:=6) (c:=?_)
  have bzm:=bz.below hBx bz.lt
  have g0:=bzm.cell 0
  have g1:=bzm.cell 1
  have f0:=bzm.frozen 0
  have f1:=bzm.frozen 1
  simp only [gz9] at g0 g1
  have hSV:(fun U:World=>U.cell? ⟨w.heap.size,0,none⟩=some (.int .i64 k)∧U.cell? ⟨w.heap.size,1,none⟩=some (.int .i64 p)∧U.cell? ⟨w.heap.size+1,0,none⟩=some (.slice A N cap)∧U.cell? ⟨w.heap.size+2,0,none⟩=some (.int .i64 x)∧U.cell? ⟨w.heap.size+2,1,none⟩=some (.int .i64 y)∧U.cell? ⟨w.heap.size+3,0,none⟩=some (.slice Ac nc capc)) ((wm.setCell ⟨U.heap.size,0,none⟩ (.slice cA cn cc)).setCell ⟨U.heap.size,1,none⟩ (.slice hA hn hc2)):=HSV.out _ _ _ hS
  gi_wp2_with fail
  try (refine ⟨hSV,?_⟩)
  refine anyHF_done (by kernel_rfl) ?_ _
  refine NoPanic.normal ?_
  have r:=(bzm.set_ 0 (.slice cA cn cc)).set_ 1 (.slice hA hn hc2)
  have r0:=r.cell 0
  have r1:=r.cell 1
  simp only [List.setIfInBounds_toArray,List.set_cons_zero,List.set_cons_succ,List.getElem?_toArray,List.getElem?_cons_zero,List.getElem?_cons_succ] at r0 r1
  have hkk:∀ q:Nat,q≠U.heap.size→((wm.setCell ⟨U.heap.size,0,none⟩ (.slice cA cn cc)).setCell ⟨U.heap.size,1,none⟩ (.slice hA hn hc2)).heap[q]?=wm.heap[q]?:=fun q hq=>(Below.heap_setCell _ ⟨U.heap.size,1,none⟩ _ q hq).trans (Below.heap_setCell wm ⟨U.heap.size,0,none⟩ _ q hq)
  have hsz:((wm.setCell ⟨U.heap.size,0,none⟩ (.slice cA cn cc)).setCell ⟨U.heap.size,1,none⟩ (.slice hA hn hc2)).heap.size=wm.heap.size:=by simp
  have hU1:U.heap.size<Uz.heap.size:=bz.lt
  have hg0:=bzm.cell 0
  gi_wp2
  refine ⟨.agg #[.slice cA cn cc,.slice hA hn hc2],by simp [results,Tryz.results62,go_sem,r0,r1],cA,cn,cc,hA,hn,hc2,rfl,⟨cA,cn,cc,hA,hn,hc2,rfl,?_,?_⟩,?_⟩
  · refine sepC.imp (sepC.keep hsep fun q hq=>hkk q (by have h9:wn.heap.size<q∧q<wm.heap.size:=hq;omega)) fun q hq=>?_
    have h9:wn.heap.size<q∧q<wm.heap.size:=hq
    rw [hsz]
    exact ⟨by omega,h9.2⟩
  · obtain ⟨g9,cap9,e9,hg9,hc9⟩:=hrd
    have hne9:g9≠U.heap.size:=fun e=>by
     have h1:=(hc9 0 HNE.out).1
     rw [e,Nat.zero_mul,hg0] at h1
     cases h1
    refine ⟨g9,cap9,e9,by rw [hsz];exact hg9,fun i hi=>⟨?_,?_⟩⟩
    · exact (World.cell?_of_block (hkk g9 hne9)).trans (hc9 i hi).1
    · exact (World.cell?_of_block (hkk g9 hne9)).trans (hc9 i hi).2
  · exact ((below_in hBz hBx).setCell (by show U.heap.size≤U.heap.size;omega) _).setCell (by show U.heap.size≤U.heap.size;omega) _
  ))
 clear hb hC b0 b1 b2 b3 hL2 h hc hx hy hln hL
 obtain ⟨tl,htl⟩:∃ tl,touL k p x y=tl:=⟨_,rfl⟩
 rw [htl] at HA hne ⊢
 have HNE2:Hid (0<tl.length):=List.length_pos_iff.2 hne
 clear htl hne
 generalize chgK k p s x y c=cg at *
 generalize s.length=N at *
 generalize c.length=nc at *
 go_enter Tryz.func24,Tryz.ntmps24
 have hmf:∀ (fn:Fn) (first cap:Array Value) (w:World),(Instr.makeFunc fn first cap).run Tryz.prog w = .ok (.func fn first cap) w:=fun _ _ _ _=>rfl
 go_wp2_with (go_at_call 61;refine HA.out.mono ?_;rintro e w1 ⟨u,rfl,⟨cA,cn,cc,hA,hn,hc2,rfl,hsep,hrd⟩,hB1⟩)
 have bq:=Blk.new w1 98 #[.slice cA cn cc,.slice hA hn hc2]
 have hBq:=below_one w1 (.cells #[.slice cA cn cc,.slice hA hn hc2] 98)
 have c0:=bq.cell 0
 have c1:=bq.cell 1
 simp only [gz9] at c0 c1
 obtain ⟨wq,hwq⟩:∃ wq,w1.alloc (.cells #[.slice cA cn cc,.slice hA hn hc2] 98)=wq:=⟨_,rfl⟩
 rw [hwq] at hBq c0 c1 ⊢
 go_region
 go_wp2
 go_ret3
 have s2:=S2.out
 have hsw:=hBW.size
 refine ⟨cA,cn,cc,hA,hn,hc2,rfl,?_,?_,below_in (below_in hBW hB1) hBq.drew⟩
 · refine sepC.imp (sepC.keep hsep fun q hq=>hBq.drew.block q (by have h9:W2.heap.size+2≤q∧q<w1.heap.size:=hq;omega)) fun q hq=>?_
   have h9:W2.heap.size+2≤q∧q<w1.heap.size:=hq
   have h10:=hBq.drew.size
   exact ⟨by omega,by omega⟩
 · exact hrd.next hBq.drew
end Go.Proofs.YtknkdbincaonbaaGreatDoor.Cd

namespace Go.Proofs.YtknkdbincaonbaaGreatDoor.Cd
open Go.RowKit Go.Shelf Go.Maps Go.Proofs.YtknkdbincaonbaaGreatDoor.C Go.Proofs.YtknkdbincaonbaaGreatDoor.E Go.Proofs.YtknkdbincaonbaaGreatDoor.Q

theorem num_any (n:Int) (w:World):Calls Tryz.prog 12 #[.int .i64 n] w fun e w'=>e = .returned (.int .i64 n)∧w=w':=by
 go_enter Tryz.func12,Tryz.ntmps12
 go_wp2
 go_ret
 exact ⟨rfl,rfl⟩
def os_fst (w:World):List Obj:=[.cells #[.int .u8 1] 5,
 .cells #[.int .u8 2] 5,
 .cells #[.slice (some ⟨w.heap.size+0,0,none⟩) 1 1,.slice (some ⟨w.heap.size+1,0,none⟩) 1 1] 32,
 .cells #[.int .u8 4] 5,
 .cells #[.int .u8 8] 5,
 .cells #[.slice (some ⟨w.heap.size+3,0,none⟩) 1 1,.slice (some ⟨w.heap.size+4,0,none⟩) 1 1] 32,
 .cells #[.int .u8 5] 5,
 .cells #[.int .u8 10] 5,
 .cells #[.slice (some ⟨w.heap.size+6,0,none⟩) 1 1,.slice (some ⟨w.heap.size+7,0,none⟩) 1 1] 32,
 .cells #[.int .u8 11] 5,
 .cells #[.int .u8 6] 5,
 .cells #[.slice (some ⟨w.heap.size+9,0,none⟩) 1 1,.slice (some ⟨w.heap.size+10,0,none⟩) 1 1] 32,
 .cells #[.slice (some ⟨w.heap.size+2,0,none⟩) 2 2,.slice (some ⟨w.heap.size+5,0,none⟩) 2 2,.slice (some ⟨w.heap.size+8,0,none⟩) 2 2,.slice (some ⟨w.heap.size+11,0,none⟩) 2 2] 58]
theorem cols_fst (w:World):Cols (allocs w (os_fst w)).heap.size (allocs w (os_fst w)) (.slice (some ⟨w.heap.size+12,0,none⟩) 4 4) [[[1],[2]],[[4],[8]],[[5],[10]],[[11],[6]]]:=by
 refine cols_of (allocs_blk w (os_fst w) 12 _ _ rfl) rfl (by omega) fun j hj=>?_
 have hj3:j=0∨j=1∨j=2∨j=3:=by omega
 rcases hj3 with rfl | rfl | rfl | rfl
 · exact ⟨_,rfl,many_two (allocs_blk w (os_fst w) 2 _ _ rfl) (allocs_blk w (os_fst w) 0 _ _ rfl) (allocs_blk w (os_fst w) 1 _ _ rfl)⟩
 · exact ⟨_,rfl,many_two (allocs_blk w (os_fst w) 5 _ _ rfl) (allocs_blk w (os_fst w) 3 _ _ rfl) (allocs_blk w (os_fst w) 4 _ _ rfl)⟩
 · exact ⟨_,rfl,many_two (allocs_blk w (os_fst w) 8 _ _ rfl) (allocs_blk w (os_fst w) 6 _ _ rfl) (allocs_blk w (os_fst w) 7 _ _ rfl)⟩
 · exact ⟨_,rfl,many_two (allocs_blk w (os_fst w) 11 _ _ rfl) (allocs_blk w (os_fst w) 9 _ _ rfl) (allocs_blk w (os_fst w) 10 _ _ rfl)⟩
def os_snd (w:World):List Obj:=[.cells #[.int .u8 1] 5,
 .cells #[.int .u8 2] 5,
 .cells #[.slice (some ⟨w.heap.size+0,0,none⟩) 1 1,.slice (some ⟨w.heap.size+1,0,none⟩) 1 1] 32,
 .cells #[.int .u8 0] 5,
 .cells #[.int .u8 8] 5,
 .cells #[.slice (some ⟨w.heap.size+3,0,none⟩) 1 1,.slice (some ⟨w.heap.size+4,0,none⟩) 1 1] 32,
 .cells #[.int .u8 1] 5,
 .cells #[.int .u8 10] 5,
 .cells #[.slice (some ⟨w.heap.size+6,0,none⟩) 1 1,.slice (some ⟨w.heap.size+7,0,none⟩) 1 1] 32,
 .cells #[.int .u8 11] 5,
 .cells #[.int .u8 2] 5,
 .cells #[.slice (some ⟨w.heap.size+9,0,none⟩) 1 1,.slice (some ⟨w.heap.size+10,0,none⟩) 1 1] 32,
 .cells #[.slice (some ⟨w.heap.size+2,0,none⟩) 2 2,.slice (some ⟨w.heap.size+5,0,none⟩) 2 2,.slice (some ⟨w.heap.size+8,0,none⟩) 2 2,.slice (some ⟨w.heap.size+11,0,none⟩) 2 2] 58]
theorem cols_snd (w:World):Cols (allocs w (os_snd w)).heap.size (allocs w (os_snd w)) (.slice (some ⟨w.heap.size+12,0,none⟩) 4 4) [[[1],[2]],[[0],[8]],[[1],[10]],[[11],[2]]]:=by
 refine cols_of (allocs_blk w (os_snd w) 12 _ _ rfl) rfl (by omega) fun j hj=>?_
 have hj3:j=0∨j=1∨j=2∨j=3:=by omega
 rcases hj3 with rfl | rfl | rfl | rfl
 · exact ⟨_,rfl,many_two (allocs_blk w (os_snd w) 2 _ _ rfl) (allocs_blk w (os_snd w) 0 _ _ rfl) (allocs_blk w (os_snd w) 1 _ _ rfl)⟩
 · exact ⟨_,rfl,many_two (allocs_blk w (os_snd w) 5 _ _ rfl) (allocs_blk w (os_snd w) 3 _ _ rfl) (allocs_blk w (os_snd w) 4 _ _ rfl)⟩
 · exact ⟨_,rfl,many_two (allocs_blk w (os_snd w) 8 _ _ rfl) (allocs_blk w (os_snd w) 6 _ _ rfl) (allocs_blk w (os_snd w) 7 _ _ rfl)⟩
 · exact ⟨_,rfl,many_two (allocs_blk w (os_snd w) 11 _ _ rfl) (allocs_blk w (os_snd w) 9 _ _ rfl) (allocs_blk w (os_snd w) 10 _ _ rfl)⟩
theorem fill_row:wholeL 2 3 (fillL (datN 2 3) ((3:Int) - 1).toNat (1:Int).toNat [1,4,2,8]) = [[[1],[2]],[[4],[8]],[[5],[10]],[[11],[6]]]:=by decide +kernel
theorem chg_row:chgK 2 3 [[[1],[2]],[[4],[8]],[[5],[10]],[[11],[6]]] 1 0 [0] = [[[1],[2]],[[0],[8]],[[1],[10]],[[11],[2]]]:=by decide +kernel
theorem tou_row:touL 2 3 1 0 = [(2,0),(3,1)]:=by decide +kernel
theorem fill_ok:FillOk 2 3 [1,4,2,8] 1:=⟨⟨by decide,by decide⟩,by decide,by decide⟩
theorem row_all:AllK 2 3 [[[1],[2]],[[4],[8]],[[5],[10]],[[11],[6]]]:=by
 have hok:DataK 2 3 (fillL (datN 2 3) ((3:Int) - 1).toNat (1:Int).toNat [1,4,2,8]):=⟨⟨⟨by decide,by decide⟩,by decide⟩,right_of (by decide) (by decide) (fill_grid _ _ _ _) (by decide)⟩
 rw [←fill_row]
 exact (whole_all hok).1
attribute [local go_sem] Oper.semAt_some
theorem works_any (w:World) (hL:Laid w):Calls Tryz.prog 9 #[] w fun e w'=>e = .returned (.bool true)∧Below w.heap.size w w':=by
 have HF:=Lib.hid (fun (U:World) (v:Value) (hU:Laid U) (hb:Bytes U.heap.size U v [1,4,2,8])=>by
  have h:=fill_yes 2 3 v [1,4,2,8] 1 fill_ok U hU hb
  rw [fill_row] at h
  exact h)
 have HC:=Lib.hid (fun (U:World) (v vc:Value) (hU:Laid U) (hC:Cols U.heap.size U v [[[1],[2]],[[4],[8]],[[5],[10]],[[11],[6]]]) (hb:Bytes U.heap.size U vc [0])=>by
  have h:=change_yes (B:=U.heap.size) 2 3 v [[[1],[2]],[[4],[8]],[[5],[10]],[[11],[6]]] 1 0 [0] vc row_all rfl (by decide) (by decide) U hU (Nat.le_refl _) hC hb
  rw [chg_row,tou_row] at h
  exact h)
 have HS:=Lib.hid (fun (U:World) (v v2:Value) (h1:Cols U.heap.size U v [[[1],[2]],[[4],[8]],[[5],[10]],[[11],[6]]]) (h2:Cols U.heap.size U v2 [[[1],[2]],[[4],[8]],[[5],[10]],[[11],[6]]])=>same6_any v v2 _ _ U h1 h2 (Nat.le_refl _) (Nat.le_refl _) (fun j=>(by rcases j with _ | _ | _ | _ | j <;> simp)) (fun j=>(by rcases j with _ | _ | _ | _ | j <;> simp)) (by simp) (by simp))
 have HZ:=Lib.hid (fun (U:World) (v v2:Value) (h1:Cols U.heap.size U v [[[1],[2]],[[0],[8]],[[1],[10]],[[11],[2]]]) (h2:Cols U.heap.size U v2 [[[1],[2]],[[0],[8]],[[1],[10]],[[11],[2]]])=>same6_any v v2 _ _ U h1 h2 (Nat.le_refl _) (Nat.le_refl _) (fun j=>(by rcases j with _ | _ | _ | _ | j <;> simp)) (fun j=>(by rcases j with _ | _ | _ | _ | j <;> simp)) (by simp) (by simp))
 have HP:=Lib.hid (fun (U:World) (v v2:Value) (h1:ReadA U v [(2,0),(3,1)]) (h2:ReadA U v2 [(2,0),(3,1)])=>same_yes v v2 [(2,0),(3,1)] (by simp) U h1 h2)
 simp only [decide_true] at HS HZ
 have hBz:=below_one w (.cells #[.int .i64 2,.int .i64 3] 24)
 have bz:=Blk.new w 24 #[.int .i64 2,.int .i64 3]
 obtain ⟨wb,hwb⟩:∃ wb,w.alloc (.cells #[.int .i64 2,.int .i64 3] 24)=wb:=⟨_,rfl⟩
 rw [hwb] at hBz bz
 obtain ⟨wc,hwc⟩:∃ wc,wb.alloc (.cells #[.int .u8 1,.int .u8 4,.int .u8 2,.int .u8 8] 5)=wc:=⟨_,rfl⟩
 have hBc:Below wb.heap.size wb wc:=by rw [←hwc];exact below_one wb _
 have bc:Blk wc wb.heap.size 5 #[.int .u8 1,.int .u8 4,.int .u8 2,.int .u8 8]:=by rw [←hwc];exact Blk.new wb _ _
 have hby:Bytes wc.heap.size wc (.slice (some ⟨wb.heap.size,0,none⟩) 4 4) [1,4,2,8]:=⟨_,4,rfl,Nat.le_refl _,fun _=>⟨wb.heap.size,0,rfl,bc.lt,fun j hj=>by
  have hj4:j=0∨j=1∨j=2∨j=3:=by have:j<4:=hj;omega
  rcases hj4 with rfl | rfl | rfl | rfl <;> exact bc.cell _⟩⟩
 have c0:=bz.cell 0
 have c1:=bz.cell 1
 simp only [gz9] at c0 c1
 have HF1:=Lib.hid (HF.out wc _ (hL.next (below_in hBz hBc)) hby)
 clear hby bc HF
 go_enter Tryz.func9,Tryz.ntmps9
 go_wp2_with fail
 refine HF1.out.mono ?_
 rintro e w1 ⟨A1,n1,k1,rfl,hs1,hB1⟩
 obtain rfl:n1=4:=by obtain ⟨A9,c9,e9,_⟩:=hs1;injection e9
 have hB01:=below_in hBc hB1
 replace bz:=bz.below hB01 bz.lt
 clear c0 c1
 have c0:=bz.cell 0
 have c1:=bz.cell 1
 simp only [gz9] at c0 c1
 have hcA:Cols w1.heap.size w1 (.slice A1 4 k1) [[[1],[2]],[[4],[8]],[[5],[10]],[[11],[6]]]:=colsR_iff.1 (colsR.imp (sepC_cols hs1) fun q hq=>hq.2)
 obtain ⟨w2,hw2⟩:∃ w2,w1.alloc (.cells #[.int .u8 0] 5)=w2:=⟨_,rfl⟩
 have hB2:Below w1.heap.size w1 w2:=by rw [←hw2];exact below_one w1 _
 have b2:Blk w2 w1.heap.size 5 #[.int .u8 0]:=by rw [←hw2];exact Blk.new w1 _ _
 have hby2:Bytes w2.heap.size w2 (.slice (some ⟨w1.heap.size,0,none⟩) 1 1) [0]:=⟨_,1,rfl,Nat.le_refl _,fun _=>⟨w1.heap.size,0,rfl,b2.lt,fun j hj=>by
  have hj4:j=0:=by have:j<1:=hj;omega
  subst hj4
  exact b2.cell _⟩⟩
 have hW2:=below_in hBz (below_in hB01 hB2)
 have HC1:=Lib.hid (HC.out w2 _ _ (hL.next hW2) ((hcA.below hB2).more hB2.size) hby2)
 clear hby2 b2 HC hs1 HF1
 go_wp2_with fail
 refine HC1.out.mono ?_
 rintro e w3 ⟨A3,n3,k3,A4,n4,k4,rfl,hs3,hr3,hB3⟩
 obtain rfl:n3=4:=by obtain ⟨A9,c9,e9,_⟩:=hs3;injection e9
 obtain rfl:n4=2:=by obtain ⟨g9,c9,e9,_⟩:=hr3;injection e9
 have hcB:Cols w3.heap.size w3 (.slice A3 4 k3) [[[1],[2]],[[0],[8]],[[1],[10]],[[11],[2]]]:=colsR_iff.1 (colsR.imp (sepC_cols hs3) fun q hq=>hq.2)
 have hB13:=below_in hB2 hB3
 have hcA3:=(hcA.below hB13).more hB13.size
 have hW3:=below_in hW2 hB3
 have hF4:=cols_fst w3
 have hB4:=allocs_below w3 (os_fst w3)
 have hcA4:=(hcA3.below hB4).more hB4.size
 clear hs3 hcA hcA3 hB1 hB2 HC1 bz hB01 hB13 hB3
 go_wp2_with (first
  | (go_at_call 12;refine (num_any _ _).mono ?_;rintro e w' ⟨rfl,rfl⟩)
  | fail)
 refine (HS.out _ _ _ hcA4 hF4).mono ?_
 rintro e w5 ⟨rfl,hB5⟩
 have hB35:=below_in hB4 hB5
 have hG6:=cols_snd w5
 have hB6:=allocs_below w5 (os_snd w5)
 have hB36:=below_in hB35 hB6
 have hcB6:=(hcB.below hB36).more hB36.size
 clear hcA4 hF4 hcB
 go_wp2_with fail
 refine (HZ.out _ _ _ hcB6 hG6).mono ?_
 rintro e w7 ⟨rfl,hB7⟩
 have hB37:=below_in hB36 hB7
 have hr7:=ReadP.next hr3 hB37
 obtain ⟨w8,hw8⟩:∃ w8,w7.alloc (.cells #[.int .i64 2,.int .i64 0,.int .i64 3,.int .i64 1] 53)=w8:=⟨_,rfl⟩
 have hB8:Below w7.heap.size w7 w8:=by rw [←hw8];exact below_one w7 _
 have b8:Blk w8 w7.heap.size 53 #[.int .i64 2,.int .i64 0,.int .i64 3,.int .i64 1]:=by rw [←hw8];exact Blk.new w7 _ _
 have hr8:=(ReadP.readA hr7).next hB8
 have hq8:ReadA w8 (.slice (some ⟨w7.heap.size,0,none⟩) 2 2) [(2,0),(3,1)]:=⟨_,2,rfl,fun j hj=>⟨w7.heap.size,rfl,b8.lt,by
  have hj2:j=0∨j=1:=by have:j<2:=hj;omega
  rcases hj2 with rfl | rfl
  · exact ⟨b8.cell 0,b8.cell 1⟩
  · exact ⟨b8.cell 2,b8.cell 3⟩⟩⟩
 have HP8:=Lib.hid (HP.out w8 _ _ hr8 hq8)
 clear hcB6 hG6 hr3 hr7 hr8 hq8 b8
 go_wp2_with fail
 refine HP8.out.mono ?_
 rintro e w9 ⟨rfl,hB9⟩
 go_wp2
 go_ret
 exact ⟨rfl,below_in hW3 (below_in hB37 (below_in hB8 hB9))⟩
end Go.Proofs.YtknkdbincaonbaaGreatDoor.Cd

namespace Go.Proofs.YtknkdbincaonbaaGreatDoor.Cd
open Go.RowKit Go.Shelf Go.Maps Go.Proofs.YtknkdbincaonbaaGreatDoor.C Go.Proofs.YtknkdbincaonbaaGreatDoor.E Go.Proofs.YtknkdbincaonbaaGreatDoor.Q


theorem ref9Right_any {B:Nat} (k p:Int) (v:Value) (css:List (List (List UInt8))) (w:World) (hB:B≤w.heap.size) (hC:Cols B w v css) (hlen:css.length≤1000) (b:Bool) (hb:b=true↔AllK k p css) :
 Calls Tryz.prog 14 #[.agg #[.int .i64 k,.int .i64 p],v] w fun e w'=>e = .returned (.bool b)∧Below w.heap.size w w':=by
 obtain ⟨A,cap,rfl,_,_⟩:=id hC
 have hBz:=below_one w (.cells #[.int .i64 k,.int .i64 p] 24)
 have bz:=Blk.new w 24 #[.int .i64 k,.int .i64 p]
 obtain ⟨wb,hwb⟩:∃ wb,w.alloc (.cells #[.int .i64 k,.int .i64 p] 24)=wb:=⟨_,rfl⟩
 rw [hwb] at hBz bz
 have c0:=bz.cell 0
 have c1:=bz.cell 1
 simp only [gz9] at c0 c1
 have HRT:=Lib.hid (refRight_any k p wb)
 by_cases hR:RightC k p
 case neg =>
  have hbf:b=false:=Bool.eq_false_iff.2 fun h=>hR (hb.1 h).1.1
  subst hbf
  clear hC hb hlen
  go_enter Tryz.func14,Tryz.ntmps14
  go_wp2_with (go_at_call 16;refine HRT.out.mono ?_;rintro e w1 ⟨_,h2,hB1⟩;obtain rfl:=h2 hR)
  go_ret
  exact ⟨rfl,below_in hBz hB1⟩
 have HCO:=Lib.hid (fun (U:World)=>refCols_any k p hR U)
 by_cases hn:(css.length:Int)=p - shortN k+madeN k
 case neg =>
  have hbf:b=false:=Bool.eq_false_iff.2 fun h=>hn (hb.1 h).1.2
  subst hbf
  have hnn:((css.length:Int) == p - shortN k+madeN k)=false:=beq_eq_false_iff_ne.2 hn
  clear hC hb hlen hn
  generalize css.length=N at *
  go_enter Tryz.func14,Tryz.ntmps14
  go_wp2_with (first
   | (go_at_call 16;refine HRT.out.mono ?_;rintro e w1 ⟨h1,_,hB1⟩;obtain rfl:=h1 hR;replace bz:=bz.below hB1 bz.lt;clear c0 c1;have c0:=bz.cell 0;have c1:=bz.cell 1;simp only [gz9] at c0 c1)
   | (go_at_call 47;refine (HCO.out _).mono ?_;rintro e w2 ⟨rfl,hB2⟩))
  go_ret
  exact ⟨rfl,below_in hBz (below_in hB1 hB2)⟩
 have HR6:=Lib.hid (fun (U:World) (hU:Below wb.heap.size wb U)=>right6_any (B:=B) p (.slice A css.length cap) css U (Nat.le_trans hB (below_in hBz hU).size) (hC.below ((below_in hBz hU).mono hB)) hlen b (hb.trans ⟨fun h=>h.2,fun h=>⟨⟨hR,hn⟩,h⟩⟩))
 have hnn:((css.length:Int) == p - shortN k+madeN k)=true:=by simpa using hn
 clear hC hb hlen hn
 generalize css.length=N at *
 go_enter Tryz.func14,Tryz.ntmps14
 go_wp2_with (first
  | (go_at_call 16;refine HRT.out.mono ?_;rintro e w1 ⟨h1,_,hB1⟩;obtain rfl:=h1 hR;replace bz:=bz.below hB1 bz.lt;clear c0 c1;have c0:=bz.cell 0;have c1:=bz.cell 1;simp only [gz9] at c0 c1)
  | (go_at_call 47;refine (HCO.out _).mono ?_;rintro e w2 ⟨rfl,hB2⟩;have hB12:=below_in hB1 hB2;replace bz:=bz.below hB2 bz.lt;clear c0 c1;have c0:=bz.cell 0;have c1:=bz.cell 1;simp only [gz9] at c0 c1)
  | (go_at_call 18;refine (HR6.out _ hB12).mono ?_;rintro e w3 ⟨rfl,hB3⟩))
 go_ret
 exact ⟨rfl,below_in hBz (below_in hB12 hB3)⟩
end Go.Proofs.YtknkdbincaonbaaGreatDoor.Cd
