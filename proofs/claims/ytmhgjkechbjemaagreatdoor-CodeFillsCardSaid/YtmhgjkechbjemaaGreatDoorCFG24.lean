/- -/
import Derived.Test.YtmhgjkechbjemaaGreatDoorCFG23
import Derived.Test.YtmhgjkechbjemaaGreatDoorCFG14
import Derived.Test.YtmhgjkechbjemaaGreatDoorCFG6
import Derived.Test.YtmhgjkechbjemaaGreatDoorCFCA
set_option linter.unusedVariables false
set_option linter.unusedSimpArgs false
set_option maxRecDepth 100000
set_option maxHeartbeats 4000000
namespace Go.Proofs.YtmhgjkechbjemaaGreatDoor.Cd
open Go.RowKit Go.Shelf Go.Maps Go.Proofs.YtmhgjkechbjemaaGreatDoor.C Go.Proofs.YtmhgjkechbjemaaGreatDoor.E Go.Proofs.YtmhgjkechbjemaaGreatDoor.Q
attribute [local go_sem] Oper.semAt_some

theorem enter_change1:∀ args W,(callFunc 66 args).run Tryz.prog W = .ok (.enter 66 args) W := enters_of Tryz.func66 (by kernel_rfl) rfl
theorem change_yes {B:Nat} (k p:Int) (v:Value) (s:List (List (List UInt8))) (x y:Int) (c:List UInt8) (vc:Value) (h:AllK k p s) (hc:c.length = (firstC s).length) (hx:0≤x∧x < p - shortN k) (hy:0≤y∧y < p - 1) (w:World) (hL:Laid w) (hB:B≤w.heap.size) (hC:Cols B w v s) (hb:Bytes B w vc c) :
 Calls Tryz.prog 27 #[.agg #[.int .i64 k,.int .i64 p],v,.agg #[.int .i64 x,.int .i64 y],vc] w fun e w'=>∃ A m cc A2 n2 c2,e = .returned (.tuple #[.slice A m cc,.slice A2 n2 c2,.int .i64 0])∧sepC.R (fun b=>w.heap.size≤b∧b < w'.heap.size) w' (.slice A m cc) (chgK k p s x y c)∧ReadP w'.heap.size w' (.slice A2 n2 c2) (touL k p x y)∧Below w.heap.size w w' := by
 have hln := all_len h
 have hne := (chg_list h.1.1 hx hy).2.2
 obtain ⟨A,cap,rfl,_,_⟩ := id hC
 obtain ⟨Ac,capc,rfl,_,_⟩ := id hb
 obtain ⟨W2,hW2⟩:∃ W2,((((w).alloc (.cells #[.int .i64 k,.int .i64 p] 24)).alloc (.cells #[.slice A s.length cap] 28)).alloc (.cells #[.int .i64 x,.int .i64 y] 57)).alloc (.cells #[.slice Ac c.length capc] 32) = W2 := ⟨_,rfl⟩
 have hBW:Below w.heap.size w W2 := by rw [←hW2];exact ((below_two w _ _).alloc (by simp;omega) _).alloc (by simp;omega) _
 have S2:Hid (W2.heap.size = w.heap.size+4) := by unfold Hid;rw [←hW2];simp
 have b0:Blk W2 (w.heap.size) 24 #[.int .i64 k,.int .i64 p] := by rw [←hW2];exact (((Blk.new (w) 24 #[.int .i64 k,.int .i64 p]).alloc (.cells #[.slice A s.length cap] 28)).alloc (.cells #[.int .i64 x,.int .i64 y] 57)).alloc (.cells #[.slice Ac c.length capc] 32)
 have b1:Blk W2 (w.heap.size+1) 28 #[.slice A s.length cap] := by rw [←hW2];exact ((Blk.at_size (Blk.new ((w).alloc (.cells #[.int .i64 k,.int .i64 p] 24)) 28 #[.slice A s.length cap]) (by simp)).alloc (.cells #[.int .i64 x,.int .i64 y] 57)).alloc (.cells #[.slice Ac c.length capc] 32)
 have b2:Blk W2 (w.heap.size+2) 57 #[.int .i64 x,.int .i64 y] := by rw [←hW2];exact (Blk.at_size (Blk.new (((w).alloc (.cells #[.int .i64 k,.int .i64 p] 24)).alloc (.cells #[.slice A s.length cap] 28)) 57 #[.int .i64 x,.int .i64 y]) (by simp)).alloc (.cells #[.slice Ac c.length capc] 32)
 have b3:Blk W2 (w.heap.size+3) 32 #[.slice Ac c.length capc] := by rw [←hW2];exact Blk.at_size (Blk.new ((((w).alloc (.cells #[.int .i64 k,.int .i64 p] 24)).alloc (.cells #[.slice A s.length cap] 28)).alloc (.cells #[.int .i64 x,.int .i64 y] 57)) 32 #[.slice Ac c.length capc]) (by simp)
 have hL2 := hL.next hBW
 have HA := Lib.hid (ans_H_yes 66 #[.pointer (some ⟨w.heap.size,0,none⟩),.pointer (some ⟨w.heap.size+1,0,none⟩),.pointer (some ⟨w.heap.size+2,0,none⟩),.pointer (some ⟨w.heap.size+3,0,none⟩)] W2 (fun u W=>∃ A m cc A2 n2 c2,u = .agg #[.slice A m cc,.slice A2 n2 c2]∧sepC.R (fun b=>W2.heap.size+2≤b∧b < W.heap.size) W (.slice A m cc) (chgK k p s x y c)∧ReadP W.heap.size W (.slice A2 n2 c2) (touL k p x y)) (enter_change1 _) (fun u W W' hP e0 e1 hk hsz=>by
  obtain ⟨A,m,cc,A2,n2,c2,rfl,h1,g9,cap9,e9,hg9,hc9⟩ := hP
  have h0:0 < (touL k p x y).length := List.length_pos_iff.2 hne
  have hn0:g9≠W2.heap.size := fun e=>by
   have h2 := (hc9 0 h0).1
   rw [e,Nat.zero_mul,e0.cell 0] at h2
   cases h2
  have hn1:g9≠W2.heap.size+1 := fun e=>by
   have h2 := (hc9 0 h0).2
   rw [e,Nat.zero_mul,e1.cell 1] at h2
   cases h2
  refine ⟨A,m,cc,A2,n2,c2,rfl,sepC.imp (sepC.keep h1 fun q hq=>hk q (by have h3:W2.heap.size+2≤q∧q < W.heap.size := hq;constructor <;> omega)) (fun q hq=>by rw [←hsz];exact hq),g9,cap9,e9,by rw [←hsz];exact hg9,fun i hi=>⟨(World.cell?_of_block (hk g9 ⟨hn0,hn1⟩)).trans (hc9 i hi).1,(World.cell?_of_block (hk g9 ⟨hn0,hn1⟩)).trans (hc9 i hi).2⟩⟩) (fun U hU hsU=>by
  have hLU := hL2.next hU
  have hBU := below_in hBW hU
  have hCU := hC.below (hBU.mono hB)
  have hbU := hb.below (hBU.mono hB)
  have hBu := Nat.le_trans hB hBU.size
  have HQ := Lib.hid (fun (V:World) (hV:Below U.heap.size U V)=>asked_yes (B := B) 45 k p (.slice A s.length cap) s (by have h2 := many_cols k p;rwa [←h.1.2] at h2) h.1.1 V (hLU.next hV) (Nat.le_trans hBu hV.size) (hCU.below (hV.mono hBu)) (by omega) h.2)
  have HCH := Lib.hid (fun (V:World) (hV:Below U.heap.size U V)=>changed_yes (B := B) k p (.slice A s.length cap) s x y c (.slice Ac c.length capc) h hc hx hy V (hLU.next hV) (Nat.le_trans hBu hV.size) (hCU.below (hV.mono hBu)) (hbU.below (hV.mono hBu)))
  have HSS:Hid (∀ V,Below U.heap.size U V→(fun U:World=>U.cell? ⟨w.heap.size,0,none⟩ = some (.int .i64 k)∧U.cell? ⟨w.heap.size,1,none⟩ = some (.int .i64 p)∧U.cell? ⟨w.heap.size+1,0,none⟩ = some (.slice A s.length cap)∧U.cell? ⟨w.heap.size+2,0,none⟩ = some (.int .i64 x)∧U.cell? ⟨w.heap.size+2,1,none⟩ = some (.int .i64 y)∧U.cell? ⟨w.heap.size+3,0,none⟩ = some (.slice Ac c.length capc)) V) := fun V hV=>⟨((b0.below hU b0.lt).below hV (b0.below hU b0.lt).lt).cell 0,((b0.below hU b0.lt).below hV (b0.below hU b0.lt).lt).cell 1,((b1.below hU b1.lt).below hV (b1.below hU b1.lt).lt).cell 0,((b2.below hU b2.lt).below hV (b2.below hU b2.lt).lt).cell 0,((b2.below hU b2.lt).below hV (b2.below hU b2.lt).lt).cell 1,((b3.below hU b3.lt).below hV (b3.below hU b3.lt).lt).cell 0⟩
  have HSV:Hid (∀ V u1 u2,(fun U:World=>U.cell? ⟨w.heap.size,0,none⟩ = some (.int .i64 k)∧U.cell? ⟨w.heap.size,1,none⟩ = some (.int .i64 p)∧U.cell? ⟨w.heap.size+1,0,none⟩ = some (.slice A s.length cap)∧U.cell? ⟨w.heap.size+2,0,none⟩ = some (.int .i64 x)∧U.cell? ⟨w.heap.size+2,1,none⟩ = some (.int .i64 y)∧U.cell? ⟨w.heap.size+3,0,none⟩ = some (.slice Ac c.length capc)) V→(fun U:World=>U.cell? ⟨w.heap.size,0,none⟩ = some (.int .i64 k)∧U.cell? ⟨w.heap.size,1,none⟩ = some (.int .i64 p)∧U.cell? ⟨w.heap.size+1,0,none⟩ = some (.slice A s.length cap)∧U.cell? ⟨w.heap.size+2,0,none⟩ = some (.int .i64 x)∧U.cell? ⟨w.heap.size+2,1,none⟩ = some (.int .i64 y)∧U.cell? ⟨w.heap.size+3,0,none⟩ = some (.slice Ac c.length capc)) ((V.setCell ⟨U.heap.size,0,none⟩ u1).setCell ⟨U.heap.size,1,none⟩ u2)) := fun V u1 u2 hS=>by
   have h0 := (b0.below hU b0.lt).lt
   have h1 := (b1.below hU b1.lt).lt
   have h2 := (b2.below hU b2.lt).lt
   have h3 := (b3.below hU b3.lt).lt
   have hkk:∀ q:Addr,q.block < U.heap.size→((V.setCell ⟨U.heap.size,0,none⟩ u1).setCell ⟨U.heap.size,1,none⟩ u2).cell? q = V.cell? q := fun q hq=>World.cell?_of_block ((Below.heap_setCell _ ⟨U.heap.size,1,none⟩ u2 q.block (Nat.ne_of_lt hq)).trans (Below.heap_setCell V ⟨U.heap.size,0,none⟩ u1 q.block (Nat.ne_of_lt hq)))
   obtain ⟨q0,q1,q2,q3,q4,q5⟩ := hS
   exact ⟨(hkk ⟨w.heap.size,0,none⟩ h0).trans q0,(hkk ⟨w.heap.size,1,none⟩ h0).trans q1,(hkk ⟨w.heap.size+1,0,none⟩ h1).trans q2,(hkk ⟨w.heap.size+2,0,none⟩ h2).trans q3,(hkk ⟨w.heap.size+2,1,none⟩ h2).trans q4,(hkk ⟨w.heap.size+3,0,none⟩ h3).trans q5⟩
  have hBz := below_one U (.cells #[.slice none 0 0,.slice none 0 0] 102)
  have bz := Blk.new U 102 #[.slice none 0 0,.slice none 0 0]
  have HNE:Hid (0 < (touL k p x y).length) := List.length_pos_iff.2 hne
  have hlU:W2.heap.size≤U.heap.size := hU.size
  clear hb hC hCU hbU b0 b1 b2 b3 hW2 hL hL2 hLU h hc hx hy hln hne
  generalize touL k p x y = tl at *
  generalize chgK k p s x y c = cg at *
  generalize s.length = N at *
  generalize c.length = nc at *
  obtain ⟨Uz,hUz⟩:∃ Uz,U.alloc (.cells #[.slice none 0 0,.slice none 0 0] 102) = Uz := ⟨_,rfl⟩
  rw [hUz] at hBz bz
  refine (callsIn_wide (n := 9)).1 ?_
  refine callsIn_of_wp_marks Tryz.func66 rfl trivial ?_ rfl
  simp only [Tryz.ntmps66,List.size_toArray,List.length_cons,List.length_nil,Nat.reduceAdd,Nat.reduceSub,Array.replicate_succ,Array.replicate_zero,List.push_toArray,List.append_toArray,List.nil_append,List.cons_append]
  gi_wp2_with fail
  have hBx:Below Uz.heap.size Uz Uz.drew := (Below.refl _ _).drew
  have HSS2 := Lib.hid (fun (V:World) (hV:Below Uz.heap.size Uz V)=>HSS.out V (below_in hBz hV))
  have hS:(fun U:World=>U.cell? ⟨w.heap.size,0,none⟩ = some (.int .i64 k)∧U.cell? ⟨w.heap.size,1,none⟩ = some (.int .i64 p)∧U.cell? ⟨w.heap.size+1,0,none⟩ = some (.slice A N cap)∧U.cell? ⟨w.heap.size+2,0,none⟩ = some (.int .i64 x)∧U.cell? ⟨w.heap.size+2,1,none⟩ = some (.int .i64 y)∧U.cell? ⟨w.heap.size+3,0,none⟩ = some (.slice Ac nc capc)) Uz.drew := HSS2.out _ hBx
  refine wpIn_mono (region_HF (Q := NoPanic _) (S := (fun U:World=>U.cell? ⟨w.heap.size,0,none⟩ = some (.int .i64 k)∧U.cell? ⟨w.heap.size,1,none⟩ = some (.int .i64 p)∧U.cell? ⟨w.heap.size+1,0,none⟩ = some (.slice A N cap)∧U.cell? ⟨w.heap.size+2,0,none⟩ = some (.int .i64 x)∧U.cell? ⟨w.heap.size+2,1,none⟩ = some (.int .i64 y)∧U.cell? ⟨w.heap.size+3,0,none⟩ = some (.slice Ac nc capc))) (by kernel_rfl) ?_) NoPanic.imp
  refine tkF (i := 0) (d := 5) (v := .agg #[.int .i64 k,.int .i64 p]) (s := hS) (c := ?_)
  simp only [ud9]
  refine tkF (i := 1) (d := 6) (v := .slice A N cap) (s := hS) (c := ?_)
  simp only [ud9]
  refine tkF (i := 3) (d := 8) (v := .agg #[.int .i64 x,.int .i64 y]) (s := hS) (c := ?_)
  simp only [ud9]
  refine tkF (i := 4) (d := 9) (v := .slice Ac nc capc) (s := hS) (c := ?_)
  simp only [ud9]
  refine oneF (i := 2) (c := ?_)
  gi_wp2_with fail
  refine ⟨trivial,(callsIn_wide.2 (HQ.out _ (below_in hBz hBx))).mono ?_⟩
  rintro e wn ⟨rfl,hB1⟩
  replace hBx := below_in hBx hB1
  clear hS
  have hS:(fun U:World=>U.cell? ⟨w.heap.size,0,none⟩ = some (.int .i64 k)∧U.cell? ⟨w.heap.size,1,none⟩ = some (.int .i64 p)∧U.cell? ⟨w.heap.size+1,0,none⟩ = some (.slice A N cap)∧U.cell? ⟨w.heap.size+2,0,none⟩ = some (.int .i64 x)∧U.cell? ⟨w.heap.size+2,1,none⟩ = some (.int .i64 y)∧U.cell? ⟨w.heap.size+3,0,none⟩ = some (.slice Ac nc capc)) wn := HSS2.out _ hBx
  gi_wp2
  try (refine ⟨hS,?_⟩)
  refine oneF (i := 5) (c := ?_)
  gi_wp2_with fail
  refine ⟨trivial,(callsIn_wide.2 (HCH.out _ (below_in hBz hBx))).mono ?_⟩
  rintro e wm ⟨cA,cn,cc,hA,hn,hc2,rfl,hsep,hrd,hB2⟩
  have hsn := hBx.size
  replace hBx := below_in hBx hB2
  clear hS
  have hS:(fun U:World=>U.cell? ⟨w.heap.size,0,none⟩ = some (.int .i64 k)∧U.cell? ⟨w.heap.size,1,none⟩ = some (.int .i64 p)∧U.cell? ⟨w.heap.size+1,0,none⟩ = some (.slice A N cap)∧U.cell? ⟨w.heap.size+2,0,none⟩ = some (.int .i64 x)∧U.cell? ⟨w.heap.size+2,1,none⟩ = some (.int .i64 y)∧U.cell? ⟨w.heap.size+3,0,none⟩ = some (.slice Ac nc capc)) wm := HSS2.out _ hBx
  gi_wp2
  try (refine ⟨hS,?_⟩)
  refine oneF (i := 6) (c := ?_)
  have bzm := bz.below hBx bz.lt
  have g0 := bzm.cell 0
  have g1 := bzm.cell 1
  have f0 := bzm.frozen 0
  have f1 := bzm.frozen 1
  simp only [gz9] at g0 g1
  have hSV:(fun U:World=>U.cell? ⟨w.heap.size,0,none⟩ = some (.int .i64 k)∧U.cell? ⟨w.heap.size,1,none⟩ = some (.int .i64 p)∧U.cell? ⟨w.heap.size+1,0,none⟩ = some (.slice A N cap)∧U.cell? ⟨w.heap.size+2,0,none⟩ = some (.int .i64 x)∧U.cell? ⟨w.heap.size+2,1,none⟩ = some (.int .i64 y)∧U.cell? ⟨w.heap.size+3,0,none⟩ = some (.slice Ac nc capc)) ((wm.setCell ⟨U.heap.size,0,none⟩ (.slice cA cn cc)).setCell ⟨U.heap.size,1,none⟩ (.slice hA hn hc2)) := HSV.out _ _ _ hS
  gi_wp2_with fail
  try (refine ⟨hSV,?_⟩)
  refine anyHF_done (by kernel_rfl) ?_ _
  refine NoPanic.normal ?_
  have r := (bzm.set_ 0 (.slice cA cn cc)).set_ 1 (.slice hA hn hc2)
  have r0 := r.cell 0
  have r1 := r.cell 1
  simp only [List.setIfInBounds_toArray,List.set_cons_zero,List.set_cons_succ,List.getElem?_toArray,List.getElem?_cons_zero,List.getElem?_cons_succ] at r0 r1
  have hkk:∀ q:Nat,q≠U.heap.size→((wm.setCell ⟨U.heap.size,0,none⟩ (.slice cA cn cc)).setCell ⟨U.heap.size,1,none⟩ (.slice hA hn hc2)).heap[q]? = wm.heap[q]? := fun q hq=>(Below.heap_setCell _ ⟨U.heap.size,1,none⟩ _ q hq).trans (Below.heap_setCell wm ⟨U.heap.size,0,none⟩ _ q hq)
  have hsz:((wm.setCell ⟨U.heap.size,0,none⟩ (.slice cA cn cc)).setCell ⟨U.heap.size,1,none⟩ (.slice hA hn hc2)).heap.size = wm.heap.size := by simp
  have hU1:U.heap.size < Uz.heap.size := bz.lt
  have hg0 := bzm.cell 0
  gi_wp2
  refine ⟨.agg #[.slice cA cn cc,.slice hA hn hc2],by simp [results,Tryz.results66,go_sem,r0,r1],cA,cn,cc,hA,hn,hc2,rfl,⟨cA,cn,cc,hA,hn,hc2,rfl,?_,?_⟩,?_⟩
  · refine sepC.imp (sepC.keep hsep fun q hq=>hkk q (by have h9:wn.heap.size < q∧q < wm.heap.size := hq;omega)) fun q hq=>?_
    have h9:wn.heap.size < q∧q < wm.heap.size := hq
    rw [hsz]
    exact ⟨by omega,h9.2⟩
  · obtain ⟨g9,cap9,e9,hg9,hc9⟩ := hrd
    have hne9:g9≠U.heap.size := fun e=>by
     have h1 := (hc9 0 HNE.out).1
     rw [e,Nat.zero_mul,hg0] at h1
     cases h1
    refine ⟨g9,cap9,e9,by rw [hsz];exact hg9,fun i hi=>⟨?_,?_⟩⟩
    · exact (World.cell?_of_block (hkk g9 hne9)).trans (hc9 i hi).1
    · exact (World.cell?_of_block (hkk g9 hne9)).trans (hc9 i hi).2
  · exact ((below_in hBz hBx).setCell (by show U.heap.size≤U.heap.size;omega) _).setCell (by show U.heap.size≤U.heap.size;omega) _
  ))
 clear hb hC b0 b1 b2 b3 hL2 h hc hx hy hln hL
 obtain ⟨tl,htl⟩:∃ tl,touL k p x y = tl := ⟨_,rfl⟩
 rw [htl] at HA hne ⊢
 have HNE2:Hid (0 < tl.length) := List.length_pos_iff.2 hne
 clear htl hne
 generalize chgK k p s x y c = cg at *
 generalize s.length = N at *
 generalize c.length = nc at *
 go_enter Tryz.func27,Tryz.ntmps27
 have hmf:∀ (fn:Fn) (first cap:Array Value) (w:World),(Instr.makeFunc fn first cap).run Tryz.prog w = .ok (.func fn first cap) w := fun _ _ _ _=>rfl
 go_wp2_with (go_at_call 65;refine HA.out.mono ?_;rintro e w1 ⟨u,rfl,⟨cA,cn,cc,hA,hn,hc2,rfl,hsep,hrd⟩,hB1⟩)
 have bq := Blk.new w1 102 #[.slice cA cn cc,.slice hA hn hc2]
 have hBq := below_one w1 (.cells #[.slice cA cn cc,.slice hA hn hc2] 102)
 have c0 := bq.cell 0
 have c1 := bq.cell 1
 simp only [gz9] at c0 c1
 obtain ⟨wq,hwq⟩:∃ wq,w1.alloc (.cells #[.slice cA cn cc,.slice hA hn hc2] 102) = wq := ⟨_,rfl⟩
 rw [hwq] at hBq c0 c1 ⊢
 go_region
 go_wp2
 go_ret3
 have s2 := S2.out
 have hsw := hBW.size
 refine ⟨cA,cn,cc,hA,hn,hc2,rfl,?_,?_,below_in (below_in hBW hB1) hBq.drew⟩
 · refine sepC.imp (sepC.keep hsep fun q hq=>hBq.drew.block q (by have h9:W2.heap.size+2≤q∧q < w1.heap.size := hq;omega)) fun q hq=>?_
   have h9:W2.heap.size+2≤q∧q < w1.heap.size := hq
   have h10 := hBq.drew.size
   exact ⟨by omega,by omega⟩
 · exact hrd.next hBq.drew
end Go.Proofs.YtmhgjkechbjemaaGreatDoor.Cd

namespace Go.Proofs.YtmhgjkechbjemaaGreatDoor.Cd
open Go.RowKit Go.Shelf Go.Maps Go.Proofs.YtmhgjkechbjemaaGreatDoor.C Go.Proofs.YtmhgjkechbjemaaGreatDoor.E Go.Proofs.YtmhgjkechbjemaaGreatDoor.Q

theorem num_any (n:Int) (w:World):Calls Tryz.prog 13 #[.int .i64 n] w fun e w'=>e = .returned (.int .i64 n)∧w = w' := by
 go_enter Tryz.func13,Tryz.ntmps13
 go_wp2
 go_ret
 exact ⟨rfl,rfl⟩
def os_fst (w:World):List Obj := [.cells #[.int .u8 1] 5,
 .cells #[.int .u8 2] 5,
 .cells #[.slice (some ⟨w.heap.size+0,0,none⟩) 1 1,.slice (some ⟨w.heap.size+1,0,none⟩) 1 1] 32,
 .cells #[.int .u8 4] 5,
 .cells #[.int .u8 8] 5,
 .cells #[.slice (some ⟨w.heap.size+3,0,none⟩) 1 1,.slice (some ⟨w.heap.size+4,0,none⟩) 1 1] 32,
 .cells #[.int .u8 5] 5,
 .cells #[.int .u8 10] 5,
 .cells #[.slice (some ⟨w.heap.size+6,0,none⟩) 1 1,.slice (some ⟨w.heap.size+7,0,none⟩) 1 1] 32,
 .cells #[.int .u8 11] 5,
 .cells #[.int .u8 6] 5,
 .cells #[.slice (some ⟨w.heap.size+9,0,none⟩) 1 1,.slice (some ⟨w.heap.size+10,0,none⟩) 1 1] 32,
 .cells #[.slice (some ⟨w.heap.size+2,0,none⟩) 2 2,.slice (some ⟨w.heap.size+5,0,none⟩) 2 2,.slice (some ⟨w.heap.size+8,0,none⟩) 2 2,.slice (some ⟨w.heap.size+11,0,none⟩) 2 2] 62]
theorem cols_fst (w:World):Cols (allocs w (os_fst w)).heap.size (allocs w (os_fst w)) (.slice (some ⟨w.heap.size+12,0,none⟩) 4 4) [[[1],[2]],[[4],[8]],[[5],[10]],[[11],[6]]] := by
 refine cols_of (allocs_blk w (os_fst w) 12 _ _ rfl) rfl (by omega) fun j hj=>?_
 have hj3:j = 0∨j = 1∨j = 2∨j = 3 := by omega
 rcases hj3 with rfl | rfl | rfl | rfl
 · exact ⟨_,rfl,many_two (allocs_blk w (os_fst w) 2 _ _ rfl) (allocs_blk w (os_fst w) 0 _ _ rfl) (allocs_blk w (os_fst w) 1 _ _ rfl)⟩
 · exact ⟨_,rfl,many_two (allocs_blk w (os_fst w) 5 _ _ rfl) (allocs_blk w (os_fst w) 3 _ _ rfl) (allocs_blk w (os_fst w) 4 _ _ rfl)⟩
 · exact ⟨_,rfl,many_two (allocs_blk w (os_fst w) 8 _ _ rfl) (allocs_blk w (os_fst w) 6 _ _ rfl) (allocs_blk w (os_fst w) 7 _ _ rfl)⟩
 · exact ⟨_,rfl,many_two (allocs_blk w (os_fst w) 11 _ _ rfl) (allocs_blk w (os_fst w) 9 _ _ rfl) (allocs_blk w (os_fst w) 10 _ _ rfl)⟩
def os_snd (w:World):List Obj := [.cells #[.int .u8 1] 5,
 .cells #[.int .u8 2] 5,
 .cells #[.slice (some ⟨w.heap.size+0,0,none⟩) 1 1,.slice (some ⟨w.heap.size+1,0,none⟩) 1 1] 32,
 .cells #[.int .u8 0] 5,
 .cells #[.int .u8 8] 5,
 .cells #[.slice (some ⟨w.heap.size+3,0,none⟩) 1 1,.slice (some ⟨w.heap.size+4,0,none⟩) 1 1] 32,
 .cells #[.int .u8 1] 5,
 .cells #[.int .u8 10] 5,
 .cells #[.slice (some ⟨w.heap.size+6,0,none⟩) 1 1,.slice (some ⟨w.heap.size+7,0,none⟩) 1 1] 32,
 .cells #[.int .u8 11] 5,
 .cells #[.int .u8 2] 5,
 .cells #[.slice (some ⟨w.heap.size+9,0,none⟩) 1 1,.slice (some ⟨w.heap.size+10,0,none⟩) 1 1] 32,
 .cells #[.slice (some ⟨w.heap.size+2,0,none⟩) 2 2,.slice (some ⟨w.heap.size+5,0,none⟩) 2 2,.slice (some ⟨w.heap.size+8,0,none⟩) 2 2,.slice (some ⟨w.heap.size+11,0,none⟩) 2 2] 62]
theorem cols_snd (w:World):Cols (allocs w (os_snd w)).heap.size (allocs w (os_snd w)) (.slice (some ⟨w.heap.size+12,0,none⟩) 4 4) [[[1],[2]],[[0],[8]],[[1],[10]],[[11],[2]]] := by
 refine cols_of (allocs_blk w (os_snd w) 12 _ _ rfl) rfl (by omega) fun j hj=>?_
 have hj3:j = 0∨j = 1∨j = 2∨j = 3 := by omega
 rcases hj3 with rfl | rfl | rfl | rfl
 · exact ⟨_,rfl,many_two (allocs_blk w (os_snd w) 2 _ _ rfl) (allocs_blk w (os_snd w) 0 _ _ rfl) (allocs_blk w (os_snd w) 1 _ _ rfl)⟩
 · exact ⟨_,rfl,many_two (allocs_blk w (os_snd w) 5 _ _ rfl) (allocs_blk w (os_snd w) 3 _ _ rfl) (allocs_blk w (os_snd w) 4 _ _ rfl)⟩
 · exact ⟨_,rfl,many_two (allocs_blk w (os_snd w) 8 _ _ rfl) (allocs_blk w (os_snd w) 6 _ _ rfl) (allocs_blk w (os_snd w) 7 _ _ rfl)⟩
 · exact ⟨_,rfl,many_two (allocs_blk w (os_snd w) 11 _ _ rfl) (allocs_blk w (os_snd w) 9 _ _ rfl) (allocs_blk w (os_snd w) 10 _ _ rfl)⟩
theorem fill_row:wholeL 2 3 (fillL (datN 2 3) ((3:Int) - 1).toNat (1:Int).toNat [1,4,2,8]) = [[[1],[2]],[[4],[8]],[[5],[10]],[[11],[6]]] := by decide +kernel
theorem chg_row:chgK 2 3 [[[1],[2]],[[4],[8]],[[5],[10]],[[11],[6]]] 1 0 [0] = [[[1],[2]],[[0],[8]],[[1],[10]],[[11],[2]]] := by decide +kernel
theorem tou_row:touL 2 3 1 0 = [(2,0),(3,1)] := by decide +kernel
theorem fill_ok:FillOk 2 3 [1,4,2,8] 1 := ⟨⟨by decide,by decide⟩,by decide,by decide⟩
theorem row_all:AllK 2 3 [[[1],[2]],[[4],[8]],[[5],[10]],[[11],[6]]] := by
 have hok:DataK 2 3 (fillL (datN 2 3) ((3:Int) - 1).toNat (1:Int).toNat [1,4,2,8]) := ⟨⟨⟨by decide,by decide⟩,by decide⟩,right_of (by decide) (by decide) (fill_grid _ _ _ _) (by decide)⟩
 rw [←fill_row]
 exact (whole_all hok).1
attribute [local go_sem] Oper.semAt_some
theorem works_any (w:World) (hL:Laid w):Calls Tryz.prog 10 #[] w fun e w'=>e = .returned (.bool true)∧Below w.heap.size w w' := by
 have HF := Lib.hid (fun (U:World) (v:Value) (hU:Laid U) (hb:Bytes U.heap.size U v [1,4,2,8])=>by
  have h := fill_yes 2 3 v [1,4,2,8] 1 fill_ok U hU hb
  rw [fill_row] at h
  exact h)
 have HC := Lib.hid (fun (U:World) (v vc:Value) (hU:Laid U) (hC:Cols U.heap.size U v [[[1],[2]],[[4],[8]],[[5],[10]],[[11],[6]]]) (hb:Bytes U.heap.size U vc [0])=>by
  have h := change_yes (B := U.heap.size) 2 3 v [[[1],[2]],[[4],[8]],[[5],[10]],[[11],[6]]] 1 0 [0] vc row_all rfl (by decide) (by decide) U hU (Nat.le_refl _) hC hb
  rw [chg_row,tou_row] at h
  exact h)
 have HS := Lib.hid (fun (U:World) (v v2:Value) (h1:Cols U.heap.size U v [[[1],[2]],[[4],[8]],[[5],[10]],[[11],[6]]]) (h2:Cols U.heap.size U v2 [[[1],[2]],[[4],[8]],[[5],[10]],[[11],[6]]])=>same6_any v v2 _ _ U h1 h2 (Nat.le_refl _) (Nat.le_refl _) (fun j=>(by rcases j with _ | _ | _ | _ | j <;> simp)) (fun j=>(by rcases j with _ | _ | _ | _ | j <;> simp)) (by simp) (by simp))
 have HZ := Lib.hid (fun (U:World) (v v2:Value) (h1:Cols U.heap.size U v [[[1],[2]],[[0],[8]],[[1],[10]],[[11],[2]]]) (h2:Cols U.heap.size U v2 [[[1],[2]],[[0],[8]],[[1],[10]],[[11],[2]]])=>same6_any v v2 _ _ U h1 h2 (Nat.le_refl _) (Nat.le_refl _) (fun j=>(by rcases j with _ | _ | _ | _ | j <;> simp)) (fun j=>(by rcases j with _ | _ | _ | _ | j <;> simp)) (by simp) (by simp))
 have HP := Lib.hid (fun (U:World) (v v2:Value) (h1:ReadA U v [(2,0),(3,1)]) (h2:ReadA U v2 [(2,0),(3,1)])=>same_yes v v2 [(2,0),(3,1)] (by simp) U h1 h2)
 simp only [decide_true] at HS HZ
 have hBz := below_one w (.cells #[.int .i64 2,.int .i64 3] 24)
 have bz := Blk.new w 24 #[.int .i64 2,.int .i64 3]
 obtain ⟨wb,hwb⟩:∃ wb,w.alloc (.cells #[.int .i64 2,.int .i64 3] 24) = wb := ⟨_,rfl⟩
 rw [hwb] at hBz bz
 obtain ⟨wc,hwc⟩:∃ wc,wb.alloc (.cells #[.int .u8 1,.int .u8 4,.int .u8 2,.int .u8 8] 5) = wc := ⟨_,rfl⟩
 have hBc:Below wb.heap.size wb wc := by rw [←hwc];exact below_one wb _
 have bc:Blk wc wb.heap.size 5 #[.int .u8 1,.int .u8 4,.int .u8 2,.int .u8 8] := by rw [←hwc];exact Blk.new wb _ _
 have hby:Bytes wc.heap.size wc (.slice (some ⟨wb.heap.size,0,none⟩) 4 4) [1,4,2,8] := ⟨_,4,rfl,Nat.le_refl _,fun _=>⟨wb.heap.size,0,rfl,bc.lt,fun j hj=>by
  have hj4:j = 0∨j = 1∨j = 2∨j = 3 := by have:j < 4 := hj;omega
  rcases hj4 with rfl | rfl | rfl | rfl <;> exact bc.cell _⟩⟩
 have c0 := bz.cell 0
 have c1 := bz.cell 1
 simp only [gz9] at c0 c1
 have HF1 := Lib.hid (HF.out wc _ (hL.next (below_in hBz hBc)) hby)
 clear hby bc HF
 go_enter Tryz.func10,Tryz.ntmps10
 go_wp2_with fail
 refine HF1.out.mono ?_
 rintro e w1 ⟨A1,n1,k1,rfl,hs1,hB1⟩
 obtain rfl:n1 = 4 := by obtain ⟨A9,c9,e9,_⟩ := hs1;injection e9
 have hB01 := below_in hBc hB1
 replace bz := bz.below hB01 bz.lt
 clear c0 c1
 have c0 := bz.cell 0
 have c1 := bz.cell 1
 simp only [gz9] at c0 c1
 have hcA:Cols w1.heap.size w1 (.slice A1 4 k1) [[[1],[2]],[[4],[8]],[[5],[10]],[[11],[6]]] := colsR_iff.1 (colsR.imp (sepC_cols hs1) fun q hq=>hq.2)
 obtain ⟨w2,hw2⟩:∃ w2,w1.alloc (.cells #[.int .u8 0] 5) = w2 := ⟨_,rfl⟩
 have hB2:Below w1.heap.size w1 w2 := by rw [←hw2];exact below_one w1 _
 have b2:Blk w2 w1.heap.size 5 #[.int .u8 0] := by rw [←hw2];exact Blk.new w1 _ _
 have hby2:Bytes w2.heap.size w2 (.slice (some ⟨w1.heap.size,0,none⟩) 1 1) [0] := ⟨_,1,rfl,Nat.le_refl _,fun _=>⟨w1.heap.size,0,rfl,b2.lt,fun j hj=>by
  have hj4:j = 0 := by have:j < 1 := hj;omega
  subst hj4
  exact b2.cell _⟩⟩
 have hW2 := below_in hBz (below_in hB01 hB2)
 have HC1 := Lib.hid (HC.out w2 _ _ (hL.next hW2) ((hcA.below hB2).more hB2.size) hby2)
 clear hby2 b2 HC hs1 HF1
 go_wp2_with fail
 refine HC1.out.mono ?_
 rintro e w3 ⟨A3,n3,k3,A4,n4,k4,rfl,hs3,hr3,hB3⟩
 obtain rfl:n3 = 4 := by obtain ⟨A9,c9,e9,_⟩ := hs3;injection e9
 obtain rfl:n4 = 2 := by obtain ⟨g9,c9,e9,_⟩ := hr3;injection e9
 have hcB:Cols w3.heap.size w3 (.slice A3 4 k3) [[[1],[2]],[[0],[8]],[[1],[10]],[[11],[2]]] := colsR_iff.1 (colsR.imp (sepC_cols hs3) fun q hq=>hq.2)
 have hB13 := below_in hB2 hB3
 have hcA3 := (hcA.below hB13).more hB13.size
 have hW3 := below_in hW2 hB3
 have hF4 := cols_fst w3
 have hB4 := allocs_below w3 (os_fst w3)
 have hcA4 := (hcA3.below hB4).more hB4.size
 clear hs3 hcA hcA3 hB1 hB2 HC1 bz hB01 hB13 hB3
 go_wp2_with (first
  | (go_at_call 13;refine (num_any _ _).mono ?_;rintro e w' ⟨rfl,rfl⟩)
  | fail)
 refine (HS.out _ _ _ hcA4 hF4).mono ?_
 rintro e w5 ⟨rfl,hB5⟩
 have hB35 := below_in hB4 hB5
 have hG6 := cols_snd w5
 have hB6 := allocs_below w5 (os_snd w5)
 have hB36 := below_in hB35 hB6
 have hcB6 := (hcB.below hB36).more hB36.size
 clear hcA4 hF4 hcB
 go_wp2_with fail
 refine (HZ.out _ _ _ hcB6 hG6).mono ?_
 rintro e w7 ⟨rfl,hB7⟩
 have hB37 := below_in hB36 hB7
 have hr7 := ReadP.next hr3 hB37
 obtain ⟨w8,hw8⟩:∃ w8,w7.alloc (.cells #[.int .i64 2,.int .i64 0,.int .i64 3,.int .i64 1] 57) = w8 := ⟨_,rfl⟩
 have hB8:Below w7.heap.size w7 w8 := by rw [←hw8];exact below_one w7 _
 have b8:Blk w8 w7.heap.size 57 #[.int .i64 2,.int .i64 0,.int .i64 3,.int .i64 1] := by rw [←hw8];exact Blk.new w7 _ _
 have hr8 := (ReadP.readA hr7).next hB8
 have hq8:ReadA w8 (.slice (some ⟨w7.heap.size,0,none⟩) 2 2) [(2,0),(3,1)] := ⟨_,2,rfl,fun j hj=>⟨w7.heap.size,rfl,b8.lt,by
  have hj2:j = 0∨j = 1 := by have:j < 2 := hj;omega
  rcases hj2 with rfl | rfl
  · exact ⟨b8.cell 0,b8.cell 1⟩
  · exact ⟨b8.cell 2,b8.cell 3⟩⟩⟩
 have HP8 := Lib.hid (HP.out w8 _ _ hr8 hq8)
 clear hcB6 hG6 hr3 hr7 hr8 hq8 b8
 go_wp2_with fail
 refine HP8.out.mono ?_
 rintro e w9 ⟨rfl,hB9⟩
 go_wp2
 go_ret
 exact ⟨rfl,below_in hW3 (below_in hB37 (below_in hB8 hB9))⟩
end Go.Proofs.YtmhgjkechbjemaaGreatDoor.Cd

namespace Go.Proofs.YtmhgjkechbjemaaGreatDoor.Cd
open Go.RowKit Go.Shelf Go.Maps Go.Proofs.YtmhgjkechbjemaaGreatDoor.C Go.Proofs.YtmhgjkechbjemaaGreatDoor.E Go.Proofs.YtmhgjkechbjemaaGreatDoor.Q
attribute [local go_sem] Oper.semAt_some

theorem gather_any (base B gl gs k p:_) (A:Option Addr) (cap R n:Nat) (s:List (List (List UInt8))) (X Y:Nat) (lv:Value) (ls:List (List UInt8)) (w:World) (hX:X < s.length) (hY:Y < R) (hg:Grid R n s)
 (bl:Blk w gl 61 #[lv]) (bs:Blk w gs 79 #[.int .i64 k,.int .i64 p,.slice A s.length cap]) (hsl:gs < gl) (hlb:gl < base) (hBg:B≤gl) (hbase:base≤w.heap.size) (hC:Cols B w (.slice A s.length cap) s) (hrow:RowM (· < B) w base lv ls) (hlen:ls.length≤10000) :
 Calls Tryz.prog 82 #[.agg #[.int .i64 (X:Int),.int .i64 (Y:Int)],.pointer (some ⟨gl,0,none⟩),.pointer (some ⟨gs,0,none⟩)] w fun e w'=>e = .returned (.tuple #[])∧∃ lv',Blk w' gl 61 #[lv']∧RowM (· < B) w' base lv' (ls ++ [cellI s ((X:Int),(Y:Int))])∧Below gl w w' := by
 obtain ⟨lA,ln,lc,rfl⟩ := T.RowG.form hrow
 obtain ⟨Q,hQ⟩:∃ Q:Nat→Prop,(· < B) = Q := ⟨_,rfl⟩
 have hBB:∀ q,Q q→q < B := fun q hq=>by rw [←hQ] at hq;exact hq
 have hBz := below_one w (.cells #[.int .i64 (X:Int),.int .i64 (Y:Int)] 57)
 have bz := Blk.new w 57 #[.int .i64 (X:Int),.int .i64 (Y:Int)]
 obtain ⟨wb,hwb⟩:∃ wb,w.alloc (.cells #[.int .i64 (X:Int),.int .i64 (Y:Int)] 57) = wb := ⟨_,rfl⟩
 rw [hwb] at hBz bz
 have hsw:w.heap.size < wb.heap.size := bz.lt
 have HSS:Hid (∀ U,Below wb.heap.size wb U→(fun U:World=>U.cell? ⟨gl,0,none⟩ = some (.slice lA ln lc)∧U.cell? ⟨gs,2,none⟩ = some (.slice A s.length cap)∧U.cell? ⟨w.heap.size,0,none⟩ = some (.int .i64 (X:Int))∧U.cell? ⟨w.heap.size,1,none⟩ = some (.int .i64 (Y:Int))) U) := fun U hU=>by
  have h1 := below_in hBz hU
  exact ⟨(bl.below h1 bl.lt).cell 0,(bs.below h1 bs.lt).cell 2,(bz.below hU bz.lt).cell 0,(bz.below hU bz.lt).cell 1⟩
 have HCE := Lib.hid (fun (U:World) (hU:Below wb.heap.size wb U)=>cell_any (B := B) (.slice A s.length cap) s R n X Y U (by have h1 := (below_in hBz hU).size;omega) (hC.below ((below_in hBz hU).mono (by omega))) hg hX hY)
 rw [hQ] at hrow ⊢
 have HROW := Lib.hid (fun (U:World) (hU:Below wb.heap.size wb U)=>RowG.below hrow (below_in hBz hU))
 have HUU:Hid (∀ (U V:World) (uv:Value),Below wb.heap.size wb U→Below U.heap.size U V→Bytes B U uv (cellI s ((X:Int),(Y:Int)))→BytesP (fun b=>b < V.heap.size∧some b≠(Value.slice lA ln lc).ownBlock∧Q b) V uv (cellI s ((X:Int),(Y:Int)))) := fun U V uv hU hV hb=>by
  have h1 := (below_in hBz hU).size
  have h2 := hV.size
  refine BytesP.imp (hb.below (hV.mono (by omega))) fun q hq=>?_
  have h3:q < B := hq
  exact ⟨by omega,fun e=>by have h6 := RowG.own_le hrow q e.symm;omega,by rw [←hQ];exact h3⟩
 have HLEN:Hid (ls.length≤100000) := by unfold Hid;omega
 have HBS:Hid (∀ U,Below wb.heap.size wb U→base≤U.heap.size) := fun U hU=>by have h1 := (below_in hBz hU).size;omega
 have HKEEP:Hid (∀ (U V:World),Below wb.heap.size wb U→U.grownBy V (Value.slice lA ln lc).ownBlock→((fun U:World=>U.cell? ⟨gl,0,none⟩ = some (.slice lA ln lc)∧U.cell? ⟨gs,2,none⟩ = some (.slice A s.length cap)∧U.cell? ⟨w.heap.size,0,none⟩ = some (.int .i64 (X:Int))∧U.cell? ⟨w.heap.size,1,none⟩ = some (.int .i64 (Y:Int))) V)∧V.frozen? ⟨gl,0,none⟩ = false) := fun U V hU hg4=>by
  have hown:∀ b,(Value.slice lA ln lc).ownBlock = some b→base≤b∧b < w.heap.size := fun b e=>⟨RowG.own_le hrow b e,RowG.own_lt hrow b e⟩
  have h1 := below_in hBz hU
  have hs1 := h1.size
  have hsU := hU.size
  have hbl:Blk V gl 61 #[.slice lA ln lc] := (hg4.block gl (by omega) (fun e=>by have := (hown gl e.symm).1;omega)).trans (bl.below h1 bl.lt)
  have hbs:Blk V gs 79 #[.int .i64 k,.int .i64 p,.slice A s.length cap] := (hg4.block gs (by omega) (fun e=>by have := (hown gs e.symm).1;omega)).trans (bs.below h1 bs.lt)
  have hbz:Blk V w.heap.size 57 #[.int .i64 (X:Int),.int .i64 (Y:Int)] := (hg4.block w.heap.size (by omega) (fun e=>by have := (hown w.heap.size e.symm).2;omega)).trans (bz.below hU bz.lt)
  exact ⟨⟨hbl.cell 0,hbs.cell 2,hbz.cell 0,hbz.cell 1⟩,hbl.frozen 0⟩
 have HFIN:Hid (∀ (U V:World) (v5:Value) (ys:List (List UInt8)),Below wb.heap.size wb U→U.grownBy V (Value.slice lA ln lc).ownBlock→RowM Q V base v5 ys→∀ V',V' = V.setCell ⟨gl,0,none⟩ v5→Blk V' gl 61 #[v5]∧RowM Q V' base v5 ys∧Below gl w V') := fun U V v5 ys hU hg4 hr4 V' hV'=>by
  have hown:∀ b,(Value.slice lA ln lc).ownBlock = some b→base≤b∧b < w.heap.size := fun b e=>⟨RowG.own_le hrow b e,RowG.own_lt hrow b e⟩
  have h1 := below_in hBz hU
  have hs1 := h1.size
  have hbl:Blk V gl 61 #[.slice lA ln lc] := (hg4.block gl (by omega) (fun e=>by have := (hown gl e.symm).1;omega)).trans (bl.below h1 bl.lt)
  refine ⟨by rw [hV'];exact hbl.set_ 0 v5,?_,?_⟩
  · rw [hV']
    exact RowG.kept hr4 (grown_set V ⟨gl,0,none⟩ v5) (.inr fun e=>by have := RowG.own_le hr4 gl e;omega) (fun q hq e=>by injection e with e;have e2:q = gl := e;have := hBB q hq;omega)
  · rw [hV']
    have g1:gl≤w.heap.size := Nat.le_trans (Nat.le_of_lt hlb) hbase
    have g2:gl≤U.heap.size := Nat.le_trans g1 hs1
    exact (below_grown (h1.mono g1) hg4 g2 (fun b e=>Nat.le_trans (Nat.le_of_lt hlb) (hown b e).1)).setCell (Nat.le_refl _) _
 clear hC hrow bl bs bz hX hY hg hbase hlen hsl hlb hBg hBB hQ hsw
 generalize s.length = N at *
 refine (callsIn_wide (n := 9)).1 ?_
 refine callsIn_of_wp_marks Tryz.func82 rfl trivial ?_ rfl
 simp only [Tryz.ntmps82,List.size_toArray,List.length_cons,List.length_nil,Nat.reduceAdd,Nat.reduceSub,Array.replicate_succ,Array.replicate_zero,List.push_toArray,List.append_toArray,List.nil_append,List.cons_append]
 gi_wp2_with fail
 try rw [hwb]
 have hBx:Below wb.heap.size wb wb.drew := (Below.refl _ _).drew
 have hS := HSS.out _ hBx
 refine wpIn_mono (T.region_HG (Q := NoPanic _) (S := (fun U:World=>U.cell? ⟨gl,0,none⟩ = some (.slice lA ln lc)∧U.cell? ⟨gs,2,none⟩ = some (.slice A N cap)∧U.cell? ⟨w.heap.size,0,none⟩ = some (.int .i64 (X:Int))∧U.cell? ⟨w.heap.size,1,none⟩ = some (.int .i64 (Y:Int)))) (m := 7) (by kernel_rfl) ?_) NoPanic.imp
 refine T.anyHG_take (i := 0) (d := 4) (v := .slice lA ln lc) (by kernel_rfl) rfl (by kernel_rfl) (by kernel_rfl) (by kernel_rfl) rfl (by kernel_rfl) (fun _ _ _ h=>h) ⟨Or.inl ⟨by rfl,fun w hS=>by obtain ⟨h0,h1,h2,h3⟩ := hS;go_simp⟩,fun _=>rfl⟩ hS ?_
 simp only [ud9]
 refine T.anyHG_take (i := 1) (d := 5) (v := .pointer (some ⟨gs,2,none⟩)) (by kernel_rfl) rfl (by kernel_rfl) (by kernel_rfl) (by kernel_rfl) rfl (by kernel_rfl) (fun _ _ _ h=>h) ⟨Or.inl ⟨by rfl,fun w hS=>by obtain ⟨h0,h1,h2,h3⟩ := hS;go_simp⟩,fun _=>rfl⟩ hS ?_
 simp only [ud9]
 refine T.anyHG_take (i := 2) (d := 6) (v := .slice A N cap) (by kernel_rfl) rfl (by kernel_rfl) (by kernel_rfl) (by kernel_rfl) rfl (by kernel_rfl) (fun _ _ _ h=>h) ⟨Or.inl ⟨by rfl,fun w hS=>by obtain ⟨h0,h1,h2,h3⟩ := hS;go_simp⟩,fun _=>rfl⟩ hS ?_
 simp only [ud9]
 refine T.anyHG_take (i := 3) (d := 7) (v := .agg #[.int .i64 (X:Int),.int .i64 (Y:Int)]) (by kernel_rfl) rfl (by kernel_rfl) (by kernel_rfl) (by kernel_rfl) rfl (by kernel_rfl) (fun _ _ _ h=>h) ⟨Or.inl ⟨by rfl,fun w hS=>by obtain ⟨h0,h1,h2,h3⟩ := hS;go_simp⟩,fun _=>rfl⟩ hS ?_
 simp only [ud9]
 refine T.anyHG_one (i := 4) (by kernel_rfl) rfl (by kernel_rfl) (by rfl) ?_
 gi_wp2_with fail
 refine ⟨trivial,(callsIn_wide.2 (HCE.out _ hBx)).mono ?_⟩
 rintro e wn ⟨uc,rfl,huc,hB1⟩
 obtain ⟨cA,cc,hce,_,_⟩ := id huc
 obtain ⟨cn,hcn⟩:∃ cn,(cellI s ((X:Int),(Y:Int))).length = cn := ⟨_,rfl⟩
 rw [hcn] at hce
 subst hce
 replace hBx := below_in hBx hB1
 clear hS
 have hS := HSS.out _ hBx
 gi_wp2
 try (refine ⟨.inr hS,?_⟩)
 refine T.anyHG_one (i := 5) (by kernel_rfl) rfl (by kernel_rfl) (by rfl) ?_
 have hB3:Below wn.heap.size wn (wn.alloc (.cells #[.slice cA cn cc] 32)) := below_one wn _
 have bE:Blk (wn.alloc (.cells #[.slice cA cn cc] 32)) wn.heap.size 32 #[.slice cA cn cc] := Blk.new wn _ _
 obtain ⟨w3,hw3⟩:∃ w3,(wn.alloc (.cells #[.slice cA cn cc] 32)) = w3 := ⟨_,rfl⟩
 rw [hw3] at hB3 bE
 have hBx3 := below_in hBx hB3
 clear hS
 have hS:(fun U:World=>U.cell? ⟨gl,0,none⟩ = some (.slice lA ln lc)∧U.cell? ⟨gs,2,none⟩ = some (.slice A N cap)∧U.cell? ⟨w.heap.size,0,none⟩ = some (.int .i64 (X:Int))∧U.cell? ⟨w.heap.size,1,none⟩ = some (.int .i64 (Y:Int))) w3 := HSS.out _ hBx3
 gi_wp2
 try rw [hw3]
 try (refine ⟨.inr hS,?_⟩)
 refine T.anyHG_one (i := 6) (by kernel_rfl) rfl (by kernel_rfl) (by rfl) ?_
 refine opIn_pushM (base := base) (Q := Q) (v := .slice lA ln lc) w3 _ _ rfl Tryz.underlying61 _ rfl (HROW.out _ hBx3) wn.heap.size _ _ _ rfl bE (HUU.out _ _ _ hBx hB3 huc) HLEN.out (HBS.out _ hBx3) ?_
 intro v' w4 hrow4 hgr4 hor4
 obtain ⟨lA2,ln2,lc2,rfl⟩ := T.RowG.form hrow4
 have hcl4 := HKEEP.out _ _ hBx3 hgr4
 clear hS
 have hS:(fun U:World=>U.cell? ⟨gl,0,none⟩ = some (.slice lA ln lc)∧U.cell? ⟨gs,2,none⟩ = some (.slice A N cap)∧U.cell? ⟨w.heap.size,0,none⟩ = some (.int .i64 (X:Int))∧U.cell? ⟨w.heap.size,1,none⟩ = some (.int .i64 (Y:Int))) w4 := hcl4.1
 gi_wp2_with fail
 try (refine ⟨.inr hS,?_⟩)
 refine T.anyHG_one (i := 7) (by kernel_rfl) rfl (by kernel_rfl) (by rfl) ?_
 have hfr4 := hcl4.2
 obtain ⟨h0,h1,h2,h3⟩ := hS
 gi_wp2
 try (refine ⟨.inl rfl,?_⟩)
 refine T.anyHG_done (by kernel_rfl) ?_ _
 refine NoPanic.normal ?_
 gi_wp2
 obtain ⟨f1,f2,f3⟩ := HFIN.out _ _ _ _ hBx3 hgr4 hrow4 _ rfl
 exact ⟨_,results_none rfl _ _ _,rfl,_,f1,f2,f3⟩
theorem enter_octets1:∀ args W,(callFunc 82 args).run Tryz.prog W = .ok (.enter 82 args) W := enters_of Tryz.func82 (by kernel_rfl) rfl
def cellsL (d:Nat) (s:List (List (List UInt8))) (m:Nat):List (List UInt8) := (List.range m).map fun i=>cellOf_ s (i % d) (i / d)
theorem cellsL_next (d:Nat) (s:List (List (List UInt8))) (m:Nat):cellsL d s (m+1) = cellsL d s m ++ [cellOf_ s (m % d) (m / d)] := by unfold cellsL;rw [List.range_succ,List.map_append];rfl
theorem cellsL_len (d:Nat) (s:List (List (List UInt8))) (m:Nat):(cellsL d s m).length = m := by unfold cellsL;rw [List.length_map,List.length_range]
theorem cellsL_flat (d R:Nat) (s:List (List (List UInt8))):(cellsL d s (d * R)).flatten = dataL d R s := rfl
theorem cells_glue {d R n:Nat} {s:List (List (List UInt8))} (hd:0 < d) (hds:d≤s.length) (hR:0 < R) (hg:Grid R n s) (hn:1≤n∧n≤64):GlueOk (cellsL d s (d * R)) (((d * R:Nat):Int) * (n:Int))∧(cellsL d s (d * R)).flatten.take ((((d * R:Nat):Int) * (n:Int)).toNat) = dataL d R s := by
 have hal:AllLen n (cellsL d s (d * R)) := fun j hj=>by
  rw [cellsL_len] at hj
  unfold cellsL
  rw [List.getElem?_map,List.getElem?_range hj]
  have h1:j % d < s.length := Nat.lt_of_lt_of_le (Nat.mod_lt _ hd) hds
  have h2:j / d < R := Nat.div_lt_of_lt_mul hj
  exact (hg (j % d) h1).2 (j / d) h2
 have hM:0 < d * R := Nat.mul_pos hd hR
 have h0:((cellsL d s (d * R))[0]?.getD []).length = n := hal 0 (by rw [cellsL_len];exact hM)
 have hfl:(cellsL d s (d * R)).flatten.length = d * R * n := by rw [C.flat_alike _ n hal,cellsL_len]
 have e:(((d * R:Nat):Int) * (n:Int)) = ((d * R * n:Nat):Int) := (Int.natCast_mul _ _).symm
 rw [e,Int.toNat_natCast]
 refine ⟨⟨.inr ⟨by unfold Cell;omega,by rw [h0];exact hal⟩,⟨by omega,by omega,by omega⟩,?_⟩,?_⟩
 · rw [Int.toNat_natCast,List.drop_eq_nil_of_le (by omega)]
   rfl
 · rw [List.take_of_length_le (by omega),cellsL_flat]
theorem octets_any {B:Nat} (k p:Int) (v:Value) (s:List (List (List UInt8))) (h:AllK k p s) (w:World) (hL:Laid w) (hB:B≤w.heap.size) (hC:Cols B w v s) :
 Calls Tryz.prog 46 #[.agg #[.int .i64 k,.int .i64 p,v]] w fun e w'=>∃ u,e = .returned u∧Fresh w.heap.size w' u (dataL (datN k p) (p - 1).toNat s)∧Below w.heap.size w w' := by
 have hst := all_stripe h
 have hln := all_len h
 have hfn := right_n h.2
 have hR := h.1.1
 obtain ⟨hDN,hd2,hd17⟩ := datN_eq hR
 obtain ⟨hmn,hR2,hR16,hM272⟩ := many_nat hR
 have HNB := Lib.hid (fun (U:World) (hLU:Laid U)=>by
  have h := numbers_yes k p hR U hLU
  rw [hmn] at h
  exact h)
 have HNUM:Hid (∀ i:Nat,i < datN k p * (p - 1).toNat→HasNum k p (i:Int)) := fun i hi=>⟨by omega,by rw [hmn];exact_mod_cast hi⟩
 have HPL := Lib.hid (fun (i:Nat) (hi:i < datN k p * (p - 1).toNat) (U:World) (hLU:Laid U)=>by
  have h := (shapePlace_any k p (i:Int) U hLU).mono fun _ _ h=>(⟨h.2.2.1 hR (HNUM.out i hi),h.2.2.2⟩:_∧_)
  rw [hDN,show ((i:Int) % ((datN k p:Nat):Int)) = ((i % datN k p:Nat):Int) from rfl,show ((i:Int) / ((datN k p:Nat):Int)) = ((i / datN k p:Nat):Int) from rfl] at h
  exact h)
 have hGR := hst.2.2.1
 have hlen0:0 < (s[0]?.getD []).length := by rw [(hGR 0 (by omega)).1];omega
 have hgl := cells_glue (d := datN k p) (R := (p - 1).toNat) (by omega) (by omega) (by omega) hGR hfn
 obtain ⟨A,cap,rfl,_,_⟩ := id hC
 generalize (p - 1).toNat = R at *
 have hds:datN k p < s.length := hln.2.2
 generalize datN k p = d at *
 obtain ⟨M,hM⟩:∃ M,d * R = M := ⟨_,rfl⟩
 rw [hM] at HNB HPL hM272 hgl
 obtain ⟨n,hn⟩:∃ n,(firstC s).length = n := ⟨_,rfl⟩
 have hls := hln.2.1
 have hl4 := hln.1
 have HLNs := Lib.hid (fun (U:World) (hCU:Cols B U (.slice A s.length cap) s)=>length_any (.slice A s.length cap) s U hCU (by omega) hlen0)
 rw [hn] at hgl hfn HLNs hGR
 have hw1:IntKind.i64.wrap ((M:Int) * (n:Int)) = (M:Int) * (n:Int) := IntWalk.i64_in _ (by have h9:M * n≤272 * 64 := Nat.mul_le_mul hM272 hfn.2;rw [←Int.natCast_mul];omega)
 have hw2:wrap64 ((M:Int) * (n:Int)) = (M:Int) * (n:Int) := IntWalk.wrap64_in _ (by have h9:M * n≤272 * 64 := Nat.mul_le_mul hM272 hfn.2;rw [←Int.natCast_mul];omega)
 have HGO := Lib.hid (fun (U:World) (u:Value) (hu:Many U.heap.size U u (cellsL d s M))=>by
  have hg := glue_yes u (cellsL d s M) ((M:Int) * (n:Int)) (by rw [cellsL_len];omega) U hu hgl.1
  rw [hgl.2] at hg
  exact hg)
 obtain ⟨N,hN⟩:∃ N,s.length = N := ⟨_,rfl⟩
 obtain ⟨wb,hwb⟩:∃ wb,w.alloc (.cells #[.int .i64 k,.int .i64 p,.slice A s.length cap] 79) = wb := ⟨_,rfl⟩
 have hB1:Below w.heap.size w wb := by rw [←hwb];exact below_one w _
 have bs0:Blk wb w.heap.size 79 #[.int .i64 k,.int .i64 p,.slice A s.length cap] := by rw [←hwb];exact Blk.new w _ _
 obtain ⟨gl,hgE⟩:∃ gl,wb.heap.size = gl := ⟨_,rfl⟩
 have hgF:w.heap.size+1 = gl := by rw [←hgE,←hwb];simp
 have S1:Hid (gl = w.heap.size+1) := hgF.symm
 obtain ⟨wc,hwc⟩:∃ wc,wb.alloc (.cells #[.slice none 0 0] 61) = wc := ⟨_,rfl⟩
 have hB2:Below wb.heap.size wb wc := by rw [←hwc];exact below_one wb _
 have bl0:Blk wc gl 61 #[.slice none 0 0] := by rw [←hwc,←hgE];exact Blk.new wb _ _
 have bs:Blk wc w.heap.size 79 #[.int .i64 k,.int .i64 p,.slice A s.length cap] := bs0.below hB2 bs0.lt
 have S2:Hid (wc.heap.size = w.heap.size+2) := by unfold Hid;rw [←hwc];simp;rw [hgE];exact S1.out
 have hB12 := below_in hB1 hB2
 have hLc := hL.next hB12
 have hCc := hC.below (hB12.mono hB)
 have hen := enter_octets1
 have hmf:∀ (fn:Fn) (first cap:Array Value) (w:World),(Instr.makeFunc fn first cap).run Tryz.prog w = .ok (.func fn first cap) w := fun _ _ _ _=>rfl
 have c0 := bs.cell 0
 have c1 := bs.cell 1
 have c2 := bs.cell 2
 simp only [gz9] at c0 c1 c2
 have hL0 := hL
 have hC0 := hC
 clear hst hln hDN hmn hR hC hgl h hL hn HNUM bs0
 rw [hN] at hwb c2 ⊢
 have HNS := Lib.hid hN
 go_enter Tryz.func46,Tryz.ntmps46
 go_wp2_with (go_at_call 84;refine (HNB.out _ hLc).mono ?_;rintro e w1 ⟨rfl,hB3⟩)
 have hB3g:Below gl wc w1 := hB3.mono (by have := S2.out;have := S1.out;omega)
 have bl1 := bl0.below hB3 bl0.lt
 have hLn0:(0:Nat)≤M := Nat.zero_le _
 clear hB3 HNB c0 c1 c2
 go_loopw [10] (fun i wr=>∃ (m:Nat) (lv:Value),m≤M∧i = .int .i64 m∧Hid (Blk wr gl 61 #[lv])∧Hid (RowM (· < B) wr (w.heap.size+2) lv (cellsL d s m))∧Hid (Below gl wc wr)) (fun i _=>M - (intOf i).toNat)
 case atStart=>exact ⟨0,.slice none 0 0,by omega,rfl,Lib.hid bl1,RowG.nil _ _ _ _ _ _,Lib.hid hB3g⟩
 case round =>
  obtain ⟨m,lv,hm,rfl,HBL,HROW,HBR⟩ := hrel
  clear hgE hgF
  have s2 := S2.out
  have s1 := S1.out
  have hBw:Below w.heap.size w wr := hB12.trans (HBR.out.mono (by omega))
  have hsr := HBR.out.size
  have bsr := bs.below HBR.out (by omega)
  have c0 := bsr.cell 0
  have c1 := bsr.cell 1
  have c2 := bsr.cell 2
  simp only [gz9] at c0 c1 c2
  by_cases hlt:m < M
  · have hdec:decide ((m:Int) < (M:Int)) = true := by simp;omega
    have hX:m % d < s.length := Nat.lt_trans (Nat.mod_lt _ (by omega)) hds
    have hY:m / d < R := Nat.div_lt_of_lt_mul (by rw [hM];exact hlt)
    have hpl := HPL.out m hlt wr (hL0.next hBw)
    have hcv := hC0.below (hBw.mono hB)
    have HGA := Lib.hid (fun (U:World) (hU:Below wr.heap.size wr U)=>gather_any (w.heap.size+2) B gl w.heap.size k p A cap R n s (m % d) (m / d) lv (cellsL d s m) U hX hY hGR (HBL.out.below hU HBL.out.lt) (bsr.below hU bsr.lt) (by omega) (by omega) (by omega) (by have := hU.size;omega) (hcv.below (hU.mono (by omega))) (RowG.below HROW.out hU) (by rw [cellsL_len];omega))
    have HNX:Hid (cellsL d s m ++ [cellI s (((m % d:Nat):Int),((m / d:Nat):Int))] = cellsL d s (m+1)) := (cellsL_next d s m).symm
    have i1:(m:Int)≤300 := by omega
    clear hX hY hcv bsr HBL HROW s1 s2
    generalize (m % d:Nat) = X at *
    generalize (m / d:Nat) = Y at *
    go_wp2_with (first
     | (go_at_call 86;refine hpl.mono ?_;rintro e w2 ⟨rfl,hB4⟩)
     | (go_at_call 85;refine (sureP _ _ _).mono ?_;rintro e w3 ⟨rfl,hB5⟩;have hB45 := below_in hB4 hB5)
     | fail)
    refine (HGA.out _ hB45).mono ?_
    rintro e w4 ⟨rfl,lv',hbl,hrow,hB6⟩
    rw [HNX.out] at hrow
    have HH := Lib.hid (⟨hbl,hrow,HBR.out.trans ((hB45.mono (by have := S1.out;have := S2.out;omega)).trans hB6)⟩:Blk w4 gl 61 #[lv']∧RowM (· < B) w4 (w.heap.size+2) lv' (cellsL d s (m+1))∧Below gl wc w4)
    clear hbl hrow hB6 hpl HGA
    go_wp2
    go_roundw
    case rel=>exact ⟨m+1,lv',hlt,by go_num,Lib.hid HH.out.1,Lib.hid HH.out.2.1,Lib.hid HH.out.2.2⟩
    case measure=>simp [intOf];omega
  · obtain rfl:m = M := by omega
    have hdec:decide ((m:Int) < (m:Int)) = false := by simp
    have hrow := HROW.out
    obtain ⟨lA,ln,lc,rfl⟩ := T.RowG.form hrow
    obtain rfl:ln = m := by rw [row_len hrow,cellsL_len]
    have HSS:Hid (∀ U,Below wr.heap.size wr U→(fun U:World=>U.cell? ⟨gl,0,none⟩ = some (.slice lA ln lc)∧U.cell? ⟨w.heap.size,2,none⟩ = some (.slice A s.length cap)) U) := fun U hU=>⟨(HBL.out.below hU HBL.out.lt).cell 0,(bsr.below hU bsr.lt).cell 2⟩
    have HLN := Lib.hid (fun (U:World) (hU:Below wr.heap.size wr U)=>by
     have h := HLNs.out U (hC0.below ((below_in hBw hU).mono hB))
     rw [HNS.out] at h
     exact h)
    have HGL := Lib.hid (fun (U:World) (hU:Below wr.heap.size wr U)=>HGO.out U (.slice lA ln lc) (Many.more (manyR_iff.1 (RowM.many (RowG.below hrow hU) fun q hq _=>hq)) (Nat.le_refl _)))
    clear hrow HROW HPL
    rw [HNS.out] at HSS
    clear s1 s2
    go_wp2_with fail
    have hBx:Below wr.heap.size wr wr.drew := (Below.refl _ _).drew
    have hS := HSS.out _ hBx
    refine (wpIn_wide (n := 12)).1 (wpIn_mono (region_HF (Q := NoPanic _) (S := (fun U:World=>U.cell? ⟨gl,0,none⟩ = some (.slice lA ln lc)∧U.cell? ⟨w.heap.size,2,none⟩ = some (.slice A N cap))) (by kernel_rfl) ?_) NoPanic.imp)
    refine tkF (i := 0) (d := 23) (v := .slice lA ln lc) (s := hS) (c := ?_)
    simp only [ud9]
    refine tkF (i := 1) (d := 24) (v := .slice lA ln lc) (s := hS) (c := ?_)
    simp only [ud9]
    refine tkF (i := 2) (d := 25) (v := .int .i64 (ln:Int)) (s := hS) (c := ?_)
    simp only [ud9]
    refine tkF (i := 3) (d := 26) (v := .pointer (some ⟨w.heap.size,2,none⟩)) (s := hS) (c := ?_)
    simp only [ud9]
    refine tkF (i := 4) (d := 27) (v := .slice A N cap) (s := hS) (c := ?_)
    simp only [ud9]
    refine oneF (i := 5) (c := ?_)
    gi_wp2_with fail
    refine ⟨trivial,(callsIn_wide.2 (HLN.out _ hBx)).mono ?_⟩
    rintro e wz ⟨rfl,rfl⟩
    gi_wp2
    try (refine ⟨hS,?_⟩)
    refine tkF (i := 6) (d := 29) (v := .int .i64 ((ln:Int) * (n:Int))) (s := hS) (c := ?_)
    simp only [ud9]
    refine oneF (i := 7) (c := ?_)
    gi_wp2_with fail
    refine ⟨trivial,(callsIn_wide.2 (HGL.out _ hBx)).mono ?_⟩
    rintro e wn ⟨ug,rfl,hug,hB1⟩
    obtain ⟨gA,gc,hge,_,_⟩ := id hug
    obtain ⟨gn,hgn⟩:∃ gn,(dataL d R s).length = gn := ⟨_,rfl⟩
    rw [hgn] at hge
    subst hge
    replace hBx := below_in hBx hB1
    clear hS
    have hS := HSS.out _ hBx
    gi_wp2
    try (refine ⟨hS,?_⟩)
    refine tkF (i := 8) (d := 31) (v := .slice gA gn gc) (s := hS) (c := ?_)
    simp only [ud9]
    refine tkF (i := 9) (d := 32) (v := .int .i64 0) (s := hS) (c := ?_)
    simp only [ud9]
    refine oneF (i := 10) (c := ?_)
    gi_wp2_with fail
    refine ⟨trivial,(callsIn_wide.2 (sureB _ _)).mono ?_⟩
    rintro e wz ⟨rfl,rfl⟩
    gi_wp2
    try (refine ⟨hS,?_⟩)
    refine oneF (i := 11) (c := ?_)
    gi_wp2
    refine anyHF_done (by kernel_rfl) ?_ _
    refine NoPanic.normal ?_
    go_wp2
    go_ret
    exact ⟨.slice gA gn gc,rfl,Fresh.less hug hBw.size,below_in hBw hBx⟩
end Go.Proofs.YtmhgjkechbjemaaGreatDoor.Cd
