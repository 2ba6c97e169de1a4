/- -/
import Derived.Test.YtcchjofjpflbhaaGreatDoorPAG12m1
import Derived.Test.YtcchjofjpflbhaaGreatDoorPAG16m7
import Derived.Test.YtcchjofjpflbhaaGreatDoorPAG20
import Derived.Test.YtcchjofjpflbhaaGreatDoorCards
import Derived.Test.YtcchjofjpflbhaaGreatDoorTie
import Derived.SevenTiedAt
set_option linter.unusedVariables false
set_option linter.unusedSimpArgs false
set_option maxRecDepth 100000
set_option maxHeartbeats 4000000
namespace Go.Proofs.YtcchjofjpflbhaaGreatDoor.pairOrders
open Go.ChangeShapes Go.WideShapes Go.ChangeAt Go.RowKit Go.Shelf
attribute [local go_sem] Oper.semAt_some

open Go.Proofs.YtcchjofjpflbhaaGreatDoor.E Go.Proofs.YtcchjofjpflbhaaGreatDoor.C Go.Proofs.YtcchjofjpflbhaaGreatDoor.T Go.Proofs.YtcchjofjpflbhaaGreatDoor.Ch in
theorem c2 (p a b:Int) (w:World) (hL:Laid w) (wp:-9223372036854775808≤p∧p≤9223372036854775807) (wa:-9223372036854775808≤a∧a≤9223372036854775807) (wb:-9223372036854775808≤b∧b≤9223372036854775807) (hp:p∉prm) :
 Calls Tryz.prog 4 #[.int .i64 p,.int .i64 a,.int .i64 b] w fun e w'=>e = .returned (.bool true)∧Below w.heap.size w w':=by
 have HLW:=Lib.hid (fun (U:World) (hU:Below w.heap.size w U)=>hL.next hU)
 have HRC:=Lib.hid (pOrder_no2 p a b hp w hL)
 have HR:=Lib.hid (fun W=>right_any p W)
 rw [decide_eq_false hp] at HR
 clear hL hp
 go_enter Tryz.func4,Tryz.ntmps4
 go_wp2_with fail
 refine (HRC.out).mono ?_
 rintro e y0 ⟨rfl,hB⟩
 have hBw:=hB
 clear hB
 go_wp2_with fail
 refine (HR.out y0).mono ?_
 rintro e y1 ⟨rfl,hB⟩
 replace hBw:=below_in hBw hB
 clear hB
 go_wp2_with fail
 refine (num12_any _ _).mono ?_
 rintro e y2 ⟨rfl,rfl⟩
 go_wp2_with fail
 refine (works12_any _ (HLW.out _ hBw)).mono ?_
 rintro e wz ⟨rfl,hBz⟩
 go_wp2
 go_ret
 exact ⟨rfl,below_in hBw hBz⟩
open Go.Proofs.YtcchjofjpflbhaaGreatDoor.E Go.Proofs.YtcchjofjpflbhaaGreatDoor.C Go.Proofs.YtcchjofjpflbhaaGreatDoor.T Go.Proofs.YtcchjofjpflbhaaGreatDoor.Ch in
theorem c4 (p a b:Int) (w:World) (hL:Laid w) (wp:-9223372036854775808≤p∧p≤9223372036854775807) (wa:-9223372036854775808≤a∧a≤9223372036854775807) (wb:-9223372036854775808≤b∧b≤9223372036854775807) (hp:p∈prm) (hth:¬ (0≤a∧a<b∧b<p)) :
 Calls Tryz.prog 4 #[.int .i64 p,.int .i64 a,.int .i64 b] w fun e w'=>e = .returned (.bool true)∧Below w.heap.size w w':=by
 have HLW:=Lib.hid (fun (U:World) (hU:Below w.heap.size w U)=>hL.next hU)
 have HRC:=Lib.hid (pOrder_no4 p a b hp hth w hL)
 have hpb:=prm_bounds hp
 have HR:=Lib.hid (fun W=>right_any p W)
 rw [decide_eq_true hp] at HR
 have HTH:=Lib.hid (fun W=>there12_any p a b W)
 rw [decide_eq_false hth] at HTH
 clear hL hp hpb hth
 go_enter Tryz.func4,Tryz.ntmps4
 go_wp2_with fail
 refine (HRC.out).mono ?_
 rintro e y0 ⟨rfl,hB⟩
 have hBw:=hB
 clear hB
 go_wp2_with fail
 refine (HR.out y0).mono ?_
 rintro e y1 ⟨rfl,hB⟩
 replace hBw:=below_in hBw hB
 clear hB
 go_wp2_with fail
 refine (HTH.out y1).mono ?_
 rintro e y2 ⟨rfl,rfl⟩
 go_wp2_with fail
 refine (num12_any _ _).mono ?_
 rintro e y3 ⟨rfl,rfl⟩
 go_wp2_with fail
 refine (works12_any _ (HLW.out _ hBw)).mono ?_
 rintro e wz ⟨rfl,hBz⟩
 go_wp2
 go_ret
 exact ⟨rfl,below_in hBw hBz⟩
open Go.Proofs.YtcchjofjpflbhaaGreatDoor.E Go.Proofs.YtcchjofjpflbhaaGreatDoor.C Go.Proofs.YtcchjofjpflbhaaGreatDoor.T Go.Proofs.YtcchjofjpflbhaaGreatDoor.Ch in
theorem yes (p a b:Int) (w:World) (hL:Laid w) (wp:-9223372036854775808≤p∧p≤9223372036854775807) (wa:-9223372036854775808≤a∧a≤9223372036854775807) (wb:-9223372036854775808≤b∧b≤9223372036854775807) (hp:p∈prm) (hth:0≤a∧a<b∧b<p) :
 Calls Tryz.prog 4 #[.int .i64 p,.int .i64 a,.int .i64 b] w fun e w'=>e = .returned (.bool true)∧Below w.heap.size w w':=by
 have HLW:=Lib.hid (fun (U:World) (hU:Below w.heap.size w U)=>hL.next hU)
 have HRC:=Lib.hid (pOrder_yes p a b hp hth.1 hth.2.1 hth.2.2 w hL)
 have hpb:=prm_bounds hp
 have HR:=Lib.hid (fun W=>right_any p W)
 rw [decide_eq_true hp] at HR
 have HTH:=Lib.hid (fun W=>there12_any p a b W)
 rw [decide_eq_true hth] at HTH
 have hlen:(orderP p a b).length≤1000:=by have h1:=armP_len (x:=a) (y:=b) hp;have h2:=armP_len (x:=b) (y:=a) hp;unfold orderP sideL;have h3:=sbs_len (armP p a b) (armP p b a) ((max (armP p a b).length (armP p b a).length+1) / 2);omega
 have HRF:=Lib.hid (fun W=>refOrderP_any p a b hp ⟨hth.1,by omega⟩ ⟨by omega,hth.2.2⟩ (by omega) W)
 generalize orderP p a b=oo at *
 clear hL hp hpb hth
 go_enter Tryz.func4,Tryz.ntmps4
 go_wp2_with fail
 refine (HRC.out).mono ?_
 rintro e y0 ⟨u,rfl,hu,hB⟩
 obtain ⟨A1,n1,c1,rfl⟩:=hu.form
 have hr:=hu.readA
 clear hu
 have hBw:=hB
 clear hB
 go_wp2_with fail
 refine (HR.out y0).mono ?_
 rintro e y1 ⟨rfl,hB⟩
 replace hr:=hr.next hB
 replace hBw:=below_in hBw hB
 clear hB
 go_wp2_with fail
 refine (HTH.out y1).mono ?_
 rintro e y2 ⟨rfl,rfl⟩
 go_wp2_with fail
 refine (num12_any _ _).mono ?_
 rintro e y3 ⟨rfl,rfl⟩
 go_wp2_with fail
 refine (HRF.out y1).mono ?_
 rintro e y4 ⟨g,rfl,hv,hB⟩
 have hs:=hv.readA
 clear hv
 replace hr:=hr.next hB
 replace hBw:=below_in hBw hB
 clear hB
 go_wp2_with fail
 refine (same_yes _ _ _ hlen _ hr hs).mono ?_
 rintro e y5 ⟨rfl,hB⟩
 clear hs
 replace hr:=hr.next hB
 replace hBw:=below_in hBw hB
 clear hB
 go_wp2_with fail
 refine (works12_any _ (HLW.out _ hBw)).mono ?_
 rintro e wz ⟨rfl,hBz⟩
 go_wp2
 go_ret
 exact ⟨rfl,below_in hBw hBz⟩
open Go.Proofs.YtcchjofjpflbhaaGreatDoor.E Go.Proofs.YtcchjofjpflbhaaGreatDoor.C Go.Proofs.YtcchjofjpflbhaaGreatDoor.T Go.Proofs.YtcchjofjpflbhaaGreatDoor.Ch in
theorem walk (p a b:Int) (w:World) (hL:Laid w) (wp:-9223372036854775808≤p∧p≤9223372036854775807) (wa:-9223372036854775808≤a∧a≤9223372036854775807) (wb:-9223372036854775808≤b∧b≤9223372036854775807) :
 Calls Tryz.prog 4 #[.int .i64 p,.int .i64 a,.int .i64 b] w fun e w'=>e = .returned (.bool true)∧Below w.heap.size w w':=by
 by_cases hp:p∈prm
 · by_cases hth:0≤a∧a<b∧b<p
   · exact yes p a b w hL wp wa wb hp hth
   · exact c4 p a b w hL wp wa wb hp hth
 · exact c2 p a b w hL wp wa wb hp

theorem lifted (os:Os) (started:os.Started) (H:Type) (enc:TypeId×Value→H) :
 ReturnsInHanded {} Tryz.checked os 4 .any (fun w args=>(Rows.pairOrdersSpec.pre enc Tryz.prog Tryz.f4 [] false w args∧laidMetH Tryz.prog laidL w)∧sizedMet enc Tryz.prog Tryz.f4 (OpenSpec.ofChange Rows.pairOrdersSpec) false w args)
  (Rows.pairOrdersSpec.post enc Tryz.prog Tryz.f4 false true false false):=by
 refine returnsInHanded_of_change_and (C:=Tryz.checked) (X:=fun w _=>laidMetH Tryz.prog laidL w) (fun _ _ _ hh h=>h.of_heap hh) own started (by kernel_rfl) Tryz.func4
  (ChangeSpec.witness_shaped (enc:=enc) (C:=Tryz.checked) (os:=os) (X:=fun w _=>laidMetH Tryz.prog laidL w) false (World.doorLaid Tryz.prog 200 os) #[.int .i64 0,.int .i64 0,.int .i64 0] 8 rfl (World.shaped_of_RefB (by kernel_rfl) (by kernel_rfl)) (by kernel_rfl) (by kernel_rfl) (by kernel_rfl) (door_met os _)) ?_
 intro W base args ds gs before hval0 hW _ _ hL0 _
 have hL:=laid_of hL0
 have hval:∀ (j:Nat) t v,Tryz.f4.params[j]?=some t→args[j]?=some v→Value.okWide Tryz.prog W .any base t v:=hval0
 have hW':=hW
 obtain ⟨p,q,hA0,hV,rfl,hfz,hnd⟩:=hW
 have hA:DataW.TrodAll enc Tryz.prog W 0 (fun _=>true) true Tryz.f4.params.toList args.toList ds p:=hA0
 rw [Tryz.params4] at hA hval
 obtain ⟨v0,vs0,d0,ds0,p0,q0,hargs,rfl,rfl,h0,r0⟩:=trodAll_cons hA
 obtain ⟨v1,vs1,d1,ds1,p1,q1,rfl,rfl,rfl,h1,r1⟩:=trodAll_cons r0
 obtain ⟨v2,vs2,d2,ds2,p2,q2,rfl,rfl,rfl,h2,r2⟩:=trodAll_cons r1
 obtain ⟨rfl,rfl,rfl⟩:=trodAll_nil r2
 obtain rfl:args=#[v0,v1,v2]:=by cases args;simp_all
 obtain ⟨rfl,rfl⟩:=trodVars_none hV
 obtain ⟨a0,rfl,rfl,rfl,w0⟩:=open_int Tryz.underlying3 (hval 0 3 v0 rfl rfl) h0
 obtain ⟨a1,rfl,rfl,rfl,w1⟩:=open_int Tryz.underlying3 (hval 1 3 v1 rfl rfl) h1
 obtain ⟨a2,rfl,rfl,rfl,w2⟩:=open_int Tryz.underlying3 (hval 2 3 v2 rfl rfl) h2
 clear hA0 hval0
 simp only [List.append_nil] at hW'
 refine (walk a0 a1 a2 W hL (E.wf_i64 w0) (E.wf_i64 w1) (E.wf_i64 w2)).mono fun e W' ⟨he,bel⟩=>?_
 subst he
 exact ⟨_,rfl,_,_,_,[],_,[],hW',trodAll_mk1 (shut_bool Tryz.underlying4 _),(trodAll_cons_mk (shut_int Tryz.underlying3 w0) (trodAll_cons_mk (shut_int Tryz.underlying3 w1) (trodAll_cons_mk (shut_int Tryz.underlying3 w2) trodAll_mk0))),rfl,bel.frame _,fun h=>by cases h⟩

theorem over:Rows.pairOrdersRow.holds Tryz.pinned (OpenSpec.ofChange Rows.pairOrdersSpec) :=
 OpenClaim.holds_of_wide 4 Tryz.f4 rfl rfl rfl rfl rfl rfl rfl ⟨rfl,rfl,rfl,rfl,rfl⟩ rfl rfl rfl rfl rfl (by kernel_rfl) Tryz.func4 (by kernel_rfl)
  (of_decide_eq_true (by kernel_rfl)) (by unfold Func.isWrapper;first | (rw [if_pos (by decide +kernel)];kernel_rfl) | (rw [if_neg (by decide +kernel)];exact ⟨rfl,rfl⟩))
  (fun os started H enc _=>lifted os started H enc)

theorem pairOrders_holds:Rows.PairOrdersCardSaid :=
 Claim7.holds_tied_plain_at .later [] [.data, .data] true (true, "4a506145f7380dc68eedad435a6fcef858a8a6b57bcf00ad717e77c92cb483e8") true over (fun _ h => by cases h) (by kernel_rfl) (fun _ h => by cases h) pairOrders_row_tie rfl ⟨rfl, rfl⟩ (by kernel_rfl) rfl
  (fun f fn hf hfn=>by
   obtain rfl : f = 4 := Option.some.inj ((show Tryz.prog.funcNamed "palisade/palisadelaw12.PairOrders" = some 4 by kernel_rfl).symm.trans hf) |>.symm
   obtain rfl:fn = Tryz.f4:=(Option.some.inj (Tryz.func4.symm.trans hfn)).symm
   exact ⟨by kernel_rfl,fun j t ht=>by
    rw [Tryz.params4] at ht
    have hm:t∈[3,3,3]:=by simpa using Array.mem_of_getElem? ht
    have hall:([3,3,3].all fun u=>!Tryz.prog.wantsStandIn u)=true:=by kernel_rfl
    exact (show Tryz.prog.wantsStandIn t=false by simpa using List.all_eq_true.1 hall t hm)⟩)
  (by kernel_rfl)
end Go.Proofs.YtcchjofjpflbhaaGreatDoor.pairOrders
