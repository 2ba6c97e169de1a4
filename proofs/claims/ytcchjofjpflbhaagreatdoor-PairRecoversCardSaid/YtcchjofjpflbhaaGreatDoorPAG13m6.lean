/- -/
import Derived.Test.YtcchjofjpflbhaaGreatDoorPAG11m6
import Derived.Test.YtcchjofjpflbhaaGreatDoorPAG13m14
set_option linter.unusedVariables false
set_option linter.unusedSimpArgs false
set_option maxRecDepth 100000
set_option maxHeartbeats 4000000
namespace Go.Proofs.YtcchjofjpflbhaaGreatDoor.Rg
open Go.RowKit Go.Shelf Go.Maps Go.Proofs.YtcchjofjpflbhaaGreatDoor.C Go.Proofs.YtcchjofjpflbhaaGreatDoor.E
attribute [local go_sem] Oper.semAt_some

theorem opIn_appM {F:Fence} {nF:Nat} {T:TypeId} {Q:Nat→Prop} {base:Nat} {v v2:Value} (w:World) {o:Oper} {a:Act} {K:Act→World→Prop} {QQ:Exit→Act→World→Prop} (s x:Operand)
 (ho:o.op = .call { callee:=.builtin .append,args:=#[s,x],argTypes:=#[T,T] }) (hT:Tryz.prog.underlying T=some (.slice 64)) (css ds:List (List UInt8)) (hs:a.eval s=v) (h:RowM Q w base v css) (hx:a.eval x=v2)
 (h2:manyR.R (fun b=>b<w.heap.size∧some b≠v.ownBlock∧Q b) w v2 ds) (h0:0<ds.length) (hlen:css.length≤100000) (hlen2:ds.length≤100000) (hbase:base≤w.heap.size)
 (hK:∀ v' w',RowM Q w' base v' (css ++ ds)→w.grownBy w' v.ownBlock→K (a.put o.dst v') w'):Oper.wpIn F nF Tryz.prog o a w K QQ:=by
 obtain ⟨i,hi,hz0,hz1,hz2⟩:=info_parts Tryz.infoSlcE
 obtain ⟨v',w',hrun,h1,h3,h4⟩:=RowG.append i hi hz0 hz1 hz2 T o.type hT h h2 (fun A cap e hA=>by
  obtain ⟨A2,c2,e2,_,hA2⟩:=h2
  rw [e] at e2
  injection e2 with _ e3 _
  omega) hlen hlen2 hbase
 unfold Oper.wpIn
 refine ⟨by simp [Oper.about,ho,resolve,Target.leads,Sem.run_pure],?_⟩
 rw [Oper.semAt_plain F _ _ (by rw [ho];intro c hc';cases hc')]
 simp [execOp,ho,resolve,invoke,builtin,hs,hx,hrun,Result.andThen,Oper.uponIn]
 exact hK v' w' h1 h3
theorem RowG.empty {α:Type} (r:Rep α) (t:TypeId) (d:α) (Q:Nat→Prop) {W:World} {base g:Nat} (hg:Blk W g t #[]) (hb:base≤g):RowG r t d Q W base (.slice (some ⟨g,0,none⟩) 0 0) [] :=
 ⟨[],⟨rfl,.inr ⟨g,0,#[],rfl,hb,hg,Nat.le_refl _,by unfold maxLen;omega,rfl,rfl⟩⟩,rfl,fun j y hy=>by cases hy⟩
section
open Go.Proofs.YtcchjofjpflbhaaGreatDoor.E
theorem nought_fresh (n:Nat) (hn:n≤1000) (w:World):Calls Tryz.prog 89 #[.int .i64 (n:Int)] w fun e w'=>∃ u,e = .returned u∧Fresh w.heap.size w' u (List.replicate n 0)∧Below w.heap.size w w':=by
 obtain ⟨i0,hi,hz0,hz1,hz2⟩:=info_parts Tryz.infoByte
 have hmk:=fun W:World=>run_make (P:=Tryz.prog) W 64 5 i0 (.int .u8 0) Tryz.underlying64 hi hz0 .i64 .i64 (n:Int) (n:Int) (by omega) (by omega) (by rw [hz2];omega) (by omega)
 simp only [hz1,Nat.mul_one,Int.toNat_natCast] at hmk
 have hR:=Row.made w n
 have hBz:=below_one w (.cells (madeCells #[.int .u8 0] n) 5)
 go_enter Tryz.func89,Tryz.ntmps89
 go_wp2
 go_ret
 exact ⟨_,rfl,Row.fresh hR (Nat.le_refl _) (by simp),hBz⟩
end
def turnX (P Q n:Nat) (c:List (List UInt8)) (b:Int):List (List UInt8):=(List.range Q).map fun i=>xorB (mvF P b (wholeF Q n c) i) (mvF P b (wholeF Q n c) Q)
theorem turnX_is {P Q n:Nat} {c:List (List UInt8)} (hc:GoodC Q n c) (b:Int):turnX P Q n c b=turnC P Q n c b:=by
 unfold turnX turnC
 refine List.map_congr_left fun i _=>?_
 refine ext_at (by rw [xorB_len,len_two (mv_len hc b i) (mv_len hc b Q),mv_len hc b i]) fun j=>?_
 rw [at_two (mv_len hc b i) (mv_len hc b Q),at_xorB _ _ _ ((mv_len hc b Q).trans (mv_len hc b i).symm)]
theorem turnX_next {P Q n:Nat} (c:List (List UInt8)) (b:Int) {m:Nat} (hm:m<Q):(turnX P Q n c b).take (m+1)=(turnX P Q n c b).take m ++ [xorB (mvF P b (wholeF Q n c) m) (mvF P b (wholeF Q n c) Q)]:=by
 unfold turnX
 rw [map_next _ 0 _ (by rw [List.length_range];exact hm),List.getElem?_range hm]
 rfl
theorem back_place {P o i:Nat} (b:Int) (hi:i<P) (ho:b % (P:Int)=(o:Int)):((((i:Int) - b) % (P:Int)).toNat+o) % P=i:=by
 have h0:=Int.emod_nonneg ((i:Int) - b) (show (P:Int)≠0 by omega)
 have e:(((((i:Int) - b) % (P:Int)).toNat+o:Nat):Int) % (P:Int)=(i:Int):=by
  rw [Int.natCast_add,Int.toNat_of_nonneg h0,←ho,←Int.add_emod,show (i:Int) - b+b=i by omega,Int.emod_eq_of_lt (by omega) (by omega)]
 omega
theorem whole_list {Q n:Nat} {c:List (List UInt8)} (hc:c.length=Q) {i:Nat} (hi:i<Q+1):((c ++ [List.replicate n 0])[i]?).getD []=wholeF Q n c i:=by
 unfold wholeF
 by_cases h:i<Q
 · rw [if_pos h,List.getElem?_append_left (by omega)]
 · rw [if_neg h,show i=c.length by omega,List.getElem?_append_right (Nat.le_refl _)]
   simp
theorem turnD_any {P Q n:Nat} (D:Dims P Q n) (b:Int) (y1:-9223372036854775808≤b) (y2:b≤9223372036854775807) (c:List (List UInt8)) (hc:GoodC Q n c) (v:Value) (w:World) (hM:Many w.heap.size w v c) :
 Calls Tryz.prog 48 #[.int .i64 (P:Int),v,.int .i64 b] w fun e w'=>∃ u,e = .returned u∧Many w'.heap.size w' u (turnC P Q n c b)∧Below w.heap.size w w':=by
 have hpb:=prm_bounds D.hp
 have hQP:=D.hQ
 have h1:=D.h1
 have h64:=D.h64
 have hq1:2≤Q:=by omega
 have hq2:Q≤16:=by omega
 have hq0:Q≠0:=by omega
 have hq3:(0:Int)<(Q:Int):=by omega
 have HCL:=Lib.hid hc.1
 obtain ⟨A,ca,rfl,_,_⟩:=id hM
 obtain ⟨b0,off,rfl,hb0,hrow⟩:=many_at hM (by rw [hc.1];omega)
 obtain ⟨A0,c0,hc0,_⟩:=hrow 0 (by rw [hc.1];omega)
 rw [(hc.2 0 (by omega)).2,Nat.add_zero] at hc0
 rw [hc.1] at hM ⊢
 clear hrow
 have HM:=Lib.hid (fun (U:World) (hU:Below w.heap.size w U)=>hM.below hU)
 have HSS:Hid (∀ V,Below w.heap.size w V→(fun U:World=>U.cell? ⟨b0,off,none⟩=some (.slice A0 n c0)) V):=fun V hV=>(hV.cell (p:=⟨b0,off,none⟩) hb0).trans hc0
 have hOF:b % (P:Int)=((b % (P:Int)).toNat:Int):=by have:=Int.emod_nonneg b (show (P:Int)≠0 by omega);omega
 have HOF:=Lib.hid (fun U=>rof_any (P:Int) b U (by omega) (by omega) y1 y2)
 have HWL:=Lib.hid (fun i (hi:i<Q+1)=>whole_list (n:=n) hc.1 hi)
 have HWN:=Lib.hid (fun r=>whole_len hc r)
 have HNX:=Lib.hid (fun m (hm:m<Q)=>turnX_next (P:=P) (n:=n) c b hm)
 have HIS:=Lib.hid (turnX_is (P:=P) hc b)
 have HQ:=Lib.hid hQP
 have HCC:=Lib.hid hc
 obtain ⟨i0,hi0,hz0,hz1,hz2⟩:=info_parts Tryz.infoSlc
 have hmk:=fun W:World=>run_make (P:=Tryz.prog) W 50 64 i0 (.slice none 0 0) Tryz.underlying50 hi0 hz0 .i64 .i64 (P:Int) (P:Int) (by omega) (by omega) (by rw [hz2];omega) (by omega)
 simp only [hz1,Nat.mul_one,Int.toNat_natCast,show (Value.slice none 0 0).cells=#[.slice none 0 0] from rfl,made_nils] at hmk
 clear hz0 hz1 hz2 hi0 hQP hc hM
 go_enter Tryz.func48,Tryz.ntmps48
 go_wp2_with fail
 obtain ⟨wd,hwd⟩:∃ x,w.drew=x:=⟨_,rfl⟩
 have hBd:Below w.heap.size w wd:=by rw [←hwd];exact (Below.refl _ _).drew
 have hS:(fun U:World=>U.cell? ⟨b0,off,none⟩=some (.slice A0 n c0)) wd:=HSS.out _ hBd
 refine (wpIn_wide (n:=12)).1 (wpIn_mono (region_HF (Q:=NoPanic _) (S:=(fun U:World=>U.cell? ⟨b0,off,none⟩=some (.slice A0 n c0))) (by kernel_rfl) ?_) NoPanic.imp)
 rw [hwd]
 clear hwd
 refine anyHF_take (i:=1) (d:=13) (v:=.slice (some ⟨b0,off,none⟩) Q ca) (by kernel_rfl) rfl (by kernel_rfl) (by kernel_rfl) (by kernel_rfl) rfl (fun _ _ _ h=>h) ⟨Or.inl ⟨by rfl,fun w hS=>by have h0:=hS;go_simp⟩,fun _=>rfl⟩ hS ?_
 simp only [ud9]
 refine anyHF_take (i:=3) (d:=15) (v:=.slice (some ⟨b0,off,none⟩) Q ca) (by kernel_rfl) rfl (by kernel_rfl) (by kernel_rfl) (by kernel_rfl) rfl (fun _ _ _ h=>h) ⟨Or.inl ⟨by rfl,fun w hS=>by have h0:=hS;go_simp⟩,fun _=>rfl⟩ hS ?_
 simp only [ud9]
 refine anyHF_take (i:=4) (d:=16) (v:=.pointer (some ⟨b0,off,none⟩)) (by kernel_rfl) rfl (by kernel_rfl) (by kernel_rfl) (by kernel_rfl) rfl (fun _ _ _ h=>h) ⟨Or.inl ⟨by rfl,fun w hS=>by have h0:=hS;go_simp⟩,fun _=>rfl⟩ hS ?_
 simp only [ud9]
 refine anyHF_take (i:=5) (d:=17) (v:=.slice A0 n c0) (by kernel_rfl) rfl (by kernel_rfl) (by kernel_rfl) (by kernel_rfl) rfl (fun _ _ _ h=>h) ⟨Or.inl ⟨by rfl,fun w hS=>by have h0:=hS;go_simp⟩,fun _=>rfl⟩ hS ?_
 simp only [ud9]
 refine anyHF_take (i:=6) (d:=18) (v:=.int .i64 (n:Int)) (by kernel_rfl) rfl (by kernel_rfl) (by kernel_rfl) (by kernel_rfl) rfl (fun _ _ _ h=>h) ⟨Or.inl ⟨by rfl,fun w hS=>by have h0:=hS;go_simp⟩,fun _=>rfl⟩ hS ?_
 simp only [ud9]
 refine oneF (i:=0) (c:=?_)
 have hA1:=below_one wd (.cells #[] 64)
 have HR1:Hid (RowM (fun _=>True) (wd.alloc (.cells #[] 64)) wd.heap.size (.slice (some ⟨wd.heap.size,0,none⟩) 0 0) []):=RowG.empty _ _ _ _ (Blk.new wd 64 #[]) (Nat.le_refl _)
 have hB1:=below_in hBd hA1
 have hs1:=hA1.size
 have hsd:=hBd.size
 have HD1:Hid (manyR.R (fun b=>b<(wd.alloc (.cells #[] 64)).heap.size∧some b≠(Value.slice (some ⟨wd.heap.size,0,none⟩) 0 0).ownBlock∧True) (wd.alloc (.cells #[] 64)) (.slice (some ⟨b0,off,none⟩) Q ca) c):=manyR.imp (manyR_iff.2 (HM.out _ hB1)) fun q hq=>⟨by omega,fun e=>by have:=RowG.own_le HR1.out q e.symm;omega,trivial⟩
 clear hS
 have hS:(fun U:World=>U.cell? ⟨b0,off,none⟩=some (.slice A0 n c0)) (wd.alloc (.cells #[] 64)):=HSS.out _ hB1
 gi_wp2
 try (refine ⟨hS,?_⟩)
 refine oneF (i:=2) (c:=?_)
 refine opIn_appM (T:=50) (v:=.slice (some ⟨wd.heap.size,0,none⟩) 0 0) _ (.tmp 12) (.tmp 13) rfl Tryz.underlying50 [] c rfl HR1.out rfl HD1.out (by rw [HCL.out];omega) (by simp) (by rw [HCL.out];omega) (by omega) ?_
 intro va w2 hrow2 hgrow2
 have hole2:∀ q,(Value.slice (some ⟨wd.heap.size,0,none⟩) 0 0).ownBlock=some q→wd.heap.size≤q:=fun q e=>RowG.own_le HR1.out q e
 have hB2:Below w.heap.size w w2:=below_grown hB1 hgrow2 (by omega) (fun q e=>by have:=hole2 q e;omega)
 have hs2:=hB2.size
 have hg2:=hgrow2.size
 rw [List.nil_append] at hrow2
 clear hS
 have hS:(fun U:World=>U.cell? ⟨b0,off,none⟩=some (.slice A0 n c0)) w2:=HSS.out _ hB2
 gi_wp2_with fail
 try (refine ⟨hS,?_⟩)
 refine oneF (i:=7) (c:=?_)
 gi_wp2_with fail
 refine ⟨trivial,(callsIn_wide.2 (nought_fresh n (by omega) w2)).mono ?_⟩
 rintro e w3 ⟨u0,rfl,hu0,hB3⟩
 obtain ⟨A3,c3,e3,_,_⟩:=id hu0
 rw [List.length_replicate] at e3
 subst e3
 clear hS
 have hS:(fun U:World=>U.cell? ⟨b0,off,none⟩=some (.slice A0 n c0)) w3:=HSS.out _ (below_in hB2 hB3)
 gi_wp2
 try (refine ⟨hS,?_⟩)
 refine oneF (i:=8) (c:=?_)
 have hA4:=below_one w3 (.cells #[.slice A3 n c3] 64)
 have hB34:=below_in hB3 hA4
 have HR4:=Lib.hid (RowG.below hrow2 hB34)
 have HBLK:=Lib.hid (Blk.new w3 64 #[.slice A3 n c3])
 have hs3:=hB3.size
 have hs4:=hA4.size
 have hlt2:∀ q,va.ownBlock=some q→q<w2.heap.size:=fun q e=>RowG.own_lt hrow2 q e
 have HBY:Hid (BytesP (fun q=>q<(w3.alloc (.cells #[.slice A3 n c3] 64)).heap.size∧some q≠va.ownBlock∧True) (w3.alloc (.cells #[.slice A3 n c3] 64)) (.slice A3 n c3) (List.replicate n 0)):=by
  obtain ⟨A8,cp8,e8,h8,hA8⟩:=hu0.below hA4
  refine ⟨A8,cp8,e8,h8,fun hp=>?_⟩
  obtain ⟨q,of8,q1,q2,q3,q4⟩:=hA8 hp
  exact ⟨q,of8,q1,⟨q3,fun e=>(by have:=hlt2 q e.symm;omega),trivial⟩,q4⟩
 have hB4:=below_in hB2 hB34
 clear hrow2 hu0 hS
 have hS:(fun U:World=>U.cell? ⟨b0,off,none⟩=some (.slice A0 n c0)) (w3.alloc (.cells #[.slice A3 n c3] 64)):=HSS.out _ hB4
 gi_wp2
 try (refine ⟨hS,?_⟩)
 refine oneF (i:=9) (c:=?_)
 refine opIn_pushM (T:=50) (v:=va) _ (.tmp 14) (.tmp 20) rfl Tryz.underlying50 c rfl HR4.out w3.heap.size 64 _ (List.replicate n 0) rfl HBLK.out HBY.out (by rw [HCL.out];omega) (by omega) ?_
 intro v5 w5 hrow5 hgrow5 hown5
 have hole4:∀ q,va.ownBlock=some q→wd.heap.size≤q:=fun q e=>RowG.own_le HR4.out q e
 have hB5:Below w.heap.size w w5:=below_grown hB4 hgrow5 (by omega) (fun q e=>by have:=hole4 q e;omega)
 have hs5:=hB5.size
 have hg5:=hgrow5.size
 clear hS
 have hS:(fun U:World=>U.cell? ⟨b0,off,none⟩=some (.slice A0 n c0)) w5:=HSS.out _ hB5
 gi_wp2_with fail
 try (refine ⟨hS,?_⟩)
 refine oneF (i:=10) (c:=?_)
 gi_wp2
 refine anyHF_done (by kernel_rfl) ?_ _
 refine NoPanic.normal ?_
 clear hS hc0
 have hm5:=RowM.many_ hrow5
 have hwl5:(c ++ [List.replicate n 0]).length=P:=by rw [List.length_append,HCL.out];have:=HQ.out;simp;omega
 obtain ⟨A5,cw,e5,_,_⟩:=id hm5
 rw [hwl5] at e5
 subst e5
 have hm6:Many w5.heap.size w5 (.slice A5 (c ++ [List.replicate n 0]).length cw) (c ++ [List.replicate n 0]):=by rw [hwl5];exact hm5
 obtain ⟨bw,ow,rfl,hbw,hroww⟩:=many_at hm6 (by rw [hwl5];omega)
 have HROW:Hid (∀ i,i<P→∃ Ai ci,w5.cell? ⟨bw,ow+i,none⟩=some (.slice Ai n ci)∧Bytes w5.heap.size w5 (.slice Ai n ci) (wholeF Q n c i)):=fun i hi=>by
  obtain ⟨Ai,ci,q1,q2⟩:=hroww i (by rw [hwl5];exact hi)
  have e:=HWL.out i (by have:=HQ.out;omega)
  rw [e,HWN.out i] at q1 q2
  exact ⟨Ai,ci,q1,q2⟩
 clear hm5 hm6 hroww hrow5 hgrow5 hown5 HR4 HBLK HBY HR1 HD1 hole4 hlt2
 obtain ⟨o,ho⟩:∃ o:Nat,(b % (P:Int)).toNat=o:=⟨_,rfl⟩
 rw [ho] at hOF
 have hoP:o<P:=by have:=Int.emod_lt_of_pos b (show (0:Int)<P by omega);omega
 have HO:=Lib.hid hOF
 rw [hOF] at HOF
 clear hOF ho
 have hPn:((P:Int) == 0)=false:=by rw [beq_eq_false_iff_ne];omega
 have hPz:(P:Int)≠0:=by omega
 go_wp2_with fail
 have h56:=below_one w5 (.cells (Array.replicate P (Value.slice none 0 0)) 64)
 have bT:=Blk.new w5 64 (Array.replicate P (Value.slice none 0 0))
 obtain ⟨gT,hgT⟩:∃ x,w5.heap.size=x:=⟨_,rfl⟩
 obtain ⟨w6,hw6⟩:∃ x,w5.alloc (.cells (Array.replicate P (Value.slice none 0 0)) 64)=x:=⟨_,rfl⟩
 rw [hw6] at h56 bT
 rw [hgT] at h56 bT hbw HROW hs5 ⊢
 try rw [hw6]
 clear hw6 hgT
 rw [←List.toArray_replicate] at bT
 have hT0:Trn P o (wholeF Q n c) gT gT 0 w6:=⟨_,bT,by simp,fun j hj=>absurd hj (by omega)⟩
 clear bT
 go_loopw [9] (fun i wr=>∃ k:Nat,k≤P∧i = .int .i64 k∧Trn P o (wholeF Q n c) gT gT k wr∧Below gT w5 wr) (fun i _=>P - (intOf i).toNat)
 case atStart=>exact ⟨0,Nat.zero_le _,rfl,hT0,h56⟩
 case round =>
  obtain ⟨k,hk,rfl,hT,hBr⟩:=hrel
  by_cases hlt:k<P
  · have hdec:decide ((k:Int)<(P:Int))=true:=by simp;omega
    obtain ⟨Ak,ck,hck,hyk⟩:=HROW.out k hlt
    have i1:(0:Int)≤(k:Int):=by omega
    have i2:(k:Int)<(P:Int):=by omega
    have i3:(0:Int)≤(o:Int):=by omega
    have hP0:P≠0:=by omega
    have hwk:IntKind.i64.wrap ((k:Int)+(o:Int))=(k:Int)+(o:Int):=IntWalk.i64_in _ (by omega)
    have i4:(o:Int)<(P:Int):=by omega
    obtain ⟨t,ht⟩:∃ t,(k+o) % P=t:=⟨_,rfl⟩
    have htP:t<P:=by rw [←ht];exact Nat.mod_lt _ (by omega)
    have i5:(0:Int)≤(t:Int):=by omega
    have i6:(t:Int)<(P:Int):=by omega
    have hrem:((k:Int)+(o:Int)).tmod (P:Int)=(t:Int):=by rw [←Int.natCast_add,←Int.ofNat_tmod,ht]
    have hrem2:((k:Int)+(o:Int)) % (P:Int)=(t:Int):=by rw [←Int.natCast_add,←Int.natCast_emod,ht]
    have HSP:Hid (∀ V,Below gT wr V→(fun U:World=>U.cell? ⟨bw,ow+k,none⟩=some (.slice Ak n ck)) V):=fun V hV=>(((hBr.trans hV).cell (p:=⟨bw,ow+k,none⟩) hbw).trans hck)
    have hTc:=id hT
    obtain ⟨cur,hcb,hcl,_⟩:=hTc
    have hgl:=hcb.lt
    have HOLD:Hid (∃ old,wr.cell? ⟨gT,t,none⟩=some old):=⟨_,by rw [hcb.cell,List.getElem?_toArray,List.getElem?_eq_getElem (by rw [hcl];exact htP)]⟩
    have HFZ:Hid (wr.frozen? ⟨gT,t,none⟩=false):=hcb.frozen t
    have hdr:Below gT wr wr.drew:=(Below.refl gT wr).drew
    have hst:Below gT wr (wr.drew.setCell ⟨gT,t,none⟩ (.slice Ak n ck)):=hdr.setCell (Nat.le_refl _) _
    have HT:=Lib.hid hT
    have HTN:Hid (Trn P o (wholeF Q n c) gT gT (k+1) (wr.drew.setCell ⟨gT,t,none⟩ (.slice Ak n ck))):=Trn.next (X:=wr.drew) (by obtain ⟨cur',x1,x2,x3⟩:=hT;exact ⟨cur',x1,x2,fun j hj=>by obtain ⟨u,y1,y2⟩:=x3 j hj;exact ⟨u,y1,y2.below (B:=gT) hdr⟩⟩) hlt ht (Nat.le_refl _) (hyk.below (hBr.trans hdr))
    have HBN:=Lib.hid (hBr.trans hst)
    clear hT hcb hck hyk
    go_wp2_with fail
    have hS:(fun U:World=>U.cell? ⟨bw,ow+k,none⟩=some (.slice Ak n ck)) wr.drew:=HSP.out _ hdr
    refine (wpIn_wide (n:=12)).1 (wpIn_mono (region_HF (Q:=NoPanic _) (S:=(fun U:World=>U.cell? ⟨bw,ow+k,none⟩=some (.slice Ak n ck))) (by kernel_rfl) ?_) NoPanic.imp)
    refine anyHF_take (i:=0) (d:=29) (v:=.slice (some ⟨gT,0,none⟩) P P) (by kernel_rfl) rfl (by kernel_rfl) (by kernel_rfl) (by kernel_rfl) rfl (fun _ _ _ h=>h) ⟨Or.inl ⟨by rfl,fun w hS=>by have h0:=hS;go_simp⟩,fun _=>rfl⟩ hS ?_
    simp only [ud9]
    refine anyHF_take (i:=1) (d:=30) (v:=.int .i64 (k:Int)) (by kernel_rfl) rfl (by kernel_rfl) (by kernel_rfl) (by kernel_rfl) rfl (fun _ _ _ h=>h) ⟨Or.inl ⟨by rfl,fun w hS=>by have h0:=hS;go_simp⟩,fun _=>rfl⟩ hS ?_
    simp only [ud9]
    refine anyHF_take (i:=2) (d:=31) (v:=.int .i64 (P:Int)) (by kernel_rfl) rfl (by kernel_rfl) (by kernel_rfl) (by kernel_rfl) rfl (fun _ _ _ h=>h) ⟨Or.inl ⟨by rfl,fun w hS=>by have h0:=hS;go_simp⟩,fun _=>rfl⟩ hS ?_
    simp only [ud9]
    refine anyHF_take (i:=3) (d:=32) (v:=.int .i64 b) (by kernel_rfl) rfl (by kernel_rfl) (by kernel_rfl) (by kernel_rfl) rfl (fun _ _ _ h=>h) ⟨Or.inl ⟨by rfl,fun w hS=>by have h0:=hS;go_simp⟩,fun _=>rfl⟩ hS ?_
    simp only [ud9]
    refine anyHF_take (i:=6) (d:=35) (v:=.int .i64 (P:Int)) (by kernel_rfl) rfl (by kernel_rfl) (by kernel_rfl) (by kernel_rfl) rfl (fun _ _ _ h=>h) ⟨Or.inl ⟨by rfl,fun w hS=>by have h0:=hS;go_simp⟩,fun _=>rfl⟩ hS ?_
    simp only [ud9]
    refine anyHF_take (i:=8) (d:=37) (v:=.slice (some ⟨bw,ow,none⟩) P cw) (by kernel_rfl) rfl (by kernel_rfl) (by kernel_rfl) (by kernel_rfl) rfl (fun _ _ _ h=>h) ⟨Or.inl ⟨by rfl,fun w hS=>by have h0:=hS;go_simp⟩,fun _=>rfl⟩ hS ?_
    simp only [ud9]
    refine anyHF_take (i:=9) (d:=38) (v:=.int .i64 (k:Int)) (by kernel_rfl) rfl (by kernel_rfl) (by kernel_rfl) (by kernel_rfl) rfl (fun _ _ _ h=>h) ⟨Or.inl ⟨by rfl,fun w hS=>by have h0:=hS;go_simp⟩,fun _=>rfl⟩ hS ?_
    simp only [ud9]
    refine anyHF_take (i:=10) (d:=39) (v:=.pointer (some ⟨bw,ow+k,none⟩)) (by kernel_rfl) rfl (by kernel_rfl) (by kernel_rfl) (by kernel_rfl) rfl (fun _ _ _ h=>h) ⟨Or.inl ⟨by rfl,fun w hS=>by have h0:=hS;go_simp⟩,fun _=>rfl⟩ hS ?_
    simp only [ud9]
    refine anyHF_take (i:=11) (d:=40) (v:=.slice Ak n ck) (by kernel_rfl) rfl (by kernel_rfl) (by kernel_rfl) (by kernel_rfl) rfl (fun _ _ _ h=>h) ⟨Or.inl ⟨by rfl,fun w hS=>by have h0:=hS;go_simp⟩,fun _=>rfl⟩ hS ?_
    simp only [ud9]
    refine oneF (i:=4) (c:=?_)
    gi_wp2_with fail
    refine ⟨trivial,(callsIn_wide.2 (HOF.out _)).mono ?_⟩
    rintro e w' ⟨rfl,rfl⟩
    gi_wp2
    try (refine ⟨hS,?_⟩)
    refine anyHF_take (i:=5) (d:=34) (v:=.int .i64 ((k:Int)+(o:Int))) (by kernel_rfl) rfl (by kernel_rfl) (by kernel_rfl) (by kernel_rfl) rfl (fun _ _ _ h=>h) ⟨Or.inl ⟨by rfl,fun w hS=>by have h0:=hS;go_simp⟩,fun _=>rfl⟩ hS ?_
    simp only [ud9]
    refine anyHF_take (i:=7) (d:=36) (v:=.int .i64 (t:Int)) (by kernel_rfl) rfl (by kernel_rfl) (by kernel_rfl) (by kernel_rfl) rfl (fun _ _ _ h=>h) ⟨Or.inl ⟨by rfl,fun w hS=>by have h0:=hS;go_simp⟩,fun _=>rfl⟩ hS ?_
    simp only [ud9]
    refine anyHF_take (i:=12) (d:=41) (v:=.pointer (some ⟨gT,t,none⟩)) (by kernel_rfl) rfl (by kernel_rfl) (by kernel_rfl) (by kernel_rfl) rfl (fun _ _ _ h=>h) ⟨Or.inl ⟨by rfl,fun w hS=>by have h0:=hS;go_simp⟩,fun _=>rfl⟩ hS ?_
    simp only [ud9]
    refine oneF (i:=13) (c:=?_)
    have hSf:=HSP.out _ hst
    obtain ⟨old,hold⟩:=HOLD.out
    have hfz:=HFZ.out
    have q0:=hS
    gi_wp2_with fail
    try (first | (refine ⟨hSf,?_⟩) | (refine ⟨hS,?_⟩))
    refine anyHF_done (by kernel_rfl) ?_ _
    refine NoPanic.normal ?_
    clear hS
    gi_wp2_with fail
    go_wp2
    go_roundw
    case rel=>exact ⟨k+1,by omega,by go_num,HTN.out,HBN.out⟩
    case measure=>simp [intOf];omega
  · have hkP:k=P:=by omega
    rw [hkP] at hT
    have e1:decide ((k:Int)<(P:Int))=false:=by rw [hkP];simp
    have HFIN:Hid (∀ i,i<P→∃ Ai ci,wr.cell? ⟨gT,i,none⟩=some (.slice Ai n ci)∧Bytes gT wr (.slice Ai n ci) (mvF P b (wholeF Q n c) i)):=fun i hi=>by
     obtain ⟨cur,x1,x2,x3⟩:=hT
     have hlt2:(((i:Int) - b) % (P:Int)).toNat<P:=by have:=Int.emod_nonneg ((i:Int) - b) hPz;have:=Int.emod_lt_of_pos ((i:Int) - b) (show (0:Int)<P by omega);omega
     obtain ⟨u,y1,y2⟩:=x3 _ hlt2
     rw [back_place b hi HO.out] at y1
     obtain ⟨Ai,ci,e,_,_⟩:=id y2
     rw [HWN.out] at e
     subst e
     exact ⟨Ai,ci,by rw [x1.cell,List.getElem?_toArray];exact y1,y2⟩
    have hgs:gT<wr.heap.size:=by obtain ⟨cur,x1,_⟩:=hT;exact x1.lt
    have hBw:=hB5.trans (hBr.mono hs5)
    clear hT hBr hkP HROW hT0 h56 HOF
    obtain ⟨ws,hws⟩:∃ x:World,x=wr:=⟨_,rfl⟩
    subst hws
    go_wp2
    go_loopw [10,11] (fun v i wr=>∃ m:Nat,m≤Q∧i = .int .i64 m∧RowM (fun _=>True) wr ws.heap.size v ((turnX P Q n c b).take m)∧Below ws.heap.size ws wr) (fun _ i _=>Q - (intOf i).toNat)
    case atStart=>exact ⟨0,Nat.zero_le _,rfl,RowG.nil _ _ _ _ _ _,Below.refl _ _⟩
    case round =>
     obtain ⟨m,hm,rfl,hrow,hBs⟩:=hrel
     have hpq:(P:Int) - 1=(Q:Int):=by have:=HQ.out;omega
     by_cases hlm:m<Q
     · have hdec:decide ((m:Int)<(P:Int) - 1)=true:=by rw [hpq];simp;omega
       obtain ⟨Aa,ca2,hc1,hy1⟩:=HFIN.out m (by have:=HQ.out;omega)
       obtain ⟨Ab,cb2,hc2,hy2⟩:=HFIN.out Q (by have:=HQ.out;omega)
       have HLA:Hid ((mvF P b (wholeF Q n c) m).length=n):=HWN.out _
       have HLB:Hid ((mvF P b (wholeF Q n c) Q).length=n):=HWN.out _
       have HNX2:=Lib.hid (HNX.out m hlm)
       have HPL:Hid (((turnX P Q n c b).take m).length≤1000):=by unfold Hid;rw [List.length_take];omega
       have HXA:=Lib.hid (fun (V:World) (hV:Below ws.heap.size ws V)=>hy1.below (hV.mono (Nat.le_of_lt hgs)))
       have HXB:=Lib.hid (fun (V:World) (hV:Below ws.heap.size ws V)=>hy2.below (hV.mono (Nat.le_of_lt hgs)))
       have HSS:Hid (∀ V,Below ws.heap.size ws V→(fun U:World=>U.cell? ⟨gT,m,none⟩=some (.slice Aa n ca2)∧U.cell? ⟨gT,Q,none⟩=some (.slice Ab n cb2)) V):=fun V hV=>⟨(hV.cell (p:=⟨gT,m,none⟩) hgs).trans hc1,(hV.cell (p:=⟨gT,Q,none⟩) hgs).trans hc2⟩
       clear hc1 hc2 hy1 hy2
       generalize mvF P b (wholeF Q n c) m=xa1 at *
       generalize mvF P b (wholeF Q n c) Q=xb1 at *
       generalize (turnX P Q n c b).take m=pre at *
       have HLX:Hid ((xorB xa1 xb1).length=n):=by unfold Hid;rw [xorB_len];exact HLA.out
       have i1:(0:Int)≤(m:Int):=by omega
       have i2:(m:Int)<(P:Int):=by omega
       have i3:(Q:Int)<(P:Int):=by omega
       have i4:(0:Int)≤(Q:Int):=by omega
       have hwp:IntKind.i64.wrap (Q:Int)=(Q:Int):=IntWalk.i64_in _ (by omega)
       have hnp:¬ P≤Q:=by omega
       have HVLT:=Lib.hid (fun b e=>RowG.own_lt hrow b e)
       have HVLE:=Lib.hid (fun b e=>RowG.own_le hrow b e)
       go_wp2_with fail
       have hS:(fun U:World=>U.cell? ⟨gT,m,none⟩=some (.slice Aa n ca2)∧U.cell? ⟨gT,Q,none⟩=some (.slice Ab n cb2)) wr.drew:=HSS.out _ hBs.drew
       refine (wpIn_wide (n:=12)).1 (wpIn_mono (region_HF (Q:=NoPanic _) (S:=(fun U:World=>U.cell? ⟨gT,m,none⟩=some (.slice Aa n ca2)∧U.cell? ⟨gT,Q,none⟩=some (.slice Ab n cb2))) (by kernel_rfl) ?_) NoPanic.imp)
       refine tkF (i:=0) (d:=48) (v:=u10) (s:=hS) (c:=?_)
       simp only [ud9]
       refine tkF (i:=1) (d:=49) (v:=.slice (some ⟨gT,0,none⟩) P P) (s:=hS) (c:=?_)
       simp only [ud9]
       refine tkF (i:=2) (d:=50) (v:=.int .i64 (m:Int)) (s:=hS) (c:=?_)
       simp only [ud9]
       refine tkF (i:=3) (d:=51) (v:=.pointer (some ⟨gT,m,none⟩)) (s:=hS) (c:=?_)
       simp only [ud9]
       refine tkF (i:=4) (d:=52) (v:=.slice Aa n ca2) (s:=hS) (c:=?_)
       simp only [ud9]
       refine tkF (i:=5) (d:=53) (v:=.slice (some ⟨gT,0,none⟩) P P) (s:=hS) (c:=?_)
       simp only [ud9]
       refine tkF (i:=6) (d:=54) (v:=.int .i64 (P:Int)) (s:=hS) (c:=?_)
       simp only [ud9]
       refine tkF (i:=7) (d:=55) (v:=.int .i64 (Q:Int)) (s:=hS) (c:=?_)
       simp only [ud9]
       refine tkF (i:=8) (d:=56) (v:=.pointer (some ⟨gT,Q,none⟩)) (s:=hS) (c:=?_)
       simp only [ud9]
       refine tkF (i:=9) (d:=57) (v:=.slice Ab n cb2) (s:=hS) (c:=?_)
       simp only [ud9]
       refine oneF (i:=10) (c:=?_)
       gi_wp2_with fail
       refine ⟨trivial,(callsIn_wide.2 (rput_any _ _ xa1 xb1 _ ((HXA.out _ (hBs.drew)).more (by have:=hBs.size;simp;omega)) ((HXB.out _ (hBs.drew)).more (by have:=hBs.size;simp;omega)) (by rw [HLA.out,HLB.out];exact Nat.le_refl _) (by rw [HLA.out];omega))).mono ?_⟩
       rintro e wn ⟨v',rfl,hown,hBn⟩
       replace hBn:=below_undrew hBn
       have hfr:=hown.fresh
       obtain ⟨Ax,cx,hxe,_,_⟩:=id hfr
       rw [HLX.out] at hxe
       subst hxe
       clear hown
       clear hS
       have hS:(fun U:World=>U.cell? ⟨gT,m,none⟩=some (.slice Aa n ca2)∧U.cell? ⟨gT,Q,none⟩=some (.slice Ab n cb2)) wn:=HSS.out _ (below_in hBs hBn)
       gi_wp2
       try (refine ⟨hS,?_⟩)
       refine oneF (i:=11) (c:=?_)
       have hcells:Below wn.heap.size wn (wn.alloc (.cells #[.slice Ax n cx] 64)):=below_one wn _
       have hBc:=below_in hBn hcells
       have HROWM:=Lib.hid (RowG.below hrow hBc)
       have HBLK:=Lib.hid (Blk.new wn 64 #[.slice Ax n cx])
       have hss:=hBs.size
       have hdr:wr.drew.heap.size=wr.heap.size:=rfl
       have hbn:=hBn.size
       have hcs:=hcells.size
       have HBY:Hid (BytesP (fun b=>b<(wn.alloc (.cells #[.slice Ax n cx] 64)).heap.size∧some b≠u10.ownBlock∧True) (wn.alloc (.cells #[.slice Ax n cx] 64)) (.slice Ax n cx) (xorB xa1 xb1)):=by
        obtain ⟨A8,cp8,e8,h8,hA8⟩:=hfr.below hcells
        refine ⟨A8,cp8,by rw [←HLX.out] at e8 ⊢;exact e8,h8,fun hp=>?_⟩
        obtain ⟨b,off,q1,q2,q3,q4⟩:=hA8 hp
        exact ⟨b,off,q1,⟨q3,fun e=>(by have:=HVLT.out b e.symm;omega),trivial⟩,q4⟩
       clear hfr hS
       have hS:(fun U:World=>U.cell? ⟨gT,m,none⟩=some (.slice Aa n ca2)∧U.cell? ⟨gT,Q,none⟩=some (.slice Ab n cb2)) (wn.alloc (.cells #[.slice Ax n cx] 64)):=HSS.out _ (below_in hBs hBc)
       gi_wp2
       try (refine ⟨hS,?_⟩)
       refine oneF (i:=12) (c:=?_)
       refine opIn_pushM (T:=50) (v:=u10) _ (.tmp 48) (.tmp 59) rfl Tryz.underlying50 pre rfl HROWM.out wn.heap.size 64 _ (xorB xa1 xb1) rfl HBLK.out HBY.out (by have:=HPL.out;omega) (by omega) ?_
       intro v' w4 hrow4 hgrow4 hown4
       clear hS
       have hB4:Below ws.heap.size ws w4:=below_grown (below_in hBs hBc) hgrow4 (by omega) (fun g e=>HVLE.out g e)
       have hS:(fun U:World=>U.cell? ⟨gT,m,none⟩=some (.slice Aa n ca2)∧U.cell? ⟨gT,Q,none⟩=some (.slice Ab n cb2)) w4:=HSS.out _ hB4
       gi_wp2_with fail
       try (refine ⟨hS,?_⟩)
       refine oneF (i:=13) (c:=?_)
       gi_wp2
       refine anyHF_done (by kernel_rfl) ?_ _
       refine NoPanic.normal ?_
       clear hS
       gi_wp2_with fail
       go_wp2
       go_roundw
       case rel=>exact ⟨m+1,by omega,by go_num,by rw [HNX2.out];exact hrow4,hB4⟩
       case measure=>simp [intOf];omega
     · have hmQ:m=Q:=by omega
       rw [hmQ] at hrow
       have hdec:decide ((m:Int)<(P:Int) - 1)=false:=by rw [hpq,hmQ];simp
       have HE:Hid ((turnX P Q n c b).take Q=turnC P Q n c b):=by unfold Hid;rw [List.take_of_length_le];exact HIS.out;unfold turnX;simp
       rw [HE.out] at hrow
       clear hmQ
       go_wp2
       go_ret
       exact ⟨_,rfl,RowM.many_ hrow,hBw.trans (hBs.mono (by have:=hBw.size;omega))⟩
end Go.Proofs.YtcchjofjpflbhaaGreatDoor.Rg

namespace Go.Proofs.YtcchjofjpflbhaaGreatDoor.Rg
open Go.RowKit Go.Shelf Go.Proofs.YtcchjofjpflbhaaGreatDoor.C Go.Proofs.YtcchjofjpflbhaaGreatDoor.E
attribute [local go_sem] Oper.semAt_some

theorem putY {P Q n:Nat} (D:Dims P Q n) (a e:List (List UInt8)) (ga:GoodC Q n a) (ge:GoodC Q n e) (u v:Value) (w:World) (h1:Many w.heap.size w u a) (h2:Many w.heap.size w v e) :
 Calls Tryz.prog 69 #[u,v] w fun e' w'=>∃ z,e' = .returned z∧Many w'.heap.size w' z (putC a e)∧Below w.heap.size w w':=by
 have hpb:=prm_bounds D.hp
 have hQ:=D.hQ
 have h64:=D.h64
 exact putD_any u v a e Q n w (Nat.le_refl _) h1 h2 ga.1 ge.1 (by omega) (fun i hi=>(ga.2 i hi).2) (fun i hi=>(ge.2 i hi).2) (by omega)
end Go.Proofs.YtcchjofjpflbhaaGreatDoor.Rg
