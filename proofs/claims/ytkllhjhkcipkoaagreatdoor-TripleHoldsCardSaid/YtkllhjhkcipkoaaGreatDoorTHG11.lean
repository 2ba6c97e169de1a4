/- -/
import Derived.Test.YtkllhjhkcipkoaaGreatDoorTHG10
set_option linter.unusedVariables false
set_option linter.unusedSimpArgs false
set_option maxRecDepth 100000
set_option maxHeartbeats 4000000
namespace Go.Proofs.YtkllhjhkcipkoaaGreatDoor.Rg
open Go.RowKit Go.Shelf Go.Maps Go.Proofs.YtkllhjhkcipkoaaGreatDoor.C Go.Proofs.YtkllhjhkcipkoaaGreatDoor.E
attribute [local go_sem] Oper.semAt_some

theorem opIn_appM {F:Fence} {nF:Nat} {T:TypeId} {Q:Nat→Prop} {base:Nat} {v v2:Value} (w:World) {o:Oper} {a:Act} {K:Act→World→Prop} {QQ:Exit→Act→World→Prop} (s x:Operand)
 (ho:o.op = .call { callee:=.builtin .append,args:=#[s,x],argTypes:=#[T,T] }) (hT:Tryz.prog.underlying T=some (.slice 60)) (css ds:List (List UInt8)) (hs:a.eval s=v) (h:RowM Q w base v css) (hx:a.eval x=v2)
 (h2:manyR.R (fun b=>b<w.heap.size∧some b≠v.ownBlock∧Q b) w v2 ds) (h0:0<ds.length) (hlen:css.length≤100000) (hlen2:ds.length≤100000) (hbase:base≤w.heap.size)
 (hK:∀ v' w',RowM Q w' base v' (css ++ ds)→w.grownBy w' v.ownBlock→K (a.put o.dst v') w'):Oper.wpIn F nF Tryz.prog o a w K QQ:=by
 obtain ⟨i,hi,hz0,hz1,hz2⟩:=info_parts Tryz.infoSlcE
 obtain ⟨v',w',hrun,h1,h3,h4⟩:=RowG.append i hi hz0 hz1 hz2 T o.type hT h h2 (fun A cap e hA=>by
  obtain ⟨A2,c2,e2,_,hA2⟩:=h2
  rw [e] at e2
  injection e2 with _ e3 _
  omega) hlen hlen2 hbase
 unfold Oper.wpIn
 refine ⟨by simp [Oper.about,ho,resolve,Target.leads,Sem.run_pure],?_⟩
 rw [Oper.semAt_plain F _ _ (by rw [ho];intro c hc';cases hc')]
 simp [execOp,ho,resolve,invoke,builtin,hs,hx,hrun,Result.andThen,Oper.uponIn]
 exact hK v' w' h1 h3
theorem RowG.empty {α:Type} (r:Rep α) (t:TypeId) (d:α) (Q:Nat→Prop) {W:World} {base g:Nat} (hg:Blk W g t #[]) (hb:base≤g):RowG r t d Q W base (.slice (some ⟨g,0,none⟩) 0 0) [] :=
 ⟨[],⟨rfl,.inr ⟨g,0,#[],rfl,hb,hg,Nat.le_refl _,by unfold maxLen;omega,rfl,rfl⟩⟩,rfl,fun j y hy=>by cases hy⟩
section
open Go.Proofs.YtkllhjhkcipkoaaGreatDoor.E
theorem nought_fresh (n:Nat) (hn:n≤1000) (w:World):Calls Tryz.prog 38 #[.int .i64 (n:Int)] w fun e w'=>∃ u,e = .returned u∧Fresh w.heap.size w' u (List.replicate n 0)∧Below w.heap.size w w':=by
 obtain ⟨i0,hi,hz0,hz1,hz2⟩:=info_parts Tryz.infoByte
 have hmk:=fun W:World=>run_make (P:=Tryz.prog) W 60 5 i0 (.int .u8 0) Tryz.underlying60 hi hz0 .i64 .i64 (n:Int) (n:Int) (by omega) (by omega) (by rw [hz2];omega) (by omega)
 simp only [hz1,Nat.mul_one,Int.toNat_natCast] at hmk
 have hR:=Row.made w n
 have hBz:=below_one w (.cells (madeCells #[.int .u8 0] n) 5)
 go_enter Tryz.func38,Tryz.ntmps38
 go_wp2
 go_ret
 exact ⟨_,rfl,Row.fresh hR (Nat.le_refl _) (by simp),hBz⟩
end
def turnX (P Q n:Nat) (c:List (List UInt8)) (b:Int):List (List UInt8):=(List.range Q).map fun i=>xorB (mvF P b (wholeF Q n c) i) (mvF P b (wholeF Q n c) Q)
theorem turnX_is {P Q n:Nat} {c:List (List UInt8)} (hc:GoodC Q n c) (b:Int):turnX P Q n c b=turnC P Q n c b:=by
 unfold turnX turnC
 refine List.map_congr_left fun i _=>?_
 refine ext_at (by rw [xorB_len,len_two (mv_len hc b i) (mv_len hc b Q),mv_len hc b i]) fun j=>?_
 rw [at_two (mv_len hc b i) (mv_len hc b Q),at_xorB _ _ _ ((mv_len hc b Q).trans (mv_len hc b i).symm)]
theorem turnX_next {P Q n:Nat} (c:List (List UInt8)) (b:Int) {m:Nat} (hm:m<Q):(turnX P Q n c b).take (m+1)=(turnX P Q n c b).take m ++ [xorB (mvF P b (wholeF Q n c) m) (mvF P b (wholeF Q n c) Q)]:=by
 unfold turnX
 rw [map_next _ 0 _ (by rw [List.length_range];exact hm),List.getElem?_range hm]
 rfl
theorem back_place {P o i:Nat} (b:Int) (hi:i<P) (ho:b % (P:Int)=(o:Int)):((((i:Int) - b) % (P:Int)).toNat+o) % P=i:=by
 have h0:=Int.emod_nonneg ((i:Int) - b) (show (P:Int)≠0 by omega)
 have e:(((((i:Int) - b) % (P:Int)).toNat+o:Nat):Int) % (P:Int)=(i:Int):=by
  rw [Int.natCast_add,Int.toNat_of_nonneg h0,←ho,←Int.add_emod,show (i:Int) - b+b=i by omega,Int.emod_eq_of_lt (by omega) (by omega)]
 omega
theorem whole_list {Q n:Nat} {c:List (List UInt8)} (hc:c.length=Q) {i:Nat} (hi:i<Q+1):((c ++ [List.replicate n 0])[i]?).getD []=wholeF Q n c i:=by
 unfold wholeF
 by_cases h:i<Q
 · rw [if_pos h,List.getElem?_append_left (by omega)]
 · rw [if_neg h,show i=c.length by omega,List.getElem?_append_right (Nat.le_refl _)]
   simp
def Trn (P:Nat) (o:Nat) (f:Nat→List UInt8) (B gT:Nat) (k:Nat) (X:World):Prop :=
 ∃ cur:List Value,Blk X gT 60 cur.toArray∧cur.length=P∧∀ j,j<k→∃ u,cur[(j+o) % P]?=some u∧Bytes B X u (f j)
theorem Trn.next {P o:Nat} {f:Nat→List UInt8} {B gT k t:Nat} {X:World} {u:Value} (h:Trn P o f B gT k X) (hk:k<P) (ht:(k+o) % P=t) (hB:B≤gT) (hu:Bytes B X u (f k)):Trn P o f B gT (k+1) (X.setCell ⟨gT,t,none⟩ u):=by
 obtain ⟨cur,hb,hl,hc⟩:=h
 have htl:t<cur.length:=by rw [hl,←ht];exact Nat.mod_lt _ (by omega)
 have hX:Below gT X (X.setCell ⟨gT,t,none⟩ u):=(Below.refl gT X).setCell (Nat.le_refl _) _
 have hk2:∀ {v:Value} {l:List UInt8},Bytes B X v l→Bytes B (X.setCell ⟨gT,t,none⟩ u) v l:=fun hv=>hv.below (hX.mono hB)
 refine ⟨cur.set t u,by have:=hb.set_ t u;rwa [List.setIfInBounds_toArray] at this,by rw [List.length_set];exact hl,fun j hj=>?_⟩
 by_cases e:j=k
 · subst e
   rw [ht]
   exact ⟨u,by rw [List.getElem?_set_self htl],hk2 hu⟩
 · obtain ⟨x,h1,h2⟩:=hc j (by omega)
   refine ⟨x,?_,hk2 h2⟩
   rw [List.getElem?_set_ne,h1]
   intro e2
   have e3:(k+o) % P=(j+o) % P:=by rw [ht,e2]
   have e4:=Nat.sub_mod_eq_zero_of_mod_eq e3
   rw [show k+o - (j+o)=k - j by omega,Nat.mod_eq_of_lt (by omega)] at e4
   omega
theorem turnD_any {P Q n:Nat} (D:Dims P Q n) (b:Int) (y1:-9223372036854775808≤b) (y2:b≤9223372036854775807) (c:List (List UInt8)) (hc:GoodC Q n c) (v:Value) (w:World) (hM:Many w.heap.size w v c) :
 Calls Tryz.prog 26 #[.int .i64 (P:Int),v,.int .i64 b] w fun e w'=>∃ u,e = .returned u∧Many w'.heap.size w' u (turnC P Q n c b)∧Below w.heap.size w w':=by
 have hpb:=prm_bounds D.hp
 have hQP:=D.hQ
 have h1:=D.h1
 have h64:=D.h64
 have hq1:2≤Q:=by omega
 have hq2:Q≤16:=by omega
 have hq0:Q≠0:=by omega
 have hq3:(0:Int)<(Q:Int):=by omega
 have HCL:=Lib.hid hc.1
 obtain ⟨A,ca,rfl,_,_⟩:=id hM
 obtain ⟨b0,off,rfl,hb0,hrow⟩:=many_at hM (by rw [hc.1];omega)
 obtain ⟨A0,c0,hc0,_⟩:=hrow 0 (by rw [hc.1];omega)
 rw [(hc.2 0 (by omega)).2,Nat.add_zero] at hc0
 rw [hc.1] at hM ⊢
 clear hrow
 have HM:=Lib.hid (fun (U:World) (hU:Below w.heap.size w U)=>hM.below hU)
 have HSS:Hid (∀ V,Below w.heap.size w V→(fun U:World=>U.cell? ⟨b0,off,none⟩=some (.slice A0 n c0)) V):=fun V hV=>(hV.cell (p:=⟨b0,off,none⟩) hb0).trans hc0
 have hOF:b % (P:Int)=((b % (P:Int)).toNat:Int):=by have:=Int.emod_nonneg b (show (P:Int)≠0 by omega);omega
 have HOF:=Lib.hid (fun U=>rof_any (P:Int) b U (by omega) (by omega) y1 y2)
 have HWL:=Lib.hid (fun i (hi:i<Q+1)=>whole_list (n:=n) hc.1 hi)
 have HWN:=Lib.hid (fun r=>whole_len hc r)
 have HNX:=Lib.hid (fun m (hm:m<Q)=>turnX_next (P:=P) (n:=n) c b hm)
 have HIS:=Lib.hid (turnX_is (P:=P) hc b)
 have HQ:=Lib.hid hQP
 have HCC:=Lib.hid hc
 obtain ⟨i0,hi0,hz0,hz1,hz2⟩:=info_parts Tryz.infoSlc
 have hmk:=fun W:World=>run_make (P:=Tryz.prog) W 41 60 i0 (.slice none 0 0) Tryz.underlying41 hi0 hz0 .i64 .i64 (P:Int) (P:Int) (by omega) (by omega) (by rw [hz2];omega) (by omega)
 simp only [hz1,Nat.mul_one,Int.toNat_natCast,show (Value.slice none 0 0).cells=#[.slice none 0 0] from rfl,made_nils] at hmk
 clear hz0 hz1 hz2 hi0 hQP hc hM
 go_enter Tryz.func26,Tryz.ntmps26
 go_wp2_with fail
 obtain ⟨wd,hwd⟩:∃ x,w.drew=x:=⟨_,rfl⟩
 have hBd:Below w.heap.size w wd:=by rw [←hwd];exact (Below.refl _ _).drew
 have hS:(fun U:World=>U.cell? ⟨b0,off,none⟩=some (.slice A0 n c0)) wd:=HSS.out _ hBd
 refine (wpIn_wide (n:=12)).1 (wpIn_mono (region_HF (Q:=NoPanic _) (S:=(fun U:World=>U.cell? ⟨b0,off,none⟩=some (.slice A0 n c0))) (by kernel_rfl) ?_) NoPanic.imp)
 rw [hwd]
 clear hwd
 refine anyHF_take (i:=1) (d:=13) (v:=.slice (some ⟨b0,off,none⟩) Q ca) (by kernel_rfl) rfl (by kernel_rfl) (by kernel_rfl) (by kernel_rfl) rfl (fun _ _ _ h=>h) ⟨Or.inl ⟨by rfl,fun w hS=>by have h0:=hS;go_simp⟩,fun _=>rfl⟩ hS ?_
 simp only [ud9]
 refine anyHF_take (i:=3) (d:=15) (v:=.slice (some ⟨b0,off,none⟩) Q ca) (by kernel_rfl) rfl (by kernel_rfl) (by kernel_rfl) (by kernel_rfl) rfl (fun _ _ _ h=>h) ⟨Or.inl ⟨by rfl,fun w hS=>by have h0:=hS;go_simp⟩,fun _=>rfl⟩ hS ?_
 simp only [ud9]
 refine anyHF_take (i:=4) (d:=16) (v:=.pointer (some ⟨b0,off,none⟩)) (by kernel_rfl) rfl (by kernel_rfl) (by kernel_rfl) (by kernel_rfl) rfl (fun _ _ _ h=>h) ⟨Or.inl ⟨by rfl,fun w hS=>by have h0:=hS;go_simp⟩,fun _=>rfl⟩ hS ?_
 simp only [ud9]
 refine anyHF_take (i:=5) (d:=17) (v:=.slice A0 n c0) (by kernel_rfl) rfl (by kernel_rfl) (by kernel_rfl) (by kernel_rfl) rfl (fun _ _ _ h=>h) ⟨Or.inl ⟨by rfl,fun w hS=>by have h0:=hS;go_simp⟩,fun _=>rfl⟩ hS ?_
 simp only [ud9]
 refine anyHF_take (i:=6) (d:=18) (v:=.int .i64 (n:Int)) (by kernel_rfl) rfl (by kernel_rfl) (by kernel_rfl) (by kernel_rfl) rfl (fun _ _ _ h=>h) ⟨Or.inl ⟨by rfl,fun w hS=>by have h0:=hS;go_simp⟩,fun _=>rfl⟩ hS ?_
 simp only [ud9]
 refine oneF (i:=0) (c:=?_)
 have hA1:=below_one wd (.cells #[] 60)
 have HR1:Hid (RowM (fun _=>True) (wd.alloc (.cells #[] 60)) wd.heap.size (.slice (some ⟨wd.heap.size,0,none⟩) 0 0) []):=RowG.empty _ _ _ _ (Blk.new wd 60 #[]) (Nat.le_refl _)
 have hB1:=below_in hBd hA1
 have hs1:=hA1.size
 have hsd:=hBd.size
 have HD1:Hid (manyR.R (fun b=>b<(wd.alloc (.cells #[] 60)).heap.size∧some b≠(Value.slice (some ⟨wd.heap.size,0,none⟩) 0 0).ownBlock∧True) (wd.alloc (.cells #[] 60)) (.slice (some ⟨b0,off,none⟩) Q ca) c):=manyR.imp (manyR_iff.2 (HM.out _ hB1)) fun q hq=>⟨by omega,fun e=>by have:=RowG.own_le HR1.out q e.symm;omega,trivial⟩
 clear hS
 have hS:(fun U:World=>U.cell? ⟨b0,off,none⟩=some (.slice A0 n c0)) (wd.alloc (.cells #[] 60)):=HSS.out _ hB1
 gi_wp2
 try (refine ⟨hS,?_⟩)
 refine oneF (i:=2) (c:=?_)
 refine opIn_appM (T:=41) (v:=.slice (some ⟨wd.heap.size,0,none⟩) 0 0) _ (.tmp 12) (.tmp 13) rfl Tryz.underlying41 [] c rfl HR1.out rfl HD1.out (by rw [HCL.out];omega) (by simp) (by rw [HCL.out];omega) (by omega) ?_
 intro va w2 hrow2 hgrow2
 have hole2:∀ q,(Value.slice (some ⟨wd.heap.size,0,none⟩) 0 0).ownBlock=some q→wd.heap.size≤q:=fun q e=>RowG.own_le HR1.out q e
 have hB2:Below w.heap.size w w2:=below_grown hB1 hgrow2 (by omega) (fun q e=>by have:=hole2 q e;omega)
 have hs2:=hB2.size
 have hg2:=hgrow2.size
 rw [List.nil_append] at hrow2
 clear hS
 have hS:(fun U:World=>U.cell? ⟨b0,off,none⟩=some (.slice A0 n c0)) w2:=HSS.out _ hB2
 gi_wp2_with fail
 try (refine ⟨hS,?_⟩)
 refine oneF (i:=7) (c:=?_)
 gi_wp2_with fail
 refine ⟨trivial,(callsIn_wide.2 (nought_fresh n (by omega) w2)).mono ?_⟩
 rintro e w3 ⟨u0,rfl,hu0,hB3⟩
 obtain ⟨A3,c3,e3,_,_⟩:=id hu0
 rw [List.length_replicate] at e3
 subst e3
 clear hS
 have hS:(fun U:World=>U.cell? ⟨b0,off,none⟩=some (.slice A0 n c0)) w3:=HSS.out _ (below_in hB2 hB3)
 gi_wp2
 try (refine ⟨hS,?_⟩)
 refine oneF (i:=8) (c:=?_)
 have hA4:=below_one w3 (.cells #[.slice A3 n c3] 60)
 have hB34:=below_in hB3 hA4
 have HR4:=Lib.hid (RowG.below hrow2 hB34)
 have HBLK:=Lib.hid (Blk.new w3 60 #[.slice A3 n c3])
 have hs3:=hB3.size
 have hs4:=hA4.size
 have hlt2:∀ q,va.ownBlock=some q→q<w2.heap.size:=fun q e=>RowG.own_lt hrow2 q e
 have HBY:Hid (BytesP (fun q=>q<(w3.alloc (.cells #[.slice A3 n c3] 60)).heap.size∧some q≠va.ownBlock∧True) (w3.alloc (.cells #[.slice A3 n c3] 60)) (.slice A3 n c3) (List.replicate n 0)):=by
  obtain ⟨A8,cp8,e8,h8,hA8⟩:=hu0.below hA4
  refine ⟨A8,cp8,e8,h8,fun hp=>?_⟩
  obtain ⟨q,of8,q1,q2,q3,q4⟩:=hA8 hp
  exact ⟨q,of8,q1,⟨q3,fun e=>(by have:=hlt2 q e.symm;omega),trivial⟩,q4⟩
 have hB4:=below_in hB2 hB34
 clear hrow2 hu0 hS
 have hS:(fun U:World=>U.cell? ⟨b0,off,none⟩=some (.slice A0 n c0)) (w3.alloc (.cells #[.slice A3 n c3] 60)):=HSS.out _ hB4
 gi_wp2
 try (refine ⟨hS,?_⟩)
 refine oneF (i:=9) (c:=?_)
 refine opIn_pushM (T:=41) (v:=va) _ (.tmp 14) (.tmp 20) rfl Tryz.underlying41 c rfl HR4.out w3.heap.size 60 _ (List.replicate n 0) rfl HBLK.out HBY.out (by rw [HCL.out];omega) (by omega) ?_
 intro v5 w5 hrow5 hgrow5 hown5
 have hole4:∀ q,va.ownBlock=some q→wd.heap.size≤q:=fun q e=>RowG.own_le HR4.out q e
 have hB5:Below w.heap.size w w5:=below_grown hB4 hgrow5 (by omega) (fun q e=>by have:=hole4 q e;omega)
 have hs5:=hB5.size
 have hg5:=hgrow5.size
 clear hS
 have hS:(fun U:World=>U.cell? ⟨b0,off,none⟩=some (.slice A0 n c0)) w5:=HSS.out _ hB5
 gi_wp2_with fail
 try (refine ⟨hS,?_⟩)
 refine oneF (i:=10) (c:=?_)
 gi_wp2
 refine anyHF_done (by kernel_rfl) ?_ _
 refine NoPanic.normal ?_
 clear hS hc0
 have hm5:=RowM.many_ hrow5
 have hwl5:(c ++ [List.replicate n 0]).length=P:=by rw [List.length_append,HCL.out];have:=HQ.out;simp;omega
 obtain ⟨A5,cw,e5,_,_⟩:=id hm5
 rw [hwl5] at e5
 subst e5
 have hm6:Many w5.heap.size w5 (.slice A5 (c ++ [List.replicate n 0]).length cw) (c ++ [List.replicate n 0]):=by rw [hwl5];exact hm5
 obtain ⟨bw,ow,rfl,hbw,hroww⟩:=many_at hm6 (by rw [hwl5];omega)
 have HROW:Hid (∀ i,i<P→∃ Ai ci,w5.cell? ⟨bw,ow+i,none⟩=some (.slice Ai n ci)∧Bytes w5.heap.size w5 (.slice Ai n ci) (wholeF Q n c i)):=fun i hi=>by
  obtain ⟨Ai,ci,q1,q2⟩:=hroww i (by rw [hwl5];exact hi)
  have e:=HWL.out i (by have:=HQ.out;omega)
  rw [e,HWN.out i] at q1 q2
  exact ⟨Ai,ci,q1,q2⟩
 clear hm5 hm6 hroww hrow5 hgrow5 hown5 HR4 HBLK HBY HR1 HD1 hole4 hlt2
 obtain ⟨o,ho⟩:∃ o:Nat,(b % (P:Int)).toNat=o:=⟨_,rfl⟩
 rw [ho] at hOF
 have hoP:o<P:=by have:=Int.emod_lt_of_pos b (show (0:Int)<P by omega);omega
 have HO:=Lib.hid hOF
 rw [hOF] at HOF
 clear hOF ho
 have hPn:((P:Int) == 0)=false:=by rw [beq_eq_false_iff_ne];omega
 have hPz:(P:Int)≠0:=by omega
 go_wp2_with fail
 have h56:=below_one w5 (.cells (Array.replicate P (Value.slice none 0 0)) 60)
 have bT:=Blk.new w5 60 (Array.replicate P (Value.slice none 0 0))
 obtain ⟨gT,hgT⟩:∃ x,w5.heap.size=x:=⟨_,rfl⟩
 obtain ⟨w6,hw6⟩:∃ x,w5.alloc (.cells (Array.replicate P (Value.slice none 0 0)) 60)=x:=⟨_,rfl⟩
 rw [hw6] at h56 bT
 rw [hgT] at h56 bT hbw HROW hs5 ⊢
 try rw [hw6]
 clear hw6 hgT
 rw [←List.toArray_replicate] at bT
 have hT0:Trn P o (wholeF Q n c) gT gT 0 w6:=⟨_,bT,by simp,fun j hj=>absurd hj (by omega)⟩
 clear bT
 go_loopw [9] (fun i wr=>∃ k:Nat,k≤P∧i = .int .i64 k∧Trn P o (wholeF Q n c) gT gT k wr∧Below gT w5 wr) (fun i _=>P - (intOf i).toNat)
 case atStart=>exact ⟨0,Nat.zero_le _,rfl,hT0,h56⟩
 case round =>
  obtain ⟨k,hk,rfl,hT,hBr⟩:=hrel
  by_cases hlt:k<P
  · have hdec:decide ((k:Int)<(P:Int))=true:=by simp;omega
    obtain ⟨Ak,ck,hck,hyk⟩:=HROW.out k hlt
    have i1:(0:Int)≤(k:Int):=by omega
    have i2:(k:Int)<(P:Int):=by omega
    have i3:(0:Int)≤(o:Int):=by omega
    have hP0:P≠0:=by omega
    have hwk:IntKind.i64.wrap ((k:Int)+(o:Int))=(k:Int)+(o:Int):=IntWalk.i64_in _ (by omega)
    have i4:(o:Int)<(P:Int):=by omega
    obtain ⟨t,ht⟩:∃ t,(k+o) % P=t:=⟨_,rfl⟩
    have htP:t<P:=by rw [←ht];exact Nat.mod_lt _ (by omega)
    have i5:(0:Int)≤(t:Int):=by omega
    have i6:(t:Int)<(P:Int):=by omega
    have hrem:((k:Int)+(o:Int)).tmod (P:Int)=(t:Int):=by rw [←Int.natCast_add,←Int.ofNat_tmod,ht]
    have hrem2:((k:Int)+(o:Int)) % (P:Int)=(t:Int):=by rw [←Int.natCast_add,←Int.natCast_emod,ht]
    have HSP:Hid (∀ V,Below gT wr V→(fun U:World=>U.cell? ⟨bw,ow+k,none⟩=some (.slice Ak n ck)) V):=fun V hV=>(((hBr.trans hV).cell (p:=⟨bw,ow+k,none⟩) hbw).trans hck)
    have hTc:=id hT
    obtain ⟨cur,hcb,hcl,_⟩:=hTc
    have hgl:=hcb.lt
    have HOLD:Hid (∃ old,wr.cell? ⟨gT,t,none⟩=some old):=⟨_,by rw [hcb.cell,List.getElem?_toArray,List.getElem?_eq_getElem (by rw [hcl];exact htP)]⟩
    have HFZ:Hid (wr.frozen? ⟨gT,t,none⟩=false):=hcb.frozen t
    have hdr:Below gT wr wr.drew:=(Below.refl gT wr).drew
    have hst:Below gT wr (wr.drew.setCell ⟨gT,t,none⟩ (.slice Ak n ck)):=hdr.setCell (Nat.le_refl _) _
    have HT:=Lib.hid hT
    have HTN:Hid (Trn P o (wholeF Q n c) gT gT (k+1) (wr.drew.setCell ⟨gT,t,none⟩ (.slice Ak n ck))):=Trn.next (X:=wr.drew) (by obtain ⟨cur',x1,x2,x3⟩:=hT;exact ⟨cur',x1,x2,fun j hj=>by obtain ⟨u,y1,y2⟩:=x3 j hj;exact ⟨u,y1,y2.below (B:=gT) hdr⟩⟩) hlt ht (Nat.le_refl _) (hyk.below (hBr.trans hdr))
    have HBN:=Lib.hid (hBr.trans hst)
    clear hT hcb hck hyk
    go_wp2_with fail
    have hS:(fun U:World=>U.cell? ⟨bw,ow+k,none⟩=some (.slice Ak n ck)) wr.drew:=HSP.out _ hdr
    refine (wpIn_wide (n:=12)).1 (wpIn_mono (region_HF (Q:=NoPanic _) (S:=(fun U:World=>U.cell? ⟨bw,ow+k,none⟩=some (.slice Ak n ck))) (by kernel_rfl) ?_) NoPanic.imp)
    refine anyHF_take (i:=0) (d:=29) (v:=.slice (some ⟨gT,0,none⟩) P P) (by kernel_rfl) rfl (by kernel_rfl) (by kernel_rfl) (by kernel_rfl) rfl (fun _ _ _ h=>h) ⟨Or.inl ⟨by rfl,fun w hS=>by have h0:=hS;go_simp⟩,fun _=>rfl⟩ hS ?_
    simp only [ud9]
    refine anyHF_take (i:=1) (d:=30) (v:=.int .i64 (k:Int)) (by kernel_rfl) rfl (by kernel_rfl) (by kernel_rfl) (by kernel_rfl) rfl (fun _ _ _ h=>h) ⟨Or.inl ⟨by rfl,fun w hS=>by have h0:=hS;go_simp⟩,fun _=>rfl⟩ hS ?_
    simp only [ud9]
    refine anyHF_take (i:=2) (d:=31) (v:=.int .i64 (P:Int)) (by kernel_rfl) rfl (by kernel_rfl) (by kernel_rfl) (by kernel_rfl) rfl (fun _ _ _ h=>h) ⟨Or.inl ⟨by rfl,fun w hS=>by have h0:=hS;go_simp⟩,fun _=>rfl⟩ hS ?_
    simp only [ud9]
    refine anyHF_take (i:=3) (d:=32) (v:=.int .i64 b) (by kernel_rfl) rfl (by kernel_rfl) (by kernel_rfl) (by kernel_rfl) rfl (fun _ _ _ h=>h) ⟨Or.inl ⟨by rfl,fun w hS=>by have h0:=hS;go_simp⟩,fun _=>rfl⟩ hS ?_
    simp only [ud9]
    refine anyHF_take (i:=6) (d:=35) (v:=.int .i64 (P:Int)) (by kernel_rfl) rfl (by kernel_rfl) (by kernel_rfl) (by kernel_rfl) rfl (fun _ _ _ h=>h) ⟨Or.inl ⟨by rfl,fun w hS=>by have h0:=hS;go_simp⟩,fun _=>rfl⟩ hS ?_
    simp only [ud9]
    refine anyHF_take (i:=8) (d:=37) (v:=.slice (some ⟨bw,ow,none⟩) P cw) (by kernel_rfl) rfl (by kernel_rfl) (by kernel_rfl) (by kernel_rfl) rfl (fun _ _ _ h=>h) ⟨Or.inl ⟨by rfl,fun w hS=>by have h0:=hS;go_simp⟩,fun _=>rfl⟩ hS ?_
    simp only [ud9]
    refine anyHF_take (i:=9) (d:=38) (v:=.int .i64 (k:Int)) (by kernel_rfl) rfl (by kernel_rfl) (by kernel_rfl) (by kernel_rfl) rfl (fun _ _ _ h=>h) ⟨Or.inl ⟨by rfl,fun w hS=>by have h0:=hS;go_simp⟩,fun _=>rfl⟩ hS ?_
    simp only [ud9]
    refine anyHF_take (i:=10) (d:=39) (v:=.pointer (some ⟨bw,ow+k,none⟩)) (by kernel_rfl) rfl (by kernel_rfl) (by kernel_rfl) (by kernel_rfl) rfl (fun _ _ _ h=>h) ⟨Or.inl ⟨by rfl,fun w hS=>by have h0:=hS;go_simp⟩,fun _=>rfl⟩ hS ?_
    simp only [ud9]
    refine anyHF_take (i:=11) (d:=40) (v:=.slice Ak n ck) (by kernel_rfl) rfl (by kernel_rfl) (by kernel_rfl) (by kernel_rfl) rfl (fun _ _ _ h=>h) ⟨Or.inl ⟨by rfl,fun w hS=>by have h0:=hS;go_simp⟩,fun _=>rfl⟩ hS ?_
    simp only [ud9]
    refine oneF (i:=4) (c:=?_)
    gi_wp2_with fail
    refine ⟨trivial,(callsIn_wide.2 (HOF.out _)).mono ?_⟩
    rintro e w' ⟨rfl,rfl⟩
    gi_wp2
    try (refine ⟨hS,?_⟩)
    refine anyHF_take (i:=5) (d:=34) (v:=.int .i64 ((k:Int)+(o:Int))) (by kernel_rfl) rfl (by kernel_rfl) (by kernel_rfl) (by kernel_rfl) rfl (fun _ _ _ h=>h) ⟨Or.inl ⟨by rfl,fun w hS=>by have h0:=hS;go_simp⟩,fun _=>rfl⟩ hS ?_
    simp only [ud9]
    refine anyHF_take (i:=7) (d:=36) (v:=.int .i64 (t:Int)) (by kernel_rfl) rfl (by kernel_rfl) (by kernel_rfl) (by kernel_rfl) rfl (fun _ _ _ h=>h) ⟨Or.inl ⟨by rfl,fun w hS=>by have h0:=hS;go_simp⟩,fun _=>rfl⟩ hS ?_
    simp only [ud9]
    refine anyHF_take (i:=12) (d:=41) (v:=.pointer (some ⟨gT,t,none⟩)) (by kernel_rfl) rfl (by kernel_rfl) (by kernel_rfl) (by kernel_rfl) rfl (fun _ _ _ h=>h) ⟨Or.inl ⟨by rfl,fun w hS=>by have h0:=hS;go_simp⟩,fun _=>rfl⟩ hS ?_
    simp only [ud9]
    refine oneF (i:=13) (c:=?_)
    have hSf:=HSP.out _ hst
    obtain ⟨old,hold⟩:=HOLD.out
    have hfz:=HFZ.out
    have q0:=hS
    gi_wp2_with fail
    try (first | (refine ⟨hSf,?_⟩) | (refine ⟨hS,?_⟩))
    refine anyHF_done (by kernel_rfl) ?_ _
    refine NoPanic.normal ?_
    clear hS
    gi_wp2_with fail
    go_wp2
    go_roundw
    case rel=>exact ⟨k+1,by omega,by go_num,HTN.out,HBN.out⟩
    case measure=>simp [intOf];omega
  · have hkP:k=P:=by omega
    rw [hkP] at hT
    have e1:decide ((k:Int)<(P:Int))=false:=by rw [hkP];simp
    have HFIN:Hid (∀ i,i<P→∃ Ai ci,wr.cell? ⟨gT,i,none⟩=some (.slice Ai n ci)∧Bytes gT wr (.slice Ai n ci) (mvF P b (wholeF Q n c) i)):=fun i hi=>by
     obtain ⟨cur,x1,x2,x3⟩:=hT
     have hlt2:(((i:Int) - b) % (P:Int)).toNat<P:=by have:=Int.emod_nonneg ((i:Int) - b) hPz;have:=Int.emod_lt_of_pos ((i:Int) - b) (show (0:Int)<P by omega);omega
     obtain ⟨u,y1,y2⟩:=x3 _ hlt2
     rw [back_place b hi HO.out] at y1
     obtain ⟨Ai,ci,e,_,_⟩:=id y2
     rw [HWN.out] at e
     subst e
     exact ⟨Ai,ci,by rw [x1.cell,List.getElem?_toArray];exact y1,y2⟩
    have hgs:gT<wr.heap.size:=by obtain ⟨cur,x1,_⟩:=hT;exact x1.lt
    have hBw:=hB5.trans (hBr.mono hs5)
    clear hT hBr hkP HROW hT0 h56 HOF
    obtain ⟨ws,hws⟩:∃ x:World,x=wr:=⟨_,rfl⟩
    subst hws
    go_wp2
    go_loopw [10,11] (fun v i wr=>∃ m:Nat,m≤Q∧i = .int .i64 m∧RowM (fun _=>True) wr ws.heap.size v ((turnX P Q n c b).take m)∧Below ws.heap.size ws wr) (fun _ i _=>Q - (intOf i).toNat)
    case atStart=>exact ⟨0,Nat.zero_le _,rfl,RowG.nil _ _ _ _ _ _,Below.refl _ _⟩
    case round =>
     obtain ⟨m,hm,rfl,hrow,hBs⟩:=hrel
     have hpq:(P:Int) - 1=(Q:Int):=by have:=HQ.out;omega
     by_cases hlm:m<Q
     · have hdec:decide ((m:Int)<(P:Int) - 1)=true:=by rw [hpq];simp;omega
       obtain ⟨Aa,ca2,hc1,hy1⟩:=HFIN.out m (by have:=HQ.out;omega)
       obtain ⟨Ab,cb2,hc2,hy2⟩:=HFIN.out Q (by have:=HQ.out;omega)
       have HLA:Hid ((mvF P b (wholeF Q n c) m).length=n):=HWN.out _
       have HLB:Hid ((mvF P b (wholeF Q n c) Q).length=n):=HWN.out _
       have HNX2:=Lib.hid (HNX.out m hlm)
       have HPL:Hid (((turnX P Q n c b).take m).length≤1000):=by unfold Hid;rw [List.length_take];omega
       have HXA:=Lib.hid (fun (V:World) (hV:Below ws.heap.size ws V)=>hy1.below (hV.mono (Nat.le_of_lt hgs)))
       have HXB:=Lib.hid (fun (V:World) (hV:Below ws.heap.size ws V)=>hy2.below (hV.mono (Nat.le_of_lt hgs)))
       have HSS:Hid (∀ V,Below ws.heap.size ws V→(fun U:World=>U.cell? ⟨gT,m,none⟩=some (.slice Aa n ca2)∧U.cell? ⟨gT,Q,none⟩=some (.slice Ab n cb2)) V):=fun V hV=>⟨(hV.cell (p:=⟨gT,m,none⟩) hgs).trans hc1,(hV.cell (p:=⟨gT,Q,none⟩) hgs).trans hc2⟩
       clear hc1 hc2 hy1 hy2
       generalize mvF P b (wholeF Q n c) m=xa1 at *
       generalize mvF P b (wholeF Q n c) Q=xb1 at *
       generalize (turnX P Q n c b).take m=pre at *
       have HLX:Hid ((xorB xa1 xb1).length=n):=by unfold Hid;rw [xorB_len];exact HLA.out
       have i1:(0:Int)≤(m:Int):=by omega
       have i2:(m:Int)<(P:Int):=by omega
       have i3:(Q:Int)<(P:Int):=by omega
       have i4:(0:Int)≤(Q:Int):=by omega
       have hwp:IntKind.i64.wrap (Q:Int)=(Q:Int):=IntWalk.i64_in _ (by omega)
       have hnp:¬ P≤Q:=by omega
       have HVLT:=Lib.hid (fun b e=>RowG.own_lt hrow b e)
       have HVLE:=Lib.hid (fun b e=>RowG.own_le hrow b e)
       go_wp2_with fail
       have hS:(fun U:World=>U.cell? ⟨gT,m,none⟩=some (.slice Aa n ca2)∧U.cell? ⟨gT,Q,none⟩=some (.slice Ab n cb2)) wr.drew:=HSS.out _ hBs.drew
       refine (wpIn_wide (n:=12)).1 (wpIn_mono (region_HF (Q:=NoPanic _) (S:=(fun U:World=>U.cell? ⟨gT,m,none⟩=some (.slice Aa n ca2)∧U.cell? ⟨gT,Q,none⟩=some (.slice Ab n cb2))) (by kernel_rfl) ?_) NoPanic.imp)
       refine tkF (i:=0) (d:=48) (v:=u10) (s:=hS) (c:=?_)
       simp only [ud9]
       refine tkF (i:=1) (d:=49) (v:=.slice (some ⟨gT,0,none⟩) P P) (s:=hS) (c:=?_)
       simp only [ud9]
       refine tkF (i:=2) (d:=50) (v:=.int .i64 (m:Int)) (s:=hS) (c:=?_)
       simp only [ud9]
       refine tkF (i:=3) (d:=51) (v:=.pointer (some ⟨gT,m,none⟩)) (s:=hS) (c:=?_)
       simp only [ud9]
       refine tkF (i:=4) (d:=52) (v:=.slice Aa n ca2) (s:=hS) (c:=?_)
       simp only [ud9]
       refine tkF (i:=5) (d:=53) (v:=.slice (some ⟨gT,0,none⟩) P P) (s:=hS) (c:=?_)
       simp only [ud9]
       refine tkF (i:=6) (d:=54) (v:=.int .i64 (P:Int)) (s:=hS) (c:=?_)
       simp only [ud9]
       refine tkF (i:=7) (d:=55) (v:=.int .i64 (Q:Int)) (s:=hS) (c:=?_)
       simp only [ud9]
       refine tkF (i:=8) (d:=56) (v:=.pointer (some ⟨gT,Q,none⟩)) (s:=hS) (c:=?_)
       simp only [ud9]
       refine tkF (i:=9) (d:=57) (v:=.slice Ab n cb2) (s:=hS) (c:=?_)
       simp only [ud9]
       refine oneF (i:=10) (c:=?_)
       gi_wp2_with fail
       refine ⟨trivial,(callsIn_wide.2 (rput_any _ _ xa1 xb1 _ ((HXA.out _ (hBs.drew)).more (by have:=hBs.size;simp;omega)) ((HXB.out _ (hBs.drew)).more (by have:=hBs.size;simp;omega)) (by rw [HLA.out,HLB.out];exact Nat.le_refl _) (by rw [HLA.out];omega))).mono ?_⟩
       rintro e wn ⟨v',rfl,hown,hBn⟩
       replace hBn:=below_undrew hBn
       have hfr:=hown.fresh
       obtain ⟨Ax,cx,hxe,_,_⟩:=id hfr
       rw [HLX.out] at hxe
       subst hxe
       clear hown
       clear hS
       have hS:(fun U:World=>U.cell? ⟨gT,m,none⟩=some (.slice Aa n ca2)∧U.cell? ⟨gT,Q,none⟩=some (.slice Ab n cb2)) wn:=HSS.out _ (below_in hBs hBn)
       gi_wp2
       try (refine ⟨hS,?_⟩)
       refine oneF (i:=11) (c:=?_)
       have hcells:Below wn.heap.size wn (wn.alloc (.cells #[.slice Ax n cx] 60)):=below_one wn _
       have hBc:=below_in hBn hcells
       have HROWM:=Lib.hid (RowG.below hrow hBc)
       have HBLK:=Lib.hid (Blk.new wn 60 #[.slice Ax n cx])
       have hss:=hBs.size
       have hdr:wr.drew.heap.size=wr.heap.size:=rfl
       have hbn:=hBn.size
       have hcs:=hcells.size
       have HBY:Hid (BytesP (fun b=>b<(wn.alloc (.cells #[.slice Ax n cx] 60)).heap.size∧some b≠u10.ownBlock∧True) (wn.alloc (.cells #[.slice Ax n cx] 60)) (.slice Ax n cx) (xorB xa1 xb1)):=by
        obtain ⟨A8,cp8,e8,h8,hA8⟩:=hfr.below hcells
        refine ⟨A8,cp8,by rw [←HLX.out] at e8 ⊢;exact e8,h8,fun hp=>?_⟩
        obtain ⟨b,off,q1,q2,q3,q4⟩:=hA8 hp
        exact ⟨b,off,q1,⟨q3,fun e=>(by have:=HVLT.out b e.symm;omega),trivial⟩,q4⟩
       clear hfr hS
       have hS:(fun U:World=>U.cell? ⟨gT,m,none⟩=some (.slice Aa n ca2)∧U.cell? ⟨gT,Q,none⟩=some (.slice Ab n cb2)) (wn.alloc (.cells #[.slice Ax n cx] 60)):=HSS.out _ (below_in hBs hBc)
       gi_wp2
       try (refine ⟨hS,?_⟩)
       refine oneF (i:=12) (c:=?_)
       refine opIn_pushM (T:=41) (v:=u10) _ (.tmp 48) (.tmp 59) rfl Tryz.underlying41 pre rfl HROWM.out wn.heap.size 60 _ (xorB xa1 xb1) rfl HBLK.out HBY.out (by have:=HPL.out;omega) (by omega) ?_
       intro v' w4 hrow4 hgrow4 hown4
       clear hS
       have hB4:Below ws.heap.size ws w4:=below_grown (below_in hBs hBc) hgrow4 (by omega) (fun g e=>HVLE.out g e)
       have hS:(fun U:World=>U.cell? ⟨gT,m,none⟩=some (.slice Aa n ca2)∧U.cell? ⟨gT,Q,none⟩=some (.slice Ab n cb2)) w4:=HSS.out _ hB4
       gi_wp2_with fail
       try (refine ⟨hS,?_⟩)
       refine oneF (i:=13) (c:=?_)
       gi_wp2
       refine anyHF_done (by kernel_rfl) ?_ _
       refine NoPanic.normal ?_
       clear hS
       gi_wp2_with fail
       go_wp2
       go_roundw
       case rel=>exact ⟨m+1,by omega,by go_num,by rw [HNX2.out];exact hrow4,hB4⟩
       case measure=>simp [intOf];omega
     · have hmQ:m=Q:=by omega
       rw [hmQ] at hrow
       have hdec:decide ((m:Int)<(P:Int) - 1)=false:=by rw [hpq,hmQ];simp
       have HE:Hid ((turnX P Q n c b).take Q=turnC P Q n c b):=by unfold Hid;rw [List.take_of_length_le];exact HIS.out;unfold turnX;simp
       rw [HE.out] at hrow
       clear hmQ
       go_wp2
       go_ret
       exact ⟨_,rfl,RowM.many_ hrow,hBw.trans (hBs.mono (by have:=hBw.size;omega))⟩
end Go.Proofs.YtkllhjhkcipkoaaGreatDoor.Rg

namespace Go.Proofs.YtkllhjhkcipkoaaGreatDoor.Ch
open Go.RowKit Go.Shelf Go.Proofs.YtkllhjhkcipkoaaGreatDoor.C Go.Proofs.YtkllhjhkcipkoaaGreatDoor.E Go.Proofs.YtkllhjhkcipkoaaGreatDoor.Rg

section
variable {P Q n:Nat} {css:List (List (List UInt8))} {fr:List (List UInt8)} {L:List Int} {f:Int}
end
section
variable {P Q n:Nat} {css:List (List (List UInt8))} {L:List Int}
theorem bt_lost (d:Dims P Q n) {c:Nat} (hc:c<css.length) (j:Nat) (r:Int):Bt P Q n ((lostC L Q n css)[c]?.getD []) j r=if (c:Int)∈L then 0 else Bt P Q n (css[c]?.getD []) j r:=by
 rw [lostC_at L Q n css hc]
 split
 · exact bt_noC d.hQ j r
 · rfl
theorem tu_noC (d:Dims P Q n) {c:Nat} (hc:c<css.length) (a:Int) (j:Nat) (r:Int):tu a (Bt P Q n ((lostC L Q n css)[c]?.getD []) j) r=if (c:Int)∈L then 0 else tu a (Bt P Q n (css[c]?.getD []) j) r:=by
 unfold tu
 rw [bt_lost d hc,bt_lost d hc]
 split
 · rfl
 · rfl
theorem lostC_goods (d:Dims P Q n) (hgood:∀ i:Nat,i<css.length→(i:Int)∉L→GoodC Q n (css[i]?.getD [])):∀ c,c<css.length→GoodC Q n ((lostC L Q n css)[c]?.getD []):=fun c hc=>by
 rw [lostC_at L Q n css hc]
 split
 · exact noC_good d.h1 d.h64
 · rename_i h
   exact hgood c hc h
theorem take_at {α:Type} (l:List α) (d:α) {m i:Nat} (h:i<m):(l.take m)[i]?.getD d=l[i]?.getD d:=by
 rw [List.getElem?_take,if_pos h]
theorem bt_rs (d:Dims P Q n) {cs2:List (List (List UInt8))} {N:Nat} (hN:N=P+2) (hcl:cs2.length=N) (hg:∀ c,c<N→GoodC Q n (cs2[c]?.getD [])) (j:Nat) (r:Int) :
 Bt P Q n (rsF P Q cs2) j r=Bt P Q n (cs2[P]?.getD []) j r ^^^ xa ((List.range P).map fun c:Nat=>Bt P Q n (cs2[c]?.getD []) j r):=by
 obtain ⟨hok,hn⟩:=take_ok d hN hcl hg
 unfold rsF
 rw [bt_sum2 d (hg P (by omega)) (rowsMade_good d hok hn),bt_rows d hok hn]
 congr 2
 refine List.map_congr_left fun c hc=>?_
 rw [take_at _ _ (List.mem_range.1 hc)]
theorem bt_ds (d:Dims P Q n) {cs2:List (List (List UInt8))} {N:Nat} (hN:N=P+2) (hcl:cs2.length=N) (hg:∀ c,c<N→GoodC Q n (cs2[c]?.getD [])) (j:Nat) (r:Int) :
 Bt P Q n (dsF P Q cs2) j r=Bt P Q n (cs2[P+1]?.getD []) j r ^^^ xa ((List.range P).map fun c:Nat=>tu (c:Int) (Bt P Q n (cs2[c]?.getD []) j) r):=by
 obtain ⟨hok,hn⟩:=take_ok d hN hcl hg
 unfold dsF
 rw [bt_sum2 d (hg (P+1) (by omega)) (diagsMade_good d hok hn),bt_diags d hok hn]
 congr 2
 refine List.map_congr_left fun c hc=>?_
 rw [take_at _ _ (List.mem_range.1 hc)]
end
section
variable {P Q n:Nat} {R D:List (List UInt8)} {a b:Int}
end
/- What is put upon one another solves what is put upon one another. -/
section
variable {P Q n:Nat} {R D A B R' D' A' B':List (List UInt8)} {a b:Int}
end
/- Sums of which some lack. -/
theorem xa_one (P a:Nat) (ha:a<P) (f:Nat→UInt8):xa ((List.range P).map fun c=>if c=a then f c else 0)=f a:=by
 induction P with
 | zero=>omega
 | succ P ih =>
   rw [List.range_succ,List.map_append,xa_append,List.map_cons,List.map_nil,xa_cons,xa_nil,UInt8.xor_zero]
   by_cases h:P=a
   · subst h
     rw [if_pos rfl,show (List.range P).map (fun c=>if c=P then f c else 0)=(List.range P).map (fun _=>(0:UInt8)) from List.map_congr_left fun c hc=>by rw [if_neg (by have:=List.mem_range.1 hc;omega)],List.map_const',xa_zero,UInt8.zero_xor]
   · rw [ih (by omega),if_neg h,UInt8.xor_zero]
theorem xa_lack2 (P a b:Nat) (ha:a<P) (hb:b<P) (hab:a≠b) (f:Nat→UInt8):xa ((List.range P).map f) ^^^ xa ((List.range P).map fun c:Nat=>if (c:Int)∈[(a:Int),(b:Int)] then 0 else f c)=f a ^^^ f b:=by
 rw [←xa_add,←xa_one P a ha f,←xa_one P b hb f,←xa_add]
 congr 1
 refine List.map_congr_left fun c _=>?_
 by_cases h1:c=a
 · subst h1
   rw [if_pos (by simp),if_pos rfl,if_neg hab]
 · by_cases h2:c=b
   · subst h2
     rw [if_pos (by simp),if_pos rfl,if_neg (fun h=>hab h.symm),UInt8.xor_comm]
   · rw [if_neg (by simp;omega),if_neg h1,if_neg h2,UInt8.xor_self];rfl
theorem xa_lack1 (P a:Nat) (ha:a<P) {L:List Int} (hL:∀ c:Nat,c<P→((c:Int)∈L↔c=a)) (f:Nat→UInt8):xa ((List.range P).map f) ^^^ xa ((List.range P).map fun c:Nat=>if (c:Int)∈L then 0 else f c)=f a:=by
 rw [←xa_add,←xa_one P a ha f]
 congr 1
 refine List.map_congr_left fun c hc=>?_
 have hc':=List.mem_range.1 hc
 by_cases h1:c=a
 · rw [if_pos ((hL c hc').2 h1),if_pos h1,UInt8.xor_zero]
 · rw [if_neg (fun h=>h1 ((hL c hc').1 h)),if_neg h1,UInt8.xor_self]
/- Of what EVENODD made two columns,or one,are lost. -/
section
variable {P Q n:Nat} {css cs2:List (List (List UInt8))}
structure Bad (P Q n:Nat) (css cs2:List (List (List UInt8))) (L:List Int):Prop where
 hok:DataOk (P:Int) css
 hn:(firstC css).length=n
 hl:cs2.length=P+2
 hd:∀ c:Nat,c<P→(c:Int)∉L→cs2[c]?.getD []=css[c]?.getD []
 hr:(P:Int)∉L→cs2[P]?.getD []=rowsMade Q css
 hs:((P+1:Nat):Int)∉L→cs2[P+1]?.getD []=diagsMade (P:Int) Q css
variable {L:List Int}
theorem Bad.good (d:Dims P Q n) (h:Bad P Q n css cs2 L):∀ i:Nat,i<cs2.length→(i:Int)∉L→GoodC Q n (cs2[i]?.getD []):=fun i hi hm=>by
 have hl:=h.hl
 rcases Nat.lt_or_ge i P with h1 | h1
 · rw [h.hd i h1 hm];exact good_of d h.hok h.hn i h1
 · by_cases h2:i=P
   · subst h2;rw [h.hr hm];exact rowsMade_good d h.hok h.hn
   · obtain rfl:i=P+1:=by omega
     rw [h.hs hm];exact diagsMade_good d h.hok h.hn
theorem Bad.rows (d:Dims P Q n) (h:Bad P Q n css cs2 L) (hP:(P:Int)∉L) (j:Nat) (r:Int):Bt P Q n (rsF P Q (lostC L Q n cs2)) j r=xa ((List.range P).map fun c:Nat=>Bt P Q n (css[c]?.getD []) j r) ^^^ xa ((List.range P).map fun c:Nat=>if (c:Int)∈L then 0 else Bt P Q n (css[c]?.getD []) j r):=by
 have hl:=h.hl
 have hgl:=lostC_goods d (h.good d)
 rw [bt_rs d rfl (by rw [lostC_len,h.hl]) (fun c hc=>hgl c (by omega)),bt_lost d (by omega),if_neg hP,h.hr hP,bt_rows d h.hok h.hn]
 congr 2
 refine List.map_congr_left fun c hc=>?_
 have hc':=List.mem_range.1 hc
 rw [bt_lost d (by omega)]
 split
 · rfl
 · rename_i hm
   rw [h.hd c hc' hm]
theorem Bad.diags (d:Dims P Q n) (h:Bad P Q n css cs2 L) (hP:((P+1:Nat):Int)∉L) (j:Nat) (r:Int):Bt P Q n (dsF P Q (lostC L Q n cs2)) j r=xa ((List.range P).map fun c:Nat=>tu (c:Int) (Bt P Q n (css[c]?.getD []) j) r) ^^^ xa ((List.range P).map fun c:Nat=>if (c:Int)∈L then 0 else tu (c:Int) (Bt P Q n (css[c]?.getD []) j) r):=by
 have hl:=h.hl
 have hgl:=lostC_goods d (h.good d)
 rw [bt_ds d rfl (by rw [lostC_len,h.hl]) (fun c hc=>hgl c (by omega)),bt_lost d (by omega),if_neg hP,h.hs hP,bt_diags d h.hok h.hn]
 congr 2
 refine List.map_congr_left fun c hc=>?_
 have hc':=List.mem_range.1 hc
 rw [tu_noC d (by omega)]
 split
 · rfl
 · rename_i hm
   rw [h.hd c hc' hm]
theorem Bad.solves {a b:Nat} (d:Dims P Q n) (h:Bad P Q n css cs2 [(a:Int),(b:Int)]) (hab:a<b) (hb:b<P):Solves P Q n (rsF P Q (lostC [(a:Int),(b:Int)] Q n cs2)) (dsF P Q (lostC [(a:Int),(b:Int)] Q n cs2)) (css[a]?.getD []) (css[b]?.getD []) (a:Int) (b:Int) :=
 ⟨good_of d h.hok h.hn a (by omega),good_of d h.hok h.hn b hb,fun j r=>by
  rw [h.rows d (by simp;omega)]
  exact xa_lack2 P a b (by omega) hb (by omega) (fun c:Nat=>Bt P Q n (css[c]?.getD []) j r),fun j r=>by
  rw [h.diags d (by simp;omega)]
  exact xa_lack2 P a b (by omega) hb (by omega) (fun c:Nat=>tu (c:Int) (Bt P Q n (css[c]?.getD []) j) r)⟩
theorem Bad.alone {a:Nat} (d:Dims P Q n) (h:Bad P Q n css cs2 [(a:Int),(P:Int)]) (ha:a<P):turnC P Q n (dsF P Q (lostC [(a:Int),(P:Int)] Q n cs2)) (-(a:Int))=css[a]?.getD []:=by
 have hl:=h.hl
 have hgl:=lostC_goods d (h.good d)
 have gD:=(rd_good d rfl (by rw [lostC_len,h.hl]) (fun c hc=>hgl c (by omega))).2
 have gA:=good_of d h.hok h.hn a ha
 refine col_ext d.hQ (turn_good d.h1 d.h64 gD _) gA fun j r=>?_
 rw [bt_turn d.hQ gD]
 have e:Bt P Q n (dsF P Q (lostC [(a:Int),(P:Int)] Q n cs2)) j=tu (a:Int) (Bt P Q n (css[a]?.getD []) j):=funext fun s=>by
  rw [h.diags d (by simp;omega)]
  exact xa_lack1 P a ha (fun c hc=>by simp;omega) (fun c:Nat=>tu (c:Int) (Bt P Q n (css[c]?.getD []) j) s)
 rw [e,tu_tu (P:=P),show (a:Int)+-(a:Int)=0 by omega,tu_zero (Bt.per d.hQ _ j).2]
end
end Go.Proofs.YtkllhjhkcipkoaaGreatDoor.Ch

namespace Go.Proofs.YtkllhjhkcipkoaaGreatDoor.Tr
open Go.RowKit Go.Shelf Go.Proofs.YtkllhjhkcipkoaaGreatDoor.C Go.Proofs.YtkllhjhkcipkoaaGreatDoor.E Go.Proofs.YtkllhjhkcipkoaaGreatDoor.Rg Go.Proofs.YtkllhjhkcipkoaaGreatDoor.Ch

theorem tuf (a b:Int) (x:Int→UInt8):tu b (tu a x)=tu (a+b) x:=funext fun r=>tu_tu (P:=3) a b r
theorem taf (a:Int) (x y:Int→UInt8):tu a (fun r=>x r ^^^ y r)=fun r=>tu a x r ^^^ tu a y r:=funext fun r=>tu_add a r
theorem t0f {x:Int→UInt8} (h:x (-1)=0):tu 0 x=x:=funext fun r=>tu_zero h r
theorem stf (a:Int) (x:Int→UInt8):st a x=fun r=>x r ^^^ tu a x r:=rfl
theorem tu_z (d r:Int):tu d (fun _=>0) r=0:=by unfold tu;exact UInt8.xor_self
theorem st_z (d r:Int):st d (fun _=>0) r=0:=by unfold st;rw [tu_z];exact UInt8.xor_self
theorem x_zero {a b:UInt8} (h:a=b):a ^^^ b=0:=by rw [h];exact UInt8.xor_self
section
variable {P:Nat} {s0 s1 s2 A B C:Int→UInt8}
theorem two0 {a0 b0:Int} (h0:Per P s0) (hA:∀ r,A r=tu (-a0) (fun r=>s0 r ^^^ tu b0 B r) r) (r:Int):tu a0 A r ^^^ tu b0 B r=s0 r:=by
 have pz:(fun r=>s0 r ^^^ tu b0 B r) (-1)=0:=by
  show s0 (-1) ^^^ tu b0 B (-1)=0
  rw [h0.2];unfold tu;rw [UInt8.xor_self];exact UInt8.xor_self
 rw [show A=tu (-a0) (fun r=>s0 r ^^^ tu b0 B r) from funext hA,tuf,show -a0+a0=0 by omega,t0f pz]
 simp only [UInt8.xor_assoc,UInt8.xor_comm,xlc,xx,UInt8.xor_self,UInt8.xor_zero,UInt8.zero_xor]
theorem two1 {a0 a1 b0 b1:Int} (h0:Per P s0) (h1:Per P s1) (hA:∀ r,A r=tu (-a0) (fun r=>s0 r ^^^ tu b0 B r) r) (hB:∀ r,st ((b1 - a1) - (b0 - a0)) B r=tu (-(b0 - a0)) (fun r=>tu (-a0) s0 r ^^^ tu (-a1) s1 r) r) (r:Int):tu a1 A r ^^^ tu b1 B r=s1 r:=by
 have e:tu ((b0 - a0)+a1) (st ((b1 - a1) - (b0 - a0)) B) r=tu ((b0 - a0)+a1) (tu (-(b0 - a0)) (fun r=>tu (-a0) s0 r ^^^ tu (-a1) s1 r)) r:=by rw [show st ((b1 - a1) - (b0 - a0)) B = _ from funext hB]
 rw [show A=tu (-a0) (fun r=>s0 r ^^^ tu b0 B r) from funext hA]
 rw [stf,taf] at e
 simp only [taf,tuf] at e ⊢
 rw [show b1 - a1 - (b0 - a0)+(b0 - a0+a1)=b1 by omega,show -a0+-(b0 - a0)+(b0 - a0+a1) = -a0+a1 by omega,show -a1+-(b0 - a0)+(b0 - a0+a1)=0 by omega,t0f h1.2,show b0 - a0+a1=b0+-a0+a1 by omega] at e
 have z:=x_zero e
 apply x_of
 rw [←z]
 simp only [UInt8.xor_assoc,UInt8.xor_comm,xlc,xx,UInt8.xor_self,UInt8.xor_zero,UInt8.zero_xor]
theorem three2 {a b c:Int} {K:Int→UInt8} (h0:Per P s0) (h1:Per P s1) (h2:Per P s2) (hC1:Per P C) (hB1:Per P B)
 (hK:∀ r,st (-(c - b)) K r=s0 r ^^^ tu (-a) s1 r ^^^ tu (b - a) (fun r=>s0 r ^^^ tu a s2 r) r)
 (hC:∀ r,st (c - a) C r=K r)
 (hB:∀ r,st (b - a) B r=(s0 r ^^^ C r) ^^^ tu (-a) (fun r=>s1 r ^^^ tu c C r) r)
 (hA:∀ r,A r=(s0 r ^^^ C r) ^^^ B r) (r:Int):tu (-a) A r ^^^ tu (-b) B r ^^^ tu (-c) C r=s2 r:=by
 have e1:tu (-b) (st (-(c - b)) K) r=tu (-b) (fun r=>s0 r ^^^ tu (-a) s1 r ^^^ tu (b - a) (fun r=>s0 r ^^^ tu a s2 r) r) r:=by rw [show st (-(c - b)) K = _ from funext hK]
 have e2:tu (-b) (st (b - a) B) r=tu (-b) (fun r=>(s0 r ^^^ C r) ^^^ tu (-a) (fun r=>s1 r ^^^ tu c C r) r) r:=by rw [show st (b - a) B = _ from funext hB]
 rw [show A=fun r=>(s0 r ^^^ C r) ^^^ B r from funext hA]
 rw [show K=st (c - a) C from funext fun r=>(hC r).symm] at e1
 simp only [stf,taf,tuf] at e1 e2 ⊢
 rw [show c - a+-b=c - a - b by omega,show -(c - b)+-b = -c by omega,show c - a+-(c - b)+-b = -a by omega,show -a+-b = -a - b by omega,show b - a+-b = -a by omega,show a+(b - a)+-b=0 by omega,t0f h2.2] at e1
 rw [show b - a+-b = -a by omega,show -a+-b = -a - b by omega,show c+-a+-b=c - a - b by omega] at e2
 have z1:=x_zero e1
 have z2:=x_zero e2
 clear e1 e2 hA hB hC hK
 apply x_of
 generalize tu (-a) s0 r=v1 at *
 generalize tu (-b) s0 r=v2 at *
 generalize tu (-a - b) s1 r=v3 at *
 generalize tu (-a) C r=v4 at *
 generalize tu (-b) C r=v5 at *
 generalize tu (-c) C r=v6 at *
 generalize tu (c - a - b) C r=v7 at *
 generalize tu (-a) B r=v8 at *
 generalize tu (-b) B r=v9 at *
 generalize s2 r=v10 at *
 have z3:(v5 ^^^ v7 ^^^ (v6 ^^^ v4) ^^^ (v2 ^^^ v3 ^^^ (v1 ^^^ v10))) ^^^ (v9 ^^^ v8 ^^^ (v2 ^^^ v5 ^^^ (v3 ^^^ v7)))=0:=by rw [z1,z2];exact UInt8.xor_self
 rw [←z3]
 clear z1 z2 z3
 simp only [UInt8.xor_assoc,UInt8.xor_comm,xlc,xx,UInt8.xor_self,UInt8.xor_zero,UInt8.zero_xor]
theorem two_uni {Q:Nat} (hQ:P=Q+1) (hp:(P:Int)∈prm) {a0 a1 b0 b1:Int} (hd:((b1 - a1) - (b0 - a0)) % (P:Int)≠0) (pA:Per P A) (pB:Per P B) (e0:∀ r,tu a0 A r ^^^ tu b0 B r=0) (e1:∀ r,tu a1 A r ^^^ tu b1 B r=0):(∀ r,A r=0)∧∀ r,B r=0:=by
 have hz:Per P (fun _=>0):=⟨fun _ _ _=>rfl,rfl⟩
 have hA:A=tu (b0 - a0) B:=by
  have h:tu a0 A=tu b0 B:=funext fun r=>x_of (e0 r)
  have h2:tu (-a0) (tu a0 A)=tu (-a0) (tu b0 B):=by rw [h]
  rwa [tuf,tuf,show a0+-a0=0 by omega,t0f pA.2,show b0+-a0=b0 - a0 by omega] at h2
 have hA2:A=tu (b1 - a1) B:=by
  have h:tu a1 A=tu b1 B:=funext fun r=>x_of (e1 r)
  have h2:tu (-a1) (tu a1 A)=tu (-a1) (tu b1 B):=by rw [h]
  rwa [tuf,tuf,show a1+-a1=0 by omega,t0f pA.2,show b1+-a1=b1 - a1 by omega] at h2
 have hB:B=tu ((b1 - a1) - (b0 - a0)) B:=by
  have h2:tu (-(b0 - a0)) (tu (b0 - a0) B)=tu (-(b0 - a0)) (tu (b1 - a1) B):=by rw [←hA,←hA2]
  rwa [tuf,tuf,show b0 - a0+-(b0 - a0)=0 by omega,t0f pB.2,show b1 - a1+-(b0 - a0)=(b1 - a1) - (b0 - a0) by omega] at h2
 have hb:∀ r,B r=0:=st_inj hQ hp hd pB hz fun r=>by
  show B r ^^^ tu ((b1 - a1) - (b0 - a0)) B r = _
  rw [←hB,UInt8.xor_self,st_z]
 refine ⟨fun r=>?_,hb⟩
 rw [hA]
 unfold tu
 rw [hb,hb];exact UInt8.xor_self
theorem three_uni {Q:Nat} (hQ:P=Q+1) (hp:(P:Int)∈prm) {a b c:Int} (hab:(b - a) % (P:Int)≠0) (hac:(c - a) % (P:Int)≠0) (hbc:(b - c) % (P:Int)≠0) (pA:Per P A) (pB:Per P B) (pC:Per P C) (e0:∀ r,A r ^^^ B r ^^^ C r=0) (e1:∀ r,tu a A r ^^^ tu b B r ^^^ tu c C r=0) (e2:∀ r,tu (-a) A r ^^^ tu (-b) B r ^^^ tu (-c) C r=0):(∀ r,A r=0)∧(∀ r,B r=0)∧∀ r,C r=0:=by
 have hz:Per P (fun _=>0):=⟨fun _ _ _=>rfl,rfl⟩
 have hA:A=fun r=>B r ^^^ C r:=funext fun r=>x_of (by rw [←UInt8.xor_assoc];exact e0 r)
 have f1:∀ r,st (b - a) B r=st (c - a) C r:=fun r=>by
  have h:tu (-a) (fun r=>tu a A r ^^^ tu b B r ^^^ tu c C r) r=0:=by rw [show (fun r=>tu a A r ^^^ tu b B r ^^^ tu c C r)=fun _=>0 from funext e1];exact tu_z _ _
  rw [hA] at h
  simp only [taf,tuf] at h
  rw [show a+-a=0 by omega,t0f pB.2,t0f pC.2,show b+-a=b - a by omega,show c+-a=c - a by omega] at h
  apply x_of
  rw [←h]
  simp only [stf]
  simp only [UInt8.xor_assoc,UInt8.xor_comm,xlc,xx,UInt8.xor_self,UInt8.xor_zero,UInt8.zero_xor]
 have f2:∀ r,tu (a - b) (st (b - a) B) r=tu (a - c) (st (c - a) C) r:=fun r=>by
  have h:tu a (fun r=>tu (-a) A r ^^^ tu (-b) B r ^^^ tu (-c) C r) r=0:=by rw [show (fun r=>tu (-a) A r ^^^ tu (-b) B r ^^^ tu (-c) C r)=fun _=>0 from funext e2];exact tu_z _ _
  rw [hA] at h
  simp only [taf,tuf] at h
  rw [show -a+a=0 by omega,t0f pB.2,t0f pC.2,show -b+a=a - b by omega,show -c+a=a - c by omega] at h
  apply x_of
  rw [←h]
  simp only [stf,taf,tuf]
  rw [show b - a+(a - b)=0 by omega,t0f pB.2,show c - a+(a - c)=0 by omega,t0f pC.2]
  simp only [UInt8.xor_assoc,UInt8.xor_comm,xlc,xx,UInt8.xor_self,UInt8.xor_zero,UInt8.zero_xor]
 have pK:=pC.st (c - a)
 obtain ⟨K,hK⟩:∃ K,st (c - a) C=K:=⟨_,rfl⟩
 have f3:∀ r,st (b - c) K r=0:=fun r=>by
  have h:tu (b - a) (tu (a - b) K) r=tu (b - a) (tu (a - c) K) r:=by
   rw [show tu (a - b) K=tu (a - c) K from funext fun r=>by
    have:=f2 r
    rw [show st (b - a) B=K from (funext f1).trans hK,hK] at this
    exact this]
  rw [hK] at pK
  rw [tuf,tuf,show a - b+(b - a)=0 by omega,t0f pK.2,show a - c+(b - a)=b - c by omega] at h
  show K r ^^^ tu (b - c) K r=0
  rw [←h,UInt8.xor_self]
 have hk:∀ r,K r=0:=st_inj hQ hp hbc (by rw [←hK];exact pK) hz fun r=>by rw [f3,st_z]
 have hC:∀ r,C r=0:=st_inj hQ hp hac pC hz fun r=>by rw [hK,hk,st_z]
 have hB:∀ r,B r=0:=st_inj hQ hp hab pB hz fun r=>by rw [f1,hK,hk,st_z]
 exact ⟨fun r=>by rw [hA];show B r ^^^ C r=0;rw [hB,hC];exact UInt8.xor_self,hB,hC⟩
end
end Go.Proofs.YtkllhjhkcipkoaaGreatDoor.Tr
