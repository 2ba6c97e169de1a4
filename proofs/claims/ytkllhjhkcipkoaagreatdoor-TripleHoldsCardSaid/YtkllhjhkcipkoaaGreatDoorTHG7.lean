/- -/
import Derived.Test.YtkllhjhkcipkoaaGreatDoorTHG6
set_option linter.unusedVariables false
set_option linter.unusedSimpArgs false
set_option maxRecDepth 100000
set_option maxHeartbeats 4000000
namespace Go.Proofs.YtkllhjhkcipkoaaGreatDoor.Rg
open Go.RowKit Go.Shelf Go.Maps Go.Proofs.YtkllhjhkcipkoaaGreatDoor.C Go.Proofs.YtkllhjhkcipkoaaGreatDoor.E
attribute [local go_sem] Oper.semAt_some

def wholeF (Q n:Nat) (c:List (List UInt8)) (r:Nat):List UInt8:=if r<Q then c[r]?.getD [] else List.replicate n 0
def ColOk (P n:Nat) (c:List (List UInt8)):Prop:=(P:Int)∈prm∧GoodC (P - 1) n c∧1≤n∧n≤64
theorem many_list {B:Nat} {W:World} {b off Q:Nat} {c:List (List UInt8)} (h:∀ j,j<Q→∃ A cap,W.cell? ⟨b,off+j,none⟩=some (.slice A (c[j]?.getD []).length cap)∧Bytes B W (.slice A (c[j]?.getD []).length cap) (c[j]?.getD [])) :
 ∃ cvs:List Value,cvs.length=Q∧(∀ j u,cvs[j]?=some u→W.cell? ⟨b,off+j,none⟩=some u)∧(∀ j,j<Q→∃ u,cvs[j]?=some u∧Bytes B W u (c[j]?.getD []))∧∀ v∈cvs,v.oneCell'=true:=by
 refine ⟨(List.range Q).map fun j=>(W.cell? ⟨b,off+j,none⟩).getD undef,by simp,fun j u hu=>?_,fun j hj=>?_,fun v hv=>?_⟩
 · have hj:j<Q:=by have:=(List.getElem?_eq_some_iff.1 hu).1;simpa using this
   rw [List.getElem?_map,List.getElem?_range hj] at hu
   obtain ⟨A,cap,h1,_⟩:=h j hj
   simp only [Option.map_some,h1,Option.getD_some,Option.some.injEq] at hu
   rw [h1,hu]
 · obtain ⟨A,cap,h1,h2⟩:=h j hj
   exact ⟨_,by rw [List.getElem?_map,List.getElem?_range hj,Option.map_some,h1];rfl,h2⟩
 · obtain ⟨j,hj,rfl⟩:=List.mem_map.1 hv
   obtain ⟨A,cap,h1,_⟩:=h j (List.mem_range.1 hj)
   rw [h1]
   rfl
section
variable {F:Fence} {n:Nat} {P:Program} {o:Oper} {a:Act} {w:World} {K:Act→World→Prop} {Q:Exit→Act→World→Prop} {t:TypeId} {v:Value} {p:Operand} {ad:Addr}
theorem opIn_loadS (ho:o.op = .load t p) (hp:a.eval p = .pointer (some ad)) (hv:LoadIs P t ad v w) (h:K (a.put o.dst v) w):Oper.wpIn F n P o a w K Q:=by
 refine ⟨fun f hf=>?_,?_⟩
 · simp [Oper.about,ho] at hf
 · rw [Oper.semAt_eq _ _ _ (by simp [ho]),exec_load ho hp hv]
   exact h
end
section
variable {F:Fence} {m:Nat} {P:Program} {ops:Array Oper} {Q:Exit→Act→World→Prop} {rest:List Oper} {o:Oper} {a:Act} {w w':World} {v dv sv:Value}
theorem wpListIn_copyS {d s:Operand} {dT sT:TypeId} (hgd:o.guard=none) (ho:o.op = .call { callee:=.builtin .copy,args:=#[d,s],argTypes:=#[dT,sT] }) (hd:a.eval d=dv) (hs:a.eval s=sv) (hr:∀ ty,(Builtin.copy_ #[dT,sT] ty #[dv,sv]).run P w = .ok v w') (h:wpListIn F m P ops Q rest (a.put o.dst v) w'):wpListIn F m P ops Q (o :: rest) a w :=
 wpListIn_plain hgd fun K hK=>by
  refine ⟨fun f hf=>?_,?_⟩
  · simp [Oper.about,ho,resolve,Target.leads] at hf
  · rw [Oper.semAt_eq _ _ _ (by simp [ho])]
    unfold execOp
    simp [ho,resolve,invoke,builtin,hd,hs,hr,Result.andThen]
    exact hK _ _ h
end
theorem asked_yes {B:Nat} (P Q n:Nat) (hQ:P=Q+1) (c:List (List UInt8)) (v:Value) (hok:ColOk P n c) (w:World) (hL:Laid w) (hB:B≤w.heap.size) (hM:Many B w v c) :
 Calls Tryz.prog 106 #[.int .i64 (P:Int),v] w fun e w'=>∃ vs,e = .returned (.agg vs.toArray)∧ColV w'.heap.size w' P n (wholeF Q n c) vs∧Below w.heap.size w w':=by
 obtain ⟨hp,hgc,h1,h64⟩:=hok
 have hpb:=prm_bounds hp
 have hcl:c.length=Q:=by have:=hgc.1;omega
 have hce:∀ r,r<Q→(c[r]?.getD []).length=n:=fun r hr=>(hgc.2 r (by omega)).2
 have hRD:RightD (P:Int) [c]:=(rightD_iff hp (by simp)).2 (fun j hj=>by
  obtain rfl:j=0:=by simpa using hj
  have e:((P:Int) - 1).toNat=P - 1:=by omega
  have e2:(firstC [c]).length=n:=by
   show (c[0]?.getD []).length=n
   exact hce 0 (by omega)
  rw [e,e2]
  exact hgc)
 obtain ⟨cap0,e0,_⟩:∃ cap,(∃ A,v = .slice A c.length cap)∧True:=by obtain ⟨A,cap,e,_⟩:=hM;exact ⟨cap,⟨A,e⟩,trivial⟩
 obtain ⟨Av,rfl⟩:=e0
 obtain ⟨cb,co,rfl,hcb,hcell⟩:=many_at hM (by omega)
 rw [hcl] at hM ⊢
 have hcell':∀ j,j<Q→∃ A cap,w.cell? ⟨cb,co+j,none⟩=some (.slice A (c[j]?.getD []).length cap)∧Bytes B w (.slice A (c[j]?.getD []).length cap) (c[j]?.getD []):=fun j hj=>hcell j (by omega)
 obtain ⟨cvs,hvl,hvc,hvb,hv1⟩:=many_list hcell'
 obtain ⟨A0,c0,k0,_⟩:=hcell' 0 (by omega)
 rw [hce 0 (by omega),Nat.add_zero] at k0
 obtain ⟨WX,hWX⟩:∃ x,(w.alloc (.cells #[.int .i64 0,.slice none 0 0,.slice none 0 0,.slice none 0 0,.slice none 0 0,.slice none 0 0,.slice none 0 0,.slice none 0 0,.slice none 0 0,.slice none 0 0,.slice none 0 0,.slice none 0 0,.slice none 0 0,.slice none 0 0,.slice none 0 0,.slice none 0 0,.slice none 0 0,.slice none 0 0] 146))=x:=⟨_,rfl⟩
 have hBX:Below w.heap.size w WX:=by rw [←hWX];exact below_one w _
 have bX:Blk WX w.heap.size 146 #[.int .i64 0,.slice none 0 0,.slice none 0 0,.slice none 0 0,.slice none 0 0,.slice none 0 0,.slice none 0 0,.slice none 0 0,.slice none 0 0,.slice none 0 0,.slice none 0 0,.slice none 0 0,.slice none 0 0,.slice none 0 0,.slice none 0 0,.slice none 0 0,.slice none 0 0,.slice none 0 0]:=by rw [←hWX];exact Blk.new w _ _
 have sX:WX.heap.size=w.heap.size+1:=by rw [←hWX];simp
 have hCols:∀ U,Blk U WX.heap.size 41 #[.slice (some ⟨cb,co,none⟩) Q cap0]→Below WX.heap.size WX U→E.Cols U.heap.size U (.slice (some ⟨WX.heap.size,0,none⟩) 1 1) [c]:=fun U hb hU=>by
  refine ⟨_,1,rfl,Nat.le_refl _,fun _=>⟨WX.heap.size,0,rfl,hb.lt,fun j hj=>?_⟩⟩
  obtain rfl:j=0:=by simpa using hj
  exact ⟨_,hb.cell 0,(hM.below ((below_in hBX hU).mono hB)).more (Nat.le_trans hB (below_in hBX hU).size)⟩
 have HRI:=Lib.hid (fun (U:World) (hb:Blk U WX.heap.size 41 #[.slice (some ⟨cb,co,none⟩) Q cap0]) (hU:Below WX.heap.size WX U)=>right_yes (P:Int) _ [c] U (hL.next (below_in hBX hU)) (Nat.le_refl _) (hCols U hb hU) (by simp) hRD)
 have HLA:=Lib.hid (fun (us:List Value) (h:us[0]?=some (.int .i64 (P:Int))) (U:World)=>last_any P Q hQ us (by omega) h U)
 have HZ:=Lib.hid (fun (U:World)=>zero_yes n h1 h64 U)
 obtain ⟨us,hus⟩:∃ us,(Value.int .i64 (P:Int)) :: (cvs ++ List.replicate (17 - Q) (.slice none 0 0))=us:=⟨_,rfl⟩
 have hul:us.length=18:=by rw [←hus,List.length_cons,List.length_append,List.length_replicate];omega
 have hus0:us[0]?=some (.int .i64 (P:Int)):=by rw [←hus];rfl
 have husg:∀ r,r<Q→us[r+1]?=cvs[r]?:=fun r hr=>by rw [←hus,List.getElem?_cons_succ,List.getElem?_append_left (by omega)]
 have hus1:∀ x∈us,x.oneCell'=true:=fun x hx=>by
  rw [←hus] at hx
  rcases List.mem_cons.1 hx with rfl | hx
  · rfl
  · rcases List.mem_append.1 hx with hx | hx
    · exact hv1 x hx
    · rw [(List.mem_replicate.1 hx).2];rfl
 have HCP:=Lib.hid (fun (Wa WB:World) (hb:Blk WB Wa.heap.size 146 #[.int .i64 (P:Int),.slice none 0 0,.slice none 0 0,.slice none 0 0,.slice none 0 0,.slice none 0 0,.slice none 0 0,.slice none 0 0,.slice none 0 0,.slice none 0 0,.slice none 0 0,.slice none 0 0,.slice none 0 0,.slice none 0 0,.slice none 0 0,.slice none 0 0,.slice none 0 0,.slice none 0 0]) (hc:∀ j u,cvs[j]?=some u→WB.cell? ⟨cb,co+j,none⟩=some u) (ty:TypeId)=>(by
  have:=run_copy_row (P:=Tryz.prog) WB 40 41 ty 60 Wa.heap.size 1 17 17 ⟨cb,co,none⟩ Q cap0 #[.int .i64 (P:Int),.slice none 0 0,.slice none 0 0,.slice none 0 0,.slice none 0 0,.slice none 0 0,.slice none 0 0,.slice none 0 0,.slice none 0 0,.slice none 0 0,.slice none 0 0,.slice none 0 0,.slice none 0 0,.slice none 0 0,.slice none 0 0,.slice none 0 0,.slice none 0 0,.slice none 0 0] 146 cvs Tryz.underlying40 (by kernel_rfl) hb (by rw [hvl];exact (Nat.min_eq_left (by omega)).symm) (fun j u hu=>by rw [addr_add];exact hc j u hu) (by rw [hvl];show 1+Q≤18;omega) hv1
  rw [show (#[Value.int .i64 (P:Int),.slice none 0 0,.slice none 0 0,.slice none 0 0,.slice none 0 0,.slice none 0 0,.slice none 0 0,.slice none 0 0,.slice none 0 0,.slice none 0 0,.slice none 0 0,.slice none 0 0,.slice none 0 0,.slice none 0 0,.slice none 0 0,.slice none 0 0,.slice none 0 0,.slice none 0 0].toList.take 1 ++ cvs ++ #[Value.int .i64 (P:Int),.slice none 0 0,.slice none 0 0,.slice none 0 0,.slice none 0 0,.slice none 0 0,.slice none 0 0,.slice none 0 0,.slice none 0 0,.slice none 0 0,.slice none 0 0,.slice none 0 0,.slice none 0 0,.slice none 0 0,.slice none 0 0,.slice none 0 0,.slice none 0 0,.slice none 0 0].toList.drop (1+cvs.length))=us from by
   rw [←hus,hvl,Nat.add_comm 1 Q]
   show [Value.int .i64 (P:Int)] ++ cvs ++ (List.replicate 17 (Value.slice none 0 0)).drop Q = _
   rw [List.drop_replicate]
   rfl] at this
  exact this:(Builtin.copy_ #[40,41] ty #[.slice (some ⟨Wa.heap.size,1,none⟩) 17 17,.slice (some ⟨cb,co,none⟩) Q cap0]).run Tryz.prog WB = .ok (goInt cvs.length) (WB.setRow Wa.heap.size us.toArray)))
 have HCV:=Lib.hid (fun (U:World) (hU:Below w.heap.size w U) (j:Nat) (u:Value) (hu:cvs[j]?=some u)=>(hU.cell (p:=⟨cb,co+j,none⟩) (Nat.lt_of_lt_of_le hcb hB)).trans (hvc j u hu))
 have HK0:=Lib.hid (fun (U:World) (hU:Below w.heap.size w U)=>(hU.cell (p:=⟨cb,co,none⟩) (Nat.lt_of_lt_of_le hcb hB)).trans k0)
 have HVB:=Lib.hid (fun (U:World) (hU:Below w.heap.size w U) (r:Nat) (hr:r<Q)=>(by
  obtain ⟨u,hu,hb⟩:=hvb r hr
  exact ⟨u,(husg r hr).trans hu,(hb.below (hU.mono hB)).more (Nat.le_trans hB hU.size)⟩:∃ u,us[r+1]?=some u∧Bytes U.heap.size U u (c[r]?.getD [])))
 have HQ:=Lib.hid hQ
 have HCE:=Lib.hid hce
 have HPB:=Lib.hid hpb
 have HUS1:=Lib.hid hus1
 have HUSL:=Lib.hid hul
 have HSX:=Lib.hid sX
 have hcq:0<Q:=by omega
 clear hus husg hvl hvc hvb hv1 hcell hcell' k0 hRD hCols hgc hcl hce hQ hp hpb hM hL hus1 hul sX
 refine (callsIn_wide (n:=9)).1 ?_
 refine callsIn_of_wp_marks Tryz.func106 rfl trivial ?_ rfl
 simp only [Tryz.ntmps106,List.size_toArray,List.length_cons,List.length_nil,Nat.reduceAdd,Nat.reduceSub,Array.replicate_succ,Array.replicate_zero,List.push_toArray,List.append_toArray,List.nil_append,List.cons_append]
 gi_wp2_with fail
 obtain ⟨WY,hWY⟩:∃ x,(WX.alloc (.cells #[.slice (some ⟨cb,co,none⟩) Q cap0] 41))=x:=⟨_,rfl⟩
 have hBY:Below WX.heap.size WX WY:=by rw [←hWY];exact below_one WX _
 have bY:Blk WY WX.heap.size 41 #[.slice (some ⟨cb,co,none⟩) Q cap0]:=by rw [←hWY];exact Blk.new WX _ _
 rw [hWY]
 refine ⟨trivial,(callsIn_wide.2 (HRI.out WY bY hBY)).mono ?_⟩
 rintro e Wa ⟨rfl,hBa⟩
 have hBwa:Below w.heap.size w Wa:=below_in hBX (below_in hBY hBa)
 have bXa:=bX.below (below_in hBY hBa) bX.lt
 clear hWX hWY bY
 gi_wp2_with fail
 refine ⟨trivial,(callsIn_wide.2 (need_yes Wa)).mono ?_⟩
 rintro e Wa' ⟨rfl,rfl⟩
 have hstn:=run_storeVar_new (P:=Tryz.prog) Wa 146 #[.int .i64 0,.slice none 0 0,.slice none 0 0,.slice none 0 0,.slice none 0 0,.slice none 0 0,.slice none 0 0,.slice none 0 0,.slice none 0 0,.slice none 0 0,.slice none 0 0,.slice none 0 0,.slice none 0 0,.slice none 0 0,.slice none 0 0,.slice none 0 0,.slice none 0 0,.slice none 0 0] #[.int .i64 (P:Int),.slice none 0 0,.slice none 0 0,.slice none 0 0,.slice none 0 0,.slice none 0 0,.slice none 0 0,.slice none 0 0,.slice none 0 0,.slice none 0 0,.slice none 0 0,.slice none 0 0,.slice none 0 0,.slice none 0 0,.slice none 0 0,.slice none 0 0,.slice none 0 0,.slice none 0 0] (by kernel_rfl) rfl (by rw [Array.all_eq_true_iff_forall_mem];intro v hv;exact one_nils _ v (by simpa using hv))
 obtain ⟨WB,hWB⟩:∃ x,Wa.alloc (.cells #[.int .i64 (P:Int),.slice none 0 0,.slice none 0 0,.slice none 0 0,.slice none 0 0,.slice none 0 0,.slice none 0 0,.slice none 0 0,.slice none 0 0,.slice none 0 0,.slice none 0 0,.slice none 0 0,.slice none 0 0,.slice none 0 0,.slice none 0 0,.slice none 0 0,.slice none 0 0,.slice none 0 0] 146)=x:=⟨_,rfl⟩
 have hBb:Below Wa.heap.size Wa WB:=by rw [←hWB];exact below_one Wa _
 have bB:Blk WB Wa.heap.size 146 #[.int .i64 (P:Int),.slice none 0 0,.slice none 0 0,.slice none 0 0,.slice none 0 0,.slice none 0 0,.slice none 0 0,.slice none 0 0,.slice none 0 0,.slice none 0 0,.slice none 0 0,.slice none 0 0,.slice none 0 0,.slice none 0 0,.slice none 0 0,.slice none 0 0,.slice none 0 0,.slice none 0 0]:=by rw [←hWB];exact Blk.new Wa _ _
 rw [hWB] at hstn
 have hcp:=HCP.out Wa WB bB (HCV.out WB (below_in hBwa hBb))
 obtain ⟨WC,hWC⟩:∃ x,WB.setRow Wa.heap.size us.toArray=x:=⟨_,rfl⟩
 rw [hWC] at hcp
 have hwa:=hBwa.size
 have hBc:Below w.heap.size w WC:=by rw [←hWC];exact C.below_setRow (below_in hBwa hBb) hwa _
 have bC:Blk WC Wa.heap.size 146 us.toArray:=by rw [←hWC];exact bB.setRow _
 have hlx:=bXa.lt
 have bXc:Blk WC w.heap.size 146 #[.int .i64 0,.slice none 0 0,.slice none 0 0,.slice none 0 0,.slice none 0 0,.slice none 0 0,.slice none 0 0,.slice none 0 0,.slice none 0 0,.slice none 0 0,.slice none 0 0,.slice none 0 0,.slice none 0 0,.slice none 0 0,.slice none 0 0,.slice none 0 0,.slice none 0 0,.slice none 0 0]:=by rw [←hWC];exact (bXa.below hBb bXa.lt).farRow (by omega) _
 have hcg:=bC.lt
 have HSS:Hid (∀ U,Below WC.heap.size WC U→(fun U:World=>U.cell? ⟨cb,co,none⟩=some (.slice A0 n c0)) U):=fun U hU=>HK0.out U (below_in hBc hU)
 have HST:Hid (∀ U,Below WC.heap.size WC U→∀ zA zc,(fun U:World=>U.cell? ⟨cb,co,none⟩=some (.slice A0 n c0)) (U.setCell ⟨Wa.heap.size,1+Q,none⟩ (.slice zA n zc))):=fun U hU zA zc=>by
  have hc:=HK0.out U (below_in hBc hU)
  exact (World.cell?_of_block (Below.heap_setCell U ⟨Wa.heap.size,1+Q,none⟩ _ cb (by show cb≠Wa.heap.size;omega))).trans hc
 have HOLD:Hid (∀ U,Below WC.heap.size WC U→∃ old,U.cell? ⟨Wa.heap.size,1+Q,none⟩=some old):=fun U hU=>⟨_,by rw [(bC.below hU bC.lt).cell,List.getElem?_toArray,List.getElem?_eq_getElem (by have:=HUSL.out;have:=HPB.out;have:=HQ.out;omega)]⟩
 have HFZ:Hid (∀ U,Below WC.heap.size WC U→U.frozen? ⟨Wa.heap.size,1+Q,none⟩=false):=fun U hU=>(bC.below hU bC.lt).frozen _
 have HBC:=Lib.hid bC
 have hBCd:Blk WC.drew Wa.heap.size 146 us.toArray:=bC
 have HBXC:=Lib.hid bXc
 clear bB bC bXc bXa bX hWC
 have hcvl:cvs.length=cvs.length:=rfl
 gi_wp2_with (first | refine wpListIn_storeS rfl rfl rfl rfl hstn ?_ | refine wpListIn_copyS rfl rfl rfl rfl hcp ?_)
 simp only [Act.put,List.setIfInBounds_toArray,List.set_cons_zero,List.set_cons_succ]
 have hBx:=(Below.refl WC.heap.size WC).drew
 have i1:(0:Int)≤(Q:Int):=by omega
 have i2:(Q:Int)<17:=by have:=HPB.out;have:=HQ.out;omega
 have hS:(fun U:World=>U.cell? ⟨cb,co,none⟩=some (.slice A0 n c0)) WC.drew:=HSS.out _ hBx
 refine wpIn_mono (region_HF (Q:=NoPanic _) (S:=(fun U:World=>U.cell? ⟨cb,co,none⟩=some (.slice A0 n c0))) (by kernel_rfl) ?_) NoPanic.imp
 refine anyHF_take (i:=2) (d:=19) (v:=.slice (some ⟨cb,co,none⟩) Q cap0) (by kernel_rfl) rfl (by kernel_rfl) (by kernel_rfl) (by kernel_rfl) rfl (fun _ _ _ h=>h) ⟨Or.inl ⟨by rfl,fun w hS=>by have h0:=hS;go_simp⟩,fun _=>rfl⟩ hS ?_
 simp only [ud9]
 refine anyHF_take (i:=3) (d:=20) (v:=.pointer (some ⟨cb,co,none⟩)) (by kernel_rfl) rfl (by kernel_rfl) (by kernel_rfl) (by kernel_rfl) rfl (fun _ _ _ h=>h) ⟨Or.inl ⟨by rfl,fun w hS=>by have h0:=hS;go_simp⟩,fun _=>rfl⟩ hS ?_
 simp only [ud9]
 refine anyHF_take (i:=4) (d:=21) (v:=.slice A0 n c0) (by kernel_rfl) rfl (by kernel_rfl) (by kernel_rfl) (by kernel_rfl) rfl (fun _ _ _ h=>h) ⟨Or.inl ⟨by rfl,fun w hS=>by have h0:=hS;go_simp⟩,fun _=>rfl⟩ hS ?_
 simp only [ud9]
 refine anyHF_take (i:=5) (d:=22) (v:=.int .i64 (n:Int)) (by kernel_rfl) rfl (by kernel_rfl) (by kernel_rfl) (by kernel_rfl) rfl (fun _ _ _ h=>h) ⟨Or.inl ⟨by rfl,fun w hS=>by have h0:=hS;go_simp⟩,fun _=>rfl⟩ hS ?_
 simp only [ud9]
 refine anyHF_take (i:=10) (d:=27) (v:=.pointer (some ⟨Wa.heap.size,1,none⟩)) (by kernel_rfl) rfl (by kernel_rfl) (by kernel_rfl) (by kernel_rfl) rfl (fun _ _ _ h=>h) ⟨Or.inl ⟨by rfl,fun w hS=>by have h0:=hS;go_simp⟩,fun _=>rfl⟩ hS ?_
 simp only [ud9]
 refine oneF (i:=0) (c:=?_)
 refine opIn_loadS rfl rfl (load_col0 hBCd HUSL.out) ?_
 gi_wp2
 try (refine ⟨hS,?_⟩)
 refine oneF (i:=1) (c:=?_)
 gi_wp2_with fail
 refine ⟨trivial,(callsIn_wide.2 (HLA.out us hus0 _)).mono ?_⟩
 rintro e w1 ⟨rfl,hB1⟩
 replace hBx:=below_in hBx hB1
 clear hS
 have hS:=HSS.out _ hBx
 gi_wp2
 try (refine ⟨hS,?_⟩)
 refine oneF (i:=6) (c:=?_)
 gi_wp2_with fail
 refine ⟨trivial,(callsIn_wide.2 (HZ.out _)).mono ?_⟩
 rintro e w2 ⟨z,rfl,hz,hB2⟩
 obtain ⟨zA,zc,ez⟩:=fresh_slice hz
 rw [List.length_replicate] at ez
 subst ez
 have hsz:=hBx.size
 replace hBx:=below_in hBx hB2
 clear hS
 have hS:=HSS.out _ hBx
 gi_wp2
 try (refine ⟨hS,?_⟩)
 refine anyHF_take (i:=7) (d:=24) (v:=.slice zA n zc) (by kernel_rfl) rfl (by kernel_rfl) (by kernel_rfl) (by kernel_rfl) rfl (fun _ _ _ h=>h) ⟨Or.inl ⟨by rfl,fun w hS=>by have h0:=hS;go_simp⟩,fun _=>rfl⟩ hS ?_
 simp only [ud9]
 refine anyHF_take (i:=8) (d:=25) (v:=.int .i64 0) (by kernel_rfl) rfl (by kernel_rfl) (by kernel_rfl) (by kernel_rfl) rfl (fun _ _ _ h=>h) ⟨Or.inl ⟨by rfl,fun w hS=>by have h0:=hS;go_simp⟩,fun _=>rfl⟩ hS ?_
 simp only [ud9]
 refine oneF (i:=9) (c:=?_)
 gi_wp2_with fail
 refine ⟨trivial,(callsIn_wide.2 (sureB (.slice zA n zc) _)).mono ?_⟩
 rintro e w3 ⟨rfl,hww⟩
 subst hww
 gi_wp2
 try (refine ⟨hS,?_⟩)
 refine anyHF_take (i:=11) (d:=28) (v:=.pointer (some ⟨Wa.heap.size,1+Q,none⟩)) (by kernel_rfl) rfl (by kernel_rfl) (by kernel_rfl) (by kernel_rfl) rfl (fun _ _ _ h=>h) ⟨Or.inl ⟨by rfl,fun w hS=>by have h0:=hS;go_simp⟩,fun _=>rfl⟩ hS ?_
 simp only [ud9]
 refine oneF (i:=12) (c:=?_)
 have h0:=hS
 have hST:=HST.out _ hBx zA zc
 obtain ⟨old,hold⟩:=HOLD.out _ hBx
 have hfz:=HFZ.out _ hBx
 gi_wp2_with fail
 try (refine ⟨hST,?_⟩)
 refine anyHF_done (by kernel_rfl) ?_ _
 refine NoPanic.normal ?_
 have c1:=HBC.out.below hBx HBC.out.lt
 have hus2:(us.set (1+Q) (.slice zA n zc)).length=18:=by rw [List.length_set];exact HUSL.out
 have hB1z:=hB1.size
 have c2:Blk (w2.setCell ⟨Wa.heap.size,1+Q,none⟩ (.slice zA n zc)) Wa.heap.size 146 (us.set (1+Q) (.slice zA n zc)).toArray:=by
  have:=c1.set_ (1+Q) (.slice zA n zc)
  rwa [List.setIfInBounds_toArray] at this
 have hlx:=HBXC.out.lt
 have hxa:w.heap.size<Wa.heap.size:=by have:=HSX.out;have:=hBY.size;have:=hBa.size;omega
 have c3:Blk (w2.setCell ⟨Wa.heap.size,1+Q,none⟩ (.slice zA n zc)) w.heap.size 146 #[.int .i64 0,.slice none 0 0,.slice none 0 0,.slice none 0 0,.slice none 0 0,.slice none 0 0,.slice none 0 0,.slice none 0 0,.slice none 0 0,.slice none 0 0,.slice none 0 0,.slice none 0 0,.slice none 0 0,.slice none 0 0,.slice none 0 0,.slice none 0 0,.slice none 0 0,.slice none 0 0]:=(HBXC.out.below hBx hlx).far (by show w.heap.size≠Wa.heap.size;omega) _
 have hone:∀ x∈us.set (1+Q) (.slice zA n zc),x.oneCell'=true:=fun x hx=>by
  rcases List.mem_or_eq_of_mem_set hx with h | rfl
  · exact HUS1.out x h
  · rfl
 have HLD:=load_col0 c2 hus2
 have HSD:=store_col0 (cs:=[.int .i64 0,.slice none 0 0,.slice none 0 0,.slice none 0 0,.slice none 0 0,.slice none 0 0,.slice none 0 0,.slice none 0 0,.slice none 0 0,.slice none 0 0,.slice none 0 0,.slice none 0 0,.slice none 0 0,.slice none 0 0,.slice none 0 0,.slice none 0 0,.slice none 0 0,.slice none 0 0]) c3 rfl hus2 hone
 have hBf:=(below_in hBc hBx).setCell (p:=⟨Wa.heap.size,1+Q,none⟩) (by show w.heap.size≤Wa.heap.size;omega) (.slice zA n zc)
 have hBg:=C.below_setRow hBf (Nat.le_refl w.heap.size) (us.set (1+Q) (.slice zA n zc)).toArray
 have HFIN:Hid (ColV ((w2.setCell ⟨Wa.heap.size,1+Q,none⟩ (.slice zA n zc)).setRow w.heap.size (us.set (1+Q) (.slice zA n zc)).toArray).heap.size ((w2.setCell ⟨Wa.heap.size,1+Q,none⟩ (.slice zA n zc)).setRow w.heap.size (us.set (1+Q) (.slice zA n zc)).toArray) P n (wholeF Q n c) (us.set (1+Q) (.slice zA n zc))∧LoadIs Tryz.prog 146 ⟨w.heap.size,0,none⟩ (.agg (us.set (1+Q) (.slice zA n zc)).toArray) ((w2.setCell ⟨Wa.heap.size,1+Q,none⟩ (.slice zA n zc)).setRow w.heap.size (us.set (1+Q) (.slice zA n zc)).toArray)):=by
  refine ⟨⟨hus2,by rw [List.getElem?_set_ne (by omega)];exact hus0,fun r hr=>?_,hone⟩,load_col0 (c3.setRow _) hus2⟩
  have hlq:=HQ.out
  by_cases hrq:r<Q
  · obtain ⟨u,hu,hb⟩:=HVB.out _ hBg r hrq
    refine ⟨by unfold wholeF;rw [if_pos hrq];exact HCE.out r hrq,u,by rw [List.getElem?_set_ne (by omega)];exact hu,?_⟩
    unfold wholeF
    rw [if_pos hrq]
    exact hb
  · obtain rfl:r=Q:=by omega
    refine ⟨by unfold wholeF;rw [if_neg hrq];simp,.slice zA n zc,by rw [Nat.add_comm r 1];exact List.getElem?_set_self (by have:=HUSL.out;have:=HPB.out;omega),?_⟩
    unfold wholeF
    rw [if_neg hrq]
    have hzb:BytesA (fun b=>b<w1.heap.size) w2 (.slice zA n zc) (List.replicate n 0):=BytesA.of_fresh hz (fun b h=>h)
    have hw1:Wa.heap.size<w1.heap.size:=by have:=HBC.out.lt;omega
    exact ((hzb.only (Only.set (A:=fun b=>b<w1.heap.size) (p:=⟨Wa.heap.size,1+r,none⟩) hw1 _)).only (Only.row (A:=fun b=>b<w1.heap.size) (g:=w.heap.size) (by omega) _)).bytes
 clear hone c1 c2 c3 hz hcp hstn
 have HBG:=Lib.hid hBg
 generalize us.set (1+Q) (.slice zA n zc)=us2 at *
 gi_wp2_with (first | refine wpListIn_loadS rfl rfl rfl HLD ?_ | refine wpListIn_storeS rfl rfl rfl rfl HSD ?_)
 exact ⟨_,results_cell rfl rfl HFIN.out.2,us2,rfl,HFIN.out.1,HBG.out⟩
end Go.Proofs.YtkllhjhkcipkoaaGreatDoor.Rg

namespace Go.Proofs.YtkllhjhkcipkoaaGreatDoor.Rg
open Go.RowKit Go.Shelf Go.Maps Go.Proofs.YtkllhjhkcipkoaaGreatDoor.C Go.Proofs.YtkllhjhkcipkoaaGreatDoor.E
attribute [local go_sem] Oper.semAt_some

theorem freshMany_only {A:Nat→Prop} {X Y:World} {v:Value} {ls:List (List UInt8)} {base:Nat} (h:FreshMany base X v ls) (ho:Only A X Y) (hA:∀ b,A b→b<base):FreshMany base Y v ls:=by
 obtain ⟨a,cap,e,hc,hb⟩:=h
 refine ⟨a,cap,e,hc,fun hp=>?_⟩
 obtain ⟨b,off,e2,h1,h2,hcell⟩:=hb hp
 exact ⟨b,off,e2,h1,Nat.lt_of_lt_of_le h2 ho.1,fun j hj=>by
  obtain ⟨u,h3,h4⟩:=hcell j hj
  exact ⟨u,(World.cell?_of_block (ho.2 b h2 (fun e=>by have:=hA b e;omega))).trans h3,fresh_only h4 ho hA⟩⟩
theorem enter_turn1:∀ args W,(callFunc 105 args).run Tryz.prog W = .ok (.enter 105 args) W:=enters_of Tryz.func105 (by kernel_rfl) rfl
theorem turn_yes {B:Nat} (P Q n:Nat) (hQ:P=Q+1) (c:List (List UInt8)) (v:Value) (by_:Int) (y1:-9223372036854775808≤by_) (y2:by_≤9223372036854775807) (hok:ColOk P n c) (w:World) (hL:Laid w) (hB:B≤w.heap.size) (hM:Many B w v c) :
 Calls Tryz.prog 91 #[.int .i64 (P:Int),v,.int .i64 by_] w fun e w'=>∃ u,e = .returned (.tuple #[u,.int .i64 0])∧FreshMany w.heap.size w' u (rowK 1 Q (fun _ r=>xorOf [mvF P by_ (wholeF Q n c) r,mvF P by_ (wholeF Q n c) Q]))∧Below w.heap.size w w':=by
 obtain ⟨A,cap,rfl,_,_⟩:=id hM
 obtain ⟨C,hC⟩:∃ C,c.length=C:=⟨_,rfl⟩
 rw [hC] at hM ⊢
 obtain ⟨W2,hW2⟩:∃ x,((w.alloc (.cells #[.int .i64 (P:Int)] 3)).alloc (.cells #[.slice A C cap] 41)).alloc (.cells #[.int .i64 by_] 3)=x:=⟨_,rfl⟩
 have b0:Blk W2 w.heap.size 3 #[.int .i64 (P:Int)]:=by rw [←hW2];exact ((Blk.new w _ _).alloc _).alloc _
 have b1:Blk W2 (w.heap.size+1) 41 #[.slice A C cap]:=by rw [←hW2];exact (Blk.second w _ _ _).alloc _
 have b2:Blk W2 (w.heap.size+1+1) 3 #[.int .i64 by_]:=by rw [←hW2];exact Blk.at_ (Blk.new _ _ _) (by simp)
 have hBW:Below w.heap.size w W2:=by rw [←hW2];exact (below_two w _ _).alloc (by simp;omega) _
 obtain ⟨W2b,hb⟩:∃ x,w.heap.size=x:=⟨_,rfl⟩
 obtain ⟨W2c,hc⟩:∃ x,w.heap.size+1=x:=⟨_,rfl⟩
 obtain ⟨W2d,hd⟩:∃ x,w.heap.size+1+1=x:=⟨_,rfl⟩
 have h1:=hok.2.2.1
 have h64:=hok.2.2.2
 have HA:=Lib.hid (ans_C_yes 105 #[.pointer (some ⟨w.heap.size,0,none⟩),.pointer (some ⟨w.heap.size+1,0,none⟩),.pointer (some ⟨w.heap.size+1+1,0,none⟩)] W2 (fun u W=>∃ a b c',u = .slice a b c'∧FreshMany (W2.heap.size+1) W u (rowK 1 Q (fun _ r=>xorOf [mvF P by_ (wholeF Q n c) r,mvF P by_ (wholeF Q n c) Q]))) (enter_turn1 _) (fun U hU bU=>by
  have hBU:=below_in hBW hU
  have hltU:=bU.lt
  have HQ:=Lib.hid (fun (V:World) (hV:Below U.heap.size U V)=>asked_yes (B:=B) P Q n hQ c (.slice A C cap) hok V (hL.next (below_in hBU hV)) (Nat.le_trans hB (below_in hBU hV).size) (hM.below ((below_in hBU hV).mono hB)))
  have HE:=Lib.hid (fun (vs:List Value) (V:World) (hV:Below U.heap.size U V) (hvs:ColV V.heap.size V P n (wholeF Q n c) vs)=>turned_any P Q n hQ hok.1 h1 h64 (wholeF Q n c) vs by_ y1 y2 V (hL.next (below_in hBU hV)) (Nat.le_refl _) hvs)
  have HSS:Hid (∀ V,Below U.heap.size U V→(fun U:World=>U.cell? ⟨W2b,0,none⟩=some (.int .i64 (P:Int))∧U.cell? ⟨W2c,0,none⟩=some (.slice A C cap)∧U.cell? ⟨W2d,0,none⟩=some (.int .i64 by_)) V):=by
   rw [←hb,←hc,←hd]
   exact fun V hV=>⟨((b0.below hU b0.lt).below hV (Nat.lt_of_lt_of_le b0.lt hU.size)).one,((b1.below hU b1.lt).below hV (Nat.lt_of_lt_of_le b1.lt hU.size)).one,((b2.below hU b2.lt).below hV (Nat.lt_of_lt_of_le b2.lt hU.size)).one⟩
  have hBx:=(Below.refl U.heap.size U).drew
  rw [hd,hc,hb]
  clear hM b0 b1 b2 hW2 hL hok hc hd hb hC bU hQ
  refine (callsIn_wide (n:=9)).1 ?_
  refine callsIn_of_wp_marks Tryz.func105 rfl trivial ?_ rfl
  simp only [Tryz.ntmps105,List.size_toArray,List.length_cons,List.length_nil,Nat.reduceAdd,Nat.reduceSub,Array.replicate_succ,Array.replicate_zero,List.push_toArray,List.append_toArray,List.nil_append,List.cons_append]
  gi_wp2_with fail
  have hS:(fun U:World=>U.cell? ⟨W2b,0,none⟩=some (.int .i64 (P:Int))∧U.cell? ⟨W2c,0,none⟩=some (.slice A C cap)∧U.cell? ⟨W2d,0,none⟩=some (.int .i64 by_)) U.drew:=HSS.out _ hBx
  refine wpIn_mono (region_HF (Q:=NoPanic _) (S:=(fun U:World=>U.cell? ⟨W2b,0,none⟩=some (.int .i64 (P:Int))∧U.cell? ⟨W2c,0,none⟩=some (.slice A C cap)∧U.cell? ⟨W2d,0,none⟩=some (.int .i64 by_))) (by kernel_rfl) ?_) NoPanic.imp
  refine tkF (i:=0) (d:=4) (v:=.int .i64 (P:Int)) (s:=hS) (c:=?_)
  simp only [ud9]
  refine tkF (i:=1) (d:=5) (v:=.slice A C cap) (s:=hS) (c:=?_)
  simp only [ud9]
  refine tkF (i:=3) (d:=7) (v:=.int .i64 by_) (s:=hS) (c:=?_)
  simp only [ud9]
  refine oneF (i:=2) (c:=?_)
  gi_wp2_with fail
  refine ⟨trivial,(callsIn_wide.2 (HQ.out _ hBx)).mono ?_⟩
  rintro e w1 ⟨vs,rfl,hvs,hB1⟩
  replace hBx:=below_in hBx hB1
  clear hS
  have hS:=HSS.out _ hBx
  gi_wp2
  try (refine ⟨hS,?_⟩)
  refine oneF (i:=4) (c:=?_)
  gi_wp2_with fail
  refine ⟨trivial,(callsIn_wide.2 (HE.out vs w1 hBx hvs)).mono ?_⟩
  rintro e w2 ⟨u,rfl,hu,hB2⟩
  have hs1:=hBx.size
  obtain ⟨uA,un,uc,rfl⟩:∃ a b c,u = .slice a b c:=by obtain ⟨a,c,e,_⟩:=hu;exact ⟨a,_,c,e⟩
  replace hBx:=below_in hBx hB2
  clear hS
  have hS:=HSS.out _ hBx
  gi_wp2
  try (refine ⟨hS,?_⟩)
  refine oneF (i:=5) (c:=?_)
  gi_wp2
  refine anyHF_done (by kernel_rfl) ?_ _
  refine NoPanic.normal ?_
  gi_wp2
  exact ⟨_,by simp [results,Tryz.results105,go_sem],_,rfl,⟨uA,un,uc,rfl,freshMany_more hu (by omega)⟩,hBx⟩))
 clear hM b0 b1 b2 hL hok hb hc hd hQ hC
 go_enter Tryz.func91,Tryz.ntmps91
 have hmf:∀ (fn:Fn) (first cap:Array Value) (w:World),(Instr.makeFunc fn first cap).run Tryz.prog w = .ok (.func fn first cap) w:=fun _ _ _ _=>rfl
 go_wp2_with (go_at_call 104;refine HA.out.mono ?_;rintro e w1 ⟨u,W,rfl,⟨uA,un,uc,rfl,hu⟩,bE,rfl,hB1⟩)
 go_ret2
 exact ⟨_,rfl,freshMany_more (freshMany_only hu (Only.set (A:=fun b=>b=W2.heap.size) (p:=⟨W2.heap.size,0,none⟩) rfl _) (fun b e=>by have e:b=W2.heap.size:=e;omega)) (by have:=hBW.size;omega),below_in hBW hB1⟩
end Go.Proofs.YtkllhjhkcipkoaaGreatDoor.Rg

namespace Go.Proofs.YtkllhjhkcipkoaaGreatDoor.Rg
open Go.RowKit Go.Shelf Go.Maps Go.Proofs.YtkllhjhkcipkoaaGreatDoor.C Go.Proofs.YtkllhjhkcipkoaaGreatDoor.E
attribute [local go_sem] Oper.semAt_some

theorem enter_summed1:∀ args W,(callFunc 138 args).run Tryz.prog W = .ok (.enter 138 args) W:=enters_of Tryz.func138 (by kernel_rfl) rfl
theorem summed1_any {B:Nat} (v:Value) (c:List (List UInt8)) (r:Nat) (w:World) (hB:B≤w.heap.size) (hM:Many B w v c) (hr:r<c.length) :
 Calls Tryz.prog 138 #[v,.int .i64 (r:Int)] w fun e w'=>∃ u,e = .returned u∧Bytes B w' u (c[r]?.getD [])∧Below w.heap.size w w':=by
 obtain ⟨A,cap,rfl,_,_⟩:=id hM
 obtain ⟨b,off,rfl,hb,hc⟩:=many_at hM (by omega)
 obtain ⟨A1,cp,hcell,hby⟩:=hc r hr
 have i1:(0:Int)≤(r:Int):=by omega
 have i2:(r:Int)<(c.length:Int):=by omega
 have HBY:=Lib.hid hby
 clear hc hM hby
 generalize c[r]?.getD []=x at *
 generalize c.length=C at *
 go_enter Tryz.func138,Tryz.ntmps138
 go_wp2
 go_ret
 exact ⟨_,rfl,HBY.out,Below.refl _ _⟩
theorem summed_yes {B:Nat} (P Q n:Nat) (hQ:P=Q+1) (css:List (List (List UInt8))) (v:Value) (hok:RightD (P:Int) css) (hn:(firstC css).length=n) (h1:1≤n) (h64:n≤64) (hl0:0<css.length) (hl:css.length≤100) (w:World) (hL:Laid w) (hB:B≤w.heap.size) (hC:Cols B w v css) :
 Calls Tryz.prog 113 #[.int .i64 (P:Int),v] w fun e w'=>∃ u,e = .returned u∧(FreshMany w.heap.size w' u (rowK css.length Q (fun i r=>(css[i]?.getD [])[r]?.getD []))∧∃ A,u = .slice A Q Q)∧Below w.heap.size w w':=by
 have hpb:=prm_bounds hok.1
 have hgc:=(rightD_iff hok.1 hl0).1 hok
 have e1:((P:Int) - 1).toNat=Q:=by omega
 rw [e1,hn] at hgc
 obtain ⟨gl,go,cap,rfl,_,hgl,hrow⟩:=hC.at_ hl0
 have HRI:=Lib.hid (fun (U:World) (hU:Below w.heap.size w U)=>right_yes (B:=B) (P:Int) _ css U (hL.next hU) (Nat.le_trans hB hU.size) (hC.below (hU.mono hB)) (by omega) hok)
 have HROW:=Lib.hid (fun (V:World) (hV:Below w.heap.size w V)=>rowsC_any P Q css.length n hQ (by omega) hl0 hl h1 h64 gl go cap 138 (fun i=>(w.cell? ⟨gl,go+i,none⟩).getD undef) (fun i r=>(css[i]?.getD [])[r]?.getD []) V enter_summed1
  (fun X hX i hi=>by
   obtain ⟨u,hu,_⟩:=hrow i hi
   have hXw:=below_in hV hX
   rw [hu]
   exact (hXw.cell (p:=⟨gl,go+i,none⟩) (Nat.lt_of_lt_of_le hgl hB)).trans hu)
  (fun i hi r hr=>((hgc i hi).2 r hr).2)
  (fun X hX i hi r hr=>by
   obtain ⟨u,hu,hm⟩:=hrow i hi
   have hXw:=below_in hV hX
   rw [hu]
   refine (summed1_any (B:=B) u (css[i]?.getD []) r X (Nat.le_trans hB hXw.size) (hm.below (hXw.mono hB)) (by rw [(hgc i hi).1];exact hr)).mono ?_
   rintro e X' ⟨u',rfl,hu',hB'⟩
   exact ⟨u',rfl,BytesA.of_bytes hu' (Nat.le_trans hB (Nat.le_trans hXw.size hB'.size)) (fun b hb=>Nat.le_trans hB (Nat.le_trans hV.size hb.1)),hB'⟩))
 clear hgc hC hrow hok hn hpb e1 hQ hL
 generalize css.length=k at *
 go_enter Tryz.func113,Tryz.ntmps113
 go_wp2_with (first
  | (go_at_call 77;refine (HRI.out _ (Below.refl _ _)).mono ?_;rintro e w1 ⟨rfl,hB1⟩)
  | (go_at_call 126;refine (need_yes _).mono ?_;rintro e w2 ⟨rfl,rfl⟩)
  | (go_at_call 137;refine (HROW.out _ hB1).mono ?_;rintro e w3 ⟨u,rfl,hu,hB3⟩))
 go_ret
 exact ⟨_,rfl,⟨freshMany_more hu.1 hB1.size,hu.2⟩,below_in hB1 hB3⟩
theorem enter_sum1:∀ args W,(callFunc 112 args).run Tryz.prog W = .ok (.enter 112 args) W:=enters_of Tryz.func112 (by kernel_rfl) rfl
theorem sum_yes {B:Nat} (P Q n:Nat) (hQ:P=Q+1) (css:List (List (List UInt8))) (v:Value) (hok:RightD (P:Int) css) (hn:(firstC css).length=n) (h1:1≤n) (h64:n≤64) (hl0:0<css.length) (hl:css.length≤100) (w:World) (hL:Laid w) (hB:B≤w.heap.size) (hC:Cols B w v css) :
 Calls Tryz.prog 95 #[.int .i64 (P:Int),v] w fun e w'=>∃ u,e = .returned (.tuple #[u,.int .i64 0])∧(FreshMany w.heap.size w' u (rowK css.length Q (fun i r=>(css[i]?.getD [])[r]?.getD []))∧∃ A,u = .slice A Q Q)∧Below w.heap.size w w':=by
 obtain ⟨A,cap,rfl,_,_⟩:=id hC
 obtain ⟨W2,hW2⟩:∃ W2,(w.alloc (.cells #[.int .i64 (P:Int)] 3)).alloc (.cells #[.slice A css.length cap] 22)=W2:=⟨_,rfl⟩
 have b0:Blk W2 w.heap.size 3 #[.int .i64 (P:Int)]:=by rw [←hW2];exact (Blk.new w _ _).alloc _
 have b1:Blk W2 (w.heap.size+1) 22 #[.slice A css.length cap]:=by rw [←hW2];exact Blk.second w _ _ _
 have hBW:Below w.heap.size w W2:=by rw [←hW2];exact below_two w _ _
 have HA:=Lib.hid (ans_C_yes 112 #[.pointer (some ⟨w.heap.size,0,none⟩),.pointer (some ⟨w.heap.size+1,0,none⟩)] W2 (fun u W=>∃ a b c',u = .slice a b c'∧FreshMany (W2.heap.size+1) W u (rowK css.length Q (fun i r=>(css[i]?.getD [])[r]?.getD []))∧∃ A,u = .slice A Q Q) (enter_sum1 _) (fun U hU bU=>by
  have hBU:=below_in hBW hU
  have hltU:=bU.lt
  have HS:=Lib.hid (fun (V:World) (hV:Below U.heap.size U V)=>summed_yes (B:=B) P Q n hQ css (.slice A css.length cap) hok hn h1 h64 hl0 hl V (hL.next (below_in hBU hV)) (Nat.le_trans hB (below_in hBU hV).size) (hC.below ((below_in hBU hV).mono hB)))
  have c0:=(b0.below hU b0.lt).one
  have c1:=(b1.below hU b1.lt).one
  clear hC b0 b1 hW2 hL hok hn bU hQ
  generalize rowK css.length Q (fun i r=>(css[i]?.getD [])[r]?.getD [])=rk at *
  generalize css.length=k at *
  go_enter Tryz.func112,Tryz.ntmps112
  go_wp2_with (go_at_call 113;refine (HS.out _ (by first | exact Below.refl _ _ | exact (Below.refl _ _).drew)).mono ?_;rintro e w1 ⟨u,rfl,hu,hB1⟩;obtain ⟨uA,un,uc,rfl⟩:∃ a b c,u = .slice a b c:=by obtain ⟨a,c,e,_⟩:=hu.1;exact ⟨a,_,c,e⟩)
  go_ret
  exact ⟨_,rfl,⟨uA,un,uc,rfl,freshMany_more hu.1 (by omega),hu.2⟩,hB1⟩))
 clear hC b0 b1 hL hok hn hQ
 generalize rowK css.length Q (fun i r=>(css[i]?.getD [])[r]?.getD [])=rk at *
 generalize css.length=k at *
 go_enter Tryz.func95,Tryz.ntmps95
 have hmf:∀ (fn:Fn) (first cap:Array Value) (w:World),(Instr.makeFunc fn first cap).run Tryz.prog w = .ok (.func fn first cap) w:=fun _ _ _ _=>rfl
 go_wp2_with (go_at_call 104;refine HA.out.mono ?_;rintro e w1 ⟨u,W,rfl,⟨uA,un,uc,rfl,hu,hcp⟩,bE,rfl,hB1⟩)
 go_ret2
 exact ⟨_,rfl,⟨freshMany_more (freshMany_only hu (Only.set (A:=fun b=>b=W2.heap.size) (p:=⟨W2.heap.size,0,none⟩) rfl _) (fun b e=>by have e:b=W2.heap.size:=e;omega)) (by have:=hBW.size;omega),hcp⟩,below_in hBW hB1⟩
end Go.Proofs.YtkllhjhkcipkoaaGreatDoor.Rg

namespace Go.Proofs.YtkllhjhkcipkoaaGreatDoor.Rg
open Go.RowKit Go.Shelf Go.Maps Go.Proofs.YtkllhjhkcipkoaaGreatDoor.C Go.Proofs.YtkllhjhkcipkoaaGreatDoor.E
attribute [local go_sem] Oper.semAt_some

def rowsF (p:Int) (zs:List Int):List Int:=zs.filter (fun x:Int=>decide (x≠p - 1))
theorem rowsF_snoc (p:Int) (pre:List Int) (x:Int):rowsF p (pre ++ [x])=if x=p - 1 then rowsF p pre else rowsF p pre ++ [x]:=by
 unfold rowsF
 rw [List.filter_append]
 by_cases h:x=p - 1
 · rw [if_pos h,List.filter_cons_of_neg (by simpa using h)];simp
 · rw [if_neg h,List.filter_cons_of_pos (by simpa using h)];rfl
theorem rowsF_len (p:Int) (pre:List Int):(rowsF p pre).length≤pre.length:=List.length_filter_le _ _
theorem enter_rows1:∀ args W,(callFunc 164 args).run Tryz.prog W = .ok (.enter 164 args) W:=enters_of Tryz.func164 (by kernel_rfl) rfl
theorem eql_rows (g h:Nat) (W:World):(binOp .eql 114 (.func (.func 164) #[] #[.pointer (some ⟨g,0,none⟩),.pointer (some ⟨h,0,none⟩)]) .nilFunc).run Tryz.prog W = .ok (.bool false) W:=by kernel_rfl
end Go.Proofs.YtkllhjhkcipkoaaGreatDoor.Rg

namespace Go.Proofs.YtkllhjhkcipkoaaGreatDoor.T
open Go.RowKit Go.Shelf

def FarO {β:Type} (B:Nat) (I:β→(Nat→Prop)→World→Prop):Prop :=
 ∀ s o X Y row,I s o X→X.grownBy Y row→(∀ r,row=some r→B≤r∧¬ o r)→I s o Y
def SinceO (B:Nat) (o:(Nat→Prop)) (X Y:World):Prop:=X.heap.size≤Y.heap.size∧∀ b,B≤b→b<X.heap.size→¬ o b→Y.heap[b]?=X.heap[b]?
def RowO (o:(Nat→Prop)) (X:World):Prop:=∀ b,o b→∃ cs t fr,X.heap[b]?=some (.cells cs t fr)
theorem RowO.lt {o:(Nat→Prop)} {X:World} (h:RowO o X):∀ b,o b→b<X.heap.size:=fun b e=>by
 obtain ⟨_,_,_,hc⟩:=h b e
 exact (Array.getElem?_eq_some_iff.1 hc).1
theorem RowO.ne {o:(Nat→Prop)} {X:World} (h:RowO o X) {D:Nat} {ds:Option (List Deferred)} (hD:X.heap[D]?=some (.deferred ds)):¬ o D:=fun e=>by
 obtain ⟨_,_,_,hc⟩:=h D e
 rw [hD] at hc
 cases hc
theorem rowO_none (X:World):RowO (fun _=>False) X:=fun b e=>e.elim
def FreshO (o o':(Nat→Prop)) (X:World):Prop:=∀ b,o' b→o b∨X.heap.size≤b
theorem FreshO.refl (o:Nat→Prop) (X:World):FreshO o o X:=fun _ h=>.inl h

section
variable {β:Type} {B k:Nat} {I I':β→(Nat→Prop)→World→Prop} {X Y Z:World} {o o' o'':(Nat→Prop)}
theorem FarO.and (h:FarO B I) (h':FarO B I'):FarO B (fun s o W=>I s o W∧I' s o W):=fun s o X Y row hs hg hr=>⟨h s o X Y row hs.1 hg hr,h' s o X Y row hs.2 hg hr⟩
theorem FarO.less {B':Nat} (h:FarO B I) (hB:B≤B'):FarO B' I:=fun s o X Y row hs hg hr=>h s o X Y row hs hg fun r e=>⟨by have:=(hr r e).1;omega,(hr r e).2⟩
theorem farO_pure (B:Nat) (p:β→(Nat→Prop)→Prop):FarO B (fun s o (_:World)=>p s o):=fun _ _ _ _ _ hs _ _=>hs
theorem farO_blk {g:Nat} (hg:g<B) (t:TypeId) (f:β→Array Value):FarO B (fun s (_:(Nat→Prop)) W=>Blk W g t (f s)):=fun _ _ _ _ _ hs hgr hr =>
 hs.grown hgr fun e=>by have:=(hr g e.symm).1;omega
theorem farO_below {n₀:Nat} {w:World} (hn:n₀≤w.heap.size) (hB:n₀≤B):FarO B (fun (_:β) (_:(Nat→Prop)) W=>Below n₀ w W):=fun _ _ _ _ _ hs hgr hr =>
 hs.grown hgr (Nat.le_trans hn hs.size) fun r e=>by have:=(hr r e).1;omega
theorem FarO.put (h:FarO B I) {s:β} {l:Nat} (hs:I s o X) (h1:B≤l) (h2:¬ o l) (ob:Obj):I s o (X.putObj l ob) :=
 h s o X _ (some l) hs (grownBy_putObj' X l ob) fun r e=>by injection e with e;subst e;exact ⟨h1,h2⟩
theorem FarO.lay (h:FarO B I) {s:β} (hs:I s o X) (ob:Obj):I s o (X.alloc ob):=h s o X _ none hs (World.grownBy_alloc X ob none) fun r e=>by cases e
theorem FarO.below (h:FarO B I) {s:β} (hs:I s o X) (hb:Below X.heap.size X Y):I s o Y:=h s o X Y none hs (grown_below hb) fun r e=>by cases e
theorem SinceO.refl (B:Nat) (o:(Nat→Prop)) (X:World):SinceO B o X X:=⟨Nat.le_refl _,fun _ _ _ _=>rfl⟩
theorem SinceO.below (hb:Below X.heap.size X Y):SinceO B o X Y:=⟨hb.size,fun b _ h2 _=>hb.block b h2⟩
theorem SinceO.less {B':Nat} (h:SinceO B o X Y) (hB:B≤B'):SinceO B' o X Y:=⟨h.1,fun b h1 h2=>h.2 b (by omega) h2⟩
theorem SinceO.trans (h:SinceO B o X Y) (hf:FreshO o o' X) (h':SinceO B o' Y Z):SinceO B o X Z:=⟨Nat.le_trans h.1 h'.1,fun b h1 h2 h3=>(h'.2 b h1 (by have:=h.1;omega) (fun e=>(hf b e).elim h3 (fun e=>by omega))).trans (h.2 b h1 h2 h3)⟩
theorem SinceO.trans_ (h:SinceO B o X Y) (h':SinceO B o Y Z):SinceO B o X Z:=h.trans (FreshO.refl _ _) h'
theorem FreshO.trans (h:FreshO o o' X) (hs:X.heap.size≤Y.heap.size) (h':FreshO o' o'' Y):FreshO o o'' X:=fun b e=>(h' b e).elim (fun e=>h b e) fun e=>.inr (by omega)
theorem FreshO.later (h:FreshO o o' Y) (hs:X.heap.size≤Y.heap.size):FreshO o o' X:=fun b e=>(h b e).imp id fun e=>by omega
theorem FreshO.ne (h:FreshO o o' X) {b:Nat} (hb:b<X.heap.size) (hne:¬ o b):¬ o' b:=fun e=>(h b e).elim hne fun e=>by omega
theorem SinceO.blk {g:Nat} {t:TypeId} {cs:Array Value} (h:SinceO B o X Y) (hb:Blk X g t cs) (hg:B≤g) (hne:¬ o g):Blk Y g t cs:=(h.2 g hg hb.lt hne).trans hb
theorem SinceO.keep {B' k:Nat} (h:SinceO B o X Y) (hB:B≤B') (hk:B'+k≤X.heap.size) (ho:∀ b,o b→b<B'∨B'+k≤b):Keep B' k X Y :=
 ⟨h.1,fun b h1 h2=>h.2 b (by omega) (by omega) (fun e=>by have:=ho b e;omega)⟩
end

def SeqT {α:Type} (F:Fence) (n:Nat) (P:Program) (gf:Nat) (lb:Array Value) (encs:α→Array Value) (Ok:List α→α→World→Prop) (Kp:World→World→Prop) (S Sp:List α→Prop) (N:Nat) (w:World):Prop :=
 ∀ (l:Nat) (J Jx:List α→(Nat→Prop)→World→Prop) (W:World) (o₀:(Nat→Prop)),Below w.heap.size w W→(∀ b,o₀ b→b<W.heap.size)→FarO W.heap.size J→FarO W.heap.size Jx→(∀ s o X,J s o X→RowO o X)→(∀ s o X,Jx s o X→RowO o X) →
  (∀ pre x o W1,J pre o W1→Ok pre x W1→pre.length<N→W.heap.size≤W1.heap.size→YieldAt F (n - 1) P l (encs x) W1 fun e W'=>∃ o',FreshO o o' W1∧SinceO W.heap.size o W1 W' ∧
   ((e = .returned (.bool true)∧J (pre ++ [x]) o' W'∧Kp W1 W')∨(e = .returned (.bool false)∧Jx (pre ++ [x]) o' W'∧Kp W1 W'))) →
  J [] o₀ W →
  CallsIn F n P gf (#[.func (.yield l) #[] #[]] ++ lb) W fun e W'=>(∃ v,e = .returned v)∧∃ o',FreshO o₀ o' W∧((∃ xs,S xs∧J xs o' W')∨(∃ pre,Sp pre∧Jx pre o' W'))

def postT {α:Type} (B:Nat) (Kp:World→World→Prop) (I:List α→(Nat→Prop)→World→Prop) (Ix:Code→List α→(Nat→Prop)→World→Prop) (xs:List α) (o:(Nat→Prop)) (W:World):Exit→Act→World→Prop
 | .normal,_,W'=>∃ o',FreshO o o' W∧SinceO B o W W'∧Kp W W'∧I xs o' W'
 | .ret,_,W'=>∃ o',FreshO o o' W∧SinceO B o W W'∧Kp W W'∧Ix .ret xs o' W'
 | .exit id,_,W'=>∃ o',FreshO o o' W∧SinceO B o W W'∧Kp W W'∧Ix (.exit id) xs o' W'
 | .goto t,_,W'=>∃ o',FreshO o o' W∧SinceO B o W W'∧Kp W W'∧Ix (.goto t) xs o' W'
 | .panic _,_,_=>False
 | .outgrown,_,_=>False
def HeldO (rec:LoopState→Option Code→Loop) (D:Nat) (st:LoopState) (pe:Option Code) (o:(Nat→Prop)) (X:World):Prop:=Held rec D st pe X∧¬ o D∧¬ o (D+1)
theorem _root_.Go.Proofs.YtkllhjhkcipkoaaGreatDoor.Held.lt0T {rec:LoopState→Option Code→Loop} {D:Nat} {st:LoopState} {pe:Option Code} {X:World} (h:Held rec D st pe X):D<X.heap.size:=by have:=h.lt;omega
theorem HeldO.since {rec:LoopState→Option Code→Loop} {D B:Nat} {st:LoopState} {pe:Option Code} {X Y:World} {o o':(Nat→Prop)} (h:HeldO rec D st pe o X) (hk:SinceO B o X Y) (hf:FreshO o o' X) (h1:B≤D):HeldO rec D st pe o' Y :=
 ⟨⟨(hk.2 _ (by omega) h.1.lt h.2.2).trans h.1.1,(hk.2 _ h1 h.1.lt0T h.2.1).trans h.1.2⟩,hf.ne h.1.lt0T h.2.1,hf.ne h.1.lt h.2.2⟩
theorem held_farO (rec:LoopState→Option Code→Loop) (D:Nat) (st:LoopState) (pe:Option Code) {β:Type}:FarO (D+2) (fun (_:β) o W=>HeldO rec D st pe o W):=fun _ o X Y _ hs hg hr =>
 ⟨⟨(hg.block _ hs.1.lt (fun e=>by have:=(hr _ e.symm).1;omega)).trans hs.1.1,(hg.block D hs.1.lt0T (fun e=>by have:=(hr _ e.symm).1;omega)).trans hs.1.2⟩,hs.2⟩
theorem HeldO.turn {rec:LoopState→Option Code→Loop} {D:Nat} {st:LoopState} {pe:Option Code} {o:(Nat→Prop)} {X:World} (h:HeldO rec D st pe o X) (st':LoopState) (pe':Option Code):HeldO rec D st' pe' o (X.putObj (D+1) (.loop (rec st' pe'))):=⟨h.1.turn st' pe',h.2⟩

theorem wpIn_rangeT {α:Type} {F:Fence} {n:Nat} {P:Program} {g:Operand} {ps:Array Tmp} {assign body:Code} {Q:Exit→Act→World→Prop} {a:Act} {w:World}
 (hro:F.round=none) (h1:1≤n) {gf:Nat} {lb:Array Value} (hg:a.eval g = .func (.func gf) #[] lb) (hFg:F.fn gf) (eg:∀ args w,(callFunc gf args).run P w = .ok (.enter gf args) w)
 {encs:α→Array Value} {Ok:List α→α→World→Prop} {Kp:World→World→Prop} {S Sp:List α→Prop} {N:Nat} {w0:World} (hseq:SeqT F (n - 1) P gf lb encs Ok Kp S Sp N w0)
 (hKt:∀ {A B C:World},Kp A B→Kp B C→Kp A C) (hKb:∀ (W:World) (l:Nat) (ob:Obj),w.heap.size≤l→l<W.heap.size→(∃ r,W.heap[l]?=some (.loop r))→Kp W (W.putObj l ob)) (hb0:Below w0.heap.size w0 w) (hps:∀ x,(encs x).size=ps.size)
 (I:List α→(Nat→Prop)→World→Prop) (Ix:Code→List α→(Nat→Prop)→World→Prop) (hI:FarO w.heap.size I) (hIx:∀ c,FarO w.heap.size (Ix c)) (o₀:(Nat→Prop)) (ho₀:∀ b,o₀ b→b<w.heap.size) (h0:I [] o₀ w)
 (Ax:List α→α→(Nat→Prop)→Act→World→Prop) (hAx:∀ (pre:List α) (x:α) (o:(Nat→Prop)) (a':Act) (W:World) (l:Nat) (ob:Obj) (r:Loop),W.heap[l]?=some (.loop r)→w.heap.size≤l→¬ o l→Ax pre x o a' W→Ax pre x o a' (W.putObj l ob))
 (hassign:∀ (l:Nat) (pre:List α) (x:α) (o:(Nat→Prop)) (W:World) (K:Act→World→Prop),w.heap.size≤W.heap.size→(∀ b,o b→b<W.heap.size)→I pre o W→Ok pre x W→(∀ a' W',SinceO w.heap.size o W W'→Kp W W'→I pre o W'→Ax pre x o a' W'→K a' W') →
  assign.wpIn (F.inRound l) (n - 1 - 1) P (Exit.then K (fun _ _ _=>False)) { tmps:=(ps.zip (encs x)).foldl (fun t (p,v)=>t.setIfInBounds p v) a.tmps,defers:=[] } W)
 (hrow:∀ pre o W,I pre o W→RowO o W) (hrowx:∀ c pre o W,Ix c pre o W→RowO o W)
 (hbody:∀ (l:Nat) (pre:List α) (x:α) (o:(Nat→Prop)) (a':Act) (W:World),w.heap.size≤W.heap.size→I pre o W→Ax pre x o a' W→pre.length<N →
  body.wpIn (F.inRound l) (n - 1 - 1) P (postT w.heap.size Kp I Ix (pre ++ [x]) o W) a' W)
 (hdone:∀ (D:Nat) (xs:List α) (o:(Nat→Prop)) (W:World),w.heap.size≤D→FreshO o₀ o w→S xs→I xs o W→W.heap[D]?=some (.deferred (some []))→¬ o D→Q .normal { a with defers:={ target:=.collected D,args:=#[] } :: a.defers } W)
 (hstop:∀ (D:Nat) (c:Code) (pre:List α) (o:(Nat→Prop)) (W:World),w.heap.size≤D→FreshO o₀ o w→Sp pre→Ix c pre o W→W.heap[D]?=some (.deferred (some []))→¬ o D→c.wpIn F n P Q { a with defers:={ target:=.collected D,args:=#[] } :: a.defers } W) :
 (Code.rangeFunc g ps assign body).wpIn F n P Q a w:=by
 refine wpIn_rangeFunc fun fn hfn=>?_
 rw [hro]
 obtain ⟨rec,hrec⟩:∃ rec:LoopState→Option Code→Loop,rec=fun st pe=>{ state:=st,pending:=pe,fn,tmps:=a.tmps,params:=ps,assign,body,defers:=w.heap.size }:=⟨_,rfl⟩
 obtain ⟨W1,hW1⟩:∃ W1,(w.alloc (.deferred (some []))).alloc (.loop (rec .ready none))=W1:=⟨_,rfl⟩
 have s1:W1.heap.size=w.heap.size+2:=by rw [←hW1];simp
 have n0:¬ o₀ w.heap.size:=fun e=>by have:=ho₀ _ e;omega
 have n1:¬ o₀ (w.heap.size+1):=fun e=>by have:=ho₀ _ e;omega
 have H1:HeldO rec w.heap.size .ready none o₀ W1:=by
  rw [←hW1]
  refine ⟨⟨?_,(Below.heap_alloc _ _ _ (by simp)).trans (World.alloc_heap_new w _)⟩,n0,n1⟩
  have:=World.alloc_heap_new (w.alloc (.deferred (some []))) (.loop (rec .ready none))
  rwa [World.size_alloc] at this
 have I1:I [] o₀ W1:=by rw [←hW1];exact hI.lay (hI.lay h0 _) _
 have B1:Below w0.heap.size w0 W1:=by
  rw [←hW1];exact hb0.trans ((((Below.refl _ w).alloc (Nat.le_refl _) _).alloc (by simp) _).mono hb0.size)
 refine ⟨w.heap.size+1,[{ target:=.collected w.heap.size,args:=#[] }],W1,{ target:=.fn (.func gf) lb,args:=#[.func (.yield (w.heap.size+1)) #[] #[]] },W1,gf,
  #[.func (.yield (w.heap.size+1)) #[] #[]] ++ lb,W1,?_,?_,?_,?_,fun _=>h1,?_⟩
 · rw [←hW1,hrec];exact run_enterLoop_outer _ _ _ _ _
 · simp only [resolve,hg]
   simp [go_sem]
 · intro f' hf'
   simp [Target.leads] at hf'
   exact hf'▸hFg
 · simp [invoke,go_sem,eg]
 have hI':FarO W1.heap.size I:=hI.less (by omega)
 have hH:=fun st pe=>(s1▸held_farO rec w.heap.size st pe (β:=List α):FarO W1.heap.size _)
 refine (hseq (w.heap.size+1) (fun pre o W=>I pre o W∧HeldO rec w.heap.size .ready none o W) (fun pre o W=>∃ c,Ix c pre o W∧HeldO rec w.heap.size .done (some c) o W) W1 o₀ B1 (fun b e=>by have:=ho₀ b e;omega) (hI'.and (hH _ _))
  (fun s o X Y row hs hgr hr=>by
   obtain ⟨c,hc,hh⟩:=hs
   exact ⟨c,(hIx c).less (by omega) s o X Y row hc hgr hr,hH _ _ s o X Y row hh hgr hr⟩) (fun s o X h=>hrow _ _ _ h.1) (fun s o X h=>h.elim fun c h=>hrowx _ _ _ _ h.1) ?_ ⟨I1,H1⟩).mono ?_
 · rintro pre x o W ⟨hi,hh⟩ hok hlen hsz
   rw [s1] at hsz
   have hy:=run_yield (P:=P) (args:=encs x) hh.1.1 (by rw [hrec];exact hps x)
   rw [hrec] at hy
   refine ⟨fn,_,assign,body,hy,roundIn_of_wpIn hfn (hassign _ pre x o W _ (by omega) (RowO.lt (hrow _ _ _ hi)) hi hok ?_)⟩
   intro a' Wa hka hpa hia hax
   have ha:=hh.since hka (FreshO.refl _ _) (Nat.le_refl _)
   have hb:=ha.turn .busy none
   have hbegin:=run_beginRound (P:=P) ha.1.1 (by rw [hrec])
   have ebusy:({ rec .ready none with state:=.busy }:Loop)=rec .busy none:=by rw [hrec]
   rw [ebusy] at hbegin
   refine ⟨_,hbegin,?_⟩
   have hsa:=hka.1
   have hsb:(Wa.putObj (w.heap.size+1) (.loop (rec .busy none))).heap.size=Wa.heap.size:=by simp [World.putObj]
   refine wpIn_mono (hbody _ pre x o a' _ (by rw [hsb];omega) (hI.put hia (by omega) ha.2.2 _) (hAx _ _ _ _ _ _ _ _ ha.1.1 (by omega) ha.2.2 hax) hlen) ?_
   have fin:∀ (jump:Option Code) (o':(Nat→Prop)) (W3:World),FreshO o o' (Wa.putObj (w.heap.size+1) (.loop (rec .busy none)))→SinceO w.heap.size o (Wa.putObj (w.heap.size+1) (.loop (rec .busy none))) W3 →
    (Instr.endRound (w.heap.size+1) jump).run P W3 = .ok (.bool jump.isNone) (W3.putObj (w.heap.size+1) (.loop (rec (if jump.isNone then .ready else .done) jump))) ∧
    HeldO rec w.heap.size (if jump.isNone then .ready else .done) jump o' (W3.putObj (w.heap.size+1) (.loop (rec (if jump.isNone then .ready else .done) jump)))∧HeldO rec w.heap.size .busy none o' W3:=fun jump o' W3 hf hk3=>by
    have h3:=hb.since hk3 hf (Nat.le_refl _)
    have he:=run_endRound (P:=P) jump h3.1.1
    have e2:({ rec .busy none with state:=if jump.isNone then .ready else .done,pending:=jump }:Loop)=rec (if jump.isNone then .ready else .done) jump:=by rw [hrec]
    rw [e2] at he
    exact ⟨he,h3.turn _ _,h3⟩
   have putFar:∀ (o:(Nat→Prop)) (V:World) (ob:Obj),SinceO W1.heap.size o V (V.putObj (w.heap.size+1) ob):=fun o V ob=>⟨by simp [World.putObj],fun b h2 _ _=>World.putObj_heap_other (by omega)⟩
   have keepAll:∀ (ob:Obj) (o':(Nat→Prop)) (W3:World),SinceO w.heap.size o (Wa.putObj (w.heap.size+1) (.loop (rec .busy none))) W3→SinceO W1.heap.size o W (W3.putObj (w.heap.size+1) ob):=fun ob o' W3 hk3 =>
    (((hka.less (by omega)).trans_ (putFar o Wa _)).trans_ (hk3.less (by omega))).trans_ (putFar o W3 _)
   intro e a3 W3 hp
   cases e with
   | normal =>
     obtain ⟨o',hf3,hk3,hp3,hi3⟩:=hp
     obtain ⟨he,h4,h5⟩:=fin none o' W3 hf3 hk3
     exact ⟨_,_,he,o',hf3.later (by rw [hsb];exact hsa),keepAll _ o' _ hk3,.inl ⟨rfl,⟨hI.put hi3 (by omega) h5.2.2 _,h4⟩,hKt hpa (hKt (hKb _ _ _ (by omega) ha.1.lt ⟨_,ha.1.1⟩) (hKt hp3 (hKb _ _ _ (by omega) h5.1.lt ⟨_,h5.1.1⟩)))⟩⟩
   | ret =>
     obtain ⟨o',hf3,hk3,hp3,hi3⟩:=hp
     obtain ⟨he,h4,h5⟩:=fin (some .ret) o' W3 hf3 hk3
     exact ⟨_,_,he,o',hf3.later (by rw [hsb];exact hsa),keepAll _ o' _ hk3,.inr ⟨rfl,⟨.ret,(hIx _).put hi3 (by omega) h5.2.2 _,h4⟩,hKt hpa (hKt (hKb _ _ _ (by omega) ha.1.lt ⟨_,ha.1.1⟩) (hKt hp3 (hKb _ _ _ (by omega) h5.1.lt ⟨_,h5.1.1⟩)))⟩⟩
   | exit id =>
     obtain ⟨o',hf3,hk3,hp3,hi3⟩:=hp
     obtain ⟨he,h4,h5⟩:=fin (some (.exit id)) o' W3 hf3 hk3
     exact ⟨_,_,he,o',hf3.later (by rw [hsb];exact hsa),keepAll _ o' _ hk3,.inr ⟨rfl,⟨.exit id,(hIx _).put hi3 (by omega) h5.2.2 _,h4⟩,hKt hpa (hKt (hKb _ _ _ (by omega) ha.1.lt ⟨_,ha.1.1⟩) (hKt hp3 (hKb _ _ _ (by omega) h5.1.lt ⟨_,h5.1.1⟩)))⟩⟩
   | goto t =>
     obtain ⟨o',hf3,hk3,hp3,hi3⟩:=hp
     obtain ⟨he,h4,h5⟩:=fin (some (.goto t)) o' W3 hf3 hk3
     exact ⟨_,_,he,o',hf3.later (by rw [hsb];exact hsa),keepAll _ o' _ hk3,.inr ⟨rfl,⟨.goto t,(hIx _).put hi3 (by omega) h5.2.2 _,h4⟩,hKt hpa (hKt (hKb _ _ _ (by omega) ha.1.lt ⟨_,ha.1.1⟩) (hKt hp3 (hKb _ _ _ (by omega) h5.1.lt ⟨_,h5.1.1⟩)))⟩⟩
   | panic ch=>exact hp.elim
   | outgrown=>exact hp.elim
 · rintro e W2 ⟨⟨v,rfl⟩,o',hfo,(⟨xs,hS,hi,hh⟩ | ⟨pre,hSp,c,hc,hh⟩)⟩
   · have he:=run_endLoop (P:=P) hh.1.1 (by rw [hrec];simp)
     rw [show (rec .ready none).pending=none by rw [hrec]] at he
     exact ⟨none,_,he,hdone _ xs o' _ (Nat.le_refl _) (hfo.later (by omega)) hS (hI.put hi (by omega) hh.2.2 _) ((World.putObj_heap_other (by omega)).trans hh.1.2) hh.2.1⟩
   · have he:=run_endLoop (P:=P) hh.1.1 (by rw [hrec];simp)
     rw [show (rec .done (some c)).pending=some c by rw [hrec]] at he
     exact ⟨some c,_,he,hstop _ c pre o' _ (Nat.le_refl _) (hfo.later (by omega)) hSp ((hIx c).put hc (by omega) hh.2.2 _) ((World.putObj_heap_other (by omega)).trans hh.1.2) hh.2.1⟩

end Go.Proofs.YtkllhjhkcipkoaaGreatDoor.T
