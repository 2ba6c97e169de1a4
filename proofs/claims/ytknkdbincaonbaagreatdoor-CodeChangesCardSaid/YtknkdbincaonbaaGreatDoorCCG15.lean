/- -/
import Derived.Test.YtknkdbincaonbaaGreatDoorCCG14
import Derived.Test.YtknkdbincaonbaaGreatDoorCCG2
import Derived.Test.YtknkdbincaonbaaGreatDoorCCG6
import Derived.Test.YtknkdbincaonbaaGreatDoorCCG12
set_option linter.unusedVariables false
set_option linter.unusedSimpArgs false
set_option maxRecDepth 100000
set_option maxHeartbeats 2000000
namespace Go.Proofs.YtknkdbincaonbaaGreatDoor.Cd
open Go.RowKit Go.Shelf Go.Proofs.YtknkdbincaonbaaGreatDoor.C Go.Proofs.YtknkdbincaonbaaGreatDoor.E

theorem wpList_appGM {T:TypeId} {Q:Nat→Prop} {base:Nat} {v v2:Value} (w:World) {ops:Array Oper} {rest:List Oper} {o:Oper} {a:Act} {QQ:Exit→Act→World→Prop} (hgd:o.guard=none) (s x:Operand)
 (ho:o.op = .call { callee:=.builtin .append,args:=#[s,x],argTypes:=#[T,T] }) (hT:Tryz.prog.underlying T=some (.slice 32)) (css ds:List (List UInt8)) (hs:a.eval s=v) (h:RowG bytesR 32 [] Q w base v css) (hx:a.eval x=v2)
 (h2:SliceP bytesR [] (fun b=>b<w.heap.size∧some b≠v.ownBlock∧Q b) w v2 ds) (h0:∀ A cap,v2 = .slice A 0 cap→A=none→cap=0) (hlen:css.length≤100000) (hlen2:ds.length≤100000) (hbase:base≤w.heap.size)
 (hK:∀ v' w',RowG bytesR 32 [] Q w' base v' (css ++ ds)→w.grownBy w' v.ownBlock→(v'.ownBlock=v.ownBlock∨v'.ownBlock=some w.heap.size)→wpList Tryz.prog ops QQ rest (a.put o.dst v') w'):wpList Tryz.prog ops QQ (o :: rest) a w :=
 wpList_plain hgd fun K hK2=>by
  obtain ⟨i,hi,hz0,hz1,hz2⟩:=info_parts Tryz.infoSlcE
  obtain ⟨v',w',hrun,h1,h3,h4⟩:=RowG.append i hi hz0 hz1 hz2 T o.type hT h h2 h0 hlen hlen2 hbase
  unfold Oper.wp execOp
  simp only [ho,resolve,invoke,builtin,Sem.run_bind,Sem.run_pure,Result.andThen_ok,List.map_toArray,List.map_cons,List.map_nil,hs,hx,hrun]
  exact hK2 _ _ (hK v' w' h1 h3 h4)

theorem wpList_appGC {T:TypeId} {Q:Nat→Prop} {base:Nat} {v v2:Value} (w:World) {ops:Array Oper} {rest:List Oper} {o:Oper} {a:Act} {QQ:Exit→Act→World→Prop} (hgd:o.guard=none) (s x:Operand)
 (ho:o.op = .call { callee:=.builtin .append,args:=#[s,x],argTypes:=#[T,T] }) (hT:Tryz.prog.underlying T=some (.slice 58)) (css ds:List (List (List UInt8))) (hs:a.eval s=v) (h:RowG manyR 58 [] Q w base v css) (hx:a.eval x=v2)
 (h2:SliceP manyR [] (fun b=>b<w.heap.size∧some b≠v.ownBlock∧Q b) w v2 ds) (h0:∀ A cap,v2 = .slice A 0 cap→A=none→cap=0) (hlen:css.length≤100000) (hlen2:ds.length≤100000) (hbase:base≤w.heap.size)
 (hK:∀ v' w',RowG manyR 58 [] Q w' base v' (css ++ ds)→w.grownBy w' v.ownBlock→(v'.ownBlock=v.ownBlock∨v'.ownBlock=some w.heap.size)→wpList Tryz.prog ops QQ rest (a.put o.dst v') w'):wpList Tryz.prog ops QQ (o :: rest) a w :=
 wpList_plain hgd fun K hK2=>by
  obtain ⟨i,hi,hz0,hz1,hz2⟩:=info_parts Tryz.infoCol
  obtain ⟨v',w',hrun,h1,h3,h4⟩:=RowG.append i hi hz0 hz1 hz2 T o.type hT h h2 h0 hlen hlen2 hbase
  unfold Oper.wp execOp
  simp only [ho,resolve,invoke,builtin,Sem.run_bind,Sem.run_pure,Result.andThen_ok,List.map_toArray,List.map_cons,List.map_nil,hs,hx,hrun]
  exact hK2 _ _ (hK v' w' h1 h3 h4)

theorem cloneM_any (v:Value) (xs:List (List UInt8)) (w:World) (hC:(sliceR bytesR []).R (·<w.heap.size) w v xs) (hlen:xs.length≤1000) :
 Calls Tryz.prog 143 #[v] w fun e w'=>∃ u,e = .returned u∧RowG bytesR 32 [] (·<w.heap.size) w' w.heap.size u xs∧Below w.heap.size w w':=by
 have hq:∀ (W:World) (a:Option Addr) (n c:Nat),(binOp .eql 58 (.slice a n c) (.slice none 0 0)).run Tryz.prog W = .ok (.bool a.isNone) W:=fun W a n c=>Lib.run_eql_slice_nil W _ _ a n c 0 0 Tryz.underlying58
 obtain ⟨A,cap,rfl,hcap,hA⟩:=id hC
 have hq2:=hq w A xs.length cap
 cases A with
 | none =>
   have hn:xs = []:=by
    rcases Nat.eq_zero_or_pos xs.length with h0 | h0
    · exact List.eq_nil_of_length_eq_zero h0
    · obtain ⟨b,off,h,_⟩:=hA h0
      cases h
   subst hn
   clear hC hA hq2
   go_enter Tryz.func143,Tryz.ntmps143
   go_wp2
   go_ret
   exact ⟨_,rfl,RowG.nil _ _ _ _ _ _,Below.refl _ _⟩
 | some x =>
   obtain ⟨W1,hW1⟩:∃ W1,w.alloc (.cells #[] 32)=W1:=⟨_,rfl⟩
   have hB1:Below w.heap.size w W1:=by rw [←hW1];exact below_one w _
   have s1:W1.heap.size=w.heap.size+1:=by rw [←hW1];simp
   have hb:Blk W1 w.heap.size 32 #[]:=by rw [←hW1];exact Blk.new w _ _
   have HO:Hid (RowG bytesR 32 [] (·<w.heap.size) W1 w.heap.size (.slice (some ⟨w.heap.size,0,none⟩) 0 0) []):=RowG.empty _ _ _ _ hb (Nat.le_refl _)
   have HX:Hid (SliceP bytesR [] (fun b=>b<W1.heap.size∧some b≠(Value.slice (some ⟨w.heap.size,0,none⟩) 0 0).ownBlock∧b<w.heap.size) W1 (.slice (some x) xs.length cap) xs):=SliceP.imp (SliceP.keep hC fun b hb=>hB1.block b hb) fun b hb=>⟨by omega,by intro e;injection e with e;have:b=w.heap.size:=e;omega,hb⟩
   have HL:=Lib.hid hlen
   clear hC hlen hq2 hb hA
   generalize hN:xs.length=N at *
   have HN:=Lib.hid hN
   clear hN
   go_enter Tryz.func143,Tryz.ntmps143
   go_wp2_with (at_builtin;refine wpList_appGM _ rfl _ _ rfl Tryz.underlying58 [] xs rfl HO.out rfl HX.out (fun A cap e hA=>by rw [hA] at e;cases e) (by simp) (by rw [HN.out];exact Nat.le_trans HL.out (by omega)) (by omega) ?_;intro v' w2 hrow hgr _)
   go_ret
   rw [List.nil_append] at hrow
   exact ⟨_,rfl,hrow,below_grown hB1 hgr (by omega) (fun k e=>by cases e;exact Nat.le_refl _)⟩

theorem cloneC_any (v:Value) (xs:List (List (List UInt8))) (w:World) (hC:(sliceR manyR []).R (·<w.heap.size) w v xs) (hlen:xs.length≤1000) :
 Calls Tryz.prog 142 #[v] w fun e w'=>∃ u,e = .returned u∧RowG manyR 58 [] (·<w.heap.size) w' w.heap.size u xs∧Below w.heap.size w w':=by
 have hq:∀ (W:World) (a:Option Addr) (n c:Nat),(binOp .eql 74 (.slice a n c) (.slice none 0 0)).run Tryz.prog W = .ok (.bool a.isNone) W:=fun W a n c=>Lib.run_eql_slice_nil W _ _ a n c 0 0 Tryz.underlying74
 obtain ⟨A,cap,rfl,hcap,hA⟩:=id hC
 have hq2:=hq w A xs.length cap
 cases A with
 | none =>
   have hn:xs = []:=by
    rcases Nat.eq_zero_or_pos xs.length with h0 | h0
    · exact List.eq_nil_of_length_eq_zero h0
    · obtain ⟨b,off,h,_⟩:=hA h0
      cases h
   subst hn
   clear hC hA hq2
   go_enter Tryz.func142,Tryz.ntmps142
   go_wp2
   go_ret
   exact ⟨_,rfl,RowG.nil _ _ _ _ _ _,Below.refl _ _⟩
 | some x =>
   obtain ⟨W1,hW1⟩:∃ W1,w.alloc (.cells #[] 58)=W1:=⟨_,rfl⟩
   have hB1:Below w.heap.size w W1:=by rw [←hW1];exact below_one w _
   have s1:W1.heap.size=w.heap.size+1:=by rw [←hW1];simp
   have hb:Blk W1 w.heap.size 58 #[]:=by rw [←hW1];exact Blk.new w _ _
   have HO:Hid (RowG manyR 58 [] (·<w.heap.size) W1 w.heap.size (.slice (some ⟨w.heap.size,0,none⟩) 0 0) []):=RowG.empty _ _ _ _ hb (Nat.le_refl _)
   have HX:Hid (SliceP manyR [] (fun b=>b<W1.heap.size∧some b≠(Value.slice (some ⟨w.heap.size,0,none⟩) 0 0).ownBlock∧b<w.heap.size) W1 (.slice (some x) xs.length cap) xs):=SliceP.imp (SliceP.keep hC fun b hb=>hB1.block b hb) fun b hb=>⟨by omega,by intro e;injection e with e;have:b=w.heap.size:=e;omega,hb⟩
   have HL:=Lib.hid hlen
   clear hC hlen hq2 hb hA
   generalize hN:xs.length=N at *
   have HN:=Lib.hid hN
   clear hN
   go_enter Tryz.func142,Tryz.ntmps142
   go_wp2_with (at_builtin;refine wpList_appGC _ rfl _ _ rfl Tryz.underlying74 [] xs rfl HO.out rfl HX.out (fun A cap e hA=>by rw [hA] at e;cases e) (by simp) (by rw [HN.out];exact Nat.le_trans HL.out (by omega)) (by omega) ?_;intro v' w2 hrow hgr _)
   go_ret
   rw [List.nil_append] at hrow
   exact ⟨_,rfl,hrow,below_grown hB1 hgr (by omega) (fun k e=>by cases e;exact Nat.le_refl _)⟩

theorem eachM_any (fn:Nat) (hent:∀ args W,(callFunc fn args).run Tryz.prog W = .ok (.enter fn args) W) (v:Value) (xs:List (List UInt8)) (w:World) (hC:(sliceR bytesR []).R (·<w.heap.size) w v xs) (hlen:xs.length≤1000)
 (hfn:∀ (j:Nat) (u:Value) (W:World),w.heap.size≤W.heap.size→bytesR.R (·<w.heap.size) W u (xs[j]?.getD [])→Calls Tryz.prog fn #[u] W fun e w'=>∃ A n c,e = .returned (.slice A n c)∧bytesR.R (fun b=>W.heap.size≤b∧b<w'.heap.size) w' (.slice A n c) (xs[j]?.getD [])∧Below W.heap.size W w') :
 Calls Tryz.prog 108 #[v,.func (.func fn) #[] #[]] w fun e w'=>∃ u,e = .returned u∧SepP bytesR 32 [] (fun b=>w.heap.size≤b∧b<w'.heap.size) w' u xs∧Below w.heap.size w w':=by
 have HCL:=Lib.hid (cloneM_any v xs w hC hlen)
 obtain ⟨Av,capv,rfl,hcv,hAv⟩:=id hC
 have HFN:=Lib.hid hfn
 clear hC hAv hfn
 obtain ⟨N,hN⟩:∃ N,xs.length=N:=⟨_,rfl⟩
 have HN:=Lib.hid hN
 rw [hN] at hlen hcv HCL ⊢
 clear hN
 go_enter Tryz.func108,Tryz.ntmps108
 go_wp2_with (go_at_call 143;refine HCL.out.mono ?_;rintro e w1 ⟨u,rfl,hrow,hB1⟩;obtain ⟨us,ho,hul,hus⟩:=hrow;obtain ⟨Au,capu,rfl⟩:∃ Au capu,u = .slice Au N capu:=(by rcases ho.2 with ⟨e1,e2⟩ | ⟨g,cap,cur,e1,_⟩;exact ⟨none,0,by rw [e1,←HN.out,←hul,e2]⟩;exact ⟨_,cap,by rw [e1,hul,HN.out]⟩))
 have HN2:Hid (us.length=N):=by unfold Hid;rw [hul];exact HN.out
 have HU:=Lib.hid hus
 clear hus hul
 rcases Nat.eq_zero_or_pos N with h0 | h0
 · subst h0
   go_wp2_with fail
   go_loopw [12] (fun i wr=>i = .int .i64 0∧wr=w1) (fun i _=>0)
   case atStart=>exact ⟨rfl,rfl⟩
   case round =>
    obtain ⟨rfl,rfl⟩:=hrel
    have hdec:decide ((0:Int)<((0:Nat):Int))=false:=by simp
    go_wp2
    go_ret
    refine ⟨_,rfl,⟨Au,capu,by rw [HN.out];rfl,by rw [HN.out];exact Nat.zero_le _,fun h=>by rw [HN.out] at h;omega⟩,hB1⟩
 have hblk:∃ g cs,Au=some ⟨g,0,none⟩∧w.heap.size≤g∧g<w1.heap.size∧Blk w1 g 32 cs∧N≤cs.size∧N≤capu∧∀ j,j<N→∃ u,cs[j]?=some u∧bytesR.R (fun b=>b<w1.heap.size∧some b≠(Value.slice Au N capu).ownBlock∧b<w.heap.size) w1 u (xs[j]?.getD []):=by
  rcases ho.2 with ⟨e1,e2⟩ | ⟨g,cap,cur,e1,hge,hblk,hncap,_,hsz,htk⟩
  · injection e1 with _ e3 _;omega
  · injection e1 with e3 e4 e5
    subst e5
    have hl2:=HN2.out
    refine ⟨g,cur,e3,hge,Blk.lt hblk,hblk,by omega,by omega,fun j hj=>?_⟩
    have h3:=HU.out j (us[j]'(by omega)) (List.getElem?_eq_getElem _)
    refine ⟨_,?_,h3⟩
    rw [←Array.getElem?_toList]
    have h4:us[j]?=(cur.toList.take (us.length * 1))[j]?:=by rw [htk]
    rw [List.getElem?_take_of_lt (by omega),List.getElem?_eq_getElem (by omega)] at h4
    exact h4.symm
 obtain ⟨g,cs0,rfl,hge,hgl,hblk,hsz,hncap,hel⟩:=hblk
 have HEL:Hid (∀ j,j<N→∃ u,cs0[j]?=some u∧bytesR.R (·<w.heap.size) w1 u (xs[j]?.getD [])):=fun j hj=>by
  obtain ⟨u,h1,h2⟩:=hel j hj
  exact ⟨u,h1,bytesR.imp h2 fun b hb=>hb.2.2⟩
 clear hel ho HU HN2
 go_wp2_with fail
 go_loopw [12] (fun i wr=>∃ (k:Nat) (cs:Array Value) (Z:Nat→Nat→Prop),k≤N∧i = .int .i64 k∧Blk wr g 32 cs∧cs.size=cs0.size∧Hid (∀ j,k≤j→cs[j]?=cs0[j]?) ∧
  Hid ((∀ i j c,Z i c→Z j c→i=j)∧(∀ j c,Z j c→j<k∧g<c∧c<wr.heap.size)∧∀ j,j<k→∃ u,cs[j]?=some u∧bytesR.R (Z j) wr u (xs[j]?.getD []))∧Hid (Below w.heap.size w1 wr)∧Hid (w1.heap.size≤wr.heap.size)) (fun i _=>N - (intOf i).toNat)
 case atStart=>exact ⟨0,cs0,fun _ _=>False,by omega,rfl,hblk,rfl,Lib.hid (fun _ _=>rfl),Lib.hid ⟨fun _ _ _ h=>absurd h id,fun _ _ h=>absurd h id,fun j hj=>absurd hj (by omega)⟩,Lib.hid (Below.refl _ _),Lib.hid (Nat.le_refl _)⟩
 case round =>
  obtain ⟨k,cs,Z,hk,rfl,bA,hbz,HOLD,HJ,HB,HSZ⟩:=hrel
  by_cases hlt:k<N
  · have hdec:decide ((k:Int)<(N:Int))=true:=by simp;omega
    obtain ⟨u0,hu0,hr0⟩:=HEL.out k hlt
    have hr1:=bytesR.keep hr0 fun b hb=>HB.out.block b hb
    have hcall:=HFN.out k u0 wr (by have:=hB1.size;have:=HSZ.out;omega) hr1
    obtain ⟨Au0,nu0,cu0,rfl⟩:∃ A n c,u0 = .slice A n c:=by obtain ⟨A,c,e,_⟩:=hr0;exact ⟨A,_,c,e⟩
    have cv:wr.cell? ⟨g,k,none⟩=some (.slice Au0 nu0 cu0):=by rw [bA.cell k,HOLD.out k (Nat.le_refl _)];exact hu0
    have i1:(0:Int)≤(k:Int):=by omega
    have i2:(k:Int)<(N:Int):=by omega
    clear hu0 hr0 hr1 hblk
    go_wp2_with fail
    refine hcall.mono ?_
    rintro e w4 ⟨Au,nu,capu2,rfl,hu,hB4⟩
    have bA4:=bA.below hB4 bA.lt
    have c0:=bA4.cell k
    rw [Array.getElem?_eq_getElem (show k<cs.size by omega)] at c0
    have f0:=bA4.frozen k
    have hgw:=bA.lt
    have hs4:=hB4.size
    have HST:Hid (∀ V,V=w4.setCell ⟨g,k,none⟩ (.slice Au nu capu2) →
     Blk V g 32 (cs.setIfInBounds k (.slice Au nu capu2))∧Below w.heap.size w1 V∧w1.heap.size≤V.heap.size∧(∀ j,k+1≤j→(cs.setIfInBounds k (.slice Au nu capu2))[j]?=cs0[j]?) ∧
     ∃ Z':Nat→Nat→Prop,(∀ i j c,Z' i c→Z' j c→i=j)∧(∀ j c,Z' j c→j<k+1∧g<c∧c<V.heap.size)∧∀ j,j<k+1→∃ u,(cs.setIfInBounds k (.slice Au nu capu2))[j]?=some u∧bytesR.R (Z' j) V u (xs[j]?.getD [])):=fun V hV=>by
     have hVs:V.heap.size=w4.heap.size:=by rw [hV];simp
     have hKe:Keeps (fun b=>b≠g) w4 V:=fun b hb=>by rw [hV];exact Below.heap_setCell w4 _ _ b (by simpa using hb)
     obtain ⟨z1,z2,z3⟩:=HJ.out
     have hszr:=HSZ.out
     refine ⟨by rw [hV];exact bA4.set_ k _,by rw [hV];exact (HB.out.trans (hB4.mono (by have:=hB1.size;omega))).setCell hge _,by omega,fun j hj=>by rw [Array.getElem?_setIfInBounds_ne (by omega)];exact HOLD.out j (by omega),fun j c=>(j=k∧wr.heap.size≤c∧c<w4.heap.size)∨(j≠k∧Z j c),?_,?_,fun j hj=>?_⟩
     · rintro i j c (⟨rfl,h1,h2⟩ | ⟨h1,h2⟩) (⟨rfl,h3,h4⟩ | ⟨h3,h4⟩)
       · rfl
       · have:=(z2 j c h4).2.2;omega
       · have:=(z2 i c h2).2.2;omega
       · exact z1 i j c h2 h4
     · rintro j c (⟨rfl,h1,h2⟩ | ⟨h1,h2⟩)
       · exact ⟨by omega,by omega,by omega⟩
       · have:=z2 j c h2;exact ⟨by omega,by omega,by omega⟩
     · by_cases hjk:j=k
       · subst hjk
         refine ⟨_,Array.getElem?_setIfInBounds_self_of_lt (by omega),?_⟩
         exact bytesR.imp (bytesR.keep hu fun b hb=>hKe b (by omega)) fun b hb=>.inl ⟨rfl,hb⟩
       · obtain ⟨u1,h1,h2⟩:=z3 j (by omega)
         refine ⟨u1,by rw [Array.getElem?_setIfInBounds_ne (by omega)];exact h1,?_⟩
         refine bytesR.imp (bytesR.keep (bytesR.keep h2 fun b hb=>hB4.block b (z2 j b hb).2.2) fun b hb=>hKe b (by have:=(z2 j b hb).2.1;omega)) fun b hb=>.inr ⟨hjk,hb⟩
    generalize cs[k]'_=o0 at c0
    clear hu hcall hB4 HJ HOLD HB
    go_wp2
    go_roundw
    case rel =>
     obtain ⟨g1,g2,g3,g4,Z',g5⟩:=HST.out _ rfl
     exact ⟨k+1,_,Z',hlt,by go_num,g1,by simpa using hbz,Lib.hid g4,Lib.hid g5,Lib.hid g2,Lib.hid g3⟩
    case measure=>simp [intOf];omega
  · obtain rfl:k=N:=by omega
    have hdec:decide ((k:Int)<(k:Int))=false:=by simp
    clear hblk
    go_wp2
    go_ret
    obtain ⟨z1,z2,z3⟩:=HJ.out
    refine ⟨_,rfl,⟨some ⟨g,0,none⟩,capu,by rw [HN.out];rfl,by rw [HN.out];exact hncap,fun _=>⟨g,cs,rfl,⟨hge,bA.lt⟩,bA,Z,z1,fun j c hz=>⟨⟨by have:=(z2 j c hz).2.1;omega,(z2 j c hz).2.2⟩,by have:=(z2 j c hz).2.1;omega⟩,fun j hj=>z3 j (by rw [←HN.out];exact hj)⟩⟩,hB1.trans HB.out⟩

theorem eachC_any (fn:Nat) (hent:∀ args W,(callFunc fn args).run Tryz.prog W = .ok (.enter fn args) W) (v:Value) (xs:List (List (List UInt8))) (w:World) (hC:(sliceR manyR []).R (·<w.heap.size) w v xs) (hlen:xs.length≤1000)
 (hfn:∀ (j:Nat) (u:Value) (W:World),w.heap.size≤W.heap.size→manyR.R (·<w.heap.size) W u (xs[j]?.getD [])→Calls Tryz.prog fn #[u] W fun e w'=>∃ A n c,e = .returned (.slice A n c)∧sepM.R (fun b=>W.heap.size≤b∧b<w'.heap.size) w' (.slice A n c) (xs[j]?.getD [])∧Below W.heap.size W w') :
 Calls Tryz.prog 106 #[v,.func (.func fn) #[] #[]] w fun e w'=>∃ u,e = .returned u∧SepP sepM 58 [] (fun b=>w.heap.size≤b∧b<w'.heap.size) w' u xs∧Below w.heap.size w w':=by
 have HCL:=Lib.hid (cloneC_any v xs w hC hlen)
 obtain ⟨Av,capv,rfl,hcv,hAv⟩:=id hC
 have HFN:=Lib.hid hfn
 clear hC hAv hfn
 obtain ⟨N,hN⟩:∃ N,xs.length=N:=⟨_,rfl⟩
 have HN:=Lib.hid hN
 rw [hN] at hlen hcv HCL ⊢
 clear hN
 go_enter Tryz.func106,Tryz.ntmps106
 go_wp2_with (go_at_call 142;refine HCL.out.mono ?_;rintro e w1 ⟨u,rfl,hrow,hB1⟩;obtain ⟨us,ho,hul,hus⟩:=hrow;obtain ⟨Au,capu,rfl⟩:∃ Au capu,u = .slice Au N capu:=(by rcases ho.2 with ⟨e1,e2⟩ | ⟨g,cap,cur,e1,_⟩;exact ⟨none,0,by rw [e1,←HN.out,←hul,e2]⟩;exact ⟨_,cap,by rw [e1,hul,HN.out]⟩))
 have HN2:Hid (us.length=N):=by unfold Hid;rw [hul];exact HN.out
 have HU:=Lib.hid hus
 clear hus hul
 rcases Nat.eq_zero_or_pos N with h0 | h0
 · subst h0
   go_wp2_with fail
   go_loopw [12] (fun i wr=>i = .int .i64 0∧wr=w1) (fun i _=>0)
   case atStart=>exact ⟨rfl,rfl⟩
   case round =>
    obtain ⟨rfl,rfl⟩:=hrel
    have hdec:decide ((0:Int)<((0:Nat):Int))=false:=by simp
    go_wp2
    go_ret
    refine ⟨_,rfl,⟨Au,capu,by rw [HN.out];rfl,by rw [HN.out];exact Nat.zero_le _,fun h=>by rw [HN.out] at h;omega⟩,hB1⟩
 have hblk:∃ g cs,Au=some ⟨g,0,none⟩∧w.heap.size≤g∧g<w1.heap.size∧Blk w1 g 58 cs∧N≤cs.size∧N≤capu∧∀ j,j<N→∃ u,cs[j]?=some u∧manyR.R (fun b=>b<w1.heap.size∧some b≠(Value.slice Au N capu).ownBlock∧b<w.heap.size) w1 u (xs[j]?.getD []):=by
  rcases ho.2 with ⟨e1,e2⟩ | ⟨g,cap,cur,e1,hge,hblk,hncap,_,hsz,htk⟩
  · injection e1 with _ e3 _;omega
  · injection e1 with e3 e4 e5
    subst e5
    have hl2:=HN2.out
    refine ⟨g,cur,e3,hge,Blk.lt hblk,hblk,by omega,by omega,fun j hj=>?_⟩
    have h3:=HU.out j (us[j]'(by omega)) (List.getElem?_eq_getElem _)
    refine ⟨_,?_,h3⟩
    rw [←Array.getElem?_toList]
    have h4:us[j]?=(cur.toList.take (us.length * 1))[j]?:=by rw [htk]
    rw [List.getElem?_take_of_lt (by omega),List.getElem?_eq_getElem (by omega)] at h4
    exact h4.symm
 obtain ⟨g,cs0,rfl,hge,hgl,hblk,hsz,hncap,hel⟩:=hblk
 have HEL:Hid (∀ j,j<N→∃ u,cs0[j]?=some u∧manyR.R (·<w.heap.size) w1 u (xs[j]?.getD [])):=fun j hj=>by
  obtain ⟨u,h1,h2⟩:=hel j hj
  exact ⟨u,h1,manyR.imp h2 fun b hb=>hb.2.2⟩
 clear hel ho HU HN2
 go_wp2_with fail
 go_loopw [12] (fun i wr=>∃ (k:Nat) (cs:Array Value) (Z:Nat→Nat→Prop),k≤N∧i = .int .i64 k∧Blk wr g 58 cs∧cs.size=cs0.size∧Hid (∀ j,k≤j→cs[j]?=cs0[j]?) ∧
  Hid ((∀ i j c,Z i c→Z j c→i=j)∧(∀ j c,Z j c→j<k∧g<c∧c<wr.heap.size)∧∀ j,j<k→∃ u,cs[j]?=some u∧sepM.R (Z j) wr u (xs[j]?.getD []))∧Hid (Below w.heap.size w1 wr)∧Hid (w1.heap.size≤wr.heap.size)) (fun i _=>N - (intOf i).toNat)
 case atStart=>exact ⟨0,cs0,fun _ _=>False,by omega,rfl,hblk,rfl,Lib.hid (fun _ _=>rfl),Lib.hid ⟨fun _ _ _ h=>absurd h id,fun _ _ h=>absurd h id,fun j hj=>absurd hj (by omega)⟩,Lib.hid (Below.refl _ _),Lib.hid (Nat.le_refl _)⟩
 case round =>
  obtain ⟨k,cs,Z,hk,rfl,bA,hbz,HOLD,HJ,HB,HSZ⟩:=hrel
  by_cases hlt:k<N
  · have hdec:decide ((k:Int)<(N:Int))=true:=by simp;omega
    obtain ⟨u0,hu0,hr0⟩:=HEL.out k hlt
    have hr1:=manyR.keep hr0 fun b hb=>HB.out.block b hb
    have hcall:=HFN.out k u0 wr (by have:=hB1.size;have:=HSZ.out;omega) hr1
    obtain ⟨Au0,nu0,cu0,rfl⟩:∃ A n c,u0 = .slice A n c:=by obtain ⟨A,c,e,_⟩:=hr0;exact ⟨A,_,c,e⟩
    have cv:wr.cell? ⟨g,k,none⟩=some (.slice Au0 nu0 cu0):=by rw [bA.cell k,HOLD.out k (Nat.le_refl _)];exact hu0
    have i1:(0:Int)≤(k:Int):=by omega
    have i2:(k:Int)<(N:Int):=by omega
    clear hu0 hr0 hr1 hblk
    go_wp2_with fail
    refine hcall.mono ?_
    rintro e w4 ⟨Au,nu,capu2,rfl,hu,hB4⟩
    have bA4:=bA.below hB4 bA.lt
    have c0:=bA4.cell k
    rw [Array.getElem?_eq_getElem (show k<cs.size by omega)] at c0
    have f0:=bA4.frozen k
    have hgw:=bA.lt
    have hs4:=hB4.size
    have HST:Hid (∀ V,V=w4.setCell ⟨g,k,none⟩ (.slice Au nu capu2) →
     Blk V g 58 (cs.setIfInBounds k (.slice Au nu capu2))∧Below w.heap.size w1 V∧w1.heap.size≤V.heap.size∧(∀ j,k+1≤j→(cs.setIfInBounds k (.slice Au nu capu2))[j]?=cs0[j]?) ∧
     ∃ Z':Nat→Nat→Prop,(∀ i j c,Z' i c→Z' j c→i=j)∧(∀ j c,Z' j c→j<k+1∧g<c∧c<V.heap.size)∧∀ j,j<k+1→∃ u,(cs.setIfInBounds k (.slice Au nu capu2))[j]?=some u∧sepM.R (Z' j) V u (xs[j]?.getD [])):=fun V hV=>by
     have hVs:V.heap.size=w4.heap.size:=by rw [hV];simp
     have hKe:Keeps (fun b=>b≠g) w4 V:=fun b hb=>by rw [hV];exact Below.heap_setCell w4 _ _ b (by simpa using hb)
     obtain ⟨z1,z2,z3⟩:=HJ.out
     have hszr:=HSZ.out
     refine ⟨by rw [hV];exact bA4.set_ k _,by rw [hV];exact (HB.out.trans (hB4.mono (by have:=hB1.size;omega))).setCell hge _,by omega,fun j hj=>by rw [Array.getElem?_setIfInBounds_ne (by omega)];exact HOLD.out j (by omega),fun j c=>(j=k∧wr.heap.size≤c∧c<w4.heap.size)∨(j≠k∧Z j c),?_,?_,fun j hj=>?_⟩
     · rintro i j c (⟨rfl,h1,h2⟩ | ⟨h1,h2⟩) (⟨rfl,h3,h4⟩ | ⟨h3,h4⟩)
       · rfl
       · have:=(z2 j c h4).2.2;omega
       · have:=(z2 i c h2).2.2;omega
       · exact z1 i j c h2 h4
     · rintro j c (⟨rfl,h1,h2⟩ | ⟨h1,h2⟩)
       · exact ⟨by omega,by omega,by omega⟩
       · have:=z2 j c h2;exact ⟨by omega,by omega,by omega⟩
     · by_cases hjk:j=k
       · subst hjk
         refine ⟨_,Array.getElem?_setIfInBounds_self_of_lt (by omega),?_⟩
         exact sepM.imp (sepM.keep hu fun b hb=>hKe b (by omega)) fun b hb=>.inl ⟨rfl,hb⟩
       · obtain ⟨u1,h1,h2⟩:=z3 j (by omega)
         refine ⟨u1,by rw [Array.getElem?_setIfInBounds_ne (by omega)];exact h1,?_⟩
         refine sepM.imp (sepM.keep (sepM.keep h2 fun b hb=>hB4.block b (z2 j b hb).2.2) fun b hb=>hKe b (by have:=(z2 j b hb).2.1;omega)) fun b hb=>.inr ⟨hjk,hb⟩
    generalize cs[k]'_=o0 at c0
    clear hu hcall hB4 HJ HOLD HB
    go_wp2
    go_roundw
    case rel =>
     obtain ⟨g1,g2,g3,g4,Z',g5⟩:=HST.out _ rfl
     exact ⟨k+1,_,Z',hlt,by go_num,g1,by simpa using hbz,Lib.hid g4,Lib.hid g5,Lib.hid g2,Lib.hid g3⟩
    case measure=>simp [intOf];omega
  · obtain rfl:k=N:=by omega
    have hdec:decide ((k:Int)<(k:Int))=false:=by simp
    clear hblk
    go_wp2
    go_ret
    obtain ⟨z1,z2,z3⟩:=HJ.out
    refine ⟨_,rfl,⟨some ⟨g,0,none⟩,capu,by rw [HN.out];rfl,by rw [HN.out];exact hncap,fun _=>⟨g,cs,rfl,⟨hge,bA.lt⟩,bA,Z,z1,fun j c hz=>⟨⟨by have:=(z2 j c hz).2.1;omega,(z2 j c hz).2.2⟩,by have:=(z2 j c hz).2.1;omega⟩,fun j hj=>z3 j (by rw [←HN.out];exact hj)⟩⟩,hB1.trans HB.out⟩

theorem enter_bclone:∀ args W,(callFunc 109 args).run Tryz.prog W = .ok (.enter 109 args) W:=enters_of Tryz.func109 (by kernel_rfl) rfl
theorem enter_copied1:∀ args W,(callFunc 107 args).run Tryz.prog W = .ok (.enter 107 args) W:=enters_of Tryz.func107 (by kernel_rfl) rfl
theorem bclone_any (N:Nat) (u:Value) (l:List UInt8) (hl:l.length≤1000) (W:World) (hN:N≤W.heap.size) (h:BytesP (·<N) W u l) :
 Calls Tryz.prog 109 #[u] W fun e w'=>∃ A n c,e = .returned (.slice A n c)∧bytesR.R (fun b=>W.heap.size≤b∧b<w'.heap.size) w' (.slice A n c) l∧Below W.heap.size W w':=by
 refine (clone_any u l (by omega) W (Bytes.more (h:Bytes N W u l) hN)).mono ?_
 rintro e w' ⟨v',rfl,hF,hB⟩
 obtain ⟨A,c,rfl,h1,h2⟩:=id hF
 exact ⟨A,_,c,rfl,Fresh.toP hF,hB⟩
theorem copied1_any (N:Nat) (v:Value) (ls:List (List UInt8)) (w:World) (hN:N≤w.heap.size) (hC:manyR.R (·<N) w v ls) (hlen:ls.length≤1000) (hcl:∀ j:Nat,(ls[j]?.getD []).length≤1000) :
 Calls Tryz.prog 107 #[v] w fun e w'=>∃ A n c,e = .returned (.slice A n c)∧sepM.R (fun b=>w.heap.size≤b∧b<w'.heap.size) w' (.slice A n c) ls∧Below w.heap.size w w':=by
 have HE:=Lib.hid (eachM_any 109 enter_bclone v ls w (SliceP.imp hC fun b hb=>by omega) hlen fun j u W hW h=>bclone_any w.heap.size u _ (hcl j) W hW h)
 obtain ⟨A,cap,rfl,_,_⟩:=id hC
 clear hC hlen hcl
 generalize ls.length=n at *
 go_enter Tryz.func107,Tryz.ntmps107
 go_wp2_with (go_at_call 108;refine HE.out.mono ?_;rintro e w1 ⟨u,rfl,hu,hB1⟩;obtain ⟨A2,c2,e2,h2⟩:=id hu;subst e2)
 go_ret
 exact ⟨_,_,_,rfl,hu,hB1⟩
theorem copied_any (N:Nat) (v:Value) (css:List (List (List UInt8))) (w:World) (hN:N≤w.heap.size) (hC:Cols N w v css) (hlen:css.length≤1000) (hcl:∀ j i:Nat,(css[j]?.getD []).length≤1000∧((css[j]?.getD [])[i]?.getD []).length≤1000) :
 Calls Tryz.prog 65 #[v] w fun e w'=>∃ A c,e = .returned (.slice A css.length c)∧sepC.R (fun b=>w.heap.size≤b∧b<w'.heap.size) w' (.slice A css.length c) css∧Below w.heap.size w w':=by
 have HE:=Lib.hid (eachC_any 107 enter_copied1 v css w (SliceP.imp hC fun b hb=>by have:b<N:=hb;omega) hlen fun j u W hW h=>copied1_any w.heap.size u _ W hW h (hcl j 0).1 fun i=>(hcl j i).2)
 obtain ⟨A,cap,rfl,_,_⟩:=id hC
 clear hC hlen hcl
 obtain ⟨n,hn⟩:∃ n,css.length=n:=⟨_,rfl⟩
 have HN:=Lib.hid hn
 rw [hn]
 clear hn
 go_enter Tryz.func65,Tryz.ntmps65
 go_wp2_with (go_at_call 106;rw [←HN.out];refine HE.out.mono ?_;rintro e w1 ⟨u,rfl,hu,hB1⟩;obtain ⟨A2,c2,e2,h2⟩:=id hu;rw [HN.out] at e2;subst e2)
 go_ret
 exact ⟨_,_,rfl,hu,hB1⟩
end Go.Proofs.YtknkdbincaonbaaGreatDoor.Cd

namespace Go.Proofs.YtknkdbincaonbaaGreatDoor.T
open Go.RowKit Go.Shelf Go.Proofs.YtknkdbincaonbaaGreatDoor.C Go.Proofs.YtknkdbincaonbaaGreatDoor.E

theorem need_yes (w:World):Calls Tryz.prog 235 #[.bool true] w fun e w'=>e = .returned (.tuple #[])∧w=w':=by
 go_enter Tryz.func235,Tryz.ntmps235
 go_wp2
 go_end0
 exact ⟨rfl,rfl⟩
theorem need_no (w:World):Calls Tryz.prog 235 #[.bool false] w fun e w'=>e = .panicked gaveUp∧w=w':=by
 go_enter Tryz.func235,Tryz.ntmps235
 go_wp2
 exact ⟨rfl,rfl,rfl⟩
theorem sureB (v:Value) (w:World):Calls Tryz.prog 287 #[v,.int .i64 0] w fun e w'=>e = .returned v∧w=w':=by
 go_enter Tryz.func287,Tryz.ntmps287
 go_wp2
 go_ret
 exact ⟨rfl,rfl⟩
theorem sureS (v:Value) (w:World):Calls Tryz.prog 237 #[v,.int .i64 0] w fun e w'=>e = .returned v∧w=w':=by
 go_enter Tryz.func237,Tryz.ntmps237
 go_wp2
 go_ret
 exact ⟨rfl,rfl⟩
theorem sureI (n:Int) (w:World):Calls Tryz.prog 236 #[.int .i64 n,.int .i64 0] w fun e w'=>e = .returned (.int .i64 n)∧w=w':=by
 go_enter Tryz.func236,Tryz.ntmps236
 go_wp2
 go_ret
 exact ⟨rfl,rfl⟩
theorem sureI_no (n:Int) (w:World):Calls Tryz.prog 236 #[.int .i64 n,.int .i64 2] w fun e w'=>e = .panicked gaveUp∧w=w':=by
 go_enter Tryz.func236,Tryz.ntmps236
 go_wp2
 exact ⟨rfl,rfl,rfl⟩

theorem idle_S (p:Addr) (w:World) :
 CallsD Tryz.prog 234 #[.pointer (some p)] .returning w fun e u' w'=>e = .returned (.tuple #[])∧u' = .returning∧w'=w:=by
 have hta:=assert_errno
 refine callsD_of_wpS Tryz.func234 rfl fun c₀ cs hu=>?_
 simp only [Tryz.ntmps234,List.size_toArray,List.length_cons,List.length_nil,Nat.reduceAdd,Nat.reduceSub,Array.replicate_succ,Array.replicate_zero,List.push_toArray,List.append_toArray,List.nil_append,List.cons_append]
 apply wpS_seq
 apply wpS_region
 simp [wpOpsS,go_sem,recoverD,hu,Exit.thenS]
 all_goals (refine wpS_of_wp ?_;go_wp2;cases c₀;simp_all [bodyPostS,results,Tryz.results234])
theorem ans_S_yes (f:Nat) (caps:Array Value) (w:World) (Post:Value→World→Prop) (hent:∀ W,(callFunc f caps).run Tryz.prog W = .ok (.enter f caps) W)
 (h:∀ W,Below w.heap.size w W→Blk W w.heap.size 29 #[.int .i64 0]→Calls Tryz.prog f caps W fun e w'=>∃ v,e = .returned v∧Post v w'∧Below W.heap.size W w') :
 Calls Tryz.prog 196 #[.func (.func f) #[] caps] w fun e w'=>∃ v W,e = .returned (.tuple #[v,.int .i64 0])∧Post v W∧Blk W w.heap.size 29 #[.int .i64 0]∧w'=W.setCell ⟨w.heap.size,0,none⟩ (.int .i64 0)∧Below w.heap.size w w':=by
 have hmf:∀ (fn:Fn) (first cap:Array Value) (w:World),(Instr.makeFunc fn first cap).run Tryz.prog w = .ok (.func fn first cap) w:=fun _ _ _ _=>rfl
 have h1:=h (w.alloc (.cells #[.int .i64 0] 29)) ((Below.refl _ w).alloc (Nat.le_refl _) _) (Blk.new w _ _)
 clear h
 go_enter_defers Tryz.func196,Tryz.ntmps196
 go_wp2
 refine h1.mono ?_
 rintro e w1 ⟨v,rfl,hv,hB1⟩
 have b1:Blk w1 w.heap.size 29 #[.int .i64 0]:=(Blk.new w _ _).below hB1 (by simp)
 have c1:=b1.cell 0
 have f1:=b1.frozen 0
 simp only [List.getElem?_toArray,List.getElem?_cons_zero] at c1
 go_wp2
 refine leaves_cons (f:=234) (args:=#[.pointer (some ⟨w.heap.size,0,none⟩)]) (by simp) (by simp [go_sem]) ?_
 refine (idle_S ⟨w.heap.size,0,none⟩ _).mono ?_
 rintro e u' w'' ⟨rfl,rfl,rfl⟩
 have c2:(w1.setCell ⟨w.heap.size,0,none⟩ (.int .i64 0)).cell? ⟨w.heap.size,0,none⟩=some (.int .i64 0):=World.cell?_setCell_same' _ _ _ (by rw [c1];rfl)
 simp [Go.Leaves,settle,results,Tryz.results196,go_sem,c2]
 exact ⟨w1,hv,b1,rfl,(((Below.refl _ w).alloc (Nat.le_refl _) _).trans (hB1.mono (by simp))).setCell (Nat.le_refl _) _⟩
def Many3 (fn:Nat) (p:Int) (ok:Prop) (n:Int):Prop:=(∀ args W,(callFunc fn args).run Tryz.prog W = .ok (.enter fn args) W) ∧
 ∀ W,Laid W→Calls Tryz.prog fn #[.agg #[.int .i64 3,.int .i64 p]] W (Tells ok n 2 W)
theorem enter_sdata:∀ args W,(callFunc 39 args).run Tryz.prog W = .ok (.enter 39 args) W:=enters_of Tryz.func39 (by kernel_rfl) rfl
theorem enter_scols:∀ args W,(callFunc 43 args).run Tryz.prog W = .ok (.enter 43 args) W:=enters_of Tryz.func43 (by kernel_rfl) rfl
theorem many_data (p:Int):Many3 39 p (RightC 3 p) p:=⟨enter_sdata,fun W hL=>by
 have h:=shapeData_any 3 p W hL
 rwa [show shortN 3=0 from rfl,Int.sub_zero] at h⟩
theorem many_cols (p:Int):Many3 43 p (RightC 3 p) (p+3):=⟨enter_scols,fun W hL=>by
 have h:=shapeCols_any 3 p W hL
 rwa [show shortN 3=0 from rfl,show madeN 3=3 from rfl,Int.sub_zero] at h⟩
theorem rightC3 {p:Int} (h:p∈prm):RightC 3 p:=⟨by omega,h⟩
theorem asked_yes {B:Nat} (fn:Nat) (p:Int) (v:Value) (css:List (List (List UInt8))) (hM:Many3 fn p (RightC 3 p) (css.length:Int)) (w:World) (hL:Laid w) (hB:B≤w.heap.size) (hC:Cols B w v css) (hlen:css.length≤1000) (hok:RightD p css) :
 Calls Tryz.prog 198 #[.int .i64 p,.func (.func fn) #[] #[],v] w fun e w'=>e = .returned (.agg #[.int .i64 3,.int .i64 p,v])∧Below w.heap.size w w':=by
 obtain ⟨hent,hcall⟩:=hM
 have HM:=Lib.hid (fun W hL=>(hcall W hL).mono fun _ _ h=>(⟨h.1 (rightC3 hok.1),h.2.2⟩:_∧_))
 obtain ⟨A,cap,rfl,_,_⟩:=id hC
 have hBz:=below_two w (.cells #[.int .i64 0,.int .i64 0,.slice none 0 0] 223) (.cells #[.int .i64 3,.int .i64 p] 24)
 have bz:=(Blk.new w 223 #[.int .i64 0,.int .i64 0,.slice none 0 0]).alloc (.cells #[.int .i64 3,.int .i64 p] 24)
 have bc:=Blk.second w (.cells #[.int .i64 0,.int .i64 0,.slice none 0 0] 223) 24 #[.int .i64 3,.int .i64 p]
 have HR:=Lib.hid (fun (W:World) (hb:Below w.heap.size w W)=>right_yes (B:=B) p (.slice A css.length cap) css W (hL.next hb) (Nat.le_trans hB hb.size) (hC.below (hb.mono hB)) hlen hok)
 have HLN:=Lib.hid (fun (W:World) (hb:Below w.heap.size w W)=>hL.next hb)
 clear hC hok hlen hcall
 generalize css.length=n at *
 have hnn:((n:Int) == (n:Int))=true:=by simp
 go_enter Tryz.func198,Tryz.ntmps198
 go_wp2_with fail
 refine (HM.out _ (hL.next hBz)).mono ?_
 rintro e w1 ⟨rfl,hB1⟩
 have hBa:=below_in hBz hB1
 replace bz:=bz.below hB1 bz.lt
 replace bc:=bc.below hB1 bc.lt
 clear hBz hB1 HM
 go_wp2_with (first
  | (go_at_call 236;refine (sureI _ _).mono ?_;rintro e w2 ⟨rfl,rfl⟩)
  | (go_at_call 74;refine (HR.out _ hBa).mono ?_;rintro e w3 ⟨rfl,hB3⟩;have hBb:=below_in hBa hB3;replace bz:=bz.below hB3 bz.lt;replace bc:=bc.below hB3 bc.lt;have c0:=bc.cell 0;have c1:=bc.cell 1;have g0:=bz.cell 0;have g1:=bz.cell 1;have g2:=bz.cell 2;have f0:=bz.frozen 0;have f1:=bz.frozen 1;have f2:=bz.frozen 2;simp only [gz9] at c0 c1 g0 g1 g2)
  | (go_at_call 235;refine (need_yes _).mono ?_;rintro e w4 ⟨rfl,rfl⟩))
 have r:=((bz.set_ 0 (.int .i64 3)).set_ 1 (.int .i64 p)).set_ 2 (.slice A n cap)
 have r0:=r.cell 0
 have r1:=r.cell 1
 have r2:=r.cell 2
 simp only [List.setIfInBounds_toArray,List.set_cons_zero,List.set_cons_succ,List.getElem?_toArray,List.getElem?_cons_zero,List.getElem?_cons_succ] at r0 r1 r2
 exact bodyPost_ret (v:=.agg #[.int .i64 3,.int .i64 p,.slice A n cap]) (by simp [results,Tryz.results198,go_sem,r0,r1,r2]) rfl ⟨rfl,((hBb.setCell (by simp) _).setCell (by simp) _).setCell (by simp) _⟩
theorem asked_no {B:Nat} (fn:Nat) (p N:Int) (v:Value) (css:List (List (List UInt8))) (hM:Many3 fn p (RightC 3 p) N) (w:World) (hL:Laid w) (hB:B≤w.heap.size) (hC:Cols B w v css) (hlen:css.length≤1000) (hcl:∀ j,j<css.length→(css[j]?.getD []).length≤1000) (hno:¬ (RightD p css∧(css.length:Int)=N)) :
 Calls Tryz.prog 198 #[.int .i64 p,.func (.func fn) #[] #[],v] w fun e w'=>e = .panicked gaveUp∧Below w.heap.size w w':=by
 obtain ⟨hent,hcall⟩:=hM
 obtain ⟨A,cap,rfl,_,_⟩:=id hC
 have hBz:=below_two w (.cells #[.int .i64 0,.int .i64 0,.slice none 0 0] 223) (.cells #[.int .i64 3,.int .i64 p] 24)
 have bz:=(Blk.new w 223 #[.int .i64 0,.int .i64 0,.slice none 0 0]).alloc (.cells #[.int .i64 3,.int .i64 p] 24)
 have bc:=Blk.second w (.cells #[.int .i64 0,.int .i64 0,.slice none 0 0] 223) 24 #[.int .i64 3,.int .i64 p]
 by_cases hR:RightC 3 p
 case neg =>
  have HM:=Lib.hid (fun W hL=>(hcall W hL).mono fun _ _ h=>(⟨h.2.1 hR,h.2.2⟩:_∧_))
  clear hC hno hlen hcl hcall hR
  generalize css.length=n at *
  go_enter Tryz.func198,Tryz.ntmps198
  go_wp2_with fail
  refine (HM.out _ (hL.next hBz)).mono ?_
  rintro e w1 ⟨rfl,hB1⟩
  have hBa:=below_in hBz hB1
  clear hBz hB1 HM
  go_wp2_with (go_at_call 236;refine (sureI_no _ _).mono ?_;rintro e w2 ⟨rfl,rfl⟩)
  exact ⟨rfl,rfl,hBa⟩
 have HM:=Lib.hid (fun W hL=>(hcall W hL).mono fun _ _ h=>(⟨h.1 hR,h.2.2⟩:_∧_))
 clear hcall
 by_cases hn:(css.length:Int)=N
 case neg =>
  have hnn:((css.length:Int) == N)=false:=by simpa using hn
  clear hC hno hlen hcl hR hn
  generalize css.length=n at *
  go_enter Tryz.func198,Tryz.ntmps198
  go_wp2_with fail
  refine (HM.out _ (hL.next hBz)).mono ?_
  rintro e w1 ⟨rfl,hB1⟩
  have hBa:=below_in hBz hB1
  clear hBz hB1 HM
  go_wp2_with (first
   | (go_at_call 236;refine (sureI _ _).mono ?_;rintro e w2 ⟨rfl,rfl⟩)
   | (go_at_call 235;refine (need_no _).mono ?_;rintro e w4 ⟨rfl,rfl⟩))
  exact ⟨rfl,rfl,hBa⟩
 have hr:¬ RightD p css:=fun h=>hno ⟨h,hn⟩
 have HR:=Lib.hid (fun (W:World) (hb:Below w.heap.size w W)=>right_no (B:=B) p (.slice A css.length cap) css W (hL.next hb) (Nat.le_trans hB hb.size) (hC.below (hb.mono hB)) hlen hcl hr)
 have hnn:((css.length:Int) == N)=true:=by simpa using hn
 clear hC hno hlen hcl hR hr hn
 generalize css.length=n at *
 go_enter Tryz.func198,Tryz.ntmps198
 go_wp2_with fail
 refine (HM.out _ (hL.next hBz)).mono ?_
 rintro e w1 ⟨rfl,hB1⟩
 have hBa:=below_in hBz hB1
 clear hBz hB1 HM
 go_wp2_with (first
  | (go_at_call 236;refine (sureI _ _).mono ?_;rintro e w2 ⟨rfl,rfl⟩)
  | (go_at_call 74;refine (HR.out _ hBa).mono ?_;rintro e w3 ⟨rfl,hB3⟩;have hBb:=below_in hBa hB3)
  | (go_at_call 235;refine (need_no _).mono ?_;rintro e w4 ⟨rfl,rfl⟩))
 exact ⟨rfl,rfl,hBb⟩
theorem last_any (p:Int) (hp:0≤p∧p≤100) (A:Option Addr) (n cap:Nat) (w:World):Calls Tryz.prog 266 #[.agg #[.int .i64 3,.int .i64 p,.slice A n cap]] w fun e w'=>e = .returned (.int .i64 (p - 1))∧Below w.heap.size w w':=by
 have bz:=Blk.new w 223 #[.int .i64 3,.int .i64 p,.slice A n cap]
 have g1:=bz.cell 1
 simp only [gz9] at g1
 have hq2:wrap64 (p - 1)=p - 1:=IntWalk.wrap64_in _ (by omega)
 have hq3:IntKind.i64.wrap (p - 1)=p - 1:=IntWalk.i64_in _ (by omega)
 obtain ⟨h0,h1⟩:=hp
 go_enter Tryz.func266,Tryz.ntmps266
 go_wp2
 go_ret
 exact ⟨rfl,below_one w _⟩
theorem slant_any (p x y:Int) (A:Option Addr) (n cap:Nat) (hR:p∈prm) (hc:HasCell 3 p x y) (w:World) (hL:Laid w):Calls Tryz.prog 284 #[.agg #[.int .i64 3,.int .i64 p,.slice A n cap],.agg #[.int .i64 x,.int .i64 y]] w fun e w'=>e = .returned (.int .i64 ((y - x) % p))∧Below w.heap.size w w':=by
 have HS:=Lib.hid (fun W hL=>(shapeSlant_any 3 p x y W hL).mono fun _ _ h=>(⟨h.2.2.1 (rightC3 hR) hc,h.2.2.2⟩:_∧_))
 have hBz:=below_two w (.cells #[.int .i64 3,.int .i64 p,.slice A n cap] 223) (.cells #[.int .i64 x,.int .i64 y] 53)
 have bz:=(Blk.new w 223 #[.int .i64 3,.int .i64 p,.slice A n cap]).alloc (.cells #[.int .i64 x,.int .i64 y] 53)
 have bc:=Blk.second w (.cells #[.int .i64 3,.int .i64 p,.slice A n cap] 223) 53 #[.int .i64 x,.int .i64 y]
 have g0:=bz.cell 0
 have g1:=bz.cell 1
 have c0:=bc.cell 0
 have c1:=bc.cell 1
 simp only [gz9] at c0 c1 g0 g1
 clear hR hc
 generalize (y - x) % p=z at *
 go_enter Tryz.func284,Tryz.ntmps284
 go_wp2_with (first
  | (go_at_call 236;refine (sureI _ _).mono ?_;rintro e w2 ⟨rfl,rfl⟩)
  | (go_at_call 313;refine (HS.out _ (hL.next hBz)).mono ?_;rintro e w1 ⟨rfl,hB1⟩;have hBa:=below_in hBz hB1))
 go_ret
 exact ⟨rfl,hBa⟩
end Go.Proofs.YtknkdbincaonbaaGreatDoor.T

namespace Go.Proofs.YtknkdbincaonbaaGreatDoor.T
open Go.RowKit Go.Shelf Go.Proofs.YtknkdbincaonbaaGreatDoor.C Go.Proofs.YtknkdbincaonbaaGreatDoor.E

theorem upon_any {B:Nat} (v:Value) (ls:List (List UInt8)) (w:World) (hB:B≤w.heap.size) (hM:Many B w v ls) (hls:ls.length≤1000) (hok:XorOk ls) :
 Calls Tryz.prog 268 #[v] w fun e w'=>∃ u,e = .returned u∧Fresh w.heap.size w' u (xorOf ls)∧Below w.heap.size w w':=by
 have HX:=Lib.hid (xor_yes ls v w hB hM (by omega) hok)
 obtain ⟨A,cap,rfl,_,_⟩:=id hM
 clear hM hok hls
 generalize ls.length=n at *
 go_enter Tryz.func268,Tryz.ntmps268
 go_wp2_with (first
  | (go_at_call 140;refine HX.out.mono ?_;rintro e w1 ⟨u,rfl,hF,hB1⟩)
  | (go_at_call 287;refine (sureB _ _).mono ?_;rintro e w2 ⟨rfl,rfl⟩))
 go_ret
 exact ⟨_,rfl,hF,hB1⟩

theorem cell_any {B:Nat} (v:Value) (css:List (List (List UInt8))) (R n:Nat) (X Y:Nat) (w:World) (hB:B≤w.heap.size) (hC:Cols B w v css) (hg:Grid R n css) (hX:X<css.length) (hY:Y<R) :
 Calls Tryz.prog 312 #[v,.agg #[.int .i64 (X:Int),.int .i64 (Y:Int)]] w fun e w'=>∃ u,e = .returned u∧Bytes B w' u (cellI css ((X:Int),(Y:Int)))∧Below w.heap.size w w':=by
 obtain ⟨b1,off1,cap,rfl,hcap,hb1,hrow1⟩:=hC.at_ (by omega)
 obtain ⟨u1,hc1,hm1⟩:=hrow1 X hX
 obtain ⟨hcr,hce⟩:=hg X hX
 obtain ⟨A3,cap3,rfl,_,_⟩:=id hm1
 obtain ⟨b2,off3,rfl,hb2,hrow3⟩:=many_at hm1 (by omega)
 obtain ⟨Aa,ca,hc3,hby⟩:=hrow3 Y (by omega)
 have hcI:cellI css ((X:Int),(Y:Int))=(css[X]?.getD [])[Y]?.getD []:=rfl
 rw [hcI]
 rw [hcr] at hc1
 obtain ⟨W2,hW2⟩:∃ W2,w.alloc (.cells #[.int .i64 (X:Int),.int .i64 (Y:Int)] 53)=W2:=⟨_,rfl⟩
 have bq:Blk W2 w.heap.size 53 #[.int .i64 (X:Int),.int .i64 (Y:Int)]:=by rw [←hW2];exact Blk.new w _ _
 have hB2:Below w.heap.size w W2:=by rw [←hW2];exact below_one w _
 have a0:=bq.cell 0
 have a1:=bq.cell 1
 simp only [gz9] at a0 a1
 have hc1':=(hB2.cell (p:=⟨b1,off1+X,none⟩) (Nat.lt_of_lt_of_le hb1 hB)).trans hc1
 have hc3':=(hB2.cell (p:=⟨b2,off3+Y,none⟩) (Nat.lt_of_lt_of_le hb2 hB)).trans hc3
 have HBY:=Lib.hid (fun (U:World) (hU:Below w.heap.size w U)=>hby.below (hU.mono hB))
 have i1:(0:Int)≤(X:Int):=by omega
 have i2:(X:Int)<(css.length:Int):=by omega
 have i3:(0:Int)≤(Y:Int):=by omega
 have i4:(Y:Int)<(R:Int):=by omega
 clear hrow1 hrow3 hm1 hby hcr hce hcI hC hg bq
 generalize (css[X]?.getD [])[Y]?.getD []=ce at *
 generalize css.length=N at *
 go_enter Tryz.func312,Tryz.ntmps312
 go_wp2
 try rw [hW2]
 go_region_held3 (fun U=>U.cell? ⟨w.heap.size,0,none⟩=some (.int .i64 (X:Int))∧U.cell? ⟨w.heap.size,1,none⟩=some (.int .i64 (Y:Int))∧U.cell? ⟨b1,off1+X,none⟩=some (.slice (some ⟨b2,off3,none⟩) R cap3)∧U.cell? ⟨b2,off3+Y,none⟩=some (.slice Aa ce.length ca))
  (exact ⟨a0,a1,hc1',hc3'⟩) (fail)
 all_goals go_wp2
 all_goals go_ret
 all_goals exact ⟨_,rfl,HBY.out _ hB2.drew,hB2.drew⟩

end Go.Proofs.YtknkdbincaonbaaGreatDoor.T
