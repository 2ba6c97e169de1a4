/- -/
import Derived.Test.YtknkdbincaonbaaGreatDoorCCG14
import Derived.Test.YtknkdbincaonbaaGreatDoorCCG15
import Derived.Test.YtknkdbincaonbaaGreatDoorCCG19
import Derived.Test.YtknkdbincaonbaaGreatDoorCCG7
set_option linter.unusedVariables false
set_option linter.unusedSimpArgs false
set_option maxRecDepth 100000
set_option maxHeartbeats 4000000
namespace Go.Proofs.YtknkdbincaonbaaGreatDoor.Cd
open Go.RowKit Go.Shelf Go.Maps Go.Proofs.YtknkdbincaonbaaGreatDoor.C Go.Proofs.YtknkdbincaonbaaGreatDoor.E Go.Proofs.YtknkdbincaonbaaGreatDoor.Q
attribute [local go_sem] Oper.semAt_some

theorem upon_any {B:Nat} (v:Value) (ls:List (List UInt8)) (w:World) (hB:B≤w.heap.size) (hM:Many B w v ls) (hls:ls.length≤1000) (hok:XorOk ls) :
 Calls Tryz.prog 102 #[v] w fun e w'=>∃ u,e = .returned u∧Fresh w.heap.size w' u (xorOf ls)∧Below w.heap.size w w':=by
 have HX:=Lib.hid (xor_yes ls v w hB hM (by omega) hok)
 obtain ⟨A,cap,rfl,_,_⟩:=id hM
 clear hM hok hls
 generalize ls.length=n at *
 go_enter Tryz.func102,Tryz.ntmps102
 go_wp2_with (first
  | (go_at_call 140;refine HX.out.mono ?_;rintro e w1 ⟨u,rfl,hF,hB1⟩)
  | (go_at_call 85;refine (sureB _ _).mono ?_;rintro e w2 ⟨rfl,rfl⟩))
 go_ret
 exact ⟨_,rfl,hF,hB1⟩
theorem cell_any {B:Nat} (v:Value) (css:List (List (List UInt8))) (R n:Nat) (X Y:Nat) (w:World) (hB:B≤w.heap.size) (hC:Cols B w v css) (hg:Grid R n css) (hX:X<css.length) (hY:Y<R) :
 Calls Tryz.prog 81 #[v,.agg #[.int .i64 (X:Int),.int .i64 (Y:Int)]] w fun e w'=>∃ u,e = .returned u∧Bytes B w' u (cellI css ((X:Int),(Y:Int)))∧Below w.heap.size w w':=by
 obtain ⟨b1,off1,cap,rfl,hcap,hb1,hrow1⟩:=hC.at_ (by omega)
 obtain ⟨u1,hc1,hm1⟩:=hrow1 X hX
 obtain ⟨hcr,hce⟩:=hg X hX
 obtain ⟨A3,cap3,rfl,_,_⟩:=id hm1
 obtain ⟨b2,off3,rfl,hb2,hrow3⟩:=many_at hm1 (by omega)
 obtain ⟨Aa,ca,hc3,hby⟩:=hrow3 Y (by omega)
 have hcI:cellI css ((X:Int),(Y:Int))=(css[X]?.getD [])[Y]?.getD []:=rfl
 rw [hcI]
 rw [hcr] at hc1
 obtain ⟨W2,hW2⟩:∃ W2,w.alloc (.cells #[.int .i64 (X:Int),.int .i64 (Y:Int)] 53)=W2:=⟨_,rfl⟩
 have bq:Blk W2 w.heap.size 53 #[.int .i64 (X:Int),.int .i64 (Y:Int)]:=by rw [←hW2];exact Blk.new w _ _
 have hB2:Below w.heap.size w W2:=by rw [←hW2];exact below_one w _
 have a0:=bq.cell 0
 have a1:=bq.cell 1
 simp only [gz9] at a0 a1
 have hc1':=(hB2.cell (p:=⟨b1,off1+X,none⟩) (Nat.lt_of_lt_of_le hb1 hB)).trans hc1
 have hc3':=(hB2.cell (p:=⟨b2,off3+Y,none⟩) (Nat.lt_of_lt_of_le hb2 hB)).trans hc3
 have HBY:=Lib.hid (fun (U:World) (hU:Below w.heap.size w U)=>hby.below (hU.mono hB))
 have i1:(0:Int)≤(X:Int):=by omega
 have i2:(X:Int)<(css.length:Int):=by omega
 have i3:(0:Int)≤(Y:Int):=by omega
 have i4:(Y:Int)<(R:Int):=by omega
 clear hrow1 hrow3 hm1 hby hcr hce hcI hC hg bq
 generalize (css[X]?.getD [])[Y]?.getD []=ce at *
 generalize css.length=N at *
 go_enter Tryz.func81,Tryz.ntmps81
 go_wp2
 try rw [hW2]
 go_region_held3 (fun U=>U.cell? ⟨w.heap.size,0,none⟩=some (.int .i64 (X:Int))∧U.cell? ⟨w.heap.size,1,none⟩=some (.int .i64 (Y:Int))∧U.cell? ⟨b1,off1+X,none⟩=some (.slice (some ⟨b2,off3,none⟩) R cap3)∧U.cell? ⟨b2,off3+Y,none⟩=some (.slice Aa ce.length ca))
  (exact ⟨a0,a1,hc1',hc3'⟩) (fail)
 all_goals go_wp2
 all_goals go_ret
 all_goals exact ⟨_,rfl,HBY.out _ hB2.drew,hB2.drew⟩

theorem firstC_at {css:List (List (List UInt8))}:(css[0]?.getD [])[0]?.getD []=firstC css:=rfl
theorem length_any {B:Nat} (v:Value) (css:List (List (List UInt8))) (w:World) (hC:Cols B w v css) (h0:0<css.length) (h1:0<(css[0]?.getD []).length) :
 Calls Tryz.prog 87 #[v] w fun e w'=>e = .returned (.int .i64 ((firstC css).length:Int))∧w=w':=by
 obtain ⟨b1,off1,cap,rfl,hcap,hb1,hrow1⟩:=hC.at_ h0
 obtain ⟨u1,hc1,hm1⟩:=hrow1 0 h0
 obtain ⟨A3,cap3,rfl,_,_⟩:=id hm1
 obtain ⟨b2,off3,rfl,hb2,hrow3⟩:=many_at hm1 h1
 obtain ⟨Aa,ca,hc3,hby⟩:=hrow3 0 h1
 rw [firstC_at] at hc3
 rw [Nat.add_zero] at hc1 hc3
 have i2:(0:Int)<(css.length:Int):=by omega
 have i4:(0:Int)<((css[0]?.getD []).length:Int):=by omega
 clear hrow1 hrow3 hm1 hby hC
 generalize (firstC css).length=z at *
 generalize (css[0]?.getD []).length=R at *
 generalize css.length=N at *
 go_enter Tryz.func87,Tryz.ntmps87
 go_wp2
 go_ret
 exact ⟨rfl,rfl⟩
def GaveX (y:Int) (U:World):Exit→Act→World→Prop:=fun e a w'=>e = .panic (gave y)∧a.defers = []∧Below U.heap.size U w'
theorem numbers_yes (k p:Int) (hR:RightC k p) (w:World) (hL:Laid w):Calls Tryz.prog 82 #[.agg #[.int .i64 k,.int .i64 p]] w fun e w'=>e = .returned (.int .i64 ((p - shortN k) * (p - 1)))∧Below w.heap.size w w':=by
 have hBz:=below_one w (.cells #[.int .i64 k,.int .i64 p] 24)
 have bz:=Blk.new w 24 #[.int .i64 k,.int .i64 p]
 obtain ⟨wb,hwb⟩:∃ wb,w.alloc (.cells #[.int .i64 k,.int .i64 p] 24)=wb:=⟨_,rfl⟩
 rw [hwb] at hBz bz
 have HSS:Hid (∀ U,Below wb.heap.size wb U→(fun U:World=>U.cell? ⟨w.heap.size,0,none⟩=some (.int .i64 k)∧U.cell? ⟨w.heap.size,1,none⟩=some (.int .i64 p)) U):=fun U hU=>⟨(bz.below hU bz.lt).cell 0,(bz.below hU bz.lt).cell 1⟩
 obtain ⟨p1,p2,s1,s2,m1,m2⟩:=hR.und
 have HD:=Lib.hid (fun (U:World) (hU:Below wb.heap.size wb U)=>(shapeData_any k p U (hL.next (below_in hBz hU))).mono fun _ _ h=>(⟨h.1 hR,h.2.2⟩:_∧_))
 have HR:=Lib.hid (fun (U:World) (hU:Below wb.heap.size wb U)=>(shapeRows_any k p U (hL.next (below_in hBz hU))).mono fun _ _ h=>(⟨h.1 hR,h.2.2⟩:_∧_))
 have hm0:0≤(p - shortN k) * (p - 1):=Int.mul_nonneg (by omega) (by omega)
 have hm1:(p - shortN k) * (p - 1)≤17 * 17:=Int.mul_le_mul (by omega) (by omega) (by omega) (by omega)
 have hw1:IntKind.i64.wrap ((p - shortN k) * (p - 1))=(p - shortN k) * (p - 1):=IntWalk.i64_in _ (by omega)
 have hw2:wrap64 ((p - shortN k) * (p - 1))=(p - shortN k) * (p - 1):=IntWalk.wrap64_in _ (by omega)
 clear hR hm0 hm1
 refine (callsIn_wide (n:=9)).1 ?_
 refine callsIn_of_wp_marks Tryz.func82 rfl trivial ?_ rfl
 simp only [Tryz.ntmps82,List.size_toArray,List.length_cons,List.length_nil,Nat.reduceAdd,Nat.reduceSub,Array.replicate_succ,Array.replicate_zero,List.push_toArray,List.append_toArray,List.nil_append,List.cons_append]
 gi_wp2_with fail
 try rw [hwb]
 have hBx:Below wb.heap.size wb wb.drew:=(Below.refl _ _).drew
 have hS:=HSS.out _ hBx
 refine wpIn_mono (region_HF (Q:=NoPanic _) (S:=(fun U:World=>U.cell? ⟨w.heap.size,0,none⟩=some (.int .i64 k)∧U.cell? ⟨w.heap.size,1,none⟩=some (.int .i64 p))) (by kernel_rfl) ?_) NoPanic.imp
 refine tkF (i:=0) (d:=3) (v:=.agg #[.int .i64 k,.int .i64 p]) (s:=hS) (c:=?_)
 simp only [ud9]
 refine tkF (i:=5) (d:=8) (v:=.agg #[.int .i64 k,.int .i64 p]) (s:=hS) (c:=?_)
 simp only [ud9]
 refine oneF (i:=1) (c:=?_)
 gi_wp2_with fail
 refine ⟨trivial,(callsIn_wide.2 (HD.out _ hBx)).mono ?_⟩
 rintro e wn ⟨rfl,hB1⟩
 replace hBx:=below_in hBx hB1
 clear hS
 have hS:=HSS.out _ hBx
 gi_wp2
 try (refine ⟨hS,?_⟩)
 refine tkF (i:=2) (d:=5) (v:=.int .i64 (p - shortN k)) (s:=hS) (c:=?_)
 simp only [ud9]
 refine tkF (i:=3) (d:=6) (v:=.int .i64 0) (s:=hS) (c:=?_)
 simp only [ud9]
 refine oneF (i:=4) (c:=?_)
 gi_wp2_with fail
 refine ⟨trivial,(callsIn_wide.2 (sureI _ _)).mono ?_⟩
 rintro e wz ⟨rfl,rfl⟩
 gi_wp2
 try (refine ⟨hS,?_⟩)
 refine oneF (i:=6) (c:=?_)
 gi_wp2_with fail
 refine ⟨trivial,(callsIn_wide.2 (HR.out _ hBx)).mono ?_⟩
 rintro e wn ⟨rfl,hB1⟩
 replace hBx:=below_in hBx hB1
 clear hS
 have hS:=HSS.out _ hBx
 gi_wp2
 try (refine ⟨hS,?_⟩)
 refine tkF (i:=7) (d:=10) (v:=.int .i64 (p - 1)) (s:=hS) (c:=?_)
 simp only [ud9]
 refine tkF (i:=8) (d:=11) (v:=.int .i64 0) (s:=hS) (c:=?_)
 simp only [ud9]
 refine oneF (i:=9) (c:=?_)
 gi_wp2_with fail
 refine ⟨trivial,(callsIn_wide.2 (sureI _ _)).mono ?_⟩
 rintro e wz ⟨rfl,rfl⟩
 gi_wp2
 try (refine ⟨hS,?_⟩)
 refine tkF (i:=10) (d:=13) (v:=.int .i64 ((p - shortN k) * (p - 1))) (s:=hS) (c:=?_)
 simp only [ud9]
 refine oneF (i:=11) (c:=?_)
 gi_wp2
 refine anyHF_done (by kernel_rfl) ?_ _
 refine NoPanic.normal ?_
 gi_wp2
 exact ⟨_,by simp [results,Tryz.results82,go_sem],rfl,below_in hBz hBx⟩
theorem wpList_zerosK (w:World) {ops:Array Oper} {rest:List Oper} {o:Oper} {a:Act} {Q:Exit→Act→World→Prop} (hgd:o.guard=none) (s x:Operand)
 (ho:o.op = .call { callee:=.builtin .append,args:=#[s,x],argTypes:=#[74,3] }) (n:Nat) (h0:0<n) (hn:n≤1000000)
 (hs:a.eval s = .slice none 0 0) (hx:a.eval x = .int .i64 (n:Int))
 (h:∀ c w',R.OwnK w' w.heap.size (.slice (some ⟨w.heap.size,0,none⟩) 0 c) []→Below w.heap.size w w'→n≤c→wpList Tryz.prog ops Q rest (a.put o.dst (.slice (some ⟨w.heap.size,0,none⟩) n c)) w'):wpList Tryz.prog ops Q (o :: rest) a w :=
 wpList_plain hgd fun K hK=>by
  obtain ⟨i0,hi,hz0,hz1,hz2⟩:=info_parts Tryz.infoCol
  have hrun:=Lib.run_append_nil_zeros (P:=Tryz.prog) w 74 3 o.type 58 i0 (.slice none 0 0) .i64 .i64 Tryz.underlying74 Tryz.underlying3 hi hz0 n h0 (by omega) (by omega) (by rw [hz2];omega)
  have hge:=grownCap_ge w n 0 58
  have hle:=grownCap_le_maxLen w n 0 58 (by unfold maxLen;omega)
  generalize grownCap w n 0 58=c at *
  have hsz:(Builtin.zeroCells (Value.slice none 0 0).cells n ++ Builtin.zeroCells (Value.slice none 0 0).cells (c - n)).size=c * 1:=by
   rw [Array.size_append,show (Value.slice none 0 0).cells=#[.slice none 0 0] from rfl,size_zeroCells,size_zeroCells];simp;omega
  generalize Builtin.zeroCells (Value.slice none 0 0).cells n ++ Builtin.zeroCells (Value.slice none 0 0).cells (c - n)=cs at *
  unfold Oper.wp execOp
  simp only [ho,resolve,invoke,builtin,Sem.run_bind,Sem.run_pure,Result.andThen_ok,List.map_toArray,List.map_cons,List.map_nil,hs,hx,hrun]
  exact hK _ _ (h c _ (World.ownsRow_made w.drew cs c (Nat.le_refl _) hle hsz) ((Below.refl w.heap.size w).drew.alloc (Nat.le_refl _) _) hge)

theorem growK_any (n:Nat) (hn:n≤1000000) (w:World) :
 Calls Tryz.prog 159 #[.slice none 0 0,.int .i64 (n:Int)] w fun e w'=>∃ v,e = .returned v∧R.OwnK w' w.heap.size v []∧Below w.heap.size w w':=by
 by_cases h0:n=0
 · subst h0
   go_enter Tryz.func159,Tryz.ntmps159
   go_wp2
   go_ret
   exact ⟨_,rfl,R.ownK_nil _ _,Below.refl _ _⟩
 · have hp:0<n:=by omega
   have d1:decide ((n:Int)<0)=false:=by simp
   have d2:decide (0<(n:Int))=true:=by simp;omega
   go_enter Tryz.func159,Tryz.ntmps159
   go_wp2_with (at_builtin;refine wpList_zerosK _ rfl _ _ rfl n hp hn rfl rfl ?_;intro c w1 hown hB1 hc)
   go_ret
   exact ⟨_,rfl,hown,hB1⟩
theorem wpList_valsK (w:World) {ops:Array Oper} {rest:List Oper} {o:Oper} {a:Act} {Q:Exit→Act→World→Prop} (hgd:o.guard=none) (s x:Operand)
 (ho:o.op = .call { callee:=.builtin .append,args:=#[s,x],argTypes:=#[74,74] })
 (base:Nat) (v:Value) (l:List Value) (hs:a.eval s=v) (hown:R.OwnK w base v l) (B2:Nat) (v2:Value) (us:List Value) (hx:a.eval x=v2) (hv2:Vals B2 w v2 us) (hone:∀ u∈us,u.oneCell'=true) (hlen:l.length≤100000) (hlen2:us.length≤100000) (hbase:base≤w.heap.size)
 (h:∀ v' w',R.OwnK w' base v' (l ++ us)→w.grownBy w' v.ownBlock→wpList Tryz.prog ops Q rest (a.put o.dst v') w'):wpList Tryz.prog ops Q (o :: rest) a w :=
 wpList_plain hgd fun K hK=>by
  obtain ⟨i,hi,hz0,hz1,hz2⟩:=info_parts Tryz.infoCol
  rcases hv2 with ⟨rfl,rfl⟩ | ⟨b,off,cap,rfl,hc,hb,hcell⟩
  · rw [List.append_nil] at h
    have hrun:=run_append_owned_none (P:=Tryz.prog) (w:=w) base 74 o.type 58 i 1 Tryz.underlying74 hi v l.length l hown
    unfold Oper.wp execOp
    simp only [ho,resolve,invoke,builtin,Sem.run_bind,Sem.run_pure,Result.andThen_ok,List.map_toArray,List.map_cons,List.map_nil,hs,hx,hrun]
    exact hK _ _ (h v w hown (World.grownBy.refl _ _))
  · obtain ⟨v',w',hrun,r1,r2,_,r3⟩:=run_append_own_at (P:=Tryz.prog) w base 74 o.type 58 i (.slice none 0 0) 1 24 Tryz.underlying74 hi hz0 hz1 hz2 rfl (by omega) v l.length l hown ⟨b,off,none⟩ us.length cap us (by omega)
     (by intro j u hu;rw [addr_add];exact hcell j u hu) hone (by unfold maxLen;omega) (by omega) hbase
    unfold Oper.wp execOp
    simp only [ho,resolve,invoke,builtin,Sem.run_bind,Sem.run_pure,Result.andThen_ok,List.map_toArray,List.map_cons,List.map_nil,hs,hx,hrun]
    exact hK _ _ (h v' w' (by unfold R.OwnK;rw [List.length_append];exact r1) r2)
theorem concatK_any (b off cap:Nat) (uss:List (List Value)) (hls:uss.length≤1000) (htot:uss.flatten.length≤100000) (hone:∀ us∈uss,∀ u∈us,u.oneCell'=true) (w:World) {B:Nat} (hB:B≤w.heap.size) (hb:b<w.heap.size)
 (hcell:∀ j,j<uss.length→∃ s,w.cell? ⟨b,off+j,none⟩=some s∧Vals B w s (uss[j]?.getD [])) :
 Calls Tryz.prog 121 #[.slice (some ⟨b,off,none⟩) uss.length cap] w fun e w'=>∃ v',e = .returned v'∧R.OwnK w' w.heap.size v' uss.flatten∧Below w.heap.size w w':=by
 have HCE:=Lib.hid hcell
 clear hcell
 have HON:Hid (∀ j,j<uss.length→∀ u∈uss[j]?.getD [],u.oneCell'=true):=fun j hj u hu=>hone (uss[j]?.getD []) (by rw [List.getElem?_eq_getElem hj];exact List.getElem_mem hj) u hu
 clear hone
 go_enter Tryz.func121,Tryz.ntmps121
 go_wp2_with fail
 go_loop [3,11] (fun s i=>∃ k:Nat,k≤uss.length∧i = .int .i64 k∧s = .int .i64 ((uss.take k).flatten.length:Int)) (fun _ i=>uss.length - (intOf i).toNat)
 case atStart=>exact ⟨0,Nat.zero_le _,rfl,rfl⟩
 case round =>
  obtain ⟨k,hk,rfl,rfl⟩:=hrel
  by_cases hlt:k<uss.length
  · have hdec:decide ((k:Int)<(uss.length:Int))=true:=by simp;omega
    obtain ⟨sv,hc,hv⟩:=HCE.out k hlt
    obtain ⟨A1,cp,rfl⟩:=hv.len
    have HF:Hid ((uss.take (k+1)).flatten.length=(uss.take k).flatten.length+(uss[k]?.getD []).length):=by
     unfold Hid;rw [flat_nextV uss k hlt,List.length_append]
    have hle:=flat_leV uss (k+1)
    rw [HF.out] at hle
    clear hv
    generalize (uss[k]?.getD []).length=m at hc HF hle
    generalize (uss.take k).flatten.length=s at HF hle
    have d1:decide (((s:Int)+(m:Int))<0)=false:=by simp;omega
    go_wp2
    go_round
    case rel=>exact ⟨k+1,by omega,by go_num,by rw [HF.out];go_num⟩
    case measure=>simp [intOf];omega
  · obtain rfl:k=uss.length:=by omega
    have e1:decide ((uss.length:Int)<(uss.length:Int))=false:=by simp
    rw [List.take_length]
    have HT:=Lib.hid htot
    have HLE:=Lib.hid (fun k=>flat_leV uss k)
    generalize uss.flatten.length=T at HT HLE htot
    have HG:=Lib.hid (growK_any T (by omega) w)
    go_wp2_with (go_at_call 159;refine HG.out.mono ?_;rintro e w1 ⟨v1,rfl,hown1,hB1⟩)
    go_loopw [6,27] (fun v i wr=>∃ k:Nat,k≤uss.length∧i = .int .i64 k∧R.OwnK wr w.heap.size v (uss.take k).flatten∧Below w.heap.size w wr) (fun _ i _=>uss.length - (intOf i).toNat)
    case atStart=>exact ⟨0,Nat.zero_le _,rfl,hown1,hB1⟩
    case round =>
     obtain ⟨k,hk,rfl,hown,hBr⟩:=hrel
     by_cases hlt:k<uss.length
     · have hdec:decide ((k:Int)<(uss.length:Int))=true:=by simp;omega
       obtain ⟨sv,hc,hv⟩:=HCE.out k hlt
       have hon:=HON.out k hlt
       have hc1:=(hBr.cell (p:=⟨b,off+k,none⟩) hb).trans hc
       have hv1:=hv.below (hBr.mono hB)
       have HF:=Lib.hid (flat_nextV uss k hlt)
       have hle:=HLE.out (k+1)
       rw [HF.out,List.length_append] at hle
       obtain ⟨A1,cp,rfl⟩:=hv.len
       clear hc hv
       generalize uss[k]?.getD []=r at hc1 hv1 HF hle hon
       generalize (uss.take k).flatten=p at HF hle hown
       have HO:=Lib.hid hown
       have HV:=Lib.hid hv1
       clear hown hv1
       go_wp2_with (at_builtin;refine wpList_valsK _ rfl _ _ rfl w.heap.size _ p rfl HO.out B _ r rfl HV.out hon (by have:=HT.out;omega) (by have:=HT.out;omega) hBr.size ?_;intro v' w2 hown2 hgrow2)
       go_roundw
       case rel=>exact ⟨k+1,by omega,by go_num,by rw [HF.out];exact hown2,below_grown hBr hgrow2 hBr.size (fun g e=>(World.ownsRow.lt HO.out g e).1)⟩
       case measure=>simp [intOf];omega
     · obtain rfl:k=uss.length:=by omega
       have e1:decide ((uss.length:Int)<(uss.length:Int))=false:=by simp
       rw [List.take_length] at hown
       go_wp2
       go_ret
       exact ⟨_,rfl,hown,hBr⟩

def encD:DataW Unit:=(((DataW.map []).put (.int .i64 1) (.lit (.int .i64 160))).put (.int .i64 2) (.lit (.int .i64 161))).put (.int .i64 3) (.lit (.int .i64 162))
def Encs (W:World) (b:Nat):Prop:=W.ownsMap Tryz.prog 22 readF b 3 encD
theorem Encs.look {W:World} {b:Nat} (h:Encs W b) (r:Int) (g:Nat) (hr:(Lit.int .i64 r).wf=true) (hg:g≠0) (hat:encD.atKey (.int .i64 r) (.lit (.int .i64 0)) = .lit (.int .i64 (g:Int))) :
 (Instr.lookup 163 (.map (some b)) (.int .i64 r) false).run Tryz.prog W = .ok (.func (.func g) #[] #[]) W:=by
 obtain ⟨v,ps,hrun,hv⟩:=World.ownsMap.lookup h (int_keyed Tryz.underlying22) Tryz.underlying163 (Tryz.zeroValue162 W) (zd:=.lit (.int .i64 0)) (zp:=[]) rfl (keyOf_int_mk Tryz.underlying22 hr)
 rw [hat] at hv
 rw [hrun,readF_func hv hg]
theorem encoders_any (w:World):Calls Tryz.prog 123 #[] w fun e w'=>e = .returned (.map (some w.heap.size))∧Encs w' w.heap.size∧Below w.heap.size w w':=by
 have hmm:=@run_makeMap Tryz.prog
 have m0:=World.ownsMap_made w Tryz.prog 22 readF
 obtain ⟨w1,r1,m1,g1⟩:=World.ownsMap.update m0 (int_keyed Tryz.underlying22) Tryz.underlying163 (by unfold maxLen;omega) (key:=.int .i64 1) (val:=.func (.func 160) #[] #[]) (kl:=.int .i64 1) (d:=.lit (.int .i64 160)) (ps:=[]) (keyOf_int_mk Tryz.underlying22 (by decide)) rfl
 obtain ⟨w2,r2,m2,g2⟩:=World.ownsMap.update m1 (int_keyed Tryz.underlying22) Tryz.underlying163 (by unfold maxLen;omega) (key:=.int .i64 2) (val:=.func (.func 161) #[] #[]) (kl:=.int .i64 2) (d:=.lit (.int .i64 161)) (ps:=[]) (keyOf_int_mk Tryz.underlying22 (by decide)) rfl
 obtain ⟨w3,r3,m3,g3⟩:=World.ownsMap.update m2 (int_keyed Tryz.underlying22) Tryz.underlying163 (by unfold maxLen;omega) (key:=.int .i64 3) (val:=.func (.func 162) #[] #[]) (kl:=.int .i64 3) (d:=.lit (.int .i64 162)) (ps:=[]) (keyOf_int_mk Tryz.underlying22 (by decide)) rfl
 have hB1:Below w.heap.size w w3:=(((below_one w (.map #[] 0)).grown g1 (by simp) (fun k e=>by injection e with e;omega)).grown g2 (by have:=g1.size;simp at this;omega) (fun k e=>by injection e with e;omega)).grown g3 (by have:=g1.size;have:=g2.size;simp at *;omega) (fun k e=>by injection e with e;omega)
 have HM:Hid (Encs w3 w.heap.size):=m3
 clear m0 m1 m2 m3 g1 g2 g3
 go_enter Tryz.func123,Tryz.ntmps123
 go_wp2
 go_ret
 exact ⟨rfl,HM.out,hB1⟩
end Go.Proofs.YtknkdbincaonbaaGreatDoor.Cd

namespace Go.Proofs.YtknkdbincaonbaaGreatDoor.Cd
open Go.RowKit Go.Shelf Go.Maps Go.Proofs.YtknkdbincaonbaaGreatDoor.C Go.Proofs.YtknkdbincaonbaaGreatDoor.E Go.Proofs.YtknkdbincaonbaaGreatDoor.Q
attribute [local go_sem] Oper.semAt_some

theorem enc_of (k p:Int) (dcss:List (List (List UInt8))) (hd:DataK k p dcss):∃ (g:Nat) (made:List (List (List UInt8))),g≠0∧(Lit.int .i64 k).wf=true∧encD.atKey (.int .i64 k) (.lit (.int .i64 0)) = .lit (.int .i64 (g:Int))∧(∀ args W,(callFunc g args).run Tryz.prog W = .ok (.enter g args) W)∧wholeL k p dcss=dcss ++ made∧0<made.length ∧
 ∀ (B:Nat) (v:Value) (W:World),Laid W→B≤W.heap.size→Cols B W v dcss→Calls Tryz.prog g #[.int .i64 p,v] W fun e w'=>∃ u,e = .returned (.tuple #[u,.int .i64 0])∧Cols w'.heap.size w' u made∧Below W.heap.size W w':=by
 have hk:k=1∨k=2∨k=3:=by have:=hd.1.1.1;omega
 rcases hk with rfl | rfl | rfl
 · have h:=whole_one hd
   exact ⟨160,encOf p dcss,by decide,by decide,by rfl,enters_of Tryz.func160 (by kernel_rfl) rfl,h.2,by show 0<2;omega,fun B v W hL hB hC=>E.encode_yes p v dcss h.1 W hL hB hC⟩
 · have h:=whole_two hd
   exact ⟨161,R.rdpOf p dcss,by decide,by decide,by rfl,enters_of Tryz.func161 (by kernel_rfl) rfl,h.2,by show 0<2;omega,fun B v W hL hB hC=>R.encode_yes p v dcss h.1 W hL hB hC⟩
 · have h:=whole_three hd
   exact ⟨162,T.starOf p dcss,by decide,by decide,by rfl,enters_of Tryz.func162 (by kernel_rfl) rfl,h.2,by show 0<3;omega,fun B v W hL hB hC=>T.encode_yes p v dcss h.1 W hL hB hC⟩
theorem concat_two {B:Nat} (v1 v2:Value) (a b:List (List (List UInt8))) (ha:0<a.length) (hb:0<b.length) (hl:a.length+b.length≤1000) (w:World) (g cap:Nat) (hg:Blk w g 74 #[v1,v2]) (hB:B≤w.heap.size) (h1:Cols B w v1 a) (h2:Cols B w v2 b) :
 Calls Tryz.prog 121 #[.slice (some ⟨g,0,none⟩) 2 cap] w fun e w'=>∃ u,e = .returned u∧Cols w'.heap.size w' u (a ++ b)∧Below w.heap.size w w':=by
 obtain ⟨us,hus⟩:=R.Cols.vals h1 ha
 obtain ⟨uo,huo⟩:=R.Cols.vals h2 hb
 have hfl:[us,uo].flatten=us ++ uo:=by simp
 have hl1:=hus.1
 have hl2:=huo.1
 refine (concatK_any g 0 cap [us,uo] (by simp) (by rw [hfl,List.length_append];omega) (fun l hl u hu=>?_) w hB hg.lt (fun j hj=>?_)).mono ?_
 · rcases List.mem_cons.1 hl with rfl | hl
   · exact R.ColsV.one hus u hu
   · rw [List.mem_singleton.1 hl] at hu
     exact R.ColsV.one huo u hu
 · have hj2:j<2:=hj
   rcases (by omega:j=0∨j=1) with rfl | rfl
   · exact ⟨v1,hg.cell 0,hus.2.1⟩
   · exact ⟨v2,hg.cell 1,huo.2.1⟩
 · rintro e w' ⟨u,rfl,hown,hB1⟩
   rw [hfl] at hown
   have hu1:=hus.below (hB1.mono hB)
   have hu2:=huo.below (hB1.mono hB)
   refine ⟨u,rfl,R.OwnK.cols hown (by rw [List.length_append,List.length_append,hl1,hl2]) (by rw [List.length_append];omega) (R.both_at hl1 hu1.2.2 hu2.2.2) (Nat.le_trans hB hB1.size),hB1⟩

theorem encoded_any {B:Nat} (k p:Int) (v:Value) (css:List (List (List UInt8))) (hd:DataK k p (css.take (datN k p))) (hle:datN k p≤css.length) (hlen:css.length≤1000) (w:World) (hL:Laid w) (hB:B≤w.heap.size) (hC:Cols B w v css) :
 Calls Tryz.prog 77 #[.agg #[.int .i64 k,.int .i64 p,v]] w fun e w'=>∃ u,e = .returned u∧Cols w'.heap.size w' u (wholeL k p (css.take (datN k p)))∧Below w.heap.size w w':=by
 have hR:=hd.1.1
 have hdn:=datN_eq hR
 obtain ⟨g,made,hg0,hwf,hat,hent,hwh,hm0,hmade⟩:=enc_of k p _ hd
 obtain ⟨b1,off1,cap,rfl,hcap,hb1,_⟩:=hC.at_ (by omega)
 have hCd:Cols B w (.slice (some ⟨b1,off1,none⟩) (datN k p) cap) (css.take (datN k p)):=Cols.take_ hC hle
 have hwl:(wholeL k p (css.take (datN k p))).length≤100:=by
  have h1:=(whole_all hd).1.1.2
  have h2:=prm_bounds hR.2
  obtain ⟨p1,p2,s1,s2,m1,m2⟩:=hR.und
  omega
 have htl:(css.take (datN k p)).length=datN k p:=by rw [List.length_take];omega
 rw [hwh] at hwl ⊢
 rw [List.length_append] at hwl
 generalize css.take (datN k p)=dcss at *
 have hDN:=hdn.1
 generalize datN k p=d at *
 obtain ⟨N,hN⟩:∃ N,css.length=N:=⟨_,rfl⟩
 rw [hN] at hle hcap hlen ⊢
 have hBz:=below_one w (.cells #[.int .i64 k,.int .i64 p,.slice (some ⟨b1,off1,none⟩) N cap] 76)
 have bz:=Blk.new w 76 #[.int .i64 k,.int .i64 p,.slice (some ⟨b1,off1,none⟩) N cap]
 obtain ⟨wb,hwb⟩:∃ wb,w.alloc (.cells #[.int .i64 k,.int .i64 p,.slice (some ⟨b1,off1,none⟩) N cap] 76)=wb:=⟨_,rfl⟩
 rw [hwb] at hBz bz
 have HSS:Hid (∀ U,Below wb.heap.size wb U→(fun U:World=>U.cell? ⟨w.heap.size,0,none⟩=some (.int .i64 k)∧U.cell? ⟨w.heap.size,1,none⟩=some (.int .i64 p)∧U.cell? ⟨w.heap.size,2,none⟩=some (.slice (some ⟨b1,off1,none⟩) N cap)) U):=fun U hU=>⟨(bz.below hU bz.lt).cell 0,(bz.below hU bz.lt).cell 1,(bz.below hU bz.lt).cell 2⟩
 have HD:=Lib.hid (fun (U:World) (hU:Below wb.heap.size wb U)=>by
  have h:=(shapeData_any k p U (hL.next (below_in hBz hU))).mono fun _ _ h=>(⟨h.1 hR,h.2.2⟩:_∧_)
  rw [hDN] at h
  exact h)
 have HEM:=Lib.hid (fun (U:World) (hU:Below wb.heap.size wb U)=>(encoders_any U).mono fun e w' (h:e = .returned (.map (some U.heap.size))∧Encs w' U.heap.size∧Below U.heap.size U w')=>(⟨U.heap.size,h⟩:∃ gm:Nat,e = .returned (.map (some gm))∧Encs w' gm∧Below U.heap.size U w'))
 have HEN:=Lib.hid (fun (U:World) (hU:Below wb.heap.size wb U)=>hmade B (.slice (some ⟨b1,off1,none⟩) d cap) U (hL.next (below_in hBz hU)) (Nat.le_trans hB (below_in hBz hU).size) (hCd.below ((below_in hBz hU).mono hB)))
 have HCC:=Lib.hid (fun (U V:World) (uA:Option Addr) (un uc:Nat) (hun:made.length=un) (hU:Below wb.heap.size wb U) (hV:Below U.heap.size U V) (bE:Blk V U.heap.size 74 #[.slice (some ⟨b1,off1,none⟩) d cap,.slice uA un uc]) (hu:Cols U.heap.size U (.slice uA made.length uc) made)=>by
  have h1:=below_in hBz (below_in hU hV)
  rw [hun] at hu
  exact (concat_two (B:=U.heap.size) (.slice (some ⟨b1,off1,none⟩) d cap) (.slice uA un uc) dcss made (by omega) hm0 (by omega) V U.heap.size 2 bE hV.size ((hCd.below (h1.mono hB)).more (Nat.le_trans hB (Nat.le_trans hBz.size hU.size))) (hu.below hV)).mono fun e w' (h:∃ u,e = .returned u∧Cols w'.heap.size w' u (dcss ++ made)∧Below V.heap.size V w')=>(by
   obtain ⟨u,h1,h2,h3⟩:=h
   exact ⟨u,h1,h2,h3⟩:∃ u,e = .returned u∧Cols w'.heap.size w' u (dcss ++ made)∧Below V.heap.size V w'))
 have q1:(0:Int)≤(d:Int):=by omega
 have q2:(d:Int)≤(cap:Int):=by omega
 have q3:(d:Int)≤(N:Int):=by omega
 obtain ⟨rn,hrn⟩:∃ rn,(dcss ++ made).length=rn:=⟨_,rfl⟩
 have HRN:=Lib.hid hrn
 clear hC hCd hd hle hlen hN hDN hdn hR hmade hwh hwl htl hm0 hcap hrn
 refine (callsIn_wide (n:=9)).1 ?_
 refine callsIn_of_wp_marks Tryz.func77 rfl trivial ?_ rfl
 simp only [Tryz.ntmps77,List.size_toArray,List.length_cons,List.length_nil,Nat.reduceAdd,Nat.reduceSub,Array.replicate_succ,Array.replicate_zero,List.push_toArray,List.append_toArray,List.nil_append,List.cons_append]
 gi_wp2_with fail
 try rw [hwb]
 have hBx:Below wb.heap.size wb wb.drew:=(Below.refl _ _).drew
 have hS:=HSS.out _ hBx
 refine wpIn_mono (region_HF (Q:=NoPanic _) (S:=(fun U:World=>U.cell? ⟨w.heap.size,0,none⟩=some (.int .i64 k)∧U.cell? ⟨w.heap.size,1,none⟩=some (.int .i64 p)∧U.cell? ⟨w.heap.size,2,none⟩=some (.slice (some ⟨b1,off1,none⟩) N cap))) (by kernel_rfl) ?_) NoPanic.imp
 refine tkF (i:=0) (d:=4) (v:=.pointer (some ⟨w.heap.size,2,none⟩)) (s:=hS) (c:=?_)
 simp only [ud9]
 refine tkF (i:=1) (d:=5) (v:=.slice (some ⟨b1,off1,none⟩) N cap) (s:=hS) (c:=?_)
 simp only [ud9]
 refine tkF (i:=2) (d:=6) (v:=.pointer (some ⟨w.heap.size,0,none⟩)) (s:=hS) (c:=?_)
 simp only [ud9]
 refine tkF (i:=3) (d:=7) (v:=.agg #[.int .i64 k,.int .i64 p]) (s:=hS) (c:=?_)
 simp only [ud9]
 refine oneF (i:=4) (c:=?_)
 gi_wp2_with fail
 refine ⟨trivial,(callsIn_wide.2 (HD.out _ hBx)).mono ?_⟩
 rintro e wn ⟨rfl,hB1⟩
 replace hBx:=below_in hBx hB1
 clear hS
 have hS:=HSS.out _ hBx
 gi_wp2
 try (refine ⟨hS,?_⟩)
 refine tkF (i:=5) (d:=9) (v:=.int .i64 (d:Int)) (s:=hS) (c:=?_)
 simp only [ud9]
 refine tkF (i:=6) (d:=10) (v:=.int .i64 0) (s:=hS) (c:=?_)
 simp only [ud9]
 refine oneF (i:=7) (c:=?_)
 gi_wp2_with fail
 refine ⟨trivial,(callsIn_wide.2 (sureI _ _)).mono ?_⟩
 rintro e wz ⟨rfl,rfl⟩
 gi_wp2
 try (refine ⟨hS,?_⟩)
 refine tkF (i:=8) (d:=12) (v:=.slice (some ⟨b1,off1,none⟩) d cap) (s:=hS) (c:=?_)
 simp only [ud9]
 refine oneF (i:=9) (c:=?_)
 gi_wp2
 refine anyHF_done (by kernel_rfl) ?_ _
 refine NoPanic.normal ?_
 gi_wp2_with fail
 replace hBx:=hBx.drew
 clear hS
 have hS:=HSS.out _ hBx
 refine wpIn_mono (region_HF (Q:=NoPanic _) (S:=(fun U:World=>U.cell? ⟨w.heap.size,0,none⟩=some (.int .i64 k)∧U.cell? ⟨w.heap.size,1,none⟩=some (.int .i64 p)∧U.cell? ⟨w.heap.size,2,none⟩=some (.slice (some ⟨b1,off1,none⟩) N cap))) (by kernel_rfl) ?_) NoPanic.imp
 refine tkF (i:=0) (d:=13) (v:=.slice (some ⟨b1,off1,none⟩) d cap) (s:=hS) (c:=?_)
 simp only [ud9]
 refine tkF (i:=2) (d:=15) (v:=.pointer (some ⟨w.heap.size,0,none⟩)) (s:=hS) (c:=?_)
 simp only [ud9]
 refine tkF (i:=3) (d:=16) (v:=.pointer (some ⟨w.heap.size,0,none⟩)) (s:=hS) (c:=?_)
 simp only [ud9]
 refine tkF (i:=4) (d:=17) (v:=.int .i64 k) (s:=hS) (c:=?_)
 simp only [ud9]
 refine tkF (i:=6) (d:=19) (v:=.pointer (some ⟨w.heap.size,0,none⟩)) (s:=hS) (c:=?_)
 simp only [ud9]
 refine tkF (i:=7) (d:=20) (v:=.pointer (some ⟨w.heap.size,1,none⟩)) (s:=hS) (c:=?_)
 simp only [ud9]
 refine tkF (i:=8) (d:=21) (v:=.int .i64 p) (s:=hS) (c:=?_)
 simp only [ud9]
 refine tkF (i:=9) (d:=22) (v:=.slice (some ⟨b1,off1,none⟩) d cap) (s:=hS) (c:=?_)
 simp only [ud9]
 refine oneF (i:=1) (c:=?_)
 gi_wp2_with fail
 refine ⟨trivial,(callsIn_wide.2 (HEM.out _ hBx)).mono ?_⟩
 rintro e wm ⟨gm,rfl,hmap,hB1⟩
 replace hBx:=below_in hBx hB1
 clear hS
 have hS:=HSS.out _ hBx
 have hlk:=Encs.look hmap k g hwf hg0 hat
 gi_wp2
 try (refine ⟨hS,?_⟩)
 refine oneF (i:=5) (c:=?_)
 gi_wp2
 try (refine ⟨hS,?_⟩)
 refine oneF (i:=10) (c:=?_)
 gi_wp2_with fail
 refine ⟨trivial,(callsIn_wide.2 (HEN.out _ hBx)).mono ?_⟩
 rintro e wn ⟨u,rfl,hu,hB1⟩
 obtain ⟨uA,uc,rfl,_,_⟩:=id hu
 obtain ⟨un,hun⟩:∃ un,made.length=un:=⟨_,rfl⟩
 have HUN:=Lib.hid hun
 rw [hun]
 clear hun
 replace hBx:=below_in hBx hB1
 clear hS
 have hS:=HSS.out _ hBx
 gi_wp2
 try (refine ⟨hS,?_⟩)
 refine tkF (i:=11) (d:=24) (v:=.slice uA un uc) (s:=hS) (c:=?_)
 simp only [ud9]
 refine tkF (i:=12) (d:=25) (v:=.int .i64 0) (s:=hS) (c:=?_)
 simp only [ud9]
 refine oneF (i:=13) (c:=?_)
 gi_wp2_with fail
 refine ⟨trivial,(callsIn_wide.2 (sureS _ _)).mono ?_⟩
 rintro e wz ⟨rfl,rfl⟩
 gi_wp2
 try (refine ⟨hS,?_⟩)
 refine oneF (i:=14) (c:=?_)
 have hB3:Below wn.heap.size wn (wn.alloc (.cells #[.slice (some ⟨b1,off1,none⟩) d cap,.slice uA un uc] 74)):=below_one wn _
 have bE:Blk (wn.alloc (.cells #[.slice (some ⟨b1,off1,none⟩) d cap,.slice uA un uc] 74)) wn.heap.size 74 #[.slice (some ⟨b1,off1,none⟩) d cap,.slice uA un uc]:=Blk.new wn _ _
 obtain ⟨w3,hw3⟩:∃ w3,(wn.alloc (.cells #[.slice (some ⟨b1,off1,none⟩) d cap,.slice uA un uc] 74))=w3:=⟨_,rfl⟩
 rw [hw3] at hB3 bE
 have hBx3:=below_in hBx hB3
 clear hS
 have hS:(fun U:World=>U.cell? ⟨w.heap.size,0,none⟩=some (.int .i64 k)∧U.cell? ⟨w.heap.size,1,none⟩=some (.int .i64 p)∧U.cell? ⟨w.heap.size,2,none⟩=some (.slice (some ⟨b1,off1,none⟩) N cap)) w3:=HSS.out _ hBx3
 gi_wp2
 try rw [hw3]
 try (refine ⟨hS,?_⟩)
 refine oneF (i:=15) (c:=?_)
 gi_wp2_with fail
 refine ⟨trivial,(callsIn_wide.2 (HCC.out wn w3 uA un uc (HUN.out) hBx hB3 bE hu)).mono ?_⟩
 rintro e w4 ⟨r,rfl,hr,hB4⟩
 have hBx4:=below_in hBx3 hB4
 clear hS
 have hS:(fun U:World=>U.cell? ⟨w.heap.size,0,none⟩=some (.int .i64 k)∧U.cell? ⟨w.heap.size,1,none⟩=some (.int .i64 p)∧U.cell? ⟨w.heap.size,2,none⟩=some (.slice (some ⟨b1,off1,none⟩) N cap)) w4:=HSS.out _ hBx4
 obtain ⟨rA,rc,rfl,_,_⟩:=id hr
 gi_wp2
 try (refine ⟨hS,?_⟩)
 refine oneF (i:=16) (c:=?_)
 gi_wp2
 refine anyHF_done (by kernel_rfl) ?_ _
 refine NoPanic.normal ?_
 gi_wp2
 exact ⟨_,by simp [results,Tryz.results77,go_sem],_,rfl,hr,below_in hBz hBx4⟩
end Go.Proofs.YtknkdbincaonbaaGreatDoor.Cd
