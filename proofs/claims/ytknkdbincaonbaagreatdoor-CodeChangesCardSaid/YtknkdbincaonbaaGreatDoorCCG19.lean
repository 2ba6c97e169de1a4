/- -/
import Derived.Test.YtknkdbincaonbaaGreatDoorCCG18
import Derived.Test.YtknkdbincaonbaaGreatDoorCCG6
set_option linter.unusedVariables false
set_option linter.unusedSimpArgs false
set_option maxRecDepth 100000
set_option maxHeartbeats 8000000
namespace Go.Proofs.YtknkdbincaonbaaGreatDoor.T
open Go.RowKit Go.Shelf Go.Proofs.YtknkdbincaonbaaGreatDoor.C Go.Proofs.YtknkdbincaonbaaGreatDoor.E
attribute [local go_sem] Oper.semAt_some

theorem lastP (P:Nat) (hP:3≤P∧P≤17) (A:Option Addr) (n cap:Nat) (w:World):Calls Tryz.prog 266 #[.agg #[.int .i64 3,.int .i64 (P:Int),.slice A n cap]] w fun e w'=>e = .returned (.int .i64 ((P - 1:Nat):Int))∧Below w.heap.size w w':=by
 have h:=last_any (P:Int) (by omega) A n cap w
 rwa [show (P:Int) - 1=((P - 1:Nat):Int) by omega] at h
theorem RowG.impQ {α:Type} {r:Rep α} {t:TypeId} {d:α} {Q Q2:Nat→Prop} {W:World} {base:Nat} {v:Value} {xs:List α} (h:RowG r t d Q W base v xs) (hq:∀ b,Q b→Q2 b):RowG r t d Q2 W base v xs:=by
 obtain ⟨us,q1,q2,q3⟩:=h
 exact ⟨us,q1,q2,fun j u hj=>r.imp (q3 j u hj) fun b hb=>⟨hb.1,hb.2.1,hq b hb.2.2⟩⟩
theorem bytesP_put {P:Nat→Prop} {W:World} {k:Nat} {r:Loop} {v:Value} {l:List UInt8} (h:BytesP P W v l) (hk:W.heap[k]?=some (.loop r)) (ob:Obj):BytesP P (W.putObj k ob) v l:=by
 obtain ⟨A,cap,e,hc,hA⟩:=h
 refine ⟨A,cap,e,hc,fun hp=>?_⟩
 obtain ⟨b,off,e2,h1,h2⟩:=hA hp
 refine ⟨b,off,e2,h1,fun j hj=>?_⟩
 have hne:b≠k:=fun e=>by
  have h3:=h2 0 hp
  unfold World.cell? at h3
  simp only [e,hk] at h3
  cases h3
 exact (World.cell?_of_block (a:=⟨b,off+j,none⟩) (World.putObj_heap_other hne)).trans (h2 j hj)
theorem cells_of {W:World} {b off:Nat} {y:Value} (h:W.cell? ⟨b,off,none⟩=some y):∃ cs t fr,W.heap[b]?=some (.cells cs t fr):=by
 unfold World.cell? at h
 cases hb:W.heap[b]? with
 | none=>simp [hb] at h
 | some ob =>
   cases ob with
   | cells cs t fr=>exact ⟨cs,t,fr,rfl⟩
   | _=>simp [hb] at h
def madeS (P:Nat) (css:List (List (List UInt8))) (n:Nat):List (List UInt8):=(List.range n).map fun (r:Nat)=>xorB (slOf (P:Int) css (r:Int)) (slOf (P:Int) css ((P - 1:Nat):Int))
theorem madeS_succ (P:Nat) (css:List (List (List UInt8))) (n:Nat):madeS P css (n+1)=madeS P css n ++ [xorB (slOf (P:Int) css (n:Int)) (slOf (P:Int) css ((P - 1:Nat):Int))]:=by
 unfold madeS
 rw [List.range_succ,List.map_append]
 rfl
theorem madeS_all {P:Nat} (hP:3≤P) (css:List (List (List UInt8))):madeS P css (P - 1)=slMade (P:Int) css:=by
 unfold madeS slMade
 rw [show ((P:Int) - 1).toNat=P - 1 by omega,show (P:Int) - 1=((P - 1:Nat):Int) by omega]
theorem xorOf_two {n:Nat} {a b:List UInt8} (ha:a.length=n) (hb:b.length=n):xorOf [a,b]=xorB a b:=by
 have hl:∀ l∈[a,b],l.length=n:=fun l h=>by
  rcases List.mem_cons.1 h with rfl | h
  · exact ha
  · rw [List.mem_singleton.1 h];exact hb
 refine ext_at (by rw [xorOf_len_of (by simp) hl,xorB_len,ha]) fun j=>?_
 rw [at_xorOf (by simp) hl,at_xorB _ _ _ (by rw [ha,hb])]
 simp [xa_cons,xa_nil]
def SlV (w:World) (lo hi ga:Nat) (hd:Array Value) (ua:Value) (sa:List UInt8) (L:List (List UInt8)) (vm:Value) (Eb:Nat→Prop) (o:Nat→Prop) (X:World):Prop :=
 Blk X (w.heap.size+1) 58 #[vm]∧RowM Eb X hi vm L∧(∀ b,o b↔(vm.ownBlock=some b∨Eb b))∧(∀ b,Eb b→hi≤b∧some b≠vm.ownBlock∧∃ cs t fr,X.heap[b]?=some (.cells cs t fr))∧Below w.heap.size w X∧Blk X w.heap.size 223 hd∧Blk X ga 32 #[ua]∧BytesP (fun b=>lo≤b∧b<hi) X ua sa∧hi≤X.heap.size
def SlI (w:World) (lo hi ga:Nat) (hd:Array Value) (ua:Value) (sa:List UInt8) (L:List (List UInt8)) (o:Nat→Prop) (X:World):Prop:=∃ (vm:Value) (Eb:Nat→Prop),SlV w lo hi ga hd ua sa L vm Eb o X
theorem SlV.far_ {B':Nat} {w:World} {lo hi ga:Nat} {hd:Array Value} {ua:Value} {sa:List UInt8} {L:List (List UInt8)} {vm:Value} {Eb o:Nat→Prop} {X Y:World} {row:Option Nat} (h1:hi≤B') (h2:ga<hi) (h3:w.heap.size+1<hi)
 (h:SlV w lo hi ga hd ua sa L vm Eb o X) (hg:X.grownBy Y row) (hr:∀ r,row=some r→B'≤r∧¬ o r):SlV w lo hi ga hd ua sa L vm Eb o Y:=by
 obtain ⟨q1,q2,q3,q4,q5,q6,q7,q8,q9⟩:=h
 have hno:∀ b,o b→some b≠row:=fun b hb e=>(hr b e.symm).2 hb
 have hlt:∀ b,b<hi→some b≠row:=fun b hb e=>by have:=(hr b e.symm).1;omega
 refine ⟨q1.grown hg (hlt _ h3),RowG.kept q2 hg ?_ (fun b hb=>hno b ((q3 b).2 (.inr hb))),q3,fun b hb=>?_,q5.grown hg q5.size (fun r e=>by have:=(hr r e).1;omega),q6.grown hg (hlt _ (by omega)),q7.grown hg (hlt _ h2),q8.keep (fun b hb=>hg.block b (by omega) (hlt b hb.2)),Nat.le_trans q9 hg.size⟩
 · cases hc:vm.ownBlock with
   | none=>exact .inl rfl
   | some c=>exact .inr (fun e=>hno c ((q3 c).2 (.inl hc)) e)
 · obtain ⟨r1,r2,cs,t,fr,r3⟩:=q4 b hb
   exact ⟨r1,r2,cs,t,fr,(hg.block b (Array.getElem?_eq_some_iff.1 r3).1 (hno b ((q3 b).2 (.inr hb)))).trans r3⟩
theorem SlI.far {β:Type} {B':Nat} {w:World} {lo hi ga:Nat} {hd:Array Value} {ua:Value} {sa:List UInt8} (L:β→List (List UInt8)) (h1:hi≤B') (h2:ga<hi) (h3:w.heap.size+1<hi):FarO B' (fun (s:β) o X=>SlI w lo hi ga hd ua sa (L s) o X):=by
 rintro s o X Y row ⟨vm,Eb,h⟩ hg hr
 exact ⟨vm,Eb,SlV.far_ h1 h2 h3 h hg hr⟩
theorem SlV.rowO {w:World} {lo hi ga:Nat} {hd:Array Value} {ua:Value} {sa:List UInt8} {L:List (List UInt8)} {vm:Value} {Eb o:Nat→Prop} {X:World} (h:SlV w lo hi ga hd ua sa L vm Eb o X):RowO o X:=by
 obtain ⟨q1,q2,q3,q4,_⟩:=h
 intro b hb
 rcases (q3 b).1 hb with e | e
 · obtain ⟨us,ho,_⟩:=q2
   rcases ho.2 with ⟨h1,_⟩ | ⟨g,cap,cur,h1,_,hg,_⟩
   · rw [h1] at e;cases e
   · rw [h1] at e
     injection e with e
     have e':g=b:=e
     subst e'
     exact ⟨_,_,_,hg⟩
 · exact (q4 b e).2.2
theorem SlI.rowO {w:World} {lo hi ga:Nat} {hd:Array Value} {ua:Value} {sa:List UInt8} {L:List (List UInt8)} {o:Nat→Prop} {X:World} (h:SlI w lo hi ga hd ua sa L o X):RowO o X:=by
 obtain ⟨vm,Eb,h⟩:=h
 exact h.rowO
theorem slanting_any {B:Nat} (p:Int) (v:Value) (css:List (List (List UInt8))) (w:World) (hL:Laid w) (hB:B≤w.heap.size) (hC:Cols B w v css) (hok:DataOk p css) :
 Calls Tryz.prog 238 #[.agg #[.int .i64 3,.int .i64 p,v]] w fun e w'=>∃ u,e = .returned u∧RowM (fun b=>w.heap.size≤b) w' w.heap.size u (slMade p css)∧Below w.heap.size w w':=by
 have hd:=dataOk_n hok
 obtain ⟨b1,off1,cap,rfl,hcap,hb1,_⟩:=hC.at_ hok.2.2.1
 obtain ⟨N,hN⟩:∃ N,css.length=N:=⟨_,rfl⟩
 obtain ⟨P,rfl⟩:∃ P:Nat,p=(P:Int):=⟨p.toNat,by omega⟩
 have hf1:=togOk_first hok.2.2
 have hcn:(firstC css).length≤1000:=by omega
 have hP:3≤P∧P≤17:=by omega
 have hBz:=below_two w (.cells #[.int .i64 3,.int .i64 (P:Int),.slice (some ⟨b1,off1,none⟩) css.length cap] 223) (.cells #[.slice none 0 0] 58)
 obtain ⟨w0,hw0⟩:∃ w0,(w.alloc (.cells #[.int .i64 3,.int .i64 (P:Int),.slice (some ⟨b1,off1,none⟩) css.length cap] 223)).alloc (.cells #[.slice none 0 0] 58)=w0:=⟨_,rfl⟩
 have q0:Blk w0 w.heap.size 223 #[.int .i64 3,.int .i64 (P:Int),.slice (some ⟨b1,off1,none⟩) css.length cap]:=by rw [←hw0];exact (Blk.new w _ _).alloc _
 have q1:Blk w0 (w.heap.size+1) 58 #[.slice none 0 0]:=by rw [←hw0];exact Blk.second w _ _ _
 have s0:w0.heap.size=w.heap.size+2:=by rw [←hw0];simp
 rw [hw0] at hBz
 have HSUM:=Lib.hid (sums_any (B:=B) (P:Int) (.slice (some ⟨b1,off1,none⟩) css.length cap) css w0 (hL.next hBz) (Nat.le_trans hB hBz.size) (hC.below (hBz.mono hB)) hok)
 have HLA:=Lib.hid (fun (U:World)=>lastP P hP (some ⟨b1,off1,none⟩) css.length cap U)
 have HS1:=Lib.hid (fun (hb lo:Nat) (U:World) (hH:Held lo (P:Int) css hb U)=>sums1_any (P:Int) css hcn (by omega) hb (P - 1) (by omega) lo U hH)
 have HSQ:=Lib.hid (fun (g h hb lo:Nat) (U:World) hg hh bg bh hH n hn=>slants_seq g h hb lo P css hcn hP.2 U hg hh bg bh hH n hn)
 have HLEN1:Hid (∀ s,(slOf (P:Int) css s).length=(firstC css).length∧1≤(firstC css).length∧(firstC css).length≤64):=fun s=>⟨slOf_len s,hf1⟩
 have hent:=enter_sums1
 have hpe:(P:Int) - 1=((P - 1:Nat):Int):=by omega
 have HPE:=Lib.hid hpe
 rw [hN] at q0 HSUM HLA hw0 ⊢
 have k0:=q0.cell 0;have k1:=q0.cell 1;have k2:=q0.cell 2;simp only [gz9] at k0 k1 k2
 clear hC hok hd hf1 hcn hN hpe
 refine (callsIn_wide (n:=9)).1 ?_
 refine callsIn_of_wp_marks Tryz.func238 rfl trivial ?_ rfl
 simp only [Tryz.ntmps238,List.size_toArray,List.length_cons,List.length_nil,Nat.reduceAdd,Nat.reduceSub,Array.replicate_succ,Array.replicate_zero,List.push_toArray,List.append_toArray,List.nil_append,List.cons_append]
 gi_wp2_with fail
 refine wpIn_scope_wide ?_
 gi_wp2_with fail
 refine ⟨trivial,(callsIn_wide.2 HSUM.out).mono ?_⟩
 rintro e w1 ⟨hb,rfl,hH,hB1⟩
 have q0a:=q0.below hB1 q0.lt
 clear k0 k1 k2
 have k0:=q0a.cell 0;have k1:=q0a.cell 1;have k2:=q0a.cell 2;simp only [gz9] at k0 k1 k2
 gi_wp2_with fail
 refine ⟨trivial,(callsIn_wide.2 (HLA.out w1)).mono ?_⟩
 rintro e w2 ⟨rfl,hB2⟩
 gi_wp2_with fail
 refine ⟨trivial,(callsIn_wide.2 (HS1.out hb _ w2 (hH.below hB2))).mono ?_⟩
 rintro e w3 ⟨u,rfl,hu,hB3⟩
 obtain ⟨aA,ac,rfl,_⟩:=id hu
 obtain ⟨an,han⟩:∃ an,(slOf (P:Int) css ((P - 1:Nat):Int)).length=an:=⟨_,rfl⟩
 rw [han] at hu ⊢
 obtain ⟨w4,hw4⟩:∃ w4,w3.alloc (.cells #[.slice aA an ac] 32)=w4:=⟨_,rfl⟩
 have hB4:Below w3.heap.size w3 w4:=by rw [←hw4];exact below_one w3 _
 have ba:Blk w4 w3.heap.size 32 #[.slice aA an ac]:=by rw [←hw4];exact Blk.new w3 _ _
 have hB34:=below_in (below_in hB2 hB3) hB4
 have q04:=q0a.below hB34 q0a.lt
 clear k0 k1 k2
 have k0:=q04.cell 0;have k1:=q04.cell 1;have k2:=q04.cell 2;simp only [gz9] at k0 k1 k2
 gi_wp2_with fail
 refine wpIn_label ?_
 gi_wp2_with fail
 refine ⟨trivial,(callsIn_wide.2 (slants_any P hb w4)).mono ?_⟩
 rintro e w7 ⟨rfl,bg7,bh7,hB7⟩
 have hs1:=hB1.size
 have hs34:=hB34.size
 have hs3:=hB4.size
 have hs7:=hB7.size
 have hs23:w1.heap.size≤w3.heap.size:=Nat.le_trans hB2.size hB3.size
 have hBw7:Below w.heap.size w w7:=below_in (below_in (below_in hBz hB1) hB34) hB7
 have hH7:Held w0.heap.size (P:Int) css hb w7:=(hH.below hB34).below hB7
 have hsq:=HSQ.out w4.heap.size (w4.heap.size+1) hb w0.heap.size w7 (by omega) (by omega) bg7 bh7 hH7 8 (by omega)
 have ga7:=ba.below hB7 ba.lt
 have r0:=q04.below hB7 q04.lt
 have r1:Blk w7 (w.heap.size+1) 58 #[.slice none 0 0]:=(((q1.below hB1 q1.lt).below hB34 (by omega)).below hB7 (by omega))
 have hua:BytesP (fun b=>w0.heap.size≤b∧b<w7.heap.size) w7 (.slice aA an ac) (slOf (P:Int) css ((P - 1:Nat):Int)):=by
  have h5:=(hu.below hB4).below hB7
  obtain ⟨A5,c5,e5,h6,h7⟩:=h5
  refine ⟨A5,c5,e5,h6,fun hp=>?_⟩
  obtain ⟨b,off,e6,h8,h9,h10⟩:=h7 hp
  exact ⟨b,off,e6,⟨by have:=hB2.size;omega,h9⟩,h10⟩
 have hgl:=bg7.lt
 have hhl:=bh7.lt
 have HAN:=Lib.hid han
 clear k0 k1 k2 hu han bg7 bh7 hH7 q04 q0a q0 q1 ba hH hw4 hw0
 generalize hsa:slOf (P:Int) css ((P - 1:Nat):Int)=sa at hua
 have HSA:=Lib.hid hsa
 clear hsa
 gi_wp2_with fail
 refine wpIn_rangeT (N:=P) rfl (by omega) (gf:=286) (lb:=#[.pointer (some ⟨w4.heap.size,0,none⟩),.pointer (some ⟨w4.heap.size+1,0,none⟩)]) rfl trivial enter_slants1 hsq (fun h h'=>h.trans h') (fun W l o hl _ _=>Keep.putFar W (by omega) o) (Below.refl _ _) (fun _=>rfl)
  (fun pre o X=>pre.length<P∧SlI w w0.heap.size w7.heap.size w3.heap.size #[.int .i64 3,.int .i64 (P:Int),.slice (some ⟨b1,off1,none⟩) N cap] (.slice aA an ac) sa (madeS P css pre.length) o X)
  (fun c pre o X=>c = .exit 0∧SlI w w0.heap.size w7.heap.size w3.heap.size #[.int .i64 3,.int .i64 (P:Int),.slice (some ⟨b1,off1,none⟩) N cap] (.slice aA an ac) sa (madeS P css (P - 1)) o X)
  ?hI ?hIx (fun _=>False) (fun b h=>h.elim) ⟨by show 0<P;omega,.slice none 0 0,fun _=>False,r1,RowG.nil _ _ _ _ _ _,fun b=>⟨fun h=>h.elim,fun h=>h.elim (fun e=>by cases e) id⟩,fun b h=>h.elim,hBw7,r0,ga7,hua,Nat.le_refl _⟩
  (fun pre z o a' X=>a' = { tmps:=#[.agg #[.int .i64 3,.int .i64 (P:Int),.slice (some ⟨b1,off1,none⟩) N cap],.pointer (some ⟨w.heap.size,0,none⟩),.slice none 0 0,.pointer (some ⟨w.heap.size+1,0,none⟩),.func (.func 285) #[] #[.pointer (some ⟨hb,0,none⟩)],.pointer (some ⟨w3.heap.size,0,none⟩),.int .i64 (z.1:Int),z.2,.agg #[.int .i64 3,.int .i64 (P:Int),.slice (some ⟨b1,off1,none⟩) N cap],.func (.func 285) #[] #[.pointer (some ⟨hb,0,none⟩)],.func (.func 285) #[] #[.pointer (some ⟨hb,0,none⟩)],.agg #[.int .i64 3,.int .i64 (P:Int),.slice (some ⟨b1,off1,none⟩) N cap],.int .i64 ((P - 1:Nat):Int),.slice aA an ac,.pointer (some ⟨w.heap.size,0,none⟩),.pointer (some ⟨w.heap.size,1,none⟩),.int .i64 (P:Int),.func (.func 285) #[] #[.pointer (some ⟨hb,0,none⟩)],.func (.func 286) #[] #[.pointer (some ⟨w4.heap.size,0,none⟩),.pointer (some ⟨w4.heap.size+1,0,none⟩)],.int .i64 (z.1:Int),z.2,undef,undef,undef,undef,undef,undef,undef,undef,undef,undef,undef,undef],defers:=[] }∧z.1=pre.length∧z.1<P∧BytesP (fun b=>w7.heap.size≤b∧b<X.heap.size) X z.2 (slOf (P:Int) css (z.1:Int)))
  (fun pre z o a' X l ob r hl hlb hno h=>⟨h.1,h.2.1,h.2.2.1,BytesP.imp (bytesP_put h.2.2.2 hl ob) fun b hb=>by simpa [World.putObj] using hb⟩)
  ?assign (fun pre o X h=>h.2.rowO) (fun c pre o X h=>h.2.rowO) ?body ?done ?stop
 case hI=>exact FarO.and (farO_pure _ (fun (s:List (Nat×Value)) _=>s.length<P)) (SlI.far _ (Nat.le_refl _) (by omega) (by omega))
 case hIx =>
  intro c
  exact FarO.and (farO_pure _ (fun _ _=>c = .exit 0)) (SlI.far (fun _=>madeS P css (P - 1)) (Nat.le_refl _) (by omega) (by omega))
 case assign =>
  rintro l' pre z o X K hsz ho hI2 ⟨ok1,ok2,ok3⟩ hK
  obtain ⟨zk,zu⟩:=z
  have hK2:=hK _ X (SinceO.refl _ _ _) (Keep.refl _ _ _) hI2 ⟨rfl,ok1,by have h:((zk:Nat):Int)<(P:Int):=ok2;show zk<P;omega,ok3⟩
  clear hI2 ok3 ok1 ok2
  unfold encS
  gi_wp2
  exact hK2
 case body =>
  rintro l' pre ⟨k,zu⟩ o a' X hsz ⟨hpl,vm,Eb,q1,q2,q3,q4,q5,q6,q7,q8,q9⟩ ⟨rfl,hk,hkP,hz⟩ hlen
  have hkk:k=pre.length:=hk
  have hkP2:k<P:=hkP
  subst hkk
  have hz2:BytesP (fun b=>w7.heap.size≤b∧b<X.heap.size) X zu (slOf (P:Int) css (pre.length:Int)):=hz
  clear hz hk hkP
  have HSL:Hid (SlI w w0.heap.size w7.heap.size w3.heap.size #[.int .i64 3,.int .i64 (P:Int),.slice (some ⟨b1,off1,none⟩) N cap] (.slice aA an ac) sa (madeS P css pre.length) o X):=⟨vm,Eb,q1,q2,q3,q4,q5,q6,q7,q8,q9⟩
  obtain ⟨k,HKK⟩:∃ k,Hid (pre.length=k):=⟨_,rfl⟩
  obtain ⟨sk,hsk⟩:∃ sk,slOf (P:Int) css (k:Int)=sk:=⟨_,rfl⟩
  rw [HKK.out] at hz2 hkP2 q2 hpl ⊢
  rw [hsk] at hz2
  have HSK:=Lib.hid hsk
  clear hsk
  obtain ⟨kA,kc,rfl,_⟩:=id hz2
  obtain ⟨mA,mn,mc,rfl⟩:=RowG.form q2
  have hn3:1≤9 - 1 - 1:=by omega
  have k0:=q6.cell 0;have k1:=q6.cell 1;have k2:=q6.cell 2;simp only [gz9] at k0 k1 k2
  have HZ2:=Lib.hid hz2
  have HQ1:=Lib.hid q1
  have HQ2:=Lib.hid q2
  have HQ3:=Lib.hid q3
  have HQ4:=Lib.hid q4
  have HQ6:=Lib.hid q6
  have HQ7:=Lib.hid q7
  have HQ8:=Lib.hid q8
  have HPL:Hid (k<P):=hkP2
  by_cases hl:k=P - 1
  · have hbeq:((k:Int) == ((P - 1:Nat):Int))=true:=by simp;omega
    have HL:=Lib.hid hl
    clear q1 q2 q3 q4 q6 q7 q8 hz2 hl
    gi_wp2_with fail
    refine ⟨trivial,(CallsIn.inRound l' (callsIn_wide.2 (HLA.out _))).mono ?_⟩
    rintro e w8 ⟨rfl,hX8⟩
    gi_wp2
    have hSl8:=(SlI.far (β:=Unit) (fun _=>madeS P css pre.length) (Nat.le_refl _) (by omega:w3.heap.size<w7.heap.size) (by omega)).below (o:=o) (s:=()) HSL.out (hX8)
    rw [HKK.out,HL.out] at hSl8
    exact ⟨o,FreshO.refl _ _,SinceO.below hX8,Keep.below hX8 (by omega),rfl,hSl8⟩
  · have hbeq:((k:Int) == ((P - 1:Nat):Int))=false:=by simp;omega
    have HL:=Lib.hid hl
    clear q1 q2 q3 q4 q6 q7 q8 hz2 hl
    gi_wp2_with fail
    refine ⟨trivial,(CallsIn.inRound l' (callsIn_wide.2 (HLA.out _))).mono ?_⟩
    rintro e w8 ⟨rfl,hX8⟩
    clear k0 k1 k2
    have hxl:=HQ1.out.lt
    have HOG:Hid (∀ b,(Value.slice mA mn mc).ownBlock=some b→o b∧w7.heap.size≤b∧b<X.heap.size):=fun b e=>⟨(HQ3.out b).2 (.inl e),RowG.own_le HQ2.out b e,RowG.own_lt HQ2.out b e⟩
    have hn0:∀ b,b<w7.heap.size→¬ o b:=fun b hb h=>by
     rcases (HQ3.out b).1 h with e | e
     · have:=(HOG.out b e).2.1;omega
     · have:=(HQ4.out b e).1;omega
    obtain ⟨lx,hlx⟩:∃ lx,xorB sk sa=lx:=⟨_,rfl⟩
    have hLK:sk.length=(firstC css).length:=by rw [←HSK.out];exact (HLEN1.out _).1
    have hLA:sa.length=(firstC css).length:=by rw [←HSA.out];exact (HLEN1.out _).1
    have hLL:=(HLEN1.out 0).2
    have HXO:Hid (XorOk [sk,sa]∧xorOf [sk,sa]=lx):=⟨⟨by simp,by show Cell sk;unfold Cell;omega,fun j hj=>by
     have h2:j=0∨j=1:=by simp at hj;omega
     rcases h2 with rfl | rfl
     · rfl
     · show sa.length=sk.length;omega⟩,by rw [xorOf_two hLK hLA];exact hlx⟩
    have HPOS:Hid (0<lx.length):=by unfold Hid;rw [←hlx,xorB_len];omega
    have HLX:=Lib.hid hlx
    clear hlx hLK hLA hLL
    have HSS:Hid (∀ U,Below X.heap.size X U→(fun U:World=>U.cell? ⟨w.heap.size+1,0,none⟩=some (.slice mA mn mc)∧U.cell? ⟨w3.heap.size,0,none⟩=some (.slice aA an ac)) U):=fun U hU=>⟨(HQ1.out.below hU HQ1.out.lt).one,(HQ7.out.below hU HQ7.out.lt).one⟩
    have HUP:Hid (∀ (U:World) (b:Nat),Below X.heap.size X U→Blk U b 32 #[.slice kA sk.length kc,.slice aA an ac]→Calls Tryz.prog 268 #[.slice (some ⟨b,0,none⟩) 2 2] U fun e w'=>∃ u,e = .returned u∧Fresh U.heap.size w' u lx∧Below U.heap.size U w'):=fun U b hU hb=>by
     have h:=upon_any (.slice (some ⟨b,0,none⟩) 2 2) [sk,sa] U (Nat.le_refl _) ⟨_,2,rfl,Nat.le_refl _,fun _=>⟨b,0,rfl,hb.lt,fun j hj=>by
      have h2:j=0∨j=1:=by simp at hj;omega
      rcases h2 with rfl | rfl
      · exact ⟨_,hb.cell 0,BytesP.imp (BytesP.below HZ2.out (N:=X.heap.size) (fun b hb=>hb.2) hU) fun b hb=>Nat.lt_of_lt_of_le hb.2 hU.size⟩
      · exact ⟨_,hb.cell 1,BytesP.imp (BytesP.below HQ8.out (N:=X.heap.size) (fun b hb=>by omega) hU) fun b hb=>Nat.lt_of_lt_of_le (show b<X.heap.size by omega) hU.size⟩⟩⟩ (by simp) HXO.out.1
     rw [HXO.out.2] at h
     exact h
    have HROW:Hid (∀ (U:World) (bu:Nat),Below X.heap.size X U→RowM (fun b=>Eb b∨b=bu) U w7.heap.size (.slice mA mn mc) (madeS P css k)):=fun U bu hU=>RowG.impQ (RowG.below HQ2.out hU) fun b hb=>.inl hb
    have HUU:Hid (∀ (U U':World) (bu ou uc n:Nat),X.heap.size≤bu→bu<U.heap.size→Fresh n U (.slice (some ⟨bu,ou,none⟩) lx.length uc) lx→Below U.heap.size U U'→BytesP (fun b=>b<U'.heap.size∧some b≠(Value.slice mA mn mc).ownBlock∧(Eb b∨b=bu)) U' (.slice (some ⟨bu,ou,none⟩) lx.length uc) lx):=fun U U' bu ou uc n h1 h2 hu hb=>by
     obtain ⟨A5,c5,e5,h5,h6⟩:=hu.below hb
     refine ⟨A5,c5,e5,h5,fun hp=>?_⟩
     obtain ⟨b,off,e8,h7,h8,h9⟩:=h6 hp
     injection e5 with e5 _ _
     rw [←e5] at e8
     injection e8 with e8
     injection e8 with e9 e10
     subst e9 e10
     exact ⟨bu,ou,e5.symm,⟨h8,fun e=>by have:=(HOG.out bu e.symm).2.2;omega,.inr rfl⟩,h9⟩
    have HLEN:Hid ((madeS P css k).length≤100000):=by unfold Hid madeS;rw [List.length_map,List.length_range];have:=HPL.out;omega
    have HBS:Hid (∀ n,X.heap.size≤n→w7.heap.size≤n):=fun n h=>by omega
    have HNR:Hid (∀ (U U':World),U.grownBy U' (Value.slice mA mn mc).ownBlock→∀ b,b<U.heap.size→¬ o b→U'.heap[b]?=U.heap[b]?):=fun U U' h b hb hn=>h.block b hb fun e=>hn (HOG.out b e.symm).1
    have HSB:Hid (∀ (U U':World),Below X.heap.size X U→U.grownBy U' (Value.slice mA mn mc).ownBlock→(fun U:World=>U.cell? ⟨w.heap.size+1,0,none⟩=some (.slice mA mn mc)∧U.cell? ⟨w3.heap.size,0,none⟩=some (.slice aA an ac)) U'):=fun U U' hU hgr=>by
     have hs:=hU.size
     obtain ⟨h1,h2⟩:=HSS.out U hU
     exact ⟨(World.cell?_of_block (HNR.out U U' hgr _ (by show w.heap.size+1 < _;omega) (hn0 _ (by show w.heap.size+1 < _;omega)))).trans h1,(World.cell?_of_block (HNR.out U U' hgr _ (by show w3.heap.size < _;omega) (hn0 _ (by show w3.heap.size < _;omega)))).trans h2⟩
    have HFZ:Hid (∀ (U U':World),Below X.heap.size X U→U.grownBy U' (Value.slice mA mn mc).ownBlock→U'.frozen? ⟨w.heap.size+1,0,none⟩=false):=fun U U' hU hgr=>by
     have h1:Blk U' (w.heap.size+1) 58 #[.slice mA mn mc]:=(HNR.out U U' hgr _ (by have:=hU.size;omega) (hn0 _ (by omega))).trans (HQ1.out.below hU HQ1.out.lt)
     exact h1.frozen 0
    gi_wp2_with fail
    have hS:(fun U:World=>U.cell? ⟨w.heap.size+1,0,none⟩=some (.slice mA mn mc)∧U.cell? ⟨w3.heap.size,0,none⟩=some (.slice aA an ac)) w8.drew:=HSS.out _ hX8.drew
    refine wpIn_mono (region_HG (Q:=NoPanic _) (S:=(fun U:World=>U.cell? ⟨w.heap.size+1,0,none⟩=some (.slice mA mn mc)∧U.cell? ⟨w3.heap.size,0,none⟩=some (.slice aA an ac))) (m:=7) (by kernel_rfl) ?_) NoPanic.imp
    refine anyHG_take (i:=0) (d:=25) (v:=.slice mA mn mc) (by kernel_rfl) rfl (by kernel_rfl) (by kernel_rfl) (by kernel_rfl) rfl (by kernel_rfl) (fun _ _ _ h=>h) ⟨Or.inl ⟨by rfl,fun w hS=>by obtain ⟨h0,h1⟩:=hS;go_simp⟩,fun _=>rfl⟩ hS ?_
    simp only [ud9]
    refine anyHG_take (i:=1) (d:=26) (v:=.slice kA sk.length kc) (by kernel_rfl) rfl (by kernel_rfl) (by kernel_rfl) (by kernel_rfl) rfl (by kernel_rfl) (fun _ _ _ h=>h) ⟨Or.inl ⟨by rfl,fun w hS=>by obtain ⟨h0,h1⟩:=hS;go_simp⟩,fun _=>rfl⟩ hS ?_
    simp only [ud9]
    refine anyHG_take (i:=2) (d:=27) (v:=.slice aA an ac) (by kernel_rfl) rfl (by kernel_rfl) (by kernel_rfl) (by kernel_rfl) rfl (by kernel_rfl) (fun _ _ _ h=>h) ⟨Or.inl ⟨by rfl,fun w hS=>by obtain ⟨h0,h1⟩:=hS;go_simp⟩,fun _=>rfl⟩ hS ?_
    simp only [ud9]
    refine anyHG_one (i:=3) (by kernel_rfl) rfl (by kernel_rfl) (by rfl) ?_
    have hBa:Below w8.heap.size w8 (w8.drew.alloc (.cells #[.slice kA sk.length kc,.slice aA an ac] 32)):=(Below.refl _ _).drew.alloc (Nat.le_refl _) _
    have bE:Blk (w8.drew.alloc (.cells #[.slice kA sk.length kc,.slice aA an ac] 32)) w8.heap.size 32 #[.slice kA sk.length kc,.slice aA an ac]:=Blk.new w8.drew _ _
    obtain ⟨w9,hw9⟩:∃ w9,(w8.drew.alloc (.cells #[.slice kA sk.length kc,.slice aA an ac] 32))=w9:=⟨_,rfl⟩
    rw [hw9] at hBa bE
    have hX9:=below_in hX8 hBa
    clear hS
    have hS:(fun U:World=>U.cell? ⟨w.heap.size+1,0,none⟩=some (.slice mA mn mc)∧U.cell? ⟨w3.heap.size,0,none⟩=some (.slice aA an ac)) w9:=HSS.out _ hX9
    gi_wp2
    try rw [hw9]
    try (refine ⟨.inr hS,?_⟩)
    refine anyHG_one (i:=4) (by kernel_rfl) rfl (by kernel_rfl) (by rfl) ?_
    gi_wp2_with fail
    refine ⟨trivial,(CallsIn.inRound l' (callsIn_wide.2 (HUP.out _ _ hX9 bE))).mono ?_⟩
    rintro e w10 ⟨u,rfl,hu,hB10⟩
    obtain ⟨uA,uc,rfl,huc,huA⟩:=id hu
    obtain ⟨bu,ou,rfl,hbu1,hbu2,hbuc⟩:=huA HPOS.out
    have hX9s:=hX9.size
    have hX10:=below_in hX9 hB10
    have hX10s:=hX10.size
    clear hS
    have hS:(fun U:World=>U.cell? ⟨w.heap.size+1,0,none⟩=some (.slice mA mn mc)∧U.cell? ⟨w3.heap.size,0,none⟩=some (.slice aA an ac)) w10:=HSS.out _ hX10
    gi_wp2
    try (refine ⟨.inr hS,?_⟩)
    refine anyHG_one (i:=5) (by kernel_rfl) rfl (by kernel_rfl) (by rfl) ?_
    have hBb:Below w10.heap.size w10 (w10.alloc (.cells #[.slice (some ⟨bu,ou,none⟩) lx.length uc] 32)):=below_one w10 _
    have bF:Blk (w10.alloc (.cells #[.slice (some ⟨bu,ou,none⟩) lx.length uc] 32)) w10.heap.size 32 #[.slice (some ⟨bu,ou,none⟩) lx.length uc]:=Blk.new w10 _ _
    obtain ⟨wa,hwa⟩:∃ wa,(w10.alloc (.cells #[.slice (some ⟨bu,ou,none⟩) lx.length uc] 32))=wa:=⟨_,rfl⟩
    rw [hwa] at hBb bF
    have hXa:=below_in hX10 hBb
    clear hS
    have hS:(fun U:World=>U.cell? ⟨w.heap.size+1,0,none⟩=some (.slice mA mn mc)∧U.cell? ⟨w3.heap.size,0,none⟩=some (.slice aA an ac)) wa:=HSS.out _ hXa
    gi_wp2
    try rw [hwa]
    try (refine ⟨.inr hS,?_⟩)
    refine anyHG_one (i:=6) (by kernel_rfl) rfl (by kernel_rfl) (by rfl) ?_
    refine opIn_pushM (base:=w7.heap.size) (Q:=fun b=>Eb b∨b=bu) (v:=.slice mA mn mc) wa _ _ rfl Tryz.underlying58 _ rfl (HROW.out _ bu hXa) w10.heap.size _ _ _ rfl bF (HUU.out _ _ bu ou uc _ (by omega) hbu2 hu hBb) HLEN.out (HBS.out _ hXa.size) ?_
    intro v' wb hrow hgr hor
    obtain ⟨vA2,vn2,vc2,rfl⟩:=RowG.form hrow
    clear hS
    have hS:(fun U:World=>U.cell? ⟨w.heap.size+1,0,none⟩=some (.slice mA mn mc)∧U.cell? ⟨w3.heap.size,0,none⟩=some (.slice aA an ac)) wb:=HSB.out _ _ hXa hgr
    gi_wp2_with fail
    try (refine ⟨.inr hS,?_⟩)
    refine anyHG_one (i:=7) (by kernel_rfl) rfl (by kernel_rfl) (by rfl) ?_
    have f0:=HFZ.out _ _ hXa hgr
    obtain ⟨h0,h1⟩:=hS
    gi_wp2
    try (refine ⟨.inl rfl,?_⟩)
    refine anyHG_done (by kernel_rfl) ?_ _
    refine NoPanic.normal ?_
    have hwbs:=hgr.size
    have hwas:=hXa.size
    have hBbs:=hBb.size
    have hblk:∀ b,b<X.heap.size→b≠w.heap.size+1→¬ o b→(wb.setCell ⟨w.heap.size+1,0,none⟩ (.slice vA2 vn2 vc2)).heap[b]?=X.heap[b]?:=fun b p1 p2 p3 =>
     ((Below.heap_setCell wb _ _ b p2).trans (HNR.out wa wb hgr b (by omega) p3)).trans (hXa.block b p1)
    have hsz2:X.heap.size≤(wb.setCell ⟨w.heap.size+1,0,none⟩ (.slice vA2 vn2 vc2)).heap.size:=by simp;omega
    have hset:wb.grownBy (wb.setCell ⟨w.heap.size+1,0,none⟩ (.slice vA2 vn2 vc2)) (some (w.heap.size+1)):=⟨rfl,rfl,rfl,by simp,fun b _ hb=>Below.heap_setCell wb _ _ b (fun e=>hb (by rw [e]))⟩
    have hbb:Blk wb (w.heap.size+1) 58 #[.slice mA mn mc]:=(HNR.out wa wb hgr _ (by omega) (hn0 _ (by omega))).trans (HQ1.out.below hXa HQ1.out.lt)
    have hBf:Below w.heap.size w (wb.setCell ⟨w.heap.size+1,0,none⟩ (.slice vA2 vn2 vc2)):=(below_grown (below_in q5 hXa) hgr (by omega) (fun b e=>by have:=(HOG.out b e).2;omega)).setCell (by show w.heap.size≤w.heap.size+1;omega) _
    have hown':∀ b,(Value.slice vA2 vn2 vc2).ownBlock=some b→o b∨X.heap.size≤b:=fun b e=>by
     rcases hor with h | h
     · rw [h] at e;exact .inl (HOG.out b e).1
     · rw [h] at e;injection e with e;exact .inr (by omega)
    have hownb:∀ b,(Value.slice vA2 vn2 vc2).ownBlock=some b→(w7.heap.size≤b∧(Eb b→False)∧b≠bu):=fun b e=>by
     rcases hor with h | h
     · rw [h] at e
       have:=HOG.out b e
       exact ⟨this.2.1,fun hE=>(HQ4.out b hE).2.1 e.symm,by omega⟩
     · rw [h] at e
       injection e with e
       exact ⟨by omega,fun hE=>by obtain ⟨_,_,cs,t,fr,hc⟩:=HQ4.out b hE;have:=(Array.getElem?_eq_some_iff.1 hc).1;omega,by omega⟩
    have hEb:∀ b,Eb b→o b:=fun b h=>(HQ3.out b).2 (.inr h)
    have hEc:∀ b,Eb b→∃ cs t fr,(wb.setCell ⟨w.heap.size+1,0,none⟩ (.slice vA2 vn2 vc2)).heap[b]?=some (.cells cs t fr):=fun b h=>by
     obtain ⟨r1,r2,cs,t,fr,r3⟩:=HQ4.out b h
     have hlt:=(Array.getElem?_eq_some_iff.1 r3).1
     exact ⟨cs,t,fr,((Below.heap_setCell wb _ _ b (by show b≠w.heap.size+1;omega)).trans (hgr.block b (by omega) r2)).trans ((hXa.block b hlt).trans r3)⟩
    have hbc:∃ cs t fr,(wb.setCell ⟨w.heap.size+1,0,none⟩ (.slice vA2 vn2 vc2)).heap[bu]?=some (.cells cs t fr):=by
     obtain ⟨cs,t,fr,r3⟩:=cells_of (hbuc 0 HPOS.out)
     exact ⟨cs,t,fr,((Below.heap_setCell wb _ _ bu (by show bu≠w.heap.size+1;omega)).trans (hgr.block bu (by omega) (fun e=>by have:=(HOG.out bu e.symm).2.2;omega))).trans ((hBb.block bu hbu2).trans r3)⟩
    have hrf:RowM (fun b=>Eb b∨b=bu) (wb.setCell ⟨w.heap.size+1,0,none⟩ (.slice vA2 vn2 vc2)) w7.heap.size (.slice vA2 vn2 vc2) (madeS P css (k+1)):=by
     rw [madeS_succ,HSK.out,HSA.out,HLX.out]
     refine RowG.kept hrow hset ?_ (fun b hb e=>by
      injection e with e
      rcases hb with hb | hb
      · have:=(HQ4.out b hb).1;omega
      · omega)
     cases hc:(Value.slice vA2 vn2 vc2).ownBlock with
     | none=>exact .inl rfl
     | some c=>exact .inr (fun e=>by injection e with e;have:=(hownb c hc).1;omega)
    have hq0:=(hblk _ HQ6.out.lt (by omega) (hn0 _ (by omega))).trans HQ6.out
    have hqa:=(hblk _ HQ7.out.lt (by omega) (hn0 _ (by omega))).trans HQ7.out
    have hq8:BytesP (fun b=>w0.heap.size≤b∧b<w7.heap.size) (wb.setCell ⟨w.heap.size+1,0,none⟩ (.slice vA2 vn2 vc2)) (.slice aA an ac) sa:=HQ8.out.keep fun b hb=>hblk b (by omega) (by omega) (hn0 _ (by omega))
    have hqm:=hbb.set_ 0 (.slice vA2 vn2 vc2)
    simp only [List.setIfInBounds_toArray,List.set_cons_zero] at hqm
    have hkP1:k+1<P:=by have:=HPL.out;have:=HL.out;omega
    refine ⟨fun b=>(Value.slice vA2 vn2 vc2).ownBlock=some b∨(Eb b∨b=bu),fun b h=>?_,⟨hsz2,fun b p1 p2 p3=>hblk b p2 (by omega) p3⟩,⟨hsz2,fun b p1 p2=>hblk b (by omega) (by omega) (hn0 _ (by omega))⟩,?_,.slice vA2 vn2 vc2,fun b=>Eb b∨b=bu,hqm,?_,fun b=>Iff.rfl,fun b h=>?_,hBf,hq0,hqa,hq8,by omega⟩
    · rcases h with h | h | h
      · exact hown' b h
      · exact .inl (hEb b h)
      · exact .inr (by omega)
    · rw [List.length_append,HKK.out]
      exact hkP1
    · rw [List.length_append,HKK.out]
      exact hrf
    · rcases h with h | h
      · exact ⟨(HQ4.out b h).1,fun e=>(hownb b e.symm).2.1 h,hEc b h⟩
      · subst h
        exact ⟨by omega,fun e=>(hownb b e.symm).2.2 rfl,hbc⟩
 case done =>
  rintro D xs o X hD _ hS ⟨h1,_⟩ _ _
  have hS2:xs.length=P:=hS
  exfalso
  omega
 case stop =>
  rintro D c pre o X hD _ hSp ⟨rfl,hSl⟩ hKD hDo
  obtain ⟨vm,Eb,hSv⟩:=hSl
  obtain ⟨q1,q2,q3,q4,q5,q6,q7,q8,q9⟩:=id hSv
  obtain ⟨mA,mn,mc,rfl⟩:=RowG.form q2
  have c1:=q1.one
  clear q1 q2 q3 q4 q6 q7 q8 hSp
  gi_wp2
  unfold Exit.noGoto
  refine leaves_farT (B:=w7.heap.size) (I:=fun (_:Unit) o X=>SlV w w0.heap.size w7.heap.size w3.heap.size #[.int .i64 3,.int .i64 (P:Int),.slice (some ⟨b1,off1,none⟩) N cap] (.slice aA an ac) sa (madeS P css (P - 1)) (.slice mA mn mc) Eb o X) (fun _ o X Y row hs hg hr=>SlV.far_ (Nat.le_refl _) (by omega) (by omega) hs hg hr) () o (fun X h=>h.rowO) [D] X ⟨by simp,fun E hE=>?_⟩ hSv ?_
  · rw [List.mem_singleton.1 hE]
    exact ⟨hD,hKD⟩
  · rintro W' ⟨_,p2,_,p4,p5,_⟩
    refine ⟨_,results_tmp rfl _ _ _,.slice mA mn mc,rfl,?_,p5⟩
    rw [←madeS_all hP.1 css]
    exact RowG.impQ (RowG.base_ p2 (by omega)) fun b hb=>by have:=(p4 b hb).1;omega
end Go.Proofs.YtknkdbincaonbaaGreatDoor.T

namespace Go.Proofs.YtknkdbincaonbaaGreatDoor.T
open Go.RowKit Go.Shelf Go.Proofs.YtknkdbincaonbaaGreatDoor.C Go.Proofs.YtknkdbincaonbaaGreatDoor.E
attribute [local go_sem] Oper.semAt_some

section
variable {Q:Nat→Prop} {base:Nat} {v:Value}
theorem opIn_pushC {F:Fence} {nF:Nat} {T:TypeId} (w:World) {o:Oper} {a:Act} {K:Act→World→Prop} {QQ:Exit→Act→World→Prop} (s x:Operand)
 (ho:o.op = .call { callee:=.builtin .append,args:=#[s,x],argTypes:=#[T,T] }) (hT:Tryz.prog.underlying T=some (.slice 58)) (css:List (List (List UInt8))) (hs:a.eval s=v) (h:RowC Q w base v css)
 (g:Nat) (tg:TypeId) (u:Value) (ls:List (List UInt8)) (hx:a.eval x = .slice (some ⟨g,0,none⟩) 1 1) (hg:Blk w g tg #[u]) (hu:manyR.R (fun b=>b<w.heap.size∧some b≠v.ownBlock∧Q b) w u ls) (hlen:css.length≤100000) (hbase:base≤w.heap.size)
 (hK:∀ v' w',RowC Q w' base v' (css ++ [ls])→w.grownBy w' v.ownBlock→(v'.ownBlock=v.ownBlock∨v'.ownBlock=some w.heap.size)→K (a.put o.dst v') w'):Oper.wpIn F nF Tryz.prog o a w K QQ:=by
 obtain ⟨i,hi,hz0,hz1,hz2⟩:=info_parts Tryz.infoCol
 obtain ⟨v',w',hrun,h1,h2,h3⟩:=RowG.push i hi hz0 hz1 hz2 T o.type hT h g tg u ls hg hu hlen hbase
 unfold Oper.wpIn
 refine ⟨by simp [Oper.about,ho,resolve,Target.leads,Sem.run_pure],?_⟩
 rw [Oper.semAt_plain F _ _ (by rw [ho];intro c hc';cases hc')]
 simp [execOp,ho,resolve,invoke,builtin,hs,hx,hrun,Result.andThen,Oper.uponIn]
 exact hK v' w' h1 h2 h3
end
theorem encoded_any {B:Nat} (p:Int) (v:Value) (css:List (List (List UInt8))) (w:World) (hL:Laid w) (hB:B≤w.heap.size) (hC:Cols B w v css) (hok:DataOk p css) :
 Calls Tryz.prog 199 #[.agg #[.int .i64 3,.int .i64 p,v]] w fun e w'=>∃ u,e = .returned u∧RowC (fun b=>w.heap.size≤b) w' w.heap.size u (starOf p css)∧Below w.heap.size w w':=by
 have hd:=dataOk_n hok
 obtain ⟨A,cap,rfl,_,_⟩:=id hC
 obtain ⟨wb,hwb⟩:∃ wb,w.alloc (.cells #[.int .i64 3,.int .i64 p,.slice A css.length cap] 223)=wb:=⟨_,rfl⟩
 have hBz:Below w.heap.size w wb:=by rw [←hwb];exact below_one w _
 have q0:Blk wb w.heap.size 223 #[.int .i64 3,.int .i64 p,.slice A css.length cap]:=by rw [←hwb];exact Blk.new w _ _
 have HENC:=Lib.hid (fun (U:World) (hU:Below wb.heap.size wb U)=>encodeRow_yes (B:=B) p (.slice A css.length cap) css hok U (hL.next (below_in hBz hU)) (Nat.le_trans hB (below_in hBz hU).size) (hC.below ((below_in hBz hU).mono hB)))
 have HSLG:=Lib.hid (fun (U:World) (hU:Below wb.heap.size wb U)=>slanting_any (B:=B) p (.slice A css.length cap) css U (hL.next (below_in hBz hU)) (Nat.le_trans hB (below_in hBz hU).size) (hC.below ((below_in hBz hU).mono hB)) hok)
 have HLEN:Hid ((encOf p css).length≤100000):=by have:=(enc_cells hok).1;unfold Hid;omega
 have HST:Hid (encOf p css ++ [slMade p css]=starOf p css):=rfl
 obtain ⟨N,hN⟩:∃ N,css.length=N:=⟨_,rfl⟩
 rw [hN] at q0 HENC HSLG hwb ⊢
 have HSS:Hid (∀ U,Below wb.heap.size wb U→(fun U:World=>U.cell? ⟨w.heap.size,0,none⟩=some (.int .i64 3)∧U.cell? ⟨w.heap.size,1,none⟩=some (.int .i64 p)∧U.cell? ⟨w.heap.size,2,none⟩=some (.slice A N cap)) U):=fun U hU=>⟨(q0.below hU q0.lt).cell 0,(q0.below hU q0.lt).cell 1,(q0.below hU q0.lt).cell 2⟩
 clear hC hok hd hN
 generalize encOf p css=en at *
 generalize slMade p css=sm at *
 refine (callsIn_wide (n:=9)).1 ?_
 refine callsIn_of_wp_marks Tryz.func199 rfl trivial ?_ rfl
 simp only [Tryz.ntmps199,List.size_toArray,List.length_cons,List.length_nil,Nat.reduceAdd,Nat.reduceSub,Array.replicate_succ,Array.replicate_zero,List.push_toArray,List.append_toArray,List.nil_append,List.cons_append]
 gi_wp2_with fail
 have hBx:Below wb.heap.size wb wb.drew:=(Below.refl _ _).drew
 have hS:=HSS.out _ hBx
 refine wpIn_mono (region_HF (Q:=NoPanic _) (S:=(fun U:World=>U.cell? ⟨w.heap.size,0,none⟩=some (.int .i64 3)∧U.cell? ⟨w.heap.size,1,none⟩=some (.int .i64 p)∧U.cell? ⟨w.heap.size,2,none⟩=some (.slice A N cap))) (by kernel_rfl) ?_) NoPanic.imp
 refine tkF (i:=0) (d:=3) (v:=.pointer (some ⟨w.heap.size,0,none⟩)) (s:=hS) (c:=?_)
 simp only [ud9]
 refine tkF (i:=1) (d:=4) (v:=.pointer (some ⟨w.heap.size,1,none⟩)) (s:=hS) (c:=?_)
 simp only [ud9]
 refine tkF (i:=2) (d:=5) (v:=.int .i64 p) (s:=hS) (c:=?_)
 simp only [ud9]
 refine tkF (i:=3) (d:=6) (v:=.pointer (some ⟨w.heap.size,2,none⟩)) (s:=hS) (c:=?_)
 simp only [ud9]
 refine tkF (i:=4) (d:=7) (v:=.slice A N cap) (s:=hS) (c:=?_)
 simp only [ud9]
 refine tkF (i:=9) (d:=12) (v:=.agg #[.int .i64 3,.int .i64 p,.slice A N cap]) (s:=hS) (c:=?_)
 simp only [ud9]
 refine oneF (i:=5) (c:=?_)
 gi_wp2_with fail
 refine ⟨trivial,(callsIn_wide.2 (HENC.out _ hBx)).mono ?_⟩
 rintro e w1 ⟨u,rfl,hrow0,hB1⟩
 have hrow:=RowG.q_ (Q':=fun b=>wb.heap.size≤b) hrow0 (fun b hb=>Nat.le_trans hBx.size hb)
 have hsw1:=Nat.le_trans hBx.size hB1.size
 clear hrow0
 obtain ⟨eA,eN,ec,rfl⟩:=RowG.form hrow
 have HOW:=Lib.hid (fun b e=>RowG.own_lt hrow b e)
 replace hBx:=below_in hBx hB1
 clear hS
 have hS:=HSS.out _ hBx
 gi_wp2
 try (refine ⟨hS,?_⟩)
 refine tkF (i:=6) (d:=9) (v:=.slice eA eN ec) (s:=hS) (c:=?_)
 simp only [ud9]
 refine tkF (i:=7) (d:=10) (v:=.int .i64 0) (s:=hS) (c:=?_)
 simp only [ud9]
 refine oneF (i:=8) (c:=?_)
 gi_wp2_with fail
 refine ⟨trivial,(callsIn_wide.2 (sureS _ w1)).mono ?_⟩
 rintro e wz ⟨rfl,rfl⟩
 gi_wp2
 try (refine ⟨hS,?_⟩)
 refine oneF (i:=10) (c:=?_)
 gi_wp2_with fail
 refine ⟨trivial,(callsIn_wide.2 (HSLG.out _ hBx)).mono ?_⟩
 rintro e w2 ⟨u,rfl,hsl,hB2⟩
 obtain ⟨sA,sN,sc,rfl⟩:=RowG.form hsl
 replace hBx:=below_in hBx hB2
 replace hrow:=RowG.below hrow hB2
 clear hS
 have hS:=HSS.out _ hBx
 gi_wp2
 try (refine ⟨hS,?_⟩)
 refine oneF (i:=11) (c:=?_)
 have hB3:Below w2.heap.size w2 (w2.alloc (.cells #[.slice sA sN sc] 58)):=below_one w2 _
 have bE:Blk (w2.alloc (.cells #[.slice sA sN sc] 58)) w2.heap.size 58 #[.slice sA sN sc]:=Blk.new w2 _ _
 obtain ⟨w3,hw3⟩:∃ w3,(w2.alloc (.cells #[.slice sA sN sc] 58))=w3:=⟨_,rfl⟩
 rw [hw3] at hB3 bE
 have hBx3:=below_in hBx hB3
 clear hS
 have hS:(fun U:World=>U.cell? ⟨w.heap.size,0,none⟩=some (.int .i64 3)∧U.cell? ⟨w.heap.size,1,none⟩=some (.int .i64 p)∧U.cell? ⟨w.heap.size,2,none⟩=some (.slice A N cap)) w3:=HSS.out _ hBx3
 gi_wp2
 try rw [hw3]
 try (refine ⟨hS,?_⟩)
 refine oneF (i:=12) (c:=?_)
 have hs3:=hB3.size
 have hdw:wb.drew.heap.size=wb.heap.size:=rfl
 have hq0l:=q0.lt
 have hbs:=hBx3.size
 refine opIn_pushC (base:=wb.heap.size) (Q:=fun b=>wb.heap.size≤b) (v:=.slice eA eN ec) w3 _ _ rfl Tryz.underlying25 _ rfl (RowG.below hrow hB3) w2.heap.size _ _ _ rfl bE (manyR.imp (Rep.below manyR (RowM.many hsl (S:=fun b=>w1.heap.size≤b∧b<w2.heap.size) (fun b h1 h2=>⟨h2.elim id id,h1⟩)) (fun b hb=>hb.2) hB3) fun b hb=>⟨by omega,fun e=>by have:=HOW.out b e.symm;omega,Nat.le_trans hsw1 hb.1⟩) HLEN.out hBx3.size ?_
 intro v' w4 hrow4 hgr hor
 have hne:some w.heap.size≠(Value.slice eA eN ec).ownBlock:=fun e=>by have:=RowG.own_le hrow _ e.symm;omega
 have hS4:(fun U:World=>U.cell? ⟨w.heap.size,0,none⟩=some (.int .i64 3)∧U.cell? ⟨w.heap.size,1,none⟩=some (.int .i64 p)∧U.cell? ⟨w.heap.size,2,none⟩=some (.slice A N cap)) w4:=⟨(World.cell?_of_block (hgr.block w.heap.size (by omega) hne)).trans hS.1,(World.cell?_of_block (hgr.block w.heap.size (by omega) hne)).trans hS.2.1,(World.cell?_of_block (hgr.block w.heap.size (by omega) hne)).trans hS.2.2⟩
 obtain ⟨fA,fn,fc,rfl⟩:=RowG.form hrow4
 clear hS
 have hS:(fun U:World=>U.cell? ⟨w.heap.size,0,none⟩=some (.int .i64 3)∧U.cell? ⟨w.heap.size,1,none⟩=some (.int .i64 p)∧U.cell? ⟨w.heap.size,2,none⟩=some (.slice A N cap)) w4:=hS4
 clear hS4
 gi_wp2_with fail
 try (refine ⟨hS,?_⟩)
 refine oneF (i:=13) (c:=?_)
 gi_wp2
 refine anyHF_done (by kernel_rfl) ?_ _
 refine NoPanic.normal ?_
 have hfin:Below w.heap.size w w4:=below_grown (below_in hBz hBx3) hgr (by omega) (fun b e=>by have:=RowG.own_le hrow b e;omega)
 gi_wp2
 exact ⟨_,results_tmp rfl _ _ _,_,rfl,by rw [←HST.out];exact RowG.q_ (RowG.base_ hrow4 (by omega)) (fun b hb=>Nat.le_trans hBz.size hb),hfin⟩
end Go.Proofs.YtknkdbincaonbaaGreatDoor.T

namespace Go.Proofs.YtknkdbincaonbaaGreatDoor.T
open Go.RowKit Go.Shelf Go.Proofs.YtknkdbincaonbaaGreatDoor.C Go.Proofs.YtknkdbincaonbaaGreatDoor.E

theorem data_right {p:Int} {css:List (List (List UInt8))}:DataOk p css↔(RightD p css∧(css.length:Int)=p) :=
 ⟨fun h=>⟨⟨h.1.2,h.2.2⟩,h.2.1⟩,fun h=>⟨⟨by omega,h.1.1⟩,h.2,h.1.2⟩⟩
theorem data_many {p:Int} {css:List (List (List UInt8))} (h:DataOk p css):Many3 39 p (RightC 3 p) (css.length:Int):=by
 rw [h.2.1]
 exact many_data p

theorem enter_encode1:∀ args W,(callFunc 197 args).run Tryz.prog W = .ok (.enter 197 args) W:=enters_of Tryz.func197 (by kernel_rfl) rfl
theorem encode_yes {B:Nat} (p:Int) (v:Value) (css:List (List (List UInt8))) (hok:DataOk p css) (w:World) (hL:Laid w) (hB:B≤w.heap.size) (hC:Cols B w v css) :
 Calls Tryz.prog 162 #[.int .i64 p,v] w fun e w'=>∃ u,e = .returned (.tuple #[u,.int .i64 0])∧Cols w'.heap.size w' u (starOf p css)∧Below w.heap.size w w':=by
 obtain ⟨hRD,hMN,hlen⟩:RightD p css∧Many3 39 p (RightC 3 p) (css.length:Int)∧css.length≤1000:=by have hdn:=dataOk_n hok;exact ⟨(data_right.1 hok).1,data_many hok,by omega⟩
 obtain ⟨A,cap,rfl,_,_⟩:=id hC
 obtain ⟨W2,hW2⟩:∃ W2,(w.alloc (.cells #[.int .i64 p] 3)).alloc (.cells #[.slice A css.length cap] 25)=W2:=⟨_,rfl⟩
 have b0:Blk W2 w.heap.size 3 #[.int .i64 p]:=by rw [←hW2];exact (Blk.new w _ _).alloc _
 have b1:Blk W2 (w.heap.size+1) 25 #[.slice A css.length cap]:=by rw [←hW2];exact Blk.second w _ _ _
 have hBW:Below w.heap.size w W2:=by rw [←hW2];exact below_two w _ _
 have hL2:=hL.next hBW
 have HA:=Lib.hid (ans_S_yes 197 #[.pointer (some ⟨w.heap.size,0,none⟩),.pointer (some ⟨w.heap.size+1,0,none⟩)] W2 (fun u W=>Cols W.heap.size W u (starOf p css)) (enter_encode1 _) (fun U hU _=>by
  have hLU:=hL2.next hU
  have hBU:=below_in hBW hU
  have hCU:=hC.below (hBU.mono hB)
  have HQ:=Lib.hid (asked_yes (B:=B) 39 p (.slice A css.length cap) css hMN U hLU (Nat.le_trans hB hBU.size) hCU hlen hRD)
  have HE:=Lib.hid (fun (V:World) (hV:Below U.heap.size U V)=>encoded_any (B:=B) p (.slice A css.length cap) css V (hLU.next hV) (Nat.le_trans hB (Nat.le_trans hBU.size hV.size)) (hCU.below (hV.mono (Nat.le_trans hB hBU.size))) hok)
  have c0:=(b0.below hU b0.lt).one
  have c1:=(b1.below hU b1.lt).one
  clear hC hCU hok b0 b1 hW2 hL hL2 hLU hMN hRD hlen
  generalize css.length=n at *
  go_enter Tryz.func197,Tryz.ntmps197
  go_wp2_with (first
   | (go_at_call 198;refine HQ.out.mono ?_;rintro e w1 ⟨rfl,hB1⟩)
   | (go_at_call 199;refine (HE.out _ hB1).mono ?_;rintro e w2 ⟨u,rfl,hu,hB2⟩;have hu2:=RowC.cols hu;obtain ⟨uA,un,uc,rfl⟩:=RowG.form hu))
  go_ret
  exact ⟨_,rfl,hu2,below_in hB1 hB2⟩))
 clear hC b0 b1 hL2 hok hMN hRD hlen
 generalize css.length=n at *
 go_enter Tryz.func162,Tryz.ntmps162
 have hmf:∀ (fn:Fn) (first cap:Array Value) (w:World),(Instr.makeFunc fn first cap).run Tryz.prog w = .ok (.func fn first cap) w:=fun _ _ _ _=>rfl
 go_wp2_with (go_at_call 196;refine HA.out.mono ?_;rintro e w1 ⟨u,W,rfl,hu,bE,rfl,hB1⟩)
 go_ret2
 exact ⟨u,rfl,Cols.more (Cols.set_int hu bE _) (by simp),below_in hBW hB1⟩
theorem Held.set_int {lo:Nat} {p:Int} {css:List (List (List UInt8))} {hb g:Nat} {W:World} {t:TypeId} {x:Int} (h:Held lo p css hb W) (hg:Blk W g t #[.int .i64 x]) (u:Value) (ht:t≠299:=by decide):Held lo p css hb (W.setCell ⟨g,0,none⟩ u):=by
 obtain ⟨h0,cs,h1,h2,h3⟩:=h
 have hne:hb≠g:=fun e=>by
  subst e
  have q1:W.heap[hb]?=some (.cells cs.toArray 299 (0,0)):=h1
  have q2:W.heap[hb]?=some (.cells #[.int .i64 x] t (0,0)):=hg
  rw [q1] at q2
  injection q2 with q2
  injection q2 with _ q2 _
  exact ht q2.symm
 exact ⟨h0,cs,(Below.heap_setCell W _ _ hb hne).trans h1,h2,fun s hs=>BytesP.imp (bytesP_set_int (h3 s hs) hg u) fun b hb=>⟨hb.1,by simpa using hb.2.1,hb.2.2⟩⟩

theorem Held.less {lo lo':Nat} {p:Int} {css:List (List (List UInt8))} {hb:Nat} {W:World} (h:Held lo p css hb W) (hl:lo'≤lo):Held lo' p css hb W:=by
 obtain ⟨h0,cs,h1,h2,h3⟩:=h
 exact ⟨by omega,cs,h1,h2,fun s hs=>BytesP.imp (h3 s hs) fun b hb=>⟨by omega,hb.2⟩⟩
end Go.Proofs.YtknkdbincaonbaaGreatDoor.T
