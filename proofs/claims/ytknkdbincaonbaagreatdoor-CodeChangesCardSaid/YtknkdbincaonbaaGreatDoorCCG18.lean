/- -/
import Derived.Test.YtknkdbincaonbaaGreatDoorCCG17
import Derived.Test.YtknkdbincaonbaaGreatDoorCCG15
set_option linter.unusedVariables false
set_option linter.unusedSimpArgs false
set_option maxRecDepth 100000
set_option maxHeartbeats 4000000
namespace Go.Proofs.YtknkdbincaonbaaGreatDoor.T
open Go.RowKit Go.Shelf Go.Proofs.YtknkdbincaonbaaGreatDoor.C Go.Proofs.YtknkdbincaonbaaGreatDoor.E
attribute [local go_sem] Oper.semAt_some

theorem enter_sums1:∀ args W,(callFunc 285 args).run Tryz.prog W = .ok (.enter 285 args) W:=enters_of Tryz.func285 (by kernel_rfl) rfl
theorem enter_slants1:∀ args W,(callFunc 286 args).run Tryz.prog W = .ok (.enter 286 args) W:=enters_of Tryz.func286 (by kernel_rfl) rfl
def encS (x:Nat×Value):Array Value:=#[.int .i64 (x.1:Int),x.2]
def OkS (lo:Nat) (p:Int) (css:List (List (List UInt8))) (pre:List (Nat×Value)) (x:Nat×Value) (W:World):Prop :=
 x.1=pre.length∧(x.1:Int)<p∧BytesP (fun b=>lo≤b∧b<W.heap.size) W x.2 (slOf p css (x.1:Int))
theorem slants1_in (n:Nat) (hn:4≤n) (l g h hb lo mm P:Nat) (css:List (List (List UInt8))) (hcn:(firstC css).length≤1000) (hP:P≤17) (W W0:World) (hg:lo≤g∧g<lo+mm) (hh:lo≤h∧h<lo+mm) (h0W:Below W0.heap.size W0 W) (hm:W0.heap.size=lo+mm) (J Jx:List (Nat×Value)→(Nat→Prop)→World→Prop) (o₀:Nat→Prop)
 (hJ:FarO W.heap.size J)
 (hY:∀ pre (x:Nat×Value) o W1,J pre o W1→OkS W.heap.size (P:Int) css pre x W1→pre.length<P→W.heap.size≤W1.heap.size→YieldAt Fence.wide (n - 1) Tryz.prog l (encS x) W1 fun e W'=>∃ o',FreshO o o' W1∧SinceO W.heap.size o W1 W'∧((e = .returned (.bool true)∧J (pre ++ [x]) o' W'∧Keep lo mm W1 W')∨(e = .returned (.bool false)∧Jx (pre ++ [x]) o' W'∧Keep lo mm W1 W')))
 (bg:Blk W0 g 3 #[.int .i64 (P:Int)]) (bh:Blk W0 h 126 #[.func (.func 285) #[] #[.pointer (some ⟨hb,0,none⟩)]]) (hH:Held lo (P:Int) css hb W0) (h0:J [] o₀ W) :
 CallsIn Fence.wide n Tryz.prog 286 #[.func (.yield l) #[] #[],.pointer (some ⟨g,0,none⟩),.pointer (some ⟨h,0,none⟩)] W fun e W'=>(∃ v,e = .returned v)∧∃ o',FreshO o₀ o' W∧((∃ ys,ys.length=P∧J ys o' W')∨(∃ pre,(0<pre.length∧pre.length≤P)∧Jx pre o' W')):=by
 have hent:=enter_sums1
 have hsW:=h0W.size
 have bgW:=bg.below h0W bg.lt
 have c0:=bgW.one
 have HBH:=Lib.hid (fun (V:World) (hK:Keep lo mm W V)=>hK.blk (bh.below h0W bh.lt) hh.1 hh.2)
 have HHV:=Lib.hid (fun (V:World) (hK:Keep lo mm W V)=>hH.keep h0W (by omega) hK)
 have HS1:=Lib.hid (fun (s:Nat) (hs:s<P) (V:World) (hK:Keep lo mm W V)=>sums1_any (P:Int) css hcn (by omega) hb s (by omega) lo V (HHV.out V hK))
 refine callsIn_of_wp_marks Tryz.func286 rfl trivial ?_ rfl
 simp only [Tryz.ntmps286,List.size_toArray,List.length_cons,List.length_nil,Nat.reduceAdd,Nat.reduceSub,Array.replicate_succ,Array.replicate_zero,List.push_toArray,List.append_toArray,List.nil_append,List.cons_append]
 gi_wp2_with fail
 gi_loopw [6] (fun i wr=>∃ j:Nat,j≤P∧i = .int .i64 j∧Hid (∃ pre o,pre.length=j∧J pre o wr∧FreshO o₀ o W)∧Keep lo mm W wr∧W.heap.size≤wr.heap.size) (fun i _=>P - (intOf i).toNat)
 case atStart=>exact ⟨0,by omega,rfl,Lib.hid ⟨[],o₀,rfl,h0,FreshO.refl _ _⟩,Keep.refl _ _ _,Nat.le_refl _⟩
 case round =>
  clear c0 bgW
  obtain ⟨j,hj,rfl,HJ,hK,hsz⟩:=hrel
  by_cases hlt:j<P
  · have hdec:decide (j<P)=true:=decide_eq_true hlt
    have c1:=(HBH.out _ hK).one
    have hcl:=HS1.out j hlt wr hK
    gi_wp2_with fail
    refine ⟨trivial,fun _=>by omega,(callsIn_wide.2 hcl).mono ?_⟩
    rintro e w1 ⟨u,rfl,hu,hB1⟩
    have hs1:=hB1.size
    have hK1:Keep lo mm W w1:=hK.trans (Keep.below hB1 (by omega))
    have HYU:Hid (YieldAt Fence.wide (n - 1) Tryz.prog l (encS (j,u)) w1 fun e W'=>∃ pre o',pre.length=j+1∧FreshO o₀ o' W∧W.heap.size≤W'.heap.size∧((e = .returned (.bool true)∧J pre o' W'∧Keep lo mm w1 W')∨(e = .returned (.bool false)∧Jx pre o' W'∧Keep lo mm w1 W'))):=by
     obtain ⟨pre,o,hpl,hjj,hfo⟩:=HJ.out
     have h:=hY pre (j,u) o w1 (hJ.below hjj hB1) ⟨hpl.symm,by show (j:Int)<P;omega,by
      obtain ⟨A5,c5,e5,h5,h6⟩:=hu
      refine ⟨A5,c5,e5,h5,fun hp=>?_⟩
      obtain ⟨b,off,e6,h7,h8,h9⟩:=h6 hp
      exact ⟨b,off,e6,⟨by omega,h8⟩,h9⟩⟩ (by omega) (by omega)
     refine h.mono ?_
     rintro e W3 ⟨o',hf3,hS3,h3⟩
     exact ⟨pre ++ [(j,u)],o',by rw [List.length_append,hpl];rfl,hfo.trans (by omega) hf3,Nat.le_trans (by omega) hS3.1,h3⟩
    obtain ⟨Au,cu,rfl,_⟩:=id hu
    clear hu hcl
    have HY2:=HYU.out
    unfold encS at HY2
    obtain ⟨fn,tmps,asg,bdy,hy,hRr⟩:=HY2
    gi_wp2_with fail
    refine ⟨fun _=>by omega,hRr.mono ?_⟩
    rintro e W3 ⟨pre,o',hpl,hfo',hsz3,(⟨rfl,hJ3,hk3⟩ | ⟨rfl,hJx3,hk3⟩)⟩
    · have hKw:=hK1.trans hk3
      have HJ3:Hid (∃ pre o,pre.length=j+1∧J pre o W3∧FreshO o₀ o W):=⟨pre,o',hpl,hJ3,hfo'⟩
      clear hpl
      gi_wp2
      go_roundw
      case rel=>exact ⟨j+1,by omega,by go_num,HJ3,hKw,hsz3⟩
      case measure=>simp [intOf];omega
    · have HPL:=Lib.hid hpl
      clear hpl
      gi_wp2
      exact ⟨_,results_none rfl _ _ _,⟨_,rfl⟩,o',hfo',.inr ⟨pre,by have:=HPL.out;omega,hJx3⟩⟩
  · obtain rfl:j=P:=by omega
    have hdec:decide ((j:Int)<(j:Int))=false:=by simp
    obtain ⟨pre,o,hpl,hjj,hfo⟩:=HJ.out
    have HPL:=Lib.hid hpl
    clear hpl
    gi_wp2
    exact ⟨_,results_none rfl _ _ _,⟨_,rfl⟩,o,hfo,.inl ⟨pre,HPL.out,hjj⟩⟩
theorem slants_seq (g h hb lo P:Nat) (css:List (List (List UInt8))) (hcn:(firstC css).length≤1000) (hP:P≤17) (w:World) (hg:lo≤g) (hh:lo≤h) (bg:Blk w g 3 #[.int .i64 (P:Int)]) (bh:Blk w h 126 #[.func (.func 285) #[] #[.pointer (some ⟨hb,0,none⟩)]]) (hH:Held lo (P:Int) css hb w) (n:Nat) (hn:4≤n) :
 SeqT Fence.wide n Tryz.prog 286 #[.pointer (some ⟨g,0,none⟩),.pointer (some ⟨h,0,none⟩)] encS (OkS w.heap.size (P:Int) css) (Keep lo (w.heap.size - lo)) (fun ys=>ys.length=P) (fun pre=>0<pre.length∧pre.length≤P) P w:=by
 intro l J Jx W o₀ hBW ho₀ hJ hJx hr1 hr2 hY h0
 have hgl:=bg.lt
 exact slants1_in n hn l g h hb lo (w.heap.size - lo) P css hcn hP W w ⟨hg,by omega⟩ ⟨hh,by have:=bh.lt;omega⟩ hBW (by omega) J Jx o₀ hJ (fun pre x o W1 hj hok hlen hsz=>hY pre x o W1 hj ⟨hok.1,hok.2.1,BytesP.imp hok.2.2 fun b hb=>⟨Nat.le_trans hBW.size hb.1,hb.2⟩⟩ hlen hsz) bg bh hH h0
theorem slants_any (P:Nat) (hb:Nat) (w:World):Calls Tryz.prog 267 #[.int .i64 (P:Int),.func (.func 285) #[] #[.pointer (some ⟨hb,0,none⟩)]] w fun e w'=>e = .returned (.func (.func 286) #[] #[.pointer (some ⟨w.heap.size,0,none⟩),.pointer (some ⟨w.heap.size+1,0,none⟩)]) ∧
 Blk w' w.heap.size 3 #[.int .i64 (P:Int)]∧Blk w' (w.heap.size+1) 126 #[.func (.func 285) #[] #[.pointer (some ⟨hb,0,none⟩)]]∧Below w.heap.size w w':=by
 have hmf:∀ (fn:Fn) (first cap:Array Value) (w:World),(Instr.makeFunc fn first cap).run Tryz.prog w = .ok (.func fn first cap) w:=fun _ _ _ _=>rfl
 go_enter Tryz.func267,Tryz.ntmps267
 go_wp2
 go_ret
 exact ⟨rfl,(Blk.new w _ _).alloc _,Blk.second w _ _ _,below_two w _ _⟩
end Go.Proofs.YtknkdbincaonbaaGreatDoor.T

namespace Go.Proofs.YtknkdbincaonbaaGreatDoor.T
open Go.RowKit Go.Shelf Go.Proofs.YtknkdbincaonbaaGreatDoor.C Go.Proofs.YtknkdbincaonbaaGreatDoor.E
attribute [local go_sem] Oper.semAt_some

theorem RowG.base_ {α:Type} {r:Rep α} {t:TypeId} {d:α} {Q:Nat→Prop} {W:World} {base base':Nat} {v:Value} {xs:List α} (h:RowG r t d Q W base v xs) (hb:base'≤base):RowG r t d Q W base' v xs:=by
 obtain ⟨us,q1,q2,q3⟩:=h
 exact ⟨us,⟨q1.1,q1.2.imp id fun ⟨g,cap,cur,e,h2,rest⟩=>⟨g,cap,cur,e,by omega,rest⟩⟩,q2,q3⟩
theorem RowG.q_ {α:Type} {r:Rep α} {t:TypeId} {d:α} {Q Q':Nat→Prop} {W:World} {base:Nat} {v:Value} {xs:List α} (h:RowG r t d Q W base v xs) (hq:∀ b,Q b→Q' b):RowG r t d Q' W base v xs:=by
 obtain ⟨us,q1,q2,q3⟩:=h
 exact ⟨us,q1,q2,fun j u hu=>r.imp (q3 j u hu) fun b hb=>⟨hb.1,hb.2.1,hq b hb.2.2⟩⟩
theorem bytesP_set_int {P:Nat→Prop} {W:World} {g:Nat} {t:TypeId} {x:Int} {v:Value} {l:List UInt8} (h:BytesP P W v l) (hb:Blk W g t #[.int .i64 x]) (u:Value):BytesP P (W.setCell ⟨g,0,none⟩ u) v l:=by
 obtain ⟨A,cap,e,hc,hA⟩:=h
 refine ⟨A,cap,e,hc,fun hp=>?_⟩
 obtain ⟨b,off,e2,h1,h2⟩:=hA hp
 exact ⟨b,off,e2,h1,fun j hj=>cell_set_int hb rfl (h2 j hj) (fun n e=>by cases e) u⟩
theorem manyR_set_int {P:Nat→Prop} {W:World} {g:Nat} {t:TypeId} {x:Int} {v:Value} {ls:List (List UInt8)} (h:manyR.R P W v ls) (hb:Blk W g t #[.int .i64 x]) (u:Value):manyR.R P (W.setCell ⟨g,0,none⟩ u) v ls:=by
 obtain ⟨A,cap,e,hc,hA⟩:=h
 refine ⟨A,cap,e,hc,fun hp=>?_⟩
 obtain ⟨b,off,e2,h1,h2⟩:=hA hp
 refine ⟨b,off,e2,h1,fun j hj=>?_⟩
 obtain ⟨y,h3,h4⟩:=h2 j hj
 have h5:=bytesP_set_int h4 hb u
 obtain ⟨A2,c2,rfl,_⟩:=id h4
 exact ⟨_,cell_set_int hb rfl h3 (fun n e=>by cases e) u,h5⟩
theorem RowC.set_int {Q:Nat→Prop} {W:World} {base g:Nat} {t:TypeId} {x:Int} {v:Value} {css:List (List (List UInt8))} (h:RowC Q W base v css) (hb:Blk W g t #[.int .i64 x]) (u:Value) (ht:t≠58:=by decide):RowC Q (W.setCell ⟨g,0,none⟩ u) base v css:=by
 obtain ⟨us,⟨q0,q1⟩,q2,q3⟩:=h
 have hel:∀ (j:Nat) (y:Value),us[j]?=some y→manyR.R (fun b=>b<(W.setCell ⟨g,0,none⟩ u).heap.size∧some b≠v.ownBlock∧Q b) (W.setCell ⟨g,0,none⟩ u) y (css[j]?.getD []):=fun j y hj =>
  manyR.imp (manyR_set_int (q3 j y hj) hb u) fun b hb=>⟨by simpa using hb.1,hb.2⟩
 rcases q1 with q1 | ⟨b,cap,cur,e,h2,h3,rest⟩
 · exact ⟨us,⟨q0,.inl q1⟩,q2,hel⟩
 · have hne:b≠g:=fun e=>by
    subst e
    have hb':W.heap[b]?=some (.cells #[.int .i64 x] t (0,0)):=hb
    rw [hb'] at h3
    injection h3 with h3
    injection h3 with _ h3 _
    exact ht h3
   exact ⟨us,⟨q0,.inr ⟨b,cap,cur,e,h2,(Below.heap_setCell W _ _ b hne).trans h3,rest⟩⟩,q2,hel⟩
theorem encodedRow_any {B:Nat} (p:Int) (v:Value) (css:List (List (List UInt8))) (hok:DataOk p css) (w:World) (hL:Laid w) (hB:B≤w.heap.size) (hC:Cols B w v css) :
 Calls Tryz.prog 191 #[.agg #[.int .i64 p,v]] w fun e w'=>∃ u,e = .returned u∧RowC (fun b=>w.heap.size≤b) w' w.heap.size u (encOf p css)∧Below w.heap.size w w':=by
 have hpp:=prm_bounds hok.1.2
 obtain ⟨A,cap,rfl,_,_⟩:=id hC
 obtain ⟨n,hn⟩:∃ n,css.length=n:=⟨_,rfl⟩
 rw [hn]
 rw [hn] at hC
 obtain ⟨W1,hW1⟩:∃ W1,w.alloc (.cells #[.int .i64 p,.slice A n cap] 151)=W1:=⟨_,rfl⟩
 have b0:Blk W1 w.heap.size 151 #[.int .i64 p,.slice A n cap]:=by rw [←hW1];exact Blk.new w _ _
 have hBW:Below w.heap.size w W1:=by rw [←hW1];exact below_one w _
 have hL1:=hL.next hBW
 have hC1:=hC.below (hBW.mono hB)
 have hB1:B≤W1.heap.size:=Nat.le_trans hB hBW.size
 have HU:=Lib.hid (fun (U:World)=>E.upon_any (.slice none 0 0) U none 0 0 rfl)
 have HV:=Lib.hid (fun (U:World) (c:Nat)=>E.upon_any (.slice (some ⟨c,0,none⟩) 1 1) U (some ⟨c,0,none⟩) 1 1 rfl)
 have HA:=Lib.hid (fun (U:World) (hU:Below W1.heap.size W1 U)=>E.adjuster_any p (.slice A n cap) css hok U (hL1.next hU) (Nat.le_trans hB1 hU.size) (hC1.below (hU.mono hB1)))
 rw [show xorOf (diagOf p (p - 1) css)=adjOf p css from rfl] at HA
 have HM1:=Lib.hid (fun (U:World) (hU:Below W1.heap.size W1 U)=>hC1.below (hU.mono hB1))
 have hadl:=adjOf_len hok
 have hfl:=togOk_first hok.2.2
 have HOK:=Lib.hid hok
 have hok0:=Lib.hid hok
 have HADL:=Lib.hid hadl
 clear hadl hok hC hC1 hfl hn
 refine (callsIn_wide (n:=9)).1 ?_
 refine callsIn_of_wp_marks Tryz.func191 rfl trivial ?_ rfl
 simp only [Tryz.ntmps191,List.size_toArray,List.length_cons,List.length_nil,Nat.reduceAdd,Nat.reduceSub,Array.replicate_succ,Array.replicate_zero,List.push_toArray,List.append_toArray,List.nil_append,List.cons_append]
 gi_wp2_with fail
 clear hW1
 generalize hadj:adjOf p css=adj at *
 have bg:=b0
 refine region_inv (by kernel_rfl) (by kernel_rfl) (EncI w.heap.size p (.slice A n cap) adj W1) ?start ?step ?fin
 case start =>
  exact ⟨undef,undef,undef,undef,undef,undef,undef,rfl,⟨(Below.refl _ _).drew,fun h=>by simp at h,fun h=>by simp at h,fun h=>by simp at h,fun h=>by simp at h,fun h=>by simp at h,fun h=>by simp at h,fun h=>by simp at h,fun h=>by simp at h,fun h=>by simp at h,fun h=>by simp at h,fun h=>by simp at h,fun h=>by simp at h⟩⟩
 case step =>
  rintro i listed a w hi ⟨x3,x4,x5,x6,x7,x8,x9,rfl,hF⟩
  have hi9:i<9:=List.mem_range.1 (List.mem_filter.1 hi).1
  obtain rfl | rfl | rfl | rfl | rfl | rfl | rfl | rfl | rfl:i=0∨i=1∨i=2∨i=3∨i=4∨i=5∨i=6∨i=7∨i=8:=by omega
  · -- operation 0
    have e1:(listed.setIfInBounds 0 true).getD 1 false=listed.getD 1 false:=listed_ne (by decide)
    have e2:(listed.setIfInBounds 0 true).getD 2 false=listed.getD 2 false:=listed_ne (by decide)
    have e3:(listed.setIfInBounds 0 true).getD 3 false=listed.getD 3 false:=listed_ne (by decide)
    have e4:(listed.setIfInBounds 0 true).getD 4 false=listed.getD 4 false:=listed_ne (by decide)
    have e5:(listed.setIfInBounds 0 true).getD 5 false=listed.getD 5 false:=listed_ne (by decide)
    have e6:(listed.setIfInBounds 0 true).getD 6 false=listed.getD 6 false:=listed_ne (by decide)
    have e7:(listed.setIfInBounds 0 true).getD 7 false=listed.getD 7 false:=listed_ne (by decide)
    have e8:(listed.setIfInBounds 0 true).getD 8 false=listed.getD 8 false:=listed_ne (by decide)
    have en:=not_yet hi
    refine wpOpIn_one rfl rfl ?_
    gi_wp2_with fail
    refine ⟨trivial,(callsIn_wide.2 (HU.out _)).mono ?_⟩
    rintro e w1 ⟨rfl,bU,hB1⟩
    have hs:=hF.hB.size
    have hf:=hF.below hB1
    gi_wp2
    exact ⟨_,_,_,_,_,_,_,rfl,{ hB:=hf.hB,f0:=(fun _=>⟨_,rfl,hs,bU⟩),f1:=(by simpa only [e1] using hf.f1),f2:=(by simpa only [e2] using hf.f2),f3:=(by simpa only [e3] using hf.f3),f4:=(by simpa only [e4] using hf.f4),f5:=(fun h=>by rw [e5] at h;obtain ⟨c,y,h1,h2,h3,h4,_⟩:=hf.f5 h;exact ⟨c,y,h1,h2,h3,h4,fun h7=>by rw [e7] at h7;have:=(hf.c7 h7).2;rw [en] at this;cases this⟩),f6:=(by simpa only [e6,e8] using hf.f6),fd:=(by simpa only [e5,e6] using hf.fd),c32:=(by simpa only [e3,e2] using hf.c32),c43:=(by simpa only [e4,e3] using hf.c43),c7:=(fun h=>by rw [e7] at h;have:=(hf.c7 h).2;rw [en] at this;cases this),c8:=(by simpa only [e8,e6,e4] using hf.c8) }⟩
  · -- operation 1
    have e0:(listed.setIfInBounds 1 true).getD 0 false=listed.getD 0 false:=listed_ne (by decide)
    have e2:(listed.setIfInBounds 1 true).getD 2 false=listed.getD 2 false:=listed_ne (by decide)
    have e3:(listed.setIfInBounds 1 true).getD 3 false=listed.getD 3 false:=listed_ne (by decide)
    have e4:(listed.setIfInBounds 1 true).getD 4 false=listed.getD 4 false:=listed_ne (by decide)
    have e5:(listed.setIfInBounds 1 true).getD 5 false=listed.getD 5 false:=listed_ne (by decide)
    have e6:(listed.setIfInBounds 1 true).getD 6 false=listed.getD 6 false:=listed_ne (by decide)
    have e7:(listed.setIfInBounds 1 true).getD 7 false=listed.getD 7 false:=listed_ne (by decide)
    have e8:(listed.setIfInBounds 1 true).getD 8 false=listed.getD 8 false:=listed_ne (by decide)
    have en:=not_yet hi
    refine wpOpIn_one rfl rfl ?_
    have bgw:=bg.below hF.hB bg.lt
    have c0:=bgw.cell 0
    have c1:=bgw.cell 1
    simp only [gz9] at c0 c1
    have hf:=hF
    gi_wp2
    exact ⟨_,_,_,_,_,_,_,rfl,{ hB:=hf.hB,f0:=(by simpa only [e0] using hf.f0),f1:=(fun _=>rfl),f2:=(by simpa only [e2] using hf.f2),f3:=(by simpa only [e3] using hf.f3),f4:=(by simpa only [e4] using hf.f4),f5:=(by simpa only [e5,e7] using hf.f5),f6:=(by simpa only [e6,e8] using hf.f6),fd:=(by simpa only [e5,e6] using hf.fd),c32:=(by simpa only [e3,e2] using hf.c32),c43:=(by simpa only [e4,e3] using hf.c43),c7:=(by simpa only [e7,e5,e0] using hf.c7),c8:=(by simpa only [e8,e6,e4] using hf.c8) }⟩
  · -- operation 2
    have e0:(listed.setIfInBounds 2 true).getD 0 false=listed.getD 0 false:=listed_ne (by decide)
    have e1:(listed.setIfInBounds 2 true).getD 1 false=listed.getD 1 false:=listed_ne (by decide)
    have e3:(listed.setIfInBounds 2 true).getD 3 false=listed.getD 3 false:=listed_ne (by decide)
    have e4:(listed.setIfInBounds 2 true).getD 4 false=listed.getD 4 false:=listed_ne (by decide)
    have e5:(listed.setIfInBounds 2 true).getD 5 false=listed.getD 5 false:=listed_ne (by decide)
    have e6:(listed.setIfInBounds 2 true).getD 6 false=listed.getD 6 false:=listed_ne (by decide)
    have e7:(listed.setIfInBounds 2 true).getD 7 false=listed.getD 7 false:=listed_ne (by decide)
    have e8:(listed.setIfInBounds 2 true).getD 8 false=listed.getD 8 false:=listed_ne (by decide)
    have en:=not_yet hi
    refine wpOpIn_one rfl rfl ?_
    have hp:=ready_on hi rfl [1] (by kernel_rfl)
    obtain rfl:=hF.f1 (hp 1 (by simp))
    gi_wp2_with fail
    refine ⟨trivial,(callsIn_wide.2 (HA.out _ hF.hB)).mono ?_⟩
    rintro e w1 ⟨u,rfl,hu,hB1⟩
    have hs:=hF.hB.size
    have hf:=hF.below hB1
    gi_wp2
    exact ⟨_,_,_,_,_,_,_,rfl,{ hB:=hf.hB,f0:=(by simpa only [e0] using hf.f0),f1:=(by simpa only [e1] using hf.f1),f2:=(fun _=>hu.less hs),f3:=(fun h=>by rw [e3] at h;have:=hf.c32 h;rw [en] at this;cases this),f4:=(by simpa only [e4] using hf.f4),f5:=(by simpa only [e5,e7] using hf.f5),f6:=(by simpa only [e6,e8] using hf.f6),fd:=(by simpa only [e5,e6] using hf.fd),c32:=(fun h=>by rw [e3] at h;have:=hf.c32 h;rw [en] at this;cases this),c43:=(by simpa only [e4,e3] using hf.c43),c7:=(by simpa only [e7,e5,e0] using hf.c7),c8:=(by simpa only [e8,e6,e4] using hf.c8) }⟩
  · -- operation 3
    have e0:(listed.setIfInBounds 3 true).getD 0 false=listed.getD 0 false:=listed_ne (by decide)
    have e1:(listed.setIfInBounds 3 true).getD 1 false=listed.getD 1 false:=listed_ne (by decide)
    have e2:(listed.setIfInBounds 3 true).getD 2 false=listed.getD 2 false:=listed_ne (by decide)
    have e4:(listed.setIfInBounds 3 true).getD 4 false=listed.getD 4 false:=listed_ne (by decide)
    have e5:(listed.setIfInBounds 3 true).getD 5 false=listed.getD 5 false:=listed_ne (by decide)
    have e6:(listed.setIfInBounds 3 true).getD 6 false=listed.getD 6 false:=listed_ne (by decide)
    have e7:(listed.setIfInBounds 3 true).getD 7 false=listed.getD 7 false:=listed_ne (by decide)
    have e8:(listed.setIfInBounds 3 true).getD 8 false=listed.getD 8 false:=listed_ne (by decide)
    have en:=not_yet hi
    refine wpOpIn_one rfl rfl ?_
    have hp:=ready_on hi rfl [2] (by kernel_rfl)
    obtain ⟨A7,n7,hx7,_⟩:=id (hF.f2 (hp 2 (by simp)))
    subst hx7
    have hs:=hF.hB.size
    have hf:=hF.below (below_one w (.cells #[.slice A7 adj.length n7] 32))
    have bx:=Blk.new w 32 #[.slice A7 adj.length n7]
    gi_wp2
    exact ⟨_,_,_,_,_,_,_,rfl,{ hB:=hf.hB,f0:=(by simpa only [e0] using hf.f0),f1:=(by simpa only [e1] using hf.f1),f2:=(by simpa only [e2] using hf.f2),f3:=(fun _=>⟨_,rfl,hs,bx⟩),f4:=(fun h=>by rw [e4] at h;have:=hf.c43 h;rw [en] at this;cases this),f5:=(by simpa only [e5,e7] using hf.f5),f6:=(by simpa only [e6,e8] using hf.f6),fd:=(by simpa only [e5,e6] using hf.fd),c32:=(fun _=>by rw [e2];exact hp 2 (by simp)),c43:=(fun h=>by rw [e4] at h;have:=hf.c43 h;rw [en] at this;cases this),c7:=(by simpa only [e7,e5,e0] using hf.c7),c8:=(by simpa only [e8,e6,e4] using hf.c8) }⟩
  · -- operation 4
    have e0:(listed.setIfInBounds 4 true).getD 0 false=listed.getD 0 false:=listed_ne (by decide)
    have e1:(listed.setIfInBounds 4 true).getD 1 false=listed.getD 1 false:=listed_ne (by decide)
    have e2:(listed.setIfInBounds 4 true).getD 2 false=listed.getD 2 false:=listed_ne (by decide)
    have e3:(listed.setIfInBounds 4 true).getD 3 false=listed.getD 3 false:=listed_ne (by decide)
    have e5:(listed.setIfInBounds 4 true).getD 5 false=listed.getD 5 false:=listed_ne (by decide)
    have e6:(listed.setIfInBounds 4 true).getD 6 false=listed.getD 6 false:=listed_ne (by decide)
    have e7:(listed.setIfInBounds 4 true).getD 7 false=listed.getD 7 false:=listed_ne (by decide)
    have e8:(listed.setIfInBounds 4 true).getD 8 false=listed.getD 8 false:=listed_ne (by decide)
    have en:=not_yet hi
    refine wpOpIn_one rfl rfl ?_
    have hp:=ready_on hi rfl [3] (by kernel_rfl)
    obtain ⟨c8,hx8,_,_⟩:=id (hF.f3 (hp 3 (by simp)))
    subst hx8
    gi_wp2_with fail
    refine ⟨trivial,(callsIn_wide.2 (HV.out _ _)).mono ?_⟩
    rintro e w1 ⟨rfl,bU,hB1⟩
    have hs:=hF.hB.size
    have hf:=hF.below hB1
    gi_wp2
    exact ⟨_,_,_,_,_,_,_,rfl,{ hB:=hf.hB,f0:=(by simpa only [e0] using hf.f0),f1:=(by simpa only [e1] using hf.f1),f2:=(by simpa only [e2] using hf.f2),f3:=(by simpa only [e3] using hf.f3),f4:=(fun _=>⟨_,rfl,hs,bU⟩),f5:=(by simpa only [e5,e7] using hf.f5),f6:=(fun h=>by rw [e6] at h;obtain ⟨c,y,h1,h2,h3,h4,_⟩:=hf.f6 h;exact ⟨c,y,h1,h2,h3,h4,fun h7=>by rw [e8] at h7;have:=(hf.c8 h7).2;rw [en] at this;cases this⟩),fd:=(by simpa only [e5,e6] using hf.fd),c32:=(by simpa only [e3,e2] using hf.c32),c43:=(fun _=>by rw [e3];exact hp 3 (by simp)),c7:=(by simpa only [e7,e5,e0] using hf.c7),c8:=(fun h=>by rw [e8] at h;have:=(hf.c8 h).2;rw [en] at this;cases this) }⟩
  · -- operation 5
    have e0:(listed.setIfInBounds 5 true).getD 0 false=listed.getD 0 false:=listed_ne (by decide)
    have e1:(listed.setIfInBounds 5 true).getD 1 false=listed.getD 1 false:=listed_ne (by decide)
    have e2:(listed.setIfInBounds 5 true).getD 2 false=listed.getD 2 false:=listed_ne (by decide)
    have e3:(listed.setIfInBounds 5 true).getD 3 false=listed.getD 3 false:=listed_ne (by decide)
    have e4:(listed.setIfInBounds 5 true).getD 4 false=listed.getD 4 false:=listed_ne (by decide)
    have e6:(listed.setIfInBounds 5 true).getD 6 false=listed.getD 6 false:=listed_ne (by decide)
    have e7:(listed.setIfInBounds 5 true).getD 7 false=listed.getD 7 false:=listed_ne (by decide)
    have e8:(listed.setIfInBounds 5 true).getD 8 false=listed.getD 8 false:=listed_ne (by decide)
    have en:=not_yet hi
    refine wpOpIn_one rfl rfl ?_
    have hs:=hF.hB.size
    have hf:=hF.below (below_one w (.cells #[Value.nilFunc] 135))
    have bx:=Blk.new w 135 #[Value.nilFunc]
    gi_wp2
    exact ⟨_,_,_,_,_,_,_,rfl,{ hB:=hf.hB,f0:=(by simpa only [e0] using hf.f0),f1:=(by simpa only [e1] using hf.f1),f2:=(by simpa only [e2] using hf.f2),f3:=(by simpa only [e3] using hf.f3),f4:=(by simpa only [e4] using hf.f4),f5:=(fun _=>⟨_,_,rfl,hs,bx,fun _ _ h=>(by cases h),fun h=>by rw [e7] at h;have:=(hf.c7 h).1;rw [en] at this;cases this⟩),f6:=(by simpa only [e6,e8] using hf.f6),fd:=(fun _ h=>by rw [e6] at h;obtain ⟨c,y,h1,_,h3,_⟩:=hF.f6 h;rw [h1];intro e;injection e with e;injection e with e;injection e with e;have:=h3.lt;omega),c32:=(by simpa only [e3,e2] using hf.c32),c43:=(by simpa only [e4,e3] using hf.c43),c7:=(fun h=>by rw [e7] at h;have:=(hf.c7 h).1;rw [en] at this;cases this),c8:=(by simpa only [e8,e6,e4] using hf.c8) }⟩
  · -- operation 6
    have e0:(listed.setIfInBounds 6 true).getD 0 false=listed.getD 0 false:=listed_ne (by decide)
    have e1:(listed.setIfInBounds 6 true).getD 1 false=listed.getD 1 false:=listed_ne (by decide)
    have e2:(listed.setIfInBounds 6 true).getD 2 false=listed.getD 2 false:=listed_ne (by decide)
    have e3:(listed.setIfInBounds 6 true).getD 3 false=listed.getD 3 false:=listed_ne (by decide)
    have e4:(listed.setIfInBounds 6 true).getD 4 false=listed.getD 4 false:=listed_ne (by decide)
    have e5:(listed.setIfInBounds 6 true).getD 5 false=listed.getD 5 false:=listed_ne (by decide)
    have e7:(listed.setIfInBounds 6 true).getD 7 false=listed.getD 7 false:=listed_ne (by decide)
    have e8:(listed.setIfInBounds 6 true).getD 8 false=listed.getD 8 false:=listed_ne (by decide)
    have en:=not_yet hi
    refine wpOpIn_one rfl rfl ?_
    have hs:=hF.hB.size
    have hf:=hF.below (below_one w (.cells #[Value.nilFunc] 135))
    have bx:=Blk.new w 135 #[Value.nilFunc]
    gi_wp2
    exact ⟨_,_,_,_,_,_,_,rfl,{ hB:=hf.hB,f0:=(by simpa only [e0] using hf.f0),f1:=(by simpa only [e1] using hf.f1),f2:=(by simpa only [e2] using hf.f2),f3:=(by simpa only [e3] using hf.f3),f4:=(by simpa only [e4] using hf.f4),f5:=(by simpa only [e5,e7] using hf.f5),f6:=(fun _=>⟨_,_,rfl,hs,bx,fun _ _ h=>(by cases h),fun h=>by rw [e8] at h;have:=(hf.c8 h).1;rw [en] at this;cases this⟩),fd:=(fun h _=>by rw [e5] at h;obtain ⟨c,y,h1,_,h3,_⟩:=hF.f5 h;rw [h1];intro e;injection e with e;injection e with e;injection e with e;have:=h3.lt;omega),c32:=(by simpa only [e3,e2] using hf.c32),c43:=(by simpa only [e4,e3] using hf.c43),c7:=(by simpa only [e7,e5,e0] using hf.c7),c8:=(fun h=>by rw [e8] at h;have:=(hf.c8 h).1;rw [en] at this;cases this) }⟩
  · -- operation 7
    have e0:(listed.setIfInBounds 7 true).getD 0 false=listed.getD 0 false:=listed_ne (by decide)
    have e1:(listed.setIfInBounds 7 true).getD 1 false=listed.getD 1 false:=listed_ne (by decide)
    have e2:(listed.setIfInBounds 7 true).getD 2 false=listed.getD 2 false:=listed_ne (by decide)
    have e3:(listed.setIfInBounds 7 true).getD 3 false=listed.getD 3 false:=listed_ne (by decide)
    have e4:(listed.setIfInBounds 7 true).getD 4 false=listed.getD 4 false:=listed_ne (by decide)
    have e5:(listed.setIfInBounds 7 true).getD 5 false=listed.getD 5 false:=listed_ne (by decide)
    have e6:(listed.setIfInBounds 7 true).getD 6 false=listed.getD 6 false:=listed_ne (by decide)
    have e8:(listed.setIfInBounds 7 true).getD 8 false=listed.getD 8 false:=listed_ne (by decide)
    have en:=not_yet hi
    refine wpOpIn_one rfl rfl ?_
    have hp:=ready_on hi rfl [0,4,5,6] (by kernel_rfl)
    obtain ⟨c,y,hx,hc,hy,hyn,_⟩:=hF.f5 (hp 5 (by simp))
    obtain ⟨cs,hsv,_,_⟩:=id (hF.f0 (hp 0 (by simp)))
    obtain ⟨cz,yz,hxz,_,hyz,_,_⟩:=id (hF.f6 (hp 6 (by simp)))
    subst hxz
    have hne:=hF.fd (hp 5 (by simp)) (hp 6 (by simp))
    subst hx
    subst hsv
    have hcz:c≠cz:=fun e=>hne (by rw [e])
    have cy:=hy.one
    have fy:=hy.frozen 0
    have hf:=hF
    gi_wp2
    exact ⟨_,_,_,_,_,_,_,rfl,{ hB:=hf.hB.setCell hc _,f0:=(fun h=>by rw [e0] at h;obtain ⟨d,h1,h2,h3⟩:=hf.f0 h;exact ⟨d,h1,h2,h3.far (Blk.ne_type h3 hy (by decide)) _⟩),f1:=(by simpa only [e1] using hf.f1),f2:=(fun h=>by rw [e2] at h;exact Fresh.far_blk (hf.f2 h) hy hyn _),f3:=(fun h=>by rw [e3] at h;obtain ⟨d,h1,h2,h3⟩:=hf.f3 h;exact ⟨d,h1,h2,h3.far (Blk.ne_type h3 hy (by decide)) _⟩),f4:=(fun h=>by rw [e4] at h;obtain ⟨d,h1,h2,h3⟩:=hf.f4 h;exact ⟨d,h1,h2,h3.far (Blk.ne_type h3 hy (by decide)) _⟩),f5:=(fun _=>⟨c,_,rfl,hc,hy.set_ 0 _,fun _ _ h=>(by cases h),fun _=>rfl⟩),f6:=(fun h=>by rw [e6] at h;obtain ⟨d,z,h1,h2,h3,h4,h5⟩:=hf.f6 h;have hdc:d=cz:=(by injection h1 with h1;injection h1 with h1;injection h1 with h1;exact h1.symm);subst hdc;exact ⟨d,z,rfl,h2,h3.far (Ne.symm hcz) _,h4,fun h=>h5 (by rw [e8] at h;exact h)⟩),fd:=(by simpa only [e5,e6] using hf.fd),c32:=(by simpa only [e3,e2] using hf.c32),c43:=(by simpa only [e4,e3] using hf.c43),c7:=(fun _=>⟨by rw [e5];exact hp 5 (by simp),by rw [e0];exact hp 0 (by simp)⟩),c8:=(by simpa only [e8,e6,e4] using hf.c8) }⟩
  · -- operation 8
    have e0:(listed.setIfInBounds 8 true).getD 0 false=listed.getD 0 false:=listed_ne (by decide)
    have e1:(listed.setIfInBounds 8 true).getD 1 false=listed.getD 1 false:=listed_ne (by decide)
    have e2:(listed.setIfInBounds 8 true).getD 2 false=listed.getD 2 false:=listed_ne (by decide)
    have e3:(listed.setIfInBounds 8 true).getD 3 false=listed.getD 3 false:=listed_ne (by decide)
    have e4:(listed.setIfInBounds 8 true).getD 4 false=listed.getD 4 false:=listed_ne (by decide)
    have e5:(listed.setIfInBounds 8 true).getD 5 false=listed.getD 5 false:=listed_ne (by decide)
    have e6:(listed.setIfInBounds 8 true).getD 6 false=listed.getD 6 false:=listed_ne (by decide)
    have e7:(listed.setIfInBounds 8 true).getD 7 false=listed.getD 7 false:=listed_ne (by decide)
    have en:=not_yet hi
    refine wpOpIn_one rfl rfl ?_
    have hp:=ready_on hi rfl [0,4,5,6,7] (by kernel_rfl)
    obtain ⟨c,y,hx,hc,hy,hyn,_⟩:=hF.f6 (hp 6 (by simp))
    obtain ⟨cs,hsv,_,_⟩:=id (hF.f4 (hp 4 (by simp)))
    obtain ⟨cz,yz,hxz,_,hyz,_,_⟩:=id (hF.f5 (hp 5 (by simp)))
    subst hxz
    have hne:=hF.fd (hp 5 (by simp)) (hp 6 (by simp))
    subst hx
    subst hsv
    have hcz:c≠cz:=fun e=>hne (by rw [e])
    have cy:=hy.one
    have fy:=hy.frozen 0
    have hf:=hF
    gi_wp2
    exact ⟨_,_,_,_,_,_,_,rfl,{ hB:=hf.hB.setCell hc _,f0:=(fun h=>by rw [e0] at h;obtain ⟨d,h1,h2,h3⟩:=hf.f0 h;exact ⟨d,h1,h2,h3.far (Blk.ne_type h3 hy (by decide)) _⟩),f1:=(by simpa only [e1] using hf.f1),f2:=(fun h=>by rw [e2] at h;exact Fresh.far_blk (hf.f2 h) hy hyn _),f3:=(fun h=>by rw [e3] at h;obtain ⟨d,h1,h2,h3⟩:=hf.f3 h;exact ⟨d,h1,h2,h3.far (Blk.ne_type h3 hy (by decide)) _⟩),f4:=(fun h=>by rw [e4] at h;obtain ⟨d,h1,h2,h3⟩:=hf.f4 h;exact ⟨d,h1,h2,h3.far (Blk.ne_type h3 hy (by decide)) _⟩),f5:=(fun h=>by rw [e5] at h;obtain ⟨d,z,h1,h2,h3,h4,h5⟩:=hf.f5 h;have hdc:d=cz:=(by injection h1 with h1;injection h1 with h1;injection h1 with h1;exact h1.symm);subst hdc;exact ⟨d,z,rfl,h2,h3.far (Ne.symm hcz) _,h4,fun h=>h5 (by rw [e7] at h;exact h)⟩),f6:=(fun _=>⟨c,_,rfl,hc,hy.set_ 0 _,fun _ _ h=>(by cases h),fun _=>rfl⟩),fd:=(by simpa only [e5,e6] using hf.fd),c32:=(by simpa only [e3,e2] using hf.c32),c43:=(by simpa only [e4,e3] using hf.c43),c7:=(by simpa only [e7,e5,e0] using hf.c7),c8:=(fun _=>⟨by rw [e6];exact hp 6 (by simp),by rw [e4];exact hp 4 (by simp)⟩) }⟩

 case fin =>
  rintro listed a w2 hall ⟨x3,x4,x5,x6,x7,x8,x9,rfl,hF⟩
  have hl:∀ i,i<9→listed.getD i false=true:=hall
  obtain ⟨c5,rfl,h5,b5⟩:=hF.f0 (hl 0 (by omega))
  obtain rfl:=hF.f1 (hl 1 (by omega))
  have hx7:=hF.f2 (hl 2 (by omega))
  obtain ⟨c8,rfl,h8,b8⟩:=hF.f3 (hl 3 (by omega))
  obtain ⟨c9,rfl,h9,b9⟩:=hF.f4 (hl 4 (by omega))
  obtain ⟨c3,y3,rfl,h3,b3,_,e3⟩:=hF.f5 (hl 5 (by omega))
  obtain rfl:=e3 (hl 7 (by omega))
  obtain ⟨c4,y4,rfl,h4,b4,_,e4⟩:=hF.f6 (hl 6 (by omega))
  obtain rfl:=e4 (hl 8 (by omega))
  have hBf:=hF.hB
  clear hF hall hl
  subst hadj
  have b0f:=b0.below hBf b0.lt
  have c0:=b0f.cell 0
  have c1:=b0f.cell 1
  simp only [gz9] at c0 c1
  have hL2:=hL1.next hBf
  have hB2:=Nat.le_trans hB1 hBf.size
  have hC2:=HM1.out w2 hBf
  have hR1:=hok0.out.1
  have HRw:=Lib.hid (fun (U:World) (hU:Below w2.heap.size w2 U)=>E.rows_any p hR1 U (hL2.next hU))
  have HL1:=Lib.hid (fun (U:World) (hU:Below w2.heap.size w2 U)=>listedP_any (fun _=>False) _ _ (rowsMade (p - 1).toNat css) U (fun _ h=>h.elim) (by rw [rowsMade_len];omega) (makesF_rows p (.slice A n cap) css HOK.out U (Nat.le_trans hB2 hU.size) (hC2.below (hU.mono hB2)) c3 w.heap.size c5 (b3.below hU b3.lt) (b0f.below hU b0f.lt) (b5.below hU b5.lt)))
  have HL2:=Lib.hid (fun (U:World) (hU:Below w2.heap.size w2 U)=>listedP_any (fun _=>False) _ _ (diagsMade p (p - 1).toNat css) U (fun _ h=>h.elim) (by rw [diagsMade_len];omega) (makesF_diags p (.slice A n cap) css HOK.out U (hL2.next hU) (Nat.le_trans hB2 hU.size) (hC2.below (hU.mono hB2)) c4 w.heap.size c9 c8 x7 (b4.below hU b4.lt) (b0f.below hU b0f.lt) (b9.below hU b9.lt) (b8.below hU b8.lt) (hx7.below hU)))
  rw [rowsMade_len,show (((p - 1).toNat:Nat):Int)=p - 1 by omega] at HL1
  rw [diagsMade_len,show (((p - 1).toNat:Nat):Int)=p - 1 by omega] at HL2
  have HENC:Hid (encOf p css = [rowsMade (p - 1).toNat css,diagsMade p (p - 1).toNat css]):=rfl
  have HLR:Hid ((rowsMade (p - 1).toNat css).length=(p - 1).toNat):=rowsMade_len _
  have HLD:Hid ((diagsMade p (p - 1).toNat css).length=(p - 1).toNat):=diagsMade_len _
  generalize rowsMade (p - 1).toNat css=rm at *
  generalize diagsMade p (p - 1).toNat css=dm at *
  clear hx7 hC2 b3 b4 b5 b8 b9 hR1
  have hBx:Below w2.heap.size w2 w2:=Below.refl _ _
  gi_wp2_with fail
  have hS:(fun V:World=>V.cell? ⟨w.heap.size,0,none⟩=some (.int .i64 p)∧V.cell? ⟨w.heap.size,1,none⟩=some (.slice A n cap)) w2.drew:=⟨c0,c1⟩
  refine wpIn_mono (region_HF (Q:=NoPanic _) (S:=(fun V:World=>V.cell? ⟨w.heap.size,0,none⟩=some (.int .i64 p)∧V.cell? ⟨w.heap.size,1,none⟩=some (.slice A n cap))) (by kernel_rfl) ?_) NoPanic.imp
  refine tkF (i:=0) (d:=10) (v:=.pointer (some ⟨w.heap.size,0,none⟩)) (s:=hS) (c:=?_)
  simp only [ud9]
  refine tkF (i:=1) (d:=11) (v:=.int .i64 p) (s:=hS) (c:=?_)
  simp only [ud9]
  refine tkF (i:=3) (d:=13) (v:=.func (.func 227) #[] #[.pointer (some ⟨c3,0,none⟩),.pointer (some ⟨w.heap.size,0,none⟩)]) (s:=hS) (c:=?_)
  simp only [ud9]
  refine tkF (i:=5) (d:=15) (v:=.pointer (some ⟨w.heap.size,0,none⟩)) (s:=hS) (c:=?_)
  simp only [ud9]
  refine tkF (i:=6) (d:=16) (v:=.int .i64 p) (s:=hS) (c:=?_)
  simp only [ud9]
  refine tkF (i:=8) (d:=18) (v:=.func (.func 229) #[] #[.pointer (some ⟨c4,0,none⟩),.pointer (some ⟨w.heap.size,0,none⟩)]) (s:=hS) (c:=?_)
  simp only [ud9]
  refine oneF (i:=2) (c:=?_)
  gi_wp2_with fail
  refine ⟨trivial,(callsIn_wide.2 (HRw.out _ hBx.drew)).mono ?_⟩
  rintro e w3 ⟨rfl,hBn⟩
  replace hBn:=below_undrew hBn
  replace hBx:=below_in hBx hBn
  clear hS
  have hS:(fun V:World=>V.cell? ⟨w.heap.size,0,none⟩=some (.int .i64 p)∧V.cell? ⟨w.heap.size,1,none⟩=some (.slice A n cap)) w3:=⟨(hBx.cell (p:=⟨w.heap.size,0,none⟩) b0f.lt).trans c0,(hBx.cell (p:=⟨w.heap.size,1,none⟩) b0f.lt).trans c1⟩
  clear hBn
  gi_wp2
  refine oneF (i:=4) (c:=?_)
  gi_wp2_with fail
  refine ⟨trivial,(callsIn_wide.2 (HL1.out _ hBx)).mono ?_⟩
  rintro e w3 ⟨u1,rfl,hf1,hBn⟩
  have hm1:Many w3.heap.size w3 u1 rm:=hf1.many fun b hb=>hb.2
  replace hf1:manyR.R (fun b=>w.heap.size≤b∧b<w3.heap.size) w3 u1 rm:=manyR.imp (show manyR.R _ w3 u1 rm from hf1) fun b hb=>⟨hb.1.elim (fun h=>h.elim) (fun h=>Nat.le_trans (Nat.le_trans hBW.size (Nat.le_trans hBf.size hBx.size)) h),hb.2⟩
  replace hBx:=below_in hBx hBn
  clear hS
  have hS:(fun V:World=>V.cell? ⟨w.heap.size,0,none⟩=some (.int .i64 p)∧V.cell? ⟨w.heap.size,1,none⟩=some (.slice A n cap)) w3:=⟨(hBx.cell (p:=⟨w.heap.size,0,none⟩) b0f.lt).trans c0,(hBx.cell (p:=⟨w.heap.size,1,none⟩) b0f.lt).trans c1⟩
  have hmr:=hm1
  obtain ⟨A1,k1,hu1,_,_⟩:=id hm1
  subst hu1
  clear hBn
  gi_wp2
  refine oneF (i:=7) (c:=?_)
  gi_wp2_with fail
  refine ⟨trivial,(callsIn_wide.2 (HRw.out _ hBx)).mono ?_⟩
  rintro e w3 ⟨rfl,hBn⟩
  replace hBx:=below_in hBx hBn
  clear hS
  have hS:(fun V:World=>V.cell? ⟨w.heap.size,0,none⟩=some (.int .i64 p)∧V.cell? ⟨w.heap.size,1,none⟩=some (.slice A n cap)) w3:=⟨(hBx.cell (p:=⟨w.heap.size,0,none⟩) b0f.lt).trans c0,(hBx.cell (p:=⟨w.heap.size,1,none⟩) b0f.lt).trans c1⟩
  replace hm1:=(hm1.below hBn).more hBn.size
  replace hf1:=manyR.imp (Rep.below manyR hf1 (fun b hb=>hb.2) hBn) fun b hb=>(⟨hb.1,Nat.lt_of_lt_of_le hb.2 hBn.size⟩:w.heap.size≤b∧b < _)
  clear hBn
  gi_wp2
  refine oneF (i:=9) (c:=?_)
  gi_wp2_with fail
  refine ⟨trivial,(callsIn_wide.2 (HL2.out _ hBx)).mono ?_⟩
  rintro e w3 ⟨u2,rfl,hf2,hBn⟩
  have hm2:Many w3.heap.size w3 u2 dm:=hf2.many fun b hb=>hb.2
  replace hf2:manyR.R (fun b=>w.heap.size≤b∧b<w3.heap.size) w3 u2 dm:=manyR.imp (show manyR.R _ w3 u2 dm from hf2) fun b hb=>⟨hb.1.elim (fun h=>h.elim) (fun h=>Nat.le_trans (Nat.le_trans hBW.size (Nat.le_trans hBf.size hBx.size)) h),hb.2⟩
  replace hBx:=below_in hBx hBn
  clear hS
  have hS:(fun V:World=>V.cell? ⟨w.heap.size,0,none⟩=some (.int .i64 p)∧V.cell? ⟨w.heap.size,1,none⟩=some (.slice A n cap)) w3:=⟨(hBx.cell (p:=⟨w.heap.size,0,none⟩) b0f.lt).trans c0,(hBx.cell (p:=⟨w.heap.size,1,none⟩) b0f.lt).trans c1⟩
  replace hm1:=(hm1.below hBn).more hBn.size
  replace hf1:=manyR.imp (Rep.below manyR hf1 (fun b hb=>hb.2) hBn) fun b hb=>(⟨hb.1,Nat.lt_of_lt_of_le hb.2 hBn.size⟩:w.heap.size≤b∧b < _)
  obtain ⟨A2,k2,hu2,_,_⟩:=id hm2
  subst hu2
  clear hBn
  gi_wp2
  have hb3:=below_one w3 (.cells #[.slice A1 rm.length k1,.slice A2 dm.length k2] 58)
  have bz:=Blk.new w3 58 #[.slice A1 rm.length k1,.slice A2 dm.length k2]
  have hSz:(fun V:World=>V.cell? ⟨w.heap.size,0,none⟩=some (.int .i64 p)∧V.cell? ⟨w.heap.size,1,none⟩=some (.slice A n cap)) (w3.alloc (.cells #[.slice A1 rm.length k1,.slice A2 dm.length k2] 58)):=⟨(hb3.cell (p:=⟨w.heap.size,0,none⟩) (Nat.lt_of_lt_of_le b0f.lt hBx.size)).trans hS.1,(hb3.cell (p:=⟨w.heap.size,1,none⟩) (Nat.lt_of_lt_of_le b0f.lt hBx.size)).trans hS.2⟩
  refine oneF (i:=10) (c:=?_)
  gi_wp2
  refine oneF (i:=11) (c:=?_)
  gi_wp2
  refine anyHF_done (by kernel_rfl) ?_ _
  refine NoPanic.normal ?_
  gi_wp2
  have hq1:=(hm1.below hb3).more hb3.size
  have hq2:=(hm2.below hb3).more hb3.size
  have hw3:w.heap.size≤w3.heap.size:=Nat.le_trans hBW.size (Nat.le_trans hBf.size hBx.size)
  have hfin:Below w.heap.size w (w3.alloc (.cells #[.slice A1 rm.length k1,.slice A2 dm.length k2] 58)):=below_in hBW (below_in hBf (below_in hBx hb3))
  generalize w3.alloc (.cells #[.slice A1 rm.length k1,.slice A2 dm.length k2] 58)=w4 at *
  refine ⟨.slice (some ⟨w3.heap.size,0,none⟩) 2 2,by simp [results,Tryz.results191,go_sem],_,rfl,?_,hfin⟩
  rw [HENC.out]
  have hs34:=hb3.size
  refine ⟨[.slice A1 rm.length k1,.slice A2 dm.length k2],⟨rfl,.inr ⟨w3.heap.size,2,#[.slice A1 rm.length k1,.slice A2 dm.length k2],rfl,hw3,bz,Nat.le_refl _,by unfold maxLen;omega,rfl,rfl⟩⟩,rfl,fun j u hj=>?_⟩
  have hj2:j=0∨j=1:=by
   rcases Nat.lt_or_ge j 2 with h | h
   · omega
   · rw [List.getElem?_eq_none (by simpa using h)] at hj;cases hj
  rcases hj2 with rfl | rfl
  · cases hj
    exact manyR.imp (Rep.below manyR hf1 (fun b hb=>hb.2) hb3) fun b hb=>⟨by omega,fun e=>by injection e with e;have:b=w3.heap.size:=e;omega,hb.1⟩
  · cases hj
    exact manyR.imp (Rep.below manyR hf2 (fun b hb=>hb.2) hb3) fun b hb=>⟨by omega,fun e=>by injection e with e;have:b=w3.heap.size:=e;omega,hb.1⟩
theorem encodeRow_yes {B:Nat} (p:Int) (v:Value) (css:List (List (List UInt8))) (hok:DataOk p css) (w:World) (hL:Laid w) (hB:B≤w.heap.size) (hC:Cols B w v css) :
 Calls Tryz.prog 160 #[.int .i64 p,v] w fun e w'=>∃ u,e = .returned (.tuple #[u,.int .i64 0])∧RowC (fun b=>w.heap.size≤b) w' w.heap.size u (encOf p css)∧Below w.heap.size w w':=by
 have hdn:=dataOk_n hok
 obtain ⟨A,cap,rfl,_,_⟩:=id hC
 obtain ⟨W2,hW2⟩:∃ W2,(w.alloc (.cells #[.int .i64 p] 3)).alloc (.cells #[.slice A css.length cap] 25)=W2:=⟨_,rfl⟩
 have b0:Blk W2 w.heap.size 3 #[.int .i64 p]:=by rw [←hW2];exact (Blk.new w _ _).alloc _
 have b1:Blk W2 (w.heap.size+1) 25 #[.slice A css.length cap]:=by rw [←hW2];exact Blk.second w _ _ _
 have hBW:Below w.heap.size w W2:=by rw [←hW2];exact below_two w _ _
 have hL2:=hL.next hBW
 have HA:=Lib.hid (E.ans_S_yes 188 #[.pointer (some ⟨w.heap.size,0,none⟩),.pointer (some ⟨w.heap.size+1,0,none⟩)] W2 (fun u W=>RowC (fun b=>w.heap.size≤b) W w.heap.size u (encOf p css)) (enter_encode1 _) (fun U hU _=>by
  have hLU:=hL2.next hU
  have hBU:=below_in hBW hU
  have hCU:=hC.below (hBU.mono hB)
  have HQ:=Lib.hid (E.asked_yes (B:=B) p (.slice A css.length cap) css U hLU (Nat.le_trans hB hBU.size) hCU (by omega) hok)
  have HE:=Lib.hid (fun (V:World) (hV:Below U.heap.size U V)=>encodedRow_any (B:=B) p (.slice A css.length cap) css hok V (hLU.next hV) (Nat.le_trans hB (Nat.le_trans hBU.size hV.size)) (hCU.below (hV.mono (Nat.le_trans hB hBU.size))))
  have c0:=(b0.below hU b0.lt).one
  have c1:=(b1.below hU b1.lt).one
  clear hC hCU hok hdn b0 b1 hW2 hL hL2 hLU
  generalize css.length=n at *
  go_enter Tryz.func188,Tryz.ntmps188
  go_wp2_with (first
   | (go_at_call 189;refine HQ.out.mono ?_;rintro e w1 ⟨rfl,hB1⟩)
   | (go_at_call 191;refine (HE.out _ hB1).mono ?_;rintro e w2 ⟨u,rfl,hu,hB2⟩))
  go_ret
  have hbu:=below_in hBU hB1
  exact ⟨_,rfl,RowG.q_ (RowG.base_ hu hbu.size) (fun b hb=>Nat.le_trans hbu.size hb),below_in hB1 hB2⟩))
 clear hC b0 b1 hL2 hok hdn
 generalize css.length=n at *
 go_enter Tryz.func160,Tryz.ntmps160
 have hmf:∀ (fn:Fn) (first cap:Array Value) (w:World),(Instr.makeFunc fn first cap).run Tryz.prog w = .ok (.func fn first cap) w:=fun _ _ _ _=>rfl
 go_wp2_with (go_at_call 187;refine HA.out.mono ?_;rintro e w1 ⟨u,W,rfl,hu,bE,rfl,hB1⟩)
 go_ret2
 exact ⟨u,rfl,RowC.set_int hu bE _,below_in hBW hB1⟩
end Go.Proofs.YtknkdbincaonbaaGreatDoor.T
