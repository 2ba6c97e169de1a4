/- -/
import Derived.Test.YtcchjofjpflbhaaGreatDoorPAG5
set_option linter.unusedVariables false
set_option linter.unusedSimpArgs false
set_option maxRecDepth 100000
set_option maxHeartbeats 2000000
namespace Go.Proofs.YtcchjofjpflbhaaGreatDoor.T
open Go.RowKit Go.Shelf Go.Proofs.YtcchjofjpflbhaaGreatDoor.C Go.Proofs.YtcchjofjpflbhaaGreatDoor.E
attribute [local go_sem] Oper.semAt_some

theorem walk1_inT (n:Nat) (hn:1≤n) (l g h lo m p:Nat) (hp:0<p) (hp2:p≤1000) (a s:Int) (a0:0≤a) (a1:a<p) (s0:0≤s) (s1:s<p) (hh1:lo≤h) (hh:h<lo+m) (W:World) (hnW:lo+m≤W.heap.size) (J Jx:List Int→(Nat→Prop)→World→Prop) (o₀:(Nat→Prop)) (ho₀:∀ b,o₀ b→b<W.heap.size)
 (hJ:FarO W.heap.size J)
 (hY:∀ pre (x:Int) o W1,J pre o W1→(0≤x∧x<(p:Int))∧pre ++ [x] <+: walkL p a s→pre.length<p→W.heap.size≤W1.heap.size→YieldAt Fence.wide (n - 1) Tryz.prog l #[.int .i64 x] W1 fun e W'=>∃ o',FreshO o o' W1∧SinceO W.heap.size o W1 W'∧((e = .returned (.bool true)∧J (pre ++ [x]) o' W'∧Keep lo m W1 W')∨(e = .returned (.bool false)∧Jx (pre ++ [x]) o' W'∧Keep lo m W1 W')))
 (bg:Blk W g 194 #[.int .i64 p,.int .i64 a]) (bh:Blk W h 192 #[.int .i64 s]) (h0:J [] o₀ W) :
 CallsIn Fence.wide n Tryz.prog 205 #[.func (.yield l) #[] #[],.pointer (some ⟨g,0,none⟩),.pointer (some ⟨h,0,none⟩)] W fun e W'=>(∃ v,e = .returned v)∧∃ o',FreshO o₀ o' W∧((∃ ys,ys=walkL p a s∧J ys o' W')∨(∃ pre,pre <+: walkL p a s∧Jx pre o' W')):=by
 have c0:W.cell? ⟨g,0,none⟩=some (.int .i64 p):=bg.cell 0
 have c1:W.cell? ⟨g,1,none⟩=some (.int .i64 a):=bg.cell 1
 refine callsIn_of_wp Tryz.func205 rfl trivial ?_ rfl
 simp only [Tryz.ntmps205,List.size_toArray,List.length_cons,List.length_nil,Nat.reduceAdd,Nat.reduceSub,Array.replicate_succ,Array.replicate_zero,List.push_toArray,List.append_toArray,List.nil_append,List.cons_append]
 refine wpIn_scope_wide ?_
 gi_wp2
 refine wpIn_label ?_
 obtain ⟨W0,hW0⟩:∃ W0,W.alloc (.cells #[.int .i64 p,.int .i64 a] 194)=W0:=⟨_,rfl⟩
 have bD:Blk W0 W.heap.size 194 #[.int .i64 p,.int .i64 (walkAt p a s 0)]:=by rw [←hW0,walkAt_zero p a s a0 (by omega)];exact Blk.new W _ _
 have hJ0:J [] o₀ W0:=by rw [←hW0];exact hJ.lay h0 _
 have hB0:Keep lo m W W0:=by rw [←hW0];exact Keep.alloc hnW _
 rw [hW0]
 clear hW0
 have d0:W0.cell? ⟨W.heap.size,0,none⟩=some (.int .i64 p):=bD.cell 0
 have d1:W0.cell? ⟨W.heap.size,1,none⟩=some (.int .i64 (walkAt p a s 0)):=bD.cell 1
 gi_wp2
 clear d0 d1
 gi_loopw [8] (fun i wr=>∃ k:Nat,k≤p∧i = .int .i64 k∧Hid (∃ o,J ((walkL p a s).take k) o wr∧FreshO o₀ o W∧¬ o W.heap.size)∧Hid (Blk wr W.heap.size 194 #[.int .i64 p,.int .i64 (walkAt p a s k)])∧Keep lo m W wr) (fun i _=>p - (intOf i).toNat)
 case atStart=>exact ⟨0,Nat.zero_le _,rfl,Lib.hid ⟨o₀,hJ0,FreshO.refl _ _,fun e=>by have:=ho₀ _ e;omega⟩,Lib.hid bD,hB0⟩
 case round =>
  obtain ⟨k,hk,rfl,HJ,HD,hB⟩:=hrel
  obtain ⟨o,hj,hfo,hno⟩:=HJ.out
  have HJ2:=Lib.hid hj
  by_cases hlt:k<p
  · have hdec:decide ((k:Int)<(p:Int))=true:=by simp;omega
    have HT:=Lib.hid (walkL_next p a s k hlt)
    have hx:=walkAt_lt p hp a s k
    have HN:=Lib.hid (walkAt_next p a s k)
    have hD:=HD.out
    have e0:wr.cell? ⟨W.heap.size,0,none⟩=some (.int .i64 p):=hD.cell 0
    have e1:wr.cell? ⟨W.heap.size,1,none⟩=some (.int .i64 (walkAt p a s k)):=hD.cell 1
    have hsz:=hD.lt
    have HY:=Lib.hid (hY _ (walkAt p a s k) o wr hj ⟨⟨hx.1,by omega⟩,by rw [←HT.out];exact List.take_prefix _ _⟩ (by rw [List.length_take,walkL_len];omega) (by omega))
    have HW:=Lib.hid (fun V=>with_any 207 _ plus_any enter_plus p (walkAt p a s k) s V (by omega) (by omega) hx.1 (by omega) s0 (by omega) (by omega) (by omega))
    clear hD HJ HJ2 hj
    simp only [HN.out] at HW
    generalize walkAt p a s k=x at *
    generalize hyy:walkAt p a s (k+1)=y at *
    have HYY:=Lib.hid hyy
    clear hyy
    obtain ⟨fn,tmps,assign,body,hy,hR⟩:=HY.out
    gi_wp2
    refine hR.mono ?_
    rintro e W3 ⟨o',hf3,hS3,(⟨rfl,hJ3,hk3⟩ | ⟨rfl,hJx3,_⟩)⟩
    all_goals have hfo':FreshO o₀ o' W:=hfo.trans (by omega) hf3
    all_goals have hno':¬ o' W.heap.size:=fun e=>(hf3 _ e).elim hno (fun e=>by omega)
    · have hD3:Blk W3 W.heap.size 194 #[.int .i64 p,.int .i64 x]:=(hS3.2 W.heap.size (Nat.le_refl _) (by omega) hno).trans HD.out
      have hB3:=hB.trans hk3
      have g0:W3.cell? ⟨W.heap.size,0,none⟩=some (.int .i64 p):=hD3.cell 0
      have g1:W3.cell? ⟨W.heap.size,1,none⟩=some (.int .i64 x):=hD3.cell 1
      have g2:W3.cell? ⟨h,0,none⟩=some (.int .i64 s):=(hB3.blk bh hh1 hh).one
      have hl3:=hD3.lt
      gi_wp2_with (refine ⟨trivial,?_⟩;gi_at_call 206;refine (callsIn_wide.2 (HW.out _)).mono ?_;rintro e W4 ⟨rfl,hB4⟩;have hD4:=hD3.below hB4 hD3.lt;have i0:=hD4.cell 0;have i1:=hD4.cell 1;have j0:=hD4.frozen 0;have j1:=hD4.frozen 1;simp only [gz9] at i0 i1)
      go_roundw
      case rel =>
       refine ⟨k+1,by omega,by go_num,Lib.hid ?_,Lib.hid (by rw [HYY.out];exact (hD4.set_ 0 _).set_ 1 _),((hB3.trans (Keep.below hB4 (by have:=hB3.1;omega))).trans (Keep.setFar _ hnW _)).trans (Keep.setFar _ hnW _)⟩
       rw [HT.out]
       exact ⟨o',hJ _ o' W3 _ (some W.heap.size) hJ3 (grown_set (grown_set (grown_below hB4) 0 _) 1 _) (fun r e=>by cases e;exact ⟨Nat.le_refl _,hno'⟩),hfo',hno'⟩
      case measure=>simp [intOf];omega
    · gi_wp2
      rw [Exit.noGoto_normal]
      go_end0
      exact ⟨⟨_,rfl⟩,o',hfo',.inr ⟨_,by rw [←HT.out];exact List.take_prefix _ _,hJx3⟩⟩
  · obtain rfl:k=p:=by omega
    have hdec:decide ((k:Int)<(k:Int))=false:=by simp
    have HF:Hid (J (walkL k a s) o wr):=by have:=HJ2.out;rwa [List.take_of_length_le (by rw [walkL_len];omega)] at this
    gi_wp2
    rw [Exit.noGoto_normal]
    go_end0
    exact ⟨⟨_,rfl⟩,o,hfo,.inl ⟨_,rfl,HF.out⟩⟩

def WalkT (lo:Nat) (p:Int) (zs:List Int) (v:Value) (w:World):Prop :=
 ∃ gf lb,v = .func (.func gf) #[] lb∧(∀ args W,(callFunc gf args).run Tryz.prog W = .ok (.enter gf args) W) ∧
  ∀ n,1≤n→SeqT Fence.wide n Tryz.prog gf lb (fun x:Int=>#[.int .i64 x]) (fun pre x _=>(0≤x∧x<p)∧pre ++ [x] <+: zs) (Keep lo (w.heap.size - lo)) (fun ys=>ys=zs) (fun pre=>pre <+: zs) zs.length w
theorem WalkT.less {lo lo':Nat} {p:Int} {zs:List Int} {v:Value} {w:World} (h:WalkT lo p zs v w) (hl:lo'≤lo) (hw:lo≤w.heap.size):WalkT lo' p zs v w:=by
 obtain ⟨gf,lb,e,eg,hg⟩:=h
 exact ⟨gf,lb,e,eg,fun n hn l J Jx W o₀ hW ho₀ hJ hJx hr1 hr2 hY h0=>hg n hn l J Jx W o₀ hW ho₀ hJ hJx hr1 hr2 (fun pre x o W1 hj hok hl' hs=>(hY pre x o W1 hj hok hl' hs).mono fun _ _ ⟨o',hf,hS,h⟩=>⟨o',hf,hS,h.imp (fun ⟨h1,h2,h3⟩=>⟨h1,h2,h3.less hl (by omega)⟩) (fun ⟨h1,h2,h3⟩=>⟨h1,h2,h3.less hl (by omega)⟩)⟩) h0⟩
theorem walk_ofT (p a s:Int) (hf:Fine p [a]) (w:World) (h1:-9223372036854775808≤s) (h2:s≤9223372036854775807) :
 Calls Tryz.prog 152 #[.agg #[.int .i64 p,.int .i64 a],.int .i64 s] w fun e w'=>∃ v,e = .returned v∧WalkT w.heap.size p (walkN p a s) v w'∧Below w.heap.size w w':=by
 obtain ⟨hp,a0,a1⟩:=fine_one.1 hf
 have hb:=prm_bounds hp
 rw [walkN_yes hf]
 obtain ⟨P,rfl⟩:∃ P:Nat,p=(P:Int):=⟨p.toNat,by omega⟩
 refine (walk_any P (by omega) (by omega) a s w h1 h2).mono ?_
 rintro e w' ⟨g,h,rfl,bg,bh,hh,hB⟩
 refine ⟨_,rfl,⟨_,_,rfl,enter_walk1,?_⟩,hB⟩
 intro n hn l J Jx W o₀ hW ho₀ hJ hJx hr1 hr2 hY h0
 have hlt:=bh.lt
 have hsz:=hB.size
 refine walk1_inT n hn l g h w.heap.size (w'.heap.size - w.heap.size) P (by omega) (by omega) a (s % P) a0 (by omega) (Int.emod_nonneg _ (by omega)) (Int.emod_lt_of_pos _ (by omega)) hh (by omega) W (Nat.le_trans (by omega) hW.size) J Jx o₀ ho₀ hJ ?_ (bg.below hW bg.lt) (bh.below hW bh.lt) h0
 intro pre x o W1 hj hx hl hs
 exact hY pre x o W1 hj hx (by rw [Int.toNat_natCast,walkL_len];exact hl) hs

theorem modWalk_anyT (p a s:Int) (hf:Fine p [a]) (w:World) (hL:Laid w) (h1:-9223372036854775808≤s) (h2:s≤9223372036854775807) :
 Calls Tryz.prog 102 #[.int .i64 p,.int .i64 a,.int .i64 s] w fun e w'=>∃ v,e = .returned v∧WalkT w.heap.size p (walkN p a s) v w'∧Below w.heap.size w w':=by
 have HA:=Lib.hid (ask_one p a w hL)
 have HW:=Lib.hid (fun W=>walk_ofT p a s hf W h1 h2)
 have HF:=Lib.hid hf
 clear hf
 go_enter Tryz.func102,Tryz.ntmps102
 go_wp2_with (first
  | (go_at_call 149;refine HA.out.mono ?_;rintro e w1 ⟨h1,_,hB⟩;obtain rfl:=h1 HF.out)
  | (go_at_call 151;refine (sum_any _ _ _).mono ?_;rintro e w2 ⟨rfl,hB2⟩)
  | (go_at_call 152;refine (HW.out _).mono ?_;rintro e w3 ⟨v,rfl,hO,hB3⟩))
 go_ret
 exact ⟨_,rfl,hO.less (below_in (below_in ((Below.refl _ w).alloc (Nat.le_refl _) _) hB) hB2).size hB3.size,below_in (below_in (below_in ((Below.refl _ w).alloc (Nat.le_refl _) _) hB) hB2) hB3⟩
end Go.Proofs.YtcchjofjpflbhaaGreatDoor.T

namespace Go.Proofs.YtcchjofjpflbhaaGreatDoor
open Go.RowKit Go.Shelf

section
variable {F:Fence} {n:Nat} {P:Program} {md:Region.Mode} {ops:Array Oper} {Q:Exit→Act→World→Prop}
theorem count_set {listed:Array Bool} {i k:Nat} (h:listed.getD i true=false) (hk:listed.toList.count false≤k+1):(listed.setIfInBounds i true).toList.count false≤k:=by
 have hi:i<listed.size:=by
  rcases Nat.lt_or_ge i listed.size with h' | h'
  · exact h'
  · simp [Array.getElem?_eq_none h'] at h
 have hl:listed.toList[i]'(by simpa using hi)=false:=by
  simp [hi] at h
  simpa using h
 rw [Array.toList_setIfInBounds,List.count_set (h:=by simpa using hi),hl,if_pos (show (false == false)=true from rfl),if_neg (show ¬ ((true == false)=true) by decide)]
 omega
theorem wpAnyIn_inv (I:Array Bool→Act→World→Prop)
 (hstep:∀ (i:Nat) (listed:Array Bool) (a:Act) (w:World),i∈Region.ready md ops listed→listed.size=ops.size→I listed a w→wpOpIn F n P ops Q i (I (listed.setIfInBounds i true)) a w)
 (hend:∀ (listed:Array Bool) (a:Act) (w:World),listed.size=ops.size→I listed a w→Region.ready md ops listed = []→Q .normal a w) :
 ∀ (k:Nat) (listed:Array Bool) (a:Act) (w:World),listed.size=ops.size→listed.toList.count false≤k→I listed a w→wpAnyIn F n P md ops Q k listed a w
 | 0,listed,a,w,hs,hc,hI=>by
   have hr:Region.ready md ops listed = []:=by
    rw [List.eq_nil_iff_forall_not_mem]
    intro i hi
    have h:=(mem_ready.1 hi).1
    have hil:i<listed.size:=by
     rcases Nat.lt_or_ge i listed.size with h' | h'
     · exact h'
     · simp [Array.getElem?_eq_none h'] at h
    simp [hil] at h
    have hm:false∈listed.toList:=by rw [←h];simp
    have:=List.count_pos_iff.2 hm
    omega
   exact ⟨hr,hend listed a w hs hI hr⟩
 | k+1,listed,a,w,hs,hc,hI=>⟨hend listed a w hs hI,fun i hi=>wpOpIn_mono (fun a' w' h=>wpAnyIn_inv I hstep hend k _ a' w' (by simpa using hs) (count_set (mem_ready.1 hi).1 hc) h) (hstep i listed a w hi hs hI)⟩
def onward (md:Region.Mode) (ops:Array Oper):Bool:=(List.range ops.size).all fun i=>((ops[i]?).map (·.after.all fun e=>!Region.binds md e || decide (e.on<i))).getD true
theorem all_listed (h:onward md ops=true) {listed:Array Bool} (hs:listed.size=ops.size) (hr:Region.ready md ops listed = []):∀ i,i<ops.size→listed.getD i false=true:=by
 intro i
 induction i using Nat.strongRecOn with
 | _ i ih =>
   intro hi
   have hn:i∉Region.ready md ops listed:=by rw [hr];simp
   rw [mem_ready] at hn
   have hil:i<listed.size:=by omega
   cases hl:listed.getD i false with
   | true=>rfl
   | false =>
     refine absurd ⟨?_,ops[i],Array.getElem?_eq_getElem hi,fun e he hb=>?_⟩ hn
     · simp [hil] at hl ⊢
       exact hl
     · have h1:=List.all_eq_true.1 h i (List.mem_range.2 hi)
       rw [Array.getElem?_eq_getElem hi] at h1
       simp only [Option.map_some,Option.getD_some,Array.all_eq_true_iff_forall_mem] at h1
       have h2:=h1 e he
       rw [hb] at h2
       have h3:e.on<i:=by simpa using h2
       exact ih e.on h3 (by omega)
theorem region_inv {id:Nat} {a:Act} {w:World} (hm:P.follows .mixedOrders=true) (ho:onward .any ops=true) (I:Array Bool→Act→World→Prop) (h0:I (Array.replicate ops.size false) a w.drew)
 (hstep:∀ (i:Nat) (listed:Array Bool) (a:Act) (w:World),i∈Region.ready .any ops listed→I listed a w→wpOpIn F n P ops Q i (I (listed.setIfInBounds i true)) a w)
 (hend:∀ (listed:Array Bool) (a:Act) (w:World),(∀ i,i<ops.size→listed.getD i false=true)→I listed a w→Q .normal a w):(Code.region id ops true).wpIn F n P Q a w :=
 wpIn_region_any hm (wpAnyIn_inv I (fun i l a w hi _ h=>hstep i l a w hi h) (fun l a w hs hI hr=>hend l a w (all_listed ho hs hr) hI) _ _ _ _ (by simp) (by simp) h0)
theorem listed_ne {listed:Array Bool} {i j:Nat} (h:i≠j):(listed.setIfInBounds i true).getD j false=listed.getD j false:=getD_set_ne false h
theorem ready_on {i:Nat} {o:Oper} {listed:Array Bool} (h:i∈Region.ready md ops listed) (ho:ops[i]?=some o) (js:List Nat) (hj:(js.all fun j=>o.after.any fun e=>Region.binds md e && e.on == j)=true):∀ j∈js,listed.getD j false=true:=by
 obtain ⟨_,o',ho',hall⟩:=mem_ready.1 h
 rw [ho] at ho'
 cases ho'
 intro j hjm
 have h1:=List.all_eq_true.1 hj j hjm
 rw [←Array.any_toList,List.any_eq_true] at h1
 obtain ⟨e,he,h2⟩:=h1
 replace he:=Array.mem_toList_iff.1 he
 rw [Bool.and_eq_true] at h2
 have h3:e.on=j:=by simpa using h2.2
 rw [←h3]
 exact hall e he h2.1
theorem wpOpIn_one {i:Nat} {o:Oper} {K:Act→World→Prop} {a:Act} {w:World} (ho:ops[i]?=some o) (hw:Region.wanted o (yielded ops a.tmps)=true) (h:Oper.wpIn F n P o a w K Q):wpOpIn F n P ops Q i K a w:=by
 unfold wpOpIn
 rw [ho]
 simp only [hw,if_true]
 exact h
end
end Go.Proofs.YtcchjofjpflbhaaGreatDoor

namespace Go.Proofs.YtcchjofjpflbhaaGreatDoor.Rg
open Go.RowKit Go.Shelf Go.Maps Go.Proofs.YtcchjofjpflbhaaGreatDoor.C Go.Proofs.YtcchjofjpflbhaaGreatDoor.E
attribute [local go_sem] Oper.semAt_some

structure SlF (vs ws:List Value) (Q n b0:Nat) (zA:Option Addr) (zc:Nat) (w0:World) (b:Nat→Bool) (x5 x6 x14 x15 x16 x17 x18 x19 x20 x21 x22:Value) (w:World):Prop where
 hB:Below w0.heap.size w0 w
 f0:b 0=true→x14 = .agg vs.toArray
 f1:b 1=true→x15 = .int .i64 (Q:Int)
 f2:b 2=true→∃ c,x16 = .slice (some ⟨c,0,none⟩) Q Q∧w0.heap.size≤c∧Blk w c 64 (List.replicate Q (Value.slice none 0 0)).toArray
 f3:b 3=true→x17 = .pointer (some ⟨b0,1,none⟩)
 f4:b 4=true→x18 = .agg ws.toArray
 f5:b 5=true→x19 = .agg vs.toArray
 f6:b 6=true→x20 = .int .i64 (Q:Int)
 f7:b 7=true→x21 = .slice zA n zc
 f8:b 8=true→∃ c,x22 = .func (.func 297) #[] #[.pointer (some ⟨c,0,none⟩)]∧w0.heap.size≤c∧Blk w c 64 #[.slice zA n zc]
 f9:b 9=true→∃ c y,x5 = .pointer (some ⟨c,0,none⟩)∧w0.heap.size≤c∧Blk w c 50 #[y]∧(b 11=true→y=x16)
 f10:b 10=true→∃ c y,x6 = .pointer (some ⟨c,0,none⟩)∧w0.heap.size≤c∧Blk w c 301 #[y]∧(b 12=true→y=x22)
section
variable {vs ws:List Value} {Q n b0:Nat} {zA:Option Addr} {zc:Nat} {w0:World} {b b':Nat→Bool} {x5 x6 x14 x15 x16 x17 x18 x19 x20 x21 x22:Value} {w w':World}
theorem SlF.below (h:SlF vs ws Q n b0 zA zc w0 b x5 x6 x14 x15 x16 x17 x18 x19 x20 x21 x22 w) (hb:Below w.heap.size w w'):SlF vs ws Q n b0 zA zc w0 b x5 x6 x14 x15 x16 x17 x18 x19 x20 x21 x22 w' where
 hB:=h.hB.trans (hb.mono h.hB.size)
 f0:=h.f0
 f1:=h.f1
 f2:=fun e=>by obtain ⟨c,h1,h2,h3⟩:=h.f2 e;exact ⟨c,h1,h2,h3.below hb h3.lt⟩
 f3:=h.f3
 f4:=h.f4
 f5:=h.f5
 f6:=h.f6
 f7:=h.f7
 f8:=fun e=>by obtain ⟨c,h1,h2,h3⟩:=h.f8 e;exact ⟨c,h1,h2,h3.below hb h3.lt⟩
 f9:=fun e=>by obtain ⟨c,y,h1,h2,h3,h4⟩:=h.f9 e;exact ⟨c,y,h1,h2,h3.below hb h3.lt,h4⟩
 f10:=fun e=>by obtain ⟨c,y,h1,h2,h3,h4⟩:=h.f10 e;exact ⟨c,y,h1,h2,h3.below hb h3.lt,h4⟩
theorem SlF.less (h:SlF vs ws Q n b0 zA zc w0 b x5 x6 x14 x15 x16 x17 x18 x19 x20 x21 x22 w) (hb:∀ k,b' k=true→b k=true):SlF vs ws Q n b0 zA zc w0 b' x5 x6 x14 x15 x16 x17 x18 x19 x20 x21 x22 w where
 hB:=h.hB
 f0:=fun e=>h.f0 (hb 0 e)
 f1:=fun e=>h.f1 (hb 1 e)
 f2:=fun e=>h.f2 (hb 2 e)
 f3:=fun e=>h.f3 (hb 3 e)
 f4:=fun e=>h.f4 (hb 4 e)
 f5:=fun e=>h.f5 (hb 5 e)
 f6:=fun e=>h.f6 (hb 6 e)
 f7:=fun e=>h.f7 (hb 7 e)
 f8:=fun e=>h.f8 (hb 8 e)
 f9:=fun e=>by obtain ⟨c,y,h1,h2,h3,h4⟩:=h.f9 (hb 9 e);exact ⟨c,y,h1,h2,h3,fun e=>h4 (hb 11 e)⟩
 f10:=fun e=>by obtain ⟨c,y,h1,h2,h3,h4⟩:=h.f10 (hb 10 e);exact ⟨c,y,h1,h2,h3,fun e=>h4 (hb 12 e)⟩
theorem SlF.n0 {y_:Value} (h:SlF vs ws Q n b0 zA zc w0 b x5 x6 x14 x15 x16 x17 x18 x19 x20 x21 x22 w) (hf:y_ = .agg vs.toArray):SlF vs ws Q n b0 zA zc w0 (fun k=>if k=0 then true else b k) x5 x6 y_ x15 x16 x17 x18 x19 x20 x21 x22 w where
 hB:=h.hB
 f0:=fun _=>hf
 f1:=h.f1
 f2:=h.f2
 f3:=h.f3
 f4:=h.f4
 f5:=h.f5
 f6:=h.f6
 f7:=h.f7
 f8:=h.f8
 f9:=h.f9
 f10:=h.f10
theorem SlF.n1 {y_:Value} (h:SlF vs ws Q n b0 zA zc w0 b x5 x6 x14 x15 x16 x17 x18 x19 x20 x21 x22 w) (hf:y_ = .int .i64 (Q:Int)):SlF vs ws Q n b0 zA zc w0 (fun k=>if k=1 then true else b k) x5 x6 x14 y_ x16 x17 x18 x19 x20 x21 x22 w where
 hB:=h.hB
 f0:=h.f0
 f1:=fun _=>hf
 f2:=h.f2
 f3:=h.f3
 f4:=h.f4
 f5:=h.f5
 f6:=h.f6
 f7:=h.f7
 f8:=h.f8
 f9:=h.f9
 f10:=h.f10
theorem SlF.n2 {y_:Value} (h:SlF vs ws Q n b0 zA zc w0 b x5 x6 x14 x15 x16 x17 x18 x19 x20 x21 x22 w) (hf:∃ c,y_ = .slice (some ⟨c,0,none⟩) Q Q∧w0.heap.size≤c∧Blk w c 64 (List.replicate Q (Value.slice none 0 0)).toArray) (hn:b 11=false):SlF vs ws Q n b0 zA zc w0 (fun k=>if k=2 then true else b k) x5 x6 x14 x15 y_ x17 x18 x19 x20 x21 x22 w where
 hB:=h.hB
 f0:=h.f0
 f1:=h.f1
 f2:=fun _=>hf
 f3:=h.f3
 f4:=h.f4
 f5:=h.f5
 f6:=h.f6
 f7:=h.f7
 f8:=h.f8
 f9:=fun e=>by obtain ⟨c,y,h1,h2,h3,h4⟩:=h.f9 e;exact ⟨c,y,h1,h2,h3,fun e=>by have e:b 11=true:=e;rw [hn] at e;cases e⟩
 f10:=h.f10
theorem SlF.n3 {y_:Value} (h:SlF vs ws Q n b0 zA zc w0 b x5 x6 x14 x15 x16 x17 x18 x19 x20 x21 x22 w) (hf:y_ = .pointer (some ⟨b0,1,none⟩)):SlF vs ws Q n b0 zA zc w0 (fun k=>if k=3 then true else b k) x5 x6 x14 x15 x16 y_ x18 x19 x20 x21 x22 w where
 hB:=h.hB
 f0:=h.f0
 f1:=h.f1
 f2:=h.f2
 f3:=fun _=>hf
 f4:=h.f4
 f5:=h.f5
 f6:=h.f6
 f7:=h.f7
 f8:=h.f8
 f9:=h.f9
 f10:=h.f10
theorem SlF.n4 {y_:Value} (h:SlF vs ws Q n b0 zA zc w0 b x5 x6 x14 x15 x16 x17 x18 x19 x20 x21 x22 w) (hf:y_ = .agg ws.toArray):SlF vs ws Q n b0 zA zc w0 (fun k=>if k=4 then true else b k) x5 x6 x14 x15 x16 x17 y_ x19 x20 x21 x22 w where
 hB:=h.hB
 f0:=h.f0
 f1:=h.f1
 f2:=h.f2
 f3:=h.f3
 f4:=fun _=>hf
 f5:=h.f5
 f6:=h.f6
 f7:=h.f7
 f8:=h.f8
 f9:=h.f9
 f10:=h.f10
theorem SlF.n5 {y_:Value} (h:SlF vs ws Q n b0 zA zc w0 b x5 x6 x14 x15 x16 x17 x18 x19 x20 x21 x22 w) (hf:y_ = .agg vs.toArray):SlF vs ws Q n b0 zA zc w0 (fun k=>if k=5 then true else b k) x5 x6 x14 x15 x16 x17 x18 y_ x20 x21 x22 w where
 hB:=h.hB
 f0:=h.f0
 f1:=h.f1
 f2:=h.f2
 f3:=h.f3
 f4:=h.f4
 f5:=fun _=>hf
 f6:=h.f6
 f7:=h.f7
 f8:=h.f8
 f9:=h.f9
 f10:=h.f10
theorem SlF.n7 {y_:Value} (h:SlF vs ws Q n b0 zA zc w0 b x5 x6 x14 x15 x16 x17 x18 x19 x20 x21 x22 w) (hf:y_ = .slice zA n zc):SlF vs ws Q n b0 zA zc w0 (fun k=>if k=7 then true else b k) x5 x6 x14 x15 x16 x17 x18 x19 x20 y_ x22 w where
 hB:=h.hB
 f0:=h.f0
 f1:=h.f1
 f2:=h.f2
 f3:=h.f3
 f4:=h.f4
 f5:=h.f5
 f6:=h.f6
 f7:=fun _=>hf
 f8:=h.f8
 f9:=h.f9
 f10:=h.f10
end
end Go.Proofs.YtcchjofjpflbhaaGreatDoor.Rg

namespace Go.Proofs.YtcchjofjpflbhaaGreatDoor.Rg
open Go.RowKit Go.Shelf Go.Maps Go.Proofs.YtcchjofjpflbhaaGreatDoor.C Go.Proofs.YtcchjofjpflbhaaGreatDoor.E

def hld (f:Nat→List UInt8) (z all:List UInt8) (l:List Int):List UInt8:=l.foldl (fun h x=>xorOf [h,xorOf [f x.toNat,all]]) z
theorem hld_snoc (f:Nat→List UInt8) (z all:List UInt8) (l:List Int) (x:Int):hld f z all (l ++ [x])=xorOf [hld f z all l,xorOf [f x.toNat,all]]:=by unfold hld;rw [List.foldl_append];rfl
theorem toNat_ne {x y:Int} (hx:0≤x) (hy:0≤y) (h:y≠x):x.toNat≠y.toNat:=by omega
def vblk:Value→Option Nat
 | .slice (some a) _ _=>some a.block
 | _=>none
def ownV (B:Nat) (us:List Value) (b:Nat):Prop:=B≤b∧∃ u∈us,vblk u=some b
theorem BytesA.vblk {A:Nat→Prop} {X Y:World} {u:Value} {l:List UInt8} (h:BytesA A X u l) (hs:X.heap.size≤Y.heap.size) (ho:∀ b,b<X.heap.size→Rg.vblk u=some b→Y.heap[b]?=X.heap[b]?):BytesA A Y u l:=by
 obtain ⟨a,cap,rfl,hc,hb⟩:=h
 refine ⟨a,cap,rfl,hc,fun hp=>?_⟩
 obtain ⟨b,off,rfl,h1,h2,hcell⟩:=hb hp
 exact ⟨b,off,rfl,Nat.lt_of_lt_of_le h1 hs,h2,fun j hj=>(World.cell?_of_block (ho b h1 rfl)).trans (hcell j hj)⟩
theorem fresh_vblk {B:Nat} {X Y:World} {u:Value} {l:List UInt8} (h:Fresh B X u l) (hs:X.heap.size≤Y.heap.size) (ho:∀ b,b<X.heap.size→Rg.vblk u=some b→Y.heap[b]?=X.heap[b]?):Fresh B Y u l:=by
 obtain ⟨a,cap,rfl,hc,hb⟩:=h
 refine ⟨a,cap,rfl,hc,fun hp=>?_⟩
 obtain ⟨b,off,rfl,h1,h2,hcell⟩:=hb hp
 exact ⟨b,off,rfl,h1,Nat.lt_of_lt_of_le h2 hs,fun j hj=>(World.cell?_of_block (ho b h2 rfl)).trans (hcell j hj)⟩
structure Put (B gm gh Q:Nat) (f:Nat→List UInt8) (z all:List UInt8) (n:Nat) (pre:List Int) (X:World) (hv:Value) (ms:List Value):Prop where
 lm:gm<B
 lh:gh<B
 bm:Blk X gm 64 ms.toArray
 bh:Blk X gh 64 #[hv]
 len:ms.length=Q
 held:BytesA (fun b=>b=gm∨b=gh) X hv (hld f z all pre)
 inn:∀ x∈pre,0≤x∧x.toNat<Q
 made:∀ j x,pre[j]?=some x→x∉pre.drop (j+1)→∃ u,ms[x.toNat]?=some u∧Fresh B X u (hld f z all (pre.take (j+1)))
 rows:∀ u∈hv :: ms,∀ b,vblk u=some b→∃ cs t fr,X.heap[b]?=some (.cells cs t fr)
section
variable {gm gh Q n B:Nat} {f:Nat→List UInt8} {z all:List UInt8} {pre:List Int} {X Y:World} {hv:Value} {ms:List Value}
theorem Put.rowO (h:Put B gm gh Q f z all n pre X hv ms):T.RowO (ownV B (hv :: ms)) X:=fun b ⟨_,u,hu,e⟩=>h.rows u hu b e
theorem Put.far (h:Put B gm gh Q f z all n pre X hv ms) {row:Option Nat} (hg:X.grownBy Y row) (hr:∀ r,row=some r→B≤r∧¬ ownV B (hv :: ms) r):Put B gm gh Q f z all n pre Y hv ms:=by
 have hgm:=h.lm
 have hgh:=h.lh
 have hk:∀ u∈hv :: ms,∀ b,b<X.heap.size→vblk u=some b→Y.heap[b]?=X.heap[b]?:=fun u hu b hb e=>hg.block b hb (fun e2=>by
  have h1:=hr b e2.symm
  exact h1.2 ⟨h1.1,u,hu,e⟩)
 refine ⟨h.lm,h.lh,h.bm.grown hg (fun e=>by have:=(hr gm e.symm).1;omega),h.bh.grown hg (fun e=>by have:=(hr gh e.symm).1;omega),h.len,h.held.vblk hg.size (hk hv (.head _)),h.inn,fun j x hj hn=>?_,fun u hu b e=>?_⟩
 · obtain ⟨u,h1,h2⟩:=h.made j x hj hn
   exact ⟨u,h1,fresh_vblk h2 hg.size (hk u (.tail _ (List.mem_of_getElem? h1)))⟩
 · obtain ⟨cs,t,fr,h1⟩:=h.rows u hu b e
   exact ⟨cs,t,fr,(hk u hu b (Array.getElem?_eq_some_iff.1 h1).1 e).trans h1⟩
theorem Put.below (h:Put B gm gh Q f z all n pre X hv ms) (hb:Below X.heap.size X Y):Put B gm gh Q f z all n pre Y hv ms:=h.far (row:=none) (grown_below hb) (fun r e=>by cases e)
theorem Put.next (h:Put B gm gh Q f z all n pre X hv ms) {x:Int} {r:Value} {V:World} {base:Nat} (x0:0≤x) (x1:x.toNat<Q) (hne:gm≠gh) (hB:Below X.heap.size X V) (hr:Fresh base V r (xorOf [hld f z all pre,xorOf [f x.toNat,all]])) (hb:X.heap.size≤base) (hBX:B≤X.heap.size) (hn:0<(xorOf [hld f z all pre,xorOf [f x.toNat,all]]).length) :
 Put B gm gh Q f z all n (pre ++ [x]) ((V.setCell ⟨gh,0,none⟩ r).setCell ⟨gm,x.toNat,none⟩ r) r (ms.set x.toNat r)∧T.FreshO (ownV B (hv :: ms)) (ownV B (r :: ms.set x.toNat r)) X:=by
 have hlm:=h.bm.lt
 have hlh:=h.bh.lt
 have hO1:Only (fun b=>b=gm∨b=gh) V ((V.setCell ⟨gh,0,none⟩ r).setCell ⟨gm,x.toNat,none⟩ r):=(Only.set (.inr rfl) _).trans (Only.set (.inl rfl) _)
 have hO:Only (fun b=>b=gm∨b=gh) X ((V.setCell ⟨gh,0,none⟩ r).setCell ⟨gm,x.toNat,none⟩ r):=(Only.below hB).trans hO1
 have hlm':=h.lm
 have hlh':=h.lh
 have hfa:Fresh B ((V.setCell ⟨gh,0,none⟩ r).setCell ⟨gm,x.toNat,none⟩ r) r (hld f z all (pre ++ [x])):=by
  rw [hld_snoc]
  exact fresh_only (fresh_more hr (Nat.le_trans hBX hb)) hO1 (fun b e=>by omega)
 have hra:BytesA (fun b=>b=gm∨b=gh) ((V.setCell ⟨gh,0,none⟩ r).setCell ⟨gm,x.toNat,none⟩ r) r (hld f z all (pre ++ [x])):=by
  rw [hld_snoc]
  exact (BytesA.of_fresh hr (fun b e=>by omega)).only hO1
 obtain ⟨ra,rc,er,_,hrb⟩:=hr
 obtain ⟨b,off,e2,hb1,hb2,hcell⟩:=hrb hn
 have hvb:vblk r=some b:=by rw [er,e2];rfl
 have hcells:∃ cs t fr,((V.setCell ⟨gh,0,none⟩ r).setCell ⟨gm,x.toNat,none⟩ r).heap[b]?=some (.cells cs t fr):=by
  have h0:=hcell 0 hn
  have hbe:((V.setCell ⟨gh,0,none⟩ r).setCell ⟨gm,x.toNat,none⟩ r).heap[b]?=V.heap[b]?:=hO1.2 b hb2 (by omega)
  rw [hbe]
  unfold World.cell? at h0
  revert h0
  cases hh:V.heap[b]? with
  | none=>simp
  | some ob=>cases ob <;> simp
 refine ⟨⟨h.lm,h.lh,?_,?_,by rw [List.length_set];exact h.len,hra,fun y hy=>?_,fun j y hj hny=>?_,fun u hu c e=>?_⟩,fun c hc=>?_⟩
 · have:=((h.bm.below hB hlm).far (p:=⟨gh,0,none⟩) hne r).set_ x.toNat r
   rwa [List.setIfInBounds_toArray] at this
 · exact (((h.bh.below hB hlh).set_ 0 r)).far (p:=⟨gm,x.toNat,none⟩) (fun e=>hne e.symm) r
 · rcases List.mem_append.1 hy with hy | hy
   · exact h.inn y hy
   · obtain rfl:=List.mem_singleton.1 hy
     exact ⟨x0,x1⟩
 · rcases Nat.lt_or_ge j pre.length with hlt | hge
   · rw [List.getElem?_append_left hlt] at hj
     rw [List.drop_append_of_le_length (by omega)] at hny
     obtain ⟨u,h1,h2⟩:=h.made j y hj (fun e=>hny (List.mem_append.2 (.inl e)))
     have hyx:y≠x:=fun e=>hny (List.mem_append.2 (.inr (by rw [e];exact List.mem_singleton.2 rfl)))
     have hy0:=(h.inn y (List.mem_of_getElem? hj)).1
     refine ⟨u,by rw [List.getElem?_set_ne (toNat_ne x0 hy0 hyx)];exact h1,?_⟩
     rw [List.take_append_of_le_length (by omega)]
     exact fresh_only h2 hO (fun b e=>by omega)
   · have hjl:j=pre.length:=by
      have:=(List.getElem?_eq_some_iff.1 hj).1
      rw [List.length_append,List.length_singleton] at this
      omega
     subst hjl
     rw [List.getElem?_append_right (Nat.le_refl _),Nat.sub_self] at hj
     obtain rfl:x=y:=by simpa using hj
     refine ⟨r,List.getElem?_set_self (by rw [h.len];exact x1),?_⟩
     rw [List.take_of_length_le (by rw [List.length_append,List.length_singleton];exact Nat.le_refl _)]
     exact hfa
 · have hold:u∈hv :: ms→∃ cs t fr,((V.setCell ⟨gh,0,none⟩ r).setCell ⟨gm,x.toNat,none⟩ r).heap[c]?=some (.cells cs t fr):=fun hu=>by
    obtain ⟨cs,t,fr,h1⟩:=h.rows u hu c e
    have hc:=(Array.getElem?_eq_some_iff.1 h1).1
    by_cases h2:c=gm
    · subst h2
      have:=((h.bm.below hB hlm).far (p:=⟨gh,0,none⟩) hne r).set_ x.toNat r
      exact ⟨_,_,_,this⟩
    · by_cases h3:c=gh
      · subst h3
        have:=(((h.bh.below hB hlh).set_ 0 r)).far (p:=⟨gm,x.toNat,none⟩) (fun e=>hne e.symm) r
        exact ⟨_,_,_,this⟩
      · exact ⟨cs,t,fr,(hO.2 c hc (fun e=>e.elim h2 h3)).trans h1⟩
   rcases List.mem_cons.1 hu with rfl | hu
   · rw [hvb] at e
     injection e with e
     subst e
     exact hcells
   · rcases List.mem_or_eq_of_mem_set hu with h1 | rfl
     · exact hold (.tail _ h1)
     · rw [hvb] at e
       injection e with e
       subst e
       exact hcells
 · obtain ⟨hBc,u,hu,e⟩:=hc
   have hrc:vblk r=some c→ownV B (hv :: ms) c∨X.heap.size≤c:=fun e=>by
    rw [hvb] at e
    injection e with e
    exact .inr (by omega)
   rcases List.mem_cons.1 hu with rfl | hu
   · exact hrc e
   · rcases List.mem_or_eq_of_mem_set hu with h1 | rfl
     · exact .inl ⟨hBc,u,.tail _ h1,e⟩
     · exact hrc e
end
end Go.Proofs.YtcchjofjpflbhaaGreatDoor.Rg

namespace Go.Proofs.YtcchjofjpflbhaaGreatDoor.E
open Go.RowKit Go.Shelf Go.Proofs.YtcchjofjpflbhaaGreatDoor.C
attribute [local go_sem] Oper.semAt_some

theorem diag_xorOk {p a:Int} {css:List (List (List UInt8))} (h:DataOk p css) (h0:0≤a) (h1:a<p):XorOk (diagOf p a css):=xorOk_of (diagOf_pos h.1.2 h0 h1) (togOk_first h.2.2) (diagOf_ok h h0 h1)
theorem manyV_nil (B:Nat) (W:World):ManyV B W (.slice none 0 0) [] []:=⟨rfl,.inl ⟨rfl,rfl⟩,fun j u h=>by cases h⟩
theorem adjuster_any {B:Nat} (p:Int) (v:Value) (css:List (List (List UInt8))) (hok:DataOk p css) (w:World) (hL:Laid w) (hB:B≤w.heap.size) (hC:Cols B w v css) :
 Calls Tryz.prog 225 #[.agg #[.int .i64 p,v]] w fun e w'=>∃ u,e = .returned u∧Fresh w.heap.size w' u (xorOf (diagOf p (p - 1) css))∧Below w.heap.size w w':=by
 have hpp:=prm_bounds hok.1.2
 obtain ⟨A,cap,rfl,_,_⟩:=id hC
 obtain ⟨W1,hW1⟩:∃ W1,w.alloc (.cells #[.int .i64 p,.slice A css.length cap] 208)=W1:=⟨_,rfl⟩
 have b0:Blk W1 w.heap.size 208 #[.int .i64 p,.slice A css.length cap]:=by rw [←hW1];exact Blk.new w _ _
 have hBW:Below w.heap.size w W1:=by rw [←hW1];exact below_one w _
 have hL1:=hL.next hBW
 have hC1:=hC.below (hBW.mono hB)
 have hB1:B≤W1.heap.size:=Nat.le_trans hB hBW.size
 have HD:=Lib.hid (fun (U:World)=>diagonal_any p (p - 1) (.slice A css.length cap) U A css.length cap rfl)
 have HLa:=Lib.hid (fun (U:World)=>last_any p ⟨by omega,by omega⟩ U)
 have HU:=Lib.hid (fun (U:World)=>upon_any (.slice none 0 0) U none 0 0 rfl)
 have HC:=Lib.hid (fun (U:World) (g h:Nat) (hBU:Below W1.heap.size W1 U) (bg:Blk U g 208 #[.int .i64 p,.slice A css.length cap]) (bh:Blk U h 3 #[.int .i64 (p - 1)]) =>
  collectDiag_any (B:=B) g h p (p - 1) (.slice A css.length cap) css hok (by omega) (by omega) U U (Nat.le_trans hB1 hBU.size) (hL1.next hBU) (hC1.below (hBU.mono hB1)) bg bh (Below.refl _ _))
 have HX:=Lib.hid (fun (U:World) (vl:Value) (us:List Value) (gU:Nat) (bU:Blk U gU 49 #[.slice none 0 0]) (hM:ManyV U.heap.size U vl us (diagOf p (p - 1) css)) =>
  upon1_yes (B:=U.heap.size) (.slice none 0 0) vl [] us [] (diagOf p (p - 1) css) gU U (Nat.le_refl _) bU (manyV_nil _ _) hM (by simp) (by have:=@diagOf_len p (p - 1) css;omega) (by rw [List.nil_append];exact diag_xorOk hok (by omega) (by omega)))
 simp only [List.nil_append] at HX
 have c0:=b0.cell 0
 have c1:=b0.cell 1
 simp only [gz9] at c0 c1
 have hg0:=b0.lt
 clear hC hC1 hL hL1 hok b0 hB hB1
 generalize xorOf (diagOf p (p - 1) css)=xo at *
 generalize diagOf p (p - 1) css=dg at *
 generalize css.length=n at *
 have hw1:IntKind.i64.wrap (p - 1)=p - 1:=IntWalk.i64_in _ (by omega)
 generalize p - 1=q at *
 have HPP:=Lib.hid hpp
 clear hpp hw1
 go_enter Tryz.func225,Tryz.ntmps225
 go_wp2_with fail
 clear hW1
 go_region_held3 (fun U=>U.cell? ⟨w.heap.size,0,none⟩=some (.int .i64 p)∧U.cell? ⟨w.heap.size,1,none⟩=some (.slice A n cap))
  (first | exact ⟨c0,c1⟩ | exact ⟨(hBa.cell (p:=⟨w.heap.size,0,none⟩) hg0).trans c0,(hBa.cell (p:=⟨w.heap.size,1,none⟩) hg0).trans c1⟩ | exact ⟨(hBb.cell (p:=⟨w.heap.size,0,none⟩) hg0).trans c0,(hBb.cell (p:=⟨w.heap.size,1,none⟩) hg0).trans c1⟩ | exact ⟨(hBc.cell (p:=⟨w.heap.size,0,none⟩) hg0).trans c0,(hBc.cell (p:=⟨w.heap.size,1,none⟩) hg0).trans c1⟩ | exact ⟨(hBd.cell (p:=⟨w.heap.size,0,none⟩) hg0).trans c0,(hBd.cell (p:=⟨w.heap.size,1,none⟩) hg0).trans c1⟩ | exact ⟨(hBe.cell (p:=⟨w.heap.size,0,none⟩) hg0).trans c0,(hBe.cell (p:=⟨w.heap.size,1,none⟩) hg0).trans c1⟩) (first
  | (go_at_call 224;refine (HU.out _).mono ?_;rintro e w1 ⟨rfl,bU,hBx⟩;have hBa:Below W1.heap.size W1 w1:=(by first | exact hBx | exact Below.undrew hBx))
  | (go_at_call 264;refine (HLa.out _).mono ?_;rintro e w2 ⟨rfl,hBx2⟩;have hBb:Below W1.heap.size W1 w2:=below_in hBa hBx2)
  | (go_at_call 232;refine (HD.out _).mono ?_;rintro e w3 ⟨rfl,bg,bh,hBx3⟩;have hBc:Below W1.heap.size W1 w3:=below_in hBb hBx3)
  | (go_at_call 231;refine (HC.out _ _ _ hBc bg bh).mono ?_;rintro e w4 ⟨u,us,rfl,hM,hBx4⟩;have hBd:Below W1.heap.size W1 w4:=below_in hBc hBx4;have bU4:=((bU.below hBx2 bU.lt).below hBx3 (Nat.lt_of_lt_of_le bU.lt hBx2.size)).below hBx4 (Nat.lt_of_lt_of_le (Nat.lt_of_lt_of_le bU.lt hBx2.size) hBx3.size))
  | (go_at_call 261;refine (HX.out _ _ _ _ bU4 hM).mono ?_;rintro e w5 ⟨x,rfl,hf,hBx5⟩;have hBe:Below W1.heap.size W1 w5:=below_in hBd hBx5))
 all_goals go_wp2
 all_goals go_ret
 all_goals exact ⟨_,rfl,hf.less (Nat.le_trans hBW.size hBd.size),below_in hBW hBe⟩

theorem encoded2_any {B:Nat} (p:Int) (r:Nat) (css:List (List (List UInt8))) (v vh:Value) (ush:List Value) (hls:List (List UInt8)) (g0 g1 gh:Nat) (W1:World) (hB:B≤W1.heap.size) (hL:Laid W1) (hok:DataOk p css) (hr:(r:Int)<p) (hC:Cols B W1 v css)
 (b0:Blk W1 g0 158 #[.func (.func 261) #[] #[.pointer (some ⟨gh,0,none⟩)]]) (b1:Blk W1 g1 208 #[.int .i64 p,v]) (bh:Blk W1 gh 49 #[vh]) (hh:ManyV B W1 vh ush hls) (hn:hls.length≤80) (hxo:XorOk (hls ++ diagOf p r css)) :
 Calls Tryz.prog 230 #[.int .i64 (r:Int),.pointer (some ⟨g0,0,none⟩),.pointer (some ⟨g1,0,none⟩)] W1 fun e w'=>∃ u,e = .returned u∧Fresh W1.heap.size w' u (xorOf (hls ++ diagOf p r css))∧Below W1.heap.size W1 w':=by
 have hpp:=prm_bounds hok.1.2
 obtain ⟨A,cap,rfl,_,_⟩:=id hC
 have HD:=Lib.hid (fun (U:World)=>diagonal_any p (r:Int) (.slice A css.length cap) U A css.length cap rfl)
 have HC:=Lib.hid (fun (U:World) (g h:Nat) (hBU:Below W1.heap.size W1 U) (bg:Blk U g 208 #[.int .i64 p,.slice A css.length cap]) (bh:Blk U h 3 #[.int .i64 (r:Int)]) =>
  collectDiag_any (B:=B) g h p (r:Int) (.slice A css.length cap) css hok (by omega) hr U U (Nat.le_trans hB hBU.size) (hL.next hBU) (hC.below (hBU.mono hB)) bg bh (Below.refl _ _))
 have HX:=Lib.hid (fun (U:World) (vl:Value) (us:List Value) (hBU:Below W1.heap.size W1 U) (hM:ManyV U.heap.size U vl us (diagOf p r css)) =>
  upon1_yes (B:=U.heap.size) vh vl ush us hls (diagOf p r css) gh U (Nat.le_refl _) (bh.below hBU bh.lt) ((hh.below (hBU.mono hB)).more (Nat.le_trans hB hBU.size)) hM (by omega) (by have:=@diagOf_len p r css;omega) hxo)
 have c0:=b0.one
 have c1:=b1.cell 0
 have c2:=b1.cell 1
 simp only [gz9] at c1 c2
 have hg0:=b0.lt
 have hg1:=b1.lt
 clear hC hL hok hxo hh bh b0 b1 hn hr hpp
 generalize xorOf (hls ++ diagOf p r css)=xo at *
 generalize diagOf p r css=dg at *
 generalize css.length=n at *
 clear hls
 go_enter Tryz.func230,Tryz.ntmps230
 go_wp2_with fail
 go_region_held3 (fun U=>U.cell? ⟨g0,0,none⟩=some (.func (.func 261) #[] #[.pointer (some ⟨gh,0,none⟩)])∧U.cell? ⟨g1,0,none⟩=some (.int .i64 p)∧U.cell? ⟨g1,1,none⟩=some (.slice A n cap))
  (first | exact ⟨c0,c1,c2⟩ | exact ⟨(hBc.cell (p:=⟨g0,0,none⟩) hg0).trans c0,(hBc.cell (p:=⟨g1,0,none⟩) hg1).trans c1,(hBc.cell (p:=⟨g1,1,none⟩) hg1).trans c2⟩ | exact ⟨(hBd.cell (p:=⟨g0,0,none⟩) hg0).trans c0,(hBd.cell (p:=⟨g1,0,none⟩) hg1).trans c1,(hBd.cell (p:=⟨g1,1,none⟩) hg1).trans c2⟩ | exact ⟨(hBe.cell (p:=⟨g0,0,none⟩) hg0).trans c0,(hBe.cell (p:=⟨g1,0,none⟩) hg1).trans c1,(hBe.cell (p:=⟨g1,1,none⟩) hg1).trans c2⟩) (first
  | (go_at_call 232;refine (HD.out _).mono ?_;rintro e w3 ⟨rfl,bg,bh,hBx⟩;have hBc:Below W1.heap.size W1 w3:=(by first | exact hBx | exact Below.undrew hBx))
  | (go_at_call 231;refine (HC.out _ _ _ hBc bg bh).mono ?_;rintro e w4 ⟨u,us,rfl,hM,hBx4⟩;have hBd:Below W1.heap.size W1 w4:=below_in hBc hBx4)
  | (go_at_call 261;refine (HX.out _ _ _ hBd hM).mono ?_;rintro e w5 ⟨x,rfl,hf,hBx5⟩;have hBe:Below W1.heap.size W1 w5:=below_in hBd hBx5))
 all_goals go_wp2
 all_goals go_ret
 all_goals exact ⟨_,rfl,hf.less hBd.size,hBe⟩
end Go.Proofs.YtcchjofjpflbhaaGreatDoor.E
