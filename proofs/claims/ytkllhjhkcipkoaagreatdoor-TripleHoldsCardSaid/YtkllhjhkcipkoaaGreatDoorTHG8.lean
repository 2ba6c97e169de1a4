/- -/
import Derived.Test.YtkllhjhkcipkoaaGreatDoorTHG7
set_option linter.unusedVariables false
set_option linter.unusedSimpArgs false
set_option maxRecDepth 100000
set_option maxHeartbeats 4000000
namespace Go.Proofs.YtkllhjhkcipkoaaGreatDoor.T
open Go.RowKit Go.Shelf Go.Proofs.YtkllhjhkcipkoaaGreatDoor.C Go.Proofs.YtkllhjhkcipkoaaGreatDoor.E
attribute [local go_sem] Oper.semAt_some

theorem walk1_inT (n:Nat) (hn:1≤n) (l g h lo m p:Nat) (hp:0<p) (hp2:p≤1000) (a s:Int) (a0:0≤a) (a1:a<p) (s0:0≤s) (s1:s<p) (hh1:lo≤h) (hh:h<lo+m) (W:World) (hnW:lo+m≤W.heap.size) (J Jx:List Int→(Nat→Prop)→World→Prop) (o₀:(Nat→Prop)) (ho₀:∀ b,o₀ b→b<W.heap.size)
 (hJ:FarO W.heap.size J)
 (hY:∀ pre (x:Int) o W1,J pre o W1→(0≤x∧x<(p:Int))∧pre ++ [x] <+: walkL p a s→pre.length<p→W.heap.size≤W1.heap.size→YieldAt Fence.wide (n - 1) Tryz.prog l #[.int .i64 x] W1 fun e W'=>∃ o',FreshO o o' W1∧SinceO W.heap.size o W1 W'∧((e = .returned (.bool true)∧J (pre ++ [x]) o' W'∧Keep lo m W1 W')∨(e = .returned (.bool false)∧Jx (pre ++ [x]) o' W'∧Keep lo m W1 W')))
 (bg:Blk W g 150 #[.int .i64 p,.int .i64 a]) (bh:Blk W h 148 #[.int .i64 s]) (h0:J [] o₀ W) :
 CallsIn Fence.wide n Tryz.prog 134 #[.func (.yield l) #[] #[],.pointer (some ⟨g,0,none⟩),.pointer (some ⟨h,0,none⟩)] W fun e W'=>(∃ v,e = .returned v)∧∃ o',FreshO o₀ o' W∧((∃ ys,ys=walkL p a s∧J ys o' W')∨(∃ pre,pre <+: walkL p a s∧Jx pre o' W')):=by
 have c0:W.cell? ⟨g,0,none⟩=some (.int .i64 p):=bg.cell 0
 have c1:W.cell? ⟨g,1,none⟩=some (.int .i64 a):=bg.cell 1
 refine callsIn_of_wp Tryz.func134 rfl trivial ?_ rfl
 simp only [Tryz.ntmps134,List.size_toArray,List.length_cons,List.length_nil,Nat.reduceAdd,Nat.reduceSub,Array.replicate_succ,Array.replicate_zero,List.push_toArray,List.append_toArray,List.nil_append,List.cons_append]
 refine wpIn_scope_wide ?_
 gi_wp2
 refine wpIn_label ?_
 obtain ⟨W0,hW0⟩:∃ W0,W.alloc (.cells #[.int .i64 p,.int .i64 a] 150)=W0:=⟨_,rfl⟩
 have bD:Blk W0 W.heap.size 150 #[.int .i64 p,.int .i64 (walkAt p a s 0)]:=by rw [←hW0,walkAt_zero p a s a0 (by omega)];exact Blk.new W _ _
 have hJ0:J [] o₀ W0:=by rw [←hW0];exact hJ.lay h0 _
 have hB0:Keep lo m W W0:=by rw [←hW0];exact Keep.alloc hnW _
 rw [hW0]
 clear hW0
 have d0:W0.cell? ⟨W.heap.size,0,none⟩=some (.int .i64 p):=bD.cell 0
 have d1:W0.cell? ⟨W.heap.size,1,none⟩=some (.int .i64 (walkAt p a s 0)):=bD.cell 1
 gi_wp2
 clear d0 d1
 gi_loopw [8] (fun i wr=>∃ k:Nat,k≤p∧i = .int .i64 k∧Hid (∃ o,J ((walkL p a s).take k) o wr∧FreshO o₀ o W∧¬ o W.heap.size)∧Hid (Blk wr W.heap.size 150 #[.int .i64 p,.int .i64 (walkAt p a s k)])∧Keep lo m W wr) (fun i _=>p - (intOf i).toNat)
 case atStart=>exact ⟨0,Nat.zero_le _,rfl,Lib.hid ⟨o₀,hJ0,FreshO.refl _ _,fun e=>by have:=ho₀ _ e;omega⟩,Lib.hid bD,hB0⟩
 case round =>
  obtain ⟨k,hk,rfl,HJ,HD,hB⟩:=hrel
  obtain ⟨o,hj,hfo,hno⟩:=HJ.out
  have HJ2:=Lib.hid hj
  by_cases hlt:k<p
  · have hdec:decide ((k:Int)<(p:Int))=true:=by simp;omega
    have HT:=Lib.hid (walkL_next p a s k hlt)
    have hx:=walkAt_lt p hp a s k
    have HN:=Lib.hid (walkAt_next p a s k)
    have hD:=HD.out
    have e0:wr.cell? ⟨W.heap.size,0,none⟩=some (.int .i64 p):=hD.cell 0
    have e1:wr.cell? ⟨W.heap.size,1,none⟩=some (.int .i64 (walkAt p a s k)):=hD.cell 1
    have hsz:=hD.lt
    have HY:=Lib.hid (hY _ (walkAt p a s k) o wr hj ⟨⟨hx.1,by omega⟩,by rw [←HT.out];exact List.take_prefix _ _⟩ (by rw [List.length_take,walkL_len];omega) (by omega))
    have HW:=Lib.hid (fun V=>with_any 136 _ plus_any enter_plus p (walkAt p a s k) s V (by omega) (by omega) hx.1 (by omega) s0 (by omega) (by omega) (by omega))
    clear hD HJ HJ2 hj
    simp only [HN.out] at HW
    generalize walkAt p a s k=x at *
    generalize hyy:walkAt p a s (k+1)=y at *
    have HYY:=Lib.hid hyy
    clear hyy
    obtain ⟨fn,tmps,assign,body,hy,hR⟩:=HY.out
    gi_wp2
    refine hR.mono ?_
    rintro e W3 ⟨o',hf3,hS3,(⟨rfl,hJ3,hk3⟩ | ⟨rfl,hJx3,_⟩)⟩
    all_goals have hfo':FreshO o₀ o' W:=hfo.trans (by omega) hf3
    all_goals have hno':¬ o' W.heap.size:=fun e=>(hf3 _ e).elim hno (fun e=>by omega)
    · have hD3:Blk W3 W.heap.size 150 #[.int .i64 p,.int .i64 x]:=(hS3.2 W.heap.size (Nat.le_refl _) (by omega) hno).trans HD.out
      have hB3:=hB.trans hk3
      have g0:W3.cell? ⟨W.heap.size,0,none⟩=some (.int .i64 p):=hD3.cell 0
      have g1:W3.cell? ⟨W.heap.size,1,none⟩=some (.int .i64 x):=hD3.cell 1
      have g2:W3.cell? ⟨h,0,none⟩=some (.int .i64 s):=(hB3.blk bh hh1 hh).one
      have hl3:=hD3.lt
      gi_wp2_with (refine ⟨trivial,?_⟩;gi_at_call 135;refine (callsIn_wide.2 (HW.out _)).mono ?_;rintro e W4 ⟨rfl,hB4⟩;have hD4:=hD3.below hB4 hD3.lt;have i0:=hD4.cell 0;have i1:=hD4.cell 1;have j0:=hD4.frozen 0;have j1:=hD4.frozen 1;simp only [gz9] at i0 i1)
      go_roundw
      case rel =>
       refine ⟨k+1,by omega,by go_num,Lib.hid ?_,Lib.hid (by rw [HYY.out];exact (hD4.set_ 0 _).set_ 1 _),((hB3.trans (Keep.below hB4 (by have:=hB3.1;omega))).trans (Keep.setFar _ hnW _)).trans (Keep.setFar _ hnW _)⟩
       rw [HT.out]
       exact ⟨o',hJ _ o' W3 _ (some W.heap.size) hJ3 (grown_set (grown_set (grown_below hB4) 0 _) 1 _) (fun r e=>by cases e;exact ⟨Nat.le_refl _,hno'⟩),hfo',hno'⟩
      case measure=>simp [intOf];omega
    · gi_wp2
      rw [Exit.noGoto_normal]
      go_end0
      exact ⟨⟨_,rfl⟩,o',hfo',.inr ⟨_,by rw [←HT.out];exact List.take_prefix _ _,hJx3⟩⟩
  · obtain rfl:k=p:=by omega
    have hdec:decide ((k:Int)<(k:Int))=false:=by simp
    have HF:Hid (J (walkL k a s) o wr):=by have:=HJ2.out;rwa [List.take_of_length_le (by rw [walkL_len];omega)] at this
    gi_wp2
    rw [Exit.noGoto_normal]
    go_end0
    exact ⟨⟨_,rfl⟩,o,hfo,.inl ⟨_,rfl,HF.out⟩⟩

def WalkT (lo:Nat) (p:Int) (zs:List Int) (v:Value) (w:World):Prop :=
 ∃ gf lb,v = .func (.func gf) #[] lb∧(∀ args W,(callFunc gf args).run Tryz.prog W = .ok (.enter gf args) W) ∧
  ∀ n,1≤n→SeqT Fence.wide n Tryz.prog gf lb (fun x:Int=>#[.int .i64 x]) (fun pre x _=>(0≤x∧x<p)∧pre ++ [x] <+: zs) (Keep lo (w.heap.size - lo)) (fun ys=>ys=zs) (fun pre=>pre <+: zs) zs.length w
theorem WalkT.less {lo lo':Nat} {p:Int} {zs:List Int} {v:Value} {w:World} (h:WalkT lo p zs v w) (hl:lo'≤lo) (hw:lo≤w.heap.size):WalkT lo' p zs v w:=by
 obtain ⟨gf,lb,e,eg,hg⟩:=h
 exact ⟨gf,lb,e,eg,fun n hn l J Jx W o₀ hW ho₀ hJ hJx hr1 hr2 hY h0=>hg n hn l J Jx W o₀ hW ho₀ hJ hJx hr1 hr2 (fun pre x o W1 hj hok hl' hs=>(hY pre x o W1 hj hok hl' hs).mono fun _ _ ⟨o',hf,hS,h⟩=>⟨o',hf,hS,h.imp (fun ⟨h1,h2,h3⟩=>⟨h1,h2,h3.less hl (by omega)⟩) (fun ⟨h1,h2,h3⟩=>⟨h1,h2,h3.less hl (by omega)⟩)⟩) h0⟩
theorem walk_ofT (p a s:Int) (hf:Fine p [a]) (w:World) (h1:-9223372036854775808≤s) (h2:s≤9223372036854775807) :
 Calls Tryz.prog 110 #[.agg #[.int .i64 p,.int .i64 a],.int .i64 s] w fun e w'=>∃ v,e = .returned v∧WalkT w.heap.size p (walkN p a s) v w'∧Below w.heap.size w w':=by
 obtain ⟨hp,a0,a1⟩:=fine_one.1 hf
 have hb:=prm_bounds hp
 rw [walkN_yes hf]
 obtain ⟨P,rfl⟩:∃ P:Nat,p=(P:Int):=⟨p.toNat,by omega⟩
 refine (walk_any P (by omega) (by omega) a s w h1 h2).mono ?_
 rintro e w' ⟨g,h,rfl,bg,bh,hh,hB⟩
 refine ⟨_,rfl,⟨_,_,rfl,enter_walk1,?_⟩,hB⟩
 intro n hn l J Jx W o₀ hW ho₀ hJ hJx hr1 hr2 hY h0
 have hlt:=bh.lt
 have hsz:=hB.size
 refine walk1_inT n hn l g h w.heap.size (w'.heap.size - w.heap.size) P (by omega) (by omega) a (s % P) a0 (by omega) (Int.emod_nonneg _ (by omega)) (Int.emod_lt_of_pos _ (by omega)) hh (by omega) W (Nat.le_trans (by omega) hW.size) J Jx o₀ ho₀ hJ ?_ (bg.below hW bg.lt) (bh.below hW bh.lt) h0
 intro pre x o W1 hj hx hl hs
 exact hY pre x o W1 hj hx (by rw [Int.toNat_natCast,walkL_len];exact hl) hs

theorem modWalk_anyT (p a s:Int) (hf:Fine p [a]) (w:World) (hL:Laid w) (h1:-9223372036854775808≤s) (h2:s≤9223372036854775807) :
 Calls Tryz.prog 93 #[.int .i64 p,.int .i64 a,.int .i64 s] w fun e w'=>∃ v,e = .returned v∧WalkT w.heap.size p (walkN p a s) v w'∧Below w.heap.size w w':=by
 have HA:=Lib.hid (ask_one p a w hL)
 have HW:=Lib.hid (fun W=>walk_ofT p a s hf W h1 h2)
 have HF:=Lib.hid hf
 clear hf
 go_enter Tryz.func93,Tryz.ntmps93
 go_wp2_with (first
  | (go_at_call 96;refine HA.out.mono ?_;rintro e w1 ⟨h1,_,hB⟩;obtain rfl:=h1 HF.out)
  | (go_at_call 109;refine (sum_any _ _ _).mono ?_;rintro e w2 ⟨rfl,hB2⟩)
  | (go_at_call 110;refine (HW.out _).mono ?_;rintro e w3 ⟨v,rfl,hO,hB3⟩))
 go_ret
 exact ⟨_,rfl,hO.less (below_in (below_in ((Below.refl _ w).alloc (Nat.le_refl _) _) hB) hB2).size hB3.size,below_in (below_in (below_in ((Below.refl _ w).alloc (Nat.le_refl _) _) hB) hB2) hB3⟩
end Go.Proofs.YtkllhjhkcipkoaaGreatDoor.T

namespace Go.Proofs.YtkllhjhkcipkoaaGreatDoor.T
open Go.RowKit Go.Shelf Go.Maps Go.Proofs.YtkllhjhkcipkoaaGreatDoor.C Go.Proofs.YtkllhjhkcipkoaaGreatDoor.E
attribute [local go_sem] Oper.semAt_some

def RowsT (lo:Nat) (p:Int) (zs:List Int) (v:Value) (w:World):Prop :=
 ∃ gf lb,v = .func (.func gf) #[] lb∧(∀ args W,(callFunc gf args).run Tryz.prog W = .ok (.enter gf args) W)∧(∀ W,(binOp .eql 114 v .nilFunc).run Tryz.prog W = .ok (.bool false) W) ∧
  ∀ n,4≤n→SeqT Fence.wide n Tryz.prog gf lb (fun x:Int=>#[.int .i64 x]) (fun pre x _=>(0≤x∧x<p - 1)∧pre ++ [x] <+: Rg.rowsF p zs) (Keep lo (w.heap.size - lo)) (fun ys=>ys=Rg.rowsF p zs) (fun pre=>pre <+: Rg.rowsF p zs) zs.length w
theorem rows1_inT (n:Nat) (hn:4≤n) (l g h lo N:Nat) (p:Int) (zs:List Int) (gf:Nat) (lb:Array Value) (w1:World) (lo1:Nat) (eg:∀ args W,(callFunc gf args).run Tryz.prog W = .ok (.enter gf args) W)
 (hgo:∀ n,1≤n→SeqT Fence.wide n Tryz.prog gf lb (fun x:Int=>#[.int .i64 x]) (fun pre x _=>(0≤x∧x<p)∧pre ++ [x] <+: zs) (Keep lo1 (w1.heap.size - lo1)) (fun ys=>ys=zs) (fun pre=>pre <+: zs) zs.length w1)
 (W:World) (hw1:Below w1.heap.size w1 W) (hlo:lo≤lo1) (hl1:lo1≤w1.heap.size) (hN:w1.heap.size≤N) (hg:lo≤g∧g<N) (hh:lo≤h∧h<N) (hNW:N≤W.heap.size)
 (J Jx:List Int→(Nat→Prop)→World→Prop) (o₀:(Nat→Prop)) (ho₀:∀ b,o₀ b→b<W.heap.size)
 (hJ:FarO W.heap.size J) (hJx:FarO W.heap.size Jx) (hr1:∀ s o X,J s o X→RowO o X) (hr2:∀ s o X,Jx s o X→RowO o X)
 (hY:∀ pre x o W1,J pre o W1→(0≤x∧x<p - 1)∧pre ++ [x] <+: Rg.rowsF p zs→pre.length<zs.length→W.heap.size≤W1.heap.size→YieldAt Fence.wide (n - 1) Tryz.prog l #[.int .i64 x] W1 fun e W'=>∃ o',FreshO o o' W1∧SinceO W.heap.size o W1 W'∧((e = .returned (.bool true)∧J (pre ++ [x]) o' W'∧Keep lo (N - lo) W1 W')∨(e = .returned (.bool false)∧Jx (pre ++ [x]) o' W'∧Keep lo (N - lo) W1 W')))
 (bg:Blk W g 114 #[.func (.func gf) #[] lb]) (bh:Blk W h 3 #[.int .i64 (p - 1)]) (h0:J [] o₀ W) :
 CallsIn Fence.wide n Tryz.prog 164 #[.func (.yield l) #[] #[],.pointer (some ⟨g,0,none⟩),.pointer (some ⟨h,0,none⟩)] W fun e W'=>(∃ v,e = .returned v)∧∃ o',FreshO o₀ o' W∧((∃ ys,ys=Rg.rowsF p zs∧J ys o' W')∨(∃ pre,pre <+: Rg.rowsF p zs∧Jx pre o' W')):=by
 refine callsIn_of_wp_marks Tryz.func164 rfl trivial ?_ rfl
 simp only [Tryz.ntmps164,List.size_toArray,List.length_cons,List.length_nil,Nat.reduceAdd,Nat.reduceSub,Array.replicate_succ,Array.replicate_zero,List.push_toArray,List.append_toArray,List.nil_append,List.cons_append]
 obtain ⟨W0,hW0⟩:∃ W0,W.alloc (.cells #[.func (.yield l) #[] #[]] 50)=W0:=⟨_,rfl⟩
 have hB0:Below W.heap.size W W0:=by rw [←hW0];exact below_one W _
 have bY:Blk W0 W.heap.size 50 #[.func (.yield l) #[] #[]]:=by rw [←hW0];exact Blk.new W _ _
 have s0:W0.heap.size=W.heap.size+1:=by rw [←hW0];simp
 have bg0:=(bg.below hB0 bg.lt).one
 have bh0:=bh.below hB0 bh.lt
 have hJ0:=hJ.below h0 hB0
 have S0:=Lib.hid s0
 clear s0
 gi_wp2_with fail
 refine wpIn_scope_wide ?_
 gi_wp2_with fail
 refine wpIn_label ?_
 gi_wp2_with fail
 clear hW0 bg0
 have hBw:=hw1.trans (hB0.mono hw1.size)
 refine wpIn_rangeT rfl (by omega) (gf:=gf) (lb:=lb) rfl trivial eg (hgo _ (by omega)) (fun h h'=>h.trans h') (fun X l' ob hl' hlX _=>Keep.putFar X (by have:=S0.out;omega) ob) hBw (fun _=>rfl)
  (fun pre o X=>J (Rg.rowsF p pre) o X∧FreshO o₀ o W0∧Blk X W.heap.size 50 #[.func (.yield l) #[] #[]]∧Blk X h 3 #[.int .i64 (p - 1)])
  (fun c pre o X=>c = .exit 0∧FreshO o₀ o W0∧Jx (Rg.rowsF p pre) o X)
  ?hI ?hIx o₀ (fun b e=>by have:=ho₀ b e;have:=S0.out;omega) ⟨hJ0,FreshO.refl _ _,bY,bh0⟩ (fun pre x o a' X=>a'=({ tmps:=#[.func (.yield l) #[] #[],.pointer (some ⟨g,0,none⟩),.pointer (some ⟨h,0,none⟩),.pointer (some ⟨W.heap.size,0,none⟩),.int .i64 x,.func (.func gf) #[] lb,.int .i64 x,undef,undef,undef,undef,undef,undef,undef,undef,undef],defers:=[] }:Act)∧(0≤x∧x<p)∧pre ++ [x] <+: zs) ?hAx ?assign ?row1 ?row2 ?body ?done ?stop
 case assign =>
  intro l' pre x o X K hsz ho hI hok hK
  gi_wp2
  exact hK _ _ (SinceO.refl _ _ _) (Keep.refl _ _ _) hI ⟨rfl,hok⟩
 case hI =>
  rintro s o X Y row ⟨h1,h2,h3,h4⟩ hgr hr
  have s0:=S0.out
  exact ⟨hJ _ o X Y row h1 hgr (fun r e=>⟨by have:=(hr r e).1;omega,(hr r e).2⟩),h2,h3.grown hgr (fun e=>by have:=(hr _ e.symm).1;omega),h4.grown hgr (fun e=>by have:=(hr _ e.symm).1;omega)⟩
 case hIx =>
  rintro c s o X Y row ⟨h1,h2,h3⟩ hgr hr
  have s0:=S0.out
  exact ⟨h1,h2,hJx _ o X Y row h3 hgr (fun r e=>⟨by have:=(hr r e).1;omega,(hr r e).2⟩)⟩
 case hAx=>exact fun _ _ _ _ _ _ _ _ _ _ _ h=>h
 case row1=>exact fun _ _ _ h=>hr1 _ _ _ h.1
 case row2=>exact fun _ _ _ _ h=>hr2 _ _ _ h.2.2
 case body =>
  rintro l' pre x o a' X hsz ⟨hj,hfo,bY,bH⟩ ⟨rfl,⟨x0,x1⟩,hpx⟩ hln
  have s0:=S0.out
  have cY:=bY.one
  have cH:=bH.one
  have hYn:¬ o W.heap.size:=hfo.ne (by omega) (fun e=>by have:=ho₀ _ e;omega)
  have hsn:=Rg.rowsF_snoc p pre x
  by_cases hx:x=p - 1
  · rw [if_pos hx] at hsn
    subst hx
    have HSN:=Lib.hid hsn
    have hne:((p - 1:Int) != (p - 1))=false:=by simp
    clear hsn s0
    gi_wp2_with fail
    refine ⟨by simp,?_⟩
    gi_wp2_with fail
    exact ⟨o,FreshO.refl _ _,SinceO.refl _ _ _,Keep.refl _ _ _,by rw [HSN.out];exact hj,hfo,bY,bH⟩
  · rw [if_neg hx] at hsn
    obtain ⟨fn,tmps,asg,bdy,hy,hRr⟩:=YieldAt.deep (m:=n - 1 - 1 - 1) (hY (Rg.rowsF p pre) x o X hj ⟨⟨x0,by omega⟩,by rw [←hsn];exact hpx.filter _⟩ (by have:=Rg.rowsF_len p pre;omega) (by omega))
    have HSN:=Lib.hid hsn
    have hne:(x != p - 1)=true:=by simpa using hx
    have hn3:1≤n - 1 - 1:=by omega
    have HX:=Lib.hid hx
    clear hsn s0 hx
    gi_wp2_with fail
    refine hRr.mono ?_
    rintro e W3 ⟨o',hf3,hS3,(⟨rfl,hJ3,hk3⟩ | ⟨rfl,hJx3,hk3⟩)⟩
    all_goals have hfo':=hfo.trans hsz hf3
    all_goals have s0:=S0.out
    · clear s0
      gi_wp2_with fail
      have s0:=S0.out
      exact ⟨o',hf3,hS3.less (by omega),hk3.less hlo (by omega),by rw [HSN.out];exact hJ3,hfo',hS3.blk bY (Nat.le_refl _) hYn,(hk3.2 h hh.1 (by omega)).trans bH⟩
    · clear s0
      gi_wp2_with fail
      have s0:=S0.out
      exact ⟨o',hf3,hS3.less (by omega),hk3.less hlo (by omega),rfl,hfo',by rw [HSN.out];exact hJx3⟩
 case done =>
  rintro D xs o X hD hfo rfl ⟨hj,_⟩ hK hne
  have s0:=S0.out
  gi_wp2
  rw [Exit.noGoto_normal]
  refine ⟨by simp,.inl ⟨_,_,rfl,run_takeDeferred hK,?_⟩⟩
  exact ⟨_,results_none rfl _ _ _,⟨_,rfl⟩,o,hfo.later hB0.size,.inl ⟨_,rfl,hJ.put hj (by omega) hne _⟩⟩
 case stop =>
  rintro D c pre o X hD hfo hSp ⟨rfl,_,hjx⟩ hK hne
  have s0:=S0.out
  gi_wp2
  rw [Exit.noGoto_normal]
  refine ⟨by simp,.inl ⟨_,_,rfl,run_takeDeferred hK,?_⟩⟩
  exact ⟨_,results_none rfl _ _ _,⟨_,rfl⟩,o,hfo.later hB0.size,.inr ⟨_,hSp.filter _,hJx.put hjx (by omega) hne _⟩⟩
theorem rowsT_yes (p by_:Int) (hp:p∈prm) (y1:-9223372036854775808≤by_) (y2:by_≤9223372036854775807) (w:World) (hL:Laid w) :
 Calls Tryz.prog 156 #[.int .i64 p,.int .i64 by_] w fun e w'=>∃ v,e = .returned v∧RowsT w.heap.size p (walkN p (p - 1) by_) v w'∧Below w.heap.size w w':=by
 have hb:=prm_bounds hp
 have HW:=Lib.hid (modWalk_anyT p (p - 1) by_ (fine_one.2 ⟨hp,by omega,by omega⟩) w hL y1 y2)
 clear hp
 have hmf:∀ (fn:Fn) (first cap:Array Value) (w:World),(Instr.makeFunc fn first cap).run Tryz.prog w = .ok (.func fn first cap) w:=fun _ _ _ _=>rfl
 go_enter Tryz.func156,Tryz.ntmps156
 go_wp2_with (go_at_call 93;refine HW.out.mono ?_;rintro e w1 ⟨v,rfl,HO,hB1⟩;obtain ⟨gf,lb,rfl,eg,hgo⟩:=HO;have hz:=hB1.size)
 have hB2:=below_two w1 (.cells #[.func (.func gf) #[] lb] 114) (.cells #[.int .i64 (p - 1)] 3)
 have bg:=(Blk.new w1 114 #[.func (.func gf) #[] lb]).alloc (.cells #[.int .i64 (p - 1)] 3)
 have bh:=Blk.second w1 (.cells #[.func (.func gf) #[] lb] 114) 3 #[.int .i64 (p - 1)]
 have hs2:((w1.alloc (.cells #[.func (.func gf) #[] lb] 114)).alloc (.cells #[.int .i64 (p - 1)] 3)).heap.size=w1.heap.size+2:=by simp
 go_ret
 generalize (w1.alloc (.cells #[.func (.func gf) #[] lb] 114)).alloc (.cells #[.int .i64 (p - 1)] 3)=w2 at *
 exact ⟨_,rfl,⟨_,_,rfl,Rg.enter_rows1,Rg.eql_rows _ _,fun n hn l J Jx W o₀ hW ho₀ hJ hJx hr1 hr2 hY h0=>rows1_inT n hn l w1.heap.size (w1.heap.size+1) w.heap.size w2.heap.size p (walkN p (p - 1) by_) gf lb w1 w.heap.size eg hgo W (hB2.trans (hW.mono hB2.size)) (Nat.le_refl _) hz hB2.size ⟨hz,by omega⟩ ⟨by omega,by omega⟩ hW.size J Jx o₀ ho₀ hJ hJx hr1 hr2 (fun pre x o W1 hj hx hl hs=>hY pre x o W1 hj hx hl hs) (bg.below hW bg.lt) (bh.below hW bh.lt) h0⟩,below_in hB1 hB2⟩
end Go.Proofs.YtkllhjhkcipkoaaGreatDoor.T

namespace Go.Proofs.YtkllhjhkcipkoaaGreatDoor.Rg
open Go.RowKit Go.Shelf Go.Maps Go.Proofs.YtkllhjhkcipkoaaGreatDoor.C Go.Proofs.YtkllhjhkcipkoaaGreatDoor.E
attribute [local go_sem] Oper.semAt_some

theorem heap_any (A:Option Addr) (n c:Nat) (w:World) :
 Calls Tryz.prog 155 #[.slice A n c] w fun e w'=>e = .returned (.func (.func 163) #[] #[.pointer (some ⟨w.heap.size,0,none⟩)])∧w'=w.alloc (.cells #[.slice A n c] 60):=by
 have hmf:∀ (fn:Fn) (first cap:Array Value) (w:World),(Instr.makeFunc fn first cap).run Tryz.prog w = .ok (.func fn first cap) w:=fun _ _ _ _=>rfl
 go_enter Tryz.func155,Tryz.ntmps155
 go_wp2
 go_ret
 exact ⟨rfl,rfl⟩
theorem heap1_any (b n:Nat) (hA:Option Addr) (hc:Nat) (uA:Option Addr) (uc:Nat) (x y:List UInt8) (w:World) (bh:Blk w b 60 #[.slice hA n hc]) (hx:Bytes w.heap.size w (.slice hA n hc) x) (hy:Bytes w.heap.size w (.slice uA n uc) y) (lx:x.length=n) (ly:y.length=n) (h1:1≤n) (h64:n≤64) :
 Calls Tryz.prog 163 #[.slice uA n uc,.pointer (some ⟨b,0,none⟩)] w fun e w'=>∃ ra rc V,e = .returned (.slice ra n rc)∧Below w.heap.size w V∧Fresh w.heap.size V (.slice ra n rc) (xorOf [x,y])∧w'=V.setCell ⟨b,0,none⟩ (.slice ra n rc):=by
 have c0:=bh.one
 have bE:=Blk.new w 60 #[.slice hA n hc,.slice uA n uc]
 have hBe:=below_one w (.cells #[.slice hA n hc,.slice uA n uc] 60)
 have hm:=two_many bE ((hx.below hBe).more hBe.size) ((hy.below hBe).more hBe.size) bE.lt
 have HU:=Lib.hid (upon_any _ _ (w.alloc (.cells #[.slice hA n hc,.slice uA n uc] 60)) (Nat.le_refl _) hm (by show 2≤1000;omega) (two_ok (by omega) (by omega) (by omega)))
 have HXL:Hid ((xorOf [x,y]).length=n):=by unfold Hid;rw [xorOf_len];exact lx
 have HB:=Lib.hid bh
 clear hx hy hm bE lx ly bh
 go_enter Tryz.func163,Tryz.ntmps163
 go_wp2_with (go_at_call 149;refine HU.out.mono ?_;rintro e w1 ⟨u,rfl,hu,hB1⟩;obtain ⟨ra,rc,eu⟩:=fresh_slice hu;rw [HXL.out] at eu;subst eu;have hBw:=below_in hBe hB1;have b1:=HB.out.below hBw HB.out.lt;have c1:=b1.one;have z1:=b1.frozen 0;have d1:=(b1.set_ 0 (.slice ra n rc)).one;clear b1)
 go_ret
 exact ⟨ra,rc,w1,rfl,hBw,fresh_more hu hBe.size,rfl⟩
end Go.Proofs.YtkllhjhkcipkoaaGreatDoor.Rg

namespace Go.Proofs.YtkllhjhkcipkoaaGreatDoor
open Go.RowKit Go.Shelf

section
variable {F:Fence} {n:Nat} {P:Program} {md:Region.Mode} {ops:Array Oper} {Q:Exit→Act→World→Prop}
theorem count_set {listed:Array Bool} {i k:Nat} (h:listed.getD i true=false) (hk:listed.toList.count false≤k+1):(listed.setIfInBounds i true).toList.count false≤k:=by
 have hi:i<listed.size:=by
  rcases Nat.lt_or_ge i listed.size with h' | h'
  · exact h'
  · simp [Array.getElem?_eq_none h'] at h
 have hl:listed.toList[i]'(by simpa using hi)=false:=by
  simp [hi] at h
  simpa using h
 rw [Array.toList_setIfInBounds,List.count_set (h:=by simpa using hi),hl,if_pos (show (false == false)=true from rfl),if_neg (show ¬ ((true == false)=true) by decide)]
 omega
theorem wpAnyIn_inv (I:Array Bool→Act→World→Prop)
 (hstep:∀ (i:Nat) (listed:Array Bool) (a:Act) (w:World),i∈Region.ready md ops listed→listed.size=ops.size→I listed a w→wpOpIn F n P ops Q i (I (listed.setIfInBounds i true)) a w)
 (hend:∀ (listed:Array Bool) (a:Act) (w:World),listed.size=ops.size→I listed a w→Region.ready md ops listed = []→Q .normal a w) :
 ∀ (k:Nat) (listed:Array Bool) (a:Act) (w:World),listed.size=ops.size→listed.toList.count false≤k→I listed a w→wpAnyIn F n P md ops Q k listed a w
 | 0,listed,a,w,hs,hc,hI=>by
   have hr:Region.ready md ops listed = []:=by
    rw [List.eq_nil_iff_forall_not_mem]
    intro i hi
    have h:=(mem_ready.1 hi).1
    have hil:i<listed.size:=by
     rcases Nat.lt_or_ge i listed.size with h' | h'
     · exact h'
     · simp [Array.getElem?_eq_none h'] at h
    simp [hil] at h
    have hm:false∈listed.toList:=by rw [←h];simp
    have:=List.count_pos_iff.2 hm
    omega
   exact ⟨hr,hend listed a w hs hI hr⟩
 | k+1,listed,a,w,hs,hc,hI=>⟨hend listed a w hs hI,fun i hi=>wpOpIn_mono (fun a' w' h=>wpAnyIn_inv I hstep hend k _ a' w' (by simpa using hs) (count_set (mem_ready.1 hi).1 hc) h) (hstep i listed a w hi hs hI)⟩
def onward (md:Region.Mode) (ops:Array Oper):Bool:=(List.range ops.size).all fun i=>((ops[i]?).map (·.after.all fun e=>!Region.binds md e || decide (e.on<i))).getD true
theorem all_listed (h:onward md ops=true) {listed:Array Bool} (hs:listed.size=ops.size) (hr:Region.ready md ops listed = []):∀ i,i<ops.size→listed.getD i false=true:=by
 intro i
 induction i using Nat.strongRecOn with
 | _ i ih =>
   intro hi
   have hn:i∉Region.ready md ops listed:=by rw [hr];simp
   rw [mem_ready] at hn
   have hil:i<listed.size:=by omega
   cases hl:listed.getD i false with
   | true=>rfl
   | false =>
     refine absurd ⟨?_,ops[i],Array.getElem?_eq_getElem hi,fun e he hb=>?_⟩ hn
     · simp [hil] at hl ⊢
       exact hl
     · have h1:=List.all_eq_true.1 h i (List.mem_range.2 hi)
       rw [Array.getElem?_eq_getElem hi] at h1
       simp only [Option.map_some,Option.getD_some,Array.all_eq_true_iff_forall_mem] at h1
       have h2:=h1 e he
       rw [hb] at h2
       have h3:e.on<i:=by simpa using h2
       exact ih e.on h3 (by omega)
theorem region_inv {id:Nat} {a:Act} {w:World} (hm:P.follows .mixedOrders=true) (ho:onward .any ops=true) (I:Array Bool→Act→World→Prop) (h0:I (Array.replicate ops.size false) a w.drew)
 (hstep:∀ (i:Nat) (listed:Array Bool) (a:Act) (w:World),i∈Region.ready .any ops listed→I listed a w→wpOpIn F n P ops Q i (I (listed.setIfInBounds i true)) a w)
 (hend:∀ (listed:Array Bool) (a:Act) (w:World),(∀ i,i<ops.size→listed.getD i false=true)→I listed a w→Q .normal a w):(Code.region id ops true).wpIn F n P Q a w :=
 wpIn_region_any hm (wpAnyIn_inv I (fun i l a w hi _ h=>hstep i l a w hi h) (fun l a w hs hI hr=>hend l a w (all_listed ho hs hr) hI) _ _ _ _ (by simp) (by simp) h0)
theorem listed_ne {listed:Array Bool} {i j:Nat} (h:i≠j):(listed.setIfInBounds i true).getD j false=listed.getD j false:=getD_set_ne false h
theorem ready_on {i:Nat} {o:Oper} {listed:Array Bool} (h:i∈Region.ready md ops listed) (ho:ops[i]?=some o) (js:List Nat) (hj:(js.all fun j=>o.after.any fun e=>Region.binds md e && e.on == j)=true):∀ j∈js,listed.getD j false=true:=by
 obtain ⟨_,o',ho',hall⟩:=mem_ready.1 h
 rw [ho] at ho'
 cases ho'
 intro j hjm
 have h1:=List.all_eq_true.1 hj j hjm
 rw [←Array.any_toList,List.any_eq_true] at h1
 obtain ⟨e,he,h2⟩:=h1
 replace he:=Array.mem_toList_iff.1 he
 rw [Bool.and_eq_true] at h2
 have h3:e.on=j:=by simpa using h2.2
 rw [←h3]
 exact hall e he h2.1
theorem wpOpIn_one {i:Nat} {o:Oper} {K:Act→World→Prop} {a:Act} {w:World} (ho:ops[i]?=some o) (hw:Region.wanted o (yielded ops a.tmps)=true) (h:Oper.wpIn F n P o a w K Q):wpOpIn F n P ops Q i K a w:=by
 unfold wpOpIn
 rw [ho]
 simp only [hw,if_true]
 exact h
end
end Go.Proofs.YtkllhjhkcipkoaaGreatDoor

namespace Go.Proofs.YtkllhjhkcipkoaaGreatDoor.Rg
open Go.RowKit Go.Shelf Go.Maps Go.Proofs.YtkllhjhkcipkoaaGreatDoor.C Go.Proofs.YtkllhjhkcipkoaaGreatDoor.E
attribute [local go_sem] Oper.semAt_some

structure SlF (vs ws:List Value) (Q n b0:Nat) (zA:Option Addr) (zc:Nat) (w0:World) (b:Nat→Bool) (x5 x6 x14 x15 x16 x17 x18 x19 x20 x21 x22:Value) (w:World):Prop where
 hB:Below w0.heap.size w0 w
 f0:b 0=true→x14 = .agg vs.toArray
 f1:b 1=true→x15 = .int .i64 (Q:Int)
 f2:b 2=true→∃ c,x16 = .slice (some ⟨c,0,none⟩) Q Q∧w0.heap.size≤c∧Blk w c 60 (List.replicate Q (Value.slice none 0 0)).toArray
 f3:b 3=true→x17 = .pointer (some ⟨b0,1,none⟩)
 f4:b 4=true→x18 = .agg ws.toArray
 f5:b 5=true→x19 = .agg vs.toArray
 f6:b 6=true→x20 = .int .i64 (Q:Int)
 f7:b 7=true→x21 = .slice zA n zc
 f8:b 8=true→∃ c,x22 = .func (.func 163) #[] #[.pointer (some ⟨c,0,none⟩)]∧w0.heap.size≤c∧Blk w c 60 #[.slice zA n zc]
 f9:b 9=true→∃ c y,x5 = .pointer (some ⟨c,0,none⟩)∧w0.heap.size≤c∧Blk w c 41 #[y]∧(b 11=true→y=x16)
 f10:b 10=true→∃ c y,x6 = .pointer (some ⟨c,0,none⟩)∧w0.heap.size≤c∧Blk w c 199 #[y]∧(b 12=true→y=x22)
section
variable {vs ws:List Value} {Q n b0:Nat} {zA:Option Addr} {zc:Nat} {w0:World} {b b':Nat→Bool} {x5 x6 x14 x15 x16 x17 x18 x19 x20 x21 x22:Value} {w w':World}
theorem SlF.below (h:SlF vs ws Q n b0 zA zc w0 b x5 x6 x14 x15 x16 x17 x18 x19 x20 x21 x22 w) (hb:Below w.heap.size w w'):SlF vs ws Q n b0 zA zc w0 b x5 x6 x14 x15 x16 x17 x18 x19 x20 x21 x22 w' where
 hB:=h.hB.trans (hb.mono h.hB.size)
 f0:=h.f0
 f1:=h.f1
 f2:=fun e=>by obtain ⟨c,h1,h2,h3⟩:=h.f2 e;exact ⟨c,h1,h2,h3.below hb h3.lt⟩
 f3:=h.f3
 f4:=h.f4
 f5:=h.f5
 f6:=h.f6
 f7:=h.f7
 f8:=fun e=>by obtain ⟨c,h1,h2,h3⟩:=h.f8 e;exact ⟨c,h1,h2,h3.below hb h3.lt⟩
 f9:=fun e=>by obtain ⟨c,y,h1,h2,h3,h4⟩:=h.f9 e;exact ⟨c,y,h1,h2,h3.below hb h3.lt,h4⟩
 f10:=fun e=>by obtain ⟨c,y,h1,h2,h3,h4⟩:=h.f10 e;exact ⟨c,y,h1,h2,h3.below hb h3.lt,h4⟩
theorem SlF.less (h:SlF vs ws Q n b0 zA zc w0 b x5 x6 x14 x15 x16 x17 x18 x19 x20 x21 x22 w) (hb:∀ k,b' k=true→b k=true):SlF vs ws Q n b0 zA zc w0 b' x5 x6 x14 x15 x16 x17 x18 x19 x20 x21 x22 w where
 hB:=h.hB
 f0:=fun e=>h.f0 (hb 0 e)
 f1:=fun e=>h.f1 (hb 1 e)
 f2:=fun e=>h.f2 (hb 2 e)
 f3:=fun e=>h.f3 (hb 3 e)
 f4:=fun e=>h.f4 (hb 4 e)
 f5:=fun e=>h.f5 (hb 5 e)
 f6:=fun e=>h.f6 (hb 6 e)
 f7:=fun e=>h.f7 (hb 7 e)
 f8:=fun e=>h.f8 (hb 8 e)
 f9:=fun e=>by obtain ⟨c,y,h1,h2,h3,h4⟩:=h.f9 (hb 9 e);exact ⟨c,y,h1,h2,h3,fun e=>h4 (hb 11 e)⟩
 f10:=fun e=>by obtain ⟨c,y,h1,h2,h3,h4⟩:=h.f10 (hb 10 e);exact ⟨c,y,h1,h2,h3,fun e=>h4 (hb 12 e)⟩
theorem SlF.n0 {y_:Value} (h:SlF vs ws Q n b0 zA zc w0 b x5 x6 x14 x15 x16 x17 x18 x19 x20 x21 x22 w) (hf:y_ = .agg vs.toArray):SlF vs ws Q n b0 zA zc w0 (fun k=>if k=0 then true else b k) x5 x6 y_ x15 x16 x17 x18 x19 x20 x21 x22 w where
 hB:=h.hB
 f0:=fun _=>hf
 f1:=h.f1
 f2:=h.f2
 f3:=h.f3
 f4:=h.f4
 f5:=h.f5
 f6:=h.f6
 f7:=h.f7
 f8:=h.f8
 f9:=h.f9
 f10:=h.f10
theorem SlF.n1 {y_:Value} (h:SlF vs ws Q n b0 zA zc w0 b x5 x6 x14 x15 x16 x17 x18 x19 x20 x21 x22 w) (hf:y_ = .int .i64 (Q:Int)):SlF vs ws Q n b0 zA zc w0 (fun k=>if k=1 then true else b k) x5 x6 x14 y_ x16 x17 x18 x19 x20 x21 x22 w where
 hB:=h.hB
 f0:=h.f0
 f1:=fun _=>hf
 f2:=h.f2
 f3:=h.f3
 f4:=h.f4
 f5:=h.f5
 f6:=h.f6
 f7:=h.f7
 f8:=h.f8
 f9:=h.f9
 f10:=h.f10
theorem SlF.n2 {y_:Value} (h:SlF vs ws Q n b0 zA zc w0 b x5 x6 x14 x15 x16 x17 x18 x19 x20 x21 x22 w) (hf:∃ c,y_ = .slice (some ⟨c,0,none⟩) Q Q∧w0.heap.size≤c∧Blk w c 60 (List.replicate Q (Value.slice none 0 0)).toArray) (hn:b 11=false):SlF vs ws Q n b0 zA zc w0 (fun k=>if k=2 then true else b k) x5 x6 x14 x15 y_ x17 x18 x19 x20 x21 x22 w where
 hB:=h.hB
 f0:=h.f0
 f1:=h.f1
 f2:=fun _=>hf
 f3:=h.f3
 f4:=h.f4
 f5:=h.f5
 f6:=h.f6
 f7:=h.f7
 f8:=h.f8
 f9:=fun e=>by obtain ⟨c,y,h1,h2,h3,h4⟩:=h.f9 e;exact ⟨c,y,h1,h2,h3,fun e=>by have e:b 11=true:=e;rw [hn] at e;cases e⟩
 f10:=h.f10
theorem SlF.n3 {y_:Value} (h:SlF vs ws Q n b0 zA zc w0 b x5 x6 x14 x15 x16 x17 x18 x19 x20 x21 x22 w) (hf:y_ = .pointer (some ⟨b0,1,none⟩)):SlF vs ws Q n b0 zA zc w0 (fun k=>if k=3 then true else b k) x5 x6 x14 x15 x16 y_ x18 x19 x20 x21 x22 w where
 hB:=h.hB
 f0:=h.f0
 f1:=h.f1
 f2:=h.f2
 f3:=fun _=>hf
 f4:=h.f4
 f5:=h.f5
 f6:=h.f6
 f7:=h.f7
 f8:=h.f8
 f9:=h.f9
 f10:=h.f10
theorem SlF.n4 {y_:Value} (h:SlF vs ws Q n b0 zA zc w0 b x5 x6 x14 x15 x16 x17 x18 x19 x20 x21 x22 w) (hf:y_ = .agg ws.toArray):SlF vs ws Q n b0 zA zc w0 (fun k=>if k=4 then true else b k) x5 x6 x14 x15 x16 x17 y_ x19 x20 x21 x22 w where
 hB:=h.hB
 f0:=h.f0
 f1:=h.f1
 f2:=h.f2
 f3:=h.f3
 f4:=fun _=>hf
 f5:=h.f5
 f6:=h.f6
 f7:=h.f7
 f8:=h.f8
 f9:=h.f9
 f10:=h.f10
theorem SlF.n5 {y_:Value} (h:SlF vs ws Q n b0 zA zc w0 b x5 x6 x14 x15 x16 x17 x18 x19 x20 x21 x22 w) (hf:y_ = .agg vs.toArray):SlF vs ws Q n b0 zA zc w0 (fun k=>if k=5 then true else b k) x5 x6 x14 x15 x16 x17 x18 y_ x20 x21 x22 w where
 hB:=h.hB
 f0:=h.f0
 f1:=h.f1
 f2:=h.f2
 f3:=h.f3
 f4:=h.f4
 f5:=fun _=>hf
 f6:=h.f6
 f7:=h.f7
 f8:=h.f8
 f9:=h.f9
 f10:=h.f10
theorem SlF.n6 {y_:Value} (h:SlF vs ws Q n b0 zA zc w0 b x5 x6 x14 x15 x16 x17 x18 x19 x20 x21 x22 w) (hf:y_ = .int .i64 (Q:Int)):SlF vs ws Q n b0 zA zc w0 (fun k=>if k=6 then true else b k) x5 x6 x14 x15 x16 x17 x18 x19 y_ x21 x22 w where
 hB:=h.hB
 f0:=h.f0
 f1:=h.f1
 f2:=h.f2
 f3:=h.f3
 f4:=h.f4
 f5:=h.f5
 f6:=fun _=>hf
 f7:=h.f7
 f8:=h.f8
 f9:=h.f9
 f10:=h.f10
theorem SlF.n7 {y_:Value} (h:SlF vs ws Q n b0 zA zc w0 b x5 x6 x14 x15 x16 x17 x18 x19 x20 x21 x22 w) (hf:y_ = .slice zA n zc):SlF vs ws Q n b0 zA zc w0 (fun k=>if k=7 then true else b k) x5 x6 x14 x15 x16 x17 x18 x19 x20 y_ x22 w where
 hB:=h.hB
 f0:=h.f0
 f1:=h.f1
 f2:=h.f2
 f3:=h.f3
 f4:=h.f4
 f5:=h.f5
 f6:=h.f6
 f7:=fun _=>hf
 f8:=h.f8
 f9:=h.f9
 f10:=h.f10
theorem SlF.n8 {y_:Value} (h:SlF vs ws Q n b0 zA zc w0 b x5 x6 x14 x15 x16 x17 x18 x19 x20 x21 x22 w) (hf:∃ c,y_ = .func (.func 163) #[] #[.pointer (some ⟨c,0,none⟩)]∧w0.heap.size≤c∧Blk w c 60 #[.slice zA n zc]) (hn:b 12=false):SlF vs ws Q n b0 zA zc w0 (fun k=>if k=8 then true else b k) x5 x6 x14 x15 x16 x17 x18 x19 x20 x21 y_ w where
 hB:=h.hB
 f0:=h.f0
 f1:=h.f1
 f2:=h.f2
 f3:=h.f3
 f4:=h.f4
 f5:=h.f5
 f6:=h.f6
 f7:=h.f7
 f8:=fun _=>hf
 f9:=h.f9
 f10:=fun e=>by obtain ⟨c,y,h1,h2,h3,h4⟩:=h.f10 e;exact ⟨c,y,h1,h2,h3,fun e=>by have e:b 12=true:=e;rw [hn] at e;cases e⟩
theorem SlF.n9 {y_:Value} (h:SlF vs ws Q n b0 zA zc w0 b x5 x6 x14 x15 x16 x17 x18 x19 x20 x21 x22 w) (hf:∃ c y,y_ = .pointer (some ⟨c,0,none⟩)∧w0.heap.size≤c∧Blk w c 41 #[y]) (hn:b 11=false):SlF vs ws Q n b0 zA zc w0 (fun k=>if k=9 then true else b k) y_ x6 x14 x15 x16 x17 x18 x19 x20 x21 x22 w where
 hB:=h.hB
 f0:=h.f0
 f1:=h.f1
 f2:=h.f2
 f3:=h.f3
 f4:=h.f4
 f5:=h.f5
 f6:=h.f6
 f7:=h.f7
 f8:=h.f8
 f9:=fun _=>by obtain ⟨c,y,h1,h2,h3⟩:=hf;exact ⟨c,y,h1,h2,h3,fun e=>by have e:b 11=true:=e;rw [hn] at e;cases e⟩
 f10:=h.f10
theorem SlF.n10 {y_:Value} (h:SlF vs ws Q n b0 zA zc w0 b x5 x6 x14 x15 x16 x17 x18 x19 x20 x21 x22 w) (hf:∃ c y,y_ = .pointer (some ⟨c,0,none⟩)∧w0.heap.size≤c∧Blk w c 199 #[y]) (hn:b 12=false):SlF vs ws Q n b0 zA zc w0 (fun k=>if k=10 then true else b k) x5 y_ x14 x15 x16 x17 x18 x19 x20 x21 x22 w where
 hB:=h.hB
 f0:=h.f0
 f1:=h.f1
 f2:=h.f2
 f3:=h.f3
 f4:=h.f4
 f5:=h.f5
 f6:=h.f6
 f7:=h.f7
 f8:=h.f8
 f9:=h.f9
 f10:=fun _=>by obtain ⟨c,y,h1,h2,h3⟩:=hf;exact ⟨c,y,h1,h2,h3,fun e=>by have e:b 12=true:=e;rw [hn] at e;cases e⟩
theorem blk_ne {t t':TypeId} {cs cs':Array Value} {c c':Nat} (h:Blk w c t cs) (h':Blk w c' t' cs') (ht:t≠t'):c≠c':=fun e=>by
 subst e
 unfold Blk at h h'
 rw [h] at h'
 injection h' with h'
 injection h' with _ h'
 exact ht h'
theorem SlF.s11 {c:Nat} {y:Value} (h:SlF vs ws Q n b0 zA zc w0 b (.pointer (some ⟨c,0,none⟩)) x6 x14 x15 x16 x17 x18 x19 x20 x21 x22 w) (hc:w0.heap.size≤c) (hb:Blk w c 41 #[y]):SlF vs ws Q n b0 zA zc w0 (fun k=>if k=11 then true else b k) (.pointer (some ⟨c,0,none⟩)) x6 x14 x15 x16 x17 x18 x19 x20 x21 x22 (w.setCell ⟨c,0,none⟩ x16) where
 hB:=h.hB.setCell hc _
 f0:=h.f0
 f1:=h.f1
 f2:=fun e=>by obtain ⟨d,h1,h2,h3⟩:=h.f2 e;exact ⟨d,h1,h2,h3.far (blk_ne h3 hb (by decide)) _⟩
 f3:=h.f3
 f4:=h.f4
 f5:=h.f5
 f6:=h.f6
 f7:=h.f7
 f8:=fun e=>by obtain ⟨d,h1,h2,h3⟩:=h.f8 e;exact ⟨d,h1,h2,h3.far (blk_ne h3 hb (by decide)) _⟩
 f9:=fun e=>⟨c,x16,rfl,hc,hb.set_ 0 _,fun _=>rfl⟩
 f10:=fun e=>by obtain ⟨d,y,h1,h2,h3,h4⟩:=h.f10 e;exact ⟨d,y,h1,h2,h3.far (blk_ne h3 hb (by decide)) _,h4⟩
theorem SlF.s12 {c:Nat} {y:Value} (h:SlF vs ws Q n b0 zA zc w0 b x5 (.pointer (some ⟨c,0,none⟩)) x14 x15 x16 x17 x18 x19 x20 x21 x22 w) (hc:w0.heap.size≤c) (hb:Blk w c 199 #[y]):SlF vs ws Q n b0 zA zc w0 (fun k=>if k=12 then true else b k) x5 (.pointer (some ⟨c,0,none⟩)) x14 x15 x16 x17 x18 x19 x20 x21 x22 (w.setCell ⟨c,0,none⟩ x22) where
 hB:=h.hB.setCell hc _
 f0:=h.f0
 f1:=h.f1
 f2:=fun e=>by obtain ⟨d,h1,h2,h3⟩:=h.f2 e;exact ⟨d,h1,h2,h3.far (blk_ne h3 hb (by decide)) _⟩
 f3:=h.f3
 f4:=h.f4
 f5:=h.f5
 f6:=h.f6
 f7:=h.f7
 f8:=fun e=>by obtain ⟨d,h1,h2,h3⟩:=h.f8 e;exact ⟨d,h1,h2,h3.far (blk_ne h3 hb (by decide)) _⟩
 f9:=fun e=>by obtain ⟨d,y,h1,h2,h3,h4⟩:=h.f9 e;exact ⟨d,y,h1,h2,h3.far (blk_ne h3 hb (by decide)) _,h4⟩
 f10:=fun e=>⟨c,x22,rfl,hc,hb.set_ 0 _,fun _=>rfl⟩
end
def SlI (vs ws:List Value) (Q n b0:Nat) (zA:Option Addr) (zc:Nat) (w0:World) (by_ pl:Int) (listed:Array Bool) (a:Act) (w:World):Prop :=
 ∃ x5 x6 x14 x15 x16 x17 x18 x19 x20 x21 x22:Value,a = { tmps:=#[.agg vs.toArray,.int .i64 by_,.pointer (some ⟨b0,0,none⟩),undef,.slice none 0 0,x5,x6,undef,undef,.agg vs.toArray,.int .i64 by_,.int .i64 pl,.bool true,.tuple #[],x14,x15,x16,x17,x18,x19,x20,x21,x22,undef,undef,undef,undef,undef,undef,undef,undef,undef,undef,undef,undef,undef,undef,undef,undef,undef,undef,undef,undef,undef,undef,undef],defers:=[] }∧SlF vs ws Q n b0 zA zc w0 (fun k=>listed.getD k false) x5 x6 x14 x15 x16 x17 x18 x19 x20 x21 x22 w∧(listed.getD 11 false=true→listed.getD 2 false=true)∧(listed.getD 12 false=true→listed.getD 8 false=true)∧(listed.getD 11 false=true→listed.getD 9 false=true)∧(listed.getD 12 false=true→listed.getD 10 false=true)
theorem listed_less {listed:Array Bool} {i:Nat}:∀ k,(listed.setIfInBounds i true).getD k false=true→(fun k=>if k=i then true else listed.getD k false) k=true:=fun k h=>by
 by_cases e:k=i
 · simp [e]
 · rw [listed_ne (fun h=>e h.symm)] at h
   simp [e,h]
theorem listed_c {listed:Array Bool} {i p q:Nat} (h:listed.getD p false=true→listed.getD q false=true) (hn:listed.getD i false=false) (hp:i=p→listed.getD q false=true) (hpq:p≠q):(listed.setIfInBounds i true).getD p false=true→(listed.setIfInBounds i true).getD q false=true:=fun e=>by
 by_cases e1:i=p
 · subst e1
   rw [listed_ne hpq]
   exact hp rfl
 · rw [listed_ne e1] at e
   by_cases e2:i=q
   · subst e2
     rw [hn] at h
     exact absurd (h e) (by simp)
   · rw [listed_ne e2]
     exact h e
end Go.Proofs.YtkllhjhkcipkoaaGreatDoor.Rg

namespace Go.Proofs.YtkllhjhkcipkoaaGreatDoor.Rg
open Go.RowKit Go.Shelf Go.Maps Go.Proofs.YtkllhjhkcipkoaaGreatDoor.C Go.Proofs.YtkllhjhkcipkoaaGreatDoor.E

theorem colMany {B b0 P n:Nat} {W:World} {f:Nat→List UInt8} {vs:List Value} {t:TypeId} (h:ColV B W P n f vs) (hb:Blk W b0 t vs.toArray) (hB:B≤W.heap.size) (hP:P≤17):Many W.heap.size W (.slice (some ⟨b0,1,none⟩) P 17) ((List.range P).map f):=by
 refine ⟨_,17,by rw [List.length_map,List.length_range],by rw [List.length_map,List.length_range];exact hP,fun _=>⟨b0,1,rfl,hb.lt,fun j hj=>?_⟩⟩
 rw [List.length_map,List.length_range] at hj
 obtain ⟨_,u,h1,h2⟩:=h.2.2.1 j hj
 refine ⟨u,by rw [Nat.add_comm,hb.cell,List.getElem?_toArray];exact h1,?_⟩
 rw [List.getElem?_map,List.getElem?_range hj]
 exact h2.more hB
def hld (f:Nat→List UInt8) (z all:List UInt8) (l:List Int):List UInt8:=l.foldl (fun h x=>xorOf [h,xorOf [f x.toNat,all]]) z
theorem hld_snoc (f:Nat→List UInt8) (z all:List UInt8) (l:List Int) (x:Int):hld f z all (l ++ [x])=xorOf [hld f z all l,xorOf [f x.toNat,all]]:=by unfold hld;rw [List.foldl_append];rfl
theorem hld_len {f:Nat→List UInt8} {z all:List UInt8} {n:Nat} (hz:z.length=n):∀ (l:List Int),(hld f z all l).length=n:=by
 intro l
 unfold hld
 induction l generalizing z with
 | nil=>exact hz
 | cons x l ih=>exact ih (by rw [xorOf_len];exact hz)
theorem toNat_ne {x y:Int} (hx:0≤x) (hy:0≤y) (h:y≠x):x.toNat≠y.toNat:=by omega
def vblk:Value→Option Nat
 | .slice (some a) _ _=>some a.block
 | _=>none
def ownV (B:Nat) (us:List Value) (b:Nat):Prop:=B≤b∧∃ u∈us,vblk u=some b
theorem BytesA.vblk {A:Nat→Prop} {X Y:World} {u:Value} {l:List UInt8} (h:BytesA A X u l) (hs:X.heap.size≤Y.heap.size) (ho:∀ b,b<X.heap.size→Rg.vblk u=some b→Y.heap[b]?=X.heap[b]?):BytesA A Y u l:=by
 obtain ⟨a,cap,rfl,hc,hb⟩:=h
 refine ⟨a,cap,rfl,hc,fun hp=>?_⟩
 obtain ⟨b,off,rfl,h1,h2,hcell⟩:=hb hp
 exact ⟨b,off,rfl,Nat.lt_of_lt_of_le h1 hs,h2,fun j hj=>(World.cell?_of_block (ho b h1 rfl)).trans (hcell j hj)⟩
theorem fresh_vblk {B:Nat} {X Y:World} {u:Value} {l:List UInt8} (h:Fresh B X u l) (hs:X.heap.size≤Y.heap.size) (ho:∀ b,b<X.heap.size→Rg.vblk u=some b→Y.heap[b]?=X.heap[b]?):Fresh B Y u l:=by
 obtain ⟨a,cap,rfl,hc,hb⟩:=h
 refine ⟨a,cap,rfl,hc,fun hp=>?_⟩
 obtain ⟨b,off,rfl,h1,h2,hcell⟩:=hb hp
 exact ⟨b,off,rfl,h1,Nat.lt_of_lt_of_le h2 hs,fun j hj=>(World.cell?_of_block (ho b h2 rfl)).trans (hcell j hj)⟩
structure Put (B gm gh Q:Nat) (f:Nat→List UInt8) (z all:List UInt8) (n:Nat) (pre:List Int) (X:World) (hv:Value) (ms:List Value):Prop where
 lm:gm<B
 lh:gh<B
 bm:Blk X gm 60 ms.toArray
 bh:Blk X gh 60 #[hv]
 len:ms.length=Q
 held:BytesA (fun b=>b=gm∨b=gh) X hv (hld f z all pre)
 inn:∀ x∈pre,0≤x∧x.toNat<Q
 made:∀ j x,pre[j]?=some x→x∉pre.drop (j+1)→∃ u,ms[x.toNat]?=some u∧Fresh B X u (hld f z all (pre.take (j+1)))
 rows:∀ u∈hv :: ms,∀ b,vblk u=some b→∃ cs t fr,X.heap[b]?=some (.cells cs t fr)
section
variable {gm gh Q n B:Nat} {f:Nat→List UInt8} {z all:List UInt8} {pre:List Int} {X Y:World} {hv:Value} {ms:List Value}
theorem Put.rowO (h:Put B gm gh Q f z all n pre X hv ms):T.RowO (ownV B (hv :: ms)) X:=fun b ⟨_,u,hu,e⟩=>h.rows u hu b e
theorem Put.far (h:Put B gm gh Q f z all n pre X hv ms) {row:Option Nat} (hg:X.grownBy Y row) (hr:∀ r,row=some r→B≤r∧¬ ownV B (hv :: ms) r):Put B gm gh Q f z all n pre Y hv ms:=by
 have hgm:=h.lm
 have hgh:=h.lh
 have hk:∀ u∈hv :: ms,∀ b,b<X.heap.size→vblk u=some b→Y.heap[b]?=X.heap[b]?:=fun u hu b hb e=>hg.block b hb (fun e2=>by
  have h1:=hr b e2.symm
  exact h1.2 ⟨h1.1,u,hu,e⟩)
 refine ⟨h.lm,h.lh,h.bm.grown hg (fun e=>by have:=(hr gm e.symm).1;omega),h.bh.grown hg (fun e=>by have:=(hr gh e.symm).1;omega),h.len,h.held.vblk hg.size (hk hv (.head _)),h.inn,fun j x hj hn=>?_,fun u hu b e=>?_⟩
 · obtain ⟨u,h1,h2⟩:=h.made j x hj hn
   exact ⟨u,h1,fresh_vblk h2 hg.size (hk u (.tail _ (List.mem_of_getElem? h1)))⟩
 · obtain ⟨cs,t,fr,h1⟩:=h.rows u hu b e
   exact ⟨cs,t,fr,(hk u hu b (Array.getElem?_eq_some_iff.1 h1).1 e).trans h1⟩
theorem farO_put:T.FarO B (fun (pre:List Int) o X=>∃ hv ms,Put B gm gh Q f z all n pre X hv ms∧o=ownV B (hv :: ms)):=fun pre o X Y row ⟨hv,ms,hp,ho⟩ hg hr =>
 ⟨hv,ms,hp.far hg (by rw [←ho];exact hr),ho⟩
theorem Put.below (h:Put B gm gh Q f z all n pre X hv ms) (hb:Below X.heap.size X Y):Put B gm gh Q f z all n pre Y hv ms:=h.far (row:=none) (grown_below hb) (fun r e=>by cases e)
theorem Put.next (h:Put B gm gh Q f z all n pre X hv ms) {x:Int} {r:Value} {V:World} {base:Nat} (x0:0≤x) (x1:x.toNat<Q) (hne:gm≠gh) (hB:Below X.heap.size X V) (hr:Fresh base V r (xorOf [hld f z all pre,xorOf [f x.toNat,all]])) (hb:X.heap.size≤base) (hBX:B≤X.heap.size) (hn:0<(xorOf [hld f z all pre,xorOf [f x.toNat,all]]).length) :
 Put B gm gh Q f z all n (pre ++ [x]) ((V.setCell ⟨gh,0,none⟩ r).setCell ⟨gm,x.toNat,none⟩ r) r (ms.set x.toNat r)∧T.FreshO (ownV B (hv :: ms)) (ownV B (r :: ms.set x.toNat r)) X:=by
 have hlm:=h.bm.lt
 have hlh:=h.bh.lt
 have hO1:Only (fun b=>b=gm∨b=gh) V ((V.setCell ⟨gh,0,none⟩ r).setCell ⟨gm,x.toNat,none⟩ r):=(Only.set (.inr rfl) _).trans (Only.set (.inl rfl) _)
 have hO:Only (fun b=>b=gm∨b=gh) X ((V.setCell ⟨gh,0,none⟩ r).setCell ⟨gm,x.toNat,none⟩ r):=(Only.below hB).trans hO1
 have hlm':=h.lm
 have hlh':=h.lh
 have hfa:Fresh B ((V.setCell ⟨gh,0,none⟩ r).setCell ⟨gm,x.toNat,none⟩ r) r (hld f z all (pre ++ [x])):=by
  rw [hld_snoc]
  exact fresh_only (fresh_more hr (Nat.le_trans hBX hb)) hO1 (fun b e=>by omega)
 have hra:BytesA (fun b=>b=gm∨b=gh) ((V.setCell ⟨gh,0,none⟩ r).setCell ⟨gm,x.toNat,none⟩ r) r (hld f z all (pre ++ [x])):=by
  rw [hld_snoc]
  exact (BytesA.of_fresh hr (fun b e=>by omega)).only hO1
 obtain ⟨ra,rc,er,_,hrb⟩:=hr
 obtain ⟨b,off,e2,hb1,hb2,hcell⟩:=hrb hn
 have hvb:vblk r=some b:=by rw [er,e2];rfl
 have hcells:∃ cs t fr,((V.setCell ⟨gh,0,none⟩ r).setCell ⟨gm,x.toNat,none⟩ r).heap[b]?=some (.cells cs t fr):=by
  have h0:=hcell 0 hn
  have hbe:((V.setCell ⟨gh,0,none⟩ r).setCell ⟨gm,x.toNat,none⟩ r).heap[b]?=V.heap[b]?:=hO1.2 b hb2 (by omega)
  rw [hbe]
  unfold World.cell? at h0
  revert h0
  cases hh:V.heap[b]? with
  | none=>simp
  | some ob=>cases ob <;> simp
 refine ⟨⟨h.lm,h.lh,?_,?_,by rw [List.length_set];exact h.len,hra,fun y hy=>?_,fun j y hj hny=>?_,fun u hu c e=>?_⟩,fun c hc=>?_⟩
 · have:=((h.bm.below hB hlm).far (p:=⟨gh,0,none⟩) hne r).set_ x.toNat r
   rwa [List.setIfInBounds_toArray] at this
 · exact (((h.bh.below hB hlh).set_ 0 r)).far (p:=⟨gm,x.toNat,none⟩) (fun e=>hne e.symm) r
 · rcases List.mem_append.1 hy with hy | hy
   · exact h.inn y hy
   · obtain rfl:=List.mem_singleton.1 hy
     exact ⟨x0,x1⟩
 · rcases Nat.lt_or_ge j pre.length with hlt | hge
   · rw [List.getElem?_append_left hlt] at hj
     rw [List.drop_append_of_le_length (by omega)] at hny
     obtain ⟨u,h1,h2⟩:=h.made j y hj (fun e=>hny (List.mem_append.2 (.inl e)))
     have hyx:y≠x:=fun e=>hny (List.mem_append.2 (.inr (by rw [e];exact List.mem_singleton.2 rfl)))
     have hy0:=(h.inn y (List.mem_of_getElem? hj)).1
     refine ⟨u,by rw [List.getElem?_set_ne (toNat_ne x0 hy0 hyx)];exact h1,?_⟩
     rw [List.take_append_of_le_length (by omega)]
     exact fresh_only h2 hO (fun b e=>by omega)
   · have hjl:j=pre.length:=by
      have:=(List.getElem?_eq_some_iff.1 hj).1
      rw [List.length_append,List.length_singleton] at this
      omega
     subst hjl
     rw [List.getElem?_append_right (Nat.le_refl _),Nat.sub_self] at hj
     obtain rfl:x=y:=by simpa using hj
     refine ⟨r,List.getElem?_set_self (by rw [h.len];exact x1),?_⟩
     rw [List.take_of_length_le (by rw [List.length_append,List.length_singleton];exact Nat.le_refl _)]
     exact hfa
 · have hold:u∈hv :: ms→∃ cs t fr,((V.setCell ⟨gh,0,none⟩ r).setCell ⟨gm,x.toNat,none⟩ r).heap[c]?=some (.cells cs t fr):=fun hu=>by
    obtain ⟨cs,t,fr,h1⟩:=h.rows u hu c e
    have hc:=(Array.getElem?_eq_some_iff.1 h1).1
    by_cases h2:c=gm
    · subst h2
      have:=((h.bm.below hB hlm).far (p:=⟨gh,0,none⟩) hne r).set_ x.toNat r
      exact ⟨_,_,_,this⟩
    · by_cases h3:c=gh
      · subst h3
        have:=(((h.bh.below hB hlh).set_ 0 r)).far (p:=⟨gm,x.toNat,none⟩) (fun e=>hne e.symm) r
        exact ⟨_,_,_,this⟩
      · exact ⟨cs,t,fr,(hO.2 c hc (fun e=>e.elim h2 h3)).trans h1⟩
   rcases List.mem_cons.1 hu with rfl | hu
   · rw [hvb] at e
     injection e with e
     subst e
     exact hcells
   · rcases List.mem_or_eq_of_mem_set hu with h1 | rfl
     · exact hold (.tail _ h1)
     · rw [hvb] at e
       injection e with e
       subst e
       exact hcells
 · obtain ⟨hBc,u,hu,e⟩:=hc
   have hrc:vblk r=some c→ownV B (hv :: ms) c∨X.heap.size≤c:=fun e=>by
    rw [hvb] at e
    injection e with e
    exact .inr (by omega)
   rcases List.mem_cons.1 hu with rfl | hu
   · exact hrc e
   · rcases List.mem_or_eq_of_mem_set hu with h1 | rfl
     · exact .inl ⟨hBc,u,.tail _ h1,e⟩
     · exact hrc e
end
def slackL (P Q:Nat) (f:Nat→List UInt8) (by_:Int):List (List UInt8):=(List.range Q).map fun r:Nat=>hld f (f Q) (xorOf ((List.range P).map f)) ((rowsF P (walkN P ((P:Int) - 1) by_)).take ((rowsF P (walkN P ((P:Int) - 1) by_)).idxOf (r:Int)+1))
theorem slack_rows (P Q:Nat) (hQ:P=Q+1) (hp:(P:Int)∈prm) (by_:Int) (hby:by_ % (P:Int)≠0):(rowsF P (walkN P ((P:Int) - 1) by_)).Nodup∧(∀ r:Nat,r<Q→(r:Int)∈rowsF P (walkN P ((P:Int) - 1) by_))∧∀ x∈rowsF P (walkN P ((P:Int) - 1) by_),0≤x∧x<(P:Int) - 1:=by
 have hb:=prm_bounds hp
 have h0:=Int.emod_nonneg by_ (show (P:Int)≠0 by omega)
 have h1:=Int.emod_lt_of_pos by_ (show (0:Int)<P by omega)
 obtain ⟨i,i0,i1,hi⟩:=inv_ex (P:Int) hp (by_ % (P:Int)) h0 h1 hby
 rw [walkN_yes (fine_one.2 ⟨hp,by omega,by omega⟩),Int.toNat_natCast]
 have hn:=walk_nodup P ((P:Int) - 1) (by_ % (P:Int)) i hi
 have hin:=walk_in P (by omega) ((P:Int) - 1) (by_ % (P:Int))
 refine ⟨List.Nodup.sublist List.filter_sublist hn,fun r hr=>?_,fun x hx=>?_⟩
 · unfold rowsF
   refine List.mem_filter.2 ⟨?_,by simp;omega⟩
   have hc:=walk_comes P (by omega) ((P:Int) - 1) (r:Int) (by_ % (P:Int)) i hi (by omega) (by omega)
   have h2:=Int.emod_nonneg (((r:Int) - ((P:Int) - 1)) % (P:Int) * i) (show (P:Int)≠0 by omega)
   have h3:=Int.emod_lt_of_pos (((r:Int) - ((P:Int) - 1)) % (P:Int) * i) (show (0:Int)<P by omega)
   unfold walkL
   exact List.mem_map.2 ⟨_,List.mem_range.2 (by omega),hc⟩
 · unfold rowsF at hx
   have h2:=List.mem_filter.1 hx
   have h3:=hin x h2.1
   have h4:x≠(P:Int) - 1:=by simpa using h2.2
   omega
theorem cell_put {X:World} {D:Nat} {ds:Option (List Deferred)} {ob:Obj} {p:Addr} {u:Value} (hD:X.heap[D]?=some (.deferred ds)) (h:X.cell? p=some u):(X.putObj D ob).cell? p=some u:=by
 have hne:p.block≠D:=fun e=>by
  unfold World.cell? at h
  rw [e,hD] at h
  simp at h
 exact (World.cell?_of_block (World.putObj_heap_other hne)).trans h
theorem fresh_put {X:World} {D base:Nat} {ds:Option (List Deferred)} {ob:Obj} {v:Value} {l:List UInt8} (hD:X.heap[D]?=some (.deferred ds)) (h:Fresh base X v l):Fresh base (X.putObj D ob) v l:=by
 obtain ⟨a,cap,e,hc,hb⟩:=h
 refine ⟨a,cap,e,hc,fun hp=>?_⟩
 obtain ⟨b,off,e2,h1,h2,hcell⟩:=hb hp
 exact ⟨b,off,e2,h1,by simpa [World.putObj] using h2,fun j hj=>cell_put hD (hcell j hj)⟩
theorem freshMany_put {X:World} {D base:Nat} {ds:Option (List Deferred)} {ob:Obj} {v:Value} {ls:List (List UInt8)} (hD:X.heap[D]?=some (.deferred ds)) (h:FreshMany base X v ls):FreshMany base (X.putObj D ob) v ls:=by
 obtain ⟨a,cap,e,hc,hb⟩:=h
 refine ⟨a,cap,e,hc,fun hp=>?_⟩
 obtain ⟨b,off,e2,h1,h2,hcell⟩:=hb hp
 refine ⟨b,off,e2,h1,by simpa [World.putObj] using h2,fun j hj=>?_⟩
 obtain ⟨u,h3,h4⟩:=hcell j hj
 exact ⟨u,cell_put hD h3,fresh_put hD h4⟩
theorem idx_fact {zs:List Int} (hn:zs.Nodup) {x:Int} (hx:x∈zs):zs[zs.idxOf x]?=some x∧x∉zs.drop (zs.idxOf x+1):=by
 have hlt:=List.idxOf_lt_length_of_mem hx
 have he:zs[zs.idxOf x]?=some x:=by rw [List.getElem?_eq_getElem hlt,List.getElem_idxOf hlt]
 refine ⟨he,fun hd=>?_⟩
 obtain ⟨k,hk⟩:=List.getElem?_of_mem hd
 rw [List.getElem?_drop] at hk
 have hk2:=(List.getElem?_eq_some_iff.1 hk).1
 have:=(List.getElem?_inj hlt hn).1 (he.trans hk.symm)
 omega
end Go.Proofs.YtkllhjhkcipkoaaGreatDoor.Rg
