/- -/
import Derived.Test.YtknkdbincaonbaaGreatDoorCCG3
import Derived.Test.YtknkdbincaonbaaGreatDoorCCG7
import Derived.Shelf.SlSortCmp.WholeK
import Derived.Test.YtknkdbincaonbaaGreatDoorCCG6
import Derived.Test.YtknkdbincaonbaaGreatDoorCCSA
set_option linter.unusedVariables false
set_option linter.unusedSimpArgs false
set_option maxRecDepth 100000
set_option maxHeartbeats 4000000
namespace Go.Proofs.YtknkdbincaonbaaGreatDoor
open Go.RowKit Go.Shelf
attribute [local go_sem] Oper.semAt_some

theorem rowsL_mem {p y:Int} (hy:0≤y∧y<p - 1):y∈rowsL p:=by
 unfold rowsL
 exact List.mem_map.2 ⟨y.toNat,List.mem_range.2 (by omega),by omega⟩
theorem cellsDown_in (n:Nat) (hn:4≤n) (l g h lo mm:Nat) (k p s m col:Int) (hp:p∈prm) (hu:Und p s m) (hg1:lo≤g) (hg2:g<lo+mm) (hh1:lo≤h) (hh2:h<lo+mm) (W:World) (hW:lo+mm≤W.heap.size) (hL:Laid W) (J Jx:List Int→Option Nat→World→Prop) (o₀:Option Nat) (ho₀:∀ b,o₀=some b→b<W.heap.size)
 (hJ:FarO W.heap.size J) (hJx:FarO W.heap.size Jx) (hr1:∀ s o X,J s o X→RowO o X) (hr2:∀ s o X,Jx s o X→RowO o X)
 (hY:∀ pre x o W1,J pre o W1→x∈rowsL p→pre.length<p.toNat→W.heap.size≤W1.heap.size→YieldAt Fence.wide (n - 1) Tryz.prog l #[.agg #[.int .i64 col,.int .i64 x]] W1 fun e W'=>∃ o',FreshO o o' W1∧SinceO W.heap.size o W1 W'∧((e = .returned (.bool true)∧J (pre ++ [x]) o' W'∧Keep lo mm W1 W')∨(e = .returned (.bool false)∧Jx (pre ++ [x]) o' W')))
 (bg:Blk W g 116 #[.int .i64 k,.int .i64 p,.int .i64 s,.int .i64 m]) (bh:Blk W h 3 #[.int .i64 col]) (h0:J [] o₀ W) :
 CallsIn Fence.wide n Tryz.prog 241 #[.func (.yield l) #[] #[],.pointer (some ⟨g,0,none⟩),.pointer (some ⟨h,0,none⟩)] W fun e W'=>(∃ v,e = .returned v)∧∃ o',FreshO o₀ o' W∧((∃ ys,ys=rowsL p∧J ys o' W')∨(∃ pre,pre <+: rowsL p∧Jx pre o' W')):=by
 have HWk:=Lib.hid (fun V hV=>modWalk_any p 0 1 V hV (by omega) (by omega))
 refine callsIn_of_wp_marks Tryz.func241 rfl trivial ?_ rfl
 simp only [Tryz.ntmps241,List.size_toArray,List.length_cons,List.length_nil,Nat.reduceAdd,Nat.reduceSub,Array.replicate_succ,Array.replicate_zero,List.push_toArray,List.append_toArray,List.nil_append,List.cons_append]
 obtain ⟨W0,hW0⟩:∃ W0,W.alloc (.cells #[.func (.yield l) #[] #[]] 132)=W0:=⟨_,rfl⟩
 have hB0:Below W.heap.size W W0:=by rw [←hW0];exact below_one W _
 have bY:Blk W0 W.heap.size 132 #[.func (.yield l) #[] #[]]:=by rw [←hW0];exact Blk.new W _ _
 have bg0:=bg.below hB0 bg.lt
 have bh0:=bh.below hB0 bh.lt
 have hL0:=hL.next hB0
 have hJ0:J [] o₀ W0:=hJ.below h0 hB0
 have d1:W0.cell? ⟨g,1,none⟩=some (.int .i64 p):=bg0.cell 1
 gi_wp2_with fail
 refine wpIn_scope_wide ?_
 gi_wp2_with fail
 refine wpIn_label ?_
 gi_wp2_with fail
 refine ⟨trivial,fun _=>by omega,(callsIn_wide.2 (HWk.out _ hL0)).mono ?_⟩
 rintro e v1 ⟨v,rfl,⟨gf,lb,rfl,eg,eq,⟨kk,hgo⟩⟩,hX⟩
 have bY1:=bY.below hX bY.lt
 have bg1:=bg0.below hX bg0.lt
 have bh1:=bh0.below hX bh0.lt
 have hJ1:J [] o₀ v1:=hJ.below hJ0 hX
 have hlo:=hX.size
 have hi:=bY.lt
 clear eq hL0 bg0 bh0 d1 hJ0 HWk
 gi_wp2_with fail
 refine wpIn_rangeOwn1 rfl (by omega) (gf:=gf) (lb:=lb) rfl trivial eg (hgo _ (by omega)) (by omega) (Below.refl _ _) (fun _=>rfl)
  (fun pre V=>(∃ o,J pre o V∧FreshO o₀ o W∧∀ b,o=some b→b<W.heap.size∨v1.heap.size+(2+kk)≤b)∧(∀ y∈pre,0≤y∧y<p - 1)∧Blk V W.heap.size 132 #[.func (.yield l) #[] #[]]∧Blk V g 116 #[.int .i64 k,.int .i64 p,.int .i64 s,.int .i64 m]∧Blk V h 3 #[.int .i64 col])
  (fun c pre V=>c = .exit 0∧∃ q x o,pre=q ++ [x]∧FreshO o₀ o W∧(∀ b,o=some b→b<W.heap.size∨v1.heap.size+(2+kk)≤b)∧((¬ (0≤x∧x<p - 1)∧J q o V)∨((0≤x∧x<p - 1)∧Jx pre o V)))
  ?hI ?hIx ⟨⟨o₀,hJ1,.inl rfl,fun b e=>.inl (ho₀ b e)⟩,by simp,bY1,bg1,bh1⟩ ?a1 ?assign ?body ?done ?stop
 case hI =>
  refine Spares.and (fun s X Y row hs hg hr=>?_) ((spares_pure _ _ _).and ((spares_blk (by omega) _ (fun _=>_)).and ((spares_blk (by omega) _ (fun _=>_)).and (spares_blk (by omega) _ (fun _=>_)))))
  obtain ⟨o,h1,h2,h3⟩:=hs
  exact ⟨o,hJ s o X Y row h1 hg (fun r e=>⟨by have:=hr r e;omega,fun e2=>by have:=hr r e;have:=h3 r e2.symm;omega⟩),h2,h3⟩
 case hIx =>
  rintro c pre X Y row ⟨h1,q,x,o,h2,hf,hb,h3⟩ hg hr
  have hr':∀ r,row=some r→W.heap.size≤r∧some r≠o:=fun r e=>⟨by have:=hr r e;omega,fun e2=>by have:=hr r e;have:=hb r e2.symm;omega⟩
  exact ⟨h1,q,x,o,h2,hf,hb,h3.imp (fun h=>⟨h.1,hJ _ _ _ _ _ h.2 hg hr'⟩) (fun h=>⟨h.1,hJx _ _ _ _ _ h.2 hg hr'⟩)⟩
 case assign =>
  intro l' x V K hK
  gi_wp2
  exact hK
 case body =>
  rintro l' pre x V hsz ⟨⟨o,hj,hfo,hbo⟩,hr,bY,bg,bh⟩ hlen
  have hYo:some W.heap.size≠o:=fun e=>by have:=hbo _ e.symm;omega
  have hlen2:pre.length<p.toNat:=by
   obtain ⟨e1,e2,_⟩:=rows_walk p hp
   rw [e1,List.length_append] at hlen
   simp at hlen
   omega
  have hn3:1≤n - 1 - 1:=by omega
  have c0:=bg.cell 0
  have c1:=bg.cell 1
  have c2:=bg.cell 2
  have c3:=bg.cell 3
  simp only [gz9] at c0 c1 c2 c3
  by_cases hx:0≤x∧x<p - 1
  · have HR:=Lib.hid (fun V=>(hasRow_any k p s m x hu V).mono fun _ _ h=>And.intro (h.1.trans (ret_bool (decide_eq_true hx))) h.2)
    gi_wp2_with fail
    refine ⟨trivial,(CallsIn.inRound l' (callsIn_wide.2 (HR.out V))).mono ?_⟩
    rintro e V1 ⟨rfl,hB1⟩
    have hj1:J pre o V1:=hJ.below hj hB1
    have hs1:=hB1.size
    have cY:=(bY.below hB1 bY.lt).one
    have cH:=(bh.below hB1 bh.lt).one
    obtain ⟨fn,tmps,asg,bdy,hy,hR⟩:=YieldAt.deep (m:=n - 1 - 1 - 1) (hY pre x o V1 hj1 (rowsL_mem hx) hlen2 (by omega))
    gi_wp2
    refine hR.mono ?_
    rintro e W3 ⟨o',hf3,hS3,(⟨rfl,hJ3,hk3⟩ | ⟨rfl,hJx3⟩)⟩
    · gi_wp2
      have hS:SinceO W.heap.size o V W3:=(SinceO.below hB1).trans_ hS3
      have hbo':∀ b,o'=some b→b<W.heap.size∨v1.heap.size+(2+kk)≤b:=fun b e=>by
       rcases hf3 with rfl | ⟨b2,rfl,hb2⟩
       · exact hbo b e
       · injection e with e;omega
      have hfo':FreshO o₀ o' W:=hfo.trans (by omega) hf3
      have hkk:Keep lo mm V W3:=(Keep.below hB1 (by omega)).trans hk3
      refine ⟨hS.keep (by omega) hsz (fun b e=>by have:=hbo b e;omega),hS.keep (by omega) (by omega) (fun b e=>by have:=hbo b e;omega),⟨o',hJ3,hfo',hbo'⟩,?_,(hS.2 _ (Nat.le_refl _) bY.lt hYo).trans bY,hkk.blk bg hg1 hg2,hkk.blk bh hh1 hh2⟩
      intro y hy
      rcases List.mem_append.1 hy with h1 | h1
      · exact hr y h1
      · rw [List.mem_singleton.1 h1];exact hx
    · gi_wp2
      have hS:SinceO W.heap.size o V W3:=(SinceO.below hB1).trans_ hS3
      have hbo':∀ b,o'=some b→b<W.heap.size∨v1.heap.size+(2+kk)≤b:=fun b e=>by
       rcases hf3 with rfl | ⟨b2,rfl,hb2⟩
       · exact hbo b e
       · injection e with e;omega
      have hfo':FreshO o₀ o' W:=hfo.trans (by omega) hf3
      exact ⟨hS.keep (by omega) hsz (fun b e=>by have:=hbo b e;omega),rfl,pre,x,o',rfl,hfo',hbo',.inr ⟨hx,hJx3⟩⟩
  · have HR:=Lib.hid (fun V=>(hasRow_any k p s m x hu V).mono fun _ _ h=>And.intro (h.1.trans (ret_bool (decide_eq_false hx))) h.2)
    gi_wp2_with (refine ⟨trivial,?_⟩;gi_at_call 243;refine (callsIn_wide.2 (HR.out _)).mono ?_;rintro e V1 ⟨rfl,hB1⟩)
    refine ⟨fun _ h=>(by cases h),?_⟩
    gi_wp2
    have hS1:Since W.heap.size V V1:=Since.below hB1
    exact ⟨hS1.keep (by omega) hsz,rfl,pre,x,o,rfl,hfo,hbo,.inl ⟨hx,hJ.below hj hB1⟩⟩
 case done =>
  rintro D xs V hD rfl ⟨_,hr,_⟩ _
  exfalso
  obtain ⟨e1,_,_⟩:=rows_walk p hp
  have:=hr (p - 1) (by rw [e1];simp)
  omega
 case stop =>
  rintro D c pre V hD hSp ⟨rfl,q,x,o,rfl,hfo,hbo,hq⟩ hK
  gi_wp2
  rw [Exit.noGoto_normal]
  refine ⟨by simp,.inl ⟨_,_,rfl,run_takeDeferred hK,?_⟩⟩
  refine ⟨_,results_none rfl _ _ _,⟨_,rfl⟩,o,hfo,?_⟩
  rcases hq with ⟨hx,hq⟩ | ⟨hx,hq⟩
  · exact .inl ⟨q,rows_left p hp q x hSp hx,hJ.put hq (by omega) ((hr1 _ _ _ hq).ne hK) _⟩
  · exact .inr ⟨_,rows_some p hp q x hSp hx,hJx.put hq (by omega) ((hr2 _ _ _ hq).ne hK) _⟩

def PlacesO (lo:Nat) (col:Int) (zs:List Int) (N:Nat) (v:Value) (w:World):Prop :=
 ∃ gf lb,v = .func (.func gf) #[] lb∧(∀ args W,(callFunc gf args).run Tryz.prog W = .ok (.enter gf args) W)∧(∀ W,(binOp .eql 50 v .nilFunc).run Tryz.prog W = .ok (.bool false) W) ∧
  ∀ n,4≤n→SeqO Fence.wide n Tryz.prog gf lb (fun x:Int=>#[.agg #[.int .i64 col,.int .i64 x]]) (fun x _=>x∈zs) (Keep lo (w.heap.size - lo)) (fun ys=>ys=zs) (fun pre=>pre <+: zs) N w

theorem cells1_inO (n l:Nat) (J Jx:List Int→Option Nat→World→Prop) (o₀:Option Nat) (W:World) (h0:J [] o₀ W) :
 CallsIn Fence.wide n Tryz.prog 207 (#[.func (.yield l) #[] #[]] ++ #[]) W fun e W'=>(∃ v,e = .returned v)∧∃ o',FreshO o₀ o' W∧((∃ ys,ys = []∧J ys o' W')∨(∃ pre,pre <+: []∧Jx pre o' W')):=by
 refine callsIn_of_wp Tryz.func207 rfl trivial ?_ rfl
 simp only [Tryz.ntmps207,List.size_toArray,List.length_cons,List.length_nil,Nat.reduceAdd,Nat.reduceSub,Array.replicate_succ,Array.replicate_zero,List.push_toArray,List.append_toArray,List.nil_append,List.cons_append]
 gi_wp2
 go_end0
 exact ⟨⟨_,rfl⟩,o₀,.inl rfl,.inl ⟨_,rfl,h0⟩⟩

theorem down_anyO (k p s m col:Int) (hp:p∈prm) (hu:Und p s m) (w:World) (hL:Laid w) :
 Calls Tryz.prog 206 #[.agg #[.int .i64 k,.int .i64 p,.int .i64 s,.int .i64 m],.int .i64 col] w fun e w'=>∃ v,e = .returned v∧PlacesO w.heap.size col (rowsL p) p.toNat v w'∧Below w.heap.size w w':=by
 have hmf:=make_func
 go_enter Tryz.func206,Tryz.ntmps206
 go_wp2
 go_ret
 have hB:=below_two w (.cells #[.int .i64 k,.int .i64 p,.int .i64 s,.int .i64 m] 116) (.cells #[.int .i64 col] 3)
 have bg:=(Blk.new w 116 #[.int .i64 k,.int .i64 p,.int .i64 s,.int .i64 m]).alloc (.cells #[.int .i64 col] 3)
 have bh:=Blk.second w (.cells #[.int .i64 k,.int .i64 p,.int .i64 s,.int .i64 m] 116) 3 #[.int .i64 col]
 have hL2:=hL.next hB
 refine ⟨_,rfl,⟨_,_,rfl,enter_down1,eql_down1 _ _,?_⟩,hB⟩
 intro n hn l J Jx W o₀ hW ho₀ hJ hJx hr1 hr2 hY h0
 exact cellsDown_in n hn l _ _ w.heap.size _ k p s m col hp hu (Nat.le_refl _) (by simp;omega) (by omega) (by simp;omega) W (by have:=hW.size;simp at this ⊢;omega) (hL2.next hW) J Jx o₀ ho₀ hJ hJx hr1 hr2 hY (bg.below hW bg.lt) (bh.below hW bh.lt) h0

theorem PlacesO.less {lo lo' N:Nat} {col:Int} {zs:List Int} {v:Value} {w:World} (h:PlacesO lo col zs N v w) (hl:lo'≤lo) (hw:lo≤w.heap.size):PlacesO lo' col zs N v w:=by
 obtain ⟨gf,lb,e,eg,eq,hg⟩:=h
 exact ⟨gf,lb,e,eg,eq,fun n hn l J Jx W o₀ hW ho₀ hJ hJx hr1 hr2 hY h0=>hg n hn l J Jx W o₀ hW ho₀ hJ hJx hr1 hr2 (fun pre x o W1 hj hok hl' hs=>(hY pre x o W1 hj hok hl' hs).mono fun _ _ ⟨o',hf,hS,h⟩=>⟨o',hf,hS,h.imp (fun ⟨h1,h2,h3⟩=>⟨h1,h2,h3.less hl (by omega)⟩) id⟩) h0⟩

theorem none_placesO (lo N:Nat) (x:Int) (w:World):PlacesO lo x [] N (.func (.func 207) #[] #[]) w :=
 ⟨_,_,rfl,enter_cells1,eql_cells1,fun n _ l J Jx W o₀ _ _ _ _ _ _ _ h0=>cells1_inO n l J Jx o₀ W h0⟩

theorem shapeCells_anyO (k p x:Int) (w:World) (hL:Laid w):Calls Tryz.prog 170 #[.agg #[.int .i64 k,.int .i64 p],.int .i64 x] w fun e w'=>∃ v,e = .returned v∧(∃ zs,Column k p x zs∧PlacesO w.heap.size x zs p.toNat v w')∧Below w.heap.size w w':=by
 have hB:=below_one w (.cells #[.int .i64 k,.int .i64 p] 24)
 by_cases hR:RightC k p
 · by_cases hb:HasCol k p x
   · have HT:=Lib.hid (toldS_yes 205 206 enter_hasColumn enter_down k p x hR _ (fun W hL=>(hasColumn_any k p _ _ x hR.und W).mono fun _ _ h=>⟨h.1.trans (ret_bool (decide_eq_true hb)),h.2⟩)
      (fun v w'=>PlacesO w.heap.size x (rowsL p) p.toNat v w') (fun W hL hs=>(down_anyO k p _ _ x hR.2 hR.und W hL).mono fun _ _ ⟨v,h1,h2,h3⟩=>⟨v,h1,h2.less (by have:=hB.size;omega) h3.size,h3⟩) (hL.next hB))
     have HC:Hid (Column k p x (rowsL p)):=.inl ⟨hR,hb,rfl⟩
     clear hb hR
     generalize rowsL p=zs at *
     go_enter Tryz.func170,Tryz.ntmps170
     go_wp2_with (go_at_call 204;refine HT.out.mono ?_;rintro e w1 ⟨v,rfl,hv,hB1⟩)
     go_ret
     exact ⟨_,rfl,⟨_,HC.out,hv⟩,below_in hB hB1⟩
   · have HT:=Lib.hid (toldS_out 205 206 enter_hasColumn k p x hR (fun W hL=>(hasColumn_any k p _ _ x hR.und W).mono fun _ _ h=>⟨h.1.trans (ret_bool (decide_eq_false hb)),h.2⟩) _ (hL.next hB))
     have HC:Hid (Column k p x []):=.inr ⟨fun h=>hb h.2,rfl⟩
     clear hb hR
     go_enter Tryz.func170,Tryz.ntmps170
     go_wp2_with (go_at_call 204;refine HT.out.mono ?_;rintro e w1 ⟨rfl,hB1⟩)
     go_ret
     exact ⟨_,rfl,⟨_,HC.out,none_placesO _ _ _ _⟩,below_in hB hB1⟩
 · have HT:=Lib.hid (toldS_no 205 206 k p x hR _ (hL.next hB))
   have HC:Hid (Column k p x []):=.inr ⟨fun h=>hR h.1,rfl⟩
   clear hR
   go_enter Tryz.func170,Tryz.ntmps170
   go_wp2_with (go_at_call 204;refine HT.out.mono ?_;rintro e w1 ⟨rfl,hB1⟩)
   go_ret
   exact ⟨_,rfl,⟨_,HC.out,none_placesO _ _ _ _⟩,below_in hB hB1⟩
end Go.Proofs.YtknkdbincaonbaaGreatDoor

namespace Go.Proofs.YtknkdbincaonbaaGreatDoor
open Go.RowKit Go.Shelf
attribute [local go_sem] Oper.semAt_some

theorem far_laid {β:Type} {B:Nat} {W0:World} (hL:Laid W0) (hB:W0.heap.size≤B):Far B (fun (_:β) W=>Laid W):=fun s X Y row hs hg hr=>by
 have h1:=hL.1.lt
 have h2:=hL.2.lt
 exact ⟨hs.1.grown hg (fun e=>by have:=hr _ e.symm;omega),hs.2.grown hg (fun e=>by have:=hr _ e.symm;omega)⟩
theorem farO_laid {β:Type} {B:Nat} {W0:World} (hL:Laid W0) (hB:W0.heap.size≤B):FarO B (fun (_:β) (_:Option Nat) W=>Laid W):=fun s o X Y row hs hg hr=>far_laid (β:=β) hL hB s X Y row hs hg (fun r e=>(hr r e).1)
section
variable {B lo mm:Nat} {X Y Z:World} {o o':Option Nat}
theorem farO_keep {β:Type} {B':Nat} (V:World) (hB:V.heap.size≤B') (hk:lo+mm≤V.heap.size):FarO B' (fun (_:β) (_:Option Nat) X=>Keep lo mm V X):=fun s o X Y row hs hg hr =>
 hs.trans ⟨hg.size,fun b h1 h2=>by
  rcases Nat.lt_or_ge b X.heap.size with h3 | h3
  · exact hg.block b h3 (fun e=>by have:=(hr b e.symm).1;omega)
  · exact absurd h3 (by have:=hs.1;omega)⟩
theorem farO_since {β:Type} {B':Nat} (V:World) (o₀:Option Nat) (hB:V.heap.size≤B'):FarO B' (fun (_:β) (_:Option Nat) X=>SinceO B o₀ V X):=fun s o X Y row hs hg hr =>
 ⟨Nat.le_trans hs.1 hg.size,fun b h1 h2 h3=>(hg.block b (by have:=hs.1;omega) (fun e=>by have:=(hr b e.symm).1;omega)).trans (hs.2 b h1 h2 h3)⟩
theorem Left.sinceO {base:Nat} {Ds:List Nat} (h:Left base X Ds) (hs:SinceO B o X Y) (hB:B≤base) (hr:RowO o X):Left base Y Ds :=
 ⟨h.1,fun D hD=>⟨(h.2 D hD).1,(hs.2 D (Nat.le_trans hB (h.2 D hD).1) (h.lt hD) (hr.ne (h.2 D hD).2)).trans (h.2 D hD).2⟩⟩
theorem Left.more_ {base:Nat} {Ds:List Nat} (h:Left base X Ds) (hs:SinceO B o X Y) (hB:B≤base) (hr:RowO o X) {D:Nat} (hb:base≤D) (hn:X.heap.size≤D) (hD:Y.heap[D]?=some (.deferred (some []))):Left base Y (D :: Ds):=by
 refine ⟨List.nodup_cons.2 ⟨fun hm=>by have:=h.lt hm;omega,h.1⟩,fun E hE=>?_⟩
 rcases List.mem_cons.1 hE with rfl | hE
 · exact ⟨hb,hD⟩
 · exact (h.sinceO hs hB hr).2 E hE
end
theorem leaves_farO {β:Type} {F:Fence} {n:Nat} {P:Program} {fn:Func} {tmps:Array Value} {R:Ending→World→Prop} {B:Nat} {I:β→Option Nat→World→Prop} (hI:FarO B I) (s:β) (o:Option Nat) (hr:∀ X,I s o X→RowO o X) :
 ∀ (Ds:List Nat) (W:World),Left B W Ds→I s o W→(∀ W':World,I s o W'→LeavesInM F n P fn tmps R [] .returning W')→LeavesInM F n P fn tmps R (leftOf Ds) .returning W
 | [],W,_,hs,h=>h W hs
 | D :: Ds,W,hL,hs,h=>by
   obtain ⟨hb,hD⟩:=hL.2 D (.head _)
   have hn:=List.nodup_cons.1 hL.1
   refine ⟨by simp,.inl ⟨_,_,rfl,run_takeDeferred hD,?_⟩⟩
   refine leaves_farO hI s o hr Ds _ ⟨hn.2,fun E hE=>⟨(hL.2 E (.tail _ hE)).1,?_⟩⟩ (hI.put hs hb ((hr _ hs).ne hD) _) h
   have hne:E≠D:=fun e=>hn.1 (by rw [←e];exact hE)
   exact (World.putObj_heap_other hne).trans (hL.2 E (.tail _ hE)).2
def KeepL (lo k:Nat) (X Y:World):Prop:=Keep lo k X Y∧(Laid X→Laid Y)
theorem KeepL.trans {lo k:Nat} {X Y Z:World} (h:KeepL lo k X Y) (h':KeepL lo k Y Z):KeepL lo k X Z:=⟨h.1.trans h'.1,fun hL=>h'.2 (h.2 hL)⟩
def flatC (p:Int) (cs:List Int):List (Int×Int):=cs.flatMap fun x=>(rowsL p).map fun y=>(x,y)
theorem flatC_next (p:Int) (cs:List Int) (i:Nat) (hi:i<cs.length):flatC p (cs.take (i+1))=flatC p (cs.take i) ++ (rowsL p).map (fun y=>(cs[i],y)):=by
 unfold flatC
 rw [List.take_succ_eq_append_getElem hi,List.flatMap_append,List.flatMap_singleton]
theorem flatC_prefix (p:Int) (cs:List Int) (i:Nat) (hi:i<cs.length) (pre:List Int) (h:pre <+: rowsL p):flatC p (cs.take i) ++ pre.map (fun y=>(cs[i],y)) <+: flatC p cs:=by
 obtain ⟨t,ht⟩:=h
 have e:cs=cs.take i ++ cs[i] :: cs.drop (i+1):=by rw [←List.drop_eq_getElem_cons hi,List.take_append_drop]
 refine ⟨t.map (fun y=>(cs[i],y)) ++ flatC p (cs.drop (i+1)),?_⟩
 have e2:flatC p cs=flatC p (cs.take i) ++ ((rowsL p).map (fun y=>(cs[i],y)) ++ flatC p (cs.drop (i+1))):=by
  unfold flatC
  conv=>lhs;rw [e]
  rw [List.flatMap_append,List.flatMap_cons]
 rw [e2,←ht,List.map_append,List.append_assoc,List.append_assoc]
theorem flatC_len (p:Int) (hp:p∈prm) (cs:List Int):(flatC p cs).length≤16 * cs.length:=by
 have hl:=(rows_walk p hp).2.1
 have hb:=prm_bounds hp
 have h16:(rowsL p).length≤16:=by omega
 unfold flatC
 induction cs with
 | nil=>simp
 | cons x cs ih=>rw [List.flatMap_cons,List.length_append,List.length_map,List.length_cons];omega

theorem setsDown_in (n:Nat) (hn:6≤n) (l g h lo mm bq cap:Nat) (k p d c:Int) (hR:RightC k p) (cs:List Int) (hcs:∀ x∈cs,HasCol k p x) (hcl:cs.length≤20) (hg:lo≤g∧g<lo+mm) (hh:lo≤h∧h<lo+mm) (hq:lo≤bq∧bq<lo+mm) (W:World) (hW:lo+mm≤W.heap.size) (hL:Laid W)
 (J Jx:List (Int×Int)→Option Nat→World→Prop) (o₀:Option Nat) (ho₀:∀ b,o₀=some b→b<W.heap.size) (hJ:FarO W.heap.size J) (hJx:FarO W.heap.size Jx) (hr1:∀ s o X,J s o X→RowO o X) (hr2:∀ s o X,Jx s o X→RowO o X)
 (hY:∀ pre x o W1,J pre o W1→x∈flatC p cs→pre.length<1000→W.heap.size≤W1.heap.size→YieldAt Fence.wide (n - 1) Tryz.prog l #[.agg #[.int .i64 x.1,.int .i64 x.2]] W1 fun e W'=>∃ o',FreshO o o' W1∧SinceO W.heap.size o W1 W'∧((e = .returned (.bool true)∧J (pre ++ [x]) o' W'∧KeepL lo mm W1 W')∨(e = .returned (.bool false)∧Jx (pre ++ [x]) o' W')))
 (bg:Blk W g 177 #[.int .i64 k,.int .i64 p,.int .i64 d,.int .i64 c]) (bh:Blk W h 124 #[.slice (some ⟨bq,0,none⟩) cs.length cap]) (hc:∀ (j:Nat) (hj:j<cs.length),W.cell? ⟨bq,j,none⟩=some (.int .i64 cs[j])) (h0:J [] o₀ W) :
 CallsIn Fence.wide n Tryz.prog 277 #[.func (.yield l) #[] #[],.pointer (some ⟨h,0,none⟩),.pointer (some ⟨g,0,none⟩)] W fun e W'=>(∃ v,e = .returned v)∧∃ o',FreshO o₀ o' W∧((∃ zs,zs=flatC p cs∧J zs o' W')∨(∃ pre,pre <+: flatC p cs∧Jx pre o' W')):=by
 refine callsIn_of_wp_marks Tryz.func277 rfl trivial ?_ rfl
 simp only [Tryz.ntmps277,List.size_toArray,List.length_cons,List.length_nil,Nat.reduceAdd,Nat.reduceSub,Array.replicate_succ,Array.replicate_zero,List.push_toArray,List.append_toArray,List.nil_append,List.cons_append]
 obtain ⟨W0,hW0⟩:∃ W0,W.alloc (.cells #[.func (.yield l) #[] #[]] 175)=W0:=⟨_,rfl⟩
 have hB0:Below W.heap.size W W0:=by rw [←hW0];exact below_one W _
 have bY:Blk W0 W.heap.size 175 #[.func (.yield l) #[] #[]]:=by rw [←hW0];exact Blk.new W _ _
 have s0:W0.heap.size=W.heap.size+1:=by rw [←hW0];simp
 have bh0:=bh.below hB0 bh.lt
 have hL0:=hL.next hB0
 have hJ0:J [] o₀ W0:=hJ.below h0 hB0
 have c0:=bh0.one
 gi_wp2_with fail
 refine wpIn_scope_wide ?_
 gi_wp2_with fail
 refine wpIn_label ?_
 gi_wp2_with fail
 clear hW0 c0
 refine loop_left [9,5,10,11,12,13,14,15,16,22] (fun m vs Ds V=>∃ (i:Nat) (y5 y10 y11 y12 y13 y14 y15 y16 y22:Value) (o:Option Nat),vs = [.int .i64 (i:Int),y5,y10,y11,y12,y13,y14,y15,y16,y22]∧i+m=cs.length∧J (flatC p (cs.take i)) o V∧FreshO o₀ o W∧some W.heap.size≠o∧Laid V∧Blk V W.heap.size 175 #[.func (.yield l) #[] #[]]∧Keep lo mm W0 V∧Left W.heap.size V Ds) cs.length
  [.int .i64 0,undef,undef,undef,undef,undef,undef,undef,undef,undef] (by kernel_rfl) ⟨0,undef,undef,undef,undef,undef,undef,undef,undef,undef,o₀,by kernel_rfl,by omega,by exact hJ0,.inl rfl,fun e=>by have:=ho₀ _ e.symm;omega,hL0,bY,Keep.refl _ _ _,Left.nil _ _⟩ ?_
 clear hJ0 h0
 rintro m vs Ds V ⟨i,y5,y10,y11,y12,y13,y14,y15,y16,y22,o,rfl,him,hj,hfo,hYo,hLV,bYV,hKV,hLe⟩ K hK
 simp only [sets,List.setIfInBounds_toArray,List.set_cons_zero,List.set_cons_succ]
 have bhV:=hKV.blk bh0 hh.1 hh.2
 have bgV:=hKV.blk (bg.below hB0 bg.lt) hg.1 hg.2
 have hsV:=hKV.1
 have hro:=hr1 _ _ _ hj
 have holt:=hro.lt
 by_cases hlt:i<cs.length
 · have hdec:decide ((i:Int)<(cs.length:Int))=true:=by simp;omega
   have hx0:=(World.cell?_of_block (a:=⟨bq,i,none⟩) (hKV.2 bq hq.1 hq.2)).trans (nextc (hc i hlt) hB0)
   have hcol:=hcs cs[i] (List.getElem_mem hlt)
   have HN1:=Lib.hid (flatC_next p cs i hlt)
   have HXM:Hid (∀ z∈rowsL p,(cs[i],z)∈flatC p cs):=fun z hz=>List.mem_flatMap.2 ⟨_,List.getElem_mem hlt,List.mem_map.2 ⟨z,hz,rfl⟩⟩
   have HN2:=Lib.hid (flatC_prefix p cs i hlt)
   have hpl:(flatC p (cs.take i)).length≤320:=by have:=flatC_len p hR.2 (cs.take i);rw [List.length_take] at this;omega
   generalize cs[i]=x at *
   have HCe:=Lib.hid (shapeCells_anyO k p x V hLV)
   have i1:(0:Int)≤(i:Int):=by omega
   have i2:(i:Int)<(cs.length:Int):=by omega
   have g0:=bgV.cell 0
   have g1:=bgV.cell 1
   simp only [gz9] at g0 g1
   gi_wp2_with fail
   refine ⟨trivial,fun _=>by omega,(callsIn_wide.2 HCe.out).mono ?_⟩
   rintro e w7 ⟨v,rfl,⟨zs,hcol2,gf,lb,rfl,eg,eq,hgo⟩,hB7⟩
   have hzs:zs=rowsL p:=hcol2.elim (fun h=>h.2.2) (fun h=>absurd ⟨hR,hcol⟩ h.1)
   have hs7:=hB7.size
   have hK7:Keep lo mm W0 w7:=hKV.trans (Keep.below hB7 (by omega))
   have hJ7:=hJ.below hj hB7
   have hL7:=hLV.next hB7
   have bY7:=bYV.below hB7 bYV.lt
   have HZ:=Lib.hid hzs
   have hpt:(p.toNat:Int)≤17:=by have:=(prm_bounds hR.2).2;omega
   clear hzs hcol2 HCe eq g0 g1 hx0 bgV bhV
   gi_wp2_with fail
   refine wpIn_rangeBoxO rfl (by omega) (gf:=gf) (lb:=lb) rfl trivial eg (hgo (n - 1) (by omega)) (fun h h'=>h.trans h') (fun W l o hl _ _=>Keep.putFar W (by omega) o) (Below.refl _ _) (fun _=>rfl)
    (fun pre oX X=>J (flatC p (cs.take i) ++ pre.map (fun y=>(x,y))) oX X∧FreshO o oX w7∧Laid X∧Keep lo mm w7 X∧SinceO W.heap.size o w7 X)
    (fun c pre oX X=>c = .exit 0∧Jx (flatC p (cs.take i) ++ pre.map (fun y=>(x,y))) oX X∧FreshO o oX w7∧SinceO W.heap.size o w7 X)
    ?hI ?hIx o (fun b e=>by have:=holt b e;omega) ⟨by simpa using hJ7,.inl rfl,hL7,Keep.refl _ _ _,SinceO.refl _ _ _⟩
    (fun z=>z∈zs) (fun _ _ h=>h) 53 (fun z:Int=>#[.int .i64 x,.int .i64 z]) ?a1
    ?assign (fun pre o W h=>hr1 _ _ _ h.1) (fun c pre o W h=>hr2 _ _ _ h.2.1) ?body ?done ?stop
   case hI =>
    exact FarO.and (fun s o X Y row hs hg hr=>hJ _ o X Y row hs hg (fun r e=>⟨by have:=(hr r e).1;omega,(hr r e).2⟩)) (FarO.and (farO_pure _ _) (FarO.and (farO_laid hL7 (Nat.le_refl _)) (FarO.and (farO_keep w7 (Nat.le_refl _) (by omega)) (farO_since w7 o (Nat.le_refl _)))))
   case hIx =>
    intro c
    exact FarO.and (farO_pure _ _) (FarO.and (fun s o X Y row hs hg hr=>hJx _ o X Y row hs hg (fun r e=>⟨by have:=(hr r e).1;omega,(hr r e).2⟩)) (FarO.and (farO_pure _ _) (farO_since w7 o (Nat.le_refl _))))
   case assign =>
    rintro l' pre z oX X KK hsz holX ⟨hj,hfX,hl,hkX,hst⟩ _ hKK
    gi_wp2
    have hbx:=Blk.new X 53 #[.int .i64 x,.int .i64 z]
    have hBz:=below_one X (.cells #[.int .i64 x,.int .i64 z] 53)
    have hSi:SinceO w7.heap.size oX X (X.alloc (.cells #[.int .i64 x,.int .i64 z] 53)):=SinceO.below hBz
    have hKe:Keep V.heap.size (w7.heap.size - V.heap.size) X (X.alloc (.cells #[.int .i64 x,.int .i64 z] 53)):=Keep.alloc (by omega) _
    have hj2:=hJ.below hj hBz
    have hl2:=hl.next hBz
    have hst2:=hst.trans hfX (SinceO.below hBz)
    have hkX2:=hkX.trans (Keep.below hBz (by have:=hkX.1;omega))
    have hne:some X.heap.size≠oX:=fun e=>by have:=holX _ e.symm;omega
    clear hBz holX
    generalize X.alloc (.cells #[.int .i64 x,.int .i64 z] 53)=X' at *
    generalize X.heap.size=Bx at *
    exact hKK Bx _ hSi hKe ⟨hj2,hfX,hl2,hkX2,hst2⟩ hbx hne hsz
   case body =>
    rintro l' pre z oX Bx X hsz ⟨hj,hfX,hl,hkX,hst⟩ hbx _ _ hzm hlz
    have hYc:=(hst.blk bY7 (Nat.le_refl _) hYo).one
    have z0:=hbx.cell 0
    have z1:=hbx.cell 1
    simp only [gz9] at z0 z1
    obtain ⟨fn,tmps,asg,bdy,hy,hRr⟩:=YieldAt.deep (m:=n - 1 - 1 - 1) (hY _ (x,z) oX X hj (HXM.out z (by rw [←HZ.out];exact hzm)) (by rw [List.length_append,List.length_map];omega) (by omega))
    have hn3:1≤n - 1 - 1:=by omega
    gi_wp2
    refine hRr.mono ?_
    have hmp:∀ (q:List Int) (y:Int),flatC p (cs.take i) ++ q.map (fun y=>(x,y)) ++ [(x,y)]=flatC p (cs.take i) ++ (q ++ [y]).map (fun y=>(x,y)):=fun q y=>by simp
    rintro e W3 ⟨o',hf3,hS3,(⟨rfl,hJ3,hk3⟩ | ⟨rfl,hJx3⟩)⟩
    · gi_wp2
      rw [hmp] at hJ3
      exact ⟨o',hf3,hS3.less (by omega),hS3.keep (by omega) (by omega) (fun b e=>by rcases hfX with rfl | ⟨b2,rfl,hb2⟩ <;> first | (injection e with e;omega) | (have:=holt b e;omega)),hJ3,hfX.trans hsz hf3,hk3.2 hl,hkX.trans hk3.1,hst.trans hfX hS3⟩
    · gi_wp2
      rw [hmp] at hJx3
      exact ⟨o',hf3,hS3.less (by omega),rfl,hJx3,hfX.trans hsz hf3,hst.trans hfX hS3⟩
   case done =>
    rintro D xs oX X hD _ rfl ⟨hj,hfX,hl,hkX,hst⟩ hKD _
    rw [HZ.out,←HN1.out] at hj
    have hj0:=hj
    have hLe2:=hLe.more_ (Y:=X) ((SinceO.below hB7).trans_ hst) (Nat.le_refl _) hro (D:=D) (by omega) (by omega) hKD
    have hbYX:=hst.blk bY7 (Nat.le_refl _) hYo
    have hKX:=hK7.trans hkX
    have hfoX:FreshO o₀ oX W:=hfo.trans (by omega) hfX
    have hYoX:=hfX.ne (by have:=bY7.lt;omega) hYo
    clear hst hj HN2 hY hkX hfX hr1 hr2 holt hro
    have hj:=hj0
    clear hj0
    gi_wp2_with fail
    have hz:=fun (y5 y10 y11 y12 y13 y14 y15 y16 y22:Value) hr=>hK (m - 1) [.int .i64 ((i:Int)+1),y5,y10,y11,y12,y13,y14,y15,y16,y22] (D :: Ds) X (by omega) hr
    simp only [sets,List.setIfInBounds_toArray,List.set_cons_zero,List.set_cons_succ] at hz
    refine hz _ _ _ _ _ _ _ _ _ ⟨i+1,_,_,_,_,_,_,_,_,_,oX,congrArg (fun x:Int=>Value.int .i64 x :: _) (by push_cast;rfl),by omega,hj,hfoX,hYoX,hl,hbYX,hKX,hLe2⟩
   case stop =>
    rintro D c pre oX X hD _ hSp ⟨rfl,hjx,hfX,hst⟩ hKD _
    have hLe2:=hLe.more_ (Y:=X) ((SinceO.below hB7).trans_ hst) (Nat.le_refl _) hro (D:=D) (by omega) (by omega) hKD
    have hfoX:FreshO o₀ oX W:=hfo.trans (by omega) hfX
    rw [HZ.out] at hSp
    have hpre:=HN2.out pre hSp
    gi_wp2
    rw [Exit.noGoto_normal]
    exact leaves_farO (B:=W.heap.size) (I:=fun (_:Unit) o X=>Jx (flatC p (cs.take i) ++ pre.map (fun y=>(x,y))) o X) (fun s o X Y row hs hg hr=>hJx _ o X Y row hs hg hr) () oX (fun X h=>hr2 _ _ _ h) (D :: Ds) _ hLe2 hjx (fun W' h=>⟨_,results_none rfl _ _ _,⟨_,rfl⟩,oX,hfoX,.inr ⟨_,hpre,h⟩⟩)
 · obtain rfl:i=cs.length:=by omega
   have hdec:decide ((cs.length:Int)<(cs.length:Int))=false:=by simp
   rw [List.take_of_length_le (Nat.le_refl _)] at hj
   gi_wp2
   rw [Exit.noGoto_normal]
   exact leaves_farO (B:=W.heap.size) (I:=fun (_:Unit) o X=>J (flatC p cs) o X) (fun s o X Y row hs hg hr=>hJ _ o X Y row hs hg hr) () o (fun X h=>hr1 _ _ _ h) Ds _ hLe hj (fun W' h=>⟨_,results_none rfl _ _ _,⟨_,rfl⟩,o,hfo,.inl ⟨_,rfl,h⟩⟩)
end Go.Proofs.YtknkdbincaonbaaGreatDoor

namespace Go.Proofs.YtknkdbincaonbaaGreatDoor
open Go.Shelf
def sortPl_ren:Go.Shelf.Ren:=⟨fun | 6=>247 | 15=>275 | 14=>274 | 28=>304 | 29=>305 | 20=>296 | 21=>297 | 22=>298 | 23=>299 | 24=>300 | 25=>301 | 26=>302 | 27=>303 | 46=>318 | 47=>319 | 48=>320 | 49=>321 | 50=>322 | 57=>329 | n=>n,fun | 22=>209 | 24=>207 | 25=>260 | 3=>3 | 39=>287 | 0=>0 | 53=>320 | 55=>322 | 4=>4 | 46=>314 | 45=>313 | 50=>245 | 5=>5 | 9=>9 | 66=>329 | 70=>333 | 76=>336 | 77=>337 | n=>n,fun | n=>n⟩
theorem sortPl:Go.Proofs.SlLaysF0.n6 Tryz.prog sortPl_ren:={
 mixed:=by kernel_rfl
 f6:=⟨Tryz.f247.name,by decide,Tryz.func247.trans (congrArg some (by kernel_rfl))⟩
 f14:=⟨Tryz.f274.name,by decide,Tryz.func274.trans (congrArg some (by kernel_rfl))⟩
 f15:=Tryz.func275.trans (congrArg some (by kernel_rfl))
 f20:=⟨Tryz.f296.name,by decide,Tryz.func296.trans (congrArg some (by kernel_rfl))⟩
 f21:=⟨Tryz.f297.name,by decide,Tryz.func297.trans (congrArg some (by kernel_rfl))⟩
 f22:=⟨Tryz.f298.name,by decide,Tryz.func298.trans (congrArg some (by kernel_rfl))⟩
 f23:=⟨Tryz.f299.name,by decide,Tryz.func299.trans (congrArg some (by kernel_rfl))⟩
 f24:=⟨Tryz.f300.name,by decide,Tryz.func300.trans (congrArg some (by kernel_rfl))⟩
 f25:=⟨Tryz.f301.name,by decide,Tryz.func301.trans (congrArg some (by kernel_rfl))⟩
 f26:=⟨Tryz.f302.name,by decide,Tryz.func302.trans (congrArg some (by kernel_rfl))⟩
 f27:=⟨Tryz.f303.name,by decide,Tryz.func303.trans (congrArg some (by kernel_rfl))⟩
 f28:=Tryz.func304.trans (congrArg some (by kernel_rfl))
 f29:=Tryz.func305.trans (congrArg some (by kernel_rfl))
 f46:=⟨Tryz.f318.name,by decide,Tryz.func318.trans (congrArg some (by kernel_rfl))⟩
 f47:=Tryz.func319.trans (congrArg some (by kernel_rfl))
 f48:=Tryz.func320.trans (congrArg some (by kernel_rfl))
 f49:=⟨Tryz.f321.name,by decide,Tryz.func321.trans (congrArg some (by kernel_rfl))⟩
 f50:=⟨Tryz.f322.name,by decide,Tryz.func322.trans (congrArg some (by kernel_rfl))⟩
 f57:=⟨Tryz.f329.name,by decide,Tryz.func329.trans (congrArg some (by kernel_rfl))⟩
 t0:=Tryz.underlying0
 a0:=Tryz.isAgg0
 z0:=Tryz.sizeOf0
 v0:=Tryz.zeroValue0
 t3:=Tryz.underlying3
 a3:=Tryz.isAgg3
 z3:=Tryz.sizeOf3
 v3:=Tryz.zeroValue3
 t4:=Tryz.underlying4
 a4:=Tryz.isAgg4
 z4:=Tryz.sizeOf4
 v4:=Tryz.zeroValue4
 t5:=Tryz.underlying5
 a5:=Tryz.isAgg5
 z5:=Tryz.sizeOf5
 v5:=Tryz.zeroValue5
 t9:=Tryz.underlying9
 a9:=Tryz.isAgg9
 z9:=Tryz.sizeOf9
 v9:=Tryz.zeroValue9
 t22:=Tryz.underlying209
 a22:=Tryz.isAgg209
 z22:=Tryz.sizeOf209
 v22:=Tryz.zeroValue209
 t25:=Tryz.underlying260
 a25:=Tryz.isAgg260
 z25:=Tryz.sizeOf260
 v25:=Tryz.zeroValue260
 t39:=Tryz.underlying287
 a39:=Tryz.isAgg287
 z39:=Tryz.sizeOf287
 v39:=Tryz.zeroValue287
 t45:=Tryz.underlying313
 a45:=Tryz.isAgg313
 z45:=Tryz.sizeOf313
 v45:=Tryz.zeroValue313
 t46:=Tryz.underlying314
 a46:=Tryz.isAgg314
 z46:=Tryz.sizeOf314
 v46:=Tryz.zeroValue314
 t50:=Tryz.underlying245
 a50:=Tryz.isAgg245
 z50:=Tryz.sizeOf245
 v50:=Tryz.zeroValue245
 t53:=Tryz.underlying320
 a53:=Tryz.isAgg320
 z53:=Tryz.sizeOf320
 v53:=Tryz.zeroValue320
 t55:=Tryz.underlying322
 a55:=Tryz.isAgg322
 z55:=Tryz.sizeOf322
 v55:=Tryz.zeroValue322
 t66:=Tryz.underlying329
 a66:=Tryz.isAgg329
 z66:=Tryz.sizeOf329
 v66:=Tryz.zeroValue329
 t70:=Tryz.underlying333
 a70:=Tryz.isAgg333
 z70:=Tryz.sizeOf333
 v70:=Tryz.zeroValue333
 t76:=Tryz.underlying336
 a76:=Tryz.isAgg336
 z76:=Tryz.sizeOf336
 v76:=Tryz.zeroValue336
 t77:=Tryz.underlying337
 a77:=Tryz.isAgg337
 z77:=Tryz.sizeOf337
 v77:=Tryz.zeroValue337 }
end Go.Proofs.YtknkdbincaonbaaGreatDoor

namespace Go.Proofs.YtknkdbincaonbaaGreatDoor
open Go.RowKit Go.Shelf

def cmpF (x y:Int×Int):Int:=if aheadB x y then -1 else if aheadB y x then 1 else 0
theorem ltOf_cmpF (x y:Int×Int):ltOf cmpF x y=aheadB x y:=by
 unfold ltOf cmpF
 cases h:aheadB x y <;> simp
 cases h2:aheadB y x <;> simp
theorem swo_cmpF:Go.Sort.SWO (ltOf cmpF) where
 irrefl x:=by rw [ltOf_cmpF];unfold aheadB;simp
 trans x y z h1 h2:=by rw [ltOf_cmpF] at *;unfold aheadB at *;simp at *;omega
 ntrans x y z h1 h2:=by rw [ltOf_cmpF] at *;unfold aheadB at *;simp at *;omega
def encP (x:Int×Int):List Value:=[.int .i64 x.1,.int .i64 x.2]
theorem enter_odd1:∀ args W,(callFunc 248 args).run Tryz.prog W = .ok (.enter 248 args) W:=enters_of Tryz.func248 (by kernel_rfl) rfl
theorem grow_two (W:World) (os:Array Obj) (o o':Obj):((Go.Sort.grow W os).alloc o).alloc o'=Go.Sort.grow W (os ++ #[o] ++ #[o']):=by
 rw [Go.Sort.alloc_eq_grow,Go.Sort.alloc_eq_grow,Go.Sort.grow_grow,Go.Sort.grow_grow,Array.append_assoc]

theorem odd1_any (hb:Nat) (x1 x2 y1 y2:Int) (w:World) (hf:w.cell? ⟨hb,0,none⟩=some (.func (.func 215) #[] #[])) :
 Calls Tryz.prog 248 #[.agg #[.int .i64 x1,.int .i64 x2],.agg #[.int .i64 y1,.int .i64 y2],.pointer (some ⟨hb,0,none⟩)] w fun e w'=>e = .returned (.int .i64 (cmpF (x1,x2) (y1,y2)))∧∃ q os,w'=Go.Sort.grow (w.drewN q) os:=by
 obtain ⟨W0,hW0⟩:∃ W0,(w.alloc (.cells #[.int .i64 x1,.int .i64 x2] 207)).alloc (.cells #[.int .i64 y1,.int .i64 y2] 207)=W0:=⟨_,rfl⟩
 have b0:Blk W0 w.heap.size 207 #[.int .i64 x1,.int .i64 x2]:=by rw [←hW0];exact (Blk.new w _ _).alloc _
 have b1:Blk W0 (w.heap.size+1) 207 #[.int .i64 y1,.int .i64 y2]:=by rw [←hW0];exact Blk.second w _ _ _
 have hB:Below w.heap.size w W0:=by rw [←hW0];exact below_two w _ _
 have HG:Hid (∃ os,W0=Go.Sort.grow w os):=⟨_,by rw [←hW0];exact (by rw [Go.Sort.alloc_eq_grow,Go.Sort.alloc_eq_grow,Go.Sort.grow_grow])⟩
 have c0:=b0.cell 0
 have c1:=b0.cell 1
 have z0:=b1.cell 0
 have z1:=b1.cell 1
 simp only [gz9] at c0 c1 z0 z1
 have hf0:=nextc hf hB
 have hff:=nextc hf hB
 have HC:=Lib.hid (show cmpF (x1,x2) (y1,y2)=cmpF (x1,x2) (y1,y2) from rfl)
 cases h1:aheadB (x1,x2) (y1,y2) with
 | true =>
   have HR:Hid (cmpF (x1,x2) (y1,y2) = -1):=by unfold Hid cmpF;rw [h1];rfl
   have HA:=Lib.hid (fun W=>before_any x1 x2 y1 y2 W)
   rw [h1] at HA
   go_enter Tryz.func248,Tryz.ntmps248
   go_wp2_with fail
   clear hW0
   go_wp2_with (go_at_call 215;refine (HA.out _).mono ?_;rintro e w1 ⟨rfl,hw1⟩)
   go_ret
   obtain ⟨os,hos⟩:=HG.out
   exact ⟨by rw [HR.out];rfl,0,_,by rw [hos];exact grow_two _ _ _ _⟩
 | false =>
   have HA:=Lib.hid (fun W=>before_any x1 x2 y1 y2 W)
   rw [h1] at HA
   cases h2:aheadB (y1,y2) (x1,x2) with
   | true =>
     have HR:Hid (cmpF (x1,x2) (y1,y2)=1):=by unfold Hid cmpF;rw [h1,h2];rfl
     have HA2:=Lib.hid (fun W=>before_any y1 y2 x1 x2 W)
     rw [h2] at HA2
     go_enter Tryz.func248,Tryz.ntmps248
     go_wp2_with fail
     clear hW0
     refine (HA.out _).mono ?_
     rintro e w1 ⟨rfl,hw1⟩
     have hB1:Below W0.heap.size W0 w1:=by rw [hw1];exact below_two _ _ _
     have HW1:=Lib.hid hw1
     clear hw1
     replace c0:=nextc c0 hB1
     replace c1:=nextc c1 hB1
     replace z0:=nextc z0 hB1
     replace z1:=nextc z1 hB1
     replace hf0:=nextc hf0 hB1
     go_wp2_with (go_at_call 215;refine (HA2.out _).mono ?_;rintro e w2 ⟨rfl,hw2⟩)
     go_ret
     obtain ⟨os,hos⟩:=HG.out
     have hw1:=HW1.out
     rw [hos,grow_two] at hw1
     exact ⟨by rw [HR.out];rfl,0,_,by rw [hw1];exact grow_two _ _ _ _⟩
   | false =>
     have HR:Hid (cmpF (x1,x2) (y1,y2)=0):=by unfold Hid cmpF;rw [h1,h2];rfl
     have HA2:=Lib.hid (fun W=>before_any y1 y2 x1 x2 W)
     rw [h2] at HA2
     go_enter Tryz.func248,Tryz.ntmps248
     go_wp2_with fail
     clear hW0
     refine (HA.out _).mono ?_
     rintro e w1 ⟨rfl,hw1⟩
     have hB1:Below W0.heap.size W0 w1:=by rw [hw1];exact below_two _ _ _
     have HW1:=Lib.hid hw1
     clear hw1
     replace c0:=nextc c0 hB1
     replace c1:=nextc c1 hB1
     replace z0:=nextc z0 hB1
     replace z1:=nextc z1 hB1
     replace hf0:=nextc hf0 hB1
     go_wp2_with (go_at_call 215;refine (HA2.out _).mono ?_;rintro e w2 ⟨rfl,hw2⟩)
     go_ret
     obtain ⟨os,hos⟩:=HG.out
     have hw1:=HW1.out
     rw [hos,grow_two] at hw1
     exact ⟨by rw [HR.out];rfl,0,_,by rw [hw1];exact grow_two _ _ _ _⟩

def OwnP (w:World) (base:Nat) (v:Value) (l:List (Int×Int)):Prop:=w.ownsRow base 207 2 v l.length (codeCells l)
theorem ownP_nil (w:World) (base:Nat):OwnP w base (.slice none 0 0) []:=World.ownsRow_nil w base _ 2
theorem codeCells_enc (l:List (Int×Int)):Go.Sort.flatK encP 2 l.toArray=(codeCells l).toArray:=by
 apply Array.ext
 · rw [Go.Sort.size_flatK,List.size_toArray,List.size_toArray,codeCells_len];omega
 · intro t h1 h2
   rw [Go.Sort.size_flatK,List.size_toArray] at h1
   have h3:=Go.Sort.get_flatK encP 2 l.toArray t (by rw [List.size_toArray];exact h1)
   rw [getElem!_pos _ t (by rw [Go.Sort.size_flatK,List.size_toArray];exact h1)] at h3
   rw [h3]
   obtain ⟨e1,e2⟩:=codeCells_at l (t / 2) (by omega)
   have hl:t / 2<l.length:=by omega
   rw [show (l.toArray)[t / 2]! = l[t / 2] by rw [getElem!_pos _ _ (by rw [List.size_toArray];exact hl)];rfl]
   rw [List.getElem_toArray]
   rcases Nat.mod_two_eq_zero_or_one t with h | h
   · rw [h]
     rw [List.getElem?_eq_getElem (by rw [codeCells_len];omega)] at e1
     injection e1 with e1
     rw [show (codeCells l)[t]=(codeCells l)[2 * (t / 2)]'(by rw [codeCells_len];omega) by congr 1;omega,e1];rfl
   · rw [h]
     rw [List.getElem?_eq_getElem (by rw [codeCells_len];omega)] at e2
     injection e2 with e2
     rw [show (codeCells l)[t]=(codeCells l)[2 * (t / 2)+1]'(by rw [codeCells_len];omega) by congr 1;omega,e2];rfl

theorem sortWorld_heap (W:World) (g n:Nat) (d:Array (Int×Int)) (os:Array Obj) (b:Nat) (hb:b≠g) (hlt:b<W.heap.size):(Go.Proofs.sortWorldK encP 2 W g 0 n d os).heap[b]?=W.heap[b]?:=by
 unfold Go.Proofs.sortWorldK
 rw [Go.Sort.heap_grow_old _ _ (by rw [Go.Sort.size_putRowK];exact hlt)]
 unfold Go.Sort.putRowK Go.Sort.putRow Go.Sort.mapBlock Go.Sort.ahead
 simp [Array.getElem?_modify,hb.symm]
theorem sortWorld_grown (W:World) (g n:Nat) (d:Array (Int×Int)) (os:Array Obj):W.grownBy (Go.Proofs.sortWorldK encP 2 W g 0 n d os) (some g) :=
 ⟨rfl,rfl,rfl,by unfold Go.Proofs.sortWorldK;rw [Go.Sort.size_grow,Go.Sort.size_putRowK];exact Nat.le_add_right _ _,fun k hk hne=>sortWorld_heap W g n d os k (fun e=>hne (by rw [e])) hk⟩
end Go.Proofs.YtknkdbincaonbaaGreatDoor

namespace Go.Proofs.YtknkdbincaonbaaGreatDoor
open Go.RowKit Go.Shelf

theorem sort_any (W:World) (hb base:Nat) (v:Value) (l:List (Int×Int)) (hne:l≠[]) (hlen:l.length≤1000) (hown:OwnP W base v l) (hf:W.cell? ⟨hb,0,none⟩=some (.func (.func 215) #[] #[])) (hdiff:some hb≠v.ownBlock) :
 Calls Tryz.prog 247 #[v,.func (.func 248) #[] #[.pointer (some ⟨hb,0,none⟩)]] W fun e w'=>e = .returned (.tuple #[]) ∧
  ∃ (s:List (Int×Int)) (g cap:Nat),v = .slice (some ⟨g,0,none⟩) l.length cap∧l.length≤cap∧base≤g∧g<W.heap.size∧g≠hb∧s.Perm l∧s.Pairwise (fun a b=>aheadB b a=false) ∧
   (∀ (j:Nat) (hj:j<s.length),w'.cell? ⟨g,2 * j,none⟩=some (.int .i64 (s[j]).1)∧w'.cell? ⟨g,2 * j+1,none⟩=some (.int .i64 (s[j]).2))∧W.grownBy w' (some g):=by
 have how:=hown
 obtain ⟨hl,(⟨rfl,h0⟩ | ⟨g,cap,cur,rfl,hbg,hg,hnc,hcm,hcs,htk⟩)⟩:=hown
 · exact absurd (List.eq_nil_of_length_eq_zero h0) hne
 have hgb:g≠hb:=fun e=>hdiff (by rw [e];rfl)
 have hblk:g<W.heap.size:=(Array.getElem?_eq_some_iff.1 hg).1
 have hbl:hb<W.heap.size:=cell_lt hf
 have hH:Go.Sort.HoldsK encP 2 W g 0 l.toArray:=by
  intro j hj
  rw [Go.Sort.size_flatK,List.size_toArray] at hj
  rw [Nat.zero_add]
  have hc:=World.ownsRow.cellAt how j hj
  rw [List.getElem?_eq_getElem (by rw [codeCells_len];omega)] at hc
  refine ⟨?_,World.ownsRow.frozenAt how j⟩
  rw [hc,codeCells_enc,getElem!_pos _ _ (by rw [List.size_toArray,codeCells_len];omega)]
  rfl
 have hcmp:CmpLays Tryz.prog 248 #[.pointer (some ⟨hb,0,none⟩)] encP 2 cmpF g 0 l.toArray.size W:=fun m os dk hs x y =>
  odd1_any hb x.1 x.2 y.1 y.2 _ ((World.cell?_of_block (sortWorld_heap W g m dk os hb (fun e=>hgb e.symm) hbl)).trans hf)
 have hcon:=AnyQ.slices_SortFunc sortPl 2 Tryz.isAgg207 Tryz.sizeOf207 encP (fun _=>rfl) (fun x v hv=>by simp [encP] at hv;rcases hv with rfl | rfl <;> rfl) cmpF swo_cmpF 248 #[.pointer (some ⟨hb,0,none⟩)] g 0 cap l.toArray W enter_odd1 hcmp hH hblk (by rw [List.size_toArray];omega)
 change Calls Tryz.prog 247 _ _ _ at hcon
 rw [List.size_toArray] at hcon
 refine hcon.mono ?_
 rintro e w' ⟨rfl,d',n,os,⟨hp1,_,hp2⟩,hs,rfl⟩
 have hp3:d'.toList.length=l.length:=by rw [Array.length_toList];exact hp1
 have hsw:SWK encP 2 W g 0 d' (sortWorldK encP 2 W g 0 n d' os):=⟨n,os,rfl⟩
 have hh:=hsw.holds hblk hH (by rw [List.size_toArray,←Array.length_toList];exact hp3)
 refine ⟨rfl,d'.toList,g,cap,rfl,hnc,hbg,hblk,hgb,?_,?_,?_,sortWorld_grown _ _ _ _ _⟩
 · have e1:(d'.extract 0 l.length)=d':=by rw [←hp3,Array.length_toList];exact Array.extract_size
   have e2:(l.toArray.extract 0 l.length)=l.toArray:=by have:=Array.extract_size (xs:=l.toArray);rwa [List.size_toArray] at this
   rw [e1,e2] at hp2
   simpa using hp2
 · rw [List.pairwise_iff_getElem]
   intro i j hi hj hij
   have:=hs i j (Nat.zero_le _) hij (by rw [←hp3];exact hj)
   rw [ltOf_cmpF] at this
   rw [getElem!_pos _ _ (by simpa using hj),getElem!_pos _ _ (by simpa using hi)] at this
   simpa using this
 · intro j hj
   have h1:=(hh.cell (i:=j) (c:=0) (by simpa using hj) (by omega)).1
   have h2:=(hh.cell (i:=j) (c:=1) (by simpa using hj) (by omega)).1
   rw [getElem!_pos d' j (by simpa using hj)] at h1 h2
   rw [show 0+j * 2+0=2 * j by omega] at h1
   rw [show 0+j * 2+1=2 * j+1 by omega] at h2
   exact ⟨h1.trans (by simp [encP]),h2.trans (by simp [encP])⟩
end Go.Proofs.YtknkdbincaonbaaGreatDoor
