/- -/
import Derived.Maps.OwnIn
import Derived.Test.YtcchjofjpflbhaaGreatDoorPAG2
set_option linter.unusedVariables false
set_option linter.unusedSimpArgs false
set_option maxRecDepth 100000
set_option maxHeartbeats 4000000
namespace Go.Proofs.YtcchjofjpflbhaaGreatDoor.E
open Go.RowKit Go.Shelf Go.Proofs.YtcchjofjpflbhaaGreatDoor.C

def WalkO (lo:Nat) (p:Int) (zs:List Int) (v:Value) (w:World):Prop :=
 ∃ gf lb,v = .func (.func gf) #[] lb∧(∀ args W,(callFunc gf args).run Tryz.prog W = .ok (.enter gf args) W) ∧
  ∀ n,1≤n→SeqO Fence.wide n Tryz.prog gf lb (fun x:Int=>#[.int .i64 x]) (fun x _=>0≤x∧x<p) (Keep lo (w.heap.size - lo)) (fun ys=>ys=zs) (fun pre=>pre <+: zs) zs.length w
theorem WalkO.less {lo lo':Nat} {p:Int} {zs:List Int} {v:Value} {w:World} (h:WalkO lo p zs v w) (hl:lo'≤lo) (hw:lo≤w.heap.size):WalkO lo' p zs v w:=by
 obtain ⟨gf,lb,e,eg,hg⟩:=h
 exact ⟨gf,lb,e,eg,fun n hn l J Jx W o₀ hW ho₀ hJ hJx hr1 hr2 hY h0=>hg n hn l J Jx W o₀ hW ho₀ hJ hJx hr1 hr2 (fun pre x o W1 hj hok hl' hs=>(hY pre x o W1 hj hok hl' hs).mono fun _ _ ⟨o',hf,hS,h⟩=>⟨o',hf,hS,h.imp (fun ⟨h1,h2,h3⟩=>⟨h1,h2,h3.less hl (by omega)⟩) id⟩) h0⟩
theorem walk_ofO (p a s:Int) (hf:Fine p [a]) (w:World) (h1:-9223372036854775808≤s) (h2:s≤9223372036854775807) :
 Calls Tryz.prog 152 #[.agg #[.int .i64 p,.int .i64 a],.int .i64 s] w fun e w'=>∃ v,e = .returned v∧WalkO w.heap.size p (walkN p a s) v w'∧Below w.heap.size w w':=by
 obtain ⟨hp,a0,a1⟩:=fine_one.1 hf
 have hb:=prm_bounds hp
 rw [walkN_yes hf]
 obtain ⟨P,rfl⟩:∃ P:Nat,p=(P:Int):=⟨p.toNat,by omega⟩
 refine (walk_any P (by omega) (by omega) a s w h1 h2).mono ?_
 rintro e w' ⟨g,h,rfl,bg,bh,hh,hB⟩
 refine ⟨_,rfl,⟨_,_,rfl,enter_walk1,?_⟩,hB⟩
 intro n hn l J Jx W o₀ hW ho₀ hJ hJx hr1 hr2 hY h0
 have hlt:=bh.lt
 have hsz:=hB.size
 refine walk1_inO n hn l g h w.heap.size (w'.heap.size - w.heap.size) P (by omega) (by omega) a (s % P) a0 (by omega) (Int.emod_nonneg _ (by omega)) (Int.emod_lt_of_pos _ (by omega)) hh (by omega) W (Nat.le_trans (by omega) hW.size) J Jx o₀ ho₀ hJ ?_ (bg.below hW bg.lt) (bh.below hW bh.lt) h0
 intro pre x o W1 hj hx hl hs
 exact hY pre x o W1 hj hx (by rw [Int.toNat_natCast,walkL_len];exact hl) hs

theorem modWalk_anyO (p a s:Int) (hf:Fine p [a]) (w:World) (hL:Laid w) (h1:-9223372036854775808≤s) (h2:s≤9223372036854775807) :
 Calls Tryz.prog 102 #[.int .i64 p,.int .i64 a,.int .i64 s] w fun e w'=>∃ v,e = .returned v∧WalkO w.heap.size p (walkN p a s) v w'∧Below w.heap.size w w':=by
 have HA:=Lib.hid (ask_one p a w hL)
 have HW:=Lib.hid (fun W=>walk_ofO p a s hf W h1 h2)
 have HF:=Lib.hid hf
 clear hf
 go_enter Tryz.func102,Tryz.ntmps102
 go_wp2_with (first
  | (go_at_call 149;refine HA.out.mono ?_;rintro e w1 ⟨h1,_,hB⟩;obtain rfl:=h1 HF.out)
  | (go_at_call 151;refine (sum_any _ _ _).mono ?_;rintro e w2 ⟨rfl,hB2⟩)
  | (go_at_call 152;refine (HW.out _).mono ?_;rintro e w3 ⟨v,rfl,hO,hB3⟩))
 go_ret
 exact ⟨_,rfl,hO.less (below_in (below_in ((Below.refl _ w).alloc (Nat.le_refl _) _) hB) hB2).size hB3.size,below_in (below_in (below_in ((Below.refl _ w).alloc (Nat.le_refl _) _) hB) hB2) hB3⟩
end Go.Proofs.YtcchjofjpflbhaaGreatDoor.E

namespace Go.Proofs.YtcchjofjpflbhaaGreatDoor.E
open Go.RowKit Go.Shelf Go.Proofs.YtcchjofjpflbhaaGreatDoor.C

def SeqQ {α:Type} (F:Fence) (n:Nat) (P:Program) (gf:Nat) (lb:Array Value) (encs:α→Array Value) (Ok:α→World→Prop) (Kp:World→World→Prop) (S Sp:List α→Prop) (N:Nat) (w:World):Prop :=
 ∀ (l:Nat) (J Jx:List α→Option Nat→World→Prop) (W:World) (o₀:Option Nat),Below w.heap.size w W→(∀ b,o₀=some b→b<W.heap.size)→FarO W.heap.size J→FarO W.heap.size Jx→(∀ s o X,J s o X→RowO o X)→(∀ s o X,Jx s o X→RowO o X) →
  (∀ pre x o W1,J pre o W1→Ok x W1→pre.length<N→W.heap.size≤W1.heap.size→YieldAt F (n - 1) P l (encs x) W1 fun e W'=>∃ o',FreshO o o' W1∧SinceO W.heap.size o W1 W' ∧
   ((e = .returned (.bool true)∧J (pre ++ [x]) o' W'∧Kp W1 W')∨(e = .returned (.bool false)∧Jx (pre ++ [x]) o' W'∧Kp W1 W'))) →
  J [] o₀ W →
  CallsIn F n P gf (#[.func (.yield l) #[] #[]] ++ lb) W fun e W'=>(∃ v,e = .returned v)∧∃ o',FreshO o₀ o' W∧((∃ xs,S xs∧J xs o' W')∨(∃ pre,Sp pre∧Jx pre o' W'))

def postQ {α:Type} (B:Nat) (Kp:World→World→Prop) (I:List α→Option Nat→World→Prop) (Ix:Code→List α→Option Nat→World→Prop) (xs:List α) (o:Option Nat) (W:World):Exit→Act→World→Prop
 | .normal,_,W'=>∃ o',FreshO o o' W∧SinceO B o W W'∧Kp W W'∧I xs o' W'
 | .ret,_,W'=>∃ o',FreshO o o' W∧SinceO B o W W'∧Kp W W'∧Ix .ret xs o' W'
 | .exit id,_,W'=>∃ o',FreshO o o' W∧SinceO B o W W'∧Kp W W'∧Ix (.exit id) xs o' W'
 | .goto t,_,W'=>∃ o',FreshO o o' W∧SinceO B o W W'∧Kp W W'∧Ix (.goto t) xs o' W'
 | .panic _,_,_=>False
 | .outgrown,_,_=>False
theorem wpIn_rangeQ {α:Type} {F:Fence} {n:Nat} {P:Program} {g:Operand} {ps:Array Tmp} {assign body:Code} {Q:Exit→Act→World→Prop} {a:Act} {w:World}
 (hro:F.round=none) (h1:1≤n) {gf:Nat} {lb:Array Value} (hg:a.eval g = .func (.func gf) #[] lb) (hFg:F.fn gf) (eg:∀ args w,(callFunc gf args).run P w = .ok (.enter gf args) w)
 {encs:α→Array Value} {Ok:α→World→Prop} {Kp:World→World→Prop} {S Sp:List α→Prop} {N:Nat} {w0:World} (hseq:SeqQ F (n - 1) P gf lb encs Ok Kp S Sp N w0)
 (hKt:∀ {A B C:World},Kp A B→Kp B C→Kp A C) (hKb:∀ (W:World) (l:Nat) (ob:Obj),w.heap.size≤l→l<W.heap.size→(∃ r,W.heap[l]?=some (.loop r))→Kp W (W.putObj l ob)) (hb0:Below w0.heap.size w0 w) (hps:∀ x,(encs x).size=ps.size)
 (I:List α→Option Nat→World→Prop) (Ix:Code→List α→Option Nat→World→Prop) (hI:FarO w.heap.size I) (hIx:∀ c,FarO w.heap.size (Ix c)) (o₀:Option Nat) (ho₀:∀ b,o₀=some b→b<w.heap.size) (h0:I [] o₀ w)
 (Ax:α→Option Nat→Act→World→Prop) (hAx:∀ (x:α) (o:Option Nat) (a':Act) (W:World) (l:Nat) (ob:Obj) (r:Loop),W.heap[l]?=some (.loop r)→Ax x o a' W→Ax x o a' (W.putObj l ob))
 (hassign:∀ (l:Nat) (pre:List α) (x:α) (o:Option Nat) (W:World) (K:Act→World→Prop),w.heap.size≤W.heap.size→(∀ b,o=some b→b<W.heap.size)→I pre o W→Ok x W→(∀ a' W',SinceO w.heap.size o W W'→Kp W W'→I pre o W'→Ax x o a' W'→K a' W') →
  assign.wpIn (F.inRound l) (n - 1 - 1) P (Exit.then K (fun _ _ _=>False)) { tmps:=(ps.zip (encs x)).foldl (fun t (p,v)=>t.setIfInBounds p v) a.tmps,defers:=[] } W)
 (hrow:∀ pre o W,I pre o W→RowO o W) (hrowx:∀ c pre o W,Ix c pre o W→RowO o W)
 (hbody:∀ (l:Nat) (pre:List α) (x:α) (o:Option Nat) (a':Act) (W:World),w.heap.size≤W.heap.size→I pre o W→Ax x o a' W→pre.length<N →
  body.wpIn (F.inRound l) (n - 1 - 1) P (postQ w.heap.size Kp I Ix (pre ++ [x]) o W) a' W)
 (hdone:∀ (D:Nat) (xs:List α) (o:Option Nat) (W:World),w.heap.size≤D→FreshO o₀ o w→S xs→I xs o W→W.heap[D]?=some (.deferred (some []))→some D≠o→Q .normal { a with defers:={ target:=.collected D,args:=#[] } :: a.defers } W)
 (hstop:∀ (D:Nat) (c:Code) (pre:List α) (o:Option Nat) (W:World),w.heap.size≤D→FreshO o₀ o w→Sp pre→Ix c pre o W→W.heap[D]?=some (.deferred (some []))→some D≠o→c.wpIn F n P Q { a with defers:={ target:=.collected D,args:=#[] } :: a.defers } W) :
 (Code.rangeFunc g ps assign body).wpIn F n P Q a w:=by
 refine wpIn_rangeFunc fun fn hfn=>?_
 rw [hro]
 obtain ⟨rec,hrec⟩:∃ rec:LoopState→Option Code→Loop,rec=fun st pe=>{ state:=st,pending:=pe,fn,tmps:=a.tmps,params:=ps,assign,body,defers:=w.heap.size }:=⟨_,rfl⟩
 obtain ⟨W1,hW1⟩:∃ W1,(w.alloc (.deferred (some []))).alloc (.loop (rec .ready none))=W1:=⟨_,rfl⟩
 have s1:W1.heap.size=w.heap.size+2:=by rw [←hW1];simp
 have n0:some w.heap.size≠o₀:=fun e=>by have:=ho₀ _ e.symm;omega
 have n1:some (w.heap.size+1)≠o₀:=fun e=>by have:=ho₀ _ e.symm;omega
 have H1:HeldO rec w.heap.size .ready none o₀ W1:=by
  rw [←hW1]
  refine ⟨⟨?_,(Below.heap_alloc _ _ _ (by simp)).trans (World.alloc_heap_new w _)⟩,n0,n1⟩
  have:=World.alloc_heap_new (w.alloc (.deferred (some []))) (.loop (rec .ready none))
  rwa [World.size_alloc] at this
 have I1:I [] o₀ W1:=by rw [←hW1];exact hI.lay (hI.lay h0 _) _
 have B1:Below w0.heap.size w0 W1:=by
  rw [←hW1];exact hb0.trans ((((Below.refl _ w).alloc (Nat.le_refl _) _).alloc (by simp) _).mono hb0.size)
 refine ⟨w.heap.size+1,[{ target:=.collected w.heap.size,args:=#[] }],W1,{ target:=.fn (.func gf) lb,args:=#[.func (.yield (w.heap.size+1)) #[] #[]] },W1,gf,
  #[.func (.yield (w.heap.size+1)) #[] #[]] ++ lb,W1,?_,?_,?_,?_,fun _=>h1,?_⟩
 · rw [←hW1,hrec];exact run_enterLoop_outer _ _ _ _ _
 · simp only [resolve,hg]
   simp [go_sem]
 · intro f' hf'
   simp [Target.leads] at hf'
   exact hf'▸hFg
 · simp [invoke,go_sem,eg]
 have hI':FarO W1.heap.size I:=hI.less (by omega)
 have hH:=fun st pe=>(s1▸held_farO rec w.heap.size st pe (β:=List α):FarO W1.heap.size _)
 refine (hseq (w.heap.size+1) (fun pre o W=>I pre o W∧HeldO rec w.heap.size .ready none o W) (fun pre o W=>∃ c,Ix c pre o W∧HeldO rec w.heap.size .done (some c) o W) W1 o₀ B1 (fun b e=>by have:=ho₀ b e;omega) (hI'.and (hH _ _))
  (fun s o X Y row hs hgr hr=>by
   obtain ⟨c,hc,hh⟩:=hs
   exact ⟨c,(hIx c).less (by omega) s o X Y row hc hgr hr,hH _ _ s o X Y row hh hgr hr⟩) (fun s o X h=>hrow _ _ _ h.1) (fun s o X h=>h.elim fun c h=>hrowx _ _ _ _ h.1) ?_ ⟨I1,H1⟩).mono ?_
 · rintro pre x o W ⟨hi,hh⟩ hok hlen hsz
   rw [s1] at hsz
   have hy:=run_yield (P:=P) (args:=encs x) hh.1.1 (by rw [hrec];exact hps x)
   rw [hrec] at hy
   refine ⟨fn,_,assign,body,hy,roundIn_of_wpIn hfn (hassign _ pre x o W _ (by omega) (RowO.lt (hrow _ _ _ hi)) hi hok ?_)⟩
   intro a' Wa hka hpa hia hax
   have ha:=hh.since hka (.inl rfl) (Nat.le_refl _)
   have hb:=ha.turn .busy none
   have hbegin:=run_beginRound (P:=P) ha.1.1 (by rw [hrec])
   have ebusy:({ rec .ready none with state:=.busy }:Loop)=rec .busy none:=by rw [hrec]
   rw [ebusy] at hbegin
   refine ⟨_,hbegin,?_⟩
   have hsa:=hka.1
   have hsb:(Wa.putObj (w.heap.size+1) (.loop (rec .busy none))).heap.size=Wa.heap.size:=by simp [World.putObj]
   refine wpIn_mono (hbody _ pre x o a' _ (by rw [hsb];omega) (hI.put hia (by omega) ha.2.2 _) (hAx _ _ _ _ _ _ _ ha.1.1 hax) hlen) ?_
   have fin:∀ (jump:Option Code) (o':Option Nat) (W3:World),FreshO o o' (Wa.putObj (w.heap.size+1) (.loop (rec .busy none)))→SinceO w.heap.size o (Wa.putObj (w.heap.size+1) (.loop (rec .busy none))) W3 →
    (Instr.endRound (w.heap.size+1) jump).run P W3 = .ok (.bool jump.isNone) (W3.putObj (w.heap.size+1) (.loop (rec (if jump.isNone then .ready else .done) jump))) ∧
    HeldO rec w.heap.size (if jump.isNone then .ready else .done) jump o' (W3.putObj (w.heap.size+1) (.loop (rec (if jump.isNone then .ready else .done) jump)))∧HeldO rec w.heap.size .busy none o' W3:=fun jump o' W3 hf hk3=>by
    have h3:=hb.since hk3 hf (Nat.le_refl _)
    have he:=run_endRound (P:=P) jump h3.1.1
    have e2:({ rec .busy none with state:=if jump.isNone then .ready else .done,pending:=jump }:Loop)=rec (if jump.isNone then .ready else .done) jump:=by rw [hrec]
    rw [e2] at he
    exact ⟨he,h3.turn _ _,h3⟩
   have putFar:∀ (o:Option Nat) (V:World) (ob:Obj),SinceO W1.heap.size o V (V.putObj (w.heap.size+1) ob):=fun o V ob=>⟨by simp [World.putObj],fun b h2 _ _=>World.putObj_heap_other (by omega)⟩
   have keepAll:∀ (ob:Obj) (o':Option Nat) (W3:World),SinceO w.heap.size o (Wa.putObj (w.heap.size+1) (.loop (rec .busy none))) W3→SinceO W1.heap.size o W (W3.putObj (w.heap.size+1) ob):=fun ob o' W3 hk3 =>
    (((hka.less (by omega)).trans_ (putFar o Wa _)).trans_ (hk3.less (by omega))).trans_ (putFar o W3 _)
   intro e a3 W3 hp
   cases e with
   | normal =>
     obtain ⟨o',hf3,hk3,hp3,hi3⟩:=hp
     obtain ⟨he,h4,h5⟩:=fin none o' W3 hf3 hk3
     exact ⟨_,_,he,o',hf3.later (by rw [hsb];exact hsa),keepAll _ o' _ hk3,.inl ⟨rfl,⟨hI.put hi3 (by omega) h5.2.2 _,h4⟩,hKt hpa (hKt (hKb _ _ _ (by omega) ha.1.lt ⟨_,ha.1.1⟩) (hKt hp3 (hKb _ _ _ (by omega) h5.1.lt ⟨_,h5.1.1⟩)))⟩⟩
   | ret =>
     obtain ⟨o',hf3,hk3,hp3,hi3⟩:=hp
     obtain ⟨he,h4,h5⟩:=fin (some .ret) o' W3 hf3 hk3
     exact ⟨_,_,he,o',hf3.later (by rw [hsb];exact hsa),keepAll _ o' _ hk3,.inr ⟨rfl,⟨.ret,(hIx _).put hi3 (by omega) h5.2.2 _,h4⟩,hKt hpa (hKt (hKb _ _ _ (by omega) ha.1.lt ⟨_,ha.1.1⟩) (hKt hp3 (hKb _ _ _ (by omega) h5.1.lt ⟨_,h5.1.1⟩)))⟩⟩
   | exit id =>
     obtain ⟨o',hf3,hk3,hp3,hi3⟩:=hp
     obtain ⟨he,h4,h5⟩:=fin (some (.exit id)) o' W3 hf3 hk3
     exact ⟨_,_,he,o',hf3.later (by rw [hsb];exact hsa),keepAll _ o' _ hk3,.inr ⟨rfl,⟨.exit id,(hIx _).put hi3 (by omega) h5.2.2 _,h4⟩,hKt hpa (hKt (hKb _ _ _ (by omega) ha.1.lt ⟨_,ha.1.1⟩) (hKt hp3 (hKb _ _ _ (by omega) h5.1.lt ⟨_,h5.1.1⟩)))⟩⟩
   | goto t =>
     obtain ⟨o',hf3,hk3,hp3,hi3⟩:=hp
     obtain ⟨he,h4,h5⟩:=fin (some (.goto t)) o' W3 hf3 hk3
     exact ⟨_,_,he,o',hf3.later (by rw [hsb];exact hsa),keepAll _ o' _ hk3,.inr ⟨rfl,⟨.goto t,(hIx _).put hi3 (by omega) h5.2.2 _,h4⟩,hKt hpa (hKt (hKb _ _ _ (by omega) ha.1.lt ⟨_,ha.1.1⟩) (hKt hp3 (hKb _ _ _ (by omega) h5.1.lt ⟨_,h5.1.1⟩)))⟩⟩
   | panic ch=>exact hp.elim
   | outgrown=>exact hp.elim
 · rintro e W2 ⟨⟨v,rfl⟩,o',hfo,(⟨xs,hS,hi,hh⟩ | ⟨pre,hSp,c,hc,hh⟩)⟩
   · have he:=run_endLoop (P:=P) hh.1.1 (by rw [hrec];simp)
     rw [show (rec .ready none).pending=none by rw [hrec]] at he
     exact ⟨none,_,he,hdone _ xs o' _ (Nat.le_refl _) (hfo.later (by omega)) hS (hI.put hi (by omega) hh.2.2 _) ((World.putObj_heap_other (by omega)).trans hh.1.2) hh.2.1⟩
   · have he:=run_endLoop (P:=P) hh.1.1 (by rw [hrec];simp)
     rw [show (rec .done (some c)).pending=some c by rw [hrec]] at he
     exact ⟨some c,_,he,hstop _ c pre o' _ (Nat.le_refl _) (hfo.later (by omega)) hSp ((hIx c).put hc (by omega) hh.2.2 _) ((World.putObj_heap_other (by omega)).trans hh.1.2) hh.2.1⟩

end Go.Proofs.YtcchjofjpflbhaaGreatDoor.E

namespace Go.Proofs.YtcchjofjpflbhaaGreatDoor.E
open Go.RowKit Go.Shelf Go.Proofs.YtcchjofjpflbhaaGreatDoor.C
attribute [local go_sem] Oper.semAt_some

theorem farO_blkV {B g:Nat} {t:TypeId} {cs:Array Value} (hg:g<B) {o:Option Nat} {X Y:World} {row:Option Nat} (h:Blk X g t cs) (hgr:X.grownBy Y row) (hr:∀ r,row=some r→B≤r∧some r≠o):Blk Y g t cs:=h.grown hgr fun e=>by have:=(hr g e.symm).1;omega
theorem keep_grown {N B:Nat} {V X Y:World} {o:Option Nat} {row:Option Nat} (h:Keep 0 N V X) (hN:N≤V.heap.size) (hNB:N≤B) (hgr:X.grownBy Y row) (hr:∀ r,row=some r→B≤r∧some r≠o):Keep 0 N V Y :=
 ⟨Nat.le_trans h.1 hgr.size,fun b h1 h2=>(hgr.block b (by have:=h.1;omega) (fun e=>by have:=(hr b e.symm).1;omega)).trans (h.2 b h1 h2)⟩
section
variable {F:Fence} {n:Nat} {P:Program} {md:Region.Mode} {ops:Array Oper} {Q:Exit→Act→World→Prop} {S:World→Prop}
theorem anyHF_skip {i:Nat} {o:Oper} {d:Tmp} {k:Nat} {listed:Array Bool} {a:Act} {w:World} (hr:Region.ready md ops listed = [i]) (ho:ops[i]?=some o) (hw:Region.wanted o (yielded ops a.tmps)=false) (hd:o.dst=some d) (hF:∀ f,F.fn f) (hS:S w)
 (h:anyHF F n P md ops Q S k (listed.setIfInBounds i true) { tmps:=a.tmps.setIfInBounds d undef,defers:=a.defers } w):anyHF F n P md ops Q S (k+1) listed a w :=
 ⟨fun h0=>(by rw [hr] at h0;cases h0),fun j hj=>by
  rw [hr] at hj
  obtain rfl:=List.mem_singleton.1 hj
  unfold wpOpIn
  rw [ho]
  simp only [hw,Bool.false_eq_true,if_false]
  refine ⟨fun f _=>hF f,hS,?_⟩
  unfold Act.put
  rw [hd]
  exact h⟩
end
theorem wide_fn:∀ f,Fence.wide.fn f:=fun _=>trivial
theorem diagW_len (p:Int) (f:Nat→Nat→Value):∀ (k:Nat) (xs:List Int),(diagW p f k xs).length≤xs.length
 | _,[]=>Nat.le_refl _
 | k,x :: xs=>by
   have h:=diagW_len p f (k+1) xs
   rw [diagW,List.length_append,List.length_cons]
   split <;> simp <;> omega
theorem diagonal1_in (n:Nat) (hn:4≤n) (l g h B N:Nat) (p a:Int) (v:Value) (f:Nat→Nat→Value) (hR:RightC 1 p) (a0:0≤a) (a1:a<p) (W:World) (hBN:B≤N) (hg:g<N) (hh:h<N) (hN:N≤W.heap.size) (hL:Laid W) (J Jx:List Value→Option Nat→World→Prop) (o₀:Option Nat) (ho₀:∀ b,o₀=some b→b<W.heap.size)
 (hJ:FarO W.heap.size J) (hJx:FarO W.heap.size Jx) (hr1:∀ s o X,J s o X→RowO o X) (hr2:∀ s o X,Jx s o X→RowO o X)
 (hY:∀ pre (c r:Nat) o W1,J pre o W1→(c:Int)<p∧(r:Int)<p - 1→pre.length<p.toNat→W.heap.size≤W1.heap.size→YieldAt Fence.wide (n - 1) Tryz.prog l #[f c r] W1 fun e W'=>∃ o',FreshO o o' W1∧SinceO W.heap.size o W1 W'∧((e = .returned (.bool true)∧J (pre ++ [f c r]) o' W'∧Keep 0 N W1 W')∨(e = .returned (.bool false)∧Jx (pre ++ [f c r]) o' W'∧Keep 0 N W1 W')))
 (hG:GridV B W v p.toNat (p - 1).toNat f) (bg:Blk W g 208 #[.int .i64 p,v]) (bh:Blk W h 3 #[.int .i64 a]) (h0:J [] o₀ W) :
 CallsIn Fence.wide n Tryz.prog 268 #[.func (.yield l) #[] #[],.pointer (some ⟨g,0,none⟩),.pointer (some ⟨h,0,none⟩)] W fun e W'=>(∃ v,e = .returned v)∧∃ o',FreshO o₀ o' W∧((∃ ys,ys=diagW p f 0 (walkN p a (-1))∧J ys o' W')∨(∃ pre,pre <+: diagW p f 0 (walkN p a (-1))∧Jx pre o' W')):=by
 have hp:=hR.2
 have HWk:=Lib.hid (fun V hV=>modWalk_anyO p a (-1) (fine_one.2 ⟨hp,a0,a1⟩) V hV (by omega) (by omega))
 have HRw:=Lib.hid (fun V hV=>rows_any p hR V hV)
 refine callsIn_of_wp_marks Tryz.func268 rfl trivial ?_ rfl
 simp only [Tryz.ntmps268,List.size_toArray,List.length_cons,List.length_nil,Nat.reduceAdd,Nat.reduceSub,Array.replicate_succ,Array.replicate_zero,List.push_toArray,List.append_toArray,List.nil_append,List.cons_append]
 obtain ⟨W0,hW0⟩:∃ W0,W.alloc (.cells #[.func (.yield l) #[] #[]] 112)=W0:=⟨_,rfl⟩
 have hB0:Below W.heap.size W W0:=by rw [←hW0];exact below_one W _
 have bY:Blk W0 W.heap.size 112 #[.func (.yield l) #[] #[]]:=by rw [←hW0];exact Blk.new W _ _
 have bg0:=bg.below hB0 bg.lt
 have bh0:=bh.below hB0 bh.lt
 have hL0:=hL.next hB0
 have d0:W0.cell? ⟨g,0,none⟩=some (.int .i64 p):=bg0.cell 0
 gi_wp2_with fail
 refine wpIn_scope_wide ?_
 gi_wp2_with fail
 refine ⟨trivial,fun _=>by omega,(callsIn_wide.2 (HRw.out _ hL0)).mono ?_⟩
 rintro e v1 ⟨rfl,hX⟩
 gi_wp2_with fail
 refine wpIn_label ?_
 obtain ⟨v2,hv2⟩:∃ v2,((v1.alloc (Obj.cells #[.int .i64 (p - 1)] 3)).alloc (.cells #[.int .i64 0] 3))=v2:=⟨_,rfl⟩
 rw [hv2]
 have hB2:Below v1.heap.size v1 v2:=by rw [←hv2];exact below_two v1 _ _
 have bR:Blk v2 v1.heap.size 3 #[.int .i64 (p - 1)]:=by rw [←hv2];exact (Blk.new v1 _ _).alloc _
 have bC:Blk v2 (v1.heap.size+1) 3 #[.int .i64 0]:=by rw [←hv2];exact Blk.second v1 _ _ _
 have hB02:Below W0.heap.size W0 v2:=below_in hX hB2
 have hBW2:Below W.heap.size W v2:=below_in hB0 hB02
 have bY2:=bY.below hB02 bY.lt
 have hL2:=hL.next hBW2
 have bg2:=bg.below hBW2 bg.lt
 have bh2:=bh.below hBW2 bh.lt
 have i0:v2.cell? ⟨g,0,none⟩=some (.int .i64 p):=bg2.cell 0
 have i1:v2.cell? ⟨h,0,none⟩=some (.int .i64 a):=bh2.one
 have hs1:=hX.size
 have hs0:=bY.lt
 clear hW0 hv2
 gi_wp2_with fail
 refine ⟨trivial,fun _=>by omega,(callsIn_wide.2 (HWk.out _ hL2)).mono ?_⟩
 rintro e w7 ⟨v',rfl,⟨gf,lb,rfl,eg,hgo⟩,hX3⟩
 have hB7:Below W.heap.size W w7:=below_in hBW2 hX3
 have bY7:=bY2.below hX3 bY2.lt
 have bR7:=bR.below hX3 bR.lt
 have bC7:=bC.below hX3 bC.lt
 have hJ7:=hJ.below h0 hB7
 have hlR:=bR.lt
 have hlC:=bC.lt
 have hl7:=hX3.size
 clear i0 i1 bg2 bh2 hL2 hL0 bg0 bh0 d0 HRw HWk bY2 bR bC
 gi_wp2_with fail
 have hlen:(walkN p a (-1)).length=p.toNat:=by rw [walkN_yes (fine_one.2 ⟨hp,a0,a1⟩),walkL_len]
 refine wpIn_rangeO rfl (by omega) (gf:=gf) (lb:=lb) rfl trivial eg (hgo _ (by omega)) (fun h h'=>h.trans h') (fun X l' ob hl' hlX _=>Keep.putFar X (by omega) ob) (Below.refl _ _) (fun _=>rfl)
  (fun pre o X=>J (diagW p f 0 pre) o X∧FreshO o₀ o w7∧Blk X W.heap.size 112 #[.func (.yield l) #[] #[]]∧Blk X v1.heap.size 3 #[.int .i64 (p - 1)]∧Blk X (v1.heap.size+1) 3 #[.int .i64 (pre.length:Int)]∧Keep 0 N W X)
  (fun c pre o X=>c = .exit 0∧FreshO o₀ o w7∧∃ q x,pre=q ++ [x]∧x<p - 1∧Jx (diagW p f 0 pre) o X)
  ?hI ?hIx o₀ (fun b e=>by have:=ho₀ b e;omega) ⟨hJ7,.inl rfl,bY7,bR7,bC7,Keep.below hB7 (by omega)⟩ (fun x o a' X=>a' = { tmps:=#[.func (.yield l) #[] #[],.pointer (some ⟨g,0,none⟩),.pointer (some ⟨h,0,none⟩),.pointer (some ⟨W.heap.size,0,none⟩),.pointer (some ⟨v1.heap.size,0,none⟩),.pointer (some ⟨v1.heap.size+1,0,none⟩),.int .i64 x,.pointer (some ⟨g,0,none⟩),.int .i64 p,.int .i64 (p - 1),.pointer (some ⟨g,0,none⟩),.int .i64 p,.int .i64 a,.func (.func gf) #[] lb,.int .i64 x,undef,undef,undef,undef,undef,undef,undef,undef,undef,undef,undef,undef,undef,undef,undef,undef,undef,undef],defers:=[] }∧0≤x∧x<p) ?hAx ?assign ?row1 ?row2 ?body ?done ?stop
 case hI =>
  rintro s o X Y row ⟨h1,h2,h3,h4,h5,h6⟩ hgr hr
  exact ⟨hJ _ o X Y row h1 hgr (fun r e=>⟨by have:=(hr r e).1;omega,(hr r e).2⟩),h2,farO_blkV (by omega) h3 hgr hr,farO_blkV (by omega) h4 hgr hr,farO_blkV (by omega) h5 hgr hr,keep_grown h6 hN (by omega) hgr hr⟩
 case hIx =>
  rintro c s o X Y row ⟨h1,h2,q,x,h3,h4,h5⟩ hgr hr
  exact ⟨h1,h2,q,x,h3,h4,hJx _ o X Y row h5 hgr (fun r e=>⟨by have:=(hr r e).1;omega,(hr r e).2⟩)⟩
 case hAx=>exact fun _ _ _ _ _ _ _ _ h=>h
 case assign =>
  intro l' pre x o X K hsz ho hI hok hK
  gi_wp2
  exact hK _ _ (SinceO.refl _ _ _) (Keep.refl _ _ _) hI ⟨rfl,hok⟩
 case row1=>exact fun _ _ _ h=>hr1 _ _ _ h.1
 case row2=>exact fun _ _ _ _ h=>by obtain ⟨_,_,_,_,_,_,h⟩:=h;exact hr2 _ _ _ h
 case body =>
  rintro l' pre x o a' X hsz ⟨hj,hfo,bY,bR,bC,hk⟩ ⟨rfl,x0,x1⟩ hln
  obtain ⟨r,rfl⟩:∃ r:Nat,x=(r:Int):=⟨x.toNat,by omega⟩
  obtain ⟨gb,go,gc,rfl,hgb,hgc,hcol⟩:=hG
  have hcl:pre.length<p.toNat:=by omega
  have hpn:pre.length<100:=by have:=prm_bounds hp;omega
  obtain ⟨b2,off2,cap2,k1,k2,k3,k4⟩:=hcol pre.length hcl
  have kx:∀ q:Addr,q.block<N→X.cell? q=W.cell? q:=fun q hq=>World.cell?_of_block (hk.2 q.block (Nat.zero_le _) (by omega))
  have cY:=bY.one
  have cR:=bR.one
  have cC:=bC.one
  have cv:X.cell? ⟨g,1,none⟩=some (.slice (some ⟨gb,go,none⟩) p.toNat gc):=(kx _ hg).trans (bg.cell 1)
  have ccol:X.cell? ⟨gb,go+pre.length,none⟩=some (.slice (some ⟨b2,off2,none⟩) (p - 1).toNat cap2):=(kx _ (Nat.lt_of_lt_of_le hgb hBN)).trans k1
  have i1:(0:Int)≤(pre.length:Int):=by omega
  have i2:(pre.length:Int)<(p.toNat:Int):=by omega
  have j1:(0:Int)≤(r:Int):=by omega
  have hw:IntKind.i64.wrap ((pre.length:Int)+1)=(pre.length:Int)+1:=IntWalk.i64_in _ (by have:=prm_bounds hp;omega)
  have hdl:=diagW_len p f 0 pre
  have hYn:some W.heap.size≠o:=hfo.ne (by have:=bY7.lt;omega) (fun e=>by have:=ho₀ _ e.symm;omega)
  have hRn:some v1.heap.size≠o:=hfo.ne (by omega) (fun e=>by have:=ho₀ _ e.symm;omega)
  have hCn:some (v1.heap.size+1)≠o:=hfo.ne (by omega) (fun e=>by have:=ho₀ _ e.symm;omega)
  by_cases hx:(r:Int)<p - 1
  · have hd:decide ((r:Int)<p - 1)=true:=decide_eq_true hx
    have ccell:X.cell? ⟨b2,off2+r,none⟩=some (f pre.length r):=(kx _ (Nat.lt_of_lt_of_le k3 hBN)).trans (k4 r (by omega))
    have j2:(r:Int)<((p - 1).toNat:Int):=by omega
    have hone:diagW p f 0 (pre ++ [(r:Int)])=diagW p f 0 pre ++ [f pre.length r]:=by rw [diagW_one,if_pos hx,Int.toNat_natCast]
    have hj0:=hJ.below hj (Below.refl _ _).drew
    obtain ⟨fn,tmps,asg,bdy,hy,hRr⟩:=YieldAt.deep (m:=n - 1 - 1 - 1) (hY (diagW p f 0 pre) pre.length r o X.drew hj0 ⟨by omega,hx⟩ (by omega) (by have:=hB7.size;simp;omega))
    have hn3:1≤n - 1 - 1:=by omega
    clear hcl hdl
    have HP:=Lib.hid hpn
    clear hpn
    generalize p.toNat=P at *
    generalize (p - 1).toNat=R1 at *
    gi_wp2_with fail
    have hS:(fun V:World=>V.cell? ⟨W.heap.size,0,none⟩=some (.func (.yield l) #[] #[])∧V.cell? ⟨v1.heap.size,0,none⟩=some (.int .i64 (p - 1))∧V.cell? ⟨v1.heap.size+1,0,none⟩=some (.int .i64 (pre.length:Int))∧V.cell? ⟨g,1,none⟩=some (.slice (some ⟨gb,go,none⟩) P gc)∧V.cell? ⟨gb,go+pre.length,none⟩=some (.slice (some ⟨b2,off2,none⟩) R1 cap2)∧V.cell? ⟨b2,off2+r,none⟩=some (f pre.length r)) X.drew:=⟨cY,cR,cC,cv,ccol,ccell⟩
    refine region_HF (S:=(fun V:World=>V.cell? ⟨W.heap.size,0,none⟩=some (.func (.yield l) #[] #[])∧V.cell? ⟨v1.heap.size,0,none⟩=some (.int .i64 (p - 1))∧V.cell? ⟨v1.heap.size+1,0,none⟩=some (.int .i64 (pre.length:Int))∧V.cell? ⟨g,1,none⟩=some (.slice (some ⟨gb,go,none⟩) P gc)∧V.cell? ⟨gb,go+pre.length,none⟩=some (.slice (some ⟨b2,off2,none⟩) R1 cap2)∧V.cell? ⟨b2,off2+r,none⟩=some (f pre.length r))) (by kernel_rfl) ?_
    refine tkF (i:=0) (d:=15) (v:=.int .i64 (r:Int)) (s:=hS) (c:=?_)
    simp only [ud9]
    refine tkF (i:=1) (d:=16) (v:=.int .i64 (p - 1)) (s:=hS) (c:=?_)
    simp only [ud9]
    refine tkF (i:=2) (d:=17) (v:=.bool true) (s:=hS) (c:=?_)
    simp only [ud9]
    refine tkF (i:=3) (d:=18) (v:=.bool true) (s:=hS) (c:=?_)
    simp only [ud9]
    refine tkF (i:=4) (d:=19) (v:=.func (.yield l) #[] #[]) (s:=hS) (c:=?_)
    simp only [ud9]
    refine tkF (i:=5) (d:=20) (v:=.pointer (some ⟨g,1,none⟩)) (s:=hS) (c:=?_)
    simp only [ud9]
    refine tkF (i:=6) (d:=21) (v:=.slice (some ⟨gb,go,none⟩) P gc) (s:=hS) (c:=?_)
    simp only [ud9]
    refine tkF (i:=7) (d:=22) (v:=.int .i64 (pre.length:Int)) (s:=hS) (c:=?_)
    simp only [ud9]
    refine tkF (i:=8) (d:=23) (v:=.pointer (some ⟨gb,go+pre.length,none⟩)) (s:=hS) (c:=?_)
    simp only [ud9]
    refine tkF (i:=9) (d:=24) (v:=.slice (some ⟨b2,off2,none⟩) R1 cap2) (s:=hS) (c:=?_)
    simp only [ud9]
    refine tkF (i:=10) (d:=25) (v:=.int .i64 (r:Int)) (s:=hS) (c:=?_)
    simp only [ud9]
    refine tkF (i:=11) (d:=26) (v:=.pointer (some ⟨b2,off2+r,none⟩)) (s:=hS) (c:=?_)
    simp only [ud9]
    refine tkF (i:=12) (d:=27) (v:=f pre.length r) (s:=hS) (c:=?_)
    simp only [ud9]
    refine oneF (i:=13) (c:=?_)
    gi_wp2
    refine hRr.mono ?_
    rintro e W3 ⟨o',hf3,hS3,(⟨rfl,hJ3,hk3⟩ | ⟨rfl,hJx3,hk3⟩)⟩
    all_goals have y0:=(World.cell?_of_block (a:=⟨W.heap.size,0,none⟩) (hS3.2 W.heap.size (Nat.le_refl _) bY.lt hYn)).trans hS.1
    all_goals have y1:=(World.cell?_of_block (a:=⟨v1.heap.size,0,none⟩) (hS3.2 v1.heap.size (by omega) bR.lt hRn)).trans hS.2.1
    all_goals have y2:=(World.cell?_of_block (a:=⟨v1.heap.size+1,0,none⟩) (hS3.2 (v1.heap.size+1) (by omega) bC.lt hCn)).trans hS.2.2.1
    all_goals have y3:=(World.cell?_of_block (a:=⟨g,1,none⟩) (hk3.2 g (Nat.zero_le _) (by omega))).trans hS.2.2.2.1
    all_goals have y4:=(World.cell?_of_block (a:=⟨gb,go+pre.length,none⟩) (hk3.2 gb (Nat.zero_le _) (by omega))).trans hS.2.2.2.2.1
    all_goals have y5:=(World.cell?_of_block (a:=⟨b2,off2+r,none⟩) (hk3.2 b2 (Nat.zero_le _) (by omega))).trans hS.2.2.2.2.2
    all_goals have hSX:SinceO W.heap.size o X W3:=hS3
    all_goals have hfX:FreshO o o' X:=hf3
    all_goals have hkX:Keep 0 N X W3:=hk3
    all_goals have hfo':FreshO o₀ o' w7:=hfo.trans hsz hfX
    all_goals clear hS hRr hy
    · refine ⟨⟨y0,y1,y2,y3,y4,y5⟩,?_⟩
      refine oneF (i:=14) (c:=?_)
      gi_wp2
      refine oneF (i:=15) (c:=?_)
      gi_wp2
      refine anyHF_done (by kernel_rfl) ?_ _
      have bC3:=hSX.blk bC (by omega) hCn
      have z0:=bC3.frozen 0
      gi_wp2
      have hl1:(((pre ++ [(r:Int)]).length:Nat):Int)=(pre.length:Int)+1:=by simp
      have hst:∀ E,E≤w7.heap.size→v1.heap.size+1<E→Since E W3 (W3.setCell ⟨v1.heap.size+1,0,none⟩ (.int .i64 ((pre.length:Int)+1))):=fun E _ hE=>Since.setCell W3 (p:=⟨v1.heap.size+1,0,none⟩) hE _
      have hCn':some (v1.heap.size+1)≠o':=hfX.ne bC.lt hCn
      refine ⟨o',hfX,⟨Nat.le_trans hSX.1 (hst _ (Nat.le_refl _) (by omega)).1,fun b h1 h2 h3=>((hst _ (Nat.le_refl _) (by omega)).2 b h1 (by have:=hSX.1;omega)).trans (hSX.2 b (by omega) h2 h3)⟩,(hSX.keep (by omega) (by omega) (fun b e=>?_)).trans ((hst v2.heap.size (by omega) (by omega)).keep (Nat.le_refl _) (by have:=hSX.1;omega)),?_,hfo',(hSX.blk bY (Nat.le_refl _) hYn).far (by show W.heap.size≠v1.heap.size+1;omega) _,(hSX.blk bR (by omega) hRn).far (by show v1.heap.size≠v1.heap.size+1;omega) _,?_,(hk.trans hkX).trans ⟨(hst _ (Nat.le_refl _) (by omega)).1,fun b h1 h2=>Below.heap_setCell W3 _ _ b (by show b≠v1.heap.size+1;omega)⟩⟩
      · rcases hfo with rfl | ⟨b3,rfl,hb3⟩
        · have:=ho₀ b e;omega
        · injection e with e;omega
      · rw [hone]
        exact hJ _ o' W3 _ (some (v1.heap.size+1)) hJ3 (grown_set (grown_below (Below.refl _ W3)) 0 _) (fun r e=>by cases e;exact ⟨by omega,hCn'⟩)
      · rw [hl1]
        exact bC3.set_ 0 _
    · refine ⟨⟨y0,y1,y2,y3,y4,y5⟩,?_⟩
      refine oneF (i:=14) (c:=?_)
      gi_wp2
      refine oneF (i:=15) (c:=?_)
      gi_wp2
      refine anyHF_done (by kernel_rfl) ?_ _
      gi_wp2
      exact ⟨o',hfX,hSX.less (by have:=hB7.size;omega),rfl,hfo',pre,r,rfl,hx,by rw [hone];exact hJx3⟩
  · have hd:decide ((r:Int)<p - 1)=false:=decide_eq_false hx
    have hone:diagW p f 0 (pre ++ [(r:Int)])=diagW p f 0 pre:=by rw [diagW_one,if_neg hx,List.append_nil]
    have hn3:1≤n - 1 - 1:=by omega
    clear hcl hdl
    gi_wp2_with fail
    have hS:(fun V:World=>V.cell? ⟨W.heap.size,0,none⟩=some (.func (.yield l) #[] #[])∧V.cell? ⟨v1.heap.size,0,none⟩=some (.int .i64 (p - 1))∧V.cell? ⟨v1.heap.size+1,0,none⟩=some (.int .i64 (pre.length:Int))) X.drew:=⟨cY,cR,cC⟩
    refine region_HF (S:=(fun V:World=>V.cell? ⟨W.heap.size,0,none⟩=some (.func (.yield l) #[] #[])∧V.cell? ⟨v1.heap.size,0,none⟩=some (.int .i64 (p - 1))∧V.cell? ⟨v1.heap.size+1,0,none⟩=some (.int .i64 (pre.length:Int)))) (by kernel_rfl) ?_
    refine tkF (i:=0) (d:=15) (v:=.int .i64 (r:Int)) (s:=hS) (c:=?_)
    simp only [ud9]
    refine tkF (i:=1) (d:=16) (v:=.int .i64 (p - 1)) (s:=hS) (c:=?_)
    simp only [ud9]
    refine tkF (i:=2) (d:=17) (v:=.bool false) (s:=hS) (c:=?_)
    simp only [ud9]
    refine tkF (i:=3) (d:=18) (v:=.bool false) (s:=hS) (c:=?_)
    simp only [ud9]
    refine tkF (i:=4) (d:=19) (v:=undef) (q8:=⟨Or.inr ⟨by rfl,rfl⟩,fun _=>rfl⟩) (s:=hS) (c:=?_)
    simp only [ud9]
    refine tkF (i:=5) (d:=20) (v:=undef) (q8:=⟨Or.inr ⟨by rfl,rfl⟩,fun _=>rfl⟩) (s:=hS) (c:=?_)
    simp only [ud9]
    refine tkF (i:=6) (d:=21) (v:=undef) (q8:=⟨Or.inr ⟨by rfl,rfl⟩,fun _=>rfl⟩) (s:=hS) (c:=?_)
    simp only [ud9]
    refine tkF (i:=7) (d:=22) (v:=undef) (q8:=⟨Or.inr ⟨by rfl,rfl⟩,fun _=>rfl⟩) (s:=hS) (c:=?_)
    simp only [ud9]
    refine tkF (i:=8) (d:=23) (v:=undef) (q8:=⟨Or.inr ⟨by rfl,rfl⟩,fun _=>rfl⟩) (s:=hS) (c:=?_)
    simp only [ud9]
    refine tkF (i:=9) (d:=24) (v:=undef) (q8:=⟨Or.inr ⟨by rfl,rfl⟩,fun _=>rfl⟩) (s:=hS) (c:=?_)
    simp only [ud9]
    refine tkF (i:=10) (d:=25) (v:=undef) (q8:=⟨Or.inr ⟨by rfl,rfl⟩,fun _=>rfl⟩) (s:=hS) (c:=?_)
    simp only [ud9]
    refine tkF (i:=11) (d:=26) (v:=undef) (q8:=⟨Or.inr ⟨by rfl,rfl⟩,fun _=>rfl⟩) (s:=hS) (c:=?_)
    simp only [ud9]
    refine tkF (i:=12) (d:=27) (v:=undef) (q8:=⟨Or.inr ⟨by rfl,rfl⟩,fun _=>rfl⟩) (s:=hS) (c:=?_)
    simp only [ud9]
    refine anyHF_skip (i:=13) (d:=28) (by kernel_rfl) rfl (by rfl) rfl wide_fn hS ?_
    simp only [ud9]
    refine tkF (i:=14) (d:=29) (v:=undef) (q8:=⟨Or.inr ⟨by rfl,rfl⟩,fun _=>rfl⟩) (s:=hS) (c:=?_)
    simp only [ud9]
    refine tkF (i:=15) (d:=30) (v:=.bool false) (s:=hS) (c:=?_)
    simp only [ud9]
    refine anyHF_done (by kernel_rfl) ?_ _
    have z0:=bC.frozen 0
    gi_wp2
    have hl1:(((pre ++ [(r:Int)]).length:Nat):Int)=(pre.length:Int)+1:=by simp
    have hX0:Since W.heap.size X X.drew:=⟨Nat.le_refl _,fun _ _ _=>rfl⟩
    have hst:∀ E,E≤w7.heap.size→v1.heap.size+1<E→Since E X (X.drew.setCell ⟨v1.heap.size+1,0,none⟩ (.int .i64 ((pre.length:Int)+1))):=fun E _ hE=>Since.setCell X.drew (p:=⟨v1.heap.size+1,0,none⟩) hE _
    refine ⟨o,.inl rfl,⟨(hst _ (Nat.le_refl _) (by omega)).1,fun b h1 h2 h3=>(hst _ (Nat.le_refl _) (by omega)).2 b h1 h2⟩,(hst v2.heap.size (by omega) (by omega)).keep (Nat.le_refl _) (by omega),?_,hfo,bY.far (by show W.heap.size≠v1.heap.size+1;omega) _,bR.far (by show v1.heap.size≠v1.heap.size+1;omega) _,?_,hk.trans ⟨(hst _ (Nat.le_refl _) (by omega)).1,fun b h1 h2=>Below.heap_setCell X.drew _ _ b (by show b≠v1.heap.size+1;omega)⟩⟩
    · rw [hone]
      exact hJ _ o X _ (some (v1.heap.size+1)) hj (grown_set (grown_below (Below.refl _ X).drew) 0 _) (fun r e=>by cases e;exact ⟨by omega,hCn⟩)
    · rw [hl1]
      exact bC.set_ 0 _
 case done =>
  rintro D xs o X hD hfo rfl ⟨hj,_⟩ hK hne
  gi_wp2
  rw [Exit.noGoto_normal]
  refine ⟨by simp,.inl ⟨_,_,rfl,run_takeDeferred hK,?_⟩⟩
  exact ⟨_,results_none rfl _ _ _,⟨_,rfl⟩,o,hfo.later hB7.size,.inl ⟨_,rfl,hJ.put hj (by have:=hB7.size;omega) hne _⟩⟩
 case stop =>
  rintro D c pre o X hD hfo hSp ⟨rfl,_,q,x,rfl,hx,hjx⟩ hK hne
  gi_wp2
  rw [Exit.noGoto_normal]
  refine ⟨by simp,.inl ⟨_,_,rfl,run_takeDeferred hK,?_⟩⟩
  refine ⟨_,results_none rfl _ _ _,⟨_,rfl⟩,o,hfo.later hB7.size,.inr ⟨_,?_,hJx.put hjx (by have:=hB7.size;omega) hne _⟩⟩
  obtain ⟨t,ht⟩:=hSp
  rw [←ht,diagW_append p f 0 (q ++ [x]) t]
  exact List.prefix_append _ _
end Go.Proofs.YtcchjofjpflbhaaGreatDoor.E

namespace Go.Proofs.YtcchjofjpflbhaaGreatDoor.E
open Go.RowKit Go.Shelf Go.Proofs.YtcchjofjpflbhaaGreatDoor.C
attribute [local go_sem] Oper.semAt_some

theorem wpListIn_val {F:Fence} {nF:Nat} (w:World) {ops:Array Oper} {rest:List Oper} {o:Oper} {a:Act} {Q:Exit→Act→World→Prop} (hgd:o.guard=none) (s x:Operand)
 (ho:o.op = .call { callee:=.builtin .append,args:=#[s,x],argTypes:=#[49,49] })
 (base:Nat) (v:Value) (l:List Value) (hs:a.eval s=v) (hown:OwnS w base v l) (g:Nat) (u:Value) (hu1:u.oneCell'=true) (hx:a.eval x = .slice (some ⟨g,0,none⟩) 1 1) (hu:Blk w g 64 #[u])
 (hlen:l.length≤1000000) (hbase:base≤w.heap.size)
 (h:∀ v' w',OwnS w' base v' (l ++ [u])→w.grownBy w' v.ownBlock→(v'.ownBlock=v.ownBlock∨v'.ownBlock=some w.heap.size)→wpListIn F nF Tryz.prog ops Q rest (a.put o.dst v') w'):wpListIn F nF Tryz.prog ops Q (o :: rest) a w:=by
 obtain ⟨i,hi,hz0,hz1,hz2⟩:=info_parts Tryz.infoSlcE
 refine wpListIn_append_own_at w hgd s x 49 ho base 64 i (.slice none 0 0) 1 24 Tryz.underlying49 hi hz0 hz1 hz2 rfl (by omega) v l.length l hs hown ⟨g,0,none⟩ 1 1 [u] hx rfl
  (by intro j y hy
      rw [addr_add,Nat.zero_add,hu.cell j,List.getElem?_toArray]
      exact hy)
  (by intro y hy;simp only [List.mem_cons,List.not_mem_nil,or_false] at hy;subst hy;exact hu1) (by unfold maxLen;omega) (by omega) hbase ?_
 intro v' w' h1 h2 h4 h3
 refine h v' w' ?_ h2 h3
 unfold OwnS
 rw [List.length_append]
 exact h1
theorem OwnS.far {w:World} {base:Nat} {v:Value} {l:List Value} (h:OwnS w base v l) {p:Addr} (hp:some p.block≠v.ownBlock) (u:Value):OwnS (w.setCell p u) base v l:=by
 refine ⟨h.1,?_⟩
 rcases h.2 with h1 | ⟨g,cap,cur,e,h2,hg,rest⟩
 · exact .inl h1
 · exact .inr ⟨g,cap,cur,e,h2,(Below.heap_setCell w p u g (fun e2=>hp (by rw [e,←e2];rfl))).trans hg,rest⟩
theorem OwnS.kept {w w':World} {base:Nat} {v:Value} {l:List Value} (h:OwnS w base v l) {row:Option Nat} (hg:w.grownBy w' row) (hne:v.ownBlock=none∨v.ownBlock≠row):OwnS w' base v l:=World.ownsRow.kept h hg hne
theorem OwnS.below {w w':World} {base:Nat} {v:Value} {l:List Value} (h:OwnS w base v l) (hb:Below w.heap.size w w'):OwnS w' base v l:=World.ownsRow.kept (row:=none) h (grown_below hb) (by cases v.ownBlock <;> simp)
theorem OwnS.blks {w w':World} {base:Nat} {v:Value} {l:List Value} (h:OwnS w base v l) (hk:∀ g t cs,Blk w g t cs→Blk w' g t cs):OwnS w' base v l :=
 ⟨h.1,h.2.imp id fun ⟨g,cap,cur,e,h2,hg,rest⟩=>⟨g,cap,cur,e,h2,hk _ _ _ hg,rest⟩⟩
theorem OwnS.less {w:World} {base base':Nat} {v:Value} {l:List Value} (h:OwnS w base v l) (hb:base'≤base):OwnS w base' v l :=
 ⟨h.1,h.2.imp id fun ⟨g,cap,cur,e,h2,rest⟩=>⟨g,cap,cur,e,by omega,rest⟩⟩
theorem OwnS.rowO {w:World} {base:Nat} {v:Value} {l:List Value} (h:OwnS w base v l):RowO v.ownBlock w:=fun b e=>by
 rcases h.2 with ⟨rfl,_⟩ | ⟨g,cap,cur,rfl,_,hg,_⟩
 · cases e
 · injection e with e
   subst e
   exact ⟨_,_,_,hg⟩
theorem OwnS.own_le {w:World} {base:Nat} {v:Value} {l:List Value} (h:OwnS w base v l) (b:Nat) (e:v.ownBlock=some b):base≤b:=by
 rcases h.2 with ⟨rfl,_⟩ | ⟨g,cap,cur,rfl,h2,hg,_⟩
 · cases e
 · injection e with e
   subst e
   exact h2

theorem appendSeq_any (us:List Value) (N:Nat) (hN:N≤1000) (gf:Nat) (lb:Array Value) (w0 W:World) (hB0:Below w0.heap.size w0 W) (eg:∀ args w,(callFunc gf args).run Tryz.prog w = .ok (.enter gf args) w)
 (Ok:Value→World→Prop) (hOk:∀ x X,Ok x X→∃ A n c,x = .slice A n c) (hseq:∀ n,4≤n→SeqQ Fence.wide n Tryz.prog gf lb (fun x:Value=>#[x]) Ok (Keep 0 w0.heap.size) (fun ys=>ys=us) (fun pre=>pre <+: us) N w0) :
 Calls Tryz.prog 267 #[.slice none 0 0,.func (.func gf) #[] lb] W fun e w'=>∃ u,e = .returned u∧OwnS w' W.heap.size u us∧Below W.heap.size W w':=by
 obtain ⟨w7,hw7⟩:∃ w7,W.alloc (.cells #[.slice none 0 0] 49)=w7:=⟨_,rfl⟩
 have b1:Blk w7 W.heap.size 49 #[.slice none 0 0]:=by rw [←hw7];exact Blk.new W _ _
 have hB:Below W.heap.size W w7:=by rw [←hw7];exact below_one W _
 have s7:w7.heap.size=W.heap.size+1:=by rw [←hw7];simp
 have hs0:=hB0.size
 refine (callsIn_wide (n:=9)).1 ?_
 refine callsIn_of_wp_marks Tryz.func267 rfl trivial ?_ rfl
 simp only [Tryz.ntmps267,List.size_toArray,List.length_cons,List.length_nil,Nat.reduceAdd,Nat.reduceSub,Array.replicate_succ,Array.replicate_zero,List.push_toArray,List.append_toArray,List.nil_append,List.cons_append]
 gi_wp2_with fail
 clear hw7
 refine wpIn_rangeQ rfl (by omega) (gf:=gf) (lb:=lb) rfl trivial eg (hseq _ (by omega)) (fun h h'=>h.trans h') (fun V l ob hl _ hlp=>Keep.putFar V (by omega) ob) (below_in hB0 hB) (fun _=>rfl)
  (fun pre o X=>∃ v,Blk X W.heap.size 49 #[v]∧OwnS X (W.heap.size+1) v pre∧v.ownBlock=o∧Below W.heap.size W X)
  (fun _ _ _ _=>False) ?hI (fun c s o X Y row hs _ _=>hs) none (fun b e=>by cases e) ⟨_,b1,ownS_nil _ _,rfl,hB⟩
  (fun x o a' X=>a' = { tmps:=#[.slice none 0 0,.func (.func gf) #[] lb,.pointer (some ⟨W.heap.size,0,none⟩),undef,.slice none 0 0,x,.func (.func gf) #[] lb,x,undef,undef,undef,undef,undef],defers:=[] }∧∃ A n c,x = .slice A n c) (fun _ _ _ _ _ _ _ _ h=>h)
  ?assign (fun pre o X h=>by obtain ⟨v,_,ho,rfl,_⟩:=h;exact ho.rowO) (fun c pre o X h=>h.elim) ?body ?done (fun D c pre o X _ _ _ h=>h.elim)
 case hI =>
  rintro s o X Y row ⟨v,hb1,ho,rfl,hBX⟩ hgr hr
  have hne:∀ g,g<w7.heap.size→some g≠row:=fun g hg e=>by have:=(hr g e.symm).1;omega
  refine ⟨v,hb1.grown hgr (hne _ (by omega)),ho.kept hgr ?_,rfl,hBX.grown hgr hBX.size (fun r e=>by have:=(hr r e).1;omega)⟩
  cases hrow:row with
  | none=>exact (Option.eq_none_or_eq_some v.ownBlock).imp id (fun ⟨x,hx⟩=>by rw [hx];simp)
  | some r=>exact .inr (fun e=>(hr r hrow).2 e.symm)
 case assign =>
  intro l' pre x o X K hsz ho hI hok hK
  gi_wp2
  exact hK _ _ (SinceO.refl _ _ _) (Keep.refl _ _ _) hI ⟨rfl,hOk _ _ hok⟩
 case body =>
  rintro l' pre x o a' X hsz ⟨v,hb1,ho,rfl,hBX⟩ ⟨rfl,Ax,nx,cx,rfl⟩ hlen
  have hx1:(Value.slice Ax nx cx).oneCell'=true:=rfl
  have c1:=hb1.one
  have hol:=ho.rowO.lt
  have hBb:=below_one X (.cells #[.slice Ax nx cx] 64)
  have HO:=Lib.hid (ho.below hBb)
  have HU:=Lib.hid (Blk.new X 64 #[.slice Ax nx cx])
  have hb1b:=hb1.below hBb hb1.lt
  have hn1:some W.heap.size≠v.ownBlock:=fun e=>by have:=ho.own_le _ e.symm;omega
  have hva:=ho.own_le
  have hsb:=hBb.size
  have hsX:=hBX.size
  have HX1:=Lib.hid hx1
  clear hx1
  gi_wp2_with (gi_at_builtin;refine wpListIn_val _ rfl _ _ rfl (W.heap.size+1) v _ rfl HO.out X.heap.size (.slice Ax nx cx) HX1.out rfl HU.out (by omega) (by simp;omega) ?_;intro v2 w3 ho2 hg2 hd2;(have hfm:=World.ownsRow.form ho2 (by simp));(obtain ⟨g2,cap2,hv2,_,_⟩:=hfm);(generalize (pre ++ [Value.slice Ax nx cx]).length=N2 at hv2);subst hv2;have hb3:=hb1b.grown hg2 hn1;have c3:=hb3.one;have f3:=hb3.frozen 0)
  have hs3:=hg2.size
  have hn2:some W.heap.size≠(Value.slice (some ⟨g2,0,none⟩) N2 cap2).ownBlock:=fun e=>by have:=ho2.own_le _ e.symm;omega
  have hfr:FreshO v.ownBlock (Value.slice (some ⟨g2,0,none⟩) N2 cap2).ownBlock X:=by
   rcases hd2 with h | h
   · exact .inl h
   · exact .inr ⟨_,h,by simp⟩
  have hsi:SinceO w7.heap.size v.ownBlock X (w3.setCell ⟨W.heap.size,0,none⟩ (Value.slice (some ⟨g2,0,none⟩) N2 cap2)) :=
   (SinceO.below hBb).trans_ ⟨by simpa using hs3,fun b h1 h2 h3=>(Below.heap_setCell w3 _ (Value.slice (some ⟨g2,0,none⟩) N2 cap2) b (by simp;omega)).trans (hg2.block b h2 h3)⟩
  have hke:Keep 0 w0.heap.size X (w3.setCell ⟨W.heap.size,0,none⟩ (Value.slice (some ⟨g2,0,none⟩) N2 cap2)) :=
   ((Keep.below hBb (by omega)).trans (Keep.grown hg2 (by omega) (fun r e=>.inr (by have:=hva r e;omega)))).trans (Keep.setFar w3 (by simp;omega) (Value.slice (some ⟨g2,0,none⟩) N2 cap2))
  have hbe:Below W.heap.size W (w3.setCell ⟨W.heap.size,0,none⟩ (Value.slice (some ⟨g2,0,none⟩) N2 cap2)):=((below_in hBX hBb).grown hg2 (by omega) (fun r e=>by have:=hva r e;omega)).setCell (by simp) (Value.slice (some ⟨g2,0,none⟩) N2 cap2)
  exact ⟨(Value.slice (some ⟨g2,0,none⟩) N2 cap2).ownBlock,hfr,hsi,hke,(Value.slice (some ⟨g2,0,none⟩) N2 cap2),hb3.set_ 0 (Value.slice (some ⟨g2,0,none⟩) N2 cap2),ho2.far hn2 (Value.slice (some ⟨g2,0,none⟩) N2 cap2),rfl,hbe⟩
 case done =>
  rintro D xs o X hD hfo rfl ⟨v,hb1,ho,rfl,hBX⟩ hK hne
  have c1:=hb1.one
  gi_wp2
  refine leaves_blks W [D] X ⟨by simp,fun E hE=>?_⟩ hBX (fun W' hB' hk=>?_)
  · obtain rfl:=List.mem_singleton.1 hE
    exact ⟨by omega,hK⟩
  · exact ⟨v,by simp [results,Tryz.results267,go_sem],v,rfl,(ho.blks hk).less (by omega),hB'⟩
end Go.Proofs.YtcchjofjpflbhaaGreatDoor.E
