/- -/
import Derived.Maps.OwnIn
import Derived.Test.YtkllhjhkcipkoaaGreatDoorTHG2
set_option linter.unusedVariables false
set_option linter.unusedSimpArgs false
set_option maxRecDepth 100000
set_option maxHeartbeats 2000000
namespace Go.Proofs.YtkllhjhkcipkoaaGreatDoor
open Go.RowKit Go.Shelf

def FarO {β:Type} (B:Nat) (I:β→Option Nat→World→Prop):Prop :=
 ∀ s o X Y row,I s o X→X.grownBy Y row→(∀ r,row=some r→B≤r∧some r≠o)→I s o Y
def SinceO (B:Nat) (o:Option Nat) (X Y:World):Prop:=X.heap.size≤Y.heap.size∧∀ b,B≤b→b<X.heap.size→some b≠o→Y.heap[b]?=X.heap[b]?
def RowO (o:Option Nat) (X:World):Prop:=∀ b,o=some b→∃ cs t fr,X.heap[b]?=some (.cells cs t fr)
theorem RowO.lt {o:Option Nat} {X:World} (h:RowO o X):∀ b,o=some b→b<X.heap.size:=fun b e=>by
 obtain ⟨_,_,_,hc⟩:=h b e
 exact (Array.getElem?_eq_some_iff.1 hc).1
theorem RowO.ne {o:Option Nat} {X:World} (h:RowO o X) {D:Nat} {ds:Option (List Deferred)} (hD:X.heap[D]?=some (.deferred ds)):some D≠o:=fun e=>by
 obtain ⟨_,_,_,hc⟩:=h D e.symm
 rw [hD] at hc
 cases hc
theorem rowO_none (X:World):RowO none X:=fun b e=>by cases e
def FreshO (o o':Option Nat) (X:World):Prop:=o'=o∨∃ b,o'=some b∧X.heap.size≤b

section
variable {β:Type} {B k:Nat} {I I':β→Option Nat→World→Prop} {X Y Z:World} {o o' o'':Option Nat}
theorem FarO.and (h:FarO B I) (h':FarO B I'):FarO B (fun s o W=>I s o W∧I' s o W):=fun s o X Y row hs hg hr=>⟨h s o X Y row hs.1 hg hr,h' s o X Y row hs.2 hg hr⟩
theorem FarO.less {B':Nat} (h:FarO B I) (hB:B≤B'):FarO B' I:=fun s o X Y row hs hg hr=>h s o X Y row hs hg fun r e=>⟨by have:=(hr r e).1;omega,(hr r e).2⟩
theorem farO_pure (B:Nat) (p:β→Option Nat→Prop):FarO B (fun s o (_:World)=>p s o):=fun _ _ _ _ _ hs _ _=>hs
theorem farO_blk {g:Nat} (hg:g<B) (t:TypeId) (f:β→Array Value):FarO B (fun s (_:Option Nat) W=>Blk W g t (f s)):=fun _ _ _ _ _ hs hgr hr =>
 hs.grown hgr fun e=>by have:=(hr g e.symm).1;omega
theorem farO_below {n₀:Nat} {w:World} (hn:n₀≤w.heap.size) (hB:n₀≤B):FarO B (fun (_:β) (_:Option Nat) W=>Below n₀ w W):=fun _ _ _ _ _ hs hgr hr =>
 hs.grown hgr (Nat.le_trans hn hs.size) fun r e=>by have:=(hr r e).1;omega
theorem FarO.put (h:FarO B I) {s:β} {l:Nat} (hs:I s o X) (h1:B≤l) (h2:some l≠o) (ob:Obj):I s o (X.putObj l ob) :=
 h s o X _ (some l) hs (grownBy_putObj' X l ob) fun r e=>by injection e with e;subst e;exact ⟨h1,h2⟩
theorem FarO.lay (h:FarO B I) {s:β} (hs:I s o X) (ob:Obj):I s o (X.alloc ob):=h s o X _ none hs (World.grownBy_alloc X ob none) fun r e=>by cases e
theorem FarO.below (h:FarO B I) {s:β} (hs:I s o X) (hb:Below X.heap.size X Y):I s o Y:=h s o X Y none hs (grown_below hb) fun r e=>by cases e
theorem SinceO.refl (B:Nat) (o:Option Nat) (X:World):SinceO B o X X:=⟨Nat.le_refl _,fun _ _ _ _=>rfl⟩
theorem SinceO.below (hb:Below X.heap.size X Y):SinceO B o X Y:=⟨hb.size,fun b _ h2 _=>hb.block b h2⟩
theorem SinceO.less {B':Nat} (h:SinceO B o X Y) (hB:B≤B'):SinceO B' o X Y:=⟨h.1,fun b h1 h2=>h.2 b (by omega) h2⟩
theorem SinceO.trans (h:SinceO B o X Y) (hf:FreshO o o' X) (h':SinceO B o' Y Z):SinceO B o X Z:=⟨Nat.le_trans h.1 h'.1,fun b h1 h2 h3=>(h'.2 b h1 (by have:=h.1;omega) (by
 rcases hf with rfl | ⟨c,rfl,hc⟩
 · exact h3
 · intro e;injection e with e;omega)).trans (h.2 b h1 h2 h3)⟩
theorem SinceO.trans_ (h:SinceO B o X Y) (h':SinceO B o Y Z):SinceO B o X Z:=h.trans (.inl rfl) h'
theorem FreshO.trans (h:FreshO o o' X) (hs:X.heap.size≤Y.heap.size) (h':FreshO o' o'' Y):FreshO o o'' X:=by
 rcases h' with rfl | ⟨c,rfl,hc⟩
 · exact h
 · exact .inr ⟨c,rfl,by omega⟩
theorem FreshO.later (h:FreshO o o' Y) (hs:X.heap.size≤Y.heap.size):FreshO o o' X:=h.imp id fun ⟨c,e,hc⟩=>⟨c,e,by omega⟩
theorem FreshO.ne (h:FreshO o o' X) {b:Nat} (hb:b<X.heap.size) (hne:some b≠o):some b≠o':=by
 rcases h with rfl | ⟨c,rfl,hc⟩
 · exact hne
 · intro e;injection e with e;omega
theorem SinceO.blk {g:Nat} {t:TypeId} {cs:Array Value} (h:SinceO B o X Y) (hb:Blk X g t cs) (hg:B≤g) (hne:some g≠o):Blk Y g t cs:=(h.2 g hg hb.lt hne).trans hb
theorem SinceO.keep {B' k:Nat} (h:SinceO B o X Y) (hB:B≤B') (hk:B'+k≤X.heap.size) (ho:∀ b,o=some b→b<B'∨B'+k≤b):Keep B' k X Y :=
 ⟨h.1,fun b h1 h2=>h.2 b (by omega) (by omega) (fun e=>by have:=ho b e.symm;omega)⟩
end

def SeqO {α:Type} (F:Fence) (n:Nat) (P:Program) (gf:Nat) (lb:Array Value) (encs:α→Array Value) (Ok:α→World→Prop) (Kp:World→World→Prop) (S Sp:List α→Prop) (N:Nat) (w:World):Prop :=
 ∀ (l:Nat) (J Jx:List α→Option Nat→World→Prop) (W:World) (o₀:Option Nat),Below w.heap.size w W→(∀ b,o₀=some b→b<W.heap.size)→FarO W.heap.size J→FarO W.heap.size Jx→(∀ s o X,J s o X→RowO o X)→(∀ s o X,Jx s o X→RowO o X) →
  (∀ pre x o W1,J pre o W1→Ok x W1→pre.length<N→W.heap.size≤W1.heap.size→YieldAt F (n - 1) P l (encs x) W1 fun e W'=>∃ o',FreshO o o' W1∧SinceO W.heap.size o W1 W' ∧
   ((e = .returned (.bool true)∧J (pre ++ [x]) o' W'∧Kp W1 W')∨(e = .returned (.bool false)∧Jx (pre ++ [x]) o' W'))) →
  J [] o₀ W →
  CallsIn F n P gf (#[.func (.yield l) #[] #[]] ++ lb) W fun e W'=>(∃ v,e = .returned v)∧∃ o',FreshO o₀ o' W∧((∃ xs,S xs∧J xs o' W')∨(∃ pre,Sp pre∧Jx pre o' W'))

def postO {α:Type} (B:Nat) (Kp:World→World→Prop) (I:List α→Option Nat→World→Prop) (Ix:Code→List α→Option Nat→World→Prop) (xs:List α) (o:Option Nat) (W:World):Exit→Act→World→Prop
 | .normal,_,W'=>∃ o',FreshO o o' W∧SinceO B o W W'∧Kp W W'∧I xs o' W'
 | .ret,_,W'=>∃ o',FreshO o o' W∧SinceO B o W W'∧Ix .ret xs o' W'
 | .exit id,_,W'=>∃ o',FreshO o o' W∧SinceO B o W W'∧Ix (.exit id) xs o' W'
 | .goto t,_,W'=>∃ o',FreshO o o' W∧SinceO B o W W'∧Ix (.goto t) xs o' W'
 | .panic _,_,_=>False
 | .outgrown,_,_=>False
def HeldO (rec:LoopState→Option Code→Loop) (D:Nat) (st:LoopState) (pe:Option Code) (o:Option Nat) (X:World):Prop:=Held rec D st pe X∧some D≠o∧some (D+1)≠o
theorem Held.lt0 {rec:LoopState→Option Code→Loop} {D:Nat} {st:LoopState} {pe:Option Code} {X:World} (h:Held rec D st pe X):D<X.heap.size:=by have:=h.lt;omega
theorem HeldO.since {rec:LoopState→Option Code→Loop} {D B:Nat} {st:LoopState} {pe:Option Code} {X Y:World} {o o':Option Nat} (h:HeldO rec D st pe o X) (hk:SinceO B o X Y) (hf:FreshO o o' X) (h1:B≤D):HeldO rec D st pe o' Y :=
 ⟨⟨(hk.2 _ (by omega) h.1.lt h.2.2).trans h.1.1,(hk.2 _ h1 h.1.lt0 h.2.1).trans h.1.2⟩,hf.ne h.1.lt0 h.2.1,hf.ne h.1.lt h.2.2⟩
theorem held_farO (rec:LoopState→Option Code→Loop) (D:Nat) (st:LoopState) (pe:Option Code) {β:Type}:FarO (D+2) (fun (_:β) o W=>HeldO rec D st pe o W):=fun _ o X Y _ hs hg hr =>
 ⟨⟨(hg.block _ hs.1.lt (fun e=>by have:=(hr _ e.symm).1;omega)).trans hs.1.1,(hg.block D hs.1.lt0 (fun e=>by have:=(hr _ e.symm).1;omega)).trans hs.1.2⟩,hs.2⟩
theorem HeldO.turn {rec:LoopState→Option Code→Loop} {D:Nat} {st:LoopState} {pe:Option Code} {o:Option Nat} {X:World} (h:HeldO rec D st pe o X) (st':LoopState) (pe':Option Code):HeldO rec D st' pe' o (X.putObj (D+1) (.loop (rec st' pe'))):=⟨h.1.turn st' pe',h.2⟩

theorem wpIn_rangeO {α:Type} {F:Fence} {n:Nat} {P:Program} {g:Operand} {ps:Array Tmp} {assign body:Code} {Q:Exit→Act→World→Prop} {a:Act} {w:World}
 (hro:F.round=none) (h1:1≤n) {gf:Nat} {lb:Array Value} (hg:a.eval g = .func (.func gf) #[] lb) (hFg:F.fn gf) (eg:∀ args w,(callFunc gf args).run P w = .ok (.enter gf args) w)
 {encs:α→Array Value} {Ok:α→World→Prop} {Kp:World→World→Prop} {S Sp:List α→Prop} {N:Nat} {w0:World} (hseq:SeqO F (n - 1) P gf lb encs Ok Kp S Sp N w0)
 (hKt:∀ {A B C:World},Kp A B→Kp B C→Kp A C) (hKb:∀ (W:World) (l:Nat) (ob:Obj),w.heap.size≤l→l<W.heap.size→(∃ r,W.heap[l]?=some (.loop r))→Kp W (W.putObj l ob)) (hb0:Below w0.heap.size w0 w) (hps:∀ x,(encs x).size=ps.size)
 (I:List α→Option Nat→World→Prop) (Ix:Code→List α→Option Nat→World→Prop) (hI:FarO w.heap.size I) (hIx:∀ c,FarO w.heap.size (Ix c)) (o₀:Option Nat) (ho₀:∀ b,o₀=some b→b<w.heap.size) (h0:I [] o₀ w)
 (Ax:α→Option Nat→Act→World→Prop) (hAx:∀ (x:α) (o:Option Nat) (a':Act) (W:World) (l:Nat) (ob:Obj) (r:Loop),W.heap[l]?=some (.loop r)→Ax x o a' W→Ax x o a' (W.putObj l ob))
 (hassign:∀ (l:Nat) (pre:List α) (x:α) (o:Option Nat) (W:World) (K:Act→World→Prop),w.heap.size≤W.heap.size→(∀ b,o=some b→b<W.heap.size)→I pre o W→Ok x W→(∀ a' W',SinceO w.heap.size o W W'→Kp W W'→I pre o W'→Ax x o a' W'→K a' W') →
  assign.wpIn (F.inRound l) (n - 1 - 1) P (Exit.then K (fun _ _ _=>False)) { tmps:=(ps.zip (encs x)).foldl (fun t (p,v)=>t.setIfInBounds p v) a.tmps,defers:=[] } W)
 (hrow:∀ pre o W,I pre o W→RowO o W) (hrowx:∀ c pre o W,Ix c pre o W→RowO o W)
 (hbody:∀ (l:Nat) (pre:List α) (x:α) (o:Option Nat) (a':Act) (W:World),w.heap.size≤W.heap.size→I pre o W→Ax x o a' W→pre.length<N →
  body.wpIn (F.inRound l) (n - 1 - 1) P (postO w.heap.size Kp I Ix (pre ++ [x]) o W) a' W)
 (hdone:∀ (D:Nat) (xs:List α) (o:Option Nat) (W:World),w.heap.size≤D→FreshO o₀ o w→S xs→I xs o W→W.heap[D]?=some (.deferred (some []))→some D≠o→Q .normal { a with defers:={ target:=.collected D,args:=#[] } :: a.defers } W)
 (hstop:∀ (D:Nat) (c:Code) (pre:List α) (o:Option Nat) (W:World),w.heap.size≤D→FreshO o₀ o w→Sp pre→Ix c pre o W→W.heap[D]?=some (.deferred (some []))→some D≠o→c.wpIn F n P Q { a with defers:={ target:=.collected D,args:=#[] } :: a.defers } W) :
 (Code.rangeFunc g ps assign body).wpIn F n P Q a w:=by
 refine wpIn_rangeFunc fun fn hfn=>?_
 rw [hro]
 obtain ⟨rec,hrec⟩:∃ rec:LoopState→Option Code→Loop,rec=fun st pe=>{ state:=st,pending:=pe,fn,tmps:=a.tmps,params:=ps,assign,body,defers:=w.heap.size }:=⟨_,rfl⟩
 obtain ⟨W1,hW1⟩:∃ W1,(w.alloc (.deferred (some []))).alloc (.loop (rec .ready none))=W1:=⟨_,rfl⟩
 have s1:W1.heap.size=w.heap.size+2:=by rw [←hW1];simp
 have n0:some w.heap.size≠o₀:=fun e=>by have:=ho₀ _ e.symm;omega
 have n1:some (w.heap.size+1)≠o₀:=fun e=>by have:=ho₀ _ e.symm;omega
 have H1:HeldO rec w.heap.size .ready none o₀ W1:=by
  rw [←hW1]
  refine ⟨⟨?_,(Below.heap_alloc _ _ _ (by simp)).trans (World.alloc_heap_new w _)⟩,n0,n1⟩
  have:=World.alloc_heap_new (w.alloc (.deferred (some []))) (.loop (rec .ready none))
  rwa [World.size_alloc] at this
 have I1:I [] o₀ W1:=by rw [←hW1];exact hI.lay (hI.lay h0 _) _
 have B1:Below w0.heap.size w0 W1:=by
  rw [←hW1];exact hb0.trans ((((Below.refl _ w).alloc (Nat.le_refl _) _).alloc (by simp) _).mono hb0.size)
 refine ⟨w.heap.size+1,[{ target:=.collected w.heap.size,args:=#[] }],W1,{ target:=.fn (.func gf) lb,args:=#[.func (.yield (w.heap.size+1)) #[] #[]] },W1,gf,
  #[.func (.yield (w.heap.size+1)) #[] #[]] ++ lb,W1,?_,?_,?_,?_,fun _=>h1,?_⟩
 · rw [←hW1,hrec];exact run_enterLoop_outer _ _ _ _ _
 · simp only [resolve,hg]
   simp [go_sem]
 · intro f' hf'
   simp [Target.leads] at hf'
   exact hf'▸hFg
 · simp [invoke,go_sem,eg]
 have hI':FarO W1.heap.size I:=hI.less (by omega)
 have hH:=fun st pe=>(s1▸held_farO rec w.heap.size st pe (β:=List α):FarO W1.heap.size _)
 refine (hseq (w.heap.size+1) (fun pre o W=>I pre o W∧HeldO rec w.heap.size .ready none o W) (fun pre o W=>∃ c,Ix c pre o W∧HeldO rec w.heap.size .done (some c) o W) W1 o₀ B1 (fun b e=>by have:=ho₀ b e;omega) (hI'.and (hH _ _))
  (fun s o X Y row hs hgr hr=>by
   obtain ⟨c,hc,hh⟩:=hs
   exact ⟨c,(hIx c).less (by omega) s o X Y row hc hgr hr,hH _ _ s o X Y row hh hgr hr⟩) (fun s o X h=>hrow _ _ _ h.1) (fun s o X h=>h.elim fun c h=>hrowx _ _ _ _ h.1) ?_ ⟨I1,H1⟩).mono ?_
 · rintro pre x o W ⟨hi,hh⟩ hok hlen hsz
   rw [s1] at hsz
   have hy:=run_yield (P:=P) (args:=encs x) hh.1.1 (by rw [hrec];exact hps x)
   rw [hrec] at hy
   refine ⟨fn,_,assign,body,hy,roundIn_of_wpIn hfn (hassign _ pre x o W _ (by omega) (RowO.lt (hrow _ _ _ hi)) hi hok ?_)⟩
   intro a' Wa hka hpa hia hax
   have ha:=hh.since hka (.inl rfl) (Nat.le_refl _)
   have hb:=ha.turn .busy none
   have hbegin:=run_beginRound (P:=P) ha.1.1 (by rw [hrec])
   have ebusy:({ rec .ready none with state:=.busy }:Loop)=rec .busy none:=by rw [hrec]
   rw [ebusy] at hbegin
   refine ⟨_,hbegin,?_⟩
   have hsa:=hka.1
   have hsb:(Wa.putObj (w.heap.size+1) (.loop (rec .busy none))).heap.size=Wa.heap.size:=by simp [World.putObj]
   refine wpIn_mono (hbody _ pre x o a' _ (by rw [hsb];omega) (hI.put hia (by omega) ha.2.2 _) (hAx _ _ _ _ _ _ _ ha.1.1 hax) hlen) ?_
   have fin:∀ (jump:Option Code) (o':Option Nat) (W3:World),FreshO o o' (Wa.putObj (w.heap.size+1) (.loop (rec .busy none)))→SinceO w.heap.size o (Wa.putObj (w.heap.size+1) (.loop (rec .busy none))) W3 →
    (Instr.endRound (w.heap.size+1) jump).run P W3 = .ok (.bool jump.isNone) (W3.putObj (w.heap.size+1) (.loop (rec (if jump.isNone then .ready else .done) jump))) ∧
    HeldO rec w.heap.size (if jump.isNone then .ready else .done) jump o' (W3.putObj (w.heap.size+1) (.loop (rec (if jump.isNone then .ready else .done) jump)))∧HeldO rec w.heap.size .busy none o' W3:=fun jump o' W3 hf hk3=>by
    have h3:=hb.since hk3 hf (Nat.le_refl _)
    have he:=run_endRound (P:=P) jump h3.1.1
    have e2:({ rec .busy none with state:=if jump.isNone then .ready else .done,pending:=jump }:Loop)=rec (if jump.isNone then .ready else .done) jump:=by rw [hrec]
    rw [e2] at he
    exact ⟨he,h3.turn _ _,h3⟩
   have putFar:∀ (o:Option Nat) (V:World) (ob:Obj),SinceO W1.heap.size o V (V.putObj (w.heap.size+1) ob):=fun o V ob=>⟨by simp [World.putObj],fun b h2 _ _=>World.putObj_heap_other (by omega)⟩
   have keepAll:∀ (ob:Obj) (o':Option Nat) (W3:World),SinceO w.heap.size o (Wa.putObj (w.heap.size+1) (.loop (rec .busy none))) W3→SinceO W1.heap.size o W (W3.putObj (w.heap.size+1) ob):=fun ob o' W3 hk3 =>
    (((hka.less (by omega)).trans_ (putFar o Wa _)).trans_ (hk3.less (by omega))).trans_ (putFar o W3 _)
   intro e a3 W3 hp
   cases e with
   | normal =>
     obtain ⟨o',hf3,hk3,hp3,hi3⟩:=hp
     obtain ⟨he,h4,h5⟩:=fin none o' W3 hf3 hk3
     exact ⟨_,_,he,o',hf3.later (by rw [hsb];exact hsa),keepAll _ o' _ hk3,.inl ⟨rfl,⟨hI.put hi3 (by omega) h5.2.2 _,h4⟩,hKt hpa (hKt (hKb _ _ _ (by omega) ha.1.lt ⟨_,ha.1.1⟩) (hKt hp3 (hKb _ _ _ (by omega) h5.1.lt ⟨_,h5.1.1⟩)))⟩⟩
   | ret =>
     obtain ⟨o',hf3,hk3,hi3⟩:=hp
     obtain ⟨he,h4,h5⟩:=fin (some .ret) o' W3 hf3 hk3
     exact ⟨_,_,he,o',hf3.later (by rw [hsb];exact hsa),keepAll _ o' _ hk3,.inr ⟨rfl,.ret,(hIx _).put hi3 (by omega) h5.2.2 _,h4⟩⟩
   | exit id =>
     obtain ⟨o',hf3,hk3,hi3⟩:=hp
     obtain ⟨he,h4,h5⟩:=fin (some (.exit id)) o' W3 hf3 hk3
     exact ⟨_,_,he,o',hf3.later (by rw [hsb];exact hsa),keepAll _ o' _ hk3,.inr ⟨rfl,.exit id,(hIx _).put hi3 (by omega) h5.2.2 _,h4⟩⟩
   | goto t =>
     obtain ⟨o',hf3,hk3,hi3⟩:=hp
     obtain ⟨he,h4,h5⟩:=fin (some (.goto t)) o' W3 hf3 hk3
     exact ⟨_,_,he,o',hf3.later (by rw [hsb];exact hsa),keepAll _ o' _ hk3,.inr ⟨rfl,.goto t,(hIx _).put hi3 (by omega) h5.2.2 _,h4⟩⟩
   | panic ch=>exact hp.elim
   | outgrown=>exact hp.elim
 · rintro e W2 ⟨⟨v,rfl⟩,o',hfo,(⟨xs,hS,hi,hh⟩ | ⟨pre,hSp,c,hc,hh⟩)⟩
   · have he:=run_endLoop (P:=P) hh.1.1 (by rw [hrec];simp)
     rw [show (rec .ready none).pending=none by rw [hrec]] at he
     exact ⟨none,_,he,hdone _ xs o' _ (Nat.le_refl _) (hfo.later (by omega)) hS (hI.put hi (by omega) hh.2.2 _) ((World.putObj_heap_other (by omega)).trans hh.1.2) hh.2.1⟩
   · have he:=run_endLoop (P:=P) hh.1.1 (by rw [hrec];simp)
     rw [show (rec .done (some c)).pending=some c by rw [hrec]] at he
     exact ⟨some c,_,he,hstop _ c pre o' _ (Nat.le_refl _) (hfo.later (by omega)) hSp ((hIx c).put hc (by omega) hh.2.2 _) ((World.putObj_heap_other (by omega)).trans hh.1.2) hh.2.1⟩

end Go.Proofs.YtkllhjhkcipkoaaGreatDoor

namespace Go.Proofs.YtkllhjhkcipkoaaGreatDoor.E
open Go.RowKit Go.Shelf Go.Proofs.YtkllhjhkcipkoaaGreatDoor.C
attribute [local go_sem] Oper.semAt_some

theorem walk1_inO (n:Nat) (hn:1≤n) (l g h lo m p:Nat) (hp:0<p) (hp2:p≤1000) (a s:Int) (a0:0≤a) (a1:a<p) (s0:0≤s) (s1:s<p) (hh1:lo≤h) (hh:h<lo+m) (W:World) (hnW:lo+m≤W.heap.size) (J Jx:List Int→Option Nat→World→Prop) (o₀:Option Nat) (ho₀:∀ b,o₀=some b→b<W.heap.size)
 (hJ:FarO W.heap.size J)
 (hY:∀ pre (x:Int) o W1,J pre o W1→(0≤x∧x<(p:Int))→pre.length<p→W.heap.size≤W1.heap.size→YieldAt Fence.wide (n - 1) Tryz.prog l #[.int .i64 x] W1 fun e W'=>∃ o',FreshO o o' W1∧SinceO W.heap.size o W1 W'∧((e = .returned (.bool true)∧J (pre ++ [x]) o' W'∧Keep lo m W1 W')∨(e = .returned (.bool false)∧Jx (pre ++ [x]) o' W')))
 (bg:Blk W g 150 #[.int .i64 p,.int .i64 a]) (bh:Blk W h 148 #[.int .i64 s]) (h0:J [] o₀ W) :
 CallsIn Fence.wide n Tryz.prog 134 #[.func (.yield l) #[] #[],.pointer (some ⟨g,0,none⟩),.pointer (some ⟨h,0,none⟩)] W fun e W'=>(∃ v,e = .returned v)∧∃ o',FreshO o₀ o' W∧((∃ ys,ys=walkL p a s∧J ys o' W')∨(∃ pre,pre <+: walkL p a s∧Jx pre o' W')):=by
 have c0:W.cell? ⟨g,0,none⟩=some (.int .i64 p):=bg.cell 0
 have c1:W.cell? ⟨g,1,none⟩=some (.int .i64 a):=bg.cell 1
 refine callsIn_of_wp Tryz.func134 rfl trivial ?_ rfl
 simp only [Tryz.ntmps134,List.size_toArray,List.length_cons,List.length_nil,Nat.reduceAdd,Nat.reduceSub,Array.replicate_succ,Array.replicate_zero,List.push_toArray,List.append_toArray,List.nil_append,List.cons_append]
 refine wpIn_scope_wide ?_
 gi_wp2
 refine wpIn_label ?_
 obtain ⟨W0,hW0⟩:∃ W0,W.alloc (.cells #[.int .i64 p,.int .i64 a] 150)=W0:=⟨_,rfl⟩
 have bD:Blk W0 W.heap.size 150 #[.int .i64 p,.int .i64 (walkAt p a s 0)]:=by rw [←hW0,walkAt_zero p a s a0 (by omega)];exact Blk.new W _ _
 have hJ0:J [] o₀ W0:=by rw [←hW0];exact hJ.lay h0 _
 have hB0:Keep lo m W W0:=by rw [←hW0];exact Keep.alloc hnW _
 rw [hW0]
 clear hW0
 have d0:W0.cell? ⟨W.heap.size,0,none⟩=some (.int .i64 p):=bD.cell 0
 have d1:W0.cell? ⟨W.heap.size,1,none⟩=some (.int .i64 (walkAt p a s 0)):=bD.cell 1
 gi_wp2
 clear d0 d1
 gi_loopw [8] (fun i wr=>∃ k:Nat,k≤p∧i = .int .i64 k∧Hid (∃ o,J ((walkL p a s).take k) o wr∧FreshO o₀ o W∧some W.heap.size≠o)∧Hid (Blk wr W.heap.size 150 #[.int .i64 p,.int .i64 (walkAt p a s k)])∧Keep lo m W wr) (fun i _=>p - (intOf i).toNat)
 case atStart=>exact ⟨0,Nat.zero_le _,rfl,Lib.hid ⟨o₀,hJ0,.inl rfl,fun e=>by have:=ho₀ _ e.symm;omega⟩,Lib.hid bD,hB0⟩
 case round =>
  obtain ⟨k,hk,rfl,HJ,HD,hB⟩:=hrel
  obtain ⟨o,hj,hfo,hno⟩:=HJ.out
  have HJ2:=Lib.hid hj
  by_cases hlt:k<p
  · have hdec:decide ((k:Int)<(p:Int))=true:=by simp;omega
    have HT:=Lib.hid (walkL_next p a s k hlt)
    have hx:=walkAt_lt p hp a s k
    have HN:=Lib.hid (walkAt_next p a s k)
    have hD:=HD.out
    have e0:wr.cell? ⟨W.heap.size,0,none⟩=some (.int .i64 p):=hD.cell 0
    have e1:wr.cell? ⟨W.heap.size,1,none⟩=some (.int .i64 (walkAt p a s k)):=hD.cell 1
    have hsz:=hD.lt
    have HY:=Lib.hid (hY _ (walkAt p a s k) o wr hj ⟨hx.1,by omega⟩ (by rw [List.length_take,walkL_len];omega) (by omega))
    have HW:=Lib.hid (fun V=>with_any 136 _ plus_any enter_plus p (walkAt p a s k) s V (by omega) (by omega) hx.1 (by omega) s0 (by omega) (by omega) (by omega))
    clear hD HJ HJ2 hj
    simp only [HN.out] at HW
    generalize walkAt p a s k=x at *
    generalize hyy:walkAt p a s (k+1)=y at *
    have HYY:=Lib.hid hyy
    clear hyy
    obtain ⟨fn,tmps,assign,body,hy,hR⟩:=HY.out
    gi_wp2
    refine hR.mono ?_
    rintro e W3 ⟨o',hf3,hS3,(⟨rfl,hJ3,hk3⟩ | ⟨rfl,hJx3⟩)⟩
    all_goals have hfo':FreshO o₀ o' W:=hfo.trans (by omega) hf3
    all_goals have hno':some W.heap.size≠o':=(by rcases hf3 with rfl | ⟨b2,rfl,hb2⟩;exact hno;intro e;injection e with e;omega)
    · have hD3:Blk W3 W.heap.size 150 #[.int .i64 p,.int .i64 x]:=(hS3.2 W.heap.size (Nat.le_refl _) (by omega) hno).trans HD.out
      have hB3:=hB.trans hk3
      have g0:W3.cell? ⟨W.heap.size,0,none⟩=some (.int .i64 p):=hD3.cell 0
      have g1:W3.cell? ⟨W.heap.size,1,none⟩=some (.int .i64 x):=hD3.cell 1
      have g2:W3.cell? ⟨h,0,none⟩=some (.int .i64 s):=(hB3.blk bh hh1 hh).one
      have hl3:=hD3.lt
      gi_wp2_with (refine ⟨trivial,?_⟩;gi_at_call 135;refine (callsIn_wide.2 (HW.out _)).mono ?_;rintro e W4 ⟨rfl,hB4⟩;have hD4:=hD3.below hB4 hD3.lt;have i0:=hD4.cell 0;have i1:=hD4.cell 1;have j0:=hD4.frozen 0;have j1:=hD4.frozen 1;simp only [gz9] at i0 i1)
      go_roundw
      case rel =>
       refine ⟨k+1,by omega,by go_num,Lib.hid ?_,Lib.hid (by rw [HYY.out];exact (hD4.set_ 0 _).set_ 1 _),((hB3.trans (Keep.below hB4 (by have:=hB3.1;omega))).trans (Keep.setFar _ hnW _)).trans (Keep.setFar _ hnW _)⟩
       rw [HT.out]
       exact ⟨o',hJ _ o' W3 _ (some W.heap.size) hJ3 (grown_set (grown_set (grown_below hB4) 0 _) 1 _) (fun r e=>by cases e;exact ⟨Nat.le_refl _,hno'⟩),hfo',hno'⟩
      case measure=>simp [intOf];omega
    · gi_wp2
      rw [Exit.noGoto_normal]
      go_end0
      exact ⟨⟨_,rfl⟩,o',hfo',.inr ⟨_,by rw [←HT.out];exact List.take_prefix _ _,hJx3⟩⟩
  · obtain rfl:k=p:=by omega
    have hdec:decide ((k:Int)<(k:Int))=false:=by simp
    have HF:Hid (J (walkL k a s) o wr):=by have:=HJ2.out;rwa [List.take_of_length_le (by rw [walkL_len];omega)] at this
    gi_wp2
    rw [Exit.noGoto_normal]
    go_end0
    exact ⟨⟨_,rfl⟩,o,hfo,.inl ⟨_,rfl,HF.out⟩⟩

end Go.Proofs.YtkllhjhkcipkoaaGreatDoor.E

namespace Go.Proofs.YtkllhjhkcipkoaaGreatDoor.E
open Go.RowKit Go.Shelf Go.Proofs.YtkllhjhkcipkoaaGreatDoor.C

def WalkO (lo:Nat) (p:Int) (zs:List Int) (v:Value) (w:World):Prop :=
 ∃ gf lb,v = .func (.func gf) #[] lb∧(∀ args W,(callFunc gf args).run Tryz.prog W = .ok (.enter gf args) W) ∧
  ∀ n,1≤n→SeqO Fence.wide n Tryz.prog gf lb (fun x:Int=>#[.int .i64 x]) (fun x _=>0≤x∧x<p) (Keep lo (w.heap.size - lo)) (fun ys=>ys=zs) (fun pre=>pre <+: zs) zs.length w
theorem WalkO.less {lo lo':Nat} {p:Int} {zs:List Int} {v:Value} {w:World} (h:WalkO lo p zs v w) (hl:lo'≤lo) (hw:lo≤w.heap.size):WalkO lo' p zs v w:=by
 obtain ⟨gf,lb,e,eg,hg⟩:=h
 exact ⟨gf,lb,e,eg,fun n hn l J Jx W o₀ hW ho₀ hJ hJx hr1 hr2 hY h0=>hg n hn l J Jx W o₀ hW ho₀ hJ hJx hr1 hr2 (fun pre x o W1 hj hok hl' hs=>(hY pre x o W1 hj hok hl' hs).mono fun _ _ ⟨o',hf,hS,h⟩=>⟨o',hf,hS,h.imp (fun ⟨h1,h2,h3⟩=>⟨h1,h2,h3.less hl (by omega)⟩) id⟩) h0⟩
theorem walk_ofO (p a s:Int) (hf:Fine p [a]) (w:World) (h1:-9223372036854775808≤s) (h2:s≤9223372036854775807) :
 Calls Tryz.prog 110 #[.agg #[.int .i64 p,.int .i64 a],.int .i64 s] w fun e w'=>∃ v,e = .returned v∧WalkO w.heap.size p (walkN p a s) v w'∧Below w.heap.size w w':=by
 obtain ⟨hp,a0,a1⟩:=fine_one.1 hf
 have hb:=prm_bounds hp
 rw [walkN_yes hf]
 obtain ⟨P,rfl⟩:∃ P:Nat,p=(P:Int):=⟨p.toNat,by omega⟩
 refine (walk_any P (by omega) (by omega) a s w h1 h2).mono ?_
 rintro e w' ⟨g,h,rfl,bg,bh,hh,hB⟩
 refine ⟨_,rfl,⟨_,_,rfl,enter_walk1,?_⟩,hB⟩
 intro n hn l J Jx W o₀ hW ho₀ hJ hJx hr1 hr2 hY h0
 have hlt:=bh.lt
 have hsz:=hB.size
 refine walk1_inO n hn l g h w.heap.size (w'.heap.size - w.heap.size) P (by omega) (by omega) a (s % P) a0 (by omega) (Int.emod_nonneg _ (by omega)) (Int.emod_lt_of_pos _ (by omega)) hh (by omega) W (Nat.le_trans (by omega) hW.size) J Jx o₀ ho₀ hJ ?_ (bg.below hW bg.lt) (bh.below hW bh.lt) h0
 intro pre x o W1 hj hx hl hs
 exact hY pre x o W1 hj hx (by rw [Int.toNat_natCast,walkL_len];exact hl) hs

theorem modWalk_anyO (p a s:Int) (hf:Fine p [a]) (w:World) (hL:Laid w) (h1:-9223372036854775808≤s) (h2:s≤9223372036854775807) :
 Calls Tryz.prog 93 #[.int .i64 p,.int .i64 a,.int .i64 s] w fun e w'=>∃ v,e = .returned v∧WalkO w.heap.size p (walkN p a s) v w'∧Below w.heap.size w w':=by
 have HA:=Lib.hid (ask_one p a w hL)
 have HW:=Lib.hid (fun W=>walk_ofO p a s hf W h1 h2)
 have HF:=Lib.hid hf
 clear hf
 go_enter Tryz.func93,Tryz.ntmps93
 go_wp2_with (first
  | (go_at_call 96;refine HA.out.mono ?_;rintro e w1 ⟨h1,_,hB⟩;obtain rfl:=h1 HF.out)
  | (go_at_call 109;refine (sum_any _ _ _).mono ?_;rintro e w2 ⟨rfl,hB2⟩)
  | (go_at_call 110;refine (HW.out _).mono ?_;rintro e w3 ⟨v,rfl,hO,hB3⟩))
 go_ret
 exact ⟨_,rfl,hO.less (below_in (below_in ((Below.refl _ w).alloc (Nat.le_refl _) _) hB) hB2).size hB3.size,below_in (below_in (below_in ((Below.refl _ w).alloc (Nat.le_refl _) _) hB) hB2) hB3⟩
end Go.Proofs.YtkllhjhkcipkoaaGreatDoor.E

namespace Go.Proofs.YtkllhjhkcipkoaaGreatDoor.E
open Go.RowKit Go.Shelf Go.Proofs.YtkllhjhkcipkoaaGreatDoor.C
attribute [local go_sem] Oper.semAt_some

theorem OwnS.far {w:World} {base:Nat} {v:Value} {l:List Value} (h:OwnS w base v l) {p:Addr} (hp:some p.block≠v.ownBlock) (u:Value):OwnS (w.setCell p u) base v l:=by
 refine ⟨h.1,?_⟩
 rcases h.2 with h1 | ⟨g,cap,cur,e,h2,hg,rest⟩
 · exact .inl h1
 · exact .inr ⟨g,cap,cur,e,h2,(Below.heap_setCell w p u g (fun e2=>hp (by rw [e,←e2];rfl))).trans hg,rest⟩
theorem OwnS.kept {w w':World} {base:Nat} {v:Value} {l:List Value} (h:OwnS w base v l) {row:Option Nat} (hg:w.grownBy w' row) (hne:v.ownBlock=none∨v.ownBlock≠row):OwnS w' base v l:=World.ownsRow.kept h hg hne
theorem OwnS.below {w w':World} {base:Nat} {v:Value} {l:List Value} (h:OwnS w base v l) (hb:Below w.heap.size w w'):OwnS w' base v l:=World.ownsRow.kept (row:=none) h (grown_below hb) (by cases v.ownBlock <;> simp)
theorem OwnS.less {w:World} {base base':Nat} {v:Value} {l:List Value} (h:OwnS w base v l) (hb:base'≤base):OwnS w base' v l :=
 ⟨h.1,h.2.imp id fun ⟨g,cap,cur,e,h2,rest⟩=>⟨g,cap,cur,e,by omega,rest⟩⟩
theorem OwnS.rowO {w:World} {base:Nat} {v:Value} {l:List Value} (h:OwnS w base v l):RowO v.ownBlock w:=fun b e=>by
 rcases h.2 with ⟨rfl,_⟩ | ⟨g,cap,cur,rfl,_,hg,_⟩
 · cases e
 · injection e with e
   subst e
   exact ⟨_,_,_,hg⟩
theorem OwnS.own_le {w:World} {base:Nat} {v:Value} {l:List Value} (h:OwnS w base v l) (b:Nat) (e:v.ownBlock=some b):base≤b:=by
 rcases h.2 with ⟨rfl,_⟩ | ⟨g,cap,cur,rfl,h2,hg,_⟩
 · cases e
 · injection e with e
   subst e
   exact h2

end Go.Proofs.YtkllhjhkcipkoaaGreatDoor.E

namespace Go.Proofs.YtkllhjhkcipkoaaGreatDoor.E
open Go.RowKit Go.Shelf Go.Proofs.YtkllhjhkcipkoaaGreatDoor.C
attribute [local go_sem] Oper.semAt_some

def cellOf_ (css:List (List (List UInt8))) (c r:Nat):List UInt8:=(css[c]?.getD [])[r]?.getD []
theorem togOk_cell {R:Nat} {css:List (List (List UInt8))} (h:TogOk R css) {c r:Nat} (hc:c<css.length) (hr:r<R):(cellOf_ css c r).length=(firstC css).length:=by
 obtain ⟨h1,h2,h3⟩:=h.2 c hc
 exact h3 r (by omega)
theorem diagOf_ok {p a:Int} {css:List (List (List UInt8))} (h:DataOk p css) (h0:0≤a) (h1:a<p):∀ l∈diagOf p a css,l.length=(firstC css).length:=by
 obtain ⟨hR,hl,ht⟩:=h
 intro l hl2
 unfold diagOf at hl2
 obtain ⟨x,hx,rfl⟩:=List.mem_map.1 hl2
 unfold diagAt at hx
 obtain ⟨i,hi,rfl⟩:=List.mem_map.1 hx
 obtain ⟨hi1,hi2⟩:=List.mem_filter.1 hi
 rw [List.mem_range] at hi1
 have hi3:=of_decide_eq_true hi2
 have hpp:=prm_bounds hR.2
 refine togOk_cell ht (by omega) ?_
 have:0≤(a - (i:Int)) % p:=Int.emod_nonneg _ (by omega)
 show ((a - (i:Int)) % p).toNat<(p - 1).toNat
 omega
theorem diagAt_pos0:∀ p∈prm,∀ a∈List.range p.toNat,0<(diagAt p (a:Int) p.toNat).length:=by decide +kernel
theorem diagOf_pos {p a:Int} {css:List (List (List UInt8))} (hp:p∈prm) (h0:0≤a) (h1:a<p):0<(diagOf p a css).length:=by
 have h:=diagAt_pos0 p hp a.toNat (List.mem_range.2 (by omega))
 rw [show ((a.toNat:Nat):Int)=a by omega] at h
 unfold diagOf
 rw [List.length_map]
 exact h
end Go.Proofs.YtkllhjhkcipkoaaGreatDoor.E

namespace Go.Proofs.YtkllhjhkcipkoaaGreatDoor.E
open Go.RowKit Go.Shelf Go.Proofs.YtkllhjhkcipkoaaGreatDoor.C

def xa (l:List UInt8):UInt8:=l.foldl (· ^^^ ·) 0
theorem xa_from:∀ (l:List UInt8) (z:UInt8),l.foldl (· ^^^ ·) z=z ^^^ xa l
 | [],z=>by simp [xa]
 | a :: l,z=>by
   unfold xa
   rw [List.foldl_cons,xa_from l,List.foldl_cons,xa_from l (0 ^^^ a)]
   simp [UInt8.xor_assoc]
theorem xa_nil:xa []=0:=rfl
theorem xa_cons (a:UInt8) (l:List UInt8):xa (a :: l)=a ^^^ xa l:=by
 show (a :: l).foldl (· ^^^ ·) 0 = _
 rw [List.foldl_cons,xa_from,UInt8.zero_xor]
theorem xa_append (a b:List UInt8):xa (a ++ b)=xa a ^^^ xa b:=by
 induction a with
 | nil=>simp [xa_nil]
 | cons x a ih=>rw [List.cons_append,xa_cons,xa_cons,ih,UInt8.xor_assoc]
theorem xa_perm {a b:List UInt8} (h:a.Perm b):xa a=xa b:=by
 induction h with
 | nil=>rfl
 | cons x _ ih=>rw [xa_cons,xa_cons,ih]
 | swap x y l=>rw [xa_cons,xa_cons,xa_cons,xa_cons,←UInt8.xor_assoc,←UInt8.xor_assoc,UInt8.xor_comm x y]
 | trans _ _ h1 h2=>exact h1.trans h2
theorem at_out (l:List UInt8) (j:Nat) (h:l.length≤j):at_ l j=0:=by
 unfold at_
 rw [List.getElem?_eq_none h]
 rfl
theorem ext_at {a b:List UInt8} (hl:a.length=b.length) (h:∀ j,at_ a j=at_ b j):a=b:=by
 rw [tab_of a,tab_of b,hl]
 exact tab_ext fun j _=>h j
theorem at_xorB (a b:List UInt8) (j:Nat) (h:b.length=a.length):at_ (xorB a b) j=at_ a j ^^^ at_ b j:=by
 rcases Nat.lt_or_ge j a.length with hj | hj
 · exact xorB_at a b j hj
 · rw [at_out _ _ (by rw [xorB_len];exact hj),at_out a j hj,at_out b j (by omega),UInt8.xor_self]
theorem at_xors (j:Nat):∀ (ls:List (List UInt8)) (z:List UInt8),(∀ l∈ls,l.length=z.length)→at_ (xors z ls) j=at_ z j ^^^ xa (ls.map (at_ · j))
 | [],z,_=>by simp [xors,xa_nil]
 | l :: ls,z,h=>by
   show at_ (xors (xorB z l) ls) j = _
   rw [at_xors j ls (xorB z l) (fun m hm=>by rw [xorB_len];exact h m (.tail _ hm)),at_xorB z l j (h l (.head _)),List.map_cons,xa_cons,UInt8.xor_assoc]
theorem at_zeros (n j:Nat):at_ (List.replicate n 0) j=0:=by
 unfold at_
 rw [List.getElem?_replicate]
 split <;> rfl
theorem at_upon {n:Nat} {ls:List (List UInt8)} (h:∀ l∈ls,l.length=n) (j:Nat):at_ (xors (List.replicate n 0) ls) j=xa (ls.map (at_ · j)):=by
 rw [at_xors j ls _ (fun l hl=>by rw [List.length_replicate];exact h l hl),at_zeros,UInt8.zero_xor]
theorem first_len {n:Nat} {ls:List (List UInt8)} (h0:0<ls.length) (h:∀ l∈ls,l.length=n):(ls[0]?.getD []).length=n:=by
 rw [List.getElem?_eq_getElem h0]
 exact h _ (List.getElem_mem h0)
theorem at_xorOf {n:Nat} {ls:List (List UInt8)} (h0:0<ls.length) (h:∀ l∈ls,l.length=n) (j:Nat):at_ (xorOf ls) j=xa (ls.map (at_ · j)):=by
 unfold xorOf
 rw [first_len h0 h]
 exact at_upon h j
theorem xorOf_len_of {n:Nat} {ls:List (List UInt8)} (h0:0<ls.length) (h:∀ l∈ls,l.length=n):(xorOf ls).length=n:=by
 rw [xorOf_len,first_len h0 h]

def by_ (css:List (List (List UInt8))) (j c r:Nat):UInt8:=at_ (cellOf_ css c r) j
def dg_ (p:Int) (css:List (List (List UInt8))) (j:Nat) (k:Int):UInt8:=xa ((diagAt p k p.toNat).map fun x=>by_ css j x.1 x.2)
def adjOf (p:Int) (css:List (List (List UInt8))):List UInt8:=xorOf (diagOf p (p - 1) css)
def rowsMade (R:Nat) (css:List (List (List UInt8))):List (List UInt8):=(List.range R).map fun r=>xorOf (rowOf css r)
def diagsMade (p:Int) (R:Nat) (css:List (List (List UInt8))):List (List UInt8):=(List.range R).map fun (r:Nat)=>xorOf ([adjOf p css] ++ diagOf p r css)
def encOf (p:Int) (css:List (List (List UInt8))):List (List (List UInt8)):=[rowsMade (p - 1).toNat css,diagsMade p (p - 1).toNat css]
section
variable {p:Int} {css:List (List (List UInt8))}
theorem dataOk_n (h:DataOk p css):css.length=p.toNat∧3≤p.toNat∧p.toNat≤17∧(p.toNat:Int)=p∧(p - 1).toNat=p.toNat - 1:=by
 have hpp:=prm_bounds h.1.2
 have:=h.2.1
 omega
theorem rowOf_ok (h:DataOk p css) {r:Nat} (hr:r<(p - 1).toNat):∀ l∈rowOf css r,l.length=(firstC css).length:=by
 intro l hl
 unfold rowOf at hl
 obtain ⟨cs,hcs,rfl⟩:=List.mem_map.1 hl
 obtain ⟨c,hc,rfl⟩:=List.getElem_of_mem hcs
 have:=togOk_cell h.2.2 hc hr
 unfold cellOf_ at this
 rwa [List.getElem?_eq_getElem hc] at this
theorem rowOf_pos (h:DataOk p css) (r:Nat):0<(rowOf css r).length:=by
 rw [rowOf_len]
 exact h.2.2.1
theorem at_row (h:DataOk p css) {r:Nat} (hr:r<(p - 1).toNat) (j:Nat):at_ (xorOf (rowOf css r)) j=xa ((List.range p.toNat).map fun c=>by_ css j c r):=by
 rw [at_xorOf (rowOf_pos h r) (rowOf_ok h hr)]
 have e:(rowOf css r).map (at_ · j)=(List.range p.toNat).map fun c=>by_ css j c r:=by
  apply List.ext_getElem
  · rw [List.length_map,rowOf_len,List.length_map,List.length_range,(dataOk_n h).1]
  · intro c h1 h2
    rw [List.length_map,rowOf_len] at h1
    rw [List.getElem_map,List.getElem_map,List.getElem_range]
    unfold by_ cellOf_ rowOf
    rw [List.getElem_map,List.getElem?_eq_getElem h1]
    rfl
 rw [e]
theorem map_diag (j:Nat) (k:Int):(diagOf p k css).map (at_ · j)=(diagAt p k p.toNat).map fun x=>by_ css j x.1 x.2:=by
 unfold diagOf
 rw [List.map_map]
 rfl
theorem at_diag (h:DataOk p css) {k:Int} (h0:0≤k) (h1:k<p) (j:Nat):at_ (xorOf (diagOf p k css)) j=dg_ p css j k:=by
 rw [at_xorOf (diagOf_pos h.1.2 h0 h1) (diagOf_ok h h0 h1),map_diag]
 rfl
theorem adjOf_len (h:DataOk p css):(adjOf p css).length=(firstC css).length:=by
 have:=dataOk_n h
 exact xorOf_len_of (diagOf_pos h.1.2 (by omega) (by omega)) (diagOf_ok h (by omega) (by omega))
theorem adjDiag_ok (h:DataOk p css) {r:Nat} (hr:(r:Int)<p):∀ l∈[adjOf p css] ++ diagOf p r css,l.length=(firstC css).length:=by
 intro l hl
 rcases List.mem_append.1 hl with hl | hl
 · rw [List.mem_singleton.1 hl]
   exact adjOf_len h
 · exact diagOf_ok h (by omega) hr l hl
theorem at_diagMade (h:DataOk p css) {r:Nat} (hr:(r:Int)<p) (j:Nat):at_ (xorOf ([adjOf p css] ++ diagOf p r css)) j=dg_ p css j (p - 1) ^^^ dg_ p css j r:=by
 have:=dataOk_n h
 rw [at_xorOf (by simp) (adjDiag_ok h hr),List.map_append,List.map_singleton,xa_append,xa_cons,xa_nil,UInt8.xor_zero,map_diag]
 unfold adjOf
 rw [at_diag h (by omega) (by omega)]
 rfl
theorem rowsMade_at (h:DataOk p css) {r:Nat} (hr:r<(p - 1).toNat):(rowsMade (p - 1).toNat css)[r]?.getD []=xorOf (rowOf css r):=by
 unfold rowsMade
 rw [List.getElem?_map,List.getElem?_range hr]
 rfl
theorem diagsMade_at (h:DataOk p css) {r:Nat} (hr:r<(p - 1).toNat):(diagsMade p (p - 1).toNat css)[r]?.getD []=xorOf ([adjOf p css] ++ diagOf p r css):=by
 unfold diagsMade
 rw [List.getElem?_map,List.getElem?_range hr]
 rfl
theorem rowsMade_len (R:Nat):(rowsMade R css).length=R:=by unfold rowsMade;simp
theorem diagsMade_len (R:Nat):(diagsMade p R css).length=R:=by unfold diagsMade;simp
theorem row_len (h:DataOk p css) {r:Nat} (hr:r<(p - 1).toNat):(xorOf (rowOf css r)).length=(firstC css).length:=xorOf_len_of (rowOf_pos h r) (rowOf_ok h hr)
theorem diag_len (h:DataOk p css) {r:Nat} (hr:(r:Int)<p):(xorOf ([adjOf p css] ++ diagOf p r css)).length=(firstC css).length:=xorOf_len_of (by simp) (adjDiag_ok h hr)
end
end Go.Proofs.YtkllhjhkcipkoaaGreatDoor.E

namespace Go.Proofs.YtkllhjhkcipkoaaGreatDoor.E
open Go.RowKit Go.Shelf Go.Proofs.YtkllhjhkcipkoaaGreatDoor.C

theorem sameCol_any {B B':Nat} (v1 v2:Value) (ls os:List (List UInt8)) (w:World) (h1:Many B w v1 ls) (h2:Many B' w v2 os) (hls:ls.length≤100000) (hos:os.length≤100000) :
 Calls Tryz.prog 21 #[v1,v2] w fun e w'=>e = .returned (.bool (decide (ls=os)))∧Below w.heap.size w w':=by
 have H:=Lib.hid (rsame_any v1 v2 ls os w h1 h2 (by omega) (by omega))
 obtain ⟨A1,cap1,rfl,_,_⟩:=id h1
 obtain ⟨A2,cap2,rfl,_,_⟩:=id h2
 generalize decide (ls=os)=d at *
 go_enter Tryz.func21,Tryz.ntmps21
 go_wp2_with (go_at_call 44;refine H.out.mono ?_;rintro e w2 ⟨rfl,hB2⟩)
 go_ret
 exact ⟨rfl,hB2⟩
theorem same3_iff (ls os:List (List (List UInt8))):ls=os↔ls.length=os.length∧∀ j,j<ls.length→(ls[j]?.getD [])=(os[j]?.getD []):=by
 constructor
 · rintro rfl
   exact ⟨rfl,fun _ _=>rfl⟩
 · rintro ⟨h1,h2⟩
   apply List.ext_getElem h1
   intro j hj hj2
   have:=h2 j hj
   rwa [List.getElem?_eq_getElem hj,List.getElem?_eq_getElem hj2] at this
theorem same6_any {B B':Nat} (v1 v2:Value) (ls os:List (List (List UInt8))) (w:World) (h1:Cols B w v1 ls) (h2:Cols B' w v2 os) (hB1:B≤w.heap.size) (hB2:B'≤w.heap.size) (hls:∀ j:Nat,(ls[j]?.getD []).length≤1000) (hos:∀ j:Nat,(os[j]?.getD []).length≤1000) (hl1:ls.length≤1000) (hl2:os.length≤1000) :
 Calls Tryz.prog 15 #[v1,v2] w fun e w'=>e = .returned (.bool (decide (ls=os)))∧Below w.heap.size w w':=by
 obtain ⟨A1,cap1,rfl,_,_⟩:=id h1
 obtain ⟨A2,cap2,rfl,_,_⟩:=id h2
 have hb:=same3_iff ls os
 have HLS:=Lib.hid hls
 have HOS:=Lib.hid hos
 clear hls hos
 by_cases hl:ls.length=os.length
 · have e0:((ls.length:Int) != (os.length:Int))=false:=by rw [hl];simp
   have HL:=Lib.hid hl
   have HB:=Lib.hid hb
   clear hb hl
   go_enter Tryz.func15,Tryz.ntmps15
   go_wp2
   go_loopw [5] (fun i wr=>∃ k:Nat,k≤ls.length∧i = .int .i64 k∧Hid (∀ j,j<k→(ls[j]?.getD [])=(os[j]?.getD []))∧Below w.heap.size w wr) (fun i _=>ls.length - (intOf i).toNat)
   case atStart=>exact ⟨0,Nat.zero_le _,rfl,(Lib.hid fun j hj=>absurd hj (by omega)),Below.refl _ _⟩
   case round =>
    obtain ⟨k,hk,rfl,HA,hBr⟩:=hrel
    by_cases hlt:k<ls.length
    · have hdec:decide ((k:Int)<(ls.length:Int))=true:=by simp;omega
      obtain ⟨b1,off1,cq1,e1,_,hb1,hrow1⟩:=(h1.below (hBr.mono hB1)).at_ (by omega)
      injection e1 with e1 _ e1c
      subst e1
      subst e1c
      obtain ⟨u1,hc1,hm1⟩:=hrow1 k hlt
      obtain ⟨b2,off2,cq2,e2,_,hb2,hrow2⟩:=(h2.below (hBr.mono hB2)).at_ (by have:=HL.out;omega)
      injection e2 with e2 _ e2c
      subst e2
      subst e2c
      obtain ⟨u2,hc2,hm2⟩:=hrow2 k (by have:=HL.out;omega)
      have i2:(k:Int)<(os.length:Int):=by have:=HL.out;omega
      have HS:=Lib.hid (fun (V:World) (hV:Below wr.heap.size wr V)=>sameCol_any u1 u2 _ _ V (hm1.below (hV.mono (Nat.le_trans hB1 hBr.size))) (hm2.below (hV.mono (Nat.le_trans hB2 hBr.size))) (by have:=HLS.out k;omega) (by have:=HOS.out k;omega))
      have HN:=Lib.hid (fun (h:¬ (ls[k]?.getD [])=(os[k]?.getD []))=>(fun h2=>h ((HB.out.1 h2).2 k hlt):¬ ls=os))
      have HT:=Lib.hid (fun (h:(ls[k]?.getD [])=(os[k]?.getD []))=>all_next (P:=fun j=>(ls[j]?.getD [])=(os[j]?.getD [])) HA.out h)
      obtain ⟨A3,cap3,rfl,_,_⟩:=id hm1
      obtain ⟨A4,cap4,rfl,_,_⟩:=id hm2
      clear hrow1 hrow2 hm1 hm2
      generalize ls[k]?.getD []=x at *
      generalize os[k]?.getD []=y at *
      by_cases hxy:x=y
      · rw [decide_eq_true hxy] at HS
        have HT2:=Lib.hid (HT.out hxy)
        clear hxy HT HN
        go_wp2
        go_region_held3 (fun U=>U.cell? ⟨b1,off1+k,none⟩=some (.slice A3 x.length cap3)∧U.cell? ⟨b2,off2+k,none⟩=some (.slice A4 y.length cap4)) (first | exact ⟨hc1,hc2⟩ | exact ⟨(hBy.cell (p:=⟨b1,off1+k,none⟩) (Nat.lt_of_lt_of_le hb1 (Nat.le_trans hB1 hBr.size))).trans hc1,(hBy.cell (p:=⟨b2,off2+k,none⟩) (Nat.lt_of_lt_of_le hb2 (Nat.le_trans hB2 hBr.size))).trans hc2⟩) (first | (go_at_call 21;refine (HS.out _ ?_).mono ?_;first | exact Below.refl _ _ | exact (Below.refl _ _).drew;rintro e w2 ⟨rfl,hBx⟩;have hBy:Below wr.heap.size wr w2:=(by first | exact hBx | exact Below.undrew hBx)))
        all_goals go_wp2
        all_goals go_roundw
        case rel=>exact ⟨k+1,by omega,by go_num,HT2,below_in hBr hBy⟩
        case measure=>simp [intOf];omega
      · rw [decide_eq_false hxy] at HS
        have HF:=Lib.hid (decide_eq_false (HN.out hxy))
        clear hxy HT HN
        go_wp2
        go_region_held3 (fun U=>U.cell? ⟨b1,off1+k,none⟩=some (.slice A3 x.length cap3)∧U.cell? ⟨b2,off2+k,none⟩=some (.slice A4 y.length cap4)) (first | exact ⟨hc1,hc2⟩ | exact ⟨(hBy.cell (p:=⟨b1,off1+k,none⟩) (Nat.lt_of_lt_of_le hb1 (Nat.le_trans hB1 hBr.size))).trans hc1,(hBy.cell (p:=⟨b2,off2+k,none⟩) (Nat.lt_of_lt_of_le hb2 (Nat.le_trans hB2 hBr.size))).trans hc2⟩) (first | (go_at_call 21;refine (HS.out _ ?_).mono ?_;first | exact Below.refl _ _ | exact (Below.refl _ _).drew;rintro e w2 ⟨rfl,hBx⟩;have hBy:Below wr.heap.size wr w2:=(by first | exact hBx | exact Below.undrew hBx)))
        all_goals go_wp2
        all_goals go_ret
        all_goals exact ⟨ret_bool HF.out.symm,below_in hBr hBy⟩
    · obtain rfl:k=ls.length:=by omega
      have e1:decide ((ls.length:Int)<(ls.length:Int))=false:=by simp
      go_wp2
      go_ret
      exact ⟨ret_bool (decide_eq_true (HB.out.2 ⟨HL.out,HA.out⟩)).symm,hBr⟩
 · have e0:((ls.length:Int) != (os.length:Int))=true:=by rw [bne_iff_ne];omega
   have hbf:¬ ls=os:=fun h=>hl (hb.1 h).1
   rw [decide_eq_false hbf]
   go_enter Tryz.func15,Tryz.ntmps15
   go_wp2
   go_ret
   exact ⟨rfl,Below.refl _ _⟩
end Go.Proofs.YtkllhjhkcipkoaaGreatDoor.E

namespace Go.Proofs.YtkllhjhkcipkoaaGreatDoor.E
open Go.RowKit Go.Shelf Go.Proofs.YtkllhjhkcipkoaaGreatDoor.C

structure Rep (α:Type) where
 R:(Nat→Prop)→World→Value→α→Prop
 imp:∀ {P Q:Nat→Prop} {W:World} {v:Value} {x:α},R P W v x→(∀ b,P b→Q b)→R Q W v x
 keep:∀ {P:Nat→Prop} {W W':World} {v:Value} {x:α},R P W v x→Keeps P W W'→R P W' v x
 one:∀ {P:Nat→Prop} {W:World} {v:Value} {x:α},R P W v x→v.oneCell'=true
def bytesR:Rep (List UInt8) where
 R:=BytesP
 imp:=BytesP.imp
 keep:=BytesP.keep
 one:=fun ⟨_,_,e,_⟩=>by rw [e];rfl
def SliceP {α:Type} (r:Rep α) (d:α) (P:Nat→Prop) (W:World) (v:Value) (xs:List α):Prop :=
 ∃ A cap,v = .slice A xs.length cap∧xs.length≤cap∧(0<xs.length→∃ b off,A=some ⟨b,off,none⟩∧P b∧∀ j,j<xs.length→∃ u,W.cell? ⟨b,off+j,none⟩=some u∧r.R P W u (xs[j]?.getD d))
section
variable {α:Type} {r:Rep α} {d:α} {P Q:Nat→Prop} {W W':World} {v:Value} {xs:List α}
theorem SliceP.imp (h:SliceP r d P W v xs) (hq:∀ b,P b→Q b):SliceP r d Q W v xs:=by
 obtain ⟨A,cap,e,hc,hA⟩:=h
 refine ⟨A,cap,e,hc,fun hp=>?_⟩
 obtain ⟨b,off,e2,hb,hcell⟩:=hA hp
 exact ⟨b,off,e2,hq b hb,fun j hj=>by obtain ⟨u,h1,h2⟩:=hcell j hj;exact ⟨u,h1,r.imp h2 hq⟩⟩
theorem SliceP.keep (h:SliceP r d P W v xs) (hk:Keeps P W W'):SliceP r d P W' v xs:=by
 obtain ⟨A,cap,e,hc,hA⟩:=h
 refine ⟨A,cap,e,hc,fun hp=>?_⟩
 obtain ⟨b,off,e2,hb,hcell⟩:=hA hp
 exact ⟨b,off,e2,hb,fun j hj=>by obtain ⟨u,h1,h2⟩:=hcell j hj;exact ⟨u,(World.cell?_of_block (hk b hb)).trans h1,r.keep h2 hk⟩⟩
end
def sliceR {α:Type} (r:Rep α) (d:α):Rep (List α) where
 R:=SliceP r d
 imp:=SliceP.imp
 keep:=SliceP.keep
 one:=fun ⟨_,_,e,_⟩=>by rw [e];rfl
def manyR:Rep (List (List UInt8)):=sliceR bytesR []
def colsR:Rep (List (List (List UInt8))):=sliceR manyR []
theorem manyR_iff {B:Nat} {W:World} {v:Value} {ls:List (List UInt8)}:manyR.R (·<B) W v ls↔Many B W v ls:=Iff.rfl
theorem colsR_iff {B:Nat} {W:World} {v:Value} {css:List (List (List UInt8))}:colsR.R (·<B) W v css↔Cols B W v css:=Iff.rfl
theorem Rep.below {α:Type} (r:Rep α) {P:Nat→Prop} {B:Nat} {W W':World} {v:Value} {x:α} (h:r.R P W v x) (hP:∀ b,P b→b<B) (hb:Below B W W'):r.R P W' v x:=r.keep h fun b hp=>hb.block b (hP b hp)

def RowG {α:Type} (r:Rep α) (t:TypeId) (d:α) (Q:Nat→Prop) (W:World) (base:Nat) (v:Value) (xs:List α):Prop :=
 ∃ us:List Value,W.ownsRow base t 1 v us.length us∧us.length=xs.length∧∀ (j:Nat) (u:Value),us[j]?=some u→r.R (fun b=>b<W.heap.size∧some b≠v.ownBlock∧Q b) W u (xs[j]?.getD d)
section
variable {α:Type} {r:Rep α} {t:TypeId} {d:α} {Q:Nat→Prop} {W W':World} {base:Nat} {v:Value} {xs:List α}
theorem RowG.nil (r:Rep α) (t:TypeId) (d:α) (Q:Nat→Prop) (W:World) (base:Nat):RowG r t d Q W base (.slice none 0 0) [] :=
 ⟨[],World.ownsRow_nil W base t 1,rfl,fun j u h=>by cases h⟩
theorem RowG.own_le (h:RowG r t d Q W base v xs) (k:Nat) (e:v.ownBlock=some k):base≤k:=by
 obtain ⟨us,ho,_⟩:=h
 exact (World.ownsRow.lt ho k e).1
theorem RowG.kept (h:RowG r t d Q W base v xs) {row:Option Nat} (hg:W.grownBy W' row) (hne:v.ownBlock=none∨v.ownBlock≠row) (hQ:∀ b,Q b→some b≠row):RowG r t d Q W' base v xs:=by
 obtain ⟨us,ho,hn,hr⟩:=h
 refine ⟨us,World.ownsRow.kept ho hg hne,hn,fun j u hu=>?_⟩
 exact r.imp (r.keep (hr j u hu) fun b hb=>hg.block b hb.1 (hQ b hb.2.2)) fun b hb=>⟨Nat.lt_of_lt_of_le hb.1 hg.size,hb.2⟩
theorem RowG.below (h:RowG r t d Q W base v xs) (hb:Below W.heap.size W W'):RowG r t d Q W' base v xs :=
 h.kept (row:=none) (grown_below hb) (by cases v.ownBlock <;> simp) (fun b _=>by simp)
theorem RowG.push (i:TypeInfo) (hi:Tryz.prog.info? t=some i) (hz:i.zero=some (.slice none 0 0)) (h1:i.size=1) (h24:i.bytes=24) (T ty:TypeId) (hT:Tryz.prog.underlying T=some (.slice t))
 (h:RowG r t d Q W base v xs) (g:Nat) (tg:TypeId) (u:Value) (x:α) (hg:Blk W g tg #[u]) (hu:r.R (fun b=>b<W.heap.size∧some b≠v.ownBlock∧Q b) W u x) (hlen:xs.length≤100000) (hbase:base≤W.heap.size) :
 ∃ v' w',(Builtin.append_ #[T,T] ty #[v,.slice (some ⟨g,0,none⟩) 1 1]).run Tryz.prog W = .ok v' w'∧RowG r t d Q w' base v' (xs ++ [x])∧W.grownBy w' v.ownBlock∧(v'.ownBlock=v.ownBlock∨v'.ownBlock=some W.heap.size):=by
 obtain ⟨us,ho,hn,hr⟩:=h
 obtain ⟨v',w',hrun,o1,o2,_,o3⟩:=run_append_own_at (P:=Tryz.prog) W base T ty t i (.slice none 0 0) 1 24 hT hi hz h1 h24 rfl (by omega) v us.length us ho ⟨g,0,none⟩ 1 1 [u] rfl
  (by intro j y hy
      rw [addr_add,Nat.zero_add,hg.cell j,List.getElem?_toArray]
      exact hy) (by intro y hy;rw [List.mem_singleton.1 hy];exact r.one hu) (by unfold maxLen;omega) (by omega) hbase
 have hk:∀ {y:Value} {z:α},r.R (fun b=>b<W.heap.size∧some b≠v.ownBlock∧Q b) W y z→r.R (fun b=>b<w'.heap.size∧some b≠v'.ownBlock∧Q b) w' y z:=fun {y z} hy =>
  r.imp (r.keep hy fun b hb=>o2.block b hb.1 hb.2.1) fun b hb=>⟨Nat.lt_of_lt_of_le hb.1 o2.size,by
   rcases o3 with e | e
   · rw [e];exact hb.2.1
   · rw [e];intro e2;injection e2 with e2;have:=hb.1;omega,hb.2.2⟩
 refine ⟨v',w',hrun,⟨us ++ [u],by rw [List.length_append];exact o1,by rw [List.length_append,List.length_append,hn];rfl,fun j y hy=>?_⟩,o2,o3⟩
 rcases Nat.lt_or_ge j us.length with hj | hj
 · rw [List.getElem?_append_left hj] at hy
   rw [List.getElem?_append_left (by omega)]
   exact hk (hr j y hy)
 · rw [List.getElem?_append_right hj] at hy
   rw [List.getElem?_append_right (by omega),←hn]
   have hj0:j - us.length=0:=by
    rcases Nat.eq_zero_or_pos (j - us.length) with h0 | h0
    · exact h0
    · rw [List.getElem?_eq_none (by simp;omega)] at hy;cases hy
   rw [hj0] at hy ⊢
   cases hy
   exact hk hu
theorem RowG.slice (h:RowG r t d Q W base v xs) {S:Nat→Prop} (hS:∀ b,b<W.heap.size→(Q b∨base≤b)→S b):SliceP r d S W v xs:=by
 obtain ⟨us,ho,hn,hr⟩:=h
 rcases Nat.eq_zero_or_pos us.length with h0 | h0
 · rcases ho.2 with ⟨rfl,_⟩ | ⟨g,cap,cur,rfl,_,hg,hnc,_⟩
   · exact ⟨none,0,by rw [←hn,h0],by omega,fun hp=>by omega⟩
   · exact ⟨some ⟨g,0,none⟩,cap,by rw [←hn],by omega,fun hp=>by omega⟩
 · have hcp:∀ g cap,v = .slice (some ⟨g,0,none⟩) us.length cap→us.length≤cap:=fun g cap e=>by
    rcases ho.2 with ⟨_,h1⟩ | ⟨g2,cap2,cur,e2,_,_,hnc,_⟩
    · omega
    · rw [e] at e2
      injection e2 with _ _ e3
      omega
   obtain ⟨g,cap,e,hg,hg1⟩:=World.ownsRow.form ho h0
   have hcap:=hcp g cap e
   subst e
   refine ⟨_,cap,by rw [←hn],by rw [←hn];exact hcap,fun _=>⟨g,0,rfl,hS g (by omega) (.inr hg),fun j hj=>?_⟩⟩
   have hj2:j<us.length:=by omega
   refine ⟨us[j],?_,r.imp (hr j us[j] (List.getElem?_eq_getElem hj2)) fun b hb=>hS b hb.1 (.inl hb.2.2)⟩
   rw [Nat.zero_add,World.ownsRow.cellAt ho j (by omega),List.getElem?_eq_getElem hj2]
end
theorem Tryz.infoCol:(Tryz.prog.info? 41).map (fun i=>(i.zero,i.size,i.bytes))=some (some (.slice none 0 0),1,24):=by kernel_rfl
def RowM:=RowG bytesR 60 []
def RowC:=RowG manyR 41 []
section
variable {Q:Nat→Prop} {W W':World} {base:Nat} {v:Value}
theorem RowM.many {ls:List (List UInt8)} (h:RowM Q W base v ls) {S:Nat→Prop} (hS:∀ b,b<W.heap.size→(Q b∨base≤b)→S b):manyR.R S W v ls:=RowG.slice h hS
theorem RowC.cols {css:List (List (List UInt8))} (h:RowC Q W base v css):Cols W.heap.size W v css:=RowG.slice h fun b hb _=>hb
theorem wpList_pushC {T:TypeId} (w:World) {ops:Array Oper} {rest:List Oper} {o:Oper} {a:Act} {QQ:Exit→Act→World→Prop} (hgd:o.guard=none) (s x:Operand)
 (ho:o.op = .call { callee:=.builtin .append,args:=#[s,x],argTypes:=#[T,T] }) (hT:Tryz.prog.underlying T=some (.slice 41)) (css:List (List (List UInt8))) (hs:a.eval s=v) (h:RowC Q w base v css)
 (g:Nat) (tg:TypeId) (u:Value) (ls:List (List UInt8)) (hx:a.eval x = .slice (some ⟨g,0,none⟩) 1 1) (hg:Blk w g tg #[u]) (hu:manyR.R (fun b=>b<w.heap.size∧some b≠v.ownBlock∧Q b) w u ls) (hlen:css.length≤100000) (hbase:base≤w.heap.size)
 (hK:∀ v' w',RowC Q w' base v' (css ++ [ls])→w.grownBy w' v.ownBlock→(v'.ownBlock=v.ownBlock∨v'.ownBlock=some w.heap.size)→wpList Tryz.prog ops QQ rest (a.put o.dst v') w'):wpList Tryz.prog ops QQ (o :: rest) a w :=
 wpList_plain hgd fun K hK2=>by
  obtain ⟨i,hi,hz0,hz1,hz2⟩:=info_parts Tryz.infoCol
  obtain ⟨v',w',hrun,h1,h2,h3⟩:=RowG.push i hi hz0 hz1 hz2 T o.type hT h g tg u ls hg hu hlen hbase
  unfold Oper.wp execOp
  simp only [ho,resolve,invoke,builtin,Sem.run_bind,Sem.run_pure,Result.andThen_ok,List.map_toArray,List.map_cons,List.map_nil,hs,hx,hrun]
  exact hK2 _ _ (hK v' w' h1 h2 h3)
end
end Go.Proofs.YtkllhjhkcipkoaaGreatDoor.E
