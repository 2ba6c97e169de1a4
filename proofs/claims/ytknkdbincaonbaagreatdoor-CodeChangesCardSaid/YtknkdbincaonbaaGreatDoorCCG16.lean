/- -/
import Derived.Test.YtknkdbincaonbaaGreatDoorCCSA
import Derived.Test.YtknkdbincaonbaaGreatDoorCCG2
import Derived.Test.YtknkdbincaonbaaGreatDoorCCG15
set_option linter.unusedVariables false
set_option linter.unusedSimpArgs false
set_option maxRecDepth 100000
set_option maxHeartbeats 2000000
namespace Go.Proofs.YtknkdbincaonbaaGreatDoor.T
open Go.RowKit Go.Shelf

def FarO {β:Type} (B:Nat) (I:β→(Nat→Prop)→World→Prop):Prop :=
 ∀ s o X Y row,I s o X→X.grownBy Y row→(∀ r,row=some r→B≤r∧¬ o r)→I s o Y
def SinceO (B:Nat) (o:(Nat→Prop)) (X Y:World):Prop:=X.heap.size≤Y.heap.size∧∀ b,B≤b→b<X.heap.size→¬ o b→Y.heap[b]?=X.heap[b]?
def RowO (o:(Nat→Prop)) (X:World):Prop:=∀ b,o b→∃ cs t fr,X.heap[b]?=some (.cells cs t fr)
theorem RowO.lt {o:(Nat→Prop)} {X:World} (h:RowO o X):∀ b,o b→b<X.heap.size:=fun b e=>by
 obtain ⟨_,_,_,hc⟩:=h b e
 exact (Array.getElem?_eq_some_iff.1 hc).1
theorem RowO.ne {o:(Nat→Prop)} {X:World} (h:RowO o X) {D:Nat} {ds:Option (List Deferred)} (hD:X.heap[D]?=some (.deferred ds)):¬ o D:=fun e=>by
 obtain ⟨_,_,_,hc⟩:=h D e
 rw [hD] at hc
 cases hc
theorem rowO_none (X:World):RowO (fun _=>False) X:=fun b e=>e.elim
def FreshO (o o':(Nat→Prop)) (X:World):Prop:=∀ b,o' b→o b∨X.heap.size≤b
theorem FreshO.refl (o:Nat→Prop) (X:World):FreshO o o X:=fun _ h=>.inl h

section
variable {β:Type} {B k:Nat} {I I':β→(Nat→Prop)→World→Prop} {X Y Z:World} {o o' o'':(Nat→Prop)}
theorem FarO.and (h:FarO B I) (h':FarO B I'):FarO B (fun s o W=>I s o W∧I' s o W):=fun s o X Y row hs hg hr=>⟨h s o X Y row hs.1 hg hr,h' s o X Y row hs.2 hg hr⟩
theorem FarO.less {B':Nat} (h:FarO B I) (hB:B≤B'):FarO B' I:=fun s o X Y row hs hg hr=>h s o X Y row hs hg fun r e=>⟨by have:=(hr r e).1;omega,(hr r e).2⟩
theorem farO_pure (B:Nat) (p:β→(Nat→Prop)→Prop):FarO B (fun s o (_:World)=>p s o):=fun _ _ _ _ _ hs _ _=>hs
theorem farO_blk {g:Nat} (hg:g<B) (t:TypeId) (f:β→Array Value):FarO B (fun s (_:(Nat→Prop)) W=>Blk W g t (f s)):=fun _ _ _ _ _ hs hgr hr =>
 hs.grown hgr fun e=>by have:=(hr g e.symm).1;omega
theorem farO_below {n₀:Nat} {w:World} (hn:n₀≤w.heap.size) (hB:n₀≤B):FarO B (fun (_:β) (_:(Nat→Prop)) W=>Below n₀ w W):=fun _ _ _ _ _ hs hgr hr =>
 hs.grown hgr (Nat.le_trans hn hs.size) fun r e=>by have:=(hr r e).1;omega
theorem FarO.put (h:FarO B I) {s:β} {l:Nat} (hs:I s o X) (h1:B≤l) (h2:¬ o l) (ob:Obj):I s o (X.putObj l ob) :=
 h s o X _ (some l) hs (grownBy_putObj' X l ob) fun r e=>by injection e with e;subst e;exact ⟨h1,h2⟩
theorem FarO.lay (h:FarO B I) {s:β} (hs:I s o X) (ob:Obj):I s o (X.alloc ob):=h s o X _ none hs (World.grownBy_alloc X ob none) fun r e=>by cases e
theorem FarO.below (h:FarO B I) {s:β} (hs:I s o X) (hb:Below X.heap.size X Y):I s o Y:=h s o X Y none hs (grown_below hb) fun r e=>by cases e
theorem SinceO.refl (B:Nat) (o:(Nat→Prop)) (X:World):SinceO B o X X:=⟨Nat.le_refl _,fun _ _ _ _=>rfl⟩
theorem SinceO.below (hb:Below X.heap.size X Y):SinceO B o X Y:=⟨hb.size,fun b _ h2 _=>hb.block b h2⟩
theorem SinceO.less {B':Nat} (h:SinceO B o X Y) (hB:B≤B'):SinceO B' o X Y:=⟨h.1,fun b h1 h2=>h.2 b (by omega) h2⟩
theorem SinceO.trans (h:SinceO B o X Y) (hf:FreshO o o' X) (h':SinceO B o' Y Z):SinceO B o X Z:=⟨Nat.le_trans h.1 h'.1,fun b h1 h2 h3=>(h'.2 b h1 (by have:=h.1;omega) (fun e=>(hf b e).elim h3 (fun e=>by omega))).trans (h.2 b h1 h2 h3)⟩
theorem SinceO.trans_ (h:SinceO B o X Y) (h':SinceO B o Y Z):SinceO B o X Z:=h.trans (FreshO.refl _ _) h'
theorem FreshO.trans (h:FreshO o o' X) (hs:X.heap.size≤Y.heap.size) (h':FreshO o' o'' Y):FreshO o o'' X:=fun b e=>(h' b e).elim (fun e=>h b e) fun e=>.inr (by omega)
theorem FreshO.later (h:FreshO o o' Y) (hs:X.heap.size≤Y.heap.size):FreshO o o' X:=fun b e=>(h b e).imp id fun e=>by omega
theorem FreshO.ne (h:FreshO o o' X) {b:Nat} (hb:b<X.heap.size) (hne:¬ o b):¬ o' b:=fun e=>(h b e).elim hne fun e=>by omega
theorem SinceO.blk {g:Nat} {t:TypeId} {cs:Array Value} (h:SinceO B o X Y) (hb:Blk X g t cs) (hg:B≤g) (hne:¬ o g):Blk Y g t cs:=(h.2 g hg hb.lt hne).trans hb
theorem SinceO.keep {B' k:Nat} (h:SinceO B o X Y) (hB:B≤B') (hk:B'+k≤X.heap.size) (ho:∀ b,o b→b<B'∨B'+k≤b):Keep B' k X Y :=
 ⟨h.1,fun b h1 h2=>h.2 b (by omega) (by omega) (fun e=>by have:=ho b e;omega)⟩
end

def SeqT {α:Type} (F:Fence) (n:Nat) (P:Program) (gf:Nat) (lb:Array Value) (encs:α→Array Value) (Ok:List α→α→World→Prop) (Kp:World→World→Prop) (S Sp:List α→Prop) (N:Nat) (w:World):Prop :=
 ∀ (l:Nat) (J Jx:List α→(Nat→Prop)→World→Prop) (W:World) (o₀:(Nat→Prop)),Below w.heap.size w W→(∀ b,o₀ b→b<W.heap.size)→FarO W.heap.size J→FarO W.heap.size Jx→(∀ s o X,J s o X→RowO o X)→(∀ s o X,Jx s o X→RowO o X) →
  (∀ pre x o W1,J pre o W1→Ok pre x W1→pre.length<N→W.heap.size≤W1.heap.size→YieldAt F (n - 1) P l (encs x) W1 fun e W'=>∃ o',FreshO o o' W1∧SinceO W.heap.size o W1 W' ∧
   ((e = .returned (.bool true)∧J (pre ++ [x]) o' W'∧Kp W1 W')∨(e = .returned (.bool false)∧Jx (pre ++ [x]) o' W'∧Kp W1 W'))) →
  J [] o₀ W →
  CallsIn F n P gf (#[.func (.yield l) #[] #[]] ++ lb) W fun e W'=>(∃ v,e = .returned v)∧∃ o',FreshO o₀ o' W∧((∃ xs,S xs∧J xs o' W')∨(∃ pre,Sp pre∧Jx pre o' W'))

def postT {α:Type} (B:Nat) (Kp:World→World→Prop) (I:List α→(Nat→Prop)→World→Prop) (Ix:Code→List α→(Nat→Prop)→World→Prop) (xs:List α) (o:(Nat→Prop)) (W:World):Exit→Act→World→Prop
 | .normal,_,W'=>∃ o',FreshO o o' W∧SinceO B o W W'∧Kp W W'∧I xs o' W'
 | .ret,_,W'=>∃ o',FreshO o o' W∧SinceO B o W W'∧Kp W W'∧Ix .ret xs o' W'
 | .exit id,_,W'=>∃ o',FreshO o o' W∧SinceO B o W W'∧Kp W W'∧Ix (.exit id) xs o' W'
 | .goto t,_,W'=>∃ o',FreshO o o' W∧SinceO B o W W'∧Kp W W'∧Ix (.goto t) xs o' W'
 | .panic _,_,_=>False
 | .outgrown,_,_=>False
def HeldO (rec:LoopState→Option Code→Loop) (D:Nat) (st:LoopState) (pe:Option Code) (o:(Nat→Prop)) (X:World):Prop:=Held rec D st pe X∧¬ o D∧¬ o (D+1)
theorem _root_.Go.Proofs.YtknkdbincaonbaaGreatDoor.Held.lt0T {rec:LoopState→Option Code→Loop} {D:Nat} {st:LoopState} {pe:Option Code} {X:World} (h:Held rec D st pe X):D<X.heap.size:=by have:=h.lt;omega
theorem HeldO.since {rec:LoopState→Option Code→Loop} {D B:Nat} {st:LoopState} {pe:Option Code} {X Y:World} {o o':(Nat→Prop)} (h:HeldO rec D st pe o X) (hk:SinceO B o X Y) (hf:FreshO o o' X) (h1:B≤D):HeldO rec D st pe o' Y :=
 ⟨⟨(hk.2 _ (by omega) h.1.lt h.2.2).trans h.1.1,(hk.2 _ h1 h.1.lt0T h.2.1).trans h.1.2⟩,hf.ne h.1.lt0T h.2.1,hf.ne h.1.lt h.2.2⟩
theorem held_farO (rec:LoopState→Option Code→Loop) (D:Nat) (st:LoopState) (pe:Option Code) {β:Type}:FarO (D+2) (fun (_:β) o W=>HeldO rec D st pe o W):=fun _ o X Y _ hs hg hr =>
 ⟨⟨(hg.block _ hs.1.lt (fun e=>by have:=(hr _ e.symm).1;omega)).trans hs.1.1,(hg.block D hs.1.lt0T (fun e=>by have:=(hr _ e.symm).1;omega)).trans hs.1.2⟩,hs.2⟩
theorem HeldO.turn {rec:LoopState→Option Code→Loop} {D:Nat} {st:LoopState} {pe:Option Code} {o:(Nat→Prop)} {X:World} (h:HeldO rec D st pe o X) (st':LoopState) (pe':Option Code):HeldO rec D st' pe' o (X.putObj (D+1) (.loop (rec st' pe'))):=⟨h.1.turn st' pe',h.2⟩

theorem wpIn_rangeT {α:Type} {F:Fence} {n:Nat} {P:Program} {g:Operand} {ps:Array Tmp} {assign body:Code} {Q:Exit→Act→World→Prop} {a:Act} {w:World}
 (hro:F.round=none) (h1:1≤n) {gf:Nat} {lb:Array Value} (hg:a.eval g = .func (.func gf) #[] lb) (hFg:F.fn gf) (eg:∀ args w,(callFunc gf args).run P w = .ok (.enter gf args) w)
 {encs:α→Array Value} {Ok:List α→α→World→Prop} {Kp:World→World→Prop} {S Sp:List α→Prop} {N:Nat} {w0:World} (hseq:SeqT F (n - 1) P gf lb encs Ok Kp S Sp N w0)
 (hKt:∀ {A B C:World},Kp A B→Kp B C→Kp A C) (hKb:∀ (W:World) (l:Nat) (ob:Obj),w.heap.size≤l→l<W.heap.size→(∃ r,W.heap[l]?=some (.loop r))→Kp W (W.putObj l ob)) (hb0:Below w0.heap.size w0 w) (hps:∀ x,(encs x).size=ps.size)
 (I:List α→(Nat→Prop)→World→Prop) (Ix:Code→List α→(Nat→Prop)→World→Prop) (hI:FarO w.heap.size I) (hIx:∀ c,FarO w.heap.size (Ix c)) (o₀:(Nat→Prop)) (ho₀:∀ b,o₀ b→b<w.heap.size) (h0:I [] o₀ w)
 (Ax:List α→α→(Nat→Prop)→Act→World→Prop) (hAx:∀ (pre:List α) (x:α) (o:(Nat→Prop)) (a':Act) (W:World) (l:Nat) (ob:Obj) (r:Loop),W.heap[l]?=some (.loop r)→w.heap.size≤l→¬ o l→Ax pre x o a' W→Ax pre x o a' (W.putObj l ob))
 (hassign:∀ (l:Nat) (pre:List α) (x:α) (o:(Nat→Prop)) (W:World) (K:Act→World→Prop),w.heap.size≤W.heap.size→(∀ b,o b→b<W.heap.size)→I pre o W→Ok pre x W→(∀ a' W',SinceO w.heap.size o W W'→Kp W W'→I pre o W'→Ax pre x o a' W'→K a' W') →
  assign.wpIn (F.inRound l) (n - 1 - 1) P (Exit.then K (fun _ _ _=>False)) { tmps:=(ps.zip (encs x)).foldl (fun t (p,v)=>t.setIfInBounds p v) a.tmps,defers:=[] } W)
 (hrow:∀ pre o W,I pre o W→RowO o W) (hrowx:∀ c pre o W,Ix c pre o W→RowO o W)
 (hbody:∀ (l:Nat) (pre:List α) (x:α) (o:(Nat→Prop)) (a':Act) (W:World),w.heap.size≤W.heap.size→I pre o W→Ax pre x o a' W→pre.length<N →
  body.wpIn (F.inRound l) (n - 1 - 1) P (postT w.heap.size Kp I Ix (pre ++ [x]) o W) a' W)
 (hdone:∀ (D:Nat) (xs:List α) (o:(Nat→Prop)) (W:World),w.heap.size≤D→FreshO o₀ o w→S xs→I xs o W→W.heap[D]?=some (.deferred (some []))→¬ o D→Q .normal { a with defers:={ target:=.collected D,args:=#[] } :: a.defers } W)
 (hstop:∀ (D:Nat) (c:Code) (pre:List α) (o:(Nat→Prop)) (W:World),w.heap.size≤D→FreshO o₀ o w→Sp pre→Ix c pre o W→W.heap[D]?=some (.deferred (some []))→¬ o D→c.wpIn F n P Q { a with defers:={ target:=.collected D,args:=#[] } :: a.defers } W) :
 (Code.rangeFunc g ps assign body).wpIn F n P Q a w:=by
 refine wpIn_rangeFunc fun fn hfn=>?_
 rw [hro]
 obtain ⟨rec,hrec⟩:∃ rec:LoopState→Option Code→Loop,rec=fun st pe=>{ state:=st,pending:=pe,fn,tmps:=a.tmps,params:=ps,assign,body,defers:=w.heap.size }:=⟨_,rfl⟩
 obtain ⟨W1,hW1⟩:∃ W1,(w.alloc (.deferred (some []))).alloc (.loop (rec .ready none))=W1:=⟨_,rfl⟩
 have s1:W1.heap.size=w.heap.size+2:=by rw [←hW1];simp
 have n0:¬ o₀ w.heap.size:=fun e=>by have:=ho₀ _ e;omega
 have n1:¬ o₀ (w.heap.size+1):=fun e=>by have:=ho₀ _ e;omega
 have H1:HeldO rec w.heap.size .ready none o₀ W1:=by
  rw [←hW1]
  refine ⟨⟨?_,(Below.heap_alloc _ _ _ (by simp)).trans (World.alloc_heap_new w _)⟩,n0,n1⟩
  have:=World.alloc_heap_new (w.alloc (.deferred (some []))) (.loop (rec .ready none))
  rwa [World.size_alloc] at this
 have I1:I [] o₀ W1:=by rw [←hW1];exact hI.lay (hI.lay h0 _) _
 have B1:Below w0.heap.size w0 W1:=by
  rw [←hW1];exact hb0.trans ((((Below.refl _ w).alloc (Nat.le_refl _) _).alloc (by simp) _).mono hb0.size)
 refine ⟨w.heap.size+1,[{ target:=.collected w.heap.size,args:=#[] }],W1,{ target:=.fn (.func gf) lb,args:=#[.func (.yield (w.heap.size+1)) #[] #[]] },W1,gf,
  #[.func (.yield (w.heap.size+1)) #[] #[]] ++ lb,W1,?_,?_,?_,?_,fun _=>h1,?_⟩
 · rw [←hW1,hrec];exact run_enterLoop_outer _ _ _ _ _
 · simp only [resolve,hg]
   simp [go_sem]
 · intro f' hf'
   simp [Target.leads] at hf'
   exact hf'▸hFg
 · simp [invoke,go_sem,eg]
 have hI':FarO W1.heap.size I:=hI.less (by omega)
 have hH:=fun st pe=>(s1▸held_farO rec w.heap.size st pe (β:=List α):FarO W1.heap.size _)
 refine (hseq (w.heap.size+1) (fun pre o W=>I pre o W∧HeldO rec w.heap.size .ready none o W) (fun pre o W=>∃ c,Ix c pre o W∧HeldO rec w.heap.size .done (some c) o W) W1 o₀ B1 (fun b e=>by have:=ho₀ b e;omega) (hI'.and (hH _ _))
  (fun s o X Y row hs hgr hr=>by
   obtain ⟨c,hc,hh⟩:=hs
   exact ⟨c,(hIx c).less (by omega) s o X Y row hc hgr hr,hH _ _ s o X Y row hh hgr hr⟩) (fun s o X h=>hrow _ _ _ h.1) (fun s o X h=>h.elim fun c h=>hrowx _ _ _ _ h.1) ?_ ⟨I1,H1⟩).mono ?_
 · rintro pre x o W ⟨hi,hh⟩ hok hlen hsz
   rw [s1] at hsz
   have hy:=run_yield (P:=P) (args:=encs x) hh.1.1 (by rw [hrec];exact hps x)
   rw [hrec] at hy
   refine ⟨fn,_,assign,body,hy,roundIn_of_wpIn hfn (hassign _ pre x o W _ (by omega) (RowO.lt (hrow _ _ _ hi)) hi hok ?_)⟩
   intro a' Wa hka hpa hia hax
   have ha:=hh.since hka (FreshO.refl _ _) (Nat.le_refl _)
   have hb:=ha.turn .busy none
   have hbegin:=run_beginRound (P:=P) ha.1.1 (by rw [hrec])
   have ebusy:({ rec .ready none with state:=.busy }:Loop)=rec .busy none:=by rw [hrec]
   rw [ebusy] at hbegin
   refine ⟨_,hbegin,?_⟩
   have hsa:=hka.1
   have hsb:(Wa.putObj (w.heap.size+1) (.loop (rec .busy none))).heap.size=Wa.heap.size:=by simp [World.putObj]
   refine wpIn_mono (hbody _ pre x o a' _ (by rw [hsb];omega) (hI.put hia (by omega) ha.2.2 _) (hAx _ _ _ _ _ _ _ _ ha.1.1 (by omega) ha.2.2 hax) hlen) ?_
   have fin:∀ (jump:Option Code) (o':(Nat→Prop)) (W3:World),FreshO o o' (Wa.putObj (w.heap.size+1) (.loop (rec .busy none)))→SinceO w.heap.size o (Wa.putObj (w.heap.size+1) (.loop (rec .busy none))) W3 →
    (Instr.endRound (w.heap.size+1) jump).run P W3 = .ok (.bool jump.isNone) (W3.putObj (w.heap.size+1) (.loop (rec (if jump.isNone then .ready else .done) jump))) ∧
    HeldO rec w.heap.size (if jump.isNone then .ready else .done) jump o' (W3.putObj (w.heap.size+1) (.loop (rec (if jump.isNone then .ready else .done) jump)))∧HeldO rec w.heap.size .busy none o' W3:=fun jump o' W3 hf hk3=>by
    have h3:=hb.since hk3 hf (Nat.le_refl _)
    have he:=run_endRound (P:=P) jump h3.1.1
    have e2:({ rec .busy none with state:=if jump.isNone then .ready else .done,pending:=jump }:Loop)=rec (if jump.isNone then .ready else .done) jump:=by rw [hrec]
    rw [e2] at he
    exact ⟨he,h3.turn _ _,h3⟩
   have putFar:∀ (o:(Nat→Prop)) (V:World) (ob:Obj),SinceO W1.heap.size o V (V.putObj (w.heap.size+1) ob):=fun o V ob=>⟨by simp [World.putObj],fun b h2 _ _=>World.putObj_heap_other (by omega)⟩
   have keepAll:∀ (ob:Obj) (o':(Nat→Prop)) (W3:World),SinceO w.heap.size o (Wa.putObj (w.heap.size+1) (.loop (rec .busy none))) W3→SinceO W1.heap.size o W (W3.putObj (w.heap.size+1) ob):=fun ob o' W3 hk3 =>
    (((hka.less (by omega)).trans_ (putFar o Wa _)).trans_ (hk3.less (by omega))).trans_ (putFar o W3 _)
   intro e a3 W3 hp
   cases e with
   | normal =>
     obtain ⟨o',hf3,hk3,hp3,hi3⟩:=hp
     obtain ⟨he,h4,h5⟩:=fin none o' W3 hf3 hk3
     exact ⟨_,_,he,o',hf3.later (by rw [hsb];exact hsa),keepAll _ o' _ hk3,.inl ⟨rfl,⟨hI.put hi3 (by omega) h5.2.2 _,h4⟩,hKt hpa (hKt (hKb _ _ _ (by omega) ha.1.lt ⟨_,ha.1.1⟩) (hKt hp3 (hKb _ _ _ (by omega) h5.1.lt ⟨_,h5.1.1⟩)))⟩⟩
   | ret =>
     obtain ⟨o',hf3,hk3,hp3,hi3⟩:=hp
     obtain ⟨he,h4,h5⟩:=fin (some .ret) o' W3 hf3 hk3
     exact ⟨_,_,he,o',hf3.later (by rw [hsb];exact hsa),keepAll _ o' _ hk3,.inr ⟨rfl,⟨.ret,(hIx _).put hi3 (by omega) h5.2.2 _,h4⟩,hKt hpa (hKt (hKb _ _ _ (by omega) ha.1.lt ⟨_,ha.1.1⟩) (hKt hp3 (hKb _ _ _ (by omega) h5.1.lt ⟨_,h5.1.1⟩)))⟩⟩
   | exit id =>
     obtain ⟨o',hf3,hk3,hp3,hi3⟩:=hp
     obtain ⟨he,h4,h5⟩:=fin (some (.exit id)) o' W3 hf3 hk3
     exact ⟨_,_,he,o',hf3.later (by rw [hsb];exact hsa),keepAll _ o' _ hk3,.inr ⟨rfl,⟨.exit id,(hIx _).put hi3 (by omega) h5.2.2 _,h4⟩,hKt hpa (hKt (hKb _ _ _ (by omega) ha.1.lt ⟨_,ha.1.1⟩) (hKt hp3 (hKb _ _ _ (by omega) h5.1.lt ⟨_,h5.1.1⟩)))⟩⟩
   | goto t =>
     obtain ⟨o',hf3,hk3,hp3,hi3⟩:=hp
     obtain ⟨he,h4,h5⟩:=fin (some (.goto t)) o' W3 hf3 hk3
     exact ⟨_,_,he,o',hf3.later (by rw [hsb];exact hsa),keepAll _ o' _ hk3,.inr ⟨rfl,⟨.goto t,(hIx _).put hi3 (by omega) h5.2.2 _,h4⟩,hKt hpa (hKt (hKb _ _ _ (by omega) ha.1.lt ⟨_,ha.1.1⟩) (hKt hp3 (hKb _ _ _ (by omega) h5.1.lt ⟨_,h5.1.1⟩)))⟩⟩
   | panic ch=>exact hp.elim
   | outgrown=>exact hp.elim
 · rintro e W2 ⟨⟨v,rfl⟩,o',hfo,(⟨xs,hS,hi,hh⟩ | ⟨pre,hSp,c,hc,hh⟩)⟩
   · have he:=run_endLoop (P:=P) hh.1.1 (by rw [hrec];simp)
     rw [show (rec .ready none).pending=none by rw [hrec]] at he
     exact ⟨none,_,he,hdone _ xs o' _ (Nat.le_refl _) (hfo.later (by omega)) hS (hI.put hi (by omega) hh.2.2 _) ((World.putObj_heap_other (by omega)).trans hh.1.2) hh.2.1⟩
   · have he:=run_endLoop (P:=P) hh.1.1 (by rw [hrec];simp)
     rw [show (rec .done (some c)).pending=some c by rw [hrec]] at he
     exact ⟨some c,_,he,hstop _ c pre o' _ (Nat.le_refl _) (hfo.later (by omega)) hSp ((hIx c).put hc (by omega) hh.2.2 _) ((World.putObj_heap_other (by omega)).trans hh.1.2) hh.2.1⟩

theorem wpIn_rangeBoxT {α:Type} {F:Fence} {n:Nat} {P:Program} {g:Operand} {ps:Array Tmp} {assign body:Code} {Q:Exit→Act→World→Prop} {a:Act} {w:World}
 (hro:F.round=none) (h1:1≤n) {gf:Nat} {lb:Array Value} (hg:a.eval g = .func (.func gf) #[] lb) (hFg:F.fn gf) (eg:∀ args w,(callFunc gf args).run P w = .ok (.enter gf args) w)
 {encs:α→Array Value} {Ok:List α→α→World→Prop} {Kp:World→World→Prop} {S Sp:List α→Prop} {N:Nat} {w0:World} (hseq:SeqT F (n - 1) P gf lb encs Ok Kp S Sp N w0)
 (hKt:∀ {A B C:World},Kp A B→Kp B C→Kp A C) (hKb:∀ (W:World) (l:Nat) (ob:Obj),w.heap.size≤l→l<W.heap.size→(∃ r,W.heap[l]?=some (.loop r))→Kp W (W.putObj l ob)) (hb0:Below w0.heap.size w0 w) (hps:∀ x,(encs x).size=ps.size)
 (I:List α→(Nat→Prop)→World→Prop) (Ix:Code→List α→(Nat→Prop)→World→Prop) (hI:FarO w.heap.size I) (hIx:∀ c,FarO w.heap.size (Ix c)) (o₀:(Nat→Prop)) (ho₀:∀ b,o₀ b→b<w.heap.size) (h0:I [] o₀ w)
 (Pr:α→Prop) (hPr:∀ pre x W,Ok pre x W→Pr x) (t:TypeId) (cs:α→Array Value) (a₁:α→Nat→Act)
 (hassign:∀ (l:Nat) (pre:List α) (x:α) (o:(Nat→Prop)) (W:World) (K:Act→World→Prop),w.heap.size≤W.heap.size→(∀ b,o b→b<W.heap.size)→I pre o W→Ok pre x W→(∀ Bx W',SinceO w.heap.size o W W'→Kp W W'→I pre o W'→Blk W' Bx t (cs x)→¬ o Bx→w.heap.size≤Bx→K (a₁ x Bx) W') →
  assign.wpIn (F.inRound l) (n - 1 - 1) P (Exit.then K (fun _ _ _=>False)) { tmps:=(ps.zip (encs x)).foldl (fun t (p,v)=>t.setIfInBounds p v) a.tmps,defers:=[] } W)
 (hrow:∀ pre o W,I pre o W→RowO o W) (hrowx:∀ c pre o W,Ix c pre o W→RowO o W)
 (hbody:∀ (l:Nat) (pre:List α) (x:α) (o:(Nat→Prop)) (Bx:Nat) (W:World),w.heap.size≤W.heap.size→I pre o W→Blk W Bx t (cs x)→¬ o Bx→w.heap.size≤Bx→Pr x→pre.length<N →
  body.wpIn (F.inRound l) (n - 1 - 1) P (postT w.heap.size Kp I Ix (pre ++ [x]) o W) (a₁ x Bx) W)
 (hdone:∀ (D:Nat) (xs:List α) (o:(Nat→Prop)) (W:World),w.heap.size≤D→FreshO o₀ o w→S xs→I xs o W→W.heap[D]?=some (.deferred (some []))→¬ o D→Q .normal { a with defers:={ target:=.collected D,args:=#[] } :: a.defers } W)
 (hstop:∀ (D:Nat) (c:Code) (pre:List α) (o:(Nat→Prop)) (W:World),w.heap.size≤D→FreshO o₀ o w→Sp pre→Ix c pre o W→W.heap[D]?=some (.deferred (some []))→¬ o D→c.wpIn F n P Q { a with defers:={ target:=.collected D,args:=#[] } :: a.defers } W) :
 (Code.rangeFunc g ps assign body).wpIn F n P Q a w :=
 wpIn_rangeT hro h1 hg hFg eg hseq hKt hKb hb0 hps I Ix hI hIx o₀ ho₀ h0 (fun _ x o a' W=>∃ Bx,Blk W Bx t (cs x)∧¬ o Bx∧w.heap.size≤Bx∧Pr x∧a'=a₁ x Bx)
  (fun _ x o a' W l ob r hl _ _ ⟨Bx,hb,hne,hle,hp,e⟩=>⟨Bx,(World.putObj_heap_other (fun e2=>by unfold Blk at hb;rw [e2,hl] at hb;cases hb)).trans hb,hne,hle,hp,e⟩)
  (fun l pre x o W K hs hol hi hok hK=>hassign l pre x o W K hs hol hi hok fun Bx W' h2 h3 h4 h5 h6 h7=>hK _ _ h2 h3 h4 ⟨Bx,h5,h6,h7,hPr _ _ _ hok,rfl⟩) hrow hrowx
  (fun l pre x o a' W hs hi ⟨Bx,hb,hne,hle,hp,e⟩ hlt=>by subst e;exact hbody l pre x o Bx W hs hi hb hne hle hp hlt) hdone hstop
end Go.Proofs.YtknkdbincaonbaaGreatDoor.T

namespace Go.Proofs.YtknkdbincaonbaaGreatDoor.T
open Go.RowKit Go.Shelf
attribute [local go_sem] Oper.semAt_some

theorem rowsL_mem {p y:Int} (hy:0≤y∧y<p - 1):y∈rowsL p:=by
 unfold rowsL
 exact List.mem_map.2 ⟨y.toNat,List.mem_range.2 (by omega),by omega⟩
theorem cellsDown_in (n:Nat) (hn:4≤n) (l g h lo mm:Nat) (k p s m col:Int) (hp:p∈prm) (hu:Und p s m) (hg1:lo≤g) (hg2:g<lo+mm) (hh1:lo≤h) (hh2:h<lo+mm) (W:World) (hW:lo+mm≤W.heap.size) (hL:Laid W) (J Jx:List Int→(Nat→Prop)→World→Prop) (o₀:(Nat→Prop)) (ho₀:∀ b,o₀ b→b<W.heap.size)
 (hJ:FarO W.heap.size J) (hJx:FarO W.heap.size Jx) (hr1:∀ s o X,J s o X→RowO o X) (hr2:∀ s o X,Jx s o X→RowO o X)
 (hY:∀ pre x o W1,J pre o W1→x∈rowsL p→pre.length<p.toNat→W.heap.size≤W1.heap.size→YieldAt Fence.wide (n - 1) Tryz.prog l #[.agg #[.int .i64 col,.int .i64 x]] W1 fun e W'=>∃ o',FreshO o o' W1∧SinceO W.heap.size o W1 W'∧((e = .returned (.bool true)∧J (pre ++ [x]) o' W'∧Keep lo mm W1 W')∨(e = .returned (.bool false)∧Jx (pre ++ [x]) o' W'∧Keep lo mm W1 W')))
 (bg:Blk W g 116 #[.int .i64 k,.int .i64 p,.int .i64 s,.int .i64 m]) (bh:Blk W h 3 #[.int .i64 col]) (h0:J [] o₀ W) :
 CallsIn Fence.wide n Tryz.prog 241 #[.func (.yield l) #[] #[],.pointer (some ⟨g,0,none⟩),.pointer (some ⟨h,0,none⟩)] W fun e W'=>(∃ v,e = .returned v)∧∃ o',FreshO o₀ o' W∧((∃ ys,ys=rowsL p∧J ys o' W')∨(∃ pre,pre <+: rowsL p∧Jx pre o' W')):=by
 have HWk:=Lib.hid (fun V hV=>modWalk_any p 0 1 V hV (by omega) (by omega))
 refine callsIn_of_wp_marks Tryz.func241 rfl trivial ?_ rfl
 simp only [Tryz.ntmps241,List.size_toArray,List.length_cons,List.length_nil,Nat.reduceAdd,Nat.reduceSub,Array.replicate_succ,Array.replicate_zero,List.push_toArray,List.append_toArray,List.nil_append,List.cons_append]
 obtain ⟨W0,hW0⟩:∃ W0,W.alloc (.cells #[.func (.yield l) #[] #[]] 132)=W0:=⟨_,rfl⟩
 have hB0:Below W.heap.size W W0:=by rw [←hW0];exact below_one W _
 have bY:Blk W0 W.heap.size 132 #[.func (.yield l) #[] #[]]:=by rw [←hW0];exact Blk.new W _ _
 have bg0:=bg.below hB0 bg.lt
 have bh0:=bh.below hB0 bh.lt
 have hL0:=hL.next hB0
 have hJ0:J [] o₀ W0:=hJ.below h0 hB0
 have d1:W0.cell? ⟨g,1,none⟩=some (.int .i64 p):=bg0.cell 1
 gi_wp2_with fail
 refine wpIn_scope_wide ?_
 gi_wp2_with fail
 refine wpIn_label ?_
 gi_wp2_with fail
 refine ⟨trivial,fun _=>by omega,(callsIn_wide.2 (HWk.out _ hL0)).mono ?_⟩
 rintro e v1 ⟨v,rfl,⟨gf,lb,rfl,eg,eq,⟨kk,hgo⟩⟩,hX⟩
 have bY1:=bY.below hX bY.lt
 have bg1:=bg0.below hX bg0.lt
 have bh1:=bh0.below hX bh0.lt
 have hJ1:J [] o₀ v1:=hJ.below hJ0 hX
 have hlo:=hX.size
 have hi:=bY.lt
 clear eq hL0 bg0 bh0 d1 hJ0 HWk
 gi_wp2_with fail
 refine wpIn_rangeOwn1 rfl (by omega) (gf:=gf) (lb:=lb) rfl trivial eg (hgo _ (by omega)) (by omega) (Below.refl _ _) (fun _=>rfl)
  (fun pre V=>(∃ o,J pre o V∧FreshO o₀ o W∧∀ b,o b→b<W.heap.size∨v1.heap.size+(2+kk)≤b)∧(∀ y∈pre,0≤y∧y<p - 1)∧Blk V W.heap.size 132 #[.func (.yield l) #[] #[]]∧Blk V g 116 #[.int .i64 k,.int .i64 p,.int .i64 s,.int .i64 m]∧Blk V h 3 #[.int .i64 col])
  (fun c pre V=>c = .exit 0∧∃ q x o,pre=q ++ [x]∧FreshO o₀ o W∧(∀ b,o b→b<W.heap.size∨v1.heap.size+(2+kk)≤b)∧((¬ (0≤x∧x<p - 1)∧J q o V)∨((0≤x∧x<p - 1)∧Jx pre o V)))
  ?hI ?hIx ⟨⟨o₀,hJ1,FreshO.refl _ _,fun b e=>.inl (ho₀ b e)⟩,by simp,bY1,bg1,bh1⟩ ?a1 ?assign ?body ?done ?stop
 case hI =>
  refine Spares.and (fun s X Y row hs hg hr=>?_) ((spares_pure _ _ _).and ((spares_blk (by omega) _ (fun _=>_)).and ((spares_blk (by omega) _ (fun _=>_)).and (spares_blk (by omega) _ (fun _=>_)))))
  obtain ⟨o,h1,h2,h3⟩:=hs
  exact ⟨o,hJ s o X Y row h1 hg (fun r e=>⟨by have:=hr r e;omega,fun e2=>by have:=hr r e;have:=h3 r e2;omega⟩),h2,h3⟩
 case hIx =>
  rintro c pre X Y row ⟨h1,q,x,o,h2,hf,hb,h3⟩ hg hr
  have hr':∀ r,row=some r→W.heap.size≤r∧¬ o r:=fun r e=>⟨by have:=hr r e;omega,fun e2=>by have:=hr r e;have:=hb r e2;omega⟩
  exact ⟨h1,q,x,o,h2,hf,hb,h3.imp (fun h=>⟨h.1,hJ _ _ _ _ _ h.2 hg hr'⟩) (fun h=>⟨h.1,hJx _ _ _ _ _ h.2 hg hr'⟩)⟩
 case assign =>
  intro l' x V K hK
  gi_wp2
  exact hK
 case body =>
  rintro l' pre x V hsz ⟨⟨o,hj,hfo,hbo⟩,hr,bY,bg,bh⟩ hlen
  have hYo:¬ o W.heap.size:=fun e=>by have:=hbo _ e;omega
  have hlen2:pre.length<p.toNat:=by
   obtain ⟨e1,e2,_⟩:=rows_walk p hp
   rw [e1,List.length_append] at hlen
   simp at hlen
   omega
  have hn3:1≤n - 1 - 1:=by omega
  have c0:=bg.cell 0
  have c1:=bg.cell 1
  have c2:=bg.cell 2
  have c3:=bg.cell 3
  simp only [gz9] at c0 c1 c2 c3
  by_cases hx:0≤x∧x<p - 1
  · have HR:=Lib.hid (fun V=>(hasRow_any k p s m x hu V).mono fun _ _ h=>And.intro (h.1.trans (ret_bool (decide_eq_true hx))) h.2)
    gi_wp2_with fail
    refine ⟨trivial,(CallsIn.inRound l' (callsIn_wide.2 (HR.out V))).mono ?_⟩
    rintro e V1 ⟨rfl,hB1⟩
    have hj1:J pre o V1:=hJ.below hj hB1
    have hs1:=hB1.size
    have cY:=(bY.below hB1 bY.lt).one
    have cH:=(bh.below hB1 bh.lt).one
    obtain ⟨fn,tmps,asg,bdy,hy,hR⟩:=YieldAt.deep (m:=n - 1 - 1 - 1) (hY pre x o V1 hj1 (rowsL_mem hx) hlen2 (by omega))
    gi_wp2
    refine hR.mono ?_
    rintro e W3 ⟨o',hf3,hS3,(⟨rfl,hJ3,hk3⟩ | ⟨rfl,hJx3,_⟩)⟩
    · gi_wp2
      have hS:SinceO W.heap.size o V W3:=(SinceO.below hB1).trans_ hS3
      have hbo':∀ b,o' b→b<W.heap.size∨v1.heap.size+(2+kk)≤b:=fun b e=>(hf3 b e).elim (fun e=>hbo b e) fun e=>by omega
      have hfo':FreshO o₀ o' W:=hfo.trans (by omega) hf3
      have hkk:Keep lo mm V W3:=(Keep.below hB1 (by omega)).trans hk3
      refine ⟨hS.keep (by omega) hsz (fun b e=>by have:=hbo b e;omega),hS.keep (by omega) (by omega) (fun b e=>by have:=hbo b e;omega),⟨o',hJ3,hfo',hbo'⟩,?_,(hS.2 _ (Nat.le_refl _) bY.lt hYo).trans bY,hkk.blk bg hg1 hg2,hkk.blk bh hh1 hh2⟩
      intro y hy
      rcases List.mem_append.1 hy with h1 | h1
      · exact hr y h1
      · rw [List.mem_singleton.1 h1];exact hx
    · gi_wp2
      have hS:SinceO W.heap.size o V W3:=(SinceO.below hB1).trans_ hS3
      have hbo':∀ b,o' b→b<W.heap.size∨v1.heap.size+(2+kk)≤b:=fun b e=>(hf3 b e).elim (fun e=>hbo b e) fun e=>by omega
      have hfo':FreshO o₀ o' W:=hfo.trans (by omega) hf3
      exact ⟨hS.keep (by omega) hsz (fun b e=>by have:=hbo b e;omega),rfl,pre,x,o',rfl,hfo',hbo',.inr ⟨hx,hJx3⟩⟩
  · have HR:=Lib.hid (fun V=>(hasRow_any k p s m x hu V).mono fun _ _ h=>And.intro (h.1.trans (ret_bool (decide_eq_false hx))) h.2)
    gi_wp2_with (refine ⟨trivial,?_⟩;gi_at_call 243;refine (callsIn_wide.2 (HR.out _)).mono ?_;rintro e V1 ⟨rfl,hB1⟩)
    refine ⟨fun _ h=>(by cases h),?_⟩
    gi_wp2
    have hS1:Since W.heap.size V V1:=Since.below hB1
    exact ⟨hS1.keep (by omega) hsz,rfl,pre,x,o,rfl,hfo,hbo,.inl ⟨hx,hJ.below hj hB1⟩⟩
 case done =>
  rintro D xs V hD rfl ⟨_,hr,_⟩ _
  exfalso
  obtain ⟨e1,_,_⟩:=rows_walk p hp
  have:=hr (p - 1) (by rw [e1];simp)
  omega
 case stop =>
  rintro D c pre V hD hSp ⟨rfl,q,x,o,rfl,hfo,hbo,hq⟩ hK
  gi_wp2
  rw [Exit.noGoto_normal]
  refine ⟨by simp,.inl ⟨_,_,rfl,run_takeDeferred hK,?_⟩⟩
  refine ⟨_,results_none rfl _ _ _,⟨_,rfl⟩,o,hfo,?_⟩
  rcases hq with ⟨hx,hq⟩ | ⟨hx,hq⟩
  · exact .inl ⟨q,rows_left p hp q x hSp hx,hJ.put hq (by omega) ((hr1 _ _ _ hq).ne hK) _⟩
  · exact .inr ⟨_,rows_some p hp q x hSp hx,hJx.put hq (by omega) ((hr2 _ _ _ hq).ne hK) _⟩

def PlacesO (lo:Nat) (col:Int) (zs:List Int) (N:Nat) (v:Value) (w:World):Prop :=
 ∃ gf lb,v = .func (.func gf) #[] lb∧(∀ args W,(callFunc gf args).run Tryz.prog W = .ok (.enter gf args) W)∧(∀ W,(binOp .eql 50 v .nilFunc).run Tryz.prog W = .ok (.bool false) W) ∧
  ∀ n,4≤n→SeqT Fence.wide n Tryz.prog gf lb (fun x:Int=>#[.agg #[.int .i64 col,.int .i64 x]]) (fun _ x _=>x∈zs) (Keep lo (w.heap.size - lo)) (fun ys=>ys=zs) (fun pre=>pre <+: zs) N w

theorem cells1_inO (n l:Nat) (J Jx:List Int→(Nat→Prop)→World→Prop) (o₀:(Nat→Prop)) (W:World) (h0:J [] o₀ W) :
 CallsIn Fence.wide n Tryz.prog 207 (#[.func (.yield l) #[] #[]] ++ #[]) W fun e W'=>(∃ v,e = .returned v)∧∃ o',FreshO o₀ o' W∧((∃ ys,ys = []∧J ys o' W')∨(∃ pre,pre <+: []∧Jx pre o' W')):=by
 refine callsIn_of_wp Tryz.func207 rfl trivial ?_ rfl
 simp only [Tryz.ntmps207,List.size_toArray,List.length_cons,List.length_nil,Nat.reduceAdd,Nat.reduceSub,Array.replicate_succ,Array.replicate_zero,List.push_toArray,List.append_toArray,List.nil_append,List.cons_append]
 gi_wp2
 go_end0
 exact ⟨⟨_,rfl⟩,o₀,FreshO.refl _ _,.inl ⟨_,rfl,h0⟩⟩

theorem down_anyO (k p s m col:Int) (hp:p∈prm) (hu:Und p s m) (w:World) (hL:Laid w) :
 Calls Tryz.prog 206 #[.agg #[.int .i64 k,.int .i64 p,.int .i64 s,.int .i64 m],.int .i64 col] w fun e w'=>∃ v,e = .returned v∧PlacesO w.heap.size col (rowsL p) p.toNat v w'∧Below w.heap.size w w':=by
 have hmf:=make_func
 go_enter Tryz.func206,Tryz.ntmps206
 go_wp2
 go_ret
 have hB:=below_two w (.cells #[.int .i64 k,.int .i64 p,.int .i64 s,.int .i64 m] 116) (.cells #[.int .i64 col] 3)
 have bg:=(Blk.new w 116 #[.int .i64 k,.int .i64 p,.int .i64 s,.int .i64 m]).alloc (.cells #[.int .i64 col] 3)
 have bh:=Blk.second w (.cells #[.int .i64 k,.int .i64 p,.int .i64 s,.int .i64 m] 116) 3 #[.int .i64 col]
 have hL2:=hL.next hB
 refine ⟨_,rfl,⟨_,_,rfl,enter_down1,eql_down1 _ _,?_⟩,hB⟩
 intro n hn l J Jx W o₀ hW ho₀ hJ hJx hr1 hr2 hY h0
 exact cellsDown_in n hn l _ _ w.heap.size _ k p s m col hp hu (Nat.le_refl _) (by simp;omega) (by omega) (by simp;omega) W (by have:=hW.size;simp at this ⊢;omega) (hL2.next hW) J Jx o₀ ho₀ hJ hJx hr1 hr2 hY (bg.below hW bg.lt) (bh.below hW bh.lt) h0

theorem PlacesO.less {lo lo' N:Nat} {col:Int} {zs:List Int} {v:Value} {w:World} (h:PlacesO lo col zs N v w) (hl:lo'≤lo) (hw:lo≤w.heap.size):PlacesO lo' col zs N v w:=by
 obtain ⟨gf,lb,e,eg,eq,hg⟩:=h
 exact ⟨gf,lb,e,eg,eq,fun n hn l J Jx W o₀ hW ho₀ hJ hJx hr1 hr2 hY h0=>hg n hn l J Jx W o₀ hW ho₀ hJ hJx hr1 hr2 (fun pre x o W1 hj hok hl' hs=>(hY pre x o W1 hj hok hl' hs).mono fun _ _ ⟨o',hf,hS,h⟩=>⟨o',hf,hS,h.imp (fun ⟨h1,h2,h3⟩=>⟨h1,h2,h3.less hl (by omega)⟩) (fun ⟨h1,h2,h3⟩=>⟨h1,h2,h3.less hl (by omega)⟩)⟩) h0⟩

theorem none_placesO (lo N:Nat) (x:Int) (w:World):PlacesO lo x [] N (.func (.func 207) #[] #[]) w :=
 ⟨_,_,rfl,enter_cells1,eql_cells1,fun n _ l J Jx W o₀ _ _ _ _ _ _ _ h0=>cells1_inO n l J Jx o₀ W h0⟩

theorem shapeCells_anyO (k p x:Int) (w:World) (hL:Laid w):Calls Tryz.prog 170 #[.agg #[.int .i64 k,.int .i64 p],.int .i64 x] w fun e w'=>∃ v,e = .returned v∧(∃ zs,Column k p x zs∧PlacesO w.heap.size x zs p.toNat v w')∧Below w.heap.size w w':=by
 have hB:=below_one w (.cells #[.int .i64 k,.int .i64 p] 24)
 by_cases hR:RightC k p
 · by_cases hb:HasCol k p x
   · have HT:=Lib.hid (toldS_yes 205 206 enter_hasColumn enter_down k p x hR _ (fun W hL=>(hasColumn_any k p _ _ x hR.und W).mono fun _ _ h=>⟨h.1.trans (ret_bool (decide_eq_true hb)),h.2⟩)
      (fun v w'=>PlacesO w.heap.size x (rowsL p) p.toNat v w') (fun W hL hs=>(down_anyO k p _ _ x hR.2 hR.und W hL).mono fun _ _ ⟨v,h1,h2,h3⟩=>⟨v,h1,h2.less (by have:=hB.size;omega) h3.size,h3⟩) (hL.next hB))
     have HC:Hid (Column k p x (rowsL p)):=.inl ⟨hR,hb,rfl⟩
     clear hb hR
     generalize rowsL p=zs at *
     go_enter Tryz.func170,Tryz.ntmps170
     go_wp2_with (go_at_call 204;refine HT.out.mono ?_;rintro e w1 ⟨v,rfl,hv,hB1⟩)
     go_ret
     exact ⟨_,rfl,⟨_,HC.out,hv⟩,below_in hB hB1⟩
   · have HT:=Lib.hid (toldS_out 205 206 enter_hasColumn k p x hR (fun W hL=>(hasColumn_any k p _ _ x hR.und W).mono fun _ _ h=>⟨h.1.trans (ret_bool (decide_eq_false hb)),h.2⟩) _ (hL.next hB))
     have HC:Hid (Column k p x []):=.inr ⟨fun h=>hb h.2,rfl⟩
     clear hb hR
     go_enter Tryz.func170,Tryz.ntmps170
     go_wp2_with (go_at_call 204;refine HT.out.mono ?_;rintro e w1 ⟨rfl,hB1⟩)
     go_ret
     exact ⟨_,rfl,⟨_,HC.out,none_placesO _ _ _ _⟩,below_in hB hB1⟩
 · have HT:=Lib.hid (toldS_no 205 206 k p x hR _ (hL.next hB))
   have HC:Hid (Column k p x []):=.inr ⟨fun h=>hR h.1,rfl⟩
   clear hR
   go_enter Tryz.func170,Tryz.ntmps170
   go_wp2_with (go_at_call 204;refine HT.out.mono ?_;rintro e w1 ⟨rfl,hB1⟩)
   go_ret
   exact ⟨_,rfl,⟨_,HC.out,none_placesO _ _ _ _⟩,below_in hB hB1⟩
end Go.Proofs.YtknkdbincaonbaaGreatDoor.T

namespace Go.Proofs.YtknkdbincaonbaaGreatDoor.T
open Go.RowKit Go.Shelf

def anyHG (F:Fence) (n:Nat) (P:Program) (md:Region.Mode) (ops:Array Oper) (Q:Exit→Act→World→Prop) (S:World→Prop) (m:Nat):Nat→Array Bool→Act→World→Prop
 | 0,listed,a,w=>Region.ready md ops listed = []∧Q .normal a w
 | k+1,listed,a,w=>(Region.ready md ops listed = []→Q .normal a w)∧∀ i∈Region.ready md ops listed,wpOpIn F n P ops Q i (fun a' w'=>(i=m∨S w')∧anyHG F n P md ops Q S m k (listed.setIfInBounds i true) a' w') a w
section
variable {F:Fence} {n:Nat} {P:Program} {md:Region.Mode} {ops:Array Oper} {Q:Exit→Act→World→Prop} {S:World→Prop} {m:Nat}
theorem anyHG.any:∀ (k:Nat) (listed:Array Bool) (a:Act) (w:World),anyHG F n P md ops Q S m k listed a w→wpAnyIn F n P md ops Q k listed a w
 | 0,_,_,_,h=>h
 | k+1,_,_,_,h=>⟨h.1,fun i hi=>wpOpIn_mono (fun a' w' h'=>anyHG.any k _ a' w' h'.2) (h.2 i hi)⟩
theorem anyHG_first {i:Nat} {oi:Oper} {v:Value} (hnd:∀ (i:Nat) (o:Oper),ops[i]?=some o→notDefer o.op=true) (hi:ops[i]?=some oi) (hsel:∀ (j:Nat) (o:Oper) cs b,ops[j]?=some o→o.op≠.select cs b)
 (hQ:∀ c a w,Q (.panic c) (a.put oi.dst v) w→Q (.panic c) a w) (hm:∀ om,ops[m]?=some om→(om.after.any fun e=>Region.binds md e && e.on == i)=true) :
 ∀ (k:Nat) (listed:Array Bool) (a:Act) (w:World),
  (∀ j oj,ops[j]?=some oj→j≠i→listed.getD j true=false→(∀ e∈oj.after,Region.binds md e=true→e.on≠i)→oi.apart ops oj=true) →
  i∈Region.ready md ops listed→Leaves P ops S oi v a→S w →
  anyHG F n P md ops Q S m k (listed.setIfInBounds i true) (a.put oi.dst v) w→anyHG F n P md ops Q S m (k+1) listed a w:=by
 intro k
 induction k with
 | zero =>
   intro listed a w _ hr hy hS H
   refine ⟨fun h=>(by rw [h] at hr;cases hr),fun j hj=>?_⟩
   by_cases hji:j=i
   · subst hji;exact hy.op (hnd _ _ hi) hi hS ⟨.inr hS,H⟩
   · have:=ready_mono hj hji
     rw [H.1] at this
     cases this
 | succ k ih =>
   intro listed a w hfree hr hy hS H
   refine ⟨fun h=>(by rw [h] at hr;cases hr),fun j hj=>?_⟩
   by_cases hji:j=i
   · subst hji;exact hy.op (hnd _ _ hi) hi hS ⟨.inr hS,H⟩
   · have h1:=H.2 j (ready_mono hj hji)
     obtain ⟨hjun,oj,hoj,hall⟩:=mem_ready.1 hj
     have hnot:∀ e∈oj.after,Region.binds md e=true→e.on≠i:=fun e he hb heq=>by
      have h1:=hall e he hb
      have h0:=(mem_ready.1 hr).1
      rw [heq] at h1
      rcases Nat.lt_or_ge i listed.size with h' | h'
      · simp [h'] at h0 h1;rw [h0] at h1;cases h1
      · simp [Array.getElem?_eq_none h'] at h1
     have h2:=Leaves.put (hnd _ _ hoj) hoj (hfree j oj hoj hji hjun hnot) (fun cs b=>hsel i oi cs b hi) (fun cs b=>hsel j oj cs b hoj) hQ hy h1
     have hjm:j≠m:=fun e=>by
      subst e
      have h1:=hm oj hoj
      rw [←Array.any_toList,List.any_eq_true] at h1
      obtain ⟨e,he,h2⟩:=h1
      rw [Bool.and_eq_true] at h2
      exact hnot e (Array.mem_toList_iff.1 he) h2.1 (by simpa using h2.2)
     refine wpOpIn_mono (fun a' w' h3=>⟨h3.2.1,ih (listed.setIfInBounds j true) a' w' (fun x ox hx hxi hun hno=>hfree x ox hx hxi ?_ hno) (ready_mono hr (Ne.symm hji)) h3.1 (h3.2.1.resolve_left hjm) ?_⟩) h2
     · by_cases hjx:j=x
       · subst hjx;exact hjun
       · rw [getD_set_ne true hjx] at hun;exact hun
     · rw [Array.setIfInBounds_comm _ _ hji]
       exact h3.2.2
theorem anyHG_take {i:Nat} {oi:Oper} {d:Tmp} {v:Value} {k:Nat} {listed:Array Bool} {a:Act} {w:World} (hnd:(ops.toList.all fun o=>notDefer o.op)=true) (hi:ops[i]?=some oi)
 (hs:Region.noSelect ops=true) (hf:Region.free md ops listed i=true) (hr:(Region.ready md ops listed).contains i=true) (hd:oi.dst=some d)
 (hm:(match ops[m]? with | some om=>om.after.any fun e=>Region.binds md e && e.on == i | none=>true)=true) (hQ:∀ c a w,Q (.panic c) (a.put oi.dst v) w→Q (.panic c) a w) (hy:Leaves P ops S oi v a) (hS:S w)
 (h:anyHG F n P md ops Q S m k (listed.setIfInBounds i true) { tmps:=a.tmps.setIfInBounds d v,defers:=a.defers } w):anyHG F n P md ops Q S m (k+1) listed a w :=
 anyHG_first (all_nd hnd) hi (Region.noSelect_spec hs) hQ (fun om h=>by rw [h] at hm;exact hm) k listed a w (Region.free_spec hi hf) (by simpa using hr) hy hS (by unfold Act.put;rw [hd];exact h)
theorem anyHG_one {i:Nat} {o:Oper} {k:Nat} {listed:Array Bool} {a:Act} {w:World} (hr:Region.ready md ops listed = [i]) (ho:ops[i]?=some o) (hnd:(ops.toList.all fun o=>notDefer o.op)=true) (hw:Region.wanted o (yielded ops a.tmps)=true)
 (h:Oper.wpIn F n P o a w (fun a' w'=>(i=m∨S w')∧anyHG F n P md ops Q S m k (listed.setIfInBounds i true) a' w') Q):anyHG F n P md ops Q S m (k+1) listed a w :=
 ⟨fun h0=>(by rw [hr] at h0;cases h0),fun j hj=>by
  rw [hr] at hj
  obtain rfl:=List.mem_singleton.1 hj
  unfold wpOpIn
  rw [ho]
  simp only [hw,if_true]
  exact h⟩
theorem anyHG_done {listed:Array Bool} {a:Act} {w:World} (hr:Region.ready md ops listed = []) (h:Q .normal a w):∀ k,anyHG F n P md ops Q S m k listed a w
 | 0=>⟨hr,h⟩
 | _+1=>⟨fun _=>h,by rw [hr];simp⟩
theorem region_HG {id:Nat} {a:Act} {w:World} (hm:P.follows .mixedOrders=true) (h:anyHG F n P .any ops Q S m ops.size (Array.replicate ops.size false) a w.drew):(Code.region id ops true).wpIn F n P Q a w :=
 wpIn_region_any hm (anyHG.any _ _ _ _ h)
end
end Go.Proofs.YtknkdbincaonbaaGreatDoor.T

namespace Go.Proofs.YtknkdbincaonbaaGreatDoor.T
open Go.RowKit Go.Shelf Go.Proofs.YtknkdbincaonbaaGreatDoor.C Go.Proofs.YtknkdbincaonbaaGreatDoor.E

theorem farO_laid {β:Type} {B:Nat} {W0:World} (hL:Laid W0) (hB:W0.heap.size≤B):FarO B (fun (_:β) (_:(Nat→Prop)) W=>Laid W):=fun s o X Y row hs hg hr=>far_laid (β:=β) hL hB s X Y row hs hg (fun r e=>(hr r e).1)
section
variable {B lo mm:Nat} {X Y Z:World} {o o':(Nat→Prop)}
theorem farO_keep {β:Type} {B':Nat} (V:World) (hB:V.heap.size≤B') (hk:lo+mm≤V.heap.size):FarO B' (fun (_:β) (_:(Nat→Prop)) X=>Keep lo mm V X):=fun s o X Y row hs hg hr =>
 hs.trans ⟨hg.size,fun b h1 h2=>by
  rcases Nat.lt_or_ge b X.heap.size with h3 | h3
  · exact hg.block b h3 (fun e=>by have:=(hr b e.symm).1;omega)
  · exact absurd h3 (by have:=hs.1;omega)⟩
theorem farO_since {β:Type} {B':Nat} (V:World) (o₀:(Nat→Prop)) (hB:V.heap.size≤B'):FarO B' (fun (_:β) (_:(Nat→Prop)) X=>SinceO B o₀ V X):=fun s o X Y row hs hg hr =>
 ⟨Nat.le_trans hs.1 hg.size,fun b h1 h2 h3=>(hg.block b (by have:=hs.1;omega) (fun e=>by have:=(hr b e.symm).1;omega)).trans (hs.2 b h1 h2 h3)⟩
theorem _root_.Go.Proofs.YtknkdbincaonbaaGreatDoor.Left.sinceT {base:Nat} {Ds:List Nat} (h:Left base X Ds) (hs:SinceO B o X Y) (hB:B≤base) (hr:RowO o X):Left base Y Ds :=
 ⟨h.1,fun D hD=>⟨(h.2 D hD).1,(hs.2 D (Nat.le_trans hB (h.2 D hD).1) (h.lt hD) (hr.ne (h.2 D hD).2)).trans (h.2 D hD).2⟩⟩
theorem _root_.Go.Proofs.YtknkdbincaonbaaGreatDoor.Left.moreT {base:Nat} {Ds:List Nat} (h:Left base X Ds) (hs:SinceO B o X Y) (hB:B≤base) (hr:RowO o X) {D:Nat} (hb:base≤D) (hn:X.heap.size≤D) (hD:Y.heap[D]?=some (.deferred (some []))):Left base Y (D :: Ds):=by
 refine ⟨List.nodup_cons.2 ⟨fun hm=>by have:=h.lt hm;omega,h.1⟩,fun E hE=>?_⟩
 rcases List.mem_cons.1 hE with rfl | hE
 · exact ⟨hb,hD⟩
 · exact (h.sinceT hs hB hr).2 E hE
end
theorem leaves_farT {β:Type} {F:Fence} {n:Nat} {P:Program} {fn:Func} {tmps:Array Value} {R:Ending→World→Prop} {B:Nat} {I:β→(Nat→Prop)→World→Prop} (hI:FarO B I) (s:β) (o:(Nat→Prop)) (hr:∀ X,I s o X→RowO o X) :
 ∀ (Ds:List Nat) (W:World),Left B W Ds→I s o W→(∀ W':World,I s o W'→LeavesInM F n P fn tmps R [] .returning W')→LeavesInM F n P fn tmps R (leftOf Ds) .returning W
 | [],W,_,hs,h=>h W hs
 | D :: Ds,W,hL,hs,h=>by
   obtain ⟨hb,hD⟩:=hL.2 D (.head _)
   have hn:=List.nodup_cons.1 hL.1
   refine ⟨by simp,.inl ⟨_,_,rfl,run_takeDeferred hD,?_⟩⟩
   refine leaves_farT hI s o hr Ds _ ⟨hn.2,fun E hE=>⟨(hL.2 E (.tail _ hE)).1,?_⟩⟩ (hI.put hs hb ((hr _ hs).ne hD) _) h
   have hne:E≠D:=fun e=>hn.1 (by rw [←e];exact hE)
   exact (World.putObj_heap_other hne).trans (hL.2 E (.tail _ hE)).2

def bySl (p:Int) (n:Nat) (done:List (Int×Int)):List (Int×Int):=done.filter fun z=>decide ((z.2 - z.1) % p=(n:Int))
theorem bySl_snoc (p:Int) (n:Nat) (done:List (Int×Int)) (z:Int×Int):bySl p n (done ++ [z])=if (z.2 - z.1) % p=(n:Int) then bySl p n done ++ [z] else bySl p n done:=by
 unfold bySl
 rw [List.filter_append]
 by_cases h:(z.2 - z.1) % p=(n:Int)
 · rw [if_pos h,List.filter_cons_of_pos (by simpa using h)];rfl
 · rw [if_neg h,List.filter_cons_of_neg (by simpa using h)];simp
theorem bySl_len (p:Int) (n:Nat) (done:List (Int×Int)):(bySl p n done).length≤done.length:=List.length_filter_le _ _
def slotV (vs:List Value) (n:Nat):Value:=vs[n]?.getD undef
def ownsB (vs:List Value) (b:Nat):Prop:=∃ n,n<17∧(slotV vs n).ownBlock=some b
structure Gat (B base:Nat) (p:Int) (css:List (List (List UInt8))) (gb:Nat) (done:List (Int×Int)) (X:World) (vs:List Value):Prop where
 blk:Blk X gb 300 vs.toArray
 len:vs.length=17
 row:∀ n,n<17→RowM (·<B) X base (slotV vs n) ((bySl p n done).map (cellI css))
 apart:∀ n m b,n<17→m<17→(slotV vs n).ownBlock=some b→(slotV vs m).ownBlock=some b→n=m
section
variable {B base:Nat} {p:Int} {css:List (List (List UInt8))} {gb:Nat} {done:List (Int×Int)} {X Y:World} {vs:List Value}
theorem Gat.kept (h:Gat B base p css gb done X vs) {row:Option Nat} (hg:X.grownBy Y row) (hr:∀ r,row=some r→r≠gb∧¬ ownsB vs r∧B≤r):Gat B base p css gb done Y vs where
 blk:=h.blk.grown hg fun e=>(hr _ e.symm).1 rfl
 len:=h.len
 row:=fun n hn=>RowG.kept (h.row n hn) hg (by
  cases hrow:row with
  | none=>exact (Option.eq_none_or_eq_some (slotV vs n).ownBlock).imp id (fun ⟨x,hx⟩=>by rw [hx];simp)
  | some r=>exact .inr (fun e=>(hr r hrow).2.1 ⟨n,hn,e⟩)) (fun b hb e=>by have:=(hr b e.symm).2.2;omega)
 apart:=h.apart
theorem Gat.below (h:Gat B base p css gb done X vs) (hb:Below X.heap.size X Y):Gat B base p css gb done Y vs:=h.kept (row:=none) (grown_below hb) fun r e=>by cases e
theorem Gat.far {β:Type} {B':Nat} (hgb:gb<B') (hB:B≤B') (f:β→List (Int×Int)):FarO B' (fun (s:β) o X=>∃ vs,Gat B base p css gb (f s) X vs∧o=ownsB vs):=fun s o X Y row ⟨vs,hs,ho⟩ hg hr =>
 ⟨vs,hs.kept hg fun r e=>⟨by have:=(hr r e).1;omega,by rw [←ho];exact (hr r e).2,by have:=(hr r e).1;omega⟩,ho⟩
theorem Gat.rowO (h:Gat B base p css gb done X vs):RowO (ownsB vs) X:=fun b ⟨n,hn,e⟩=>by
 obtain ⟨us,ho,_⟩:=h.row n hn
 rcases ho.2 with ⟨h1,_⟩ | ⟨g,cap,cur,h1,_,hg,_⟩
 · rw [h1] at e;cases e
 · rw [h1] at e
   injection e with e
   have e':g=b:=e
   subst e'
   exact ⟨_,_,_,hg⟩
theorem Gat.base_le (h:Gat B base p css gb done X vs) {b:Nat} (hb:ownsB vs b):base≤b:=by
 obtain ⟨n,hn,e⟩:=hb
 exact RowG.own_le (h.row n hn) b e
theorem slot_set (vs:List Value) (n:Nat) (v:Value) (hn:n<vs.length) (m:Nat):slotV (vs.set n v) m=if m=n then v else slotV vs m:=by
 unfold slotV
 by_cases h:m=n
 · subst h
   rw [if_pos rfl,List.getElem?_set_self hn];rfl
 · rw [if_neg h,List.getElem?_set_ne (Ne.symm h)]
theorem Gat.push (h:Gat B base p css gb done X vs) (hgb:gb<base) (hB:B≤gb) {z:Int×Int} {n:Nat} (hn:n<17) (hz:(z.2 - z.1) % p=(n:Int)) {v':Value} {w':World} (hrow:RowM (·<B) w' base v' ((bySl p n done).map (cellI css) ++ [cellI css z])) (hg:X.grownBy w' (slotV vs n).ownBlock)
 (ho:v'.ownBlock=(slotV vs n).ownBlock∨v'.ownBlock=some X.heap.size) :
 Gat B base p css gb (done ++ [z]) (w'.setCell ⟨gb,n,none⟩ v') (vs.set n v')∧FreshO (ownsB vs) (ownsB (vs.set n v')) X:=by
 have hset:w'.grownBy (w'.setCell ⟨gb,n,none⟩ v') (some gb):=⟨rfl,rfl,rfl,by simp,fun k _ hk=>Below.heap_setCell w' _ _ k (fun e=>hk (by rw [e]))⟩
 have hlt:∀ m b,m<17→(slotV vs m).ownBlock=some b→b<X.heap.size:=fun m b hm e=>by
  obtain ⟨us,hos,_⟩:=h.row m hm
  exact (World.ownsRow.lt hos b e).2
 have hfr:FreshO (ownsB vs) (ownsB (vs.set n v')) X:=fun b ⟨m,hm,e⟩=>by
  rw [slot_set vs n v' (by rw [h.len];exact hn)] at e
  by_cases hmn:m=n
  · rw [if_pos hmn] at e
    rcases ho with ho | ho
    · rw [ho] at e;exact .inl ⟨n,hn,e⟩
    · rw [ho] at e;injection e with e;exact .inr (by omega)
  · rw [if_neg hmn] at e
    exact .inl ⟨m,hm,e⟩
 refine ⟨⟨?_,by rw [List.length_set];exact h.len,fun m hm=>?_,fun m k b hm hk e1 e2=>?_⟩,hfr⟩
 · have hb:Blk w' gb 300 vs.toArray:=h.blk.grown hg fun e=>by
    have:=RowG.own_le (h.row n hn) gb e.symm
    omega
   have:=hb.set_ n v'
   rwa [List.setIfInBounds_toArray] at this
 · rw [slot_set vs n v' (by rw [h.len];exact hn),bySl_snoc]
   by_cases hmn:m=n
   · subst hmn
     rw [if_pos rfl,if_pos hz,List.map_append]
     refine RowG.kept hrow hset ?_ (fun b hb e=>by injection e with e;omega)
     rcases ho with ho | ho
     · rw [ho]
       cases hc:(slotV vs m).ownBlock with
       | none=>exact .inl rfl
       | some c=>exact .inr (fun e=>by injection e with e;have:=RowG.own_le (h.row m hn) c hc;omega)
     · rw [ho];exact .inr (fun e=>by injection e with e;have:=h.blk.lt;omega)
   · rw [if_neg hmn,if_neg (fun e=>hmn (by omega))]
     refine RowG.kept (RowG.kept (h.row m hm) hg ?_ (fun b hb e=>?_)) hset ?_ (fun b hb e=>by injection e with e;omega)
     · cases hc:(slotV vs m).ownBlock with
       | none=>exact .inl rfl
       | some c=>exact .inr (fun e=>hmn (h.apart m n c hm hn hc e.symm))
     · have:=RowG.own_le (h.row n hn) b e.symm
       omega
     · cases hc:(slotV vs m).ownBlock with
       | none=>exact .inl rfl
       | some c=>exact .inr (fun e=>by injection e with e;have:=RowG.own_le (h.row m hm) c hc;omega)
 · rw [slot_set vs n v' (by rw [h.len];exact hn)] at e1 e2
   by_cases h1:m=n
   · by_cases h2:k=n
     · rw [h1,h2]
     · rw [if_pos h1] at e1
       rw [if_neg h2] at e2
       rcases ho with ho | ho
       · rw [ho] at e1
         exact absurd (h.apart n k b hn hk e1 e2).symm h2
       · rw [ho] at e1
         injection e1 with e1
         have:=hlt k b hk e2
         omega
   · by_cases h2:k=n
     · rw [if_neg h1] at e1
       rw [if_pos h2] at e2
       rcases ho with ho | ho
       · rw [ho] at e2
         exact absurd (h.apart m n b hm hn e1 e2) h1
       · rw [ho] at e2
         injection e2 with e2
         have:=hlt m b hm e1
         omega
     · rw [if_neg h1] at e1
       rw [if_neg h2] at e2
       exact h.apart m k b hm hk e1 e2
theorem slot_at (h:Gat B base p css gb done X vs) {n:Nat} (hn:n<17):vs[n]?=some (slotV vs n):=by
 unfold slotV
 rw [List.getElem?_eq_getElem (by rw [h.len];exact hn)]
 rfl
theorem slot_cell (h:Gat B base p css gb done X vs) {n:Nat} (hn:n<17):X.cell? ⟨gb,n,none⟩=some (slotV vs n):=by
 rw [h.blk.cell n,List.getElem?_toArray,slot_at h hn]
end
theorem gat_none (B base:Nat) (p:Int) (css:List (List (List UInt8))) (gb:Nat) (X:World) (hb:Blk X gb 300 (List.replicate 17 (.slice none 0 0)).toArray):Gat B base p css gb [] X (List.replicate 17 (.slice none 0 0)):=by
 have hs:∀ n,n<17→slotV (List.replicate 17 (.slice none 0 0)) n = .slice none 0 0:=fun n hn=>by
  unfold slotV
  rw [List.getElem?_replicate,if_pos hn]
  rfl
 refine ⟨hb,by simp,fun n hn=>?_,fun n m b hn hm e _=>?_⟩
 · rw [hs n hn]
   exact RowG.nil _ _ _ _ _ _
 · rw [hs n hn] at e
   cases e
end Go.Proofs.YtknkdbincaonbaaGreatDoor.T
