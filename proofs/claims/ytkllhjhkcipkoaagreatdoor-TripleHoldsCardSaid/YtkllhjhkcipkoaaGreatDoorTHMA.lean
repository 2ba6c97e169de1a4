/- -/
import Derived.Test.YtkllhjhkcipkoaaGreatDoorRows
import Derived.WalkKit
import Derived.WalkSpells
import Derived.WalkLawsBesides
import Derived.Lib.Hide
import Derived.Below
import Derived.Laws.OwnMore
import Derived.Laws.Rows
import Derived.Deep.Draws
import Derived.RangeFuncNested
import Derived.RangeFuncBound
import Derived.RangeFuncCalls
import Derived.RangeFuncLeaves
import Derived.Shelf.Abstract
import Derived.Shelf.RegionOpen
import Derived.OwnWalkIn
import Derived.TacticsInMore
import Derived.LoopNIn
import Derived.LoopIn
import Derived.Maps.AppendAt
import Derived.ProofKit
import Derived.OpenShut
import Derived.Deep.DeepCutAuto
import Derived.Deep.RegionHeld3
import Derived.BigRegion
import Derived.Deep.QuietTactic
import Derived.BigQuiet
import Derived.Deep.RegionWith
import Derived.Outline
import Derived.WalkMore
import Derived.ScopeJumps
import Derived.IntWalk
import Derived.Deep.RegionLaw
import Derived.Sort.LoopGhostIn
set_option linter.unusedVariables false
set_option linter.unusedSimpArgs false
set_option maxRecDepth 100000
set_option maxHeartbeats 2000000
namespace Go.Proofs.YtkllhjhkcipkoaaGreatDoor
open Go.RowKit

def Blk (w:World) (g:Nat) (t:TypeId) (cs:Array Value):Prop:=w.heap[g]?=some (.cells cs t (0,0))

section
variable {w w':World} {g:Nat} {t:TypeId} {cs:Array Value}
theorem Blk.lt (h:Blk w g t cs):g<w.heap.size:=by
 rcases Nat.lt_or_ge g w.heap.size with hlt | hge
 · exact hlt
 · unfold Blk at h;rw [Array.getElem?_eq_none hge] at h;cases h
theorem Blk.cell (h:Blk w g t cs) (i:Nat):w.cell? ⟨g,i,none⟩=cs[i]?:=cell_of_row w g i cs t (0,0) h
theorem Blk.one {v:Value} (h:Blk w g t #[v]):w.cell? ⟨g,0,none⟩=some v:=(h.cell 0).trans rfl
theorem Blk.frozen (h:Blk w g t cs) (i:Nat):w.frozen? ⟨g,i,none⟩=false:=by
 unfold Blk at h
 simp [World.frozen?,h]
theorem Blk.new (w:World) (t:TypeId) (cs:Array Value):Blk (w.alloc (.cells cs t)) w.heap.size t cs:=heap_alloc_new w _
theorem Blk.alloc (h:Blk w g t cs) (o:Obj):Blk (w.alloc o) g t cs:=(Below.heap_alloc w o g h.lt).trans h
theorem Blk.drewN (h:Blk w g t cs) (n:Nat):Blk (w.drewN n) g t cs:=h
theorem Blk.set_ (h:Blk w g t cs) (i:Nat) (u:Value):Blk (w.setCell ⟨g,i,none⟩ u) g t (cs.setIfInBounds i u):=by
 unfold Blk at h ⊢
 simp [World.setCell,Array.getElem?_modify,h]
theorem Blk.far (h:Blk w g t cs) {p:Addr} (hp:g≠p.block) (u:Value):Blk (w.setCell p u) g t cs:=(Below.heap_setCell w p u g hp).trans h
theorem Blk.below {B:Nat} (h:Blk w g t cs) (hb:Below B w w') (hg:g<B):Blk w' g t cs:=(hb.block g hg).trans h
theorem Blk.grown {row:Option Nat} (h:Blk w g t cs) (hb:w.grownBy w' row) (hg:some g≠row):Blk w' g t cs:=(hb.block g h.lt hg).trans h
theorem Blk.own {β:Type} (g:Nat) (t:TypeId) (f:β→Array Value):Own (fun s W=>Blk W g t (f s)):=fun s X Y row hs hg hrow =>
 hs.grown hg (fun e'=>by obtain ⟨o,ho,hc⟩:=hrow g e'.symm;unfold Blk at hs;rw [hs] at ho;cases ho;cases hc)
end

theorem below_in {a b c:World} (h:Below a.heap.size a b) (k:Below b.heap.size b c):Below a.heap.size a c:=h.trans (k.mono h.size)
theorem addr_add (b off j:Nat):(⟨b,off,none⟩:Addr).add j=⟨b,off+j,none⟩:=by unfold Addr.add;split <;> simp_all

def Ints (B:Nat) (W:World) (v:Value) (l:List Int):Prop :=
 ∃ A cap,v = .slice A l.length cap∧l.length≤cap∧(0<l.length→∃ b off,A=some ⟨b,off,none⟩∧b<B∧∀ j,j<l.length→W.cell? ⟨b,off+j,none⟩=some (.int .i64 (l[j]?.getD 0)))
section
variable {W W':World} {B B':Nat} {v:Value} {l:List Int}
theorem Ints.keep (h:Ints B W v l) (hk:∀ p:Addr,p.block<B→W'.cell? p=W.cell? p):Ints B W' v l:=by
 obtain ⟨A,cap,e,hc,hA⟩:=h
 refine ⟨A,cap,e,hc,fun hp=>?_⟩
 obtain ⟨b,off,e2,hb,hcell⟩:=hA hp
 exact ⟨b,off,e2,hb,fun j hj=>(hk ⟨b,off+j,none⟩ hb).trans (hcell j hj)⟩
theorem Ints.below (h:Ints B W v l) (hb:Below B W W'):Ints B W' v l:=h.keep fun _ hp=>hb.cell hp
theorem Ints.more (h:Ints B W v l) (hB:B≤B'):Ints B' W v l:=by
 obtain ⟨A,cap,e,hc,hA⟩:=h
 refine ⟨A,cap,e,hc,fun hp=>?_⟩
 obtain ⟨b,off,e2,hb,hcell⟩:=hA hp
 exact ⟨b,off,e2,by omega,hcell⟩
theorem Ints.nil_ (B:Nat) (W:World) (A:Option Addr) (cap:Nat):Ints B W (.slice A 0 cap) []:=⟨A,cap,rfl,Nat.zero_le _,fun h=>absurd h (by simp)⟩
theorem Blk.ints {g:Nat} {t:TypeId} {zs:List Int} {n:Nat} (h:Blk W g t (zs.map (Value.int .i64)).toArray) (hn:zs.length=n):Ints W.heap.size W (.slice (some ⟨g,0,none⟩) n n) zs:=by
 subst hn
 refine ⟨_,_,rfl,Nat.le_refl _,fun _=>⟨g,0,rfl,h.lt,fun j hj=>?_⟩⟩
 rw [Nat.zero_add,h.cell j,List.getElem?_toArray,List.getElem?_map,List.getElem?_eq_getElem hj];rfl
end

def prm:List Int:=[3,5,7,11,13,17]
def prmCells:Array Value:=#[.int .i64 3,.int .i64 5,.int .i64 7,.int .i64 11,.int .i64 13,.int .i64 17]
def LaidAt (g:Nat) (cs:Array Value) (w:World):Prop:=∃ t fr,w.heap[g]?=some (.cells cs t fr)
theorem LaidAt.lt {g:Nat} {cs:Array Value} {w:World} (h:LaidAt g cs w):g<w.heap.size:=by
 obtain ⟨t,fr,h⟩:=h
 exact (Array.getElem?_eq_some_iff.1 h).1
theorem LaidAt.below {g:Nat} {cs:Array Value} {w w':World} {B:Nat} (h:LaidAt g cs w) (hb:Below B w w') (hB:g<B):LaidAt g cs w':=by
 obtain ⟨t,fr,h⟩:=h
 exact ⟨t,fr,(hb.block g hB).trans h⟩
theorem LaidAt.grown {g:Nat} {cs:Array Value} {w w':World} {row:Option Nat} (h:LaidAt g cs w) (hb:w.grownBy w' row) (hg:some g≠row):LaidAt g cs w':=by
 have hl:=h.lt
 obtain ⟨t,fr,h⟩:=h
 exact ⟨t,fr,(hb.block g hl hg).trans h⟩
theorem LaidAt.cell {g:Nat} {cs:Array Value} {w:World} (h:LaidAt g cs w) (i:Nat):w.cell? ⟨g,i,none⟩=cs[i]?:=by
 obtain ⟨t,fr,h⟩:=h
 exact cell_of_row w g i cs t fr h
def kindCells:Array Value:=#[.int .i64 0,.int .i64 0,.int .i64 0,.int .i64 2,.int .i64 1,.int .i64 2,.int .i64 0,.int .i64 3]
def Laid (w:World):Prop:=LaidAt 0 prmCells w∧LaidAt 1 kindCells w
theorem Laid.prm {w:World} (h:Laid w):LaidAt 0 prmCells w:=h.1
theorem Laid.kinds {w:World} (h:Laid w):LaidAt 1 kindCells w:=h.2
theorem Laid.next {w w':World} (h:Laid w) (hb:Below w.heap.size w w'):Laid w':=⟨h.1.below hb h.1.lt,h.2.below hb h.2.lt⟩
theorem own:ownKnob Tryz.prog.godebug=none:=by kernel_rfl
theorem laidOut:laidOutB Tryz.prog=true:=by kernel_rfl
theorem make_func:∀ (fn:Fn) (first cap:Array Value) (w:World),(Instr.makeFunc fn first cap).run Tryz.prog w = .ok (.func fn first cap) w:=fun _ _ _ _=>rfl
theorem ret_bool {a b:Bool} (h:a=b):Ending.returned (.bool a) = .returned (.bool b):=by rw [h]
theorem ret_i64 {a b:Int} (h:a=b):Ending.returned (.int .i64 a) = .returned (.int .i64 b):=by rw [h]
end Go.Proofs.YtkllhjhkcipkoaaGreatDoor

namespace Go.Proofs.YtkllhjhkcipkoaaGreatDoor
open Go.RowKit

theorem infoSix:(Tryz.prog.info? 175).map (·.size)=some 6:=by kernel_rfl

theorem prm_cells:prmCells=(prm.map (Value.int .i64)).toArray:=rfl

theorem primes_any (w:World) (hL:Laid w):Calls Tryz.prog 116 #[] w fun e w'=>∃ g,e = .returned (.slice (some ⟨g,0,none⟩) 6 6)∧Blk w' g 175 prmCells∧Below w.heap.size w w':=by
 obtain ⟨t,fr,hg⟩:=hL.prm
 unfold prmCells at hg
 go_enter Tryz.func116,Tryz.ntmps116
 go_wp2_with (refine wpList_load_row rfl 175 _ rfl 0 rfl t _ fr _ hg Tryz.underlying175 rfl infoSix ?_)
 go_ret
 exact ⟨_,rfl,Blk.new _ _ _,(Below.refl _ _).alloc (Nat.le_refl _) _⟩
end Go.Proofs.YtkllhjhkcipkoaaGreatDoor

namespace Go.Proofs.YtkllhjhkcipkoaaGreatDoor
open Go.RowKit

def Spares {β:Type} (B k:Nat) (I:β→World→Prop):Prop :=
 ∀ s X Y row,I s X→X.grownBy Y row→(∀ r,row=some r→B≤r∧r<B+k)→I s Y
def Keep (B k:Nat) (X Y:World):Prop:=X.heap.size≤Y.heap.size∧∀ b,B≤b→b<B+k→Y.heap[b]?=X.heap[b]?

section
variable {β:Type} {B k:Nat} {I I':β→World→Prop} {X Y Z:World}
theorem Spares.and (h:Spares B k I) (h':Spares B k I'):Spares B k (fun s W=>I s W∧I' s W):=fun s X Y row hs hg hr=>⟨h s X Y row hs.1 hg hr,h' s X Y row hs.2 hg hr⟩
theorem spares_pure (B k:Nat) (p:β→Prop):Spares B k (fun s (_:World)=>p s):=fun _ _ _ _ hs _ _=>hs
theorem spares_blk {g:Nat} (hg:g<B) (t:TypeId) (f:β→Array Value):Spares B k (fun s W=>Blk W g t (f s)):=fun _ _ _ _ hs hgr hr =>
 hs.grown hgr fun e=>by have:=(hr g e.symm).1;omega
theorem spares_below {n₀:Nat} {w:World} (hn:n₀≤w.heap.size) (hB:n₀≤B):Spares B k (fun (_:β) W=>Below n₀ w W):=fun _ _ _ _ hs hgr hr =>
 hs.grown hgr (Nat.le_trans hn hs.size) fun r e=>by have:=(hr r e).1;omega
theorem Spares.less {B' k':Nat} (h:Spares B k I) (h1:B≤B') (h2:B'+k'≤B+k):Spares B' k' I:=fun s X Y row hs hg hr=>h s X Y row hs hg fun r e=>by have:=hr r e;omega
theorem Keep.refl (B k:Nat) (X:World):Keep B k X X:=⟨Nat.le_refl _,fun _ _ _=>rfl⟩
theorem Keep.trans (h:Keep B k X Y) (h':Keep B k Y Z):Keep B k X Z:=⟨Nat.le_trans h.1 h'.1,fun b h1 h2=>(h'.2 b h1 h2).trans (h.2 b h1 h2)⟩
theorem Keep.setCell (X:World) {p:Addr} (hp:p.block<B) (v:Value):Keep B k X (X.setCell p v):=⟨by simp,fun b h1 _=>Below.heap_setCell X p v b (by omega)⟩
theorem Keep.setFar (X:World) {p:Addr} (hp:B+k≤p.block) (v:Value):Keep B k X (X.setCell p v):=⟨by simp,fun b _ h2=>Below.heap_setCell X p v b (by omega)⟩
theorem Keep.putFar (X:World) {l:Nat} (hl:B+k≤l) (o:Obj):Keep B k X (X.putObj l o):=⟨by simp [World.putObj],fun b _ h2=>World.putObj_heap_other (by omega)⟩
theorem Keep.blk {g:Nat} {t:TypeId} {cs:Array Value} (h:Keep B k X Y) (hb:Blk X g t cs) (h1:B≤g) (h2:g<B+k):Blk Y g t cs:=(h.2 g h1 h2).trans hb
theorem Keep.grown {row:Option Nat} (hg:X.grownBy Y row) (hX:B+k≤X.heap.size) (hr:∀ r,row=some r→r<B∨B+k≤r):Keep B k X Y :=
 ⟨hg.size,fun b h1 h2=>hg.block b (by omega) (fun e=>by have:=hr b e.symm;omega)⟩
theorem Keep.alloc {X:World} (h:B+k≤X.heap.size) (o:Obj):Keep B k X (X.alloc o):=⟨by simp,fun b _ h2=>Below.heap_alloc X o b (by omega)⟩
theorem Keep.drew (X:World):Keep B k X X.drew:=⟨Nat.le_refl _,fun _ _ _=>rfl⟩
theorem Keep.below {N:Nat} (h:Below N X Y) (hN:B+k≤N):Keep B k X Y:=⟨h.size,fun b _ h2=>h.block b (by omega)⟩
theorem Keep.putObj (X:World) {l:Nat} (hl:l<B) (o:Obj):Keep B k X (X.putObj l o):=⟨by simp [World.putObj],fun b h1 _=>World.putObj_heap_other (by omega)⟩
theorem Spares.put (h:Spares B k I) {s:β} {l:Nat} (hs:I s X) (h1:B≤l) (h2:l<B+k) (o:Obj):I s (X.putObj l o) :=
 h s X _ (some l) hs (grownBy_putObj' X l o) fun r e=>by injection e with e;omega
theorem Spares.lay (h:Spares B k I) {s:β} (hs:I s X) (o:Obj):I s (X.alloc o):=h s X _ none hs (World.grownBy_alloc X o none) fun r e=>by cases e
theorem Keep.less {B' k':Nat} (h:Keep B k X Y) (h1:B≤B') (h2:B'+k'≤B+k):Keep B' k' X Y:=⟨h.1,fun b h3 h4=>h.2 b (by omega) (by omega)⟩
end

def SeqOwn {α:Type} (F:Fence) (n:Nat) (P:Program) (gf:Nat) (lb:Array Value) (encs:α→Array Value) (k:Nat) (Kp:World→World→Prop) (S Sp:List α→Prop) (N:Nat) (w:World):Prop :=
 ∀ (l:Nat) (J Jx:List α→World→Prop) (W:World),Below w.heap.size w W→Spares W.heap.size k J→Spares W.heap.size k Jx →
  (∀ pre x W1,J pre W1→pre.length<N→W.heap.size+k≤W1.heap.size→YieldAt F (n - 1) P l (encs x) W1 fun e W' =>
   (e = .returned (.bool true)∧J (pre ++ [x]) W'∧Kp W1 W'∧Keep W.heap.size k W1 W')∨(e = .returned (.bool false)∧Jx (pre ++ [x]) W')) →
  J [] W →
  CallsIn F n P gf (#[.func (.yield l) #[] #[]] ++ lb) W fun e W'=>(∃ v,e = .returned v)∧((∃ xs,S xs∧J xs W')∨(∃ pre,Sp pre∧Jx pre W'))

def postR {α:Type} (B k:Nat) (Kp:World→World→Prop) (I:List α→World→Prop) (Ix:Code→List α→World→Prop) (xs:List α) (W:World):Exit→Act→World→Prop
 | .normal,_,W'=>Keep B k W W'∧Kp W W'∧I xs W'
 | .ret,_,W'=>Keep B k W W'∧Ix .ret xs W'
 | .exit id,_,W'=>Keep B k W W'∧Ix (.exit id) xs W'
 | .goto t,_,W'=>Keep B k W W'∧Ix (.goto t) xs W'
 | .panic _,_,_=>False
 | .outgrown,_,_=>False

def Held (rec:LoopState→Option Code→Loop) (D:Nat) (st:LoopState) (pe:Option Code) (W:World):Prop :=
 W.heap[D+1]?=some (.loop (rec st pe))∧W.heap[D]?=some (.deferred (some []))
theorem Held.keep {rec:LoopState→Option Code→Loop} {D B k:Nat} {st:LoopState} {pe:Option Code} {X Y:World} (h:Held rec D st pe X) (hk:Keep B k X Y) (h1:B≤D) (h2:D+1<B+k):Held rec D st pe Y :=
 ⟨(hk.2 _ (by omega) h2).trans h.1,(hk.2 _ h1 (by omega)).trans h.2⟩
theorem Held.lt {rec:LoopState→Option Code→Loop} {D:Nat} {st:LoopState} {pe:Option Code} {X:World} (h:Held rec D st pe X):D+1<X.heap.size:=(Array.getElem?_eq_some_iff.1 h.1).1
theorem Held.turn {rec:LoopState→Option Code→Loop} {D:Nat} {st:LoopState} {pe:Option Code} {X:World} (h:Held rec D st pe X) (st':LoopState) (pe':Option Code):Held rec D st' pe' (X.putObj (D+1) (.loop (rec st' pe'))) :=
 ⟨World.putObj_heap_same h.lt,(World.putObj_heap_other (by omega)).trans h.2⟩
theorem held_spares (rec:LoopState→Option Code→Loop) (D:Nat) (st:LoopState) (pe:Option Code) {β:Type} (k:Nat):Spares (D+2) k (fun (_:β) W=>Held rec D st pe W):=fun _ X Y _ hs hg hr =>
 ⟨(hg.block _ hs.lt (fun e=>by have:=(hr _ e.symm).1;omega)).trans hs.1,(hg.block D (by have:=hs.lt;omega) (fun e=>by have:=(hr _ e.symm).1;omega)).trans hs.2⟩

theorem wpIn_rangeOwn {α:Type} {F:Fence} {n:Nat} {P:Program} {g:Operand} {ps:Array Tmp} {assign body:Code} {Q:Exit→Act→World→Prop} {a:Act} {w:World}
 (hro:F.round=none) (h1:1≤n) {gf:Nat} {lb:Array Value} (hg:a.eval g = .func (.func gf) #[] lb) (hFg:F.fn gf) (eg:∀ args w,(callFunc gf args).run P w = .ok (.enter gf args) w)
 {encs:α→Array Value} {k:Nat} {Kp:World→World→Prop} {S Sp:List α→Prop} {N:Nat} {w0:World} (hseq:SeqOwn F (n - 1) P gf lb encs k Kp S Sp N w0)
 (hKt:∀ {A B C:World},Kp A B→Kp B C→Kp A C) (hKb:∀ (W:World) (l:Nat) (o:Obj),w.heap.size≤l→Kp W (W.putObj l o)) (hb0:Below w0.heap.size w0 w) (hps:∀ x,(encs x).size=ps.size)
 (I:List α→World→Prop) (Ix:Code→List α→World→Prop) (hI:Spares w.heap.size (2+k) I) (hIx:∀ c,Spares w.heap.size (2+k) (Ix c)) (h0:I [] w)
 (Ax:α→Act→World→Prop) (hAx:∀ x a',Spares w.heap.size (2+k) (fun (_:Unit) W=>Ax x a' W))
 (hassign:∀ (l:Nat) (pre:List α) (x:α) (W:World) (K:Act→World→Prop),w.heap.size+(2+k)≤W.heap.size→I pre W→(∀ a' W',Keep w.heap.size (2+k) W W'→Kp W W'→I pre W'→Ax x a' W'→K a' W') →
  assign.wpIn (F.inRound l) (n - 1 - 1) P (Exit.then K (fun _ _ _=>False)) { tmps:=(ps.zip (encs x)).foldl (fun t (p,v)=>t.setIfInBounds p v) a.tmps,defers:=[] } W)
 (hbody:∀ (l:Nat) (pre:List α) (x:α) (a':Act) (W:World),w.heap.size≤l→(∃ r,W.heap[l]?=some (.loop r))→w.heap.size+(2+k)≤W.heap.size→I pre W→Ax x a' W→pre.length<N →
  body.wpIn (F.inRound l) (n - 1 - 1) P (postR w.heap.size (2+k) Kp I Ix (pre ++ [x]) W) a' W)
 (hdone:∀ (D:Nat) (xs:List α) (W:World),w.heap.size≤D→S xs→I xs W→W.heap[D]?=some (.deferred (some []))→Q .normal { a with defers:={ target:=.collected D,args:=#[] } :: a.defers } W)
 (hstop:∀ (D:Nat) (c:Code) (pre:List α) (W:World),w.heap.size≤D→Sp pre→Ix c pre W→W.heap[D]?=some (.deferred (some []))→c.wpIn F n P Q { a with defers:={ target:=.collected D,args:=#[] } :: a.defers } W) :
 (Code.rangeFunc g ps assign body).wpIn F n P Q a w:=by
 refine wpIn_rangeFunc fun fn hfn=>?_
 rw [hro]
 obtain ⟨rec,hrec⟩:∃ rec:LoopState→Option Code→Loop,rec=fun st pe=>{ state:=st,pending:=pe,fn,tmps:=a.tmps,params:=ps,assign,body,defers:=w.heap.size }:=⟨_,rfl⟩
 obtain ⟨W1,hW1⟩:∃ W1,(w.alloc (.deferred (some []))).alloc (.loop (rec .ready none))=W1:=⟨_,rfl⟩
 have s1:W1.heap.size=w.heap.size+2:=by rw [←hW1];simp
 have H1:Held rec w.heap.size .ready none W1:=by
  rw [←hW1]
  refine ⟨?_,(Below.heap_alloc _ _ _ (by simp)).trans (World.alloc_heap_new w _)⟩
  have:=World.alloc_heap_new (w.alloc (.deferred (some []))) (.loop (rec .ready none))
  rwa [World.size_alloc] at this
 have I1:I [] W1:=by rw [←hW1];exact hI.lay (hI.lay h0 _) _
 have B1:Below w0.heap.size w0 W1:=by
  rw [←hW1];exact hb0.trans ((((Below.refl _ w).alloc (Nat.le_refl _) _).alloc (by simp) _).mono hb0.size)
 refine ⟨w.heap.size+1,[{ target:=.collected w.heap.size,args:=#[] }],W1,{ target:=.fn (.func gf) lb,args:=#[.func (.yield (w.heap.size+1)) #[] #[]] },W1,gf,
  #[.func (.yield (w.heap.size+1)) #[] #[]] ++ lb,W1,?_,?_,?_,?_,fun _=>h1,?_⟩
 · rw [←hW1,hrec];exact run_enterLoop_outer _ _ _ _ _
 · simp only [resolve,hg]
   simp [go_sem]
 · intro f' hf'
   simp [Target.leads] at hf'
   exact hf'▸hFg
 · simp [invoke,go_sem,eg]
 have hI':Spares W1.heap.size k I:=hI.less (by omega) (by omega)
 have hH:=fun st pe=>(s1▸held_spares rec w.heap.size st pe (β:=List α) k:Spares W1.heap.size k _)
 refine (hseq (w.heap.size+1) (fun pre W=>I pre W∧Held rec w.heap.size .ready none W) (fun pre W=>∃ c,Ix c pre W∧Held rec w.heap.size .done (some c) W) W1 B1 (hI'.and (hH _ _))
  (fun s X Y row hs hgr hr=>by
   obtain ⟨c,hc,hh⟩:=hs
   exact ⟨c,(hIx c).less (by omega) (by omega) s X Y row hc hgr hr,hH _ _ s X Y row hh hgr hr⟩) ?_ ⟨I1,H1⟩).mono ?_
 · rintro pre x W ⟨hi,hh⟩ hlen hsz
   rw [s1] at hsz
   have hy:=run_yield (P:=P) (args:=encs x) hh.1 (by rw [hrec];exact hps x)
   rw [hrec] at hy
   refine ⟨fn,_,assign,body,hy,roundIn_of_wpIn hfn (hassign _ pre x W _ (by omega) hi ?_)⟩
   intro a' Wa hka hpa hia hax
   have ha:=hh.keep hka (Nat.le_refl _) (by omega)
   have hb:=ha.turn .busy none
   have hbegin:=run_beginRound (P:=P) ha.1 (by rw [hrec])
   have ebusy:({ rec .ready none with state:=.busy }:Loop)=rec .busy none:=by rw [hrec]
   rw [ebusy] at hbegin
   refine ⟨_,hbegin,?_⟩
   have hsa:=hka.1
   have hsb:(Wa.putObj (w.heap.size+1) (.loop (rec .busy none))).heap.size=Wa.heap.size:=by simp [World.putObj]
   refine wpIn_mono (hbody _ pre x a' _ (by omega) ⟨_,hb.1⟩ (by rw [hsb];omega) (hI.put hia (by omega) (by omega) _) ((hAx x a').put (s:=()) hax (by omega) (by omega) _) hlen) ?_
   have fin:∀ (jump:Option Code) (W3:World),Keep w.heap.size (2+k) (Wa.putObj (w.heap.size+1) (.loop (rec .busy none))) W3 →
    (Instr.endRound (w.heap.size+1) jump).run P W3 = .ok (.bool jump.isNone) (W3.putObj (w.heap.size+1) (.loop (rec (if jump.isNone then .ready else .done) jump))) ∧
    Held rec w.heap.size (if jump.isNone then .ready else .done) jump (W3.putObj (w.heap.size+1) (.loop (rec (if jump.isNone then .ready else .done) jump))):=fun jump W3 hk3=>by
    have h3:=hb.keep hk3 (Nat.le_refl _) (by omega)
    have he:=run_endRound (P:=P) jump h3.1
    have e2:({ rec .busy none with state:=if jump.isNone then .ready else .done,pending:=jump }:Loop)=rec (if jump.isNone then .ready else .done) jump:=by rw [hrec]
    rw [e2] at he
    exact ⟨he,h3.turn _ _⟩
   have keepAll:∀ (o:Obj) (W3:World),Keep w.heap.size (2+k) (Wa.putObj (w.heap.size+1) (.loop (rec .busy none))) W3→Keep W1.heap.size k W (W3.putObj (w.heap.size+1) o):=fun o W3 hk3 =>
    (((hka.less (by omega) (by omega)).trans (Keep.putObj Wa (by omega) _)).trans (hk3.less (by omega) (by omega))).trans (Keep.putObj W3 (by omega) _)
   intro e a3 W3 hp
   cases e with
   | normal =>
     obtain ⟨hk3,hp3,hi3⟩:=hp
     obtain ⟨he,h4⟩:=fin none W3 hk3
     exact ⟨_,_,he,.inl ⟨rfl,⟨hI.put hi3 (by omega) (by omega) _,h4⟩,hKt hpa (hKt (hKb _ _ _ (by omega)) (hKt hp3 (hKb _ _ _ (by omega)))),keepAll _ _ hk3⟩⟩
   | ret =>
     obtain ⟨he,h4⟩:=fin (some .ret) W3 hp.1
     exact ⟨_,_,he,.inr ⟨rfl,.ret,(hIx _).put hp.2 (by omega) (by omega) _,h4⟩⟩
   | exit id =>
     obtain ⟨he,h4⟩:=fin (some (.exit id)) W3 hp.1
     exact ⟨_,_,he,.inr ⟨rfl,.exit id,(hIx _).put hp.2 (by omega) (by omega) _,h4⟩⟩
   | goto t =>
     obtain ⟨he,h4⟩:=fin (some (.goto t)) W3 hp.1
     exact ⟨_,_,he,.inr ⟨rfl,.goto t,(hIx _).put hp.2 (by omega) (by omega) _,h4⟩⟩
   | panic ch=>exact hp.elim
   | outgrown=>exact hp.elim
 · rintro e W2 ⟨⟨v,rfl⟩,(⟨xs,hS,hi,hh⟩ | ⟨pre,hSp,c,hc,hh⟩)⟩
   · have he:=run_endLoop (P:=P) hh.1 (by rw [hrec];simp)
     rw [show (rec .ready none).pending=none by rw [hrec]] at he
     exact ⟨none,_,he,hdone _ xs _ (Nat.le_refl _) hS (hI.put hi (by omega) (by omega) _) ((World.putObj_heap_other (by omega)).trans hh.2)⟩
   · have he:=run_endLoop (P:=P) hh.1 (by rw [hrec];simp)
     rw [show (rec .done (some c)).pending=some c by rw [hrec]] at he
     exact ⟨some c,_,he,hstop _ c pre _ (Nat.le_refl _) hSp ((hIx c).put hc (by omega) (by omega) _) ((World.putObj_heap_other (by omega)).trans hh.2)⟩

theorem wpIn_rangeOwn1 {α:Type} {F:Fence} {n:Nat} {P:Program} {g:Operand} {ps:Array Tmp} {assign body:Code} {Q:Exit→Act→World→Prop} {a:Act} {w:World}
 (hro:F.round=none) (h1:1≤n) {gf:Nat} {lb:Array Value} (hg:a.eval g = .func (.func gf) #[] lb) (hFg:F.fn gf) (eg:∀ args w,(callFunc gf args).run P w = .ok (.enter gf args) w)
 {encs:α→Array Value} {k lo m:Nat} {S Sp:List α→Prop} {N:Nat} {w0:World} (hseq:SeqOwn F (n - 1) P gf lb encs k (Keep lo m) S Sp N w0) (hlo:lo+m≤w.heap.size)
 (hb0:Below w0.heap.size w0 w) (hps:∀ x,(encs x).size=ps.size)
 (I:List α→World→Prop) (Ix:Code→List α→World→Prop) (hI:Spares w.heap.size (2+k) I) (hIx:∀ c,Spares w.heap.size (2+k) (Ix c)) (h0:I [] w) (a₁:α→Act)
 (hassign:∀ (l:Nat) (x:α) (W:World) (K:Act→World→Prop),K (a₁ x) W →
  assign.wpIn (F.inRound l) (n - 1 - 1) P (Exit.then K (fun _ _ _=>False)) { tmps:=(ps.zip (encs x)).foldl (fun t (p,v)=>t.setIfInBounds p v) a.tmps,defers:=[] } W)
 (hbody:∀ (l:Nat) (pre:List α) (x:α) (W:World),w.heap.size+(2+k)≤W.heap.size→I pre W→pre.length<N →
  body.wpIn (F.inRound l) (n - 1 - 1) P (postR w.heap.size (2+k) (Keep lo m) I Ix (pre ++ [x]) W) (a₁ x) W)
 (hdone:∀ (D:Nat) (xs:List α) (W:World),w.heap.size≤D→S xs→I xs W→W.heap[D]?=some (.deferred (some []))→Q .normal { a with defers:={ target:=.collected D,args:=#[] } :: a.defers } W)
 (hstop:∀ (D:Nat) (c:Code) (pre:List α) (W:World),w.heap.size≤D→Sp pre→Ix c pre W→W.heap[D]?=some (.deferred (some []))→c.wpIn F n P Q { a with defers:={ target:=.collected D,args:=#[] } :: a.defers } W) :
 (Code.rangeFunc g ps assign body).wpIn F n P Q a w :=
 wpIn_rangeOwn hro h1 hg hFg eg hseq (fun h h'=>h.trans h') (fun W l o hl=>Keep.putFar W (by omega) o) hb0 hps I Ix hI hIx h0
  (fun x a' _=>a'=a₁ x) (fun _ _ _ _ _ _ hs _ _=>hs) (fun l pre x W K _ hi hK=>hassign l x W K (hK _ _ (Keep.refl _ _ _) (Keep.refl _ _ _) hi rfl))
  (fun l pre x a' W _ _ hsz hi e hlen=>by subst e;exact hbody l pre x W hsz hi hlen) hdone hstop
end Go.Proofs.YtkllhjhkcipkoaaGreatDoor

namespace Go.Proofs.YtkllhjhkcipkoaaGreatDoor
open Go.RowKit Go.Shelf
attribute [local go_sem] Oper.semAt_some

theorem take_next (zs:List Int) {k:Nat} (hk:k<zs.length):zs.take (k+1)=zs.take k ++ [zs[k]?.getD 0]:=by
 rw [List.take_succ_eq_append_getElem hk,List.getElem?_eq_getElem hk];rfl

def Goes (lo n₀:Nat) (gf:Nat) (lb:Array Value) (zs:List Int) (w:World):Prop :=
 ∃ k,∀ n,1≤n→SeqOwn Fence.wide n Tryz.prog gf lb (fun x:Int=>#[Value.int .i64 x]) k (Keep lo (n₀ - lo)) (fun ys=>ys=zs) (fun pre=>pre <+: zs) zs.length w
theorem Goes.later {lo n₀ gf:Nat} {lb:Array Value} {zs:List Int} {w w':World} (h:Goes lo n₀ gf lb zs w) (hb:Below w.heap.size w w'):Goes lo n₀ gf lb zs w':=by
 obtain ⟨k,h⟩:=h
 exact ⟨k,fun n hn l J Jx W hW hJ hJx hY h0=>h n hn l J Jx W (below_in hb hW) hJ hJx hY h0⟩

theorem values_any (A:Option Addr) (len cap:Nat) (w:World) :
 Calls Tryz.prog 115 #[.slice A len cap] w fun e w'=>e = .returned (.func (.func 139) #[] #[.pointer (some ⟨w.heap.size,0,none⟩)])∧w.alloc (.cells #[.slice A len cap] 30)=w':=by
 have hmf:=make_func
 go_enter Tryz.func115,Tryz.ntmps115
 go_wp2
 go_ret
 exact ⟨rfl,rfl⟩

theorem values1_in (n:Nat) (hn:1≤n) (l Bs lo m g:Nat) (zs:List Int) (hlen:zs.length≤1000000) (hg1:lo≤g) (hg2:g<lo+m) (J Jx:List Int→World→Prop)
 (hY:∀ pre x W,J pre W→pre.length<zs.length→YieldAt Fence.wide (n - 1) Tryz.prog l #[.int .i64 x] W fun e W'=>(e = .returned (.bool true)∧J (pre ++ [x]) W'∧Keep lo m W W')∨(e = .returned (.bool false)∧Jx (pre ++ [x]) W'))
 (W:World) (hBs:W.cell? ⟨Bs,0,none⟩=some (.slice (some ⟨g,0,none⟩) zs.length zs.length)) (hc:∀ j,j<zs.length→W.cell? ⟨g,j,none⟩=some (.int .i64 (zs[j]?.getD 0))) (h0:J [] W) :
 CallsIn Fence.wide n Tryz.prog 139 #[.func (.yield l) #[] #[],.pointer (some ⟨Bs,0,none⟩)] W fun e W'=>(∃ v,e = .returned v)∧((∃ ys,ys=zs∧J ys W')∨(∃ pre,pre <+: zs∧Jx pre W')):=by
 refine callsIn_of_wp Tryz.func139 rfl trivial ?_ rfl
 simp only [Tryz.ntmps139,List.size_toArray,List.length_cons,List.length_nil,Nat.reduceAdd,Nat.reduceSub,Array.replicate_succ,Array.replicate_zero,List.push_toArray,List.append_toArray,List.nil_append,List.cons_append]
 gi_wp2
 gi_loopw [7] (fun i wr=>∃ k:Nat,k≤zs.length∧i = .int .i64 k∧J (zs.take k) wr∧Keep lo m W wr) (fun i _=>zs.length - (intOf i).toNat)
 case atStart=>exact ⟨0,Nat.zero_le _,rfl,h0,Keep.refl _ _ _⟩
 case round =>
  obtain ⟨k,hk,rfl,hJs,hnx⟩:=hrel
  by_cases hlt:k<zs.length
  · have hcx:wr.cell? ⟨g,k,none⟩=some (.int .i64 (zs[k]?.getD 0)):=(World.cell?_of_block (hnx.2 g hg1 hg2)).trans (hc k hlt)
    have HT:=Lib.hid (take_next zs hlt)
    clear hc
    generalize zs[k]?.getD 0=x at hcx HT
    obtain ⟨fn,tmps,assign,body,hy,hR⟩:=hY _ x wr hJs (by rw [List.length_take];omega)
    gi_wp2
    refine hR.mono ?_
    rintro e W3 (⟨rfl,hJ3,hk3⟩ | ⟨rfl,hJx3⟩)
    · gi_wp2
      go_roundw
      case rel=>exact ⟨k+1,by omega,by go_num,by rw [HT.out];exact hJ3,hnx.trans hk3⟩
      case measure=>simp [intOf];omega
    · gi_wp2
      refine bodyPost_ret (results_none rfl _ _ _) rfl ?_
      exact ⟨⟨_,rfl⟩,.inr ⟨_,by rw [←HT.out];exact List.take_prefix _ _,hJx3⟩⟩
  · obtain rfl:k=zs.length:=by omega
    rw [List.take_length] at hJs
    gi_wp2
    go_end0
    exact ⟨⟨_,rfl⟩,.inl ⟨_,rfl,hJs⟩⟩

theorem values_goes (Bs lo n₀ g:Nat) (zs:List Int) (hlen:zs.length≤1000000) (w:World) (hg1:lo≤g) (hg:g<n₀) (hn₀:n₀≤w.heap.size) (hBs:Bs<w.heap.size)
 (hc:w.cell? ⟨Bs,0,none⟩=some (.slice (some ⟨g,0,none⟩) zs.length zs.length)) (hM:∀ j,j<zs.length→w.cell? ⟨g,j,none⟩=some (.int .i64 (zs[j]?.getD 0))) :
 Goes lo n₀ 139 #[.pointer (some ⟨Bs,0,none⟩)] zs w:=⟨0,fun n hn l J Jx W hW _ _ hY h0 =>
 values1_in n hn l Bs lo (n₀ - lo) g zs hlen hg1 (by omega) (fun pre W'=>J pre W'∧W.heap.size≤W'.heap.size) Jx
  (fun pre x W1 hJ hl=>(hY pre x W1 hJ.1 hl hJ.2).mono fun _ _ h=>h.imp (fun h=>⟨h.1,⟨h.2.1,Nat.le_trans hJ.2 h.2.2.1.1⟩,h.2.2.1⟩) id) W ((hW.cell (p:=⟨Bs,0,none⟩) hBs).trans hc)
  (fun j hj=>(hW.cell (p:=⟨g,j,none⟩) (Nat.lt_of_lt_of_le hg hn₀)).trans (hM j hj)) ⟨h0,Nat.le_refl _⟩ |>.mono fun _ _ h=>⟨h.1,h.2.imp (fun ⟨ys,e,h⟩=>⟨ys,e,h.1⟩) id⟩⟩

def ahead (s:Int) (zs:List Int):Nat:=if s∈zs then zs.idxOf s else 0
theorem ahead_of {s:Int} {zs pre:List Int} (h:pre ++ [s] <+: zs) (hs:s∉pre):s∈zs∧ahead s zs=pre.length:=by
 obtain ⟨t,rfl⟩:=h
 have hm:s∈pre ++ [s] ++ t:=by simp
 refine ⟨hm,?_⟩
 unfold ahead
 rw [if_pos hm,List.append_assoc,List.idxOf_append,if_neg hs,List.singleton_append,List.idxOf_cons_self];omega
theorem ahead_none {s:Int} {zs:List Int} (hs:s∉zs):ahead s zs=0:=if_neg hs

theorem first_any (s:Int) (gf:Nat) (lb:Array Value) (zs:List Int) (hlen:zs.length≤1000000) (w:World) (eg:Enters Tryz.prog gf) (lo:Nat) (hlo:lo≤w.heap.size) (hs:Goes lo w.heap.size gf lb zs w) :
 Calls Tryz.prog 114 #[.int .i64 s,.func (.func gf) #[] lb] w fun e w'=>e = .returned (.tuple #[.int .i64 (ahead s zs:Nat),.bool (decide (s∈zs))])∧Below w.heap.size w w':=by
 refine (callsIn_wide (n:=5)).1 ?_
 refine callsIn_of_wp_marks Tryz.func114 rfl trivial ?_ rfl
 simp only [Tryz.ntmps114,List.size_toArray,List.length_cons,List.length_nil,Nat.reduceAdd,Nat.reduceSub,Array.replicate_succ,Array.replicate_zero,List.push_toArray,List.append_toArray,List.nil_append,List.cons_append]
 gi_wp2
 obtain ⟨W0,hW0⟩:∃ W0,((w.alloc (.cells #[.int .i64 s] 3)).alloc (.cells #[.int .i64 0] 3)).alloc (.cells #[.bool false] 4)=W0:=⟨_,rfl⟩
 have b0:Blk W0 w.heap.size 3 #[.int .i64 s]:=by rw [←hW0];exact ((Blk.new w _ _).alloc _).alloc _
 have b1:Blk W0 (w.heap.size+1) 3 #[.int .i64 0]:=by
  rw [←hW0];have:=(Blk.new (w.alloc (.cells #[.int .i64 s] 3)) 3 #[.int .i64 0]).alloc (.cells #[.bool false] 4);rwa [World.size_alloc] at this
 have b2:Blk W0 (w.heap.size+1+1) 4 #[.bool false]:=by
  rw [←hW0];have:=Blk.new ((w.alloc (.cells #[.int .i64 s] 3)).alloc (.cells #[.int .i64 0] 3)) 4 #[.bool false];rwa [World.size_alloc,World.size_alloc] at this
 have hB0:Below w.heap.size w W0:=by rw [←hW0];exact (((Below.refl _ w).alloc (Nat.le_refl _) _).alloc (by simp) _).alloc (by simp;omega) _
 have hz0:W0.heap.size=w.heap.size+3:=by rw [←hW0];simp
 rw [hW0]
 clear hW0
 obtain ⟨kk,hs⟩:=hs.later hB0
 refine wpIn_rangeOwn1 rfl (by omega) (gf:=gf) (lb:=lb) rfl trivial eg (hs _ (by omega)) (by omega) (Below.refl _ _) (fun _=>rfl)
  (fun pre W=>s∉pre∧Blk W w.heap.size 3 #[.int .i64 s]∧Blk W (w.heap.size+1) 3 #[.int .i64 (pre.length:Int)]∧Blk W (w.heap.size+1+1) 4 #[.bool false]∧Below w.heap.size w W)
  (fun c pre W=>c = .ret∧(∃ q,pre=q ++ [s]∧s∉q∧Blk W (w.heap.size+1) 3 #[.int .i64 (q.length:Int)])∧Blk W (w.heap.size+1+1) 4 #[.bool true]∧Below w.heap.size w W)
  ?hI ?hIx ⟨by simp,b0,b1,b2,hB0⟩
  (fun x=>{ tmps:=#[.int .i64 s,.func (.func gf) #[] lb,.pointer (some ⟨w.heap.size,0,none⟩),undef,.pointer (some ⟨w.heap.size+1,0,none⟩),.pointer (some ⟨w.heap.size+1+1,0,none⟩),.int .i64 x,.func (.func gf) #[] lb,.int .i64 x,undef,undef,undef,undef,undef,undef],defers:=[] }) ?assign ?body ?done ?stop
 case hI =>
  exact (spares_pure _ _ _).and ((spares_blk (by omega) _ (fun _:List Int=>#[.int .i64 s])).and ((spares_blk (by omega) _ (fun pre:List Int=>#[.int .i64 (pre.length:Int)])).and ((spares_blk (by omega) _ (fun _:List Int=>#[.bool false])).and (spares_below (Nat.le_refl _) (by omega)))))
 case hIx =>
  rintro c pre X Y row ⟨hc,⟨q,e1,e2,e3⟩,hb,hB⟩ hg hr
  exact ⟨hc,⟨q,e1,e2,spares_blk (by omega) _ (fun q:List Int=>#[.int .i64 (q.length:Int)]) q X Y row e3 hg hr⟩,spares_blk (by omega) _ (fun _:Unit=>#[.bool true]) () X Y row hb hg hr,spares_below (Nat.le_refl _) (by omega) () X Y row hB hg hr⟩
 case assign =>
  intro l x W K hK
  gi_wp2
  exact hK
 case body =>
  rintro l pre x W hsz ⟨hn,h0,h1,h2,hB⟩ hl
  have c0:=h0.one
  have c1:=h1.one
  have c2:=h2.one
  have f1:=h1.frozen 0
  have f2:=h2.frozen 0
  by_cases hx:x=s
  · subst hx
    have hd:((x:Int) == x)=true:=by simp
    gi_wp2
    refine ⟨(Keep.setCell _ (by simp;omega) _).trans (Keep.setCell _ (by simp;omega) _),rfl,⟨pre,rfl,hn,?_⟩,?_,?_⟩
    · exact (h1.set_ 0 _).far (by simp) _
    · exact (h2.far (by simp) _).set_ 0 _
    · exact (hB.setCell (by simp) _).setCell (by simp;omega) _
  · have hd:((x:Int) == s)=false:=by simpa using hx
    have HL:Hid (((pre ++ [x]).length:Int)=(pre.length:Int)+1):=by unfold Hid;rw [List.length_append];simp
    gi_wp2
    refine ⟨Keep.setCell _ (by simp;omega) _,Keep.setFar _ (by simp;omega) _,?_,h0.far (by simp) _,?_,h2.far (by simp) _,hB.setCell (by simp) _⟩
    · rw [List.mem_append,List.mem_singleton]
      exact fun h=>h.elim hn fun e=>hx e.symm
    · rw [HL.out]
      exact h1.set_ 0 _
 case done =>
  rintro D ys W hD rfl ⟨hn,h0,h1,h2,hB⟩ hK
  have c1:=h1.one
  have c2:=h2.one
  have f1:=h1.frozen 0
  have f2:=h2.frozen 0
  gi_wp2
  have hK':=((KeepsOthers.setCell W ⟨w.heap.size+1,0,none⟩ (.int .i64 0)).trans (KeepsOthers.setCell _ ⟨w.heap.size+1+1,0,none⟩ (.bool false))).same D _ hK rfl
  refine ⟨by simp,.inl ⟨_,_,rfl,run_takeDeferred hK',?_⟩⟩
  have g1:Blk (((W.setCell ⟨w.heap.size+1,0,none⟩ (.int .i64 0)).setCell ⟨w.heap.size+1+1,0,none⟩ (.bool false)).putObj D (.deferred none)) (w.heap.size+1) 3 #[.int .i64 0] :=
   Blk.own (w.heap.size+1) 3 (fun _:Unit=>#[.int .i64 0]) () _ _ _ ((h1.set_ 0 _).far (by simp) _) (grownBy_putObj' _ D (.deferred none)) (fun r e=>by cases e;exact ⟨_,hK',rfl⟩)
  have g2:Blk (((W.setCell ⟨w.heap.size+1,0,none⟩ (.int .i64 0)).setCell ⟨w.heap.size+1+1,0,none⟩ (.bool false)).putObj D (.deferred none)) (w.heap.size+1+1) 4 #[.bool false] :=
   Blk.own (w.heap.size+1+1) 4 (fun _:Unit=>#[.bool false]) () _ _ _ ((h2.far (by simp) _).set_ 0 _) (grownBy_putObj' _ D (.deferred none)) (fun r e=>by cases e;exact ⟨_,hK',rfl⟩)
  have d1:=g1.one
  have d2:=g2.one
  refine ⟨.tuple #[.int .i64 0,.bool false],by simp [results,Tryz.results114,go_sem,d1,d2],?_,?_⟩
  · rw [ahead_none hn,decide_eq_false hn];rfl
  · exact ((hB.setCell (by simp) _).setCell (by simp;omega) _).trans (belowK_b (w:=w) (Nat.le_refl _) _ D _ _ (by omega) hK' rfl rfl)
 case stop =>
  rintro D c pre W hD hpre ⟨rfl,⟨q,rfl,hq,h1⟩,h2,hB⟩ hK
  have c1:=h1.one
  have c2:=h2.one
  obtain ⟨hm,ha⟩:=ahead_of hpre hq
  have HA:=Lib.hid ha
  clear ha
  gi_wp2
  refine ⟨by simp,.inl ⟨_,_,rfl,run_takeDeferred hK,?_⟩⟩
  have g1:Blk (W.putObj D (.deferred none)) (w.heap.size+1) 3 #[.int .i64 (q.length:Int)] :=
   Blk.own (w.heap.size+1) 3 (fun _:Unit=>#[.int .i64 (q.length:Int)]) () _ _ _ h1 (grownBy_putObj' _ D (.deferred none)) (fun r e=>by cases e;exact ⟨_,hK,rfl⟩)
  have g2:Blk (W.putObj D (.deferred none)) (w.heap.size+1+1) 4 #[.bool true] :=
   Blk.own (w.heap.size+1+1) 4 (fun _:Unit=>#[.bool true]) () _ _ _ h2 (grownBy_putObj' _ D (.deferred none)) (fun r e=>by cases e;exact ⟨_,hK,rfl⟩)
  have d1:=g1.one
  have d2:=g2.one
  refine ⟨.tuple #[.int .i64 (q.length:Int),.bool true],by simp [results,Tryz.results114,go_sem,d1,d2],?_,?_⟩
  · rw [HA.out,decide_eq_true hm]
  · exact hB.trans (belowK_b (w:=w) (Nat.le_refl _) _ D _ _ (by omega) hK rfl rfl)
end Go.Proofs.YtkllhjhkcipkoaaGreatDoor

namespace Go.Proofs.YtkllhjhkcipkoaaGreatDoor
open Go.RowKit Go.Shelf

theorem enter_values1:Enters Tryz.prog 139:=enters_of Tryz.func139 (by kernel_rfl) rfl

theorem has_any (p n:Int) (w:World):Calls Tryz.prog 117 #[.int .i64 p,.int .i64 n] w fun e w'=>e = .returned (.bool (decide (0≤n∧n<p)))∧w=w':=by
 by_cases h1:0≤n
 · have d1:decide (0≤n)=true:=by simpa using h1
   go_enter Tryz.func117,Tryz.ntmps117
   go_wp2
   go_ret
   exact ⟨ret_bool (by rw [decide_eq_decide];omega),rfl⟩
 · have d1:decide (0≤n)=false:=by simpa using h1
   go_enter Tryz.func117,Tryz.ntmps117
   go_wp2
   go_ret
   exact ⟨rfl,rfl⟩

def Fine (p:Int) (ns:List Int):Prop:=p∈prm∧∀ j,j<ns.length→0≤ns[j]?.getD 0∧ns[j]?.getD 0<p
def Asked (p:Int) (ns:List Int) (w:World) (e:Ending) (w':World):Prop :=
 (Fine p ns→e = .returned (.tuple #[.int .i64 p,.int .i64 0]))∧(¬ Fine p ns→e = .returned (.tuple #[.int .i64 0,.int .i64 2]))∧Below w.heap.size w w'

theorem asked_any (p:Int) (v:Value) (ns:List Int) (hns:ns.length≤1000) (w:World) (hL:Laid w) (hv:Ints w.heap.size w v ns) :
 Calls Tryz.prog 96 #[.int .i64 p,v] w (Asked p ns w):=by
 obtain ⟨A,cap,rfl,_,hA⟩:=id hv
 have HP:=Lib.hid (primes_any w hL)
 go_enter Tryz.func96,Tryz.ntmps96
 go_wp2
 refine wp_scope_jumps 0 (fun a' w'=>¬ Fine p ns∧Below w.heap.size w w'∧∃ (u0 u1 u2 u3 u4 u5 u6 u7 u8 u9 u10 u11 u12 u13 u14 u15 u16 u17 u18 u19 u20 u21 u22 u23 u24 u25 u26 u27 u28 u29 u30:Value),a' = { tmps:=#[u0,u1,u2,u3,u4,u5,u6,u7,u8,u9,u10,u11,u12,u13,u14,u15,u16,u17,u18,u19,u20,u21,u22,u23,u24,u25,u26,u27,u28,u29,u30],defers:=[] }) (fun _ _=>0) rfl ?_ ?_
 · go_wp2_with fail
   refine HP.out.mono ?_
   rintro e w1 ⟨g,rfl,hg,hB1⟩
   go_wp2_with fail
   refine (values_any _ _ _ _).mono ?_
   rintro e w2 ⟨rfl,hw2⟩
   have hs1:=hB1.size
   have bv:Blk w2 w1.heap.size 30 #[.slice (some ⟨g,0,none⟩) 6 6]:=by rw [←hw2];exact Blk.new _ _ _
   have bg:Blk w2 g 175 prmCells:=by rw [←hw2];exact hg.alloc _
   have hB2:Below w.heap.size w w2:=by rw [←hw2];exact hB1.alloc hs1 _
   clear hw2
   have hgo:Goes 0 w2.heap.size 139 #[.pointer (some ⟨w1.heap.size,0,none⟩)] prm w2 :=
    values_goes _ 0 _ g prm (by decide) w2 (Nat.zero_le _) bg.lt (Nat.le_refl _) bv.lt bv.one (fun j hj=>by rw [bg.cell j,prm_cells,List.getElem?_toArray,List.getElem?_map,List.getElem?_eq_getElem hj];rfl)
   go_wp2_with fail
   refine (first_any p _ _ prm (by decide) w2 enter_values1 0 (Nat.zero_le _) hgo).mono ?_
   rintro e w3 ⟨rfl,hB3⟩
   have hB:=below_in hB2 hB3
   clear hgo bv bg hB1 hB2 hB3 hs1 HP
   generalize ahead p prm=a0
   by_cases hp:p∈prm
   · rw [decide_eq_true hp]
     go_wp2
     go_loop [21] (fun i=>∃ k:Nat,k≤ns.length∧i = .int .i64 k∧Hid (∀ j,j<k→0≤ns[j]?.getD 0∧ns[j]?.getD 0<p)) (fun i=>ns.length - (intOf i).toNat)
     case atStart=>exact ⟨0,Nat.zero_le _,rfl,Lib.hid (fun j hj=>absurd hj (by omega))⟩
     case round =>
      obtain ⟨k,hk,rfl,HG⟩:=hrel
      by_cases hlt:k<ns.length
      · have hdec:decide ((k:Int)<(ns.length:Int))=true:=by simp;omega
        obtain ⟨b,off,rfl,hb,hcell⟩:=hA (by omega)
        have hc:=(hB.cell (p:=⟨b,off+k,none⟩) hb).trans (hcell k hlt)
        have HS:Hid (0≤ns[k]?.getD 0∧ns[k]?.getD 0<p→∀ j,j<k+1→0≤ns[j]?.getD 0∧ns[j]?.getD 0<p):=by
         intro h j hj
         rcases Nat.lt_or_ge j k with h1 | h1
         · exact HG.out j h1
         · obtain rfl:j=k:=by omega
           exact h
        have HN:Hid (¬ (0≤ns[k]?.getD 0∧ns[k]?.getD 0<p)→¬ Fine p ns):=fun h hf=>h (hf.2 k hlt)
        clear hcell
        generalize ns[k]?.getD 0=x at hc HS HN
        by_cases hx:0≤x∧x<p
        · have HH:=Lib.hid (fun W=>has_any p x W)
          rw [decide_eq_true hx] at HH
          have HS2:=Lib.hid (HS.out hx)
          clear HS HN hx
          go_wp2_with (go_at_call 117;refine (HH.out _).mono ?_;rintro e w' ⟨rfl,rfl⟩)
          go_round
          case rel=>exact ⟨k+1,by omega,by go_num,HS2⟩
          case measure=>simp [intOf];omega
        · have HH:=Lib.hid (fun W=>has_any p x W)
          rw [decide_eq_false hx] at HH
          have HN2:=Lib.hid (HN.out hx)
          clear HS HN hx
          go_wp2_with (go_at_call 117;refine (HH.out _).mono ?_;rintro e w' ⟨rfl,rfl⟩)
          go_step3
          exact ⟨rfl,HN2.out,hB,_,_,_,_,_,_,_,_,_,_,_,_,_,_,_,_,_,_,_,_,_,_,_,_,_,_,_,_,_,_,_,rfl⟩
      · obtain rfl:k=ns.length:=by omega
        have hdec:decide ((ns.length:Int)<(ns.length:Int))=false:=by simp
        have HF:Hid (Fine p ns):=⟨hp,HG.out⟩
        clear hp HG
        go_wp2
        simp only [Exit.jump]
        go_ret2
        exact ⟨fun _=>rfl,fun h=>absurd HF.out h,hB⟩
   · rw [decide_eq_false hp]
     have HN2:Hid (¬ Fine p ns):=fun h=>hp h.1
     clear hp
     go_wp2
     go_step3
     exact ⟨rfl,HN2.out,hB,_,_,_,_,_,_,_,_,_,_,_,_,_,_,_,_,_,_,_,_,_,_,_,_,_,_,_,_,_,_,_,rfl⟩
 · rintro a' w' ⟨hno,hB,u0,u1,u2,u3,u4,u5,u6,u7,u8,u9,u10,u11,u12,u13,u14,u15,u16,u17,u18,u19,u20,u21,u22,u23,u24,u25,u26,u27,u28,u29,u30,rfl⟩
   have HN2:=Lib.hid hno
   clear hno
   go_wp2
   simp only [Exit.jump]
   go_ret2
   exact ⟨fun h=>absurd h HN2.out,fun _=>rfl,hB⟩
end Go.Proofs.YtkllhjhkcipkoaaGreatDoor

namespace Go.Proofs.YtkllhjhkcipkoaaGreatDoor
open Go.RowKit Go.Shelf

theorem tmod_place (p n:Int) (hp:0<p):n % p=if n.tmod p<0 then n.tmod p+p else n.tmod p:=by
 have h1:=Int.tmod_eq_emod (a:=n) (b:=p)
 have h2:=Int.emod_nonneg n (show p≠0 by omega)
 have h3:=Int.emod_lt_of_pos n hp
 rw [h1]
 split <;> split <;> omega

theorem of_any (p n:Int) (w:World) (hp:0<p) (hp2:p≤1000) (_h1:-9223372036854775808≤n) (_h2:n≤9223372036854775807) :
 Calls Tryz.prog 133 #[.int .i64 p,.int .i64 n] w fun e w'=>e = .returned (.int .i64 (n % p))∧w=w':=by
 have HE:=Lib.hid (tmod_place p n hp)
 have b1:-p<n.tmod p∧n.tmod p<p:=by
  have h2:=Int.emod_nonneg n (show p≠0 by omega)
  have h3:=Int.emod_lt_of_pos n hp
  have h4:=HE.out
  have h5:=Int.tmod_eq_emod (a:=n) (b:=p)
  split at h4 <;> rw [h5] <;> split <;> omega
 go_enter Tryz.func133,Tryz.ntmps133
 go_wp2
 · have h:n.tmod p<0:=by assumption
   go_ret
   exact ⟨ret_i64 (by rw [HE.out,if_pos h]),rfl⟩
 · have h:0≤n.tmod p:=by assumption
   go_ret
   exact ⟨ret_i64 (by rw [HE.out,if_neg (by omega)]),rfl⟩

theorem sum_any (p x:Int) (w:World) :
 Calls Tryz.prog 109 #[.int .i64 p,.int .i64 x] w fun e w'=>e = .returned (.agg #[.int .i64 p,.int .i64 x])∧Below w.heap.size w w':=by
 go_enter Tryz.func109,Tryz.ntmps109
 go_wp2
 exact bodyPost_ret (v:=.agg #[.int .i64 p,.int .i64 x]) (by simp [results,Tryz.results109,go_sem]) rfl ⟨rfl,(Below.refl _ _).alloc (Nat.le_refl _) _⟩

theorem enter_plus:∀ args W,(callFunc 136 args).run Tryz.prog W = .ok (.enter 136 args) W:=enters_of Tryz.func136 (by kernel_rfl) rfl
def Reckons (f:Nat) (r:Int→Int→Int):Prop :=
 ∀ x y W,0≤x→x≤1000→0≤y→y≤1000→Calls Tryz.prog f #[.int .i64 x,.int .i64 y] W fun e w'=>e = .returned (.int .i64 (r x y))∧W=w'

theorem plus_any:Reckons 136 (fun x y=>x+y):=by
 intro x y w h1 h2 h3 h4
 go_enter Tryz.func136,Tryz.ntmps136
 go_wp2
 go_ret
 exact ⟨rfl,rfl⟩
theorem with_any (f:Nat) (r:Int→Int→Int) (hf:Reckons f r) (ef:∀ args W,(callFunc f args).run Tryz.prog W = .ok (.enter f args) W) (p at' x:Int) (w:World) (hp:0<p) (hp2:p≤1000) (h1:0≤at') (h2:at'≤1000) (h3:0≤x) (h4:x≤1000)
 (h5:-9223372036854775808≤r at' x) (h6:r at' x≤9223372036854775807) :
 Calls Tryz.prog 135 #[.agg #[.int .i64 p,.int .i64 at'],.func (.func f) #[] #[],.int .i64 x] w fun e w'=>e = .returned (.agg #[.int .i64 p,.int .i64 (r at' x % p)])∧Below w.heap.size w w':=by
 have HR:=Lib.hid (fun W=>hf at' x W h1 h2 h3 h4)
 have HO:=Lib.hid (fun W=>of_any p (r at' x) W hp hp2 h5 h6)
 generalize r at' x=z at *
 clear hf
 go_enter Tryz.func135,Tryz.ntmps135
 go_wp2
 obtain ⟨W0,hW0⟩:∃ W0,(w.alloc (.cells #[.int .i64 p,.int .i64 at'] 150)).alloc (.cells #[.int .i64 0,.int .i64 0] 150)=W0:=⟨_,rfl⟩
 have b0:Blk W0 w.heap.size 150 #[.int .i64 p,.int .i64 at']:=by rw [←hW0];exact (Blk.new w _ _).alloc _
 have b1:Blk W0 (w.heap.size+1) 150 #[.int .i64 0,.int .i64 0]:=by
  rw [←hW0];have:=Blk.new (w.alloc (.cells #[.int .i64 p,.int .i64 at'] 150)) 150 #[.int .i64 0,.int .i64 0];rwa [World.size_alloc] at this
 have hB0:Below w.heap.size w W0:=by rw [←hW0];exact ((Below.refl _ w).alloc (Nat.le_refl _) _).alloc (by simp) _
 rw [hW0]
 clear hW0
 have c0:W0.cell? ⟨w.heap.size,0,none⟩=some (.int .i64 p):=b0.cell 0
 have c1:W0.cell? ⟨w.heap.size,1,none⟩=some (.int .i64 at'):=b0.cell 1
 have f1:=b0.frozen 1
 go_region_law (first
  | (go_simp;go_at_call 133;refine (HO.out _).mono ?_;rintro e w' ⟨rfl,rfl⟩)
  | (go_simp;refine (HR.out _).mono ?_;rintro e w' ⟨rfl,rfl⟩))
 all_goals
  have hB1:Below w.heap.size w (W0.setCell ⟨w.heap.size,1,none⟩ (.int .i64 (z % p))).drew:=(hB0.setCell (Nat.le_refl _) _).drew
  have d0:Blk (W0.setCell ⟨w.heap.size,1,none⟩ (.int .i64 (z % p))).drew w.heap.size 150 #[.int .i64 p,.int .i64 (z % p)]:=b0.set_ 1 _
  have d1:Blk (W0.setCell ⟨w.heap.size,1,none⟩ (.int .i64 (z % p))).drew (w.heap.size+1) 150 #[.int .i64 0,.int .i64 0]:=b1.far (by simp) _
  generalize (W0.setCell ⟨w.heap.size,1,none⟩ (.int .i64 (z % p))).drew=W1 at *
  clear c0 c1 f1
  have c0:W1.cell? ⟨w.heap.size,0,none⟩=some (.int .i64 p):=d0.cell 0
  have c1:W1.cell? ⟨w.heap.size,1,none⟩=some (.int .i64 (z % p)):=d0.cell 1
  have k0:W1.cell? ⟨w.heap.size+1,0,none⟩=some (.int .i64 0):=d1.cell 0
  have k1:W1.cell? ⟨w.heap.size+1,1,none⟩=some (.int .i64 0):=d1.cell 1
  have f0:=d1.frozen 0
  have f1:=d1.frozen 1
  go_wp2
  have r0:((W1.setCell ⟨w.heap.size+1,0,none⟩ (.int .i64 p)).setCell ⟨w.heap.size+1,1,none⟩ (.int .i64 (z % p))).cell? ⟨w.heap.size+1,0,none⟩=some (.int .i64 p):=((d1.set_ 0 _).set_ 1 _).cell 0
  have r1:((W1.setCell ⟨w.heap.size+1,0,none⟩ (.int .i64 p)).setCell ⟨w.heap.size+1,1,none⟩ (.int .i64 (z % p))).cell? ⟨w.heap.size+1,1,none⟩=some (.int .i64 (z % p)):=((d1.set_ 0 _).set_ 1 _).cell 1
  exact bodyPost_ret (v:=.agg #[.int .i64 p,.int .i64 (z % p)]) (by simp [results,Tryz.results135,go_sem,r0,r1]) rfl ⟨rfl,(hB1.setCell (by simp) _).setCell (by simp) _⟩

end Go.Proofs.YtkllhjhkcipkoaaGreatDoor

namespace Go.Proofs.YtkllhjhkcipkoaaGreatDoor
open Go.RowKit Go.Shelf
attribute [local go_sem] Oper.semAt_some

def walkAt (p:Nat) (a s:Int) (k:Nat):Int:=(a+(k:Int) * s) % (p:Int)
def walkL (p:Nat) (a s:Int):List Int:=(List.range p).map (walkAt p a s)
theorem walkL_len (p:Nat) (a s:Int):(walkL p a s).length=p:=by simp [walkL]
theorem walkL_next (p:Nat) (a s:Int) (k:Nat) (hk:k<p):(walkL p a s).take (k+1)=(walkL p a s).take k ++ [walkAt p a s k]:=by
 rw [take_next _ (by rw [walkL_len];exact hk)]
 have:(walkL p a s)[k]?.getD 0=walkAt p a s k:=by
  unfold walkL
  rw [List.getElem?_map,List.getElem?_range hk];rfl
 rw [this]
theorem walkAt_zero (p:Nat) (a s:Int) (h0:0≤a) (h1:a<p):walkAt p a s 0=a:=by
 unfold walkAt
 rw [show (a+((0:Nat):Int) * s)=a by simp]
 exact Int.emod_eq_of_lt h0 h1
theorem walkAt_next (p:Nat) (a s:Int) (k:Nat):(walkAt p a s k+s) % (p:Int)=walkAt p a s (k+1):=by
 unfold walkAt
 rw [Int.emod_add_emod]
 congr 1
 rw [Int.natCast_succ,Int.add_mul,Int.one_mul,Int.add_assoc]
theorem walkAt_lt (p:Nat) (hp:0<p) (a s:Int) (k:Nat):0≤walkAt p a s k∧walkAt p a s k<p:=by
 unfold walkAt
 exact ⟨Int.emod_nonneg _ (by omega),Int.emod_lt_of_pos _ (by omega)⟩

theorem wpIn_scope_wide {n:Nat} {P:Program} {Q:Exit→Act→World→Prop} {a:Act} {w:World} {c:Code} (h:c.wpIn Fence.wide n P (Exit.noGoto Q) a w):(Code.scope c).wpIn Fence.wide n P Q a w :=
 wpIn_wide.2 (wp_scope_straight (wpIn_wide.1 h))
theorem grown_below {X Y:World} {row:Option Nat} (h:Below X.heap.size X Y):X.grownBy Y row:=⟨h.os,h.tape,h.output,h.size,fun k hk _=>h.block k hk⟩
theorem grown_set {X Y:World} {g:Nat} (h:X.grownBy Y (some g)) (i:Nat) (v:Value):X.grownBy (Y.setCell ⟨g,i,none⟩ v) (some g) :=
 ⟨h.os,h.tape,h.output,by simpa using h.size,fun k hk hne=>(Below.heap_setCell Y _ v k (fun e=>hne (by rw [e]))).trans (h.block k hk hne)⟩

theorem walk_any (p:Nat) (hp:0<p) (hp2:p≤1000) (x s:Int) (w:World) (h1:-9223372036854775808≤s) (h2:s≤9223372036854775807) :
 Calls Tryz.prog 110 #[.agg #[.int .i64 p,.int .i64 x],.int .i64 s] w fun e w' =>
  ∃ g h,e = .returned (.func (.func 134) #[] #[.pointer (some ⟨g,0,none⟩),.pointer (some ⟨h,0,none⟩)])∧Blk w' g 150 #[.int .i64 p,.int .i64 x]∧Blk w' h 148 #[.int .i64 (s % (p:Int))]∧w.heap.size≤h∧Below w.heap.size w w':=by
 have hmf:=make_func
 have HO:=Lib.hid (fun W=>of_any p s W (by omega) (by omega) h1 h2)
 go_enter Tryz.func110,Tryz.ntmps110
 go_wp2_with (go_at_call 133;refine (HO.out _).mono ?_;rintro e w' ⟨rfl,rfl⟩)
 go_ret
 refine ⟨_,_,rfl,(Blk.new w _ _).alloc _,?_,by omega,((Below.refl _ w).alloc (Nat.le_refl _) _).alloc (by simp) _⟩
 have:=Blk.new (w.alloc (.cells #[.int .i64 p,.int .i64 x] 150)) 148 #[.int .i64 (s % (p:Int))]
 rwa [World.size_alloc] at this

theorem enter_walk1:∀ args W,(callFunc 134 args).run Tryz.prog W = .ok (.enter 134 args) W:=enters_of Tryz.func134 (by kernel_rfl) rfl
end Go.Proofs.YtkllhjhkcipkoaaGreatDoor

namespace Go.Proofs.YtkllhjhkcipkoaaGreatDoor
open Go.RowKit Go.Shelf

theorem prm_bounds {p:Int} (h:p∈prm):3≤p∧p≤17:=by
 unfold prm at h
 simp only [List.mem_cons,List.not_mem_nil,or_false] at h
 omega
theorem fine_nil {p:Int}:Fine p []↔p∈prm:=⟨fun h=>h.1,fun h=>⟨h,fun j hj=>absurd hj (by simp)⟩⟩
theorem fine_one {p a:Int}:Fine p [a]↔p∈prm∧0≤a∧a<p:=by
 refine ⟨fun h=>⟨h.1,h.2 0 (by simp)⟩,fun h=>⟨h.1,fun j hj=>?_⟩⟩
 obtain rfl:j=0:=by simpa using hj
 exact h.2
theorem ask_nil (p:Int) (w:World) (hL:Laid w):Calls Tryz.prog 96 #[.int .i64 p,.slice none 0 0] w (Asked p [] w) :=
 asked_any p _ [] (by simp) w hL (Ints.nil_ _ _ _ _)
theorem ask_one (p a:Int) (w:World) (hL:Laid w):Calls Tryz.prog 96 #[.int .i64 p,.slice (some ⟨w.heap.size,0,none⟩) 1 1] (w.alloc (.cells #[.int .i64 a] 3)) (Asked p [a] (w.alloc (.cells #[.int .i64 a] 3))) :=
 asked_any p _ [a] (by simp) _ (hL.next ((Below.refl _ w).alloc (Nat.le_refl _) _)) ((Blk.new w 3 (([a].map (Value.int .i64)).toArray)).ints rfl)
def Tells (c:Prop) (n bad:Int) (w:World) (e:Ending) (w':World):Prop :=
 (c→e = .returned (.tuple #[.int .i64 n,.int .i64 0]))∧(¬ c→e = .returned (.tuple #[.int .i64 0,.int .i64 bad]))∧Below w.heap.size w w'

theorem check_any (p:Int) (w:World) (hL:Laid w):Calls Tryz.prog 75 #[.int .i64 p] w fun e w'=>e = .returned (.int .i64 (if p∈prm then 0 else 2))∧Below w.heap.size w w':=by
 have HA:=Lib.hid (ask_nil p w hL)
 by_cases hp:p∈prm
 · rw [if_pos hp]
   have hf:=fine_nil.2 hp
   go_enter Tryz.func75,Tryz.ntmps75
   go_wp2_with (go_at_call 96;refine HA.out.mono ?_;rintro e w1 ⟨h1,_,hB⟩;obtain rfl:=h1 hf)
   go_ret
   exact ⟨rfl,hB⟩
 · rw [if_neg hp]
   have hf:=fun h=>hp (fine_nil.1 h)
   go_enter Tryz.func75,Tryz.ntmps75
   go_wp2_with (go_at_call 96;refine HA.out.mono ?_;rintro e w1 ⟨_,h1,hB⟩;obtain rfl:=h1 hf)
   go_ret
   exact ⟨rfl,hB⟩

theorem modOf_any (p n:Int) (w:World) (hL:Laid w) (h1:-9223372036854775808≤n) (h2:n≤9223372036854775807) :
 Calls Tryz.prog 162 #[.int .i64 p,.int .i64 n] w (Tells (p∈prm) (n % p) 2 w):=by
 have HA:=Lib.hid (ask_nil p w hL)
 by_cases hp:p∈prm
 · have hf:=fine_nil.2 hp
   have hb:=prm_bounds hp
   have HO:=Lib.hid (fun W=>of_any p n W (by omega) (by omega) h1 h2)
   have HP:=Lib.hid hp
   clear hp
   go_enter Tryz.func162,Tryz.ntmps162
   go_wp2_with (first
    | (go_at_call 96;refine HA.out.mono ?_;rintro e w1 ⟨h1,_,hB⟩;obtain rfl:=h1 hf)
    | (go_at_call 133;refine (HO.out _).mono ?_;rintro e w1 ⟨rfl,rfl⟩))
   go_ret2
   exact ⟨fun _=>rfl,fun h=>absurd HP.out h,hB⟩
 · have hf:=fun h=>hp (fine_nil.1 h)
   have HP:=Lib.hid hp
   clear hp
   go_enter Tryz.func162,Tryz.ntmps162
   go_wp2_with (go_at_call 96;refine HA.out.mono ?_;rintro e w1 ⟨_,h1,hB⟩;obtain rfl:=h1 hf)
   go_ret2
   exact ⟨fun h=>absurd h HP.out,fun _=>rfl,hB⟩

end Go.Proofs.YtkllhjhkcipkoaaGreatDoor

namespace Go.Proofs.YtkllhjhkcipkoaaGreatDoor
open Go.RowKit Go.Shelf
attribute [local go_sem] Oper.semAt_some

def Over (lo:Nat) (zs:List Int) (v:Value) (w:World):Prop :=
 ∃ gf lb,v = .func (.func gf) #[] lb∧(∀ args W,(callFunc gf args).run Tryz.prog W = .ok (.enter gf args) W)∧(∀ W,(binOp .eql 114 v .nilFunc).run Tryz.prog W = .ok (.bool false) W)∧Goes lo w.heap.size gf lb zs w
theorem Over.less {lo lo':Nat} {zs:List Int} {v:Value} {w:World} (h:Over lo zs v w) (hl:lo'≤lo) (hw:lo≤w.heap.size):Over lo' zs v w:=by
 obtain ⟨gf,lb,e,eg,eq,k,hg⟩:=h
 exact ⟨gf,lb,e,eg,eq,k,fun n hn l J Jx W hW hJ hJx hY h0=>hg n hn l J Jx W hW hJ hJx (fun pre x W1 hj hl' hs=>(hY pre x W1 hj hl' hs).mono fun _ _ h=>h.imp (fun ⟨h1,h2,h3,h4⟩=>⟨h1,h2,h3.less hl (by omega),h4⟩) id) h0⟩
def walkN (p a s:Int):List Int:=if p∈prm∧0≤a∧a<p then walkL p.toNat a (s % p) else []
theorem walkN_yes {p a s:Int} (h:Fine p [a]):walkN p a s=walkL p.toNat a (s % p):=if_pos (fine_one.1 h)
end Go.Proofs.YtkllhjhkcipkoaaGreatDoor

namespace Go.Proofs.YtkllhjhkcipkoaaGreatDoor
open Go.RowKit

theorem rprimes_any (w:World):Calls Tryz.prog 43 #[] w fun e w'=>e = .returned (.slice (some ⟨w.heap.size,0,none⟩) 6 6)∧w.alloc (.cells prmCells 3)=w':=by
 go_enter Tryz.func43,Tryz.ntmps43
 go_wp2
 go_ret
 exact ⟨rfl,rfl⟩

theorem prm_at (g:Nat) (W:World) (t:TypeId) (h:Blk W g t prmCells) (k:Nat) (hk:k<6):W.cell? ⟨g,k,none⟩=some (.int .i64 (prm[k]?.getD 0)):=by
 rw [h.cell k,prm_cells,List.getElem?_toArray,List.getElem?_map,List.getElem?_eq_getElem (show k<prm.length from hk)];rfl

theorem right_any (p:Int) (w:World):Calls Tryz.prog 19 #[.int .i64 p] w fun e w'=>e = .returned (.bool (decide (p∈prm)))∧Below w.heap.size w w':=by
 have HC:=Lib.hid (prm_at w.heap.size _ 3 (Blk.new w 3 prmCells))
 have HB:=Lib.hid ((Below.refl _ w).alloc (Nat.le_refl _) (.cells prmCells 3))
 go_enter Tryz.func19,Tryz.ntmps19
 go_wp2_with (go_at_call 43;refine (rprimes_any _).mono ?_;rintro e w1 ⟨rfl,hw1⟩)
 rw [hw1] at HC HB
 clear hw1
 go_loop [4] (fun i=>∃ k:Nat,k≤6∧i = .int .i64 k∧Hid (∀ j,j<k→prm[j]?.getD 0≠p)) (fun i=>6 - (intOf i).toNat)
 case atStart=>exact ⟨0,by omega,rfl,Lib.hid (fun j hj=>absurd hj (by omega))⟩
 case round =>
  obtain ⟨k,hk,rfl,HG⟩:=hrel
  by_cases hlt:k<6
  · have hdec:decide ((k:Int)<6)=true:=by simp;omega
    have hc:=HC.out k hlt
    have HM:Hid (prm[k]?.getD 0∈prm):=by
     unfold Hid;rw [List.getElem?_eq_getElem (show k<prm.length from hlt)];exact List.getElem_mem _
    have HS:Hid (prm[k]?.getD 0≠p→∀ j,j<k+1→prm[j]?.getD 0≠p):=by
     intro h j hj
     rcases Nat.lt_or_ge j k with h1 | h1
     · exact HG.out j h1
     · obtain rfl:j=k:=by omega
       exact h
    generalize prm[k]?.getD 0=x at *
    by_cases hx:x=p
    · subst hx
      have hd:((x:Int) == x)=true:=by simp
      go_wp2
      go_ret
      exact ⟨ret_bool (decide_eq_true HM.out).symm,HB.out⟩
    · have hd:((x:Int) == p)=false:=by simpa using hx
      have HS2:=Lib.hid (HS.out hx)
      clear hx HS
      go_wp2
      go_round
      case rel=>exact ⟨k+1,by omega,by go_num,HS2⟩
      case measure=>simp [intOf];omega
  · obtain rfl:k=6:=by omega
    have hdec:decide (((6:Nat):Int)<6)=false:=by simp
    have HN:Hid (p∉prm):=fun h=>by
     obtain ⟨j,hj,e⟩:=List.mem_iff_getElem.1 h
     exact HG.out j hj (by rw [List.getElem?_eq_getElem hj];exact e)
    go_wp2
    go_ret
    exact ⟨ret_bool (decide_eq_false HN.out).symm,HB.out⟩

theorem tmod_two (p n:Int):(n.tmod p+p) % p=n % p:=by
 rw [Int.add_emod_right,Int.tmod_def,Int.sub_mul_emod_self_left]

theorem rof_any (p n:Int) (w:World) (hp:0<p) (hp2:p≤1000) (_h1:-9223372036854775808≤n) (_h2:n≤9223372036854775807) :
 Calls Tryz.prog 52 #[.int .i64 p,.int .i64 n] w fun e w'=>e = .returned (.int .i64 (n % p))∧w=w':=by
 have HE:=Lib.hid (tmod_two p n)
 have b1:-p<n.tmod p∧n.tmod p<p:=by
  have h2:=Int.emod_nonneg n (show p≠0 by omega)
  have h3:=Int.emod_lt_of_pos n hp
  have h5:=Int.tmod_eq_emod (a:=n) (b:=p)
  rw [h5];split <;> omega
 go_enter Tryz.func52,Tryz.ntmps52
 go_wp2
 go_ret
 exact ⟨ret_i64 HE.out,rfl⟩

theorem Tryz.infoInt:(Tryz.prog.info? 3).map (fun i=>(i.zero,i.size,i.bytes))=some (some (.int .i64 0),1,8):=by kernel_rfl

theorem wpList_one (w:World) {ops:Array Oper} {rest:List Oper} {o:Oper} {a:Act} {Q:Exit→Act→World→Prop} (hgd:o.guard=none) (s x:Operand) (t e:TypeId) (z:Value) (bytes:Nat)
 (ho:o.op = .call { callee:=.builtin .append,args:=#[s,x],argTypes:=#[t,t] }) (ht:Tryz.prog.underlying t=some (.slice e)) (hinfo:(Tryz.prog.info? e).map (fun i=>(i.zero,i.size,i.bytes))=some (some z,1,bytes)) (hzs:z.cells.size=1)
 (base:Nat) (v:Value) (xs:List Value) (hs:a.eval s=v) (n:Nat) (hown:w.ownsRow base e 1 v n xs) (ad:Addr) (c:Nat) (u:Value) (hx:a.eval x = .slice (some ad) 1 c) (hu:w.cell? (ad.add 0)=some u) (h1:u.oneCell'=true)
 (hlen:n≤1000000000) (hby2:bytes≤100) (hbase:base≤w.heap.size)
 (h:∀ v' w',w'.ownsRow base e 1 v' (n+1) (xs ++ [u])→w.grownBy w' v.ownBlock→(v'.ownBlock=v.ownBlock∨v'.ownBlock=some w.heap.size)→wpList Tryz.prog ops Q rest (a.put o.dst v') w'):wpList Tryz.prog ops Q (o :: rest) a w :=
 wpList_plain hgd fun K hK=>by
  obtain ⟨i,hi,hz0,hz1,hz2⟩:=info_parts hinfo
  have hb:(n+1) * bytes≤140737488355328:=by
   have:=Nat.mul_le_mul (show n+1≤1000000001 by omega) hby2
   omega
  obtain ⟨v',w',hrun,r1,r2,_,r3⟩:=run_append_own_at (P:=Tryz.prog) w base t o.type e i z 1 bytes ht hi hz0 hz1 hz2 hzs (by omega) v n xs hown ad 1 c [u] (by simp) (by
   intro j y hy
   match j with
   | 0=>simp at hy;subst hy;exact hu
   | j+1=>simp at hy) (by intro y hy;obtain rfl:y=u:=(by simpa using hy);exact h1) (by unfold maxLen;omega) hb hbase
  unfold Oper.wp execOp
  simp only [ho,resolve,invoke,builtin,Sem.run_bind,Sem.run_pure,Result.andThen_ok,List.map_toArray,List.map_cons,List.map_nil,hs,hx,hrun]
  exact hK _ _ (h v' w' r1 r2 r3)

def OwnI (w:World) (base:Nat) (v:Value) (l:List Int):Prop:=w.ownsRow base 3 1 v l.length (l.map (Value.int .i64))
theorem ownI_nil (w:World) (base:Nat):OwnI w base (.slice none 0 0) []:=World.ownsRow_nil w base _ 1
theorem OwnI.grown_ {w w':World} {base:Nat} {v:Value} {l:List Int} (h:OwnI w base v l) (hg:w.grownBy w' none):OwnI w' base v l :=
 World.ownsRow.kept h hg (by cases hv:v.ownBlock <;> simp)
theorem below_grown {B:Nat} {a w w':World} {row:Option Nat} (h:Below B a w) (hg:w.grownBy w' row) (hB:B≤w.heap.size) (hr:∀ k,row=some k→B≤k):Below B a w':=h.grown hg hB hr
theorem OwnI.ints {w:World} {base:Nat} {v:Value} {l:List Int} (h:OwnI w base v l):Ints w.heap.size w v l:=by
 rcases h.2 with ⟨rfl,h0⟩ | ⟨g,cap,cur,rfl,_,hg,hn,_,hsz,ht⟩
 · have:l = []:=List.eq_nil_of_length_eq_zero h0
   subst this
   exact Ints.nil_ _ _ _ _
 · refine ⟨_,cap,rfl,hn,fun hp=>⟨g,0,rfl,?_,fun j hj=>?_⟩⟩
   · exact (Array.getElem?_eq_some_iff.1 hg).1
   · rw [Nat.zero_add,cell_of_row w g j cur _ (0,0) hg]
     have e:(l.map (Value.int .i64))[j]?=some (Value.int .i64 (l[j]?.getD 0)):=by
      rw [List.getElem?_map,List.getElem?_eq_getElem hj];rfl
     rw [←ht,List.getElem?_take_of_lt (by omega)] at e
     rw [Array.getElem?_toList] at e
     exact e

end Go.Proofs.YtkllhjhkcipkoaaGreatDoor

namespace Go.Proofs.YtkllhjhkcipkoaaGreatDoor
open Go.RowKit Go.Shelf

def Left (base:Nat) (W:World) (Ds:List Nat):Prop:=Ds.Nodup∧∀ D,D∈Ds→base≤D∧W.heap[D]?=some (.deferred (some []))
theorem Left.nil (base:Nat) (W:World):Left base W []:=⟨List.nodup_nil,fun D h=>by cases h⟩
theorem Left.lt {base:Nat} {W:World} {Ds:List Nat} (h:Left base W Ds) {D:Nat} (hD:D∈Ds):D<W.heap.size:=(Array.getElem?_eq_some_iff.1 (h.2 D hD).2).1
theorem Left.below {base:Nat} {W W':World} {Ds:List Nat} (h:Left base W Ds) (hB:Below W.heap.size W W'):Left base W' Ds :=
 ⟨h.1,fun D hD=>⟨(h.2 D hD).1,(hB.block D (h.lt hD)).trans (h.2 D hD).2⟩⟩
theorem Left.set_ {base:Nat} {W:World} {Ds:List Nat} (h:Left base W Ds) (p:Addr) (v:Value):Left base (W.setCell p v) Ds :=
 ⟨h.1,fun D hD=>⟨(h.2 D hD).1,(KeepsOthers.setCell W p v).same D _ (h.2 D hD).2 rfl⟩⟩
theorem Left.more {base:Nat} {W W':World} {Ds:List Nat} (h:Left base W Ds) (hB:Below W.heap.size W W') {D:Nat} (hb:base≤D) (hn:W.heap.size≤D) (hD:W'.heap[D]?=some (.deferred (some []))):Left base W' (D :: Ds):=by
 refine ⟨List.nodup_cons.2 ⟨fun hm=>by have:=h.lt hm;omega,h.1⟩,fun E hE=>?_⟩
 rcases List.mem_cons.1 hE with rfl | hE
 · exact ⟨hb,hD⟩
 · exact (h.below hB).2 E hE

end Go.Proofs.YtkllhjhkcipkoaaGreatDoor
