/- -/
import Derived.Test.YtkllhjhkcipkoaaGreatDoorTHG25
import Derived.Maps.OwnSet
set_option linter.unusedVariables false
set_option linter.unusedSimpArgs false
set_option maxRecDepth 100000
set_option maxHeartbeats 4000000
namespace Go.Proofs.YtkllhjhkcipkoaaGreatDoor
open Go.RowKit Go.Shelf

def inRw (d row x y:Int):Bool:=decide (x<d∧y=row)
def onDg (k p d row x y:Int):Bool:=if k=2 then decide ((x<d∨x=d)∧dgN2 k p x y=row) else decide (x<d∧(dgN2 k p x y=row∨dgN2 k p x y=p - 1))
def onSl (k p d row x y:Int):Bool:=decide (x<d∧(slN2 k p x y=row∨slN2 k p x y=p - 1))

end Go.Proofs.YtkllhjhkcipkoaaGreatDoor

namespace Go.Proofs.YtkllhjhkcipkoaaGreatDoor
open Go.RowKit Go.Shelf Go.Maps

def wayB (k p d row r x y:Int):Bool:=if r=2 then inRw d row x y else if r=3 then onDg k p d row x y else onSl k p d row x y
def Sub (w W:World):Prop:=w.heap.size≤W.heap.size∧∀ (b:Nat) (cs:Array Value) (t:TypeId) (fr:Nat×Nat),w.heap[b]?=some (.cells cs t fr)→W.heap[b]?=some (.cells cs t fr)
theorem Sub.below {w W:World} (h:Below w.heap.size w W):Sub w W:=⟨h.size,fun b cs t fr hb=>(h.block b (Array.getElem?_eq_some_iff.1 hb).1).trans hb⟩
theorem Sub.trans {a b c:World} (h:Sub a b) (h':Sub b c):Sub a c:=⟨Nat.le_trans h.1 h'.1,fun x cs t fr hx=>h'.2 x cs t fr (h.2 x cs t fr hx)⟩
theorem Sub.blk {w W:World} (h:Sub w W) {g:Nat} {t:TypeId} {cs:Array Value} (hb:Blk w g t cs):Blk W g t cs:=h.2 g cs t (0,0) hb
theorem Sub.laid {w W:World} (h:Sub w W) (hL:Laid w):Laid W:=by
 obtain ⟨⟨t1,f1,h1⟩,t2,f2,h2⟩:=hL
 exact ⟨⟨t1,f1,h.2 _ _ _ _ h1⟩,t2,f2,h.2 _ _ _ _ h2⟩
theorem Sub.put {w:World} {l:Nat} (hl:∃ r,w.heap[l]?=some (.loop r)) (ob:Obj):Sub w (w.putObj l ob):=by
 obtain ⟨r,hr⟩:=hl
 exact ⟨by simp [World.putObj],fun b cs t fr hb=>(World.putObj_heap_other (fun e=>by rw [e,hr] at hb;cases hb)).trans hb⟩
def Asks (q:Int→Int→Bool) (v:Value) (w:World):Prop :=
 ∃ gf lb,v = .func (.func gf) #[] lb∧(∀ args W,(callFunc gf args).run Tryz.prog W = .ok (.enter gf args) W) ∧
  ∀ x y W,Sub w W→Calls Tryz.prog gf (#[.agg #[.int .i64 x,.int .i64 y]] ++ lb) W fun e w'=>e = .returned (.bool (q x y))∧Below W.heap.size W w'
theorem Asks.sub {q:Int→Int→Bool} {v:Value} {w w':World} (h:Asks q v w) (hB:Sub w w'):Asks q v w':=by
 obtain ⟨gf,lb,e,eg,hc⟩:=h
 exact ⟨gf,lb,e,eg,fun x y W hW=>hc x y W (hB.trans hW)⟩
theorem Asks.next {q:Int→Int→Bool} {v:Value} {w w':World} (h:Asks q v w) (hB:Below w.heap.size w w'):Asks q v w':=h.sub (Sub.below hB)
end Go.Proofs.YtkllhjhkcipkoaaGreatDoor

namespace Go.Proofs.YtkllhjhkcipkoaaGreatDoor
open Go.RowKit Go.Shelf
attribute [local go_sem] Oper.semAt_some

section
variable {B lo mm:Nat} {X Y Z:World} {o o':Option Nat}
end
def KeepL (lo k:Nat) (X Y:World):Prop:=Keep lo k X Y∧(Laid X→Laid Y)
theorem KeepL.trans {lo k:Nat} {X Y Z:World} (h:KeepL lo k X Y) (h':KeepL lo k Y Z):KeepL lo k X Z:=⟨h.1.trans h'.1,fun hL=>h'.2 (h.2 hL)⟩
def flatC (p:Int) (cs:List Int):List (Int×Int):=cs.flatMap fun x=>(rowsL p).map fun y=>(x,y)
theorem flatC_len (p:Int) (hp:p∈prm) (cs:List Int):(flatC p cs).length≤16 * cs.length:=by
 have hl:=(rows_walk p hp).2.1
 have hb:=prm_bounds hp
 have h16:(rowsL p).length≤16:=by omega
 unfold flatC
 induction cs with
 | nil=>simp
 | cons x cs ih=>rw [List.flatMap_cons,List.length_append,List.length_map,List.length_cons];omega

end Go.Proofs.YtkllhjhkcipkoaaGreatDoor

namespace Go.Proofs.YtkllhjhkcipkoaaGreatDoor
open Go.RowKit Go.Shelf
attribute [local go_sem] Oper.semAt_some

theorem OwnI.less {w:World} {base base':Nat} {v:Value} {l:List Int} (h:OwnI w base v l) (hb:base'≤base):OwnI w base' v l:=⟨h.1,h.2.imp id fun ⟨g,cap,cur,h1,h2,h3⟩=>⟨g,cap,cur,h1,Nat.le_trans hb h2,h3⟩⟩
def Seqs (lo:Nat) (zs:List (Int×Int)) (v:Value) (w:World):Prop :=
 ∃ gf lb,v = .func (.func gf) #[] lb∧(∀ args W,(callFunc gf args).run Tryz.prog W = .ok (.enter gf args) W) ∧
  ∀ n,6≤n→SeqO Fence.wide n Tryz.prog gf lb (fun x:Int×Int=>#[.agg #[.int .i64 x.1,.int .i64 x.2]]) (fun x _=>x∈zs) (KeepL lo (w.heap.size - lo)) (fun ys=>ys=zs) (fun pre=>pre <+: zs) 1000 w
theorem KeepL.less {lo lo' k k':Nat} {X Y:World} (h:KeepL lo k X Y) (h1:lo≤lo') (h2:lo'+k'≤lo+k):KeepL lo' k' X Y:=⟨h.1.less h1 h2,h.2⟩
theorem Seqs.less {lo lo':Nat} {zs:List (Int×Int)} {v:Value} {w:World} (h:Seqs lo zs v w) (hl:lo'≤lo) (hw:lo≤w.heap.size):Seqs lo' zs v w:=by
 obtain ⟨gf,lb,e,eg,hg⟩:=h
 exact ⟨gf,lb,e,eg,fun n hn l J Jx W o₀ hW ho₀ hJ hJx hr1 hr2 hY h0=>hg n hn l J Jx W o₀ hW ho₀ hJ hJx hr1 hr2 (fun pre x o W1 hj hok hl' hs=>(hY pre x o W1 hj hok hl' hs).mono fun _ _ ⟨o',hf,hS,h⟩=>⟨o',hf,hS,h.imp (fun ⟨h1,h2,h3⟩=>⟨h1,h2,h3.less hl (by omega)⟩) id⟩) h0⟩
end Go.Proofs.YtkllhjhkcipkoaaGreatDoor

namespace Go.Proofs.YtkllhjhkcipkoaaGreatDoor
open Go.RowKit Go.Shelf

theorem Seqs.next {lo:Nat} {zs:List (Int×Int)} {v:Value} {w w':World} (h:Seqs lo zs v w) (hB:Below w.heap.size w w'):Seqs lo zs v w':=by
 obtain ⟨gf,lb,e,eg,hg⟩:=h
 have hs:=hB.size
 exact ⟨gf,lb,e,eg,fun n hn l J Jx W o₀ hW ho₀ hJ hJx hr1 hr2 hY h0=>hg n hn l J Jx W o₀ (below_in hB hW) ho₀ hJ hJx hr1 hr2 (fun pre x o W1 hj hok hl' hs'=>(hY pre x o W1 hj hok hl' hs').mono fun _ _ ⟨o',hf,hS,h⟩=>⟨o',hf,hS,h.imp (fun ⟨h1,h2,h3⟩=>⟨h1,h2,h3.less (Nat.le_refl _) (by omega)⟩) id⟩) h0⟩
def memB (k p mx my x y:Int):Bool:=wayB k p (p - shortN k) my (roleN (p - shortN k) mx) x y
def memL (k p mx my:Int):List (Int×Int):=(flatC p (spanL 0 mx)).filter fun x=>memB k p mx my x.1 x.2
theorem Laid.drew {W:World} (h:Laid W):Laid W.drew:=h
theorem spanL_mem {a b x:Int} (h:x∈spanL a b):a≤x∧x<b:=by
 unfold spanL at h
 obtain ⟨i,hi,rfl⟩:=List.mem_map.1 h
 have:=List.mem_range.1 hi
 omega

end Go.Proofs.YtkllhjhkcipkoaaGreatDoor

namespace Go.Proofs.YtkllhjhkcipkoaaGreatDoor
open Go.RowKit Go.Shelf

theorem Tryz.infoAt:(Tryz.prog.info? 91).map (fun i=>(i.zero,i.size,i.bytes))=some (some (.agg #[.int .i64 0,.int .i64 0]),2,16):=by kernel_rfl
def Bears (cs:Array Value) (s:List (Int×Int)) (j:Nat):Prop:=cs.size=s.length * 2∧∀ (i:Nat) (hi:i<s.length),i<j→cs[i * 2]?=some (.int .i64 (s[i]).1)∧cs[i * 2+1]?=some (.int .i64 (s[i]).2)
theorem Bears.next {cs:Array Value} {s:List (Int×Int)} {j:Nat} (h:Bears cs s j) (hj:j<s.length) {x y:Int} (hx:s[j]=(x,y)):Bears ((cs.setIfInBounds (j * 2) (.int .i64 x)).setIfInBounds (j * 2+1) (.int .i64 y)) s (j+1):=by
 refine ⟨by simp [h.1],fun i hi hij=>?_⟩
 have hs:=h.1
 by_cases e:i=j
 · subst e
   rw [hx]
   exact ⟨by rw [Array.getElem?_setIfInBounds_ne (by omega),Array.getElem?_setIfInBounds_self_of_lt (by omega)],by rw [Array.getElem?_setIfInBounds_self_of_lt (by simp;omega)]⟩
 · obtain ⟨h1,h2⟩:=h.2 i hi (by omega)
   exact ⟨by rw [Array.getElem?_setIfInBounds_ne (by omega),Array.getElem?_setIfInBounds_ne (by omega)];exact h1,by rw [Array.getElem?_setIfInBounds_ne (by omega),Array.getElem?_setIfInBounds_ne (by omega)];exact h2⟩
def ReadP (B:Nat) (W:World) (v:Value) (s:List (Int×Int)):Prop :=
 ∃ g cap,v = .slice (some ⟨g,0,none⟩) s.length cap∧g<B∧∀ (j:Nat) (hj:j<s.length),W.cell? ⟨g,j * 2,none⟩=some (.int .i64 (s[j]).1)∧W.cell? ⟨g,j * 2+1,none⟩=some (.int .i64 (s[j]).2)
theorem ReadP.below {B:Nat} {W W':World} {v:Value} {s:List (Int×Int)} (h:ReadP B W v s) (hb:Below B W W'):ReadP B W' v s:=by
 obtain ⟨g,cap,e,hg,hc⟩:=h
 exact ⟨g,cap,e,hg,fun j hj=>⟨(hb.cell (p:=⟨g,j * 2,none⟩) hg).trans (hc j hj).1,(hb.cell (p:=⟨g,j * 2+1,none⟩) hg).trans (hc j hj).2⟩⟩
theorem ReadP.next {W W':World} {v:Value} {s:List (Int×Int)} (h:ReadP W.heap.size W v s) (hb:Below W.heap.size W W'):ReadP W'.heap.size W' v s:=by
 obtain ⟨g,cap,e,hg,hc⟩:=h.below hb
 exact ⟨g,cap,e,Nat.lt_of_lt_of_le hg hb.size,hc⟩

end Go.Proofs.YtkllhjhkcipkoaaGreatDoor

namespace Go.Proofs.YtkllhjhkcipkoaaGreatDoor
open Go.RowKit Go.Shelf

theorem memL_len {k p mx my:Int} (hR:RightC k p) (hc:HasCell k p mx my):(memL k p mx my).length≤1000:=by
 obtain ⟨p1,p2,s1,s2,m1,m2⟩:=hR.und
 have h1:=List.length_filter_le (fun x:Int×Int=>memB k p mx my x.1 x.2) (flatC p (spanL 0 mx))
 have h2:=flatC_len p hR.2 (spanL 0 mx)
 rw [spanL_len] at h2
 have h3:=hc.1.2
 unfold memL
 omega
def MembersC (k p x y:Int) (w:World) (e:Ending) (w':World):Prop :=
 (¬ RightC k p→e = .returned (.tuple #[.slice none 0 0,.int .i64 2])) ∧
 (RightC k p→¬ (HasCell k p x y∧p - shortN k≤x)→e = .returned (.tuple #[.slice none 0 0,.int .i64 4])) ∧
 (RightC k p→HasCell k p x y→p - shortN k≤x→∃ u,e = .returned (.tuple #[u,.int .i64 0])∧ReadP w'.heap.size w' u (memL k p x y))∧Below w.heap.size w w'

theorem MembersC.form {k p x y:Int} {w w':World} {e:Ending} (h:MembersC k p x y w e w'):∃ (u:Value) (n:Int),e = .returned (.tuple #[u,.int .i64 n]):=by
 by_cases hR:RightC k p
 · by_cases hm:HasCell k p x y∧p - shortN k≤x
   · obtain ⟨u,e,_⟩:=h.2.2.1 hR hm.1 hm.2
     exact ⟨u,0,e⟩
   · exact ⟨_,4,h.2.1 hR hm⟩
 · exact ⟨_,2,h.1 hR⟩

end Go.Proofs.YtkllhjhkcipkoaaGreatDoor

namespace Go.Proofs.YtkllhjhkcipkoaaGreatDoor
open Go.RowKit Go.Shelf

theorem flatC_mem' {p:Int} {cs:List Int} {z:Int×Int} (h:z∈flatC p cs):z.1∈cs∧0≤z.2∧z.2<p - 1:=by
 obtain ⟨x,hx,h⟩:=List.mem_flatMap.1 h
 obtain ⟨y,hy,rfl⟩:=List.mem_map.1 h
 unfold rowsL at hy
 obtain ⟨i,hi,rfl⟩:=List.mem_map.1 hy
 have:=List.mem_range.1 hi
 exact ⟨hx,by simp only;omega,by simp only;omega⟩
theorem flatC_append (p:Int) (a b:List Int):flatC p (a ++ b)=flatC p a ++ flatC p b:=by unfold flatC;rw [List.flatMap_append]
theorem spanL_split (a b c:Int) (h1:a≤b) (h2:b≤c):spanL a c=spanL a b ++ spanL b c:=by
 unfold spanL
 rw [show (c - a).toNat=(b - a).toNat+(c - b).toNat by omega,List.range_add,List.map_append,List.map_map]
 congr 1
 apply List.map_congr_left
 intro i _
 simp only [Function.comp]
 omega
theorem memB_data {k p mx my x y:Int} (hR:RightC k p) (h:memB k p mx my x y=true) (hm:p - shortN k≤mx):x<mx:=by
 obtain ⟨p1,p2,s1,s2,m1,m2⟩:=hR.und
 unfold memB wayB at h
 split at h
 · have:=(of_decide_eq_true h).1;omega
 · rename_i hr
   have:mx≠p - shortN k:=fun e=>hr (by rw [e];exact if_pos rfl)
   split at h
   · unfold onDg at h
     split at h
     · have:=(of_decide_eq_true h).1;omega
     · have:=(of_decide_eq_true h).1;omega
   · have:=(of_decide_eq_true h).1;omega
theorem memL_all {k p mx my:Int} (hR:RightC k p) (hc:HasCell k p mx my) (hm:p - shortN k≤mx):(flatC p (spanL 0 (p - shortN k+madeN k))).filter (fun x=>memB k p mx my x.1 x.2)=memL k p mx my:=by
 obtain ⟨⟨h1,h2⟩,_⟩:=hc
 rw [spanL_split 0 mx _ h1 (by omega),flatC_append,List.filter_append]
 have:(flatC p (spanL mx (p - shortN k+madeN k))).filter (fun x=>memB k p mx my x.1 x.2) = []:=by
  rw [List.filter_eq_nil_iff]
  intro z hz hb
  have h3:=spanL_mem (flatC_mem' hz).1
  have:=memB_data hR hb hm
  omega
 rw [this,List.append_nil]
 rfl
def turnF (a b:Int×Int) (l:List (Int×Int)):Bool:=l.foldl (fun o e=>o != decide (e=a∨e=b)) false
end Go.Proofs.YtkllhjhkcipkoaaGreatDoor

namespace Go.Proofs.YtkllhjhkcipkoaaGreatDoor
open Go.RowKit Go.Shelf

def OwnA (w:World) (base:Nat) (v:Value) (l:List (Int×Int)):Prop:=w.ownsRow base 91 2 v l.length (codeCells l)
theorem ownA_nil (w:World) (base:Nat):OwnA w base (.slice none 0 0) []:=World.ownsRow_nil w base _ 2
theorem OwnA.below {w w':World} {base:Nat} {v:Value} {l:List (Int×Int)} (h:OwnA w base v l) (hb:Below w.heap.size w w'):OwnA w' base v l:=by
 refine ⟨h.1,?_⟩
 rcases h.2 with h1 | ⟨g,cap,cur,e,h2,hg,rest⟩
 · exact .inl h1
 · exact .inr ⟨g,cap,cur,e,h2,(hb.block g (Array.getElem?_eq_some_iff.1 hg).1).trans hg,rest⟩
theorem OwnA.own_le {w:World} {base:Nat} {v:Value} {l:List (Int×Int)} (h:OwnA w base v l):∀ k,v.ownBlock=some k→base≤k:=fun k e=>(World.ownsRow.lt h k e).1
theorem OwnA.ne {w:World} {base:Nat} {v:Value} {l:List (Int×Int)} (h:OwnA w base v l) {g:Nat} (hb:g<base):some g≠v.ownBlock:=fun e=>by
 have:=h.own_le g e.symm
 omega
theorem OwnA.less {w:World} {base base':Nat} {v:Value} {l:List (Int×Int)} (h:OwnA w base v l) (hb:base'≤base):OwnA w base' v l:=⟨h.1,h.2.imp id fun ⟨g,cap,cur,h1,h2,h3⟩=>⟨g,cap,cur,h1,Nat.le_trans hb h2,h3⟩⟩
def ReadA (W:World) (v:Value) (l:List (Int×Int)):Prop :=
 ∃ (p:Option Addr) (cap:Nat),v = .slice p l.length cap∧∀ (j:Nat) (hj:j<l.length),∃ g,p=some ⟨g,0,none⟩∧g<W.heap.size∧W.cell? ⟨g,j * 2,none⟩=some (.int .i64 (l[j]).1)∧W.cell? ⟨g,j * 2+1,none⟩=some (.int .i64 (l[j]).2)
theorem ReadA.next {W W':World} {v:Value} {l:List (Int×Int)} (h:ReadA W v l) (hb:Below W.heap.size W W'):ReadA W' v l:=by
 obtain ⟨p,cap,e,hc⟩:=h
 refine ⟨p,cap,e,fun j hj=>?_⟩
 obtain ⟨g,h1,h2,h3,h4⟩:=hc j hj
 exact ⟨g,h1,Nat.lt_of_lt_of_le h2 hb.size,nextc h3 hb,nextc h4 hb⟩
theorem ReadP.readA {W:World} {v:Value} {l:List (Int×Int)} (h:ReadP W.heap.size W v l):ReadA W v l:=by
 obtain ⟨g,cap,e,hg,hc⟩:=h
 exact ⟨some ⟨g,0,none⟩,cap,e,fun j hj=>⟨g,rfl,hg,hc j hj⟩⟩
theorem OwnA.readA {w:World} {base:Nat} {v:Value} {l:List (Int×Int)} (h:OwnA w base v l):ReadA w v l:=by
 by_cases hl:l = []
 · subst hl
   rcases h.2 with ⟨rfl,_⟩ | ⟨g,cap,cur,e,_⟩
   · exact ⟨none,0,rfl,fun j hj=>absurd hj (Nat.not_lt_zero _)⟩
   · exact ⟨some ⟨g,0,none⟩,cap,e,fun j hj=>absurd hj (Nat.not_lt_zero _)⟩
 · obtain ⟨g,cap,rfl,hg,hg1⟩:=World.ownsRow.form h (List.length_pos_iff.2 hl)
   refine ⟨some ⟨g,0,none⟩,cap,rfl,fun j hj=>⟨g,rfl,by omega,?_⟩⟩
   obtain ⟨k0,k1⟩:=codeCells_at l j hj
   rw [Nat.mul_comm 2 j] at k0 k1
   exact ⟨(World.ownsRow.cellAt h (j * 2) (by omega)).trans k0,(World.ownsRow.cellAt h (j * 2+1) (by omega)).trans k1⟩
theorem OwnA.push {w:World} {base:Nat} {v:Value} {l:List (Int×Int)} {x y:Int} (h:w.ownsRow base 91 2 v (l.length+1) (codeCells l ++ [.int .i64 x,.int .i64 y])):OwnA w base v (l ++ [(x,y)]):=by
 unfold OwnA
 rw [List.length_append]
 unfold codeCells at *
 rw [List.flatMap_append]
 exact h

def grid (c:Int) (R j n:Nat):List (Int×Int):=((List.range j).flatMap fun (i:Nat)=>(List.range R).map fun (r:Nat)=>(c+(i:Int),(r:Int))) ++ (List.range n).map fun (r:Nat)=>(c+(j:Int),(r:Int))
theorem grid_row (c:Int) (R j:Nat):grid c R (j+1) 0=grid c R j R:=by
 unfold grid
 rw [List.range_succ,List.flatMap_append]
 simp
theorem grid_one (c:Int) (R j n:Nat):grid c R j (n+1)=grid c R j n ++ [(c+(j:Int),(n:Int))]:=by
 unfold grid
 rw [List.range_succ,List.map_append,List.append_assoc]
 rfl
theorem grid_flat (a b p:Int):grid a (p - 1).toNat (b - a).toNat 0=flatC p (spanL a b):=by
 unfold grid flatC spanL rowsL
 rw [List.flatMap_map]
 simp
 rfl
theorem grid_len (c:Int) (R j n:Nat) (hR:R≤16) (hj:j≤20) (hn:n≤R):(grid c R j n).length≤500:=by
 unfold grid
 rw [List.length_append,List.length_flatMap,List.length_map,List.length_range]
 have e:((List.range j).map fun (i:Nat)=>((List.range R).map fun (r:Nat)=>(c+(i:Int),(r:Int))).length)=(List.range j).map fun _=>R:=by
  apply List.map_congr_left
  intro i _
  simp
 rw [e,List.map_const',List.sum_replicate_nat,List.length_range]
 have:=Nat.mul_le_mul hj hR
 omega

end Go.Proofs.YtkllhjhkcipkoaaGreatDoor

namespace Go.Proofs.YtkllhjhkcipkoaaGreatDoor
open Go.RowKit Go.Shelf
attribute [local go_sem] Oper.semAt_some

def refB (k p my y r o dg sl:Int):Bool :=
 if r=2 then o == 1 && y == my else if r=3∧k=2 then (o == 1 || o == 2) && dg == my else if r=3 then o == 1 && (dg == my || dg == p - 1) else o == 1 && (sl == my || sl == p - 1)
theorem refB_mem {k p mx my x y:Int} (hR:RightC k p) (hc:HasCell k p mx my) (hm:p - shortN k≤mx) (hx:HasCell k p x y):refB k p my y (rroleN (p - shortN k) mx) (rroleN (p - shortN k) x) ((x+y) % p) ((y - x) % p)=memB k p mx my x y:=by
 have hu:=hR.und
 obtain ⟨p1,p2,s1,s2,m1,m2⟩:=hu
 have e1:=role_eq (x:=mx) ⟨hc.1.1,hc.1.2⟩ hR.und
 have e2:(rroleN (p - shortN k) x=1↔x<p - shortN k):=by unfold rroleN;split <;> omega
 have e3:(rroleN (p - shortN k) x=2↔x=p - shortN k):=by unfold rroleN;split <;> omega
 unfold memB wayB inRw onDg onSl dgN2 slN2
 rw [if_pos hx,if_pos hx,e1]
 unfold refB
 generalize rroleN (p - shortN k) mx=r at *
 generalize rroleN (p - shortN k) x=o at *
 generalize (x+y) % p=dg
 generalize (y - x) % p=sl
 generalize p - shortN k=d at *
 by_cases h2:r=2
 · rw [if_pos h2,if_pos h2,Bool.eq_iff_iff]
   simp [e2]
 · rw [if_neg h2,if_neg h2]
   by_cases h3:r=3
   · rw [if_pos h3]
     by_cases hk:k=2
     · rw [if_pos ⟨h3,hk⟩,if_pos hk,Bool.eq_iff_iff]
       simp [e2,e3,h3]
     · rw [if_neg (fun h=>hk h.2),if_pos h3,if_neg hk,Bool.eq_iff_iff]
       simp [e2]
   · rw [if_neg (fun h=>h3 h.1),if_neg h3,if_neg h3,Bool.eq_iff_iff]
     simp [e2]

theorem member_walk (k p mx my x y r o dg sl:Int) (hb:-100≤p∧p≤100) (hRo:∀ W,Calls Tryz.prog 84 #[.agg #[.int .i64 k,.int .i64 p],.int .i64 mx] W fun e w'=>e = .returned (.int .i64 r)∧Below W.heap.size W w')
 (hOf:∀ W,Calls Tryz.prog 84 #[.agg #[.int .i64 k,.int .i64 p],.int .i64 x] W fun e w'=>e = .returned (.int .i64 o)∧Below W.heap.size W w')
 (hDg:∀ W,Calls Tryz.prog 85 #[.agg #[.int .i64 k,.int .i64 p],.agg #[.int .i64 x,.int .i64 y]] W fun e w'=>e = .returned (.int .i64 dg)∧Below W.heap.size W w')
 (hSl:∀ W,Calls Tryz.prog 86 #[.agg #[.int .i64 k,.int .i64 p],.agg #[.int .i64 x,.int .i64 y]] W fun e w'=>e = .returned (.int .i64 sl)∧Below W.heap.size W w') (w:World) :
 Calls Tryz.prog 67 #[.agg #[.int .i64 k,.int .i64 p],.agg #[.int .i64 mx,.int .i64 my],.agg #[.int .i64 x,.int .i64 y]] w fun e w'=>e = .returned (.bool (refB k p my y r o dg sl))∧Below w.heap.size w w':=by
 have HRo:=Lib.hid hRo
 have HOf:=Lib.hid hOf
 have HDg:=Lib.hid hDg
 have HSl:=Lib.hid hSl
 clear hRo hOf hDg hSl
 obtain ⟨W0,hW0⟩:∃ W0,((w.alloc (.cells #[.int .i64 k,.int .i64 p] 37)).alloc (.cells #[.int .i64 mx,.int .i64 my] 91)).alloc (.cells #[.int .i64 x,.int .i64 y] 91)=W0:=⟨_,rfl⟩
 have b0:Blk W0 w.heap.size 37 #[.int .i64 k,.int .i64 p]:=by rw [←hW0];exact ((Blk.new w _ _).alloc _).alloc _
 have b1:Blk W0 (w.heap.size+1) 91 #[.int .i64 mx,.int .i64 my]:=by rw [←hW0];exact (Blk.second w _ _ _).alloc _
 have b2:Blk W0 (w.heap.size+1+1) 91 #[.int .i64 x,.int .i64 y]:=by
  rw [←hW0]
  have:=Blk.new ((w.alloc (.cells #[.int .i64 k,.int .i64 p] 37)).alloc (.cells #[.int .i64 mx,.int .i64 my] 91)) 91 #[.int .i64 x,.int .i64 y]
  rwa [World.size_alloc,World.size_alloc] at this
 have hB:Below w.heap.size w W0:=by rw [←hW0];exact (below_two w _ _).alloc (by simp;omega) _
 have c0:=b0.cell 0
 have c1:=b0.cell 1
 have a0:=b1.cell 0
 have a1:=b1.cell 1
 have z0:=b2.cell 0
 have z1:=b2.cell 1
 simp only [gz9] at c0 c1 a0 a1 z0 z1
 refine (callsIn_wide (n:=12)).1 ?_
 refine callsIn_of_wp_marks Tryz.func67 rfl trivial ?_ rfl
 simp only [Tryz.ntmps67,List.size_toArray,List.length_cons,List.length_nil,Nat.reduceAdd,Nat.reduceSub,Array.replicate_succ,Array.replicate_zero,List.push_toArray,List.append_toArray,List.nil_append,List.cons_append]
 gi_wp2_with fail
 clear hW0
 have hS:(fun V:World=>V.cell? ⟨w.heap.size,0,none⟩=some (.int .i64 k)∧V.cell? ⟨w.heap.size,1,none⟩=some (.int .i64 p)∧V.cell? ⟨w.heap.size+1,0,none⟩=some (.int .i64 mx)∧V.cell? ⟨w.heap.size+1,1,none⟩=some (.int .i64 my)∧V.cell? ⟨w.heap.size+1+1,0,none⟩=some (.int .i64 x)∧V.cell? ⟨w.heap.size+1+1,1,none⟩=some (.int .i64 y)) _:=⟨c0,c1,a0,a1,z0,z1⟩
 refine wpIn_mono (region_HF (Q:=NoPanic _) (S:=(fun V:World=>V.cell? ⟨w.heap.size,0,none⟩=some (.int .i64 k)∧V.cell? ⟨w.heap.size,1,none⟩=some (.int .i64 p)∧V.cell? ⟨w.heap.size+1,0,none⟩=some (.int .i64 mx)∧V.cell? ⟨w.heap.size+1,1,none⟩=some (.int .i64 my)∧V.cell? ⟨w.heap.size+1+1,0,none⟩=some (.int .i64 x)∧V.cell? ⟨w.heap.size+1+1,1,none⟩=some (.int .i64 y))) (by kernel_rfl) ?_) NoPanic.imp
 refine tkF (i:=0) (d:=11) (v:=.agg #[.int .i64 k,.int .i64 p]) (s:=hS) (c:=?_)
 simp only [ud9]
 refine tkF (i:=1) (d:=12) (v:=.pointer (some ⟨w.heap.size+1,0,none⟩)) (s:=hS) (c:=?_)
 simp only [ud9]
 refine tkF (i:=2) (d:=13) (v:=.int .i64 mx) (s:=hS) (c:=?_)
 simp only [ud9]
 refine tkF (i:=4) (d:=15) (v:=.agg #[.int .i64 k,.int .i64 p]) (s:=hS) (c:=?_)
 simp only [ud9]
 refine tkF (i:=5) (d:=16) (v:=.pointer (some ⟨w.heap.size+1+1,0,none⟩)) (s:=hS) (c:=?_)
 simp only [ud9]
 refine tkF (i:=6) (d:=17) (v:=.int .i64 x) (s:=hS) (c:=?_)
 simp only [ud9]
 refine oneF (i:=3) (c:=?_)
 gi_wp2_with fail
 refine ⟨trivial,(callsIn_wide.2 (HRo.out _)).mono ?_⟩
 rintro e w1 ⟨rfl,hB1⟩
 replace hB1:=below_undrew hB1
 replace b0:=b0.below hB1 b0.lt
 replace b1:=b1.below hB1 b1.lt
 replace b2:=b2.below hB1 b2.lt
 replace hB:=below_in hB hB1
 clear c0 c1 a0 a1 z0 z1
 have c0:=b0.cell 0
 have c1:=b0.cell 1
 have a0:=b1.cell 0
 have a1:=b1.cell 1
 have z0:=b2.cell 0
 have z1:=b2.cell 1
 simp only [gz9] at c0 c1 a0 a1 z0 z1
 clear hS
 gi_wp2
 refine oneF (i:=7) (c:=?_)
 gi_wp2_with fail
 refine ⟨trivial,(callsIn_wide.2 (HOf.out _)).mono ?_⟩
 rintro e w1 ⟨rfl,hB1⟩
 replace b0:=b0.below hB1 b0.lt
 replace b1:=b1.below hB1 b1.lt
 replace b2:=b2.below hB1 b2.lt
 replace hB:=below_in hB hB1
 clear c0 c1 a0 a1 z0 z1
 have c0:=b0.cell 0
 have c1:=b0.cell 1
 have a0:=b1.cell 0
 have a1:=b1.cell 1
 have z0:=b2.cell 0
 have z1:=b2.cell 1
 simp only [gz9] at c0 c1 a0 a1 z0 z1
 gi_wp2
 refine oneF (i:=8) (c:=?_)
 gi_wp2
 refine oneF (i:=9) (c:=?_)
 gi_wp2
 refine anyHF_done (by kernel_rfl) ?_ _
 refine NoPanic.normal ?_
 gi_wp2_with fail
 have hS:(fun V:World=>V.cell? ⟨w.heap.size,0,none⟩=some (.int .i64 k)∧V.cell? ⟨w.heap.size,1,none⟩=some (.int .i64 p)∧V.cell? ⟨w.heap.size+1,0,none⟩=some (.int .i64 mx)∧V.cell? ⟨w.heap.size+1,1,none⟩=some (.int .i64 my)∧V.cell? ⟨w.heap.size+1+1,0,none⟩=some (.int .i64 x)∧V.cell? ⟨w.heap.size+1+1,1,none⟩=some (.int .i64 y)) _:=⟨c0,c1,a0,a1,z0,z1⟩
 refine wpIn_mono (region_HF (Q:=NoPanic _) (S:=(fun V:World=>V.cell? ⟨w.heap.size,0,none⟩=some (.int .i64 k)∧V.cell? ⟨w.heap.size,1,none⟩=some (.int .i64 p)∧V.cell? ⟨w.heap.size+1,0,none⟩=some (.int .i64 mx)∧V.cell? ⟨w.heap.size+1,1,none⟩=some (.int .i64 my)∧V.cell? ⟨w.heap.size+1+1,0,none⟩=some (.int .i64 x)∧V.cell? ⟨w.heap.size+1+1,1,none⟩=some (.int .i64 y))) (by kernel_rfl) ?_) NoPanic.imp
 refine tkF (i:=0) (d:=19) (v:=.agg #[.int .i64 k,.int .i64 p]) (s:=hS) (c:=?_)
 simp only [ud9]
 refine tkF (i:=1) (d:=20) (v:=.agg #[.int .i64 x,.int .i64 y]) (s:=hS) (c:=?_)
 simp only [ud9]
 refine tkF (i:=3) (d:=22) (v:=.agg #[.int .i64 k,.int .i64 p]) (s:=hS) (c:=?_)
 simp only [ud9]
 refine tkF (i:=4) (d:=23) (v:=.agg #[.int .i64 x,.int .i64 y]) (s:=hS) (c:=?_)
 simp only [ud9]
 refine oneF (i:=2) (c:=?_)
 gi_wp2_with fail
 refine ⟨trivial,(callsIn_wide.2 (HDg.out _)).mono ?_⟩
 rintro e w1 ⟨rfl,hB1⟩
 replace hB1:=below_undrew hB1
 replace b0:=b0.below hB1 b0.lt
 replace b1:=b1.below hB1 b1.lt
 replace b2:=b2.below hB1 b2.lt
 replace hB:=below_in hB hB1
 clear c0 c1 a0 a1 z0 z1
 have c0:=b0.cell 0
 have c1:=b0.cell 1
 have a0:=b1.cell 0
 have a1:=b1.cell 1
 have z0:=b2.cell 0
 have z1:=b2.cell 1
 simp only [gz9] at c0 c1 a0 a1 z0 z1
 gi_wp2
 refine oneF (i:=5) (c:=?_)
 gi_wp2_with fail
 refine ⟨trivial,(callsIn_wide.2 (HSl.out _)).mono ?_⟩
 rintro e w1 ⟨rfl,hB1⟩
 replace b0:=b0.below hB1 b0.lt
 replace b1:=b1.below hB1 b1.lt
 replace b2:=b2.below hB1 b2.lt
 replace hB:=below_in hB hB1
 clear c0 c1 a0 a1 z0 z1
 have c0:=b0.cell 0
 have c1:=b0.cell 1
 have a0:=b1.cell 0
 have a1:=b1.cell 1
 have z0:=b2.cell 0
 have z1:=b2.cell 1
 simp only [gz9] at c0 c1 a0 a1 z0 z1
 gi_wp2
 refine oneF (i:=6) (c:=?_)
 gi_wp2
 refine oneF (i:=7) (c:=?_)
 gi_wp2
 refine anyHF_done (by kernel_rfl) ?_ _
 refine NoPanic.normal ?_
 clear hS HRo HOf HDg HSl
 cases hr2:((r == 2):Bool) with
 | true =>
   cases ho1:((o == 1):Bool) with
   | true =>
     cases hymy:((y == my):Bool) with
     | true =>
       gi_wp2
       exact ⟨.bool true,by simp [results,Tryz.results67,go_sem],ret_bool (by unfold refB;simp_all),hB⟩
     | false =>
       gi_wp2
       exact ⟨.bool false,by simp [results,Tryz.results67,go_sem],ret_bool (by unfold refB;simp_all),hB⟩
   | false =>
     gi_wp2
     exact ⟨.bool false,by simp [results,Tryz.results67,go_sem],ret_bool (by unfold refB;simp_all),hB⟩
 | false =>
   cases hr3:((r == 3):Bool) with
   | true =>
     cases hk2:((k == 2):Bool) with
     | true =>
       cases ho1:((o == 1):Bool) with
       | true =>
         cases hdgmy:((dg == my):Bool) with
         | true =>
           gi_wp2
           exact ⟨.bool true,by simp [results,Tryz.results67,go_sem],ret_bool (by unfold refB;simp_all),hB⟩
         | false =>
           gi_wp2
           exact ⟨.bool false,by simp [results,Tryz.results67,go_sem],ret_bool (by unfold refB;simp_all),hB⟩
       | false =>
         cases ho2:((o == 2):Bool) with
         | true =>
           cases hdgmy:((dg == my):Bool) with
           | true =>
             gi_wp2
             exact ⟨.bool true,by simp [results,Tryz.results67,go_sem],ret_bool (by unfold refB;simp_all),hB⟩
           | false =>
             gi_wp2
             exact ⟨.bool false,by simp [results,Tryz.results67,go_sem],ret_bool (by unfold refB;simp_all),hB⟩
         | false =>
           gi_wp2
           exact ⟨.bool false,by simp [results,Tryz.results67,go_sem],ret_bool (by unfold refB;simp_all),hB⟩
     | false =>
       cases ho1:((o == 1):Bool) with
       | true =>
         cases hdgmy:((dg == my):Bool) with
         | true =>
           gi_wp2
           exact ⟨.bool true,by simp [results,Tryz.results67,go_sem],ret_bool (by unfold refB;simp_all),hB⟩
         | false =>
           cases hdgp:((dg == p - 1):Bool) with
           | true =>
             gi_wp2
             exact ⟨.bool true,by simp [results,Tryz.results67,go_sem],ret_bool (by unfold refB;simp_all),hB⟩
           | false =>
             gi_wp2
             exact ⟨.bool false,by simp [results,Tryz.results67,go_sem],ret_bool (by unfold refB;simp_all),hB⟩
       | false =>
         gi_wp2
         exact ⟨.bool false,by simp [results,Tryz.results67,go_sem],ret_bool (by unfold refB;simp_all),hB⟩
   | false =>
     cases ho1:((o == 1):Bool) with
     | true =>
       cases hslmy:((sl == my):Bool) with
       | true =>
         gi_wp2
         exact ⟨.bool true,by simp [results,Tryz.results67,go_sem],ret_bool (by unfold refB;simp_all),hB⟩
       | false =>
         cases hslp:((sl == p - 1):Bool) with
         | true =>
           gi_wp2
           exact ⟨.bool true,by simp [results,Tryz.results67,go_sem],ret_bool (by unfold refB;simp_all),hB⟩
         | false =>
           gi_wp2
           exact ⟨.bool false,by simp [results,Tryz.results67,go_sem],ret_bool (by unfold refB;simp_all),hB⟩
     | false =>
       gi_wp2
       exact ⟨.bool false,by simp [results,Tryz.results67,go_sem],ret_bool (by unfold refB;simp_all),hB⟩
end Go.Proofs.YtkllhjhkcipkoaaGreatDoor

namespace Go.Proofs.YtkllhjhkcipkoaaGreatDoor
open Go.RowKit Go.Shelf

theorem refMember_any (k p mx my x y:Int) (hR:RightC k p) (hc:HasCell k p mx my) (hm:p - shortN k≤mx) (hx:HasCell k p x y) (w:World) :
 Calls Tryz.prog 67 #[.agg #[.int .i64 k,.int .i64 p],.agg #[.int .i64 mx,.int .i64 my],.agg #[.int .i64 x,.int .i64 y]] w fun e w'=>e = .returned (.bool (memB k p mx my x y))∧Below w.heap.size w w':=by
 obtain ⟨p1,p2,s1,s2,m1,m2⟩:=hR.und
 have h:=member_walk k p mx my x y _ _ _ _ (by omega) (fun W=>refRole_any k p mx hR ⟨hc.1.1,by have:=hc.1.2;omega⟩ W) (fun W=>refRole_any k p x hR ⟨hx.1.1,by have:=hx.1.2;omega⟩ W)
  (fun W=>refDiagonal_any k p x y hR ⟨hx.1.1,by have:=hx.1.2;omega⟩ ⟨hx.2.1,by have:=hx.2.2;omega⟩ W) (fun W=>refSlant_any k p x y hR ⟨hx.1.1,by have:=hx.1.2;omega⟩ ⟨hx.2.1,by have:=hx.2.2;omega⟩ W) w
 rw [refB_mem hR hc hm hx] at h
 exact h

theorem refMembers_any (k p mx my:Int) (hR:RightC k p) (hc:HasCell k p mx my) (hm:p - shortN k≤mx) (w:World) :
 Calls Tryz.prog 49 #[.agg #[.int .i64 k,.int .i64 p],.agg #[.int .i64 mx,.int .i64 my]] w fun e w'=>∃ v,e = .returned v∧OwnA w' w.heap.size v (memL k p mx my)∧Below w.heap.size w w':=by
 obtain ⟨p1,p2,s1,s2,m1,m2⟩:=hR.und
 have HME:=Lib.hid (fun x y hx W=>refMember_any k p mx my x y hR hc hm hx W)
 have HCo:=Lib.hid (fun W=>refCols_any k p hR W)
 have HRw:=Lib.hid (fun W=>refRows_any k p hR W)
 have HEND:Hid ((grid 0 (p - 1).toNat (p - shortN k+madeN k).toNat 0).filter (fun z=>memB k p mx my z.1 z.2)=memL k p mx my):=by
  have:=grid_flat 0 (p - shortN k+madeN k) p
  rw [Int.sub_zero] at this
  unfold Hid
  rw [this]
  exact memL_all hR hc hm
 unfold HasCell at HME
 generalize memL k p mx my=want at *
 generalize hq:(fun z:Int×Int=>memB k p mx my z.1 z.2)=q at HEND
 have HQ:=Lib.hid (fun x y=>(congrFun hq (x,y):memB k p mx my x y=q (x,y)))
 clear hq hc hm hR
 have hcc:0≤p - shortN k+madeN k∧p - shortN k+madeN k≤20:=by omega
 generalize p - shortN k+madeN k=cc at *
 obtain ⟨C,rfl⟩:∃ C:Nat,cc=(C:Int):=⟨cc.toNat,by omega⟩
 obtain ⟨R,hRR⟩:∃ R:Nat,p - 1=(R:Int):=⟨(p - 1).toNat,by omega⟩
 rw [hRR] at HRw HME HEND
 have hR16:R≤16:=by omega
 have hC19:C≤20:=by omega
 clear hRR p1 p2 s1 s2 m1 m2 hcc
 obtain ⟨W0,hW0⟩:∃ W0,(w.alloc (.cells #[.int .i64 k,.int .i64 p] 37)).alloc (.cells #[.int .i64 mx,.int .i64 my] 91)=W0:=⟨_,rfl⟩
 have b0:Blk W0 w.heap.size 37 #[.int .i64 k,.int .i64 p]:=by rw [←hW0];exact (Blk.new w _ _).alloc _
 have b1:Blk W0 (w.heap.size+1) 91 #[.int .i64 mx,.int .i64 my]:=by rw [←hW0];exact Blk.second w _ _ _
 have hB:Below w.heap.size w W0:=by rw [←hW0];exact below_two w _ _
 go_enter Tryz.func49,Tryz.ntmps49
 go_wp2_with fail
 clear hW0
 go_loopw [5,6] (fun v i wr=>∃ j:Nat,j≤C∧i = .int .i64 j∧OwnA wr (w.heap.size+2) v ((grid 0 R j 0).filter q)∧Blk wr w.heap.size 37 #[.int .i64 k,.int .i64 p]∧Blk wr (w.heap.size+1) 91 #[.int .i64 mx,.int .i64 my]∧Below w.heap.size w wr) (fun _ i _=>C - (intOf i).toNat)
 case atStart=>exact ⟨0,by omega,rfl,ownA_nil _ _,b0,b1,hB⟩
 case round =>
  clear b0 b1 hB
  obtain ⟨j,hj,rfl,ho,b0,b1,hB⟩:=hrel
  have c0:=b0.cell 0;have c1:=b0.cell 1;have a0:=b1.cell 0;have a1:=b1.cell 1;simp only [gz9] at c0 c1 a0 a1
  by_cases hlt:j<C
  · have hdec:decide ((j:Int)<(C:Int))=true:=by simp;omega
    go_wp2_with (go_at_call 47;refine (HCo.out _).mono ?_;rintro e w1 ⟨rfl,hB1⟩;replace ho:=ho.below hB1;replace b0:=b0.below hB1 b0.lt;replace b1:=b1.below hB1 b1.lt;replace hB:=below_in hB hB1;have c0:=b0.cell 0;have c1:=b0.cell 1;have a0:=b1.cell 0;have a1:=b1.cell 1;simp only [gz9] at c0 c1 a0 a1)
    go_loopw [5,7] (fun v i wz=>∃ n:Nat,n≤R∧i = .int .i64 n∧OwnA wz (w.heap.size+2) v ((grid 0 R j n).filter q)∧Blk wz w.heap.size 37 #[.int .i64 k,.int .i64 p]∧Blk wz (w.heap.size+1) 91 #[.int .i64 mx,.int .i64 my]∧Below w.heap.size w wz) (fun _ i _=>R - (intOf i).toNat)
    case atStart=>exact ⟨0,by omega,rfl,ho,b0,b1,hB⟩
    case round =>
     clear ho b0 b1 hB c0 c1 a0 a1
     obtain ⟨n,hn,rfl,ho,b0,b1,hB⟩:=hrel
     have c0:=b0.cell 0;have c1:=b0.cell 1;have a0:=b1.cell 0;have a1:=b1.cell 1;simp only [gz9] at c0 c1 a0 a1
     by_cases hlt2:n<R
     · have hdec2:decide ((n:Int)<(R:Int))=true:=by simp;omega
       have hfl:((grid 0 R j n).filter q).length≤500:=Nat.le_trans (List.length_filter_le _ _) (grid_len 0 R j n hR16 (by omega) (by omega))
       go_wp2_with fail
       refine (HRw.out _).mono ?_
       rintro e w1 ⟨rfl,hB1⟩
       replace ho:=ho.below hB1
       replace b0:=b0.below hB1 b0.lt
       replace b1:=b1.below hB1 b1.lt
       replace hB:=below_in hB hB1
       clear hB1 c0 c1 a0 a1
       have hBx:=below_one w1 (.cells #[.int .i64 j,.int .i64 n] 91)
       have b2:=Blk.new w1 91 #[.int .i64 j,.int .i64 n]
       replace ho:=ho.below hBx
       replace b0:=b0.below hBx b0.lt
       replace b1:=b1.below hBx b1.lt
       replace hB:=below_in hB hBx
       have c0:=b0.cell 0;have c1:=b0.cell 1;have a0:=b1.cell 0;have a1:=b1.cell 1;simp only [gz9] at c0 c1 a0 a1
       have z0:=b2.cell 0;have z1:=b2.cell 1;simp only [gz9] at z0 z1
       have HM:=Lib.hid (HME.out j n ⟨⟨by omega,by omega⟩,by omega,by omega⟩)
       have hqq:=HQ.out (j:Int) (n:Int)
       rw [hqq] at HM
       clear hqq
       cases hqz:q ((j:Int),(n:Int)) with
       | false =>
         rw [hqz] at HM
         have hnx:(grid 0 R j (n+1)).filter q=(grid 0 R j n).filter q:=by rw [grid_one,List.filter_append];simp [hqz]
         generalize (grid 0 R j n).filter q=l at *
         have HN:=Lib.hid hnx
         clear hnx
         go_wp2_with (go_at_call 67;refine (HM.out _).mono ?_;rintro e w3 ⟨rfl,hB1⟩;replace ho:=ho.below hB1;replace b0:=b0.below hB1 b0.lt;replace b1:=b1.below hB1 b1.lt;replace hB:=below_in hB hB1)
         go_roundw
         case rel=>exact ⟨n+1,by omega,by go_num,by rw [HN.out];exact ho,b0,b1,hB⟩
         case measure=>simp [intOf];omega
       | true =>
         rw [hqz] at HM
         have hnx:(grid 0 R j (n+1)).filter q=(grid 0 R j n).filter q ++ [((j:Int),(n:Int))]:=by rw [grid_one,List.filter_append];simp [hqz]
         generalize (grid 0 R j n).filter q=l at *
         have HN:=Lib.hid hnx
         clear hnx
         go_wp2_with fail
         refine (HM.out _).mono ?_
         rintro e w3 ⟨rfl,hB1⟩
         replace ho:=ho.below hB1
         replace b0:=b0.below hB1 b0.lt
         replace b1:=b1.below hB1 b1.lt
         replace b2:=b2.below hB1 b2.lt
         replace hB:=below_in hB hB1
         clear c0 c1 a0 a1 z0 z1
         have z0:=b2.cell 0;have z1:=b2.cell 1;simp only [gz9] at z0 z1
         have hBy:=below_one w3 (.cells #[.int .i64 j,.int .i64 n] 91)
         have HO:=Lib.hid (ho.below hBy)
         have HU:=Lib.hid (Blk.new w3 91 #[.int .i64 j,.int .i64 n])
         replace b0:=b0.below hBy b0.lt
         replace b1:=b1.below hBy b1.lt
         replace hB:=below_in hB hBy
         have hs3:=hB.size
         have hs4:=b1.lt
         have ho4:=ho.own_le
         have hn0:=ho.ne (g:=w.heap.size) (by omega)
         have hn1:=ho.ne (g:=w.heap.size+1) (by omega)
         go_wp2_with (at_builtin;refine wpList_code _ rfl _ _ 88 91 (.agg #[.int .i64 0,.int .i64 0]) 16 rfl Tryz.underlying88 Tryz.infoAt rfl (w.heap.size+2) _ _ rfl _ HO.out _ 1 _ _ rfl HU.out (by omega) (by omega) (by omega) ?_;intro v2 w2 hown2 hgrow2)
         go_roundw
         case rel=>exact ⟨n+1,by omega,by go_num,by rw [HN.out];exact OwnA.push hown2,b0.grown hgrow2 hn0,b1.grown hgrow2 hn1,hB.grown hgrow2 hB.size (fun r e=>by have:=ho4 r e;omega)⟩
         case measure=>simp [intOf];omega
     · obtain rfl:n=R:=by omega
       have hdec2:decide ((n:Int)<(n:Int))=false:=by simp
       go_wp2_with (go_at_call 36;refine (HRw.out _).mono ?_;rintro e w1 ⟨rfl,hB1⟩;replace ho:=ho.below hB1;replace b0:=b0.below hB1 b0.lt;replace b1:=b1.below hB1 b1.lt;replace hB:=below_in hB hB1;have c0:=b0.cell 0;have c1:=b0.cell 1;have a0:=b1.cell 0;have a1:=b1.cell 1;simp only [gz9] at c0 c1 a0 a1)
       go_roundw
       case rel=>exact ⟨j+1,by omega,by go_num,by rw [grid_row];exact ho,b0,b1,hB⟩
       case measure=>simp [intOf];omega
  · obtain rfl:j=C:=by omega
    have hdec:decide ((j:Int)<(j:Int))=false:=by simp
    go_wp2_with (go_at_call 47;refine (HCo.out _).mono ?_;rintro e w1 ⟨rfl,hB1⟩;replace ho:=ho.below hB1;replace b0:=b0.below hB1 b0.lt;replace b1:=b1.below hB1 b1.lt;replace hB:=below_in hB hB1;have c0:=b0.cell 0;have c1:=b0.cell 1;have a0:=b1.cell 0;have a1:=b1.cell 1;simp only [gz9] at c0 c1 a0 a1)
    have he:=HEND.out
    simp only [Int.toNat_natCast] at he
    rw [he] at ho
    go_wp2
    go_ret
    exact ⟨_,rfl,ho.less (by omega),hB⟩
end Go.Proofs.YtkllhjhkcipkoaaGreatDoor

namespace Go.Proofs.YtkllhjhkcipkoaaGreatDoor.E
open Go.RowKit Go.Shelf Go.Proofs.YtkllhjhkcipkoaaGreatDoor.C

def Grid (R n:Nat) (css:List (List (List UInt8))):Prop:=∀ j,j<css.length→(css[j]?.getD []).length=R∧∀ i,i<R→((css[j]?.getD [])[i]?.getD []).length=n
def cellI (css:List (List (List UInt8))) (z:Int×Int):List UInt8:=cellOf_ css z.1.toNat z.2.toNat
def uponL (n:Nat) (css:List (List (List UInt8))) (l:List (Int×Int)):List UInt8:=xors (List.replicate n 0) (l.map (cellI css))
def colL (k p:Int) (n:Nat) (css:List (List (List UInt8))) (col:Int):List (List UInt8):=(List.range (p - 1).toNat).map fun (row:Nat)=>uponL n css (memL k p col (row:Int))
def stepsL (k p:Int) (n:Nat) (css:List (List (List UInt8))):Nat→List (List (List UInt8))
 | 0=>css
 | m+1=>stepsL k p n css m ++ [colL k p n (stepsL k p n css m) ((css.length:Int)+(m:Int))]
def inL (R N:Nat) (l:List (Int×Int)):Prop:=∀ z∈l,(0≤z.1∧z.1<(N:Int))∧(0≤z.2∧z.2<(R:Int))
def natZ (z:Int×Int):Nat×Nat:=(z.1.toNat,z.2.toNat)

theorem uponL_len (n:Nat) (css:List (List (List UInt8))) (l:List (Int×Int)):(uponL n css l).length=n:=by
 unfold uponL
 rw [xors_len,List.length_replicate]
theorem colL_len (k p:Int) (n:Nat) (css:List (List (List UInt8))) (col:Int):(colL k p n css col).length=(p - 1).toNat:=by unfold colL;simp
theorem colL_at (k p:Int) (n:Nat) (css:List (List (List UInt8))) (col:Int) {i:Nat} (hi:i<(p - 1).toNat):(colL k p n css col)[i]?.getD []=uponL n css (memL k p col (i:Int)):=by
 unfold colL
 rw [List.getElem?_map,List.getElem?_range hi]
 rfl
theorem stepsL_len (k p:Int) (n:Nat) (css:List (List (List UInt8))):∀ m,(stepsL k p n css m).length=css.length+m
 | 0=>rfl
 | m+1=>by
   show (stepsL k p n css m ++ [_]).length = _
   rw [List.length_append,stepsL_len k p n css m]
   rfl
theorem Grid.snoc {R n:Nat} {css:List (List (List UInt8))} (h:Grid R n css) {cs:List (List UInt8)} (h1:cs.length=R) (h2:∀ i,i<R→(cs[i]?.getD []).length=n):Grid R n (css ++ [cs]):=by
 intro j hj
 rw [List.length_append] at hj
 rcases Nat.lt_or_ge j css.length with h3 | h3
 · rw [List.getElem?_append_left h3]
   exact h j h3
 · have:j=css.length:=by simp at hj;omega
   subst this
   rw [List.getElem?_append_right (Nat.le_refl _),Nat.sub_self]
   exact ⟨h1,h2⟩
theorem Grid.col {R n:Nat} {css:List (List (List UInt8))} (h:Grid R n css) {k p:Int} (hR:R=(p - 1).toNat) (col:Int) (css':List (List (List UInt8))):Grid R n (css ++ [colL k p n css' col]) :=
 h.snoc (by rw [colL_len,hR]) fun i hi=>by rw [colL_at k p n css' col (by omega),uponL_len]
theorem Grid.steps {R n:Nat} {css:List (List (List UInt8))} (h:Grid R n css) {k p:Int} (hR:R=(p - 1).toNat):∀ m,Grid R n (stepsL k p n css m)
 | 0=>h
 | m+1=>(Grid.steps h hR m).col hR _ _
theorem Grid.cell {R n:Nat} {css:List (List (List UInt8))} (h:Grid R n css) {z:Int×Int} (h1:z.1<(css.length:Int)) (h0:0≤z.1) (h2:z.2<(R:Int)) (h3:0≤z.2):(cellI css z).length=n :=
 (h z.1.toNat (by omega)).2 z.2.toNat (by omega)
theorem togOk_grid {R:Nat} {css:List (List (List UInt8))} (h:TogOk R css):Grid R (firstC css).length css:=fun j hj=>⟨(h.2 j hj).1,fun i hi=>togOk_cell h hj hi⟩
theorem by_left {a b:List (List (List UInt8))} {c:Nat} (hc:c<a.length) (j r:Nat):by_ (a ++ b) j c r=by_ a j c r:=by
 unfold by_ cellOf_
 rw [List.getElem?_append_left hc]
theorem at_uponL {n:Nat} {css:List (List (List UInt8))} {l:List (Int×Int)} (h:∀ z∈l,(cellI css z).length=n) (j:Nat):at_ (uponL n css l) j=xa (l.map fun z=>by_ css j z.1.toNat z.2.toNat):=by
 unfold uponL
 rw [at_upon (fun x hx=>by
  obtain ⟨z,hz,rfl⟩:=List.mem_map.1 hx
  exact h z hz),List.map_map]
 rfl
theorem at_uponN {n:Nat} {css:List (List (List UInt8))} {l:List (Int×Int)} (h:∀ z∈l,(cellI css z).length=n) (j:Nat):at_ (uponL n css l) j=xa ((l.map natZ).map fun x=>by_ css j x.1 x.2):=by
 rw [at_uponL h,List.map_map]
 rfl
def inB (R N:Nat) (l:List (Int×Int)):Bool:=l.all fun z=>(decide (0≤z.1) && decide (z.1<(N:Int))) && (decide (0≤z.2) && decide (z.2<(R:Int)))
theorem inL_of {R N:Nat} {l:List (Int×Int)} (h:inB R N l=true):inL R N l:=by
 intro z hz
 have:=List.all_eq_true.1 h z hz
 simpa using this
theorem inL.cells {R N n:Nat} {l:List (Int×Int)} (h:inL R N l) {css:List (List (List UInt8))} (hg:Grid R n css) (hN:N≤css.length):∀ z∈l,(cellI css z).length=n:=fun z hz=>by
 have:=h z hz
 exact hg.cell (by omega) (by omega) (by omega) (by omega)
section
variable {p:Int} {css:List (List (List UInt8))}
end
end Go.Proofs.YtkllhjhkcipkoaaGreatDoor.E
