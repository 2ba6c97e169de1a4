/- -/
import Derived.Laws.OwnMore
import Derived.Laws.EntriesVeiled
import Derived.Lib.AppendZeros
import Derived.Test.YtcchjofjpflbhaaGreatDoorPAG15
set_option linter.unusedVariables false
set_option linter.unusedSimpArgs false
set_option maxRecDepth 100000
set_option maxHeartbeats 1000000
namespace Go.Proofs.YtcchjofjpflbhaaGreatDoor
open Go.RowKit Go.Shelf

def OwnA (w:World) (base:Nat) (v:Value) (l:List (Int×Int)):Prop:=w.ownsRow base 31 2 v l.length (codeCells l)
theorem ownA_nil (w:World) (base:Nat):OwnA w base (.slice none 0 0) []:=World.ownsRow_nil w base _ 2
theorem OwnA.below {w w':World} {base:Nat} {v:Value} {l:List (Int×Int)} (h:OwnA w base v l) (hb:Below w.heap.size w w'):OwnA w' base v l:=by
 refine ⟨h.1,?_⟩
 rcases h.2 with h1 | ⟨g,cap,cur,e,h2,hg,rest⟩
 · exact .inl h1
 · exact .inr ⟨g,cap,cur,e,h2,(hb.block g (Array.getElem?_eq_some_iff.1 hg).1).trans hg,rest⟩
theorem OwnA.own_le {w:World} {base:Nat} {v:Value} {l:List (Int×Int)} (h:OwnA w base v l):∀ k,v.ownBlock=some k→base≤k:=fun k e=>(World.ownsRow.lt h k e).1
theorem OwnA.ne {w:World} {base:Nat} {v:Value} {l:List (Int×Int)} (h:OwnA w base v l) {g:Nat} (hb:g<base):some g≠v.ownBlock:=fun e=>by
 have:=h.own_le g e.symm
 omega
theorem OwnA.less {w:World} {base base':Nat} {v:Value} {l:List (Int×Int)} (h:OwnA w base v l) (hb:base'≤base):OwnA w base' v l:=⟨h.1,h.2.imp id fun ⟨g,cap,cur,h1,h2,h3⟩=>⟨g,cap,cur,h1,Nat.le_trans hb h2,h3⟩⟩
def ReadA (W:World) (v:Value) (l:List (Int×Int)):Prop :=
 ∃ (p:Option Addr) (cap:Nat),v = .slice p l.length cap∧∀ (j:Nat) (hj:j<l.length),∃ g,p=some ⟨g,0,none⟩∧g<W.heap.size∧W.cell? ⟨g,j * 2,none⟩=some (.int .i64 (l[j]).1)∧W.cell? ⟨g,j * 2+1,none⟩=some (.int .i64 (l[j]).2)
theorem ReadA.next {W W':World} {v:Value} {l:List (Int×Int)} (h:ReadA W v l) (hb:Below W.heap.size W W'):ReadA W' v l:=by
 obtain ⟨p,cap,e,hc⟩:=h
 refine ⟨p,cap,e,fun j hj=>?_⟩
 obtain ⟨g,h1,h2,h3,h4⟩:=hc j hj
 exact ⟨g,h1,Nat.lt_of_lt_of_le h2 hb.size,nextc h3 hb,nextc h4 hb⟩
theorem ReadP.readA {W:World} {v:Value} {l:List (Int×Int)} (h:ReadP W.heap.size W v l):ReadA W v l:=by
 obtain ⟨g,cap,e,hg,hc⟩:=h
 exact ⟨some ⟨g,0,none⟩,cap,e,fun j hj=>⟨g,rfl,hg,hc j hj⟩⟩
theorem OwnA.readA {w:World} {base:Nat} {v:Value} {l:List (Int×Int)} (h:OwnA w base v l):ReadA w v l:=by
 by_cases hl:l = []
 · subst hl
   rcases h.2 with ⟨rfl,_⟩ | ⟨g,cap,cur,e,_⟩
   · exact ⟨none,0,rfl,fun j hj=>absurd hj (Nat.not_lt_zero _)⟩
   · exact ⟨some ⟨g,0,none⟩,cap,e,fun j hj=>absurd hj (Nat.not_lt_zero _)⟩
 · obtain ⟨g,cap,rfl,hg,hg1⟩:=World.ownsRow.form h (List.length_pos_iff.2 hl)
   refine ⟨some ⟨g,0,none⟩,cap,rfl,fun j hj=>⟨g,rfl,by omega,?_⟩⟩
   obtain ⟨k0,k1⟩:=codeCells_at l j hj
   rw [Nat.mul_comm 2 j] at k0 k1
   exact ⟨(World.ownsRow.cellAt h (j * 2) (by omega)).trans k0,(World.ownsRow.cellAt h (j * 2+1) (by omega)).trans k1⟩
theorem OwnA.push {w:World} {base:Nat} {v:Value} {l:List (Int×Int)} {x y:Int} (h:w.ownsRow base 31 2 v (l.length+1) (codeCells l ++ [.int .i64 x,.int .i64 y])):OwnA w base v (l ++ [(x,y)]):=by
 unfold OwnA
 rw [List.length_append]
 unfold codeCells at *
 rw [List.flatMap_append]
 exact h

def grid (c:Int) (R j n:Nat):List (Int×Int):=((List.range j).flatMap fun (i:Nat)=>(List.range R).map fun (r:Nat)=>(c+(i:Int),(r:Int))) ++ (List.range n).map fun (r:Nat)=>(c+(j:Int),(r:Int))
theorem same_yes (va vb:Value) (l:List (Int×Int)) (hl:l.length≤1000) (w:World) (h1:ReadA w va l) (h2:ReadA w vb l):Calls Tryz.prog 22 #[va,vb] w fun e w'=>e = .returned (.bool true)∧Below w.heap.size w w':=by
 obtain ⟨p1,c1,rfl,r1⟩:=h1
 obtain ⟨p2,c2,rfl,r2⟩:=h2
 have HR1:=Lib.hid r1
 have HR2:=Lib.hid r2
 clear r1 r2
 obtain ⟨n,hn⟩:∃ n,l.length=n:=⟨_,rfl⟩
 have HN:=Lib.hid hn
 rw [hn] at hl ⊢
 clear hn
 go_enter Tryz.func22,Tryz.ntmps22
 go_wp2
 go_loopw [5] (fun i wr=>∃ j:Nat,j≤n∧i = .int .i64 j∧Below w.heap.size w wr) (fun i _=>n - (intOf i).toNat)
 case atStart=>exact ⟨0,by omega,rfl,Below.refl _ _⟩
 case round =>
  obtain ⟨j,hj,rfl,hB⟩:=hrel
  by_cases hlt:j<n
  · have hdec:decide ((j:Int)<(n:Int))=true:=by simp;omega
    have hjs:j<l.length:=by rw [HN.out];exact hlt
    obtain ⟨g1,rfl,_,x0,x1⟩:=HR1.out j hjs
    obtain ⟨g2,rfl,_,y0,y1⟩:=HR2.out j hjs
    replace x0:=nextc x0 hB
    replace x1:=nextc x1 hB
    replace y0:=nextc y0 hB
    replace y1:=nextc y1 hB
    have i1:(0:Int)≤(j:Int):=by omega
    have i2:(j:Int)<(n:Int):=by omega
    clear HR1 HR2
    generalize l[j]=z at *
    obtain ⟨zx,zy⟩:=z
    go_wp2
    go_region_held3 (fun W=>W.cell? ⟨g1,j * 2,none⟩=some (.int .i64 zx)∧W.cell? ⟨g1,j * 2+1,none⟩=some (.int .i64 zy)∧W.cell? ⟨g2,j * 2,none⟩=some (.int .i64 zx)∧W.cell? ⟨g2,j * 2+1,none⟩=some (.int .i64 zy))
     (exact ⟨x0,x1,y0,y1⟩) (fail)
    all_goals go_wp2
    all_goals go_roundw
    case rel=>exact ⟨j+1,by omega,by go_num,hB.drew⟩
    case measure=>simp [intOf];omega
  · obtain rfl:j=n:=by omega
    have hdec:decide ((j:Int)<(j:Int))=false:=by simp
    go_wp2
    go_ret
    exact ⟨rfl,hB⟩
end Go.Proofs.YtcchjofjpflbhaaGreatDoor

namespace Go.Proofs.YtcchjofjpflbhaaGreatDoor.E
open Go.RowKit Go.Shelf Go.Proofs.YtcchjofjpflbhaaGreatDoor.C

def Grid (R n:Nat) (css:List (List (List UInt8))):Prop:=∀ j,j<css.length→(css[j]?.getD []).length=R∧∀ i,i<R→((css[j]?.getD [])[i]?.getD []).length=n
def cellI (css:List (List (List UInt8))) (z:Int×Int):List UInt8:=cellOf_ css z.1.toNat z.2.toNat
def uponL (n:Nat) (css:List (List (List UInt8))) (l:List (Int×Int)):List UInt8:=xors (List.replicate n 0) (l.map (cellI css))
def colL (k p:Int) (n:Nat) (css:List (List (List UInt8))) (col:Int):List (List UInt8):=(List.range (p - 1).toNat).map fun (row:Nat)=>uponL n css (memL k p col (row:Int))
def stepsL (k p:Int) (n:Nat) (css:List (List (List UInt8))):Nat→List (List (List UInt8))
 | 0=>css
 | m+1=>stepsL k p n css m ++ [colL k p n (stepsL k p n css m) ((css.length:Int)+(m:Int))]
def inL (R N:Nat) (l:List (Int×Int)):Prop:=∀ z∈l,(0≤z.1∧z.1<(N:Int))∧(0≤z.2∧z.2<(R:Int))
theorem uponL_len (n:Nat) (css:List (List (List UInt8))) (l:List (Int×Int)):(uponL n css l).length=n:=by
 unfold uponL
 rw [xors_len,List.length_replicate]
theorem colL_len (k p:Int) (n:Nat) (css:List (List (List UInt8))) (col:Int):(colL k p n css col).length=(p - 1).toNat:=by unfold colL;simp
theorem colL_at (k p:Int) (n:Nat) (css:List (List (List UInt8))) (col:Int) {i:Nat} (hi:i<(p - 1).toNat):(colL k p n css col)[i]?.getD []=uponL n css (memL k p col (i:Int)):=by
 unfold colL
 rw [List.getElem?_map,List.getElem?_range hi]
 rfl
theorem Grid.snoc {R n:Nat} {css:List (List (List UInt8))} (h:Grid R n css) {cs:List (List UInt8)} (h1:cs.length=R) (h2:∀ i,i<R→(cs[i]?.getD []).length=n):Grid R n (css ++ [cs]):=by
 intro j hj
 rw [List.length_append] at hj
 rcases Nat.lt_or_ge j css.length with h3 | h3
 · rw [List.getElem?_append_left h3]
   exact h j h3
 · have:j=css.length:=by simp at hj;omega
   subst this
   rw [List.getElem?_append_right (Nat.le_refl _),Nat.sub_self]
   exact ⟨h1,h2⟩
theorem Grid.col {R n:Nat} {css:List (List (List UInt8))} (h:Grid R n css) {k p:Int} (hR:R=(p - 1).toNat) (col:Int) (css':List (List (List UInt8))):Grid R n (css ++ [colL k p n css' col]) :=
 h.snoc (by rw [colL_len,hR]) fun i hi=>by rw [colL_at k p n css' col (by omega),uponL_len]
theorem Grid.steps {R n:Nat} {css:List (List (List UInt8))} (h:Grid R n css) {k p:Int} (hR:R=(p - 1).toNat):∀ m,Grid R n (stepsL k p n css m)
 | 0=>h
 | m+1=>(Grid.steps h hR m).col hR _ _
theorem Grid.cell {R n:Nat} {css:List (List (List UInt8))} (h:Grid R n css) {z:Int×Int} (h1:z.1<(css.length:Int)) (h0:0≤z.1) (h2:z.2<(R:Int)) (h3:0≤z.2):(cellI css z).length=n :=
 (h z.1.toNat (by omega)).2 z.2.toNat (by omega)
theorem inL.cells {R N n:Nat} {l:List (Int×Int)} (h:inL R N l) {css:List (List (List UInt8))} (hg:Grid R n css) (hN:N≤css.length):∀ z∈l,(cellI css z).length=n:=fun z hz=>by
 have:=h z hz
 exact hg.cell (by omega) (by omega) (by omega) (by omega)
section
variable {p:Int} {css:List (List (List UInt8))}
end
end Go.Proofs.YtcchjofjpflbhaaGreatDoor.E

namespace Go.Proofs.YtcchjofjpflbhaaGreatDoor.E
open Go.RowKit Go.Shelf Go.Proofs.YtcchjofjpflbhaaGreatDoor.C

theorem xors_next (z:List UInt8) (ls:List (List UInt8)) {k:Nat} (hk:k<ls.length):xors z (ls.take (k+1))=xorB (xors z (ls.take k)) (ls[k]?.getD []):=by
 unfold xors
 rw [List.take_add_one,List.foldl_append,List.getElem?_eq_getElem hk]
 rfl
end Go.Proofs.YtcchjofjpflbhaaGreatDoor.E

namespace Go.Proofs.YtcchjofjpflbhaaGreatDoor.R
open Go.RowKit Go.Shelf Go.Proofs.YtcchjofjpflbhaaGreatDoor.C Go.Proofs.YtcchjofjpflbhaaGreatDoor.E

theorem need_yes (w:World):Calls Tryz.prog 269 #[.bool true] w fun e w'=>e = .returned (.tuple #[])∧w=w':=by
 go_enter Tryz.func269,Tryz.ntmps269
 go_wp2
 go_end0
 exact ⟨rfl,rfl⟩
theorem sureB (v:Value) (w:World):Calls Tryz.prog 235 #[v,.int .i64 0] w fun e w'=>e = .returned v∧w=w':=by
 go_enter Tryz.func235,Tryz.ntmps235
 go_wp2
 go_ret
 exact ⟨rfl,rfl⟩
theorem idle_B (p:Addr) (w:World) :
 CallsD Tryz.prog 233 #[.pointer (some p)] .returning w fun e u' w'=>e = .returned (.tuple #[])∧u' = .returning∧w'=w:=by
 have hta:=assert_errno
 refine callsD_of_wpS Tryz.func233 rfl fun c₀ cs hu=>?_
 simp only [Tryz.ntmps233,List.size_toArray,List.length_cons,List.length_nil,Nat.reduceAdd,Nat.reduceSub,Array.replicate_succ,Array.replicate_zero,List.push_toArray,List.append_toArray,List.nil_append,List.cons_append]
 apply wpS_seq
 apply wpS_region
 simp [wpOpsS,go_sem,recoverD,hu,Exit.thenS]
 all_goals (refine wpS_of_wp ?_;go_wp2;cases c₀;simp_all [bodyPostS,results,Tryz.results233])
theorem ans_B_yes (f:Nat) (caps:Array Value) (w:World) (Post:Value→World→Prop) (hent:∀ W,(callFunc f caps).run Tryz.prog W = .ok (.enter f caps) W)
 (h:∀ W,Below w.heap.size w W→Blk W w.heap.size 34 #[.int .i64 0]→Calls Tryz.prog f caps W fun e w'=>∃ v,e = .returned v∧Post v w'∧Below W.heap.size W w') :
 Calls Tryz.prog 169 #[.func (.func f) #[] caps] w fun e w'=>∃ v W,e = .returned (.tuple #[v,.int .i64 0])∧Post v W∧Blk W w.heap.size 34 #[.int .i64 0]∧w'=W.setCell ⟨w.heap.size,0,none⟩ (.int .i64 0)∧Below w.heap.size w w':=by
 have hmf:∀ (fn:Fn) (first cap:Array Value) (w:World),(Instr.makeFunc fn first cap).run Tryz.prog w = .ok (.func fn first cap) w:=fun _ _ _ _=>rfl
 have h1:=h (w.alloc (.cells #[.int .i64 0] 34)) ((Below.refl _ w).alloc (Nat.le_refl _) _) (Blk.new w _ _)
 clear h
 go_enter_defers Tryz.func169,Tryz.ntmps169
 go_wp2
 refine h1.mono ?_
 rintro e w1 ⟨v,rfl,hv,hB1⟩
 have b1:Blk w1 w.heap.size 34 #[.int .i64 0]:=(Blk.new w _ _).below hB1 (by simp)
 have c1:=b1.cell 0
 have f1:=b1.frozen 0
 simp only [List.getElem?_toArray,List.getElem?_cons_zero] at c1
 go_wp2
 refine leaves_cons (f:=233) (args:=#[.pointer (some ⟨w.heap.size,0,none⟩)]) (by simp) (by simp [go_sem]) ?_
 refine (idle_B ⟨w.heap.size,0,none⟩ _).mono ?_
 rintro e u' w'' ⟨rfl,rfl,rfl⟩
 have c2:(w1.setCell ⟨w.heap.size,0,none⟩ (.int .i64 0)).cell? ⟨w.heap.size,0,none⟩=some (.int .i64 0):=World.cell?_setCell_same' _ _ _ (by rw [c1];rfl)
 simp [Go.Leaves,settle,results,Tryz.results169,go_sem,c2]
 exact ⟨w1,hv,b1,rfl,(((Below.refl _ w).alloc (Nat.le_refl _) _).trans (hB1.mono (by simp))).setCell (Nat.le_refl _) _⟩
theorem asMany_yes {B:Nat} (p:Int) (v:Value) (css:List (List (List UInt8))) (w:World) (hL:Laid w) (hB:B≤w.heap.size) (hC:Cols B w v css) (hlen:css.length≤1000) (hok:RightD p css) :
 Calls Tryz.prog 234 #[.int .i64 p,.int .i64 (css.length:Int),v] w fun e w'=>e = .returned (.agg #[.int .i64 2,.int .i64 p,v])∧Below w.heap.size w w':=by
 obtain ⟨A,cap,rfl,_,_⟩:=id hC
 have hBz:=below_one w (.cells #[.int .i64 0,.int .i64 0,.slice none 0 0] 213)
 have HR:=Lib.hid (right_yes (B:=B) p (.slice A css.length cap) css _ (hL.next hBz) (Nat.le_trans hB hBz.size) (hC.below (hBz.mono hB)) hlen hok)
 have bz:=Blk.new w 213 #[.int .i64 0,.int .i64 0,.slice none 0 0]
 clear hC hok hlen
 generalize css.length=n at *
 go_enter Tryz.func234,Tryz.ntmps234
 go_wp2_with fail
 refine HR.out.mono ?_
 rintro e w1 ⟨rfl,hB1⟩
 replace bz:=bz.below hB1 bz.lt
 have hBa:=below_in hBz hB1
 have g0:=bz.cell 0
 have g1:=bz.cell 1
 have g2:=bz.cell 2
 have f0:=bz.frozen 0
 have f1:=bz.frozen 1
 have f2:=bz.frozen 2
 simp only [gz9] at g0 g1 g2
 go_wp2_with (go_at_call 269;refine (need_yes _).mono ?_;rintro e w2 ⟨rfl,rfl⟩)
 have r:=((bz.set_ 0 (.int .i64 2)).set_ 1 (.int .i64 p)).set_ 2 (.slice A n cap)
 have r0:=r.cell 0
 have r1:=r.cell 1
 have r2:=r.cell 2
 simp only [List.setIfInBounds_toArray,List.set_cons_zero,List.set_cons_succ,List.getElem?_toArray,List.getElem?_cons_zero,List.getElem?_cons_succ] at r0 r1 r2
 exact bodyPost_ret (v:=.agg #[.int .i64 2,.int .i64 p,.slice A n cap]) (by simp [results,Tryz.results234,go_sem,r0,r1,r2]) rfl ⟨rfl,((hBa.setCell (by simp) _).setCell (by simp) _).setCell (by simp) _⟩
def AllR (p:Int) (css:List (List (List UInt8))):Prop:=RightD p css∧(css.length:Int)=p+1
theorem askedAll_yes {B:Nat} (p:Int) (v:Value) (css:List (List (List UInt8))) (w:World) (hL:Laid w) (hB:B≤w.heap.size) (hC:Cols B w v css) (hok:AllR p css) :
 Calls Tryz.prog 171 #[.int .i64 p,v] w fun e w'=>e = .returned (.agg #[.int .i64 2,.int .i64 p,v])∧Below w.heap.size w w':=by
 have hpp:=prm_bounds hok.1.1
 obtain ⟨A,cap,rfl,_,_⟩:=id hC
 have hBz:=below_one w (.cells #[.int .i64 0,.int .i64 0,.slice none 0 0] 213)
 have HR:=Lib.hid (asMany_yes (B:=B) p (.slice A css.length cap) css _ (hL.next hBz) (Nat.le_trans hB hBz.size) (hC.below (hBz.mono hB)) (by have:=hok.2;omega) hok.1)
 have hq1:(css.length:Int)=p+1:=hok.2
 have hq2:wrap64 (p+1)=(css.length:Int):=by rw [IntWalk.wrap64_in _ (by omega)];exact hq1.symm
 have hq3:IntKind.i64.wrap (p+1)=(css.length:Int):=by rw [IntWalk.i64_in _ (by omega)];exact hq1.symm
 have bz:=Blk.new w 213 #[.int .i64 0,.int .i64 0,.slice none 0 0]
 clear hC hok hpp hq1
 generalize css.length=n at *
 go_enter Tryz.func171,Tryz.ntmps171
 go_wp2_with fail
 refine HR.out.mono ?_
 rintro e w1 ⟨rfl,hB1⟩
 replace bz:=bz.below hB1 bz.lt
 have hBa:=below_in hBz hB1
 have g0:=bz.cell 0
 have g1:=bz.cell 1
 have g2:=bz.cell 2
 have f0:=bz.frozen 0
 have f1:=bz.frozen 1
 have f2:=bz.frozen 2
 simp only [gz9] at g0 g1 g2
 go_wp2
 have r:=((bz.set_ 0 (.int .i64 2)).set_ 1 (.int .i64 p)).set_ 2 (.slice A n cap)
 have r0:=r.cell 0
 have r1:=r.cell 1
 have r2:=r.cell 2
 simp only [List.setIfInBounds_toArray,List.set_cons_zero,List.set_cons_succ,List.getElem?_toArray,List.getElem?_cons_zero,List.getElem?_cons_succ] at r0 r1 r2
 exact bodyPost_ret (v:=.agg #[.int .i64 2,.int .i64 p,.slice A n cap]) (by simp [results,Tryz.results171,go_sem,r0,r1,r2]) rfl ⟨rfl,((hBa.setCell (by simp) _).setCell (by simp) _).setCell (by simp) _⟩
theorem diagonalsAt_any (p:Int) (hp:0≤p∧p≤100) (A:Option Addr) (n cap:Nat) (w:World):Calls Tryz.prog 237 #[.agg #[.int .i64 2,.int .i64 p,.slice A n cap]] w fun e w'=>e = .returned (.int .i64 (p))∧Below w.heap.size w w':=by
 have bz:=Blk.new w 213 #[.int .i64 2,.int .i64 p,.slice A n cap]
 have g1:=bz.cell 1
 simp only [gz9] at g1
 have hq2:wrap64 (p - 1)=p - 1:=IntWalk.wrap64_in _ (by omega)
 obtain ⟨h0,h1⟩:=hp
 go_enter Tryz.func237,Tryz.ntmps237
 go_wp2
 go_ret
 exact ⟨rfl,below_one w _⟩
end Go.Proofs.YtcchjofjpflbhaaGreatDoor.R

namespace Go.Proofs.YtcchjofjpflbhaaGreatDoor.R
open Go.RowKit Go.Shelf Go.Proofs.YtcchjofjpflbhaaGreatDoor.C Go.Proofs.YtcchjofjpflbhaaGreatDoor.E

def AtsP (P:Nat→Prop) (W:World) (v:Value) (l:List (Int×Int)):Prop :=
 ∃ (p:Option Addr) (cap:Nat),v = .slice p l.length cap∧∀ (j:Nat) (hj:j<l.length),∃ g,p=some ⟨g,0,none⟩∧P g∧W.cell? ⟨g,j * 2,none⟩=some (.int .i64 (l[j]).1)∧W.cell? ⟨g,j * 2+1,none⟩=some (.int .i64 (l[j]).2)
theorem AtsP.imp {P Q:Nat→Prop} {W:World} {v:Value} {l:List (Int×Int)} (h:AtsP P W v l) (hq:∀ b,P b→Q b):AtsP Q W v l:=by
 obtain ⟨p,cap,e,hA⟩:=h
 exact ⟨p,cap,e,fun j hj=>by obtain ⟨g,h1,h2,h3⟩:=hA j hj;exact ⟨g,h1,hq g h2,h3⟩⟩
theorem AtsP.keep {P:Nat→Prop} {W W':World} {v:Value} {l:List (Int×Int)} (h:AtsP P W v l) (hk:Keeps P W W'):AtsP P W' v l:=by
 obtain ⟨p,cap,e,hA⟩:=h
 exact ⟨p,cap,e,fun j hj=>by obtain ⟨g,h1,h2,h3,h4⟩:=hA j hj;exact ⟨g,h1,h2,(World.cell?_of_block (hk g h2)).trans h3,(World.cell?_of_block (hk g h2)).trans h4⟩⟩
def atsR:Rep (List (Int×Int)) where
 R:=AtsP
 imp:=AtsP.imp
 keep:=AtsP.keep
 one:=fun ⟨_,_,e,_⟩=>by rw [e];rfl
theorem AtsP.read {W:World} {v:Value} {l:List (Int×Int)} (h:AtsP (·<W.heap.size) W v l):ReadA W v l:=h
def RowA:=RowG atsR 23 []
theorem RowA.apart {Q:Nat→Prop} {W:World} {base:Nat} {v:Value} {xs:List (List (Int×Int))} (h:RowA Q W base v xs) (hx:0<xs.length) {g:Nat} {x:Int} (hg:W.cell? ⟨g,0,none⟩=some (.int .i64 x)):some g≠v.ownBlock:=by
 obtain ⟨us,ho,hn,hr⟩:=h
 obtain ⟨g2,cap,rfl,_,_⟩:=World.ownsRow.form ho (by omega)
 intro e
 have e2:g=g2:=by injection e
 subst e2
 have hc:=World.ownsRow.cellAt ho 0 (by omega)
 have h0:us[0]?=some us[0]:=List.getElem?_eq_getElem (by omega)
 obtain ⟨p,c,e3,_⟩:=hr 0 us[0] h0
 rw [hc,h0,e3] at hg
 cases hg
section
variable {Q:Nat→Prop} {base:Nat} {v:Value}
end
end Go.Proofs.YtcchjofjpflbhaaGreatDoor.R

namespace Go.Proofs.YtcchjofjpflbhaaGreatDoor.R
open Go.RowKit Go.Shelf Go.Proofs.YtcchjofjpflbhaaGreatDoor.C Go.Proofs.YtcchjofjpflbhaaGreatDoor.E

def OwnK (w:World) (base:Nat) (v:Value) (us:List Value):Prop:=w.ownsRow base 50 1 v us.length us
def ColsV (B:Nat) (W:World) (v:Value) (us:List Value) (css:List (List (List UInt8))):Prop:=us.length=css.length∧Vals B W v us∧∀ (j:Nat) (u:Value),us[j]?=some u→Many B W u (css[j]?.getD [])
theorem ColsV.below {B:Nat} {W W':World} {v:Value} {us:List Value} {css:List (List (List UInt8))} (h:ColsV B W v us css) (hb:Below B W W'):ColsV B W' v us css:=⟨h.1,h.2.1.below hb,fun j u hu=>(h.2.2 j u hu).below hb⟩
theorem ColsV.more {B B':Nat} {W:World} {v:Value} {us:List Value} {css:List (List (List UInt8))} (h:ColsV B W v us css) (hB:B≤B'):ColsV B' W v us css:=⟨h.1,h.2.1.more hB,fun j u hu=>(h.2.2 j u hu).more hB⟩
theorem ColsV.one {B:Nat} {W:World} {v:Value} {us:List Value} {css:List (List (List UInt8))} (h:ColsV B W v us css):∀ u∈us,u.oneCell'=true:=fun u hu=>by
 obtain ⟨j,hj⟩:=List.getElem?_of_mem hu
 obtain ⟨A,cap,rfl,_⟩:=h.2.2 j u hj
 rfl
theorem ColsV.nil (B:Nat) (W:World):ColsV B W (.slice none 0 0) [] []:=⟨rfl,.inl ⟨rfl,rfl⟩,fun j u h=>by cases h⟩
theorem Cols.vals {B:Nat} {W:World} {v:Value} {css:List (List (List UInt8))} (h:Cols B W v css) (h0:0<css.length):∃ us,ColsV B W v us css:=by
 obtain ⟨A,cap,rfl,hc,hA⟩:=h
 obtain ⟨b,off,rfl,hb,hr⟩:=hA h0
 refine ⟨(List.range css.length).map fun j=>(W.cell? ⟨b,off+j,none⟩).getD undef,by simp,.inr ⟨b,off,cap,by simp,by simpa using hc,hb,fun j u hu=>?_⟩,fun j u hu=>?_⟩
 all_goals
  rw [List.getElem?_map] at hu
  rcases Nat.lt_or_ge j css.length with hj | hj
  · rw [List.getElem?_range hj] at hu
    obtain ⟨u2,h1,h2⟩:=hr j hj
    simp only [Option.map_some,h1,Option.getD_some,Option.some.injEq] at hu
    subst hu
    first | exact h1 | exact h2
  · rw [List.getElem?_eq_none (by simpa using hj)] at hu
    cases hu
theorem OwnK.cols {B base:Nat} {W:World} {v:Value} {us:List Value} {css:List (List (List UInt8))} (h:OwnK W base v us) (hn:us.length=css.length) (h0:0<us.length) (hb:∀ (j:Nat) (u:Value),us[j]?=some u→Many B W u (css[j]?.getD [])) (hB:B≤W.heap.size):Cols W.heap.size W v css:=by
 have hcp:∀ g cap,v = .slice (some ⟨g,0,none⟩) us.length cap→us.length≤cap:=fun g cap e=>by
  rcases h.2 with ⟨_,h1⟩ | ⟨g2,cap2,cur,e2,_,_,hnc,_⟩
  · omega
  · rw [e] at e2
    injection e2 with _ _ e3
    omega
 obtain ⟨g,cap,e,hg,hg1⟩:=World.ownsRow.form h h0
 have hcap:=hcp g cap e
 subst e
 refine ⟨_,cap,by rw [hn],by rw [←hn];exact hcap,fun _=>⟨g,0,rfl,by omega,fun j hj=>?_⟩⟩
 have hj2:j<us.length:=by omega
 refine ⟨us[j],?_,(hb j us[j] (List.getElem?_eq_getElem hj2)).more hB⟩
 rw [Nat.zero_add,World.ownsRow.cellAt h j (by omega),List.getElem?_eq_getElem hj2]
end Go.Proofs.YtcchjofjpflbhaaGreatDoor.R

namespace Go.Proofs.YtcchjofjpflbhaaGreatDoor.R
open Go.RowKit Go.Shelf Go.Proofs.YtcchjofjpflbhaaGreatDoor.C Go.Proofs.YtcchjofjpflbhaaGreatDoor.E

theorem allR_data {p:Int} {all:List (List (List UInt8))} (h:AllR p all):DataOk p (all.take p.toNat):=by
 obtain ⟨⟨hR,h0,hall⟩,hn⟩:=h
 have hpp:=prm_bounds hR
 have hl:(all.take p.toNat).length=p.toNat:=by rw [List.length_take];omega
 have hj:∀ j,j<p.toNat→(all.take p.toNat)[j]?.getD []=all[j]?.getD []:=fun j hj=>by rw [List.getElem?_take_of_lt hj]
 have hf:firstC (all.take p.toNat)=firstC all:=by unfold firstC;rw [hj 0 (by omega)]
 refine ⟨⟨by omega,hR⟩,by rw [hl];omega,by rw [hl];omega,fun j hjl=>?_⟩
 rw [hl] at hjl
 rw [hj j hjl,hf]
 exact hall j (by omega)
section
attribute [local go_sem] Oper.semAt_some
theorem left_any {B:Nat} (p:Int) (v:Value) (all:List (List (List UInt8))) (hok:AllR p all) (w:World) (hL:Laid w) (hB:B≤w.heap.size) (hC:Cols B w v all) :
 Calls Tryz.prog 172 #[.agg #[.int .i64 2,.int .i64 p,v]] w fun e w'=>∃ u,e = .returned u∧Bytes w'.heap.size w' u (adjOf p (all.take p.toNat))∧Below w.heap.size w w':=by
 have hpp:=prm_bounds hok.1.1
 have hdo:=allR_data hok
 have hn0:=hok.2
 obtain ⟨P,rfl⟩:∃ P:Nat,p=(P:Int):=⟨p.toNat,by omega⟩
 rw [Int.toNat_natCast] at hdo ⊢
 obtain ⟨b1,off1,cap,rfl,hcap,hb1,_⟩:=hC.at_ (by omega)
 have b0:=Blk.new w 213 #[.int .i64 2,.int .i64 (P:Int),.slice (some ⟨b1,off1,none⟩) all.length cap]
 have hBW:=below_one w (.cells #[.int .i64 2,.int .i64 (P:Int),.slice (some ⟨b1,off1,none⟩) all.length cap] 213)
 obtain ⟨W1,hW1⟩:∃ W1,w.alloc (.cells #[.int .i64 2,.int .i64 (P:Int),.slice (some ⟨b1,off1,none⟩) all.length cap] 213)=W1:=⟨_,rfl⟩
 rw [hW1] at b0 hBW
 have HD:=Lib.hid (fun (U:World)=>diagonalsAt_any (P:Int) (by omega) (some ⟨b1,off1,none⟩) all.length cap U)
 have HA:=Lib.hid (fun (U:World) (hU:Below W1.heap.size W1 U)=>adjuster_yes (B:=B) (P:Int) (.slice (some ⟨b1,off1,none⟩) P cap) (all.take P) hdo U (hL.next (below_in hBW hU)) (Nat.le_trans hB (below_in hBW hU).size) (Cols.take_ (hC.below ((below_in hBW hU).mono hB)) (m:=P) (by omega)))
 have HSS:=Lib.hid (fun (U:World) (hU:Below W1.heap.size W1 U)=>(⟨by have h:=(b0.below hU b0.lt).cell 0;simpa using h,by have h:=(b0.below hU b0.lt).cell 1;simpa using h,by have h:=(b0.below hU b0.lt).cell 2;simpa using h⟩:(fun U:World=>U.cell? ⟨w.heap.size,0,none⟩=some (.int .i64 2)∧U.cell? ⟨w.heap.size,1,none⟩=some (.int .i64 (P:Int))∧U.cell? ⟨w.heap.size,2,none⟩=some (.slice (some ⟨b1,off1,none⟩) all.length cap)) U))
 have q1:(0:Int)≤(P:Int):=by omega
 have q2:(P:Int)≤(cap:Int):=by omega
 have q3:(P:Int)≤(all.length:Int):=by omega
 have q4:¬ cap=P:=by omega
 clear hok hdo hC b0 hn0 hcap
 generalize adjOf (P:Int) (all.take P)=adj at *
 generalize all.length=N at *
 refine (callsIn_wide (n:=9)).1 ?_
 refine callsIn_of_wp_marks Tryz.func172 rfl trivial ?_ rfl
 simp only [Tryz.ntmps172,List.size_toArray,List.length_cons,List.length_nil,Nat.reduceAdd,Nat.reduceSub,Array.replicate_succ,Array.replicate_zero,List.push_toArray,List.append_toArray,List.nil_append,List.cons_append]
 gi_wp2_with fail
 try rw [hW1]
 have hB2:Below W1.heap.size W1 W1:=Below.refl _ _
 have hS:(fun U:World=>U.cell? ⟨w.heap.size,0,none⟩=some (.int .i64 2)∧U.cell? ⟨w.heap.size,1,none⟩=some (.int .i64 (P:Int))∧U.cell? ⟨w.heap.size,2,none⟩=some (.slice (some ⟨b1,off1,none⟩) N cap)) W1.drew:=HSS.out _ hB2.drew
 refine wpIn_mono (region_HF (Q:=NoPanic _) (S:=(fun U:World=>U.cell? ⟨w.heap.size,0,none⟩=some (.int .i64 2)∧U.cell? ⟨w.heap.size,1,none⟩=some (.int .i64 (P:Int))∧U.cell? ⟨w.heap.size,2,none⟩=some (.slice (some ⟨b1,off1,none⟩) N cap))) (by kernel_rfl) ?_) NoPanic.imp
 refine tkF (i:=0) (d:=3) (v:=.pointer (some ⟨w.heap.size,0,none⟩)) (s:=hS) (c:=?_)
 simp only [ud9]
 refine tkF (i:=1) (d:=4) (v:=.pointer (some ⟨w.heap.size,1,none⟩)) (s:=hS) (c:=?_)
 simp only [ud9]
 refine tkF (i:=2) (d:=5) (v:=.int .i64 (P:Int)) (s:=hS) (c:=?_)
 simp only [ud9]
 refine tkF (i:=3) (d:=6) (v:=.pointer (some ⟨w.heap.size,2,none⟩)) (s:=hS) (c:=?_)
 simp only [ud9]
 refine tkF (i:=4) (d:=7) (v:=.slice (some ⟨b1,off1,none⟩) N cap) (s:=hS) (c:=?_)
 simp only [ud9]
 refine tkF (i:=5) (d:=8) (v:=.agg #[.int .i64 2,.int .i64 (P:Int),.slice (some ⟨b1,off1,none⟩) N cap]) (s:=hS) (c:=?_)
 simp only [ud9]
 refine oneF (i:=6) (c:=?_)
 gi_wp2_with fail
 refine ⟨trivial,(callsIn_wide.2 (HD.out _)).mono ?_⟩
 rintro e wn ⟨rfl,hBn⟩
 replace hBn:=below_undrew hBn
 replace hB2:=below_in hB2 hBn
 clear hS
 have hS:(fun U:World=>U.cell? ⟨w.heap.size,0,none⟩=some (.int .i64 2)∧U.cell? ⟨w.heap.size,1,none⟩=some (.int .i64 (P:Int))∧U.cell? ⟨w.heap.size,2,none⟩=some (.slice (some ⟨b1,off1,none⟩) N cap)) wn:=HSS.out _ hB2
 gi_wp2
 try (refine ⟨hS,?_⟩)
 refine tkF (i:=7) (d:=10) (v:=.slice (some ⟨b1,off1,none⟩) P cap) (s:=hS) (c:=?_)
 simp only [ud9]
 refine oneF (i:=8) (c:=?_)
 gi_wp2_with fail
 refine ⟨trivial,(callsIn_wide.2 (HA.out _ hB2)).mono ?_⟩
 rintro e wn ⟨u,rfl,hu,hBn⟩
 replace hB2:=below_in hB2 hBn
 clear hS
 have hS:(fun U:World=>U.cell? ⟨w.heap.size,0,none⟩=some (.int .i64 2)∧U.cell? ⟨w.heap.size,1,none⟩=some (.int .i64 (P:Int))∧U.cell? ⟨w.heap.size,2,none⟩=some (.slice (some ⟨b1,off1,none⟩) N cap)) wn:=HSS.out _ hB2
 gi_wp2
 try (refine ⟨hS,?_⟩)
 refine tkF (i:=9) (d:=12) (v:=u) (s:=hS) (c:=?_)
 simp only [ud9]
 refine tkF (i:=10) (d:=13) (v:=.int .i64 0) (s:=hS) (c:=?_)
 simp only [ud9]
 refine oneF (i:=11) (c:=?_)
 gi_wp2_with fail
 refine ⟨trivial,(callsIn_wide.2 (sureB _ _)).mono ?_⟩
 rintro e wn ⟨rfl,rfl⟩
 gi_wp2
 try (refine ⟨hS,?_⟩)
 refine oneF (i:=12) (c:=?_)
 gi_wp2
 refine anyHF_done (by kernel_rfl) ?_ _
 refine NoPanic.normal ?_
 gi_wp2
 exact ⟨u,by simp [results,Tryz.results172,go_sem],_,rfl,hu,below_in hBW hB2⟩
end
theorem enter_left1:∀ args W,(callFunc 170 args).run Tryz.prog W = .ok (.enter 170 args) W:=enters_of Tryz.func170 (by kernel_rfl) rfl
theorem left_yes {B:Nat} (p:Int) (v:Value) (css:List (List (List UInt8))) (hok:AllR p css) (w:World) (hL:Laid w) (hB:B≤w.heap.size) (hC:Cols B w v css) :
 Calls Tryz.prog 116 #[.int .i64 p,v] w fun e w'=>∃ u,e = .returned (.tuple #[u,.int .i64 0])∧Bytes w'.heap.size w' u (adjOf p (css.take p.toNat))∧Below w.heap.size w w':=by
 have hdn:=hok.2
 have hpp:=prm_bounds hok.1.1
 obtain ⟨A,cap,rfl,_,_⟩:=id hC
 obtain ⟨W2,hW2⟩:∃ W2,(w.alloc (.cells #[.int .i64 p] 3)).alloc (.cells #[.slice A css.length cap] 40)=W2:=⟨_,rfl⟩
 have b0:Blk W2 w.heap.size 3 #[.int .i64 p]:=by rw [←hW2];exact (Blk.new w _ _).alloc _
 have b1:Blk W2 (w.heap.size+1) 40 #[.slice A css.length cap]:=by rw [←hW2];exact Blk.second w _ _ _
 have hBW:Below w.heap.size w W2:=by rw [←hW2];exact below_two w _ _
 have hL2:=hL.next hBW
 have HA:=Lib.hid (ans_B_yes 170 #[.pointer (some ⟨w.heap.size,0,none⟩),.pointer (some ⟨w.heap.size+1,0,none⟩)] W2 (fun u W=>Bytes W.heap.size W u (adjOf p (css.take p.toNat))) (enter_left1 _) (fun U hU _=>by
  have hLU:=hL2.next hU
  have hBU:=below_in hBW hU
  have hCU:=hC.below (hBU.mono hB)
  have HQ:=Lib.hid (askedAll_yes (B:=B) p (.slice A css.length cap) css U hLU (Nat.le_trans hB hBU.size) hCU hok)
  have HE:=Lib.hid (fun (V:World) (hV:Below U.heap.size U V)=>left_any (B:=B) p (.slice A css.length cap) css hok V (hLU.next hV) (Nat.le_trans hB (Nat.le_trans hBU.size hV.size)) (hCU.below (hV.mono (Nat.le_trans hB hBU.size))))
  have c0:=(b0.below hU b0.lt).one
  have c1:=(b1.below hU b1.lt).one
  clear hC hCU hok hdn b0 b1 hW2 hL hL2 hLU
  generalize css.length=n at *
  go_enter Tryz.func170,Tryz.ntmps170
  go_wp2_with (first
   | (go_at_call 171;refine HQ.out.mono ?_;rintro e w1 ⟨rfl,hB1⟩)
   | (go_at_call 172;refine (HE.out _ hB1).mono ?_;rintro e w2 ⟨u,rfl,hu,hB2⟩))
  go_ret
  exact ⟨_,rfl,hu,below_in hB1 hB2⟩))
 clear hC b0 b1 hL2 hok hdn
 generalize css.length=n at *
 go_enter Tryz.func116,Tryz.ntmps116
 have hmf:∀ (fn:Fn) (first cap:Array Value) (w:World),(Instr.makeFunc fn first cap).run Tryz.prog w = .ok (.func fn first cap) w:=fun _ _ _ _=>rfl
 go_wp2_with (go_at_call 169;refine HA.out.mono ?_;rintro e w1 ⟨u,W,rfl,hu,bE,rfl,hB1⟩)
 go_ret2
 exact ⟨u,rfl,Bytes.more (Bytes.set_int hu bE _) (by simp),below_in hBW hB1⟩
end Go.Proofs.YtcchjofjpflbhaaGreatDoor.R

namespace Go.Proofs.YtcchjofjpflbhaaGreatDoor.T
open Go.RowKit Go.Shelf Go.Maps Go.Proofs.YtcchjofjpflbhaaGreatDoor.C Go.Proofs.YtcchjofjpflbhaaGreatDoor.E Go.Proofs.YtcchjofjpflbhaaGreatDoor.Ch
attribute [local go_sem] Oper.semAt_some

def Blank (g:Nat) (W:World):Prop:=∀ o u,W.cell? ⟨g,o,none⟩=some u→u = .int .i64 0∨u = .slice none 0 0
theorem blank_of {W:World} {g:Nat} {t:TypeId} {cs:Array Value} (hb:Blk W g t cs) (h:∀ u∈cs.toList,u = .int .i64 0∨u = .slice none 0 0):Blank g W:=fun o u e=>by
 rw [hb.cell o] at e
 exact h u (by rw [←Array.getElem?_toList] at e;exact List.mem_of_getElem? e)
theorem bytes_apart {B g:Nat} {W:World} {v:Value} {l:List UInt8} (h:Bytes B W v l) (hb:Blank g W):BytesP (fun b=>b<B∧b≠g) W v l:=by
 obtain ⟨A,cap,e,hc,hA⟩:=h
 refine ⟨A,cap,e,hc,fun hp=>?_⟩
 obtain ⟨b,off,e2,hb1,hcell⟩:=hA hp
 refine ⟨b,off,e2,⟨hb1,fun e3=>?_⟩,hcell⟩
 subst e3
 rcases hb _ _ (hcell 0 hp) with h | h <;> cases h
theorem many_apart {B g:Nat} {W:World} {v:Value} {ls:List (List UInt8)} (h:Many B W v ls) (hb:Blank g W) (hl:∀ j,j<ls.length→0<(ls[j]?.getD []).length):manyR.R (fun b=>b<B∧b≠g) W v ls:=by
 obtain ⟨A,cap,e,hc,hA⟩:=h
 refine ⟨A,cap,e,hc,fun hp=>?_⟩
 obtain ⟨b,off,e2,hb1,hcell⟩:=hA hp
 refine ⟨b,off,e2,⟨hb1,fun e3=>?_⟩,fun j hj=>?_⟩
 · subst e3
   obtain ⟨u,hu,A2,c2,e4,_⟩:=hcell 0 hp
   have:=hl 0 hp
   rcases hb _ _ hu with h | h
   · rw [e4] at h;cases h
   · rw [e4] at h;injection h with _ h2 _;omega
 · obtain ⟨u,hu,hm⟩:=hcell j hj
   exact ⟨u,hu,bytes_apart hm hb⟩
theorem goodC_pos {Q n:Nat} {c:List (List UInt8)} (h:GoodC Q n c) (h1:1≤n):∀ j,j<c.length→0<(c[j]?.getD []).length:=fun j hj=>by
 rw [(h.2 j (by rw [←h.1];exact hj)).2]
 exact h1
theorem rowsL_len (P Q:Nat) (hQ:P=Q+1):(rowsL (P:Int)).length=Q:=by unfold rowsL;rw [List.length_map,List.length_range];omega
theorem rowsL_cells (P Q:Nat) (hQ:P=Q+1) (css:List (List (List UInt8))):(rowsL (P:Int)).map (fun z=>dcP P Q css z.toNat)=dsP P Q css:=by
 unfold rowsL dsP
 rw [List.map_map,show ((P:Int) - 1).toNat=Q by omega]
 exact List.map_congr_left fun i _=>by show dcP P Q css (i:Int).toNat = _;rw [Int.toNat_natCast]
end Go.Proofs.YtcchjofjpflbhaaGreatDoor.T
