/- -/
import Derived.Test.YtknkdbincaonbaaGreatDoorCEG24
import Derived.Test.YtknkdbincaonbaaGreatDoorCEG25
import Derived.Test.YtknkdbincaonbaaGreatDoorCESA
import Derived.Test.YtknkdbincaonbaaGreatDoorCEG1
import Derived.Deep.Matrix
import Derived.ShutString
import Derived.ChangeOld
set_option linter.unusedVariables false
set_option linter.unusedSimpArgs false
set_option maxRecDepth 100000
set_option maxHeartbeats 400000
namespace Go.Proofs.YtknkdbincaonbaaGreatDoor.Cd
open Go.RowKit Go.Shelf Go.Proofs.YtknkdbincaonbaaGreatDoor.C Go.Proofs.YtknkdbincaonbaaGreatDoor.E Go.Proofs.YtknkdbincaonbaaGreatDoor.Q

def OctP (P:Nat→Prop) (W:World) (v:Value) (l:List UInt8):Prop :=
 ∃ A cap,v = .slice A l.length cap∧l.length≤cap∧(0<l.length→∃ b cs,A=some ⟨b,0,none⟩∧P b∧Blk W b 5 cs∧∀ j,j<l.length→cs[j]?=some (.int .u8 ((l[j]?.getD 0).toNat:Int)))
section
variable {P:Nat→Prop} {W:World} {v:Value}
theorem OctP.bytes {l:List UInt8} (h:OctP P W v l):BytesP P W v l:=by
 obtain ⟨A,cap,e,hc,hA⟩:=h
 refine ⟨A,cap,e,hc,fun hp=>?_⟩
 obtain ⟨b,cs,e2,hb,hB,h3⟩:=hA hp
 exact ⟨b,0,e2,hb,fun j hj=>by rw [Nat.zero_add,hB.cell j];exact h3 j hj⟩
end

def RowS {α:Type} (r:Rep α) (t:TypeId) (d:α) (N:Nat) (W:World) (base:Nat) (v:Value) (xs:List α):Prop :=
 ∃ (us:List Value) (Z:Nat→Nat→Prop),W.ownsRow base t 1 v us.length us∧us.length=xs.length∧(∀ i j c,Z i c→Z j c→i=j)∧(∀ j c,Z j c→(base≤c∧c<N)∧some c≠v.ownBlock∧j<us.length)∧(∀ b,v.ownBlock=some b→b<N)∧N≤W.heap.size∧∀ (j:Nat) (u:Value),us[j]?=some u→r.R (Z j) W u (xs[j]?.getD d)
section
variable {α:Type} {r:Rep α} {t:TypeId} {d:α} {N:Nat} {W W':World} {base:Nat} {v:Value} {xs:List α}
theorem RowS.nil (r:Rep α) (t:TypeId) (d:α) (W:World) (base N:Nat) (hN:N≤W.heap.size):RowS r t d N W base (.slice none 0 0) [] :=
 ⟨[],fun _ _=>False,World.ownsRow_nil W base t 1,rfl,fun _ _ _ h=>h.elim,fun _ _ h=>h.elim,fun b h=>(by cases h),hN,fun j u h=>(by cases h)⟩
theorem RowS.below (h:RowS r t d N W base v xs) (hb:Below W.heap.size W W'):RowS r t d N W' base v xs:=by
 obtain ⟨us,Z,ho,hn,z1,z2,z3,hN,hr⟩:=h
 exact ⟨us,Z,World.ownsRow.kept (row:=none) ho (grown_below hb) (by cases v.ownBlock <;> simp),hn,z1,z2,z3,Nat.le_trans hN hb.size,fun j u hu=>r.keep (hr j u hu) fun b hb2=>hb.block b (by have:=(z2 j b hb2).1;omega)⟩
theorem RowS.own_le (h:RowS r t d N W base v xs) (k:Nat) (e:v.ownBlock=some k):base≤k∧k<N:=by
 obtain ⟨us,Z,ho,hn,z1,z2,z3,hN,hr⟩:=h
 exact ⟨(World.ownsRow.lt ho k e).1,z3 k e⟩
theorem RowS.push (i:TypeInfo) (hi:Tryz.prog.info? t=some i) (hz:i.zero=some (.slice none 0 0)) (h1:i.size=1) (h24:i.bytes=24) (T ty:TypeId) (hT:Tryz.prog.underlying T=some (.slice t))
 (h:RowS r t d N W base v xs) (g:Nat) (tg:TypeId) (u:Value) (x:α) (hg:Blk W g tg #[u]) (P:Nat→Prop) (hu:r.R P W u x) (hP:∀ c,P c→N≤c∧c<W.heap.size) (hlen:xs.length≤100000) (hbase:base≤N) :
 ∃ v' w',(Builtin.append_ #[T,T] ty #[v,.slice (some ⟨g,0,none⟩) 1 1]).run Tryz.prog W = .ok v' w'∧RowS r t d w'.heap.size w' base v' (xs ++ [x])∧W.grownBy w' v.ownBlock∧(v'.ownBlock=v.ownBlock∨v'.ownBlock=some W.heap.size):=by
 obtain ⟨us,Z,ho,hn,z1,z2,z3,hN,hr⟩:=h
 obtain ⟨v',w',hrun,o1,o2,_,o3⟩:=run_append_own_at (P:=Tryz.prog) W base T ty t i (.slice none 0 0) 1 24 hT hi hz h1 h24 rfl (by omega) v us.length us ho ⟨g,0,none⟩ 1 1 [u] rfl
  (by intro j y hy
      rw [addr_add,Nat.zero_add,hg.cell j,List.getElem?_toArray]
      exact hy) (by intro y hy;rw [List.mem_singleton.1 hy];exact r.one hu) (by unfold maxLen;omega) (by omega) (by omega)
 have hsz:=o2.size
 have hx:∀ c,P c→some c≠v.ownBlock:=fun c hc e=>by have h1:=z3 c e.symm;have h2:=hP c hc;omega
 have hne:∀ c,c<W.heap.size→some c≠v.ownBlock→some c≠v'.ownBlock:=fun c hc h2=>by
  rcases o3 with e | e
  · rw [e];exact h2
  · rw [e];intro e2;injection e2 with e2;omega
 refine ⟨v',w',hrun,⟨us ++ [u],fun j c=>(j<us.length∧Z j c)∨(j=us.length∧P c),by rw [List.length_append];exact o1,by rw [List.length_append,List.length_append,hn];rfl,?_,?_,?_,Nat.le_refl _,fun j y hy=>?_⟩,o2,o3⟩
 · rintro i j c (⟨h1,h2⟩ | ⟨rfl,h2⟩) (⟨h3,h4⟩ | ⟨rfl,h4⟩)
   · exact z1 i j c h2 h4
   · have a:=(z2 i c h2).1;have b:=hP c h4;omega
   · have a:=(z2 j c h4).1;have b:=hP c h2;omega
   · rfl
 · rintro j c (⟨h1,h2⟩ | ⟨rfl,h2⟩)
   · have a:=z2 j c h2
     exact ⟨⟨a.1.1,by omega⟩,hne c (by omega) a.2.1,by rw [List.length_append];exact Nat.lt_of_lt_of_le h1 (Nat.le_add_right _ _)⟩
   · have a:=hP c h2
     exact ⟨⟨by omega,by omega⟩,hne c a.2 (hx c h2),by rw [List.length_append];exact Nat.lt_succ_self _⟩
 · intro b e
   have:=World.ownsRow.lt o1 b e
   exact this.2
 · rcases Nat.lt_or_ge j us.length with hj | hj
   · rw [List.getElem?_append_left hj] at hy
     rw [List.getElem?_append_left (by omega)]
     exact r.imp (r.keep (hr j y hy) fun b hb=>o2.block b (by have:=(z2 j b hb).1;omega) (z2 j b hb).2.1) fun b hb=>.inl ⟨hj,hb⟩
   · rw [List.getElem?_append_right hj] at hy
     rw [List.getElem?_append_right (by omega),←hn]
     have hj0:j - us.length=0:=by
      rcases Nat.eq_zero_or_pos (j - us.length) with h0 | h0
      · exact h0
      · rw [List.getElem?_eq_none (by simp;omega)] at hy;cases hy
     have hj1:j=us.length:=by omega
     rw [hj0] at hy ⊢
     cases hy
     exact r.imp (r.keep hu fun b hb=>o2.block b (hP b hb).2 (hx b hb)) fun b hb=>.inr ⟨hj1,hb⟩
end
end Go.Proofs.YtknkdbincaonbaaGreatDoor.Cd

namespace Go.Proofs.YtknkdbincaonbaaGreatDoor.Cd
open Go.RowKit Go.Shelf Go.Proofs.YtknkdbincaonbaaGreatDoor.C Go.Proofs.YtknkdbincaonbaaGreatDoor.E Go.Proofs.YtknkdbincaonbaaGreatDoor.Q

def ShapeAs (s css:List (List (List UInt8))):Prop:=s.length=css.length∧∀ j:Nat,(s[j]?.getD []).length=(css[j]?.getD []).length∧∀ i:Nat,(cellOf_ s j i).length=(cellOf_ css j i).length
theorem ShapeAs.refl (s:List (List (List UInt8))):ShapeAs s s:=⟨rfl,fun _=>⟨rfl,fun _=>rfl⟩⟩
section
variable {P:Nat→Prop} {W:World} {v:Value} {s:List (List (List UInt8))} {X Y:Nat}
end
theorem few_len {s:List (List (List UInt8))} (h:Few6 s):s.length≤1000∧(∀ j i:Nat,(s[j]?.getD []).length≤1000∧((s[j]?.getD [])[i]?.getD []).length≤1000):=by
 refine ⟨by have:=h.1;omega,fun j i=>?_⟩
 rcases Nat.lt_or_ge j s.length with hj | hj
 · have h2:=h.2 j hj
   refine ⟨by have:=h2.1;omega,?_⟩
   rcases Nat.lt_or_ge i (s[j]?.getD []).length with hi | hi
   · have:=h2.2 i hi;omega
   · rw [List.getElem?_eq_none hi];exact Nat.zero_le _
 · rw [List.getElem?_eq_none hj]
   exact ⟨Nat.zero_le _,by simp⟩
end Go.Proofs.YtknkdbincaonbaaGreatDoor.Cd

namespace Go.Proofs.YtknkdbincaonbaaGreatDoor.E
open Go.RowKit Go.Shelf Go.Proofs.YtknkdbincaonbaaGreatDoor.C Go.ChangeShapes Go.WideShapes

theorem many_rows {w:World} {a:Addr} {len cap:Nat} (hl:len≤cap) {A:Nat→Option Addr} {L C:Nat→Nat} {Z:Nat→List Int}
 (h:∀ r,r<cap→w.cell? (a.add r)=some (.slice (A r) (L r) (C r))∧IsRow .u8 w (A r) (L r) (C r) (Z r)):∃ ls:List (List UInt8),Many w.heap.size w (.slice (some a) len cap) ls:=by
 have each:∀ r,∃ l:List UInt8,r<cap→l.length=L r∧Bytes w.heap.size w (.slice (A r) (L r) (C r)) l:=by
  intro r
  by_cases hr:r<cap
  · obtain ⟨l,h1,h2⟩:=row_bytes (h r hr).2
    exact ⟨l,fun _=>⟨h1,h2⟩⟩
  · exact ⟨[],fun h=>absurd h hr⟩
 let f:Nat→List UInt8:=fun r=>(each r).choose
 have hf:∀ r,r<cap→(f r).length=L r∧Bytes w.heap.size w (.slice (A r) (L r) (C r)) (f r):=fun r=>(each r).choose_spec
 have hlen:((List.range len).map f).length=len:=by simp
 refine ⟨(List.range len).map f,some a,cap,by rw [hlen],by rw [hlen];exact hl,fun hp=>?_⟩
 rw [hlen] at hp ⊢
 obtain ⟨b,off,spot⟩:=a
 have hc:=(h 0 (by omega)).1
 have hspot:spot=none:=by simpa [Addr.add] using World.cell?_spot hc
 subst hspot
 refine ⟨b,off,rfl,?_,fun j hj=>⟨.slice (A j) (L j) (C j),?_,?_⟩⟩
 · have:=block_lt_of_cell hc
   simpa [Addr.add] using this
 · rw [←addr_add];exact (h j (by omega)).1
 · have e:((List.range len).map f)[j]?.getD []=f j:=by
    rw [List.getElem?_map,List.getElem?_range hj];rfl
   rw [e]
   exact (hf j (by omega)).2
theorem open_col {H:Type} {enc:TypeId×Value→H} {W:World} {base fuel:Nat} {v:Value} {x:DataW H×List MemPlace} (hf:DataW.trod enc Tryz.prog W base (fun _=>true) true fuel 58 [v]=some x):∃ ls,Many W.heap.size W v ls:=by
 rcases Deep.open_int_rows Tryz.underlying58 Tryz.underlying32 Tryz.underlying5 (by kernel_rfl) (by kernel_rfl) hf with ⟨hcs,_⟩ | ⟨x,l,c,AA,LL,CC,ZZ,hcs,_,hl,hm,_,hrows⟩
 · obtain rfl:v = .slice none 0 0:=by simpa using hcs
   exact ⟨[],Many.nil_ _ _ _ _⟩
 · obtain rfl:v = .slice (some x) l c:=by simpa using hcs
   refine many_rows hl (A:=AA) (L:=LL) (C:=CC) (Z:=ZZ) fun r hr=>?_
   obtain ⟨q1,q2,q3,q4,q5,q6,q7⟩:=hrows r hr
   refine ⟨q1,?_⟩
   cases hAr:AA r with
   | none =>
     have hC:=q6 hAr
     refine .inl ⟨rfl,by omega,hC,List.eq_nil_of_length_eq_zero (by omega)⟩
   | some x=>exact .inr ⟨x,rfl,q2,q3,q4,fun i hi=>(q7 x hAr).2 i (by omega),q5⟩
theorem open_cols {H:Type} {enc:TypeId×Value→H} {W:World} {base fuel:Nat} {v:Value} {x:DataW H×List MemPlace} (hf:DataW.trod enc Tryz.prog W base (fun _=>true) true fuel 25 [v]=some x):∃ css,Cols W.heap.size W v css:=by
 rcases Deep.open_slice1 Tryz.underlying25 (by kernel_rfl) hf with ⟨hcs,_⟩ | ⟨a,len,cap,m,n,V,D,Pl,hcs,hb,hl,hm,hmm,hxx,hx⟩
 · obtain rfl:v = .slice none 0 0:=by simpa using hcs
   exact ⟨[],none,0,rfl,Nat.le_refl _,fun h=>absurd h (by simp)⟩
 · obtain rfl:v = .slice (some a) len cap:=by simpa using hcs
   simp only [if_true] at hmm
   have hmm':=hmm.symm
   subst hmm'
   have each:∀ r,∃ ls:List (List UInt8),r<cap→W.cell? (a.add r)=some (V r)∧Many W.heap.size W (V r) ls:=by
    intro r
    by_cases hr:r<cap
    · obtain ⟨ls,h1⟩:=open_col (hx r hr).2
      exact ⟨ls,fun _=>⟨(hx r hr).1,h1⟩⟩
    · exact ⟨[],fun h=>absurd h hr⟩
   let f:Nat→List (List UInt8):=fun r=>(each r).choose
   have hff:∀ r,r<cap→W.cell? (a.add r)=some (V r)∧Many W.heap.size W (V r) (f r):=fun r=>(each r).choose_spec
   have hlen:((List.range len).map f).length=len:=by simp
   refine ⟨(List.range len).map f,some a,cap,by rw [hlen],by rw [hlen];exact hl,fun hp=>?_⟩
   rw [hlen] at hp ⊢
   obtain ⟨b,off,spot⟩:=a
   have hc:=(hff 0 (by omega)).1
   have hspot:spot=none:=by simpa [Addr.add] using World.cell?_spot hc
   subst hspot
   refine ⟨b,off,rfl,?_,fun j hj=>⟨V j,?_,?_⟩⟩
   · have:=block_lt_of_cell hc
     simpa [Addr.add] using this
   · rw [←addr_add];exact (hff j (by omega)).1
   · have e:((List.range len).map f)[j]?.getD []=f j:=by
      rw [List.getElem?_map,List.getElem?_range hj];rfl
     rw [e]
     exact (hff j (by omega)).2
theorem wf_i64 {n:Int} (h:(Lit.int .i64 n).wf=true):-9223372036854775808≤n∧n≤9223372036854775807:=by
 have:=bounds_i64 h
 omega
end Go.Proofs.YtknkdbincaonbaaGreatDoor.E
