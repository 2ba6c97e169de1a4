/- -/
import Derived.BigFrame
import Derived.Deep.Matrix
import Derived.ShutString
import Derived.ChangeOld
import Derived.Laws.CopyOwn
import Derived.Laws.Tables
import Derived.Deep.WholeRow
import Derived.Test.YtcchjofjpflbhaaGreatDoorPAG1m14
import Derived.Test.YtcchjofjpflbhaaGreatDoorPAG4
set_option linter.unusedVariables false
set_option linter.unusedSimpArgs false
set_option maxRecDepth 100000
set_option maxHeartbeats 400000
namespace Go.Proofs.YtcchjofjpflbhaaGreatDoor.E
open Go.RowKit Go.Shelf Go.Proofs.YtcchjofjpflbhaaGreatDoor.C

section
variable {α:Type} {r:Rep α} {d:α} {P Q:Nat→Prop} {W W':World} {v:Value} {xs:List α}
end
theorem manyR_iff {B:Nat} {W:World} {v:Value} {ls:List (List UInt8)}:manyR.R (·<B) W v ls↔Many B W v ls:=Iff.rfl
section
variable {α:Type} {r:Rep α} {t:TypeId} {d:α} {Q:Nat→Prop} {W W':World} {base:Nat} {v:Value} {xs:List α}
end
section
variable {Q:Nat→Prop} {W W':World} {base:Nat} {v:Value}
end
end Go.Proofs.YtcchjofjpflbhaaGreatDoor.E

namespace Go.Proofs.YtcchjofjpflbhaaGreatDoor.E
open Go.RowKit Go.Shelf Go.Proofs.YtcchjofjpflbhaaGreatDoor.C Go.ChangeShapes Go.WideShapes

theorem many_rows {w:World} {a:Addr} {len cap:Nat} (hl:len≤cap) {A:Nat→Option Addr} {L C:Nat→Nat} {Z:Nat→List Int}
 (h:∀ r,r<cap→w.cell? (a.add r)=some (.slice (A r) (L r) (C r))∧IsRow .u8 w (A r) (L r) (C r) (Z r)):∃ ls:List (List UInt8),Many w.heap.size w (.slice (some a) len cap) ls:=by
 have each:∀ r,∃ l:List UInt8,r<cap→l.length=L r∧Bytes w.heap.size w (.slice (A r) (L r) (C r)) l:=by
  intro r
  by_cases hr:r<cap
  · obtain ⟨l,h1,h2⟩:=row_bytes (h r hr).2
    exact ⟨l,fun _=>⟨h1,h2⟩⟩
  · exact ⟨[],fun h=>absurd h hr⟩
 let f:Nat→List UInt8:=fun r=>(each r).choose
 have hf:∀ r,r<cap→(f r).length=L r∧Bytes w.heap.size w (.slice (A r) (L r) (C r)) (f r):=fun r=>(each r).choose_spec
 have hlen:((List.range len).map f).length=len:=by simp
 refine ⟨(List.range len).map f,some a,cap,by rw [hlen],by rw [hlen];exact hl,fun hp=>?_⟩
 rw [hlen] at hp ⊢
 obtain ⟨b,off,spot⟩:=a
 have hc:=(h 0 (by omega)).1
 have hspot:spot=none:=by simpa [Addr.add] using World.cell?_spot hc
 subst hspot
 refine ⟨b,off,rfl,?_,fun j hj=>⟨.slice (A j) (L j) (C j),?_,?_⟩⟩
 · have:=block_lt_of_cell hc
   simpa [Addr.add] using this
 · rw [←addr_add];exact (h j (by omega)).1
 · have e:((List.range len).map f)[j]?.getD []=f j:=by
    rw [List.getElem?_map,List.getElem?_range hj];rfl
   rw [e]
   exact (hf j (by omega)).2
theorem open_col {H:Type} {enc:TypeId×Value→H} {W:World} {base fuel:Nat} {v:Value} {x:DataW H×List MemPlace} (hf:DataW.trod enc Tryz.prog W base (fun _=>true) true fuel 50 [v]=some x):∃ ls,Many W.heap.size W v ls:=by
 rcases Deep.open_int_rows Tryz.underlying50 Tryz.underlying64 Tryz.underlying5 (by kernel_rfl) (by kernel_rfl) hf with ⟨hcs,_⟩ | ⟨x,l,c,AA,LL,CC,ZZ,hcs,_,hl,hm,_,hrows⟩
 · obtain rfl:v = .slice none 0 0:=by simpa using hcs
   exact ⟨[],Many.nil_ _ _ _ _⟩
 · obtain rfl:v = .slice (some x) l c:=by simpa using hcs
   refine many_rows hl (A:=AA) (L:=LL) (C:=CC) (Z:=ZZ) fun r hr=>?_
   obtain ⟨q1,q2,q3,q4,q5,q6,q7⟩:=hrows r hr
   refine ⟨q1,?_⟩
   cases hAr:AA r with
   | none =>
     have hC:=q6 hAr
     refine .inl ⟨rfl,by omega,hC,List.eq_nil_of_length_eq_zero (by omega)⟩
   | some x=>exact .inr ⟨x,rfl,q2,q3,q4,fun i hi=>(q7 x hAr).2 i (by omega),q5⟩
theorem open_cols {H:Type} {enc:TypeId×Value→H} {W:World} {base fuel:Nat} {v:Value} {x:DataW H×List MemPlace} (hf:DataW.trod enc Tryz.prog W base (fun _=>true) true fuel 40 [v]=some x):∃ css,Cols W.heap.size W v css:=by
 rcases Deep.open_slice1 Tryz.underlying40 (by kernel_rfl) hf with ⟨hcs,_⟩ | ⟨a,len,cap,m,n,V,D,Pl,hcs,hb,hl,hm,hmm,hxx,hx⟩
 · obtain rfl:v = .slice none 0 0:=by simpa using hcs
   exact ⟨[],none,0,rfl,Nat.le_refl _,fun h=>absurd h (by simp)⟩
 · obtain rfl:v = .slice (some a) len cap:=by simpa using hcs
   simp only [if_true] at hmm
   have hmm':=hmm.symm
   subst hmm'
   have each:∀ r,∃ ls:List (List UInt8),r<cap→W.cell? (a.add r)=some (V r)∧Many W.heap.size W (V r) ls:=by
    intro r
    by_cases hr:r<cap
    · obtain ⟨ls,h1⟩:=open_col (hx r hr).2
      exact ⟨ls,fun _=>⟨(hx r hr).1,h1⟩⟩
    · exact ⟨[],fun h=>absurd h hr⟩
   let f:Nat→List (List UInt8):=fun r=>(each r).choose
   have hff:∀ r,r<cap→W.cell? (a.add r)=some (V r)∧Many W.heap.size W (V r) (f r):=fun r=>(each r).choose_spec
   have hlen:((List.range len).map f).length=len:=by simp
   refine ⟨(List.range len).map f,some a,cap,by rw [hlen],by rw [hlen];exact hl,fun hp=>?_⟩
   rw [hlen] at hp ⊢
   obtain ⟨b,off,spot⟩:=a
   have hc:=(hff 0 (by omega)).1
   have hspot:spot=none:=by simpa [Addr.add] using World.cell?_spot hc
   subst hspot
   refine ⟨b,off,rfl,?_,fun j hj=>⟨V j,?_,?_⟩⟩
   · have:=block_lt_of_cell hc
     simpa [Addr.add] using this
   · rw [←addr_add];exact (hff j (by omega)).1
   · have e:((List.range len).map f)[j]?.getD []=f j:=by
      rw [List.getElem?_map,List.getElem?_range hj];rfl
     rw [e]
     exact (hff j (by omega)).2
end Go.Proofs.YtcchjofjpflbhaaGreatDoor.E
