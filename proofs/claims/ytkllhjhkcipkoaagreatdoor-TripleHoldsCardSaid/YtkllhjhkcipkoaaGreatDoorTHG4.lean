/- -/
import Derived.BigFrame
import Derived.Deep.Matrix
import Derived.ShutString
import Derived.ChangeOld
import Derived.Laws.CopyOwn
import Derived.Laws.Tables
import Derived.Test.YtkllhjhkcipkoaaGreatDoorTHG3
set_option linter.unusedVariables false
set_option linter.unusedSimpArgs false
set_option maxRecDepth 100000
set_option maxHeartbeats 4000000
namespace Go.Proofs.YtkllhjhkcipkoaaGreatDoor.E
open Go.RowKit Go.Shelf Go.Proofs.YtkllhjhkcipkoaaGreatDoor.C

section
variable {α:Type} {r:Rep α} {t:TypeId} {d:α} {Q:Nat→Prop} {W W':World} {base:Nat} {v:Value} {xs:List α}
theorem RowG.one {g:Nat} {u:Value} {x:α} (hg:Blk W g t #[u]) (hb:base≤g) (hu:r.R (fun b=>b<W.heap.size∧some b≠some g∧Q b) W u x):RowG r t d Q W base (.slice (some ⟨g,0,none⟩) 1 1) [x] :=
 ⟨[u],⟨rfl,.inr ⟨g,1,#[u],rfl,hb,hg,Nat.le_refl _,by unfold maxLen;omega,rfl,rfl⟩⟩,rfl,fun j y hy=>by
  cases j with
  | zero=>cases hy;exact hu
  | succ j=>simp at hy⟩
theorem RowG.append (i:TypeInfo) (hi:Tryz.prog.info? t=some i) (hz:i.zero=some (.slice none 0 0)) (h1:i.size=1) (h24:i.bytes=24) (T ty:TypeId) (hT:Tryz.prog.underlying T=some (.slice t))
 (h:RowG r t d Q W base v xs) {v2:Value} {ys:List α} (h2:SliceP r d (fun b=>b<W.heap.size∧some b≠v.ownBlock∧Q b) W v2 ys) (hn2:∀ A cap,v2 = .slice A 0 cap→A=none→cap=0) (hlen:xs.length≤100000) (hlen2:ys.length≤100000) (hbase:base≤W.heap.size) :
 ∃ v' w',(Builtin.append_ #[T,T] ty #[v,v2]).run Tryz.prog W = .ok v' w'∧RowG r t d Q w' base v' (xs ++ ys)∧W.grownBy w' v.ownBlock∧(v'.ownBlock=v.ownBlock∨v'.ownBlock=some W.heap.size):=by
 obtain ⟨us,ho,hn,hr⟩:=h
 obtain ⟨A,cap,rfl,hc,hA⟩:=h2
 rcases A with _ | ad
 · have h0:ys = []:=by
    rcases Nat.eq_zero_or_pos ys.length with h0 | h0
    · exact List.eq_nil_of_length_eq_zero h0
    · obtain ⟨b,off,h,_⟩:=hA h0
      cases h
   subst h0
   obtain rfl:=hn2 none cap rfl rfl
   rw [List.append_nil]
   exact ⟨v,W,run_append_owned_none (P:=Tryz.prog) (w:=W) base T ty t i 1 hT hi v us.length us ho,⟨us,ho,hn,hr⟩,World.grownBy.refl _ _,.inl rfl⟩
 have hus:∃ us2:List Value,us2.length=ys.length∧(∀ (j:Nat) (u:Value),us2[j]?=some u→W.cell? (ad.add j)=some u)∧∀ (j:Nat) (u:Value),us2[j]?=some u→r.R (fun b=>b<W.heap.size∧some b≠v.ownBlock∧Q b) W u (ys[j]?.getD d):=by
  rcases Nat.eq_zero_or_pos ys.length with h0 | h0
  · exact ⟨[],h0.symm,fun j u h=>(by cases h),fun j u h=>(by cases h)⟩
  · obtain ⟨b,off,e,hb,hcell⟩:=hA h0
    injection e with e
    subst e
    refine ⟨(List.range ys.length).map fun j=>(W.cell? ⟨b,off+j,none⟩).getD undef,by simp,fun j u hu=>?_,fun j u hu=>?_⟩
    all_goals
     rw [List.getElem?_map] at hu
     rcases Nat.lt_or_ge j ys.length with hj | hj
     · rw [List.getElem?_range hj] at hu
       obtain ⟨u2,q1,q2⟩:=hcell j hj
       simp only [Option.map_some,q1,Option.getD_some,Option.some.injEq] at hu
       subst hu
       first | (rw [addr_add];exact q1) | exact q2
     · rw [List.getElem?_eq_none (by simpa using hj)] at hu
       cases hu
 obtain ⟨us2,hl2,hc2,hr2⟩:=hus
 obtain ⟨v',w',hrun,o1,o2,_,o3⟩:=run_append_own_at (P:=Tryz.prog) W base T ty t i (.slice none 0 0) 1 24 hT hi hz h1 h24 rfl (by omega) v us.length us ho ad ys.length cap us2 (by omega) hc2
  (by intro y hy;obtain ⟨j,hj⟩:=List.getElem?_of_mem hy;exact r.one (hr2 j y hj)) (by unfold maxLen;omega) (by omega) hbase
 have hk:∀ {y:Value} {z:α},r.R (fun b=>b<W.heap.size∧some b≠v.ownBlock∧Q b) W y z→r.R (fun b=>b<w'.heap.size∧some b≠v'.ownBlock∧Q b) w' y z:=fun {y z} hy =>
  r.imp (r.keep hy fun b hb=>o2.block b hb.1 hb.2.1) fun b hb=>⟨Nat.lt_of_lt_of_le hb.1 o2.size,by
   rcases o3 with e | e
   · rw [e];exact hb.2.1
   · rw [e];intro e2;injection e2 with e2;have:=hb.1;omega,hb.2.2⟩
 refine ⟨v',w',hrun,⟨us ++ us2,by rw [List.length_append,hl2];exact o1,by rw [List.length_append,List.length_append,hn,hl2],fun j y hy=>?_⟩,o2,o3⟩
 rcases Nat.lt_or_ge j us.length with hj | hj
 · rw [List.getElem?_append_left hj] at hy
   rw [List.getElem?_append_left (by omega)]
   exact hk (hr j y hy)
 · rw [List.getElem?_append_right hj] at hy
   rw [List.getElem?_append_right (by omega),←hn]
   exact hk (hr2 _ y hy)
end
theorem wpList_appCw {T:TypeId} {Q:Nat→Prop} {base:Nat} {v v2:Value} (w:World) {ops:Array Oper} {rest:List Oper} {o:Oper} {a:Act} {QQ:Exit→Act→World→Prop} (hgd:Region.wanted o (yielded ops a.tmps)=true) (s x:Operand)
 (ho:o.op = .call { callee:=.builtin .append,args:=#[s,x],argTypes:=#[T,T] }) (hT:Tryz.prog.underlying T=some (.slice 41)) (css ds:List (List (List UInt8))) (hs:a.eval s=v) (h:RowC Q w base v css) (hx:a.eval x=v2)
 (h2:colsR.R (fun b=>b<w.heap.size∧some b≠v.ownBlock∧Q b) w v2 ds) (h0:0<ds.length) (hlen:css.length≤100000) (hlen2:ds.length≤100000) (hbase:base≤w.heap.size)
 (hK:∀ v' w',RowC Q w' base v' (css ++ ds)→w.grownBy w' v.ownBlock→(v'.ownBlock=v.ownBlock∨v'.ownBlock=some w.heap.size)→wpList Tryz.prog ops QQ rest (a.put o.dst v') w'):wpList Tryz.prog ops QQ (o :: rest) a w :=
 BigFrame.wpList_want hgd fun K hK2=>by
  obtain ⟨i,hi,hz0,hz1,hz2⟩:=info_parts Tryz.infoCol
  obtain ⟨v',w',hrun,h1,h3,h4⟩:=RowG.append i hi hz0 hz1 hz2 T o.type hT h h2 (fun A cap e hA=>by
   obtain ⟨A2,c2,e2,_,hA2⟩:=h2
   rw [e] at e2
   injection e2 with _ e3 _
   omega) hlen hlen2 hbase
  unfold Oper.wp execOp
  simp only [ho,resolve,invoke,builtin,Sem.run_bind,Sem.run_pure,Result.andThen_ok,List.map_toArray,List.map_cons,List.map_nil,hs,hx,hrun]
  exact hK2 _ _ (hK v' w' h1 h3 h4)
theorem Cols.take_ {B:Nat} {W:World} {A:Option Addr} {n cap:Nat} {css:List (List (List UInt8))} (h:Cols B W (.slice A n cap) css) {m:Nat} (hm:m≤n):Cols B W (.slice A m cap) (css.take m):=by
 obtain ⟨A',cap',e,hc,hA⟩:=h
 injection e with e1 e2 e3
 subst e1 e2 e3
 have hl:(css.take m).length=m:=by rw [List.length_take];omega
 refine ⟨A,cap,by rw [hl],by omega,fun hp=>?_⟩
 obtain ⟨b,off,e,hb,hcell⟩:=hA (by omega)
 refine ⟨b,off,e,hb,fun j hj=>?_⟩
 obtain ⟨u,h1,h2⟩:=hcell j (by omega)
 exact ⟨u,h1,by rw [List.getElem?_take_of_lt (by omega)];exact h2⟩
end Go.Proofs.YtkllhjhkcipkoaaGreatDoor.E

namespace Go.Proofs.YtkllhjhkcipkoaaGreatDoor.E
open Go.RowKit Go.Shelf Go.Proofs.YtkllhjhkcipkoaaGreatDoor.C Go.ChangeShapes Go.WideShapes

theorem many_rows {w:World} {a:Addr} {len cap:Nat} (hl:len≤cap) {A:Nat→Option Addr} {L C:Nat→Nat} {Z:Nat→List Int}
 (h:∀ r,r<cap→w.cell? (a.add r)=some (.slice (A r) (L r) (C r))∧IsRow .u8 w (A r) (L r) (C r) (Z r)):∃ ls:List (List UInt8),Many w.heap.size w (.slice (some a) len cap) ls:=by
 have each:∀ r,∃ l:List UInt8,r<cap→l.length=L r∧Bytes w.heap.size w (.slice (A r) (L r) (C r)) l:=by
  intro r
  by_cases hr:r<cap
  · obtain ⟨l,h1,h2⟩:=row_bytes (h r hr).2
    exact ⟨l,fun _=>⟨h1,h2⟩⟩
  · exact ⟨[],fun h=>absurd h hr⟩
 let f:Nat→List UInt8:=fun r=>(each r).choose
 have hf:∀ r,r<cap→(f r).length=L r∧Bytes w.heap.size w (.slice (A r) (L r) (C r)) (f r):=fun r=>(each r).choose_spec
 have hlen:((List.range len).map f).length=len:=by simp
 refine ⟨(List.range len).map f,some a,cap,by rw [hlen],by rw [hlen];exact hl,fun hp=>?_⟩
 rw [hlen] at hp ⊢
 obtain ⟨b,off,spot⟩:=a
 have hc:=(h 0 (by omega)).1
 have hspot:spot=none:=by simpa [Addr.add] using World.cell?_spot hc
 subst hspot
 refine ⟨b,off,rfl,?_,fun j hj=>⟨.slice (A j) (L j) (C j),?_,?_⟩⟩
 · have:=block_lt_of_cell hc
   simpa [Addr.add] using this
 · rw [←addr_add];exact (h j (by omega)).1
 · have e:((List.range len).map f)[j]?.getD []=f j:=by
    rw [List.getElem?_map,List.getElem?_range hj];rfl
   rw [e]
   exact (hf j (by omega)).2
theorem open_col {H:Type} {enc:TypeId×Value→H} {W:World} {base fuel:Nat} {v:Value} {x:DataW H×List MemPlace} (hf:DataW.trod enc Tryz.prog W base (fun _=>true) true fuel 41 [v]=some x):∃ ls,Many W.heap.size W v ls:=by
 rcases Deep.open_int_rows Tryz.underlying41 Tryz.underlying60 Tryz.underlying5 (by kernel_rfl) (by kernel_rfl) hf with ⟨hcs,_⟩ | ⟨x,l,c,AA,LL,CC,ZZ,hcs,_,hl,hm,_,hrows⟩
 · obtain rfl:v = .slice none 0 0:=by simpa using hcs
   exact ⟨[],Many.nil_ _ _ _ _⟩
 · obtain rfl:v = .slice (some x) l c:=by simpa using hcs
   refine many_rows hl (A:=AA) (L:=LL) (C:=CC) (Z:=ZZ) fun r hr=>?_
   obtain ⟨q1,q2,q3,q4,q5,q6,q7⟩:=hrows r hr
   refine ⟨q1,?_⟩
   cases hAr:AA r with
   | none =>
     have hC:=q6 hAr
     refine .inl ⟨rfl,by omega,hC,List.eq_nil_of_length_eq_zero (by omega)⟩
   | some x=>exact .inr ⟨x,rfl,q2,q3,q4,fun i hi=>(q7 x hAr).2 i (by omega),q5⟩
theorem open_cols {H:Type} {enc:TypeId×Value→H} {W:World} {base fuel:Nat} {v:Value} {x:DataW H×List MemPlace} (hf:DataW.trod enc Tryz.prog W base (fun _=>true) true fuel 22 [v]=some x):∃ css,Cols W.heap.size W v css:=by
 rcases Deep.open_slice1 Tryz.underlying22 (by kernel_rfl) hf with ⟨hcs,_⟩ | ⟨a,len,cap,m,n,V,D,Pl,hcs,hb,hl,hm,hmm,hxx,hx⟩
 · obtain rfl:v = .slice none 0 0:=by simpa using hcs
   exact ⟨[],none,0,rfl,Nat.le_refl _,fun h=>absurd h (by simp)⟩
 · obtain rfl:v = .slice (some a) len cap:=by simpa using hcs
   simp only [if_true] at hmm
   have hmm':=hmm.symm
   subst hmm'
   have each:∀ r,∃ ls:List (List UInt8),r<cap→W.cell? (a.add r)=some (V r)∧Many W.heap.size W (V r) ls:=by
    intro r
    by_cases hr:r<cap
    · obtain ⟨ls,h1⟩:=open_col (hx r hr).2
      exact ⟨ls,fun _=>⟨(hx r hr).1,h1⟩⟩
    · exact ⟨[],fun h=>absurd h hr⟩
   let f:Nat→List (List UInt8):=fun r=>(each r).choose
   have hff:∀ r,r<cap→W.cell? (a.add r)=some (V r)∧Many W.heap.size W (V r) (f r):=fun r=>(each r).choose_spec
   have hlen:((List.range len).map f).length=len:=by simp
   refine ⟨(List.range len).map f,some a,cap,by rw [hlen],by rw [hlen];exact hl,fun hp=>?_⟩
   rw [hlen] at hp ⊢
   obtain ⟨b,off,spot⟩:=a
   have hc:=(hff 0 (by omega)).1
   have hspot:spot=none:=by simpa [Addr.add] using World.cell?_spot hc
   subst hspot
   refine ⟨b,off,rfl,?_,fun j hj=>⟨V j,?_,?_⟩⟩
   · have:=block_lt_of_cell hc
     simpa [Addr.add] using this
   · rw [←addr_add];exact (hff j (by omega)).1
   · have e:((List.range len).map f)[j]?.getD []=f j:=by
      rw [List.getElem?_map,List.getElem?_range hj];rfl
     rw [e]
     exact (hff j (by omega)).2
theorem wf_i64 {n:Int} (h:(Lit.int .i64 n).wf=true):-9223372036854775808≤n∧n≤9223372036854775807:=by
 have:=bounds_i64 h
 omega
end Go.Proofs.YtkllhjhkcipkoaaGreatDoor.E

namespace Go.Proofs.YtkllhjhkcipkoaaGreatDoor.Rg
open Go.RowKit Go.Shelf Go.Proofs.YtkllhjhkcipkoaaGreatDoor.C Go.Proofs.YtkllhjhkcipkoaaGreatDoor.E

theorem need_yes (w:World):Calls Tryz.prog 126 #[.bool true] w fun e w'=>e = .returned (.tuple #[])∧w=w':=by
 go_enter Tryz.func126,Tryz.ntmps126
 go_wp2
 go_end0
 exact ⟨rfl,rfl⟩
theorem need_no (w:World):Calls Tryz.prog 126 #[.bool false] w fun e w'=>e = .panicked gaveUp∧w=w':=by
 go_enter Tryz.func126,Tryz.ntmps126
 go_wp2
 exact ⟨rfl,rfl,rfl⟩
theorem sureB (v:Value) (w:World):Calls Tryz.prog 127 #[v,.int .i64 0] w fun e w'=>e = .returned v∧w=w':=by
 go_enter Tryz.func127,Tryz.ntmps127
 go_wp2
 go_ret
 exact ⟨rfl,rfl⟩
theorem sureI (n:Int) (w:World):Calls Tryz.prog 161 #[.int .i64 n,.int .i64 0] w fun e w'=>e = .returned (.int .i64 n)∧w=w':=by
 go_enter Tryz.func161,Tryz.ntmps161
 go_wp2
 go_ret
 exact ⟨rfl,rfl⟩
theorem idle_C (p:Addr) (w:World) :
 CallsD Tryz.prog 125 #[.pointer (some p)] .returning w fun e u' w'=>e = .returned (.tuple #[])∧u' = .returning∧w'=w:=by
 have hta:=assert_errno
 refine callsD_of_wpS Tryz.func125 rfl fun c₀ cs hu=>?_
 simp only [Tryz.ntmps125,List.size_toArray,List.length_cons,List.length_nil,Nat.reduceAdd,Nat.reduceSub,Array.replicate_succ,Array.replicate_zero,List.push_toArray,List.append_toArray,List.nil_append,List.cons_append]
 apply wpS_seq
 apply wpS_region
 simp [wpOpsS,go_sem,recoverD,hu,Exit.thenS]
 all_goals (refine wpS_of_wp ?_;go_wp2;cases c₀;simp_all [bodyPostS,results,Tryz.results125])
theorem caught_C (p:Addr) (x:Int) (w:World) (hc:w.cell? p=some (.int .i64 x)) (hz:w.frozen? p=false) :
 CallsD Tryz.prog 125 #[.pointer (some p)] (.panicking gaveUp) w fun e u' w' =>
  e = .returned (.tuple #[])∧u' = .panicking [{ v:=.iface 26 (.int .i64 2),recovered:=true }]∧w'=w.setCell p (.int .i64 2):=by
 have hta:=assert_errno
 refine callsD_of_wpS Tryz.func125 rfl fun c₀ cs hu=>?_
 simp only [Tryz.ntmps125,List.size_toArray,List.length_cons,List.length_nil,Nat.reduceAdd,Nat.reduceSub,Array.replicate_succ,Array.replicate_zero,List.push_toArray,List.append_toArray,List.nil_append,List.cons_append]
 apply wpS_seq
 apply wpS_region
 simp [wpOpsS,go_sem,recoverD,hu,Exit.thenS,gaveUp]
 all_goals (refine wpS_of_wp ?_;go_wp2;simp [bodyPostS,results,Tryz.results125])
theorem ans_C_yes (f:Nat) (caps:Array Value) (w:World) (Post:Value→World→Prop) (hent:∀ W,(callFunc f caps).run Tryz.prog W = .ok (.enter f caps) W)
 (h:∀ W,Below w.heap.size w W→Blk W w.heap.size 26 #[.int .i64 0]→Calls Tryz.prog f caps W fun e w'=>∃ v,e = .returned v∧Post v w'∧Below W.heap.size W w') :
 Calls Tryz.prog 104 #[.func (.func f) #[] caps] w fun e w'=>∃ v W,e = .returned (.tuple #[v,.int .i64 0])∧Post v W∧Blk W w.heap.size 26 #[.int .i64 0]∧w'=W.setCell ⟨w.heap.size,0,none⟩ (.int .i64 0)∧Below w.heap.size w w':=by
 have hmf:∀ (fn:Fn) (first cap:Array Value) (w:World),(Instr.makeFunc fn first cap).run Tryz.prog w = .ok (.func fn first cap) w:=fun _ _ _ _=>rfl
 have h1:=h (w.alloc (.cells #[.int .i64 0] 26)) ((Below.refl _ w).alloc (Nat.le_refl _) _) (Blk.new w _ _)
 clear h
 go_enter_defers Tryz.func104,Tryz.ntmps104
 go_wp2
 refine h1.mono ?_
 rintro e w1 ⟨v,rfl,hv,hB1⟩
 have b1:Blk w1 w.heap.size 26 #[.int .i64 0]:=(Blk.new w _ _).below hB1 (by simp)
 have c1:=b1.cell 0
 have f1:=b1.frozen 0
 simp only [List.getElem?_toArray,List.getElem?_cons_zero] at c1
 go_wp2
 refine leaves_cons (f:=125) (args:=#[.pointer (some ⟨w.heap.size,0,none⟩)]) (by simp) (by simp [go_sem]) ?_
 refine (idle_C ⟨w.heap.size,0,none⟩ _).mono ?_
 rintro e u' w'' ⟨rfl,rfl,rfl⟩
 have c2:(w1.setCell ⟨w.heap.size,0,none⟩ (.int .i64 0)).cell? ⟨w.heap.size,0,none⟩=some (.int .i64 0):=World.cell?_setCell_same' _ _ _ (by rw [c1];rfl)
 simp [Go.Leaves,settle,results,Tryz.results104,go_sem,c2]
 exact ⟨w1,hv,b1,rfl,(((Below.refl _ w).alloc (Nat.le_refl _) _).trans (hB1.mono (by simp))).setCell (Nat.le_refl _) _⟩
theorem ans_C_no (f:Nat) (caps:Array Value) (w:World) (hent:∀ W,(callFunc f caps).run Tryz.prog W = .ok (.enter f caps) W)
 (h:∀ W,Below w.heap.size w W→w.heap.size<W.heap.size→Calls Tryz.prog f caps W fun e w'=>e = .panicked gaveUp∧Below W.heap.size W w') :
 Calls Tryz.prog 104 #[.func (.func f) #[] caps] w fun e w'=>e = .returned (.tuple #[.slice none 0 0,.int .i64 2])∧Below w.heap.size w w':=by
 have hmf:∀ (fn:Fn) (first cap:Array Value) (w:World),(Instr.makeFunc fn first cap).run Tryz.prog w = .ok (.func fn first cap) w:=fun _ _ _ _=>rfl
 have h1:=h (w.alloc (.cells #[.int .i64 0] 26)) ((Below.refl _ w).alloc (Nat.le_refl _) _) (by simp)
 clear h
 go_enter_defers Tryz.func104,Tryz.ntmps104
 go_wp2
 refine h1.mono ?_
 rintro e w1 ⟨rfl,hB1⟩
 have b1:Blk w1 w.heap.size 26 #[.int .i64 0]:=(Blk.new w _ _).below hB1 (by simp)
 have c1:=b1.cell 0
 have f1:=b1.frozen 0
 simp only [List.getElem?_toArray,List.getElem?_cons_zero] at c1
 refine leaves_cons (f:=125) (args:=#[.pointer (some ⟨w.heap.size,0,none⟩)]) (by simp) (by simp [go_sem]) ?_
 refine (caught_C ⟨w.heap.size,0,none⟩ 0 _ c1 f1).mono ?_
 rintro e u' w'' ⟨rfl,rfl,rfl⟩
 have c2:(w1.setCell ⟨w.heap.size,0,none⟩ (.int .i64 2)).cell? ⟨w.heap.size,0,none⟩=some (.int .i64 2):=World.cell?_setCell_same' _ _ _ (by rw [c1];rfl)
 simp [Go.Leaves,settle,results,Tryz.results104,go_sem,c2]
 exact (((Below.refl _ w).alloc (Nat.le_refl _) _).trans (hB1.mono (by simp))).setCell (Nat.le_refl _) _
end Go.Proofs.YtkllhjhkcipkoaaGreatDoor.Rg

namespace Go.Proofs.YtkllhjhkcipkoaaGreatDoor.Rg
open Go.RowKit Go.Shelf Go.Proofs.YtkllhjhkcipkoaaGreatDoor.C Go.Proofs.YtkllhjhkcipkoaaGreatDoor.E

def LoadIs (P:Program) (t:TypeId) (ad:Addr) (v:Value) (w:World):Prop:=(loadVar t ad).run P w = .ok v w
section
variable {P:Program} {F:Fence} {n:Nat} {ops:Array Oper} {Q:Exit→Act→World→Prop} {rest:List Oper} {o:Oper} {a:Act} {w w':World} {t:TypeId} {p x:Operand} {ad:Addr} {v:Value}
theorem exec_load {ρ:Operand→Value} (ho:o.op = .load t p) (hp:ρ p = .pointer (some ad)) (hv:LoadIs P t ad v w):(execOp ρ o).run P w = .ok (.value v) w:=by
 unfold execOp
 simp only [ho,hp,Instr.loadAt,Instr.sureAddr,Sem.run_bind,Sem.run_pure,Result.andThen_ok,show (loadVar t ad).run P w = .ok v w from hv]
theorem exec_store {ρ:Operand→Value} (ho:o.op = .store t p x) (hp:ρ p = .pointer (some ad)) (hx:ρ x=v) (hv:(storeVar t ad v).run P w = .ok () w'):(execOp ρ o).run P w = .ok .skip w':=by
 unfold execOp
 simp only [ho,hp,hx,Instr.storeAt,Instr.sureAddr,Sem.run_bind,Sem.run_pure,Result.andThen_ok,hv]
theorem wpListIn_loadS (hgd:o.guard=none) (ho:o.op = .load t p) (hp:a.eval p = .pointer (some ad)) (hv:LoadIs P t ad v w) (h:wpListIn F n P ops Q rest (a.put o.dst v) w):wpListIn F n P ops Q (o :: rest) a w :=
 wpListIn_plain hgd fun K hK=>by
  refine ⟨fun f hf=>?_,?_⟩
  · simp [Oper.about,ho] at hf
  · rw [Oper.semAt_eq _ _ _ (by simp [ho]),exec_load ho hp hv]
    exact hK _ _ h
theorem wpListIn_storeS (hgd:o.guard=none) (ho:o.op = .store t p x) (hp:a.eval p = .pointer (some ad)) (hx:a.eval x=v) (hv:(storeVar t ad v).run P w = .ok () w') (h:wpListIn F n P ops Q rest (a.put o.dst undef) w'):wpListIn F n P ops Q (o :: rest) a w :=
 wpListIn_plain hgd fun K hK=>by
  refine ⟨fun f hf=>?_,?_⟩
  · simp [Oper.about,ho] at hf
  · rw [Oper.semAt_eq _ _ _ (by simp [ho]),exec_store ho hp hx hv]
    exact hK _ _ h
theorem results_cell {fn:Func} {tt:Tmp} {tmps:Array Value} (h:fn.results=#[.cell tt t]) (ht:tmps.getD tt undef = .pointer (some ad)) (hv:LoadIs P t ad v w):(results fn tmps).run P w = .ok v w:=by
 unfold LoadIs at hv
 have ht':tmps[tt]?.getD undef = .pointer (some ad):=by simpa using ht
 simp [results,h,asAddr,ht',hv]
def aggOf (P:Program) (t:TypeId):Bool:=match P.underlying t with | some (.struct _)=>true | some (.array _ _)=>true | _=>false
theorem loadVar_at {g:Nat} {ty:TypeId} {cs:List Value} (h:Blk w g ty cs.toArray) (i m:Nat) (hn:i+m≤cs.length) (hu:aggOf P t=true) (hi:(P.info? t).map (·.size)=some m) :
 LoadIs P t ⟨g,i,none⟩ (.agg ((cs.drop i).take m).toArray) w:=by
 have hl:((cs.drop i).take m).length=m:=by rw [List.length_take,List.length_drop];omega
 have hc:=run_loadCells_list (P:=P) w ⟨g,i,none⟩ ((cs.drop i).take m) (fun j v hv=>by
  have hj:j<m:=by
   have:=(List.getElem?_eq_some_iff.1 hv).1
   omega
  rw [addr_add,h.cell (i+j),List.getElem?_toArray]
  rw [List.getElem?_take_of_lt hj,List.getElem?_drop] at hv
  exact hv)
 rw [hl] at hc
 cases hq:P.info? t with
 | none=>simp [hq] at hi
 | some f =>
   have hs:f.size=m:=by simpa [hq] using hi
   have hagg:(isAgg t).run P w = .ok true w:=by
    unfold aggOf at hu
    cases hd:P.underlying t with
    | none=>rw [hd] at hu;cases hu
    | some d =>
      unfold isAgg
      rw [Sem.run_bind,run_underlying hd,Result.andThen_ok]
      cases d <;> simp_all
   unfold LoadIs loadVar
   simp [hagg,sizeOf,typeInfo,hq,hs,hc]
end
theorem load_whole {w:World} {g:Nat} {ty:TypeId} {cs:List Value} (h:Blk w g ty cs.toArray) (i:Nat) (hn:i+17≤cs.length):LoadIs Tryz.prog 144 ⟨g,i,none⟩ (.agg ((cs.drop i).take 17).toArray) w :=
 loadVar_at h i 17 hn (by kernel_rfl) (by kernel_rfl)
theorem load_col {w:World} {g:Nat} {ty:TypeId} {cs:List Value} (h:Blk w g ty cs.toArray) (i:Nat) (hn:i+18≤cs.length):LoadIs Tryz.prog 146 ⟨g,i,none⟩ (.agg ((cs.drop i).take 18).toArray) w :=
 loadVar_at h i 18 hn (by kernel_rfl) (by kernel_rfl)
theorem load_col0 {w:World} {g:Nat} {ty:TypeId} {cs:List Value} (h:Blk w g ty cs.toArray) (hn:cs.length=18):LoadIs Tryz.prog 146 ⟨g,0,none⟩ (.agg cs.toArray) w:=by
 have:=load_col h 0 (by omega)
 rwa [List.drop_zero,List.take_of_length_le (by omega)] at this
theorem store_col0 {w:World} {g:Nat} {cs cs':List Value} (h:Blk w g 146 cs.toArray) (hn:cs.length=18) (hn':cs'.length=18) (h1:∀ v∈cs',v.oneCell'=true):(storeVar 146 ⟨g,0,none⟩ (.agg cs'.toArray)).run Tryz.prog w = .ok () (w.setRow g cs'.toArray) :=
 run_storeVar_row (P:=Tryz.prog) w g _ _ cs.toArray cs'.toArray h (by rw [List.size_toArray,hn'];kernel_rfl) (by simp [hn,hn']) (by rw [Array.all_eq_true_iff_forall_mem];intro v hv;exact h1 v (by simpa using hv))
end Go.Proofs.YtkllhjhkcipkoaaGreatDoor.Rg

namespace Go.Proofs.YtkllhjhkcipkoaaGreatDoor.Rg
open Go.RowKit Go.Shelf Go.Proofs.YtkllhjhkcipkoaaGreatDoor.C Go.Proofs.YtkllhjhkcipkoaaGreatDoor.E
attribute [local go_sem] Oper.semAt_some

def ColV (B:Nat) (W:World) (p n:Nat) (f:Nat→List UInt8) (vs:List Value):Prop :=
 vs.length=18∧vs[0]?=some (.int .i64 (p:Int))∧(∀ r,r<p→(f r).length=n∧∃ u,vs[r+1]?=some u∧Bytes B W u (f r))∧∀ v∈vs,v.oneCell'=true
section
variable {B B' p n:Nat} {W W':World} {f:Nat→List UInt8} {vs:List Value}
theorem ColV.below (h:ColV B W p n f vs) (hb:Below B W W'):ColV B W' p n f vs:=⟨h.1,h.2.1,fun r hr=>by obtain ⟨h1,u,h2,h3⟩:=h.2.2.1 r hr;exact ⟨h1,u,h2,h3.below hb⟩,h.2.2.2⟩
theorem ColV.more (h:ColV B W p n f vs) (hB:B≤B'):ColV B' W p n f vs:=⟨h.1,h.2.1,fun r hr=>by obtain ⟨h1,u,h2,h3⟩:=h.2.2.1 r hr;exact ⟨h1,u,h2,h3.more hB⟩,h.2.2.2⟩
end
theorem cell_any (ws:List Value) (r:Nat) (u:Value) (hlen:ws.length=17) (hr:ws[r]?=some u) (w:World) :
 Calls Tryz.prog 150 #[.agg ws.toArray,.int .i64 (r:Int)] w fun e w'=>e = .returned u∧Below w.heap.size w w':=by
 have hlt:r<17:=by have:=(List.getElem?_eq_some_iff.1 hr).1;omega
 have b0:=Blk.new w 144 ws.toArray
 have c0:=b0.cell r
 rw [List.getElem?_toArray,hr] at c0
 have i1:(0:Int)≤(r:Int):=by omega
 have i2:(r:Int)<17:=by omega
 have i3:r<17:=by omega
 have hB:=below_one w (.cells ws.toArray 144)
 clear hlen hr b0 hlt
 go_enter Tryz.func150,Tryz.ntmps150
 go_wp2
 go_ret
 exact ⟨rfl,hB⟩
theorem last_any (P Q:Nat) (hQ:P=Q+1) (vs:List Value) (hP:P≤17) (h0:vs[0]?=some (.int .i64 (P:Int))) (w:World) :
 Calls Tryz.prog 129 #[.agg vs.toArray] w fun e w'=>e = .returned (.int .i64 (Q:Int))∧Below w.heap.size w w':=by
 have b0:=Blk.new w 146 vs.toArray
 have c0:=b0.cell 0
 rw [List.getElem?_toArray,h0] at c0
 have i1:(0:Int)≤(P:Int):=by omega
 have i2:(P:Int)≤17:=by omega
 have hB:=below_one w (.cells vs.toArray 146)
 have HQ:=Lib.hid hQ
 clear h0 b0 hP hQ
 go_enter Tryz.func129,Tryz.ntmps129
 go_wp2
 go_ret
 exact ⟨ret_i64 (by have:=HQ.out;omega),hB⟩
theorem upon_any {B:Nat} (v:Value) (ls:List (List UInt8)) (w:World) (hB:B≤w.heap.size) (hM:Many B w v ls) (hls:ls.length≤1000) (hok:XorOk ls) :
 Calls Tryz.prog 149 #[v] w fun e w'=>∃ u,e = .returned u∧Fresh w.heap.size w' u (xorOf ls)∧Below w.heap.size w w':=by
 have HX:=Lib.hid (xor_yes ls v w hB hM (by omega) hok)
 obtain ⟨A,cap,rfl,_,_⟩:=id hM
 clear hM hok hls
 generalize ls.length=n at *
 go_enter Tryz.func149,Tryz.ntmps149
 go_wp2_with (first
  | (go_at_call 160;refine HX.out.mono ?_;rintro e w1 ⟨u,rfl,hF,hB1⟩)
  | (go_at_call 127;refine (sureB _ _).mono ?_;rintro e w2 ⟨rfl,rfl⟩))
 go_ret
 exact ⟨_,rfl,hF,hB1⟩
theorem place_any (P:Nat) (vs:List Value) (hP:(P:Int)∈prm) (h0:vs[0]?=some (.int .i64 (P:Int))) (n:Int) (n1:-9223372036854775808≤n) (n2:n≤9223372036854775807) (w:World) (hL:Laid w) :
 Calls Tryz.prog 151 #[.agg vs.toArray,.int .i64 n] w fun e w'=>e = .returned (.int .i64 (n % (P:Int)))∧Below w.heap.size w w':=by
 have b0:=Blk.new w 146 vs.toArray
 have c0:=b0.cell 0
 rw [List.getElem?_toArray,h0] at c0
 have hB:=below_one w (.cells vs.toArray 146)
 have HO:=Lib.hid ((modOf_any (P:Int) n (w.alloc (.cells vs.toArray 146)) (hL.next hB) n1 n2).mono fun e w' h=>(⟨h.1 hP,h.2.2⟩:_∧_))
 clear h0 b0 hP hL
 go_enter Tryz.func151,Tryz.ntmps151
 go_wp2_with (first
  | (go_at_call 162;refine HO.out.mono ?_;rintro e w1 ⟨rfl,hB1⟩)
  | (go_at_call 161;refine (sureI _ _).mono ?_;rintro e w2 ⟨rfl,rfl⟩))
 go_ret
 exact ⟨rfl,below_in hB hB1⟩
end Go.Proofs.YtkllhjhkcipkoaaGreatDoor.Rg

namespace Go.Proofs.YtkllhjhkcipkoaaGreatDoor.Rg
open Go.RowKit Go.Shelf Go.Maps Go.Proofs.YtkllhjhkcipkoaaGreatDoor.C Go.Proofs.YtkllhjhkcipkoaaGreatDoor.E
attribute [local go_sem] Oper.semAt_some

theorem two_many {W:World} {B g:Nat} {t:TypeId} {va vb:Value} {a b:List UInt8} (h:Blk W g t #[va,vb]) (h1:Bytes B W va a) (h2:Bytes B W vb b) (hg:g<B):Many B W (.slice (some ⟨g,0,none⟩) 2 2) [a,b]:=by
 refine ⟨some ⟨g,0,none⟩,2,rfl,by show 2≤2;omega,fun _=>⟨g,0,rfl,hg,fun j hj=>?_⟩⟩
 have hj2:j<2:=hj
 rcases (by omega:j=0∨j=1) with rfl | rfl
 · exact ⟨va,h.cell 0,h1⟩
 · exact ⟨vb,h.cell 1,h2⟩
theorem two_ok {a b:List UInt8} (hl:b.length=a.length) (h1:1≤a.length) (h64:a.length≤64):XorOk [a,b]:=by
 refine ⟨by simp,by show Cell a;unfold Cell;omega,fun j hj=>?_⟩
 have hj2:j<2:=hj
 rcases (by omega:j=0∨j=1) with rfl | rfl
 · rfl
 · exact hl
theorem fresh_more {a b:Nat} {W:World} {v:Value} {l:List UInt8} (h:Fresh a W v l) (hb:b≤a):Fresh b W v l:=by
 obtain ⟨A,cap,e,hc,hA⟩:=h
 refine ⟨A,cap,e,hc,fun hp=>?_⟩
 obtain ⟨b',off,e2,hb1,hb2,hcell⟩:=hA hp
 exact ⟨b',off,e2,by omega,hb2,hcell⟩
theorem ws_get {vs:List Value} (hl:vs.length=18) (r:Nat) (hr:r<17):((vs.drop 1).take 17)[r]?=vs[r+1]?:=by
 rw [List.getElem?_take_of_lt hr,List.getElem?_drop,Nat.add_comm]
theorem settled_any {B:Nat} (P Q n:Nat) (hQ:P=Q+1) (hP:P≤17) (f:Nat→List UInt8) (vs:List Value) (row:Nat) (hrow:row<P) (h1:1≤n) (h64:n≤64) (w:World) (hB:B≤w.heap.size) (hV:ColV B w P n f vs) :
 Calls Tryz.prog 131 #[.agg vs.toArray,.int .i64 (row:Int)] w fun e w'=>∃ u,e = .returned u∧Fresh w.heap.size w' u (xorOf [f row,f Q])∧Below w.heap.size w w':=by
 obtain ⟨hl,h0,hr,h1c⟩:=hV
 obtain ⟨n1,u1,g1,y1⟩:=hr row hrow
 obtain ⟨n2,u2,g2,y2⟩:=hr Q (by omega)
 obtain ⟨A1,c1,e1,_,_⟩:=id y1
 obtain ⟨A2,c2,e2,_,_⟩:=id y2
 rw [n1] at e1
 rw [n2] at e2
 subst e1 e2
 obtain ⟨ws,hws⟩:∃ ws,(vs.drop 1).take 17=ws:=⟨_,rfl⟩
 have hwl:ws.length=17:=by rw [←hws,List.length_take,List.length_drop];omega
 have k1:ws[row]?=some (.slice A1 n c1):=by rw [←hws,ws_get hl row (by omega),g1]
 have k2:ws[Q]?=some (.slice A2 n c2):=by rw [←hws,ws_get hl Q (by omega),g2]
 have hBz:=below_one w (.cells vs.toArray 146)
 have bz:=Blk.new w 146 vs.toArray
 obtain ⟨wb,hwb⟩:∃ x,w.alloc (.cells vs.toArray 146)=x:=⟨_,rfl⟩
 rw [hwb] at hBz bz
 have HC1:=Lib.hid (fun U=>cell_any ws row _ hwl k1 U)
 have HC2:=Lib.hid (fun U=>cell_any ws Q _ hwl k2 U)
 have HLA:=Lib.hid (fun U=>last_any P Q hQ vs hP h0 U)
 have HSS:Hid (∀ U,Below wb.heap.size wb U→(fun U:World=>LoadIs Tryz.prog 146 ⟨w.heap.size,0,none⟩ (.agg vs.toArray) U∧LoadIs Tryz.prog 144 ⟨w.heap.size,1,none⟩ (.agg ws.toArray) U) U):=fun U hU=>by
  have b:=bz.below hU bz.lt
  refine ⟨?_,?_⟩
  · exact load_col0 b hl
  · have:=load_whole b 1 (by omega)
    rwa [hws] at this
 have HUP:=Lib.hid (fun (U V:World) (hU:Below wb.heap.size wb U) (hV:Below U.heap.size U V) (bE:Blk V U.heap.size 60 #[.slice A1 n c1,.slice A2 n c2])=>by
  have hUV:=below_in hBz (below_in hU hV)
  have hm:=two_many bE ((y1.below (hUV.mono hB)).more (Nat.le_trans hB hUV.size)) ((y2.below (hUV.mono hB)).more (Nat.le_trans hB hUV.size)) bE.lt
  exact upon_any _ _ V (Nat.le_refl _) hm (by show 2≤1000;omega) (two_ok (by omega) (by omega) (by omega)))
 have hBx:=(Below.refl wb.heap.size wb).drew
 have HF:=Lib.hid (hBz.size)
 clear hl h0 hr h1c hws hwl k1 k2 g1 g2 bz n1 n2 hP hrow y1 y2
 refine (callsIn_wide (n:=9)).1 ?_
 refine callsIn_of_wp_marks Tryz.func131 rfl trivial ?_ rfl
 simp only [Tryz.ntmps131,List.size_toArray,List.length_cons,List.length_nil,Nat.reduceAdd,Nat.reduceSub,Array.replicate_succ,Array.replicate_zero,List.push_toArray,List.append_toArray,List.nil_append,List.cons_append]
 gi_wp2_with fail
 have hS:=HSS.out _ hBx
 refine wpIn_mono (region_HF (Q:=NoPanic _) (S:=(fun U:World=>LoadIs Tryz.prog 146 ⟨w.heap.size,0,none⟩ (.agg vs.toArray) U∧LoadIs Tryz.prog 144 ⟨w.heap.size,1,none⟩ (.agg ws.toArray) U)) (by kernel_rfl) ?_) NoPanic.imp
 refine tkF (i:=0) (d:=5) (v:=.pointer (some ⟨w.heap.size,1,none⟩)) (s:=hS) (c:=?_)
 simp only [ud9]
 refine anyHF_take (i:=1) (d:=6) (v:=.agg ws.toArray) (by kernel_rfl) rfl (by kernel_rfl) (by kernel_rfl) (by kernel_rfl) rfl (fun _ _ _ h=>h) ⟨Or.inl ⟨by rfl,fun w hS=>by obtain ⟨h0,h1⟩:=hS;exact exec_load rfl rfl (by first | exact h0 | exact h1)⟩,fun _=>rfl⟩ hS ?_
 simp only [ud9]
 refine tkF (i:=2) (d:=7) (v:=.int .i64 (row:Int)) (s:=hS) (c:=?_)
 simp only [ud9]
 refine tkF (i:=4) (d:=9) (v:=.pointer (some ⟨w.heap.size,1,none⟩)) (s:=hS) (c:=?_)
 simp only [ud9]
 refine anyHF_take (i:=5) (d:=10) (v:=.agg ws.toArray) (by kernel_rfl) rfl (by kernel_rfl) (by kernel_rfl) (by kernel_rfl) rfl (fun _ _ _ h=>h) ⟨Or.inl ⟨by rfl,fun w hS=>by obtain ⟨h0,h1⟩:=hS;exact exec_load rfl rfl (by first | exact h0 | exact h1)⟩,fun _=>rfl⟩ hS ?_
 simp only [ud9]
 refine anyHF_take (i:=6) (d:=11) (v:=.agg vs.toArray) (by kernel_rfl) rfl (by kernel_rfl) (by kernel_rfl) (by kernel_rfl) rfl (fun _ _ _ h=>h) ⟨Or.inl ⟨by rfl,fun w hS=>by obtain ⟨h0,h1⟩:=hS;exact exec_load rfl rfl (by first | exact h0 | exact h1)⟩,fun _=>rfl⟩ hS ?_
 simp only [ud9]
 refine oneF (i:=3) (c:=?_)
 gi_wp2_with fail
 refine ⟨trivial,(callsIn_wide.2 (HC1.out _)).mono ?_⟩
 rintro e w1 ⟨rfl,hB1⟩
 replace hBx:=below_in hBx hB1
 clear hS
 have hS:=HSS.out _ hBx
 gi_wp2
 try (refine ⟨hS,?_⟩)
 refine oneF (i:=7) (c:=?_)
 gi_wp2_with fail
 refine ⟨trivial,(callsIn_wide.2 (HLA.out w1)).mono ?_⟩
 rintro e w2 ⟨rfl,hB2⟩
 replace hBx:=below_in hBx hB2
 clear hS
 have hS:=HSS.out _ hBx
 gi_wp2
 try (refine ⟨hS,?_⟩)
 refine oneF (i:=8) (c:=?_)
 gi_wp2_with fail
 refine ⟨trivial,(callsIn_wide.2 (HC2.out w2)).mono ?_⟩
 rintro e w3 ⟨rfl,hB3⟩
 replace hBx:=below_in hBx hB3
 clear hS
 have hS:=HSS.out _ hBx
 gi_wp2
 try (refine ⟨hS,?_⟩)
 refine oneF (i:=9) (c:=?_)
 have hBe:Below w3.heap.size w3 (w3.alloc (.cells #[.slice A1 n c1,.slice A2 n c2] 60)):=below_one w3 _
 have bE:Blk (w3.alloc (.cells #[.slice A1 n c1,.slice A2 n c2] 60)) w3.heap.size 60 #[.slice A1 n c1,.slice A2 n c2]:=Blk.new w3 _ _
 obtain ⟨w4,hew4⟩:∃ x,(w3.alloc (.cells #[.slice A1 n c1,.slice A2 n c2] 60))=x:=⟨_,rfl⟩
 rw [hew4] at hBe bE
 have hup:=HUP.out w3 w4 hBx hBe bE
 replace hBx:=below_in hBx hBe
 clear hS
 have hS:=HSS.out _ hBx
 gi_wp2
 try rw [hew4]
 try (refine ⟨hS,?_⟩)
 refine oneF (i:=10) (c:=?_)
 gi_wp2_with fail
 refine ⟨trivial,(callsIn_wide.2 (hup)).mono ?_⟩
 rintro e w5 ⟨u,rfl,hF,hB5⟩
 have hszx:=hBx.size
 replace hBx:=below_in hBx hB5
 clear hS
 have hS:=HSS.out _ hBx
 gi_wp2
 try (refine ⟨hS,?_⟩)
 refine oneF (i:=11) (c:=?_)
 gi_wp2
 refine anyHF_done (by kernel_rfl) ?_ _
 refine NoPanic.normal ?_
 gi_wp2
 refine ⟨_,by simp [results,Tryz.results131,go_sem],u,rfl,fresh_more hF ?_,below_in hBz hBx⟩
 have h3:=HF.out
 omega
end Go.Proofs.YtkllhjhkcipkoaaGreatDoor.Rg

namespace Go.Proofs.YtkllhjhkcipkoaaGreatDoor.Rg
open Go.RowKit Go.Shelf Go.Proofs.YtkllhjhkcipkoaaGreatDoor.C Go.Proofs.YtkllhjhkcipkoaaGreatDoor.E

theorem wpIn_rangeActO {α:Type} {F:Fence} {n:Nat} {P:Program} {g:Operand} {ps:Array Tmp} {assign body:Code} {Q:Exit→Act→World→Prop} {a:Act} {w:World}
 (hro:F.round=none) (h1:1≤n) {gf:Nat} {lb:Array Value} (hg:a.eval g = .func (.func gf) #[] lb) (hFg:F.fn gf) (eg:∀ args w,(callFunc gf args).run P w = .ok (.enter gf args) w)
 {encs:α→Array Value} {Ok:α→World→Prop} {Kp:World→World→Prop} {S Sp:List α→Prop} {N:Nat} {w0:World} (hseq:SeqO F (n - 1) P gf lb encs Ok Kp S Sp N w0)
 (hKt:∀ {A B C:World},Kp A B→Kp B C→Kp A C) (hKb:∀ (W:World) (l:Nat) (ob:Obj),w.heap.size≤l→l<W.heap.size→(∃ r,W.heap[l]?=some (.loop r))→Kp W (W.putObj l ob)) (hb0:Below w0.heap.size w0 w) (hps:∀ x,(encs x).size=ps.size)
 (I:List α→World→Prop) (Ix:Code→List α→World→Prop) (hI:FarO w.heap.size (fun pre (o:Option Nat) W=>o=none∧I pre W)) (hIx:∀ c,FarO w.heap.size (fun pre (o:Option Nat) W=>o=none∧Ix c pre W)) (h0:I [] w)
 (act:α→Act) (Pr:α→Prop)
 (hassign:∀ (l:Nat) (pre:List α) (x:α) (W:World) (K:Act→World→Prop),w.heap.size≤W.heap.size→I pre W→Ok x W→(∀ W',Below W.heap.size W W'→Kp W W'→I pre W'→Pr x→K (act x) W') →
  assign.wpIn (F.inRound l) (n - 1 - 1) P (Exit.then K (fun _ _ _=>False)) { tmps:=(ps.zip (encs x)).foldl (fun t (p,v)=>t.setIfInBounds p v) a.tmps,defers:=[] } W)
 (hbody:∀ (l:Nat) (pre:List α) (x:α) (W:World),w.heap.size≤W.heap.size→I pre W→Pr x→pre.length<N →
  body.wpIn (F.inRound l) (n - 1 - 1) P (postO w.heap.size Kp (fun pre o W=>o=none∧I pre W) (fun c pre o W=>o=none∧Ix c pre W) (pre ++ [x]) none W) (act x) W)
 (hdone:∀ (D:Nat) (xs:List α) (W:World),w.heap.size≤D→S xs→I xs W→W.heap[D]?=some (.deferred (some []))→Q .normal { a with defers:={ target:=.collected D,args:=#[] } :: a.defers } W)
 (hstop:∀ (D:Nat) (c:Code) (pre:List α) (W:World),w.heap.size≤D→Sp pre→Ix c pre W→W.heap[D]?=some (.deferred (some []))→c.wpIn F n P Q { a with defers:={ target:=.collected D,args:=#[] } :: a.defers } W) :
 (Code.rangeFunc g ps assign body).wpIn F n P Q a w :=
 wpIn_rangeO hro h1 hg hFg eg hseq hKt hKb hb0 hps _ _ hI hIx none (fun _ h=>by cases h) ⟨rfl,h0⟩ (fun x o a' W=>Pr x∧a'=act x)
  (fun x o a' W l ob r hl h=>h)
  (fun l pre x o W K hs hol hi hok hK=>by
   obtain ⟨rfl,hi⟩:=hi
   exact hassign l pre x W K hs hi hok fun W' hb hk hi2 hp=>hK _ _ (SinceO.below hb) hk ⟨rfl,hi2⟩ ⟨hp,rfl⟩)
  (fun pre o W h=>by obtain ⟨rfl,_⟩:=h;exact rowO_none W) (fun c pre o W h=>by obtain ⟨rfl,_⟩:=h;exact rowO_none W)
  (fun l pre x o a' W hs hi ⟨hp,e⟩ hlt=>by
   obtain ⟨rfl,hi⟩:=hi
   subst e
   exact hbody l pre x W hs hi hp hlt)
  (fun D xs o W hD _ hs hi hK _=>hdone D xs W hD hs hi.2 hK) (fun D c pre o W hD _ hs hi hK _=>hstop D c pre W hD hs hi.2 hK)
def Only (A:Nat→Prop) (X Y:World):Prop:=X.heap.size≤Y.heap.size∧∀ b,b<X.heap.size→¬ A b→Y.heap[b]?=X.heap[b]?
section
variable {A:Nat→Prop} {X Y Z:World} {B:Nat}
theorem Only.refl (A:Nat→Prop) (X:World):Only A X X:=⟨Nat.le_refl _,fun _ _ _=>rfl⟩
theorem Only.trans (h:Only A X Y) (k:Only A Y Z):Only A X Z:=⟨Nat.le_trans h.1 k.1,fun b hb hn=>(k.2 b (Nat.lt_of_lt_of_le hb h.1) hn).trans (h.2 b hb hn)⟩
theorem Only.below (h:Below X.heap.size X Y):Only A X Y:=⟨h.size,fun b hb _=>h.block b hb⟩
theorem Only.set {p:Addr} (hp:A p.block) (v:Value):Only A X (X.setCell p v):=⟨by simp,fun b _ hn=>Below.heap_setCell X p v b (fun e=>hn (by rw [e];exact hp))⟩
theorem Only.row {g:Nat} (hg:A g) (cs:Array Value):Only A X (X.setRow g cs):=⟨by simp [World.setRow],fun b _ hn=>setRow_other X g b cs (fun e=>hn (by rw [e];exact hg))⟩
theorem Only.imp {A':Nat→Prop} (h:Only A X Y) (hA:∀ b,A b→A' b):Only A' X Y:=⟨h.1,fun b hb hn=>h.2 b hb (fun e=>hn (hA b e))⟩
theorem Only.blk (h:Only A X Y) {g:Nat} {t:TypeId} {cs:Array Value} (hb:Blk X g t cs) (hn:¬ A g):Blk Y g t cs:=(h.2 g hb.lt hn).trans hb
theorem Only.since (h:Only A X Y) (hA:∀ b,A b→b<B):SinceO B none X Y:=⟨h.1,fun b h1 h2 _=>h.2 b h2 (fun e=>by have:=hA b e;omega)⟩
theorem Only.keep (h:Only A X Y) {lo k:Nat} (hk:lo+k≤X.heap.size) (hA:∀ b,A b→b<lo):Keep lo k X Y:=⟨h.1,fun b h1 h2=>h.2 b (by omega) (fun e=>by have:=hA b e;omega)⟩
end
def mvL (vs:List Value):List Value→Nat→List Int→List Value
 | us,_,[]=>us
 | us,k,x :: xs=>mvL vs (us.set (x.toNat+1) (vs[k+1]?.getD undef)) (k+1) xs
theorem mvL_snoc (vs:List Value) (x:Int):∀ (xs:List Int) (us:List Value) (k:Nat),mvL vs us k (xs ++ [x])=(mvL vs us k xs).set (x.toNat+1) (vs[k+xs.length+1]?.getD undef)
 | [],us,k=>rfl
 | y :: ys,us,k=>by
   rw [List.cons_append,mvL,mvL,mvL_snoc vs x ys,List.length_cons]
   rw [show k+1+ys.length+1=k+(ys.length+1)+1 by omega]
theorem mvL_len (vs:List Value):∀ (xs:List Int) (us:List Value) (k:Nat),(mvL vs us k xs).length=us.length
 | [],us,k=>rfl
 | y :: ys,us,k=>by rw [mvL,mvL_len vs ys,List.length_set]
theorem mvL_zero (vs:List Value):∀ (xs:List Int) (us:List Value) (k:Nat),(mvL vs us k xs)[0]?=us[0]?
 | [],us,k=>rfl
 | y :: ys,us,k=>by rw [mvL,mvL_zero vs ys,List.getElem?_set_ne (by omega)]
theorem mvL_other (vs:List Value) (r:Nat):∀ (xs:List Int) (us:List Value) (k:Nat),(∀ x∈xs,x.toNat≠r)→(mvL vs us k xs)[r+1]?=us[r+1]?
 | [],us,k,_=>rfl
 | y :: ys,us,k,h=>by
   rw [mvL,mvL_other vs r ys _ _ (fun x hx=>h x (.tail _ hx)),List.getElem?_set_ne (by have:=h y (.head _);omega)]
theorem mvL_at (vs:List Value) (r:Nat):∀ (xs:List Int) (us:List Value) (k j:Nat),(∀ x∈xs,0≤x∧x.toNat+1<us.length)→xs.Nodup→xs[j]?=some (r:Int)→(mvL vs us k xs)[r+1]?=some (vs[k+j+1]?.getD undef)
 | [],us,k,j,_,_,h=>by simp at h
 | y :: ys,us,k,0,hb,hn,h=>by
   have e:y=(r:Int):=by simpa using h
   subst e
   have h1:=List.nodup_cons.1 hn
   rw [mvL,mvL_other vs r ys _ _ (fun x hx e=>h1.1 (by
    have:=(hb x (.tail _ hx)).1
    rw [show (r:Int)=x by omega]
    exact hx)),Int.toNat_natCast,List.getElem?_set_self (by have:=(hb (r:Int) (.head _)).2;omega)]
 | y :: ys,us,k,j+1,hb,hn,h=>by
   have h1:=List.nodup_cons.1 hn
   rw [mvL,mvL_at vs r ys _ (k+1) j (fun x hx=>by rw [List.length_set];exact hb x (.tail _ hx)) h1.2 (by simpa using h)]
   rw [show k+1+j+1=k+(j+1)+1 by omega]
theorem mvL_one (vs:List Value) (hv:∀ v∈vs,v.oneCell'=true):∀ (xs:List Int) (us:List Value) (k:Nat),k+xs.length<vs.length→(∀ v∈us,v.oneCell'=true)→∀ v∈mvL vs us k xs,v.oneCell'=true
 | [],us,k,_,h=>h
 | y :: ys,us,k,hk,h=>by
   rw [mvL]
   rw [List.length_cons] at hk
   refine mvL_one vs hv ys _ _ (by omega) fun v hm=>?_
   rcases List.mem_or_eq_of_mem_set hm with h1 | rfl
   · exact h _ h1
   · rw [List.getElem?_eq_getElem (by omega)]
     exact hv _ (List.getElem_mem _)
end Go.Proofs.YtkllhjhkcipkoaaGreatDoor.Rg

namespace Go.Proofs.YtkllhjhkcipkoaaGreatDoor.Rg
open Go.RowKit Go.Shelf Go.Proofs.YtkllhjhkcipkoaaGreatDoor.C Go.Proofs.YtkllhjhkcipkoaaGreatDoor.E

theorem mul_in (p a b:Int):a % p * b % p=a * b % p:=by
 rw [Int.mul_emod,Int.emod_emod_of_dvd _ (Int.dvd_refl p),←Int.mul_emod]
theorem add_in (p a b:Int):(a+b % p) % p=(a+b) % p:=by
 rw [Int.add_emod,Int.emod_emod_of_dvd _ (Int.dvd_refl p),←Int.add_emod]
theorem mul_back (p s i a:Int) (h:s * i % p=1):a * s % p * i % p=a % p:=by
 rw [mul_in,Int.mul_assoc,Int.mul_comm,←mul_in,h,Int.one_mul]
theorem mul_back' (p s i a:Int) (h:s * i % p=1):a * i % p * s % p=a % p:=mul_back p i s a (by rw [Int.mul_comm];exact h)

theorem walk_inj (p:Nat) (x s i:Int) (h:s * i % (p:Int)=1) {k k':Nat} (hk:k<p) (hk':k'<p) (e:walkAt p x s k=walkAt p x s k'):k=k':=by
 unfold walkAt at e
 have e2:((k:Int) * s) % (p:Int)=((k':Int) * s) % (p:Int):=by
  rw [Int.emod_eq_emod_iff_emod_sub_eq_zero] at e ⊢
  rw [show x+(k:Int) * s - (x+(k':Int) * s)=(k:Int) * s - (k':Int) * s by omega] at e
  exact e
 have e3:=congrArg (fun z=>z * i % (p:Int)) e2
 simp only [mul_back _ _ _ _ h] at e3
 rw [Int.emod_eq_of_lt (by omega) (by omega),Int.emod_eq_of_lt (by omega) (by omega)] at e3
 omega
theorem walk_nodup (p:Nat) (x s i:Int) (h:s * i % (p:Int)=1):(walkL p x s).Nodup:=by
 unfold walkL List.Nodup
 rw [List.pairwise_map]
 refine List.Pairwise.imp_of_mem ?_ (List.pairwise_lt_range (n:=p))
 intro a b ha hb hlt e
 have:=walk_inj p x s i h (List.mem_range.1 ha) (List.mem_range.1 hb) e
 omega
theorem walk_in (p:Nat) (hp:0<p) (x s:Int):∀ z∈walkL p x s,0≤z∧z<p:=by
 intro z hz
 unfold walkL at hz
 obtain ⟨k,_,rfl⟩:=List.mem_map.1 hz
 exact walkAt_lt p hp x s k

theorem walk_comes (p:Nat) (hp:0<p) (x y s i:Int) (h:s * i % (p:Int)=1) (y0:0≤y) (y1:y<p):walkAt p x s ((y - x) % (p:Int) * i % (p:Int)).toNat=y:=by
 have h0:=Int.emod_nonneg ((y - x) % (p:Int) * i) (show (p:Int)≠0 by omega)
 unfold walkAt
 rw [Int.toNat_of_nonneg h0,←add_in,mul_back' _ _ _ _ h,add_in,add_in,show x+(y - x)=y by omega,Int.emod_eq_of_lt y0 y1]

theorem inv_fact:∀ p∈prm,∀ m∈List.range 17,(m:Int)<p→m≠0→∃ i∈List.range 17,(i:Int)<p∧(m:Int) * (i:Int) % p=1:=by decide +kernel
theorem inv_ex (p:Int) (hp:p∈prm) (m:Int) (h0:0≤m) (hm:m<p) (hne:m≠0):∃ i:Int,0≤i∧i<p∧m * i % p=1:=by
 have hb:=prm_bounds hp
 obtain ⟨n,rfl⟩:∃ n:Nat,m=(n:Int):=⟨m.toNat,by omega⟩
 obtain ⟨i,_,h1,h2⟩:=inv_fact p hp n (List.mem_range.2 (by omega)) hm (by omega)
 exact ⟨i,by omega,h1,h2⟩
end Go.Proofs.YtkllhjhkcipkoaaGreatDoor.Rg
