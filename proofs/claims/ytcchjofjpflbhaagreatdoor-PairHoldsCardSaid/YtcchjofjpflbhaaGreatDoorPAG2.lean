/- -/
import Derived.Lib.AppendZeros
import Derived.Laws.OwnMore
import Derived.Test.YtcchjofjpflbhaaGreatDoorPAG1
set_option linter.unusedVariables false
set_option linter.unusedSimpArgs false
set_option maxRecDepth 100000
set_option maxHeartbeats 2000000
namespace Go.Proofs.YtcchjofjpflbhaaGreatDoor.E
open Go.RowKit Go.Shelf Go.Proofs.YtcchjofjpflbhaaGreatDoor.C

def rowOf (css:List (List (List UInt8))) (r:Nat):List (List UInt8):=css.map fun cs=>cs[r]?.getD []
theorem rowOf_len (css:List (List (List UInt8))) (r:Nat):(rowOf css r).length=css.length:=by unfold rowOf;simp
theorem rowOf_at (css:List (List (List UInt8))) (r j:Nat) (hj:j<css.length):(rowOf css r)[j]?.getD []=(css[j]?.getD [])[r]?.getD []:=by
 unfold rowOf
 rw [List.getElem?_map,List.getElem?_eq_getElem hj]
 rfl

theorem row1_any {B:Nat} (p:Int) (R r n:Nat) (css:List (List (List UInt8))) (v:Value) (g0 g1:Nat) (W:World) (hC:Cols B W v css) (hn:n<css.length) (hr:r<R) (hR:R≤16) (hlen:css.length≤1000) (hrow:∀ j,j<css.length→(css[j]?.getD []).length=R)
 (b0:Blk W g0 208 #[.int .i64 p,v]) (b1:Blk W g1 3 #[.int .i64 (r:Int)]) :
 Calls Tryz.prog 266 #[.int .i64 (n:Int),.pointer (some ⟨g0,0,none⟩),.pointer (some ⟨g1,0,none⟩)] W fun e w'=>∃ u,e = .returned u∧Bytes B w' u ((css[n]?.getD [])[r]?.getD [])∧Below W.heap.size W w':=by
 obtain ⟨bb,off,cap,rfl,hcap,hbb,hcell⟩:=hC.at_ (by omega)
 obtain ⟨u,hu,hm⟩:=hcell n hn
 have hl:=hrow n hn
 obtain ⟨Au,capu,rfl,_,_⟩:=id hm
 obtain ⟨b2,off2,rfl,hb2,hrow2⟩:=many_at hm (by omega)
 obtain ⟨A3,cp3,hc3,hB3⟩:=hrow2 r (by omega)
 rw [hl] at hu
 have c0:=b0.cell 0
 have c1:=b0.cell 1
 have d0:=b1.cell 0
 simp only [gz9] at c0 c1 d0
 have i1:(0:Int)≤(n:Int):=by omega
 have i2:(n:Int)<(css.length:Int):=by omega
 have j1:(0:Int)≤(r:Int):=by omega
 have j2:(r:Int)<(R:Int):=by omega
 clear hrow2 hcell hC hl hrow hm
 generalize ((css[n]?.getD [])[r]?.getD [])=ce at *
 go_enter Tryz.func266,Tryz.ntmps266
 go_wp2
 go_region_held3 (fun U=>U.cell? ⟨g0,1,none⟩=some (.slice (some ⟨bb,off,none⟩) css.length cap)∧U.cell? ⟨bb,off+n,none⟩=some (.slice (some ⟨b2,off2,none⟩) R capu)∧U.cell? ⟨g1,0,none⟩=some (.int .i64 (r:Int))∧U.cell? ⟨b2,off2+r,none⟩=some (.slice A3 ce.length cp3))
  (exact ⟨c1,hu,d0,hc3⟩) (fail)
 all_goals go_wp2
 all_goals go_ret
 all_goals exact ⟨.slice A3 ce.length cp3,rfl,hB3.below (Below.refl _ _).drew,(Below.refl _ _).drew⟩
theorem row_any {B:Nat} (p:Int) (R r:Nat) (css:List (List (List UInt8))) (v:Value) (w:World) (hB:B≤w.heap.size) (hC:Cols B w v css) (hr:r<R) (hR:R≤16) (hlen:css.length≤1000) (hrow:∀ j,j<css.length→(css[j]?.getD []).length=R) :
 Calls Tryz.prog 229 #[.agg #[.int .i64 p,v],.int .i64 (r:Int)] w fun e w'=>∃ u,e = .returned u∧Many w'.heap.size w' u (rowOf css r)∧Below w.heap.size w w':=by
 obtain ⟨W2,hW2⟩:∃ W2,(w.alloc (.cells #[.int .i64 p,v] 208)).alloc (.cells #[.int .i64 (r:Int)] 3)=W2:=⟨_,rfl⟩
 have b0:Blk W2 w.heap.size 208 #[.int .i64 p,v]:=by rw [←hW2];exact (Blk.new w _ _).alloc _
 have b1:Blk W2 (w.heap.size+1) 3 #[.int .i64 (r:Int)]:=by rw [←hW2];exact Blk.second w _ _ _
 have hB2:Below w.heap.size w W2:=by rw [←hW2];exact below_two w _ _
 have HL:=Lib.hid (listed_any 266 #[.pointer (some ⟨w.heap.size,0,none⟩),.pointer (some ⟨w.heap.size+1,0,none⟩)] (rowOf css r) W2 (by rw [rowOf_len];exact hlen) ⟨enters_of Tryz.func266 (by kernel_rfl) rfl,fun n W hn hBW=>by
  rw [rowOf_len] at hn
  rw [rowOf_at css r n hn]
  refine (row1_any p R r n css v w.heap.size (w.heap.size+1) W (hC.below ((hB2.trans (hBW.mono hB2.size)).mono hB)) hn hr hR hlen hrow (b0.below hBW b0.lt) (b1.below hBW b1.lt)).mono ?_
  rintro e w' ⟨u,rfl,hu,hBq⟩
  have hs3:=hBq.size
  have hs:=hB2.size
  have hs2:=hBW.size
  exact ⟨u,rfl,BytesP.imp (Bytes.toP hu) (fun b hb=>⟨.inl (by have h0:b<B:=hb;omega),by have h0:b<B:=hb;omega⟩),hBq⟩⟩)
 rw [rowOf_len] at HL
 obtain ⟨A,cap,rfl,_,_⟩:=id hC
 have c0:=b0.cell 0
 have c1:=b0.cell 1
 simp only [gz9] at c0 c1
 clear hC hrow
 go_enter Tryz.func229,Tryz.ntmps229
 go_wp2_with (go_at_call 226;refine HL.out.mono ?_;rintro e w1 ⟨u,rfl,hm,hB1⟩)
 go_ret
 exact ⟨_,rfl,hm,below_in hB2 hB1⟩
end Go.Proofs.YtcchjofjpflbhaaGreatDoor.E

namespace Go.Proofs.YtcchjofjpflbhaaGreatDoor.E
open Go.RowKit Go.Shelf Go.Proofs.YtcchjofjpflbhaaGreatDoor.C

def Vals (B:Nat) (W:World) (v:Value) (us:List Value):Prop :=
 (v = .slice none 0 0∧us = [])∨∃ b off cap,v = .slice (some ⟨b,off,none⟩) us.length cap∧us.length≤cap∧b<B∧∀ (j:Nat) (u:Value),us[j]?=some u→W.cell? ⟨b,off+j,none⟩=some u
theorem Vals.below {B:Nat} {W W':World} {v:Value} {us:List Value} (h:Vals B W v us) (hb:Below B W W'):Vals B W' v us :=
 h.imp id fun ⟨b,off,cap,e,hc,hlt,hcell⟩=>⟨b,off,cap,e,hc,hlt,fun j u hu=>(hb.cell (p:=⟨b,off+j,none⟩) hlt).trans (hcell j u hu)⟩
theorem Vals.len {B:Nat} {W:World} {v:Value} {us:List Value} (h:Vals B W v us):∃ A cap,v = .slice A us.length cap:=by
 rcases h with ⟨rfl,rfl⟩ | ⟨b,off,cap,e,_⟩
 · exact ⟨none,0,rfl⟩
 · exact ⟨_,cap,e⟩
def OwnS (w:World) (base:Nat) (v:Value) (us:List Value):Prop:=w.ownsRow base 64 1 v us.length us
theorem ownS_nil (w:World) (base:Nat):OwnS w base (.slice none 0 0) []:=World.ownsRow_nil w base _ 1
theorem wpList_zerosS (w:World) {ops:Array Oper} {rest:List Oper} {o:Oper} {a:Act} {Q:Exit→Act→World→Prop} (hgd:o.guard=none) (s x:Operand)
 (ho:o.op = .call { callee:=.builtin .append,args:=#[s,x],argTypes:=#[49,3] }) (n:Nat) (h0:0<n) (hn:n≤1000000)
 (hs:a.eval s = .slice none 0 0) (hx:a.eval x = .int .i64 (n:Int))
 (h:∀ c w',OwnS w' w.heap.size (.slice (some ⟨w.heap.size,0,none⟩) 0 c) []→Below w.heap.size w w'→n≤c→wpList Tryz.prog ops Q rest (a.put o.dst (.slice (some ⟨w.heap.size,0,none⟩) n c)) w'):wpList Tryz.prog ops Q (o :: rest) a w :=
 wpList_plain hgd fun K hK=>by
  obtain ⟨i0,hi,hz0,hz1,hz2⟩:=info_parts Tryz.infoSlcE
  have hrun:=Lib.run_append_nil_zeros (P:=Tryz.prog) w 49 3 o.type 64 i0 (.slice none 0 0) .i64 .i64 Tryz.underlying49 Tryz.underlying3 hi hz0 n h0 (by omega) (by omega) (by rw [hz2];omega)
  have hge:=grownCap_ge w n 0 64
  have hle:=grownCap_le_maxLen w n 0 64 (by unfold maxLen;omega)
  generalize grownCap w n 0 64=c at *
  have hsz:(Builtin.zeroCells (Value.slice none 0 0).cells n ++ Builtin.zeroCells (Value.slice none 0 0).cells (c - n)).size=c * 1:=by
   rw [Array.size_append,show (Value.slice none 0 0).cells=#[.slice none 0 0] from rfl,size_zeroCells,size_zeroCells];simp;omega
  generalize Builtin.zeroCells (Value.slice none 0 0).cells n ++ Builtin.zeroCells (Value.slice none 0 0).cells (c - n)=cs at *
  unfold Oper.wp execOp
  simp only [ho,resolve,invoke,builtin,Sem.run_bind,Sem.run_pure,Result.andThen_ok,List.map_toArray,List.map_cons,List.map_nil,hs,hx,hrun]
  exact hK _ _ (h c _ (World.ownsRow_made w.drew cs c (Nat.le_refl _) hle hsz) ((Below.refl w.heap.size w).drew.alloc (Nat.le_refl _) _) hge)

theorem growS_any (n:Nat) (hn:n≤1000000) (w:World) :
 Calls Tryz.prog 286 #[.slice none 0 0,.int .i64 (n:Int)] w fun e w'=>∃ v,e = .returned v∧OwnS w' w.heap.size v []∧Below w.heap.size w w':=by
 by_cases h0:n=0
 · subst h0
   go_enter Tryz.func286,Tryz.ntmps286
   go_wp2
   go_ret
   exact ⟨_,rfl,ownS_nil _ _,Below.refl _ _⟩
 · have hp:0<n:=by omega
   have d1:decide ((n:Int)<0)=false:=by simp
   have d2:decide (0<(n:Int))=true:=by simp;omega
   go_enter Tryz.func286,Tryz.ntmps286
   go_wp2_with (at_builtin;refine wpList_zerosS _ rfl _ _ rfl n hp hn rfl rfl ?_;intro c w1 hown hB1 hc)
   go_ret
   exact ⟨_,rfl,hown,hB1⟩
theorem wpList_vals (w:World) {ops:Array Oper} {rest:List Oper} {o:Oper} {a:Act} {Q:Exit→Act→World→Prop} (hgd:o.guard=none) (s x:Operand)
 (ho:o.op = .call { callee:=.builtin .append,args:=#[s,x],argTypes:=#[49,49] })
 (base:Nat) (v:Value) (l:List Value) (hs:a.eval s=v) (hown:OwnS w base v l) (B2:Nat) (v2:Value) (us:List Value) (hx:a.eval x=v2) (hv2:Vals B2 w v2 us) (hone:∀ u∈us,u.oneCell'=true) (hlen:l.length≤100000) (hlen2:us.length≤100000) (hbase:base≤w.heap.size)
 (h:∀ v' w',OwnS w' base v' (l ++ us)→w.grownBy w' v.ownBlock→wpList Tryz.prog ops Q rest (a.put o.dst v') w'):wpList Tryz.prog ops Q (o :: rest) a w :=
 wpList_plain hgd fun K hK=>by
  obtain ⟨i,hi,hz0,hz1,hz2⟩:=info_parts Tryz.infoSlcE
  rcases hv2 with ⟨rfl,rfl⟩ | ⟨b,off,cap,rfl,hc,hb,hcell⟩
  · rw [List.append_nil] at h
    have hrun:=run_append_owned_none (P:=Tryz.prog) (w:=w) base 49 o.type 64 i 1 Tryz.underlying49 hi v l.length l hown
    unfold Oper.wp execOp
    simp only [ho,resolve,invoke,builtin,Sem.run_bind,Sem.run_pure,Result.andThen_ok,List.map_toArray,List.map_cons,List.map_nil,hs,hx,hrun]
    exact hK _ _ (h v w hown (World.grownBy.refl _ _))
  · obtain ⟨v',w',hrun,r1,r2,_,r3⟩:=run_append_own_at (P:=Tryz.prog) w base 49 o.type 64 i (.slice none 0 0) 1 24 Tryz.underlying49 hi hz0 hz1 hz2 rfl (by omega) v l.length l hown ⟨b,off,none⟩ us.length cap us (by omega)
     (by intro j u hu;rw [addr_add];exact hcell j u hu) hone (by unfold maxLen;omega) (by omega) hbase
    unfold Oper.wp execOp
    simp only [ho,resolve,invoke,builtin,Sem.run_bind,Sem.run_pure,Result.andThen_ok,List.map_toArray,List.map_cons,List.map_nil,hs,hx,hrun]
    exact hK _ _ (h v' w' (by unfold OwnS;rw [List.length_append];exact r1) r2)
end Go.Proofs.YtcchjofjpflbhaaGreatDoor.E

namespace Go.Proofs.YtcchjofjpflbhaaGreatDoor.E
open Go.RowKit Go.Shelf Go.Proofs.YtcchjofjpflbhaaGreatDoor.C

theorem flat_nextV (ls:List (List Value)) (k:Nat) (hk:k<ls.length):(ls.take (k+1)).flatten=(ls.take k).flatten ++ (ls[k]?.getD []):=by
 rw [List.take_succ_eq_append_getElem hk,List.flatten_append,List.getElem?_eq_getElem hk];simp
theorem flat_leV (ls:List (List Value)) (k:Nat):(ls.take k).flatten.length≤ls.flatten.length:=by
 have e:ls.flatten=(ls.take k).flatten ++ (ls.drop k).flatten:=by rw [←List.flatten_append,List.take_append_drop]
 rw [e,List.length_append];omega

theorem concatS_any (b off cap:Nat) (uss:List (List Value)) (hls:uss.length≤1000) (htot:uss.flatten.length≤100000) (hone:∀ us∈uss,∀ u∈us,u.oneCell'=true) (w:World) {B:Nat} (hB:B≤w.heap.size) (hb:b<w.heap.size)
 (hcell:∀ j,j<uss.length→∃ s,w.cell? ⟨b,off+j,none⟩=some s∧Vals B w s (uss[j]?.getD [])) :
 Calls Tryz.prog 263 #[.slice (some ⟨b,off,none⟩) uss.length cap] w fun e w'=>∃ v',e = .returned v'∧OwnS w' w.heap.size v' uss.flatten∧Below w.heap.size w w':=by
 have HCE:=Lib.hid hcell
 clear hcell
 have HON:Hid (∀ j,j<uss.length→∀ u∈uss[j]?.getD [],u.oneCell'=true):=fun j hj u hu=>hone (uss[j]?.getD []) (by rw [List.getElem?_eq_getElem hj];exact List.getElem_mem hj) u hu
 clear hone
 go_enter Tryz.func263,Tryz.ntmps263
 go_wp2_with fail
 go_loop [3,11] (fun s i=>∃ k:Nat,k≤uss.length∧i = .int .i64 k∧s = .int .i64 ((uss.take k).flatten.length:Int)) (fun _ i=>uss.length - (intOf i).toNat)
 case atStart=>exact ⟨0,Nat.zero_le _,rfl,rfl⟩
 case round =>
  obtain ⟨k,hk,rfl,rfl⟩:=hrel
  by_cases hlt:k<uss.length
  · have hdec:decide ((k:Int)<(uss.length:Int))=true:=by simp;omega
    obtain ⟨sv,hc,hv⟩:=HCE.out k hlt
    obtain ⟨A1,cp,rfl⟩:=hv.len
    have HF:Hid ((uss.take (k+1)).flatten.length=(uss.take k).flatten.length+(uss[k]?.getD []).length):=by
     unfold Hid;rw [flat_nextV uss k hlt,List.length_append]
    have hle:=flat_leV uss (k+1)
    rw [HF.out] at hle
    clear hv
    generalize (uss[k]?.getD []).length=m at hc HF hle
    generalize (uss.take k).flatten.length=s at HF hle
    have d1:decide (((s:Int)+(m:Int))<0)=false:=by simp;omega
    go_wp2
    go_round
    case rel=>exact ⟨k+1,by omega,by go_num,by rw [HF.out];go_num⟩
    case measure=>simp [intOf];omega
  · obtain rfl:k=uss.length:=by omega
    have e1:decide ((uss.length:Int)<(uss.length:Int))=false:=by simp
    rw [List.take_length]
    have HT:=Lib.hid htot
    have HLE:=Lib.hid (fun k=>flat_leV uss k)
    generalize uss.flatten.length=T at HT HLE htot
    have HG:=Lib.hid (growS_any T (by omega) w)
    go_wp2_with (go_at_call 286;refine HG.out.mono ?_;rintro e w1 ⟨v1,rfl,hown1,hB1⟩)
    go_loopw [6,27] (fun v i wr=>∃ k:Nat,k≤uss.length∧i = .int .i64 k∧OwnS wr w.heap.size v (uss.take k).flatten∧Below w.heap.size w wr) (fun _ i _=>uss.length - (intOf i).toNat)
    case atStart=>exact ⟨0,Nat.zero_le _,rfl,hown1,hB1⟩
    case round =>
     obtain ⟨k,hk,rfl,hown,hBr⟩:=hrel
     by_cases hlt:k<uss.length
     · have hdec:decide ((k:Int)<(uss.length:Int))=true:=by simp;omega
       obtain ⟨sv,hc,hv⟩:=HCE.out k hlt
       have hon:=HON.out k hlt
       have hc1:=(hBr.cell (p:=⟨b,off+k,none⟩) hb).trans hc
       have hv1:=hv.below (hBr.mono hB)
       have HF:=Lib.hid (flat_nextV uss k hlt)
       have hle:=HLE.out (k+1)
       rw [HF.out,List.length_append] at hle
       obtain ⟨A1,cp,rfl⟩:=hv.len
       clear hc hv
       generalize uss[k]?.getD []=r at hc1 hv1 HF hle hon
       generalize (uss.take k).flatten=p at HF hle hown
       have HO:=Lib.hid hown
       have HV:=Lib.hid hv1
       clear hown hv1
       go_wp2_with (at_builtin;refine wpList_vals _ rfl _ _ rfl w.heap.size _ p rfl HO.out B _ r rfl HV.out hon (by have:=HT.out;omega) (by have:=HT.out;omega) hBr.size ?_;intro v' w2 hown2 hgrow2)
       go_roundw
       case rel=>exact ⟨k+1,by omega,by go_num,by rw [HF.out];exact hown2,below_grown hBr hgrow2 hBr.size (fun g e=>(World.ownsRow.lt HO.out g e).1)⟩
       case measure=>simp [intOf];omega
     · obtain rfl:k=uss.length:=by omega
       have e1:decide ((uss.length:Int)<(uss.length:Int))=false:=by simp
       rw [List.take_length] at hown
       go_wp2
       go_ret
       exact ⟨_,rfl,hown,hBr⟩
end Go.Proofs.YtcchjofjpflbhaaGreatDoor.E

namespace Go.Proofs.YtcchjofjpflbhaaGreatDoor.E
open Go.RowKit Go.Shelf Go.Proofs.YtcchjofjpflbhaaGreatDoor.C

def ManyV (B:Nat) (W:World) (v:Value) (us:List Value) (ls:List (List UInt8)):Prop:=us.length=ls.length∧Vals B W v us∧∀ (j:Nat) (u:Value),us[j]?=some u→Bytes B W u (ls[j]?.getD [])
theorem ManyV.below {B:Nat} {W W':World} {v:Value} {us:List Value} {ls:List (List UInt8)} (h:ManyV B W v us ls) (hb:Below B W W'):ManyV B W' v us ls:=⟨h.1,h.2.1.below hb,fun j u hu=>(h.2.2 j u hu).below hb⟩
theorem ManyV.one {B:Nat} {W:World} {v:Value} {us:List Value} {ls:List (List UInt8)} (h:ManyV B W v us ls):∀ u∈us,u.oneCell'=true:=fun u hu=>by
 obtain ⟨j,hj⟩:=List.getElem?_of_mem hu
 obtain ⟨A,cap,rfl,_⟩:=h.2.2 j u hj
 rfl
theorem Many.vals {B:Nat} {W:World} {v:Value} {ls:List (List UInt8)} (h:Many B W v ls) (h0:0<ls.length):∃ us,ManyV B W v us ls:=by
 obtain ⟨A,cap,rfl,hc,hA⟩:=h
 obtain ⟨b,off,rfl,hb,hr⟩:=hA h0
 refine ⟨(List.range ls.length).map fun j=>(W.cell? ⟨b,off+j,none⟩).getD undef,by simp,.inr ⟨b,off,cap,by simp,by simpa using hc,hb,fun j u hu=>?_⟩,fun j u hu=>?_⟩
 all_goals
  rw [List.getElem?_map] at hu
  rcases Nat.lt_or_ge j ls.length with hj | hj
  · rw [List.getElem?_range hj] at hu
    obtain ⟨u2,h1,h2⟩:=hr j hj
    simp only [Option.map_some,h1,Option.getD_some,Option.some.injEq] at hu
    subst hu
    first | exact h1 | exact h2
  · rw [List.getElem?_eq_none (by simpa using hj)] at hu
    cases hu
theorem OwnS.many {B base:Nat} {W:World} {v:Value} {us:List Value} {ls:List (List UInt8)} (h:OwnS W base v us) (hn:us.length=ls.length) (h0:0<us.length) (hb:∀ (j:Nat) (u:Value),us[j]?=some u→Bytes B W u (ls[j]?.getD [])) (hB:B≤W.heap.size):Many W.heap.size W v ls:=by
 have hcp:∀ g cap,v = .slice (some ⟨g,0,none⟩) us.length cap→us.length≤cap:=fun g cap e=>by
  rcases h.2 with ⟨_,h1⟩ | ⟨g2,cap2,cur,e2,_,_,hnc,_⟩
  · omega
  · rw [e] at e2
    injection e2 with _ _ e3
    omega
 obtain ⟨g,cap,e,hg,hg1⟩:=World.ownsRow.form h h0
 have hcap:=hcp g cap e
 subst e
 refine ⟨_,cap,by rw [hn],by rw [←hn];exact hcap,fun _=>⟨g,0,rfl,by omega,fun j hj=>?_⟩⟩
 have hj2:j<us.length:=by omega
 refine ⟨us[j],?_,(hb j us[j] (List.getElem?_eq_getElem hj2)).more hB⟩
 rw [Nat.zero_add,World.ownsRow.cellAt h j (by omega),List.getElem?_eq_getElem hj2]

theorem upon1_yes {B:Nat} (vh vl:Value) (ush usl:List Value) (hls ls:List (List UInt8)) (gh:Nat) (w:World) (hB:B≤w.heap.size) (b0:Blk w gh 49 #[vh]) (hh:ManyV B w vh ush hls) (hl:ManyV B w vl usl ls) (hn:hls.length≤100) (hn2:ls.length≤100) (hok:XorOk (hls ++ ls)) :
 Calls Tryz.prog 261 #[vl,.pointer (some ⟨gh,0,none⟩)] w fun e w'=>∃ u,e = .returned u∧Fresh w.heap.size w' u (xorOf (hls ++ ls))∧Below w.heap.size w w':=by
 have c0:=b0.one
 obtain ⟨Ah,caph,rfl⟩:=hh.2.1.len
 obtain ⟨Al,capl,rfl⟩:=hl.2.1.len
 have hBz:=below_one w (.cells #[.slice Ah ush.length caph,.slice Al usl.length capl] 49)
 have bz:=Blk.new w 49 #[.slice Ah ush.length caph,.slice Al usl.length capl]
 have hlu:ush.length=hls.length:=hh.1
 have hlv:usl.length=ls.length:=hl.1
 have HCO:=Lib.hid (concatS_any w.heap.size 0 2 [ush,usl] (by simp) (by simp;omega) (fun us hus=>by
  rcases List.mem_cons.1 hus with rfl | hus
  · exact hh.one
  · rcases List.mem_cons.1 hus with rfl | hus
    · exact hl.one
    · cases hus) _ (B:=B) (Nat.le_trans hB hBz.size) bz.lt (fun j hj=>by
  have hj2:j=0∨j=1:=by simp at hj;omega
  rcases hj2 with rfl | rfl
  · exact ⟨_,bz.cell 0,(hh.below (hBz.mono hB)).2.1⟩
  · exact ⟨_,bz.cell 1,(hl.below (hBz.mono hB)).2.1⟩))
 simp only [List.flatten_cons,List.flatten_nil,List.append_nil,List.length_cons,List.length_nil,Nat.zero_add,Nat.reduceAdd] at HCO
 replace hlu:=Lib.hid hlu
 replace hlv:=Lib.hid hlv
 go_enter Tryz.func261,Tryz.ntmps261
 go_wp2_with fail
 refine HCO.out.mono ?_
 rintro e w1 ⟨v1,rfl,ho,hB1⟩
 have hBw:=below_in hBz hB1
 have hpos:0<(hls ++ ls).length:=hok.1
 have hM:Many w1.heap.size w1 v1 (hls ++ ls):=OwnS.many (B:=B) ho (by rw [List.length_append,List.length_append,hlu.out,hlv.out]) (by rw [List.length_append,hlu.out,hlv.out,←List.length_append];exact hpos) (fun j u hu=>by
  rcases Nat.lt_or_ge j ush.length with hj | hj
  · rw [List.getElem?_append_left hj] at hu
    rw [List.getElem?_append_left (by rw [←hlu.out];exact hj)]
    exact (hh.below (hBw.mono hB)).2.2 j u hu
  · rw [List.getElem?_append_right hj] at hu
    rw [List.getElem?_append_right (by rw [←hlu.out];exact hj),←hlu.out]
    exact (hl.below (hBw.mono hB)).2.2 _ u hu) (Nat.le_trans hB hBw.size)
 have HX:=Lib.hid (xor_yes (hls ++ ls) v1 w1 (Nat.le_refl _) hM (by rw [List.length_append];omega) hok)
 clear hM ho hh hl HCO hBz bz hB1 hok
 go_wp2_with fail
 refine HX.out.mono ?_
 rintro e w2 ⟨u,rfl,hF,hB2⟩
 have hBx:=below_in hBw hB2
 go_wp2_with (go_at_call 262;refine (sureB _ _).mono ?_;rintro e w' ⟨rfl,rfl⟩)
 go_ret
 exact ⟨_,rfl,hF.less hBw.size,hBx⟩
end Go.Proofs.YtcchjofjpflbhaaGreatDoor.E

namespace Go.Proofs.YtcchjofjpflbhaaGreatDoor.E
open Go.RowKit Go.Shelf Go.Proofs.YtcchjofjpflbhaaGreatDoor.C

theorem Vals.more {B B':Nat} {W:World} {v:Value} {us:List Value} (h:Vals B W v us) (hB:B≤B'):Vals B' W v us :=
 h.imp id fun ⟨b,off,cap,e,hc,hlt,hcell⟩=>⟨b,off,cap,e,hc,Nat.lt_of_lt_of_le hlt hB,hcell⟩
theorem ManyV.more {B B':Nat} {W:World} {v:Value} {us:List Value} {ls:List (List UInt8)} (h:ManyV B W v us ls) (hB:B≤B'):ManyV B' W v us ls:=⟨h.1,h.2.1.more hB,fun j u hu=>(h.2.2 j u hu).more hB⟩
theorem upon_any (vh:Value) (w:World) (A:Option Addr) (m c:Nat) (hv:vh = .slice A m c) :
 Calls Tryz.prog 224 #[vh] w fun e w'=>e = .returned (.func (.func 261) #[] #[.pointer (some ⟨w.heap.size,0,none⟩)])∧Blk w' w.heap.size 49 #[vh]∧Below w.heap.size w w':=by
 subst hv
 have hmf:∀ (fn:Fn) (first cap:Array Value) (w:World),(Instr.makeFunc fn first cap).run Tryz.prog w = .ok (.func fn first cap) w:=fun _ _ _ _=>rfl
 have bz:=Blk.new w 49 #[.slice A m c]
 have hBz:=below_one w (.cells #[.slice A m c] 49)
 go_enter Tryz.func224,Tryz.ntmps224
 go_wp2
 go_ret
 exact ⟨rfl,bz,hBz⟩
theorem encoded1_any {B:Nat} (p:Int) (R r:Nat) (css:List (List (List UInt8))) (v vh:Value) (ush:List Value) (hls:List (List UInt8)) (g0 g1 gh:Nat) (W:World) (hB:B≤W.heap.size) (hC:Cols B W v css) (hr:r<R) (hR:R≤16) (hlen:css.length≤100) (hl0:0<css.length) (hrow:∀ j,j<css.length→(css[j]?.getD []).length=R)
 (b0:Blk W g0 158 #[.func (.func 261) #[] #[.pointer (some ⟨gh,0,none⟩)]]) (b1:Blk W g1 208 #[.int .i64 p,v]) (bh:Blk W gh 49 #[vh]) (hh:ManyV B W vh ush hls) (hn:hls.length≤100) (hok:XorOk (hls ++ rowOf css r)) :
 Calls Tryz.prog 228 #[.int .i64 (r:Int),.pointer (some ⟨g0,0,none⟩),.pointer (some ⟨g1,0,none⟩)] W fun e w'=>∃ u,e = .returned u∧Fresh W.heap.size w' u (xorOf (hls ++ rowOf css r))∧Below W.heap.size W w':=by
 have H1:=Lib.hid (fun (U:World) (hBU:Below W.heap.size W U)=>row_any p R r css v U (Nat.le_trans hB hBU.size) (hC.below (hBU.mono hB)) hr hR (by omega) hrow)
 have H2:=Lib.hid (fun (U:World) (vl:Value) (usl:List Value) (hBU:Below W.heap.size W U) (hl:ManyV U.heap.size U vl usl (rowOf css r))=>upon1_yes vh vl ush usl hls (rowOf css r) gh U (Nat.le_refl _) (bh.below hBU bh.lt) ((hh.below (hBU.mono hB)).more (Nat.le_trans hB hBU.size)) hl hn (by rw [rowOf_len];exact hlen) hok)
 have h0r:0<(rowOf css r).length:=by rw [rowOf_len];exact hl0
 have c0:=b0.one
 have c1:=b1.cell 0
 have c2:=b1.cell 1
 simp only [gz9] at c1 c2
 have hg0:=b0.lt
 have hg1:=b1.lt
 clear hC hh hok bh hlen hn hrow hl0 hr hR b0 b1
 generalize rowOf css r=rw_ at *
 generalize xorOf (hls ++ rw_)=xo at *
 clear hls
 go_enter Tryz.func228,Tryz.ntmps228
 go_wp2_with fail
 go_region_held3 (fun U=>U.cell? ⟨g0,0,none⟩=some (.func (.func 261) #[] #[.pointer (some ⟨gh,0,none⟩)])∧U.cell? ⟨g1,0,none⟩=some (.int .i64 p)∧U.cell? ⟨g1,1,none⟩=some v)
  (first | exact ⟨c0,c1,c2⟩ | exact ⟨(hBa.cell (p:=⟨g0,0,none⟩) hg0).trans c0,(hBa.cell (p:=⟨g1,0,none⟩) hg1).trans c1,(hBa.cell (p:=⟨g1,1,none⟩) hg1).trans c2⟩ | exact ⟨(hBb.cell (p:=⟨g0,0,none⟩) hg0).trans c0,(hBb.cell (p:=⟨g1,0,none⟩) hg1).trans c1,(hBb.cell (p:=⟨g1,1,none⟩) hg1).trans c2⟩) (first
  | (go_at_call 229;refine (H1.out _ ?_).mono ?_;first | exact Below.refl _ _ | exact (Below.refl _ _).drew;rintro e w1 ⟨u,rfl,hm,hB1⟩;have hBa:Below W.heap.size W w1:=(by first | exact hB1 | exact Below.undrew hB1);obtain ⟨usl,hmv⟩:=E.Many.vals hm h0r)
  | (go_at_call 261;refine (H2.out _ _ usl ?_ ?_).mono ?_;exact hBa;exact hmv;rintro e w2 ⟨x,rfl,hf,hB2⟩;have hBb:Below W.heap.size W w2:=below_in hBa hB2))
 all_goals go_wp2
 all_goals go_ret
 all_goals exact ⟨_,rfl,hf.less hBa.size,hBb⟩
end Go.Proofs.YtcchjofjpflbhaaGreatDoor.E

namespace Go.Proofs.YtcchjofjpflbhaaGreatDoor.E
open Go.RowKit Go.Shelf Go.Proofs.YtcchjofjpflbhaaGreatDoor.C

theorem walk_back0:∀ p∈prm,∀ a∈List.range p.toNat,walkN p (a:Int) (-1)=(List.range p.toNat).map fun (i:Nat)=>((a:Int) - (i:Int)) % p:=by decide +kernel
theorem walk_back {p a:Int} (hp:p∈prm) (h0:0≤a) (h1:a<p):walkN p a (-1)=(List.range p.toNat).map fun (i:Nat)=>(a - (i:Int)) % p:=by
 have h:=walk_back0 p hp a.toNat (List.mem_range.2 (by omega))
 rwa [show ((a.toNat:Nat):Int)=a by omega] at h
def diagAt (p a:Int) (k:Nat):List (Nat×Nat):=((List.range k).filter fun (i:Nat)=>decide ((a - (i:Int)) % p<p - 1)).map fun (i:Nat)=>(i,((a - (i:Int)) % p).toNat)
def diagOf (p a:Int) (css:List (List (List UInt8))):List (List UInt8):=(diagAt p a p.toNat).map fun x=>(css[x.1]?.getD [])[x.2]?.getD []
theorem diagAt_succ (p a:Int) (k:Nat):diagAt p a (k+1)=diagAt p a k ++ (if (a - (k:Int)) % p<p - 1 then [(k,((a - (k:Int)) % p).toNat)] else []):=by
 unfold diagAt
 rw [List.range_succ,List.filter_append,List.map_append]
 by_cases h:(a - (k:Int)) % p<p - 1
 · rw [if_pos h];simp [h]
 · rw [if_neg h];simp [h]
theorem diagAt_len (p a:Int) (k:Nat):(diagAt p a k).length≤k:=by
 unfold diagAt
 rw [List.length_map]
 exact Nat.le_trans (List.length_filter_le _ _) (by simp)
end Go.Proofs.YtcchjofjpflbhaaGreatDoor.E

namespace Go.Proofs.YtcchjofjpflbhaaGreatDoor.E
open Go.RowKit Go.Shelf Go.Proofs.YtcchjofjpflbhaaGreatDoor.C

def GridV (B:Nat) (W:World) (v:Value) (n R:Nat) (f:Nat→Nat→Value):Prop :=
 ∃ b off cap,v = .slice (some ⟨b,off,none⟩) n cap∧b<B∧n≤cap∧∀ c,c<n→∃ b2 off2 cap2,W.cell? ⟨b,off+c,none⟩=some (.slice (some ⟨b2,off2,none⟩) R cap2)∧R≤cap2∧b2<B∧∀ r,r<R→W.cell? ⟨b2,off2+r,none⟩=some (f c r)
theorem GridV.keep_ {B:Nat} {W W':World} {v:Value} {n R:Nat} {f:Nat→Nat→Value} (h:GridV B W v n R f) (hk:∀ p:Addr,p.block<B→W'.cell? p=W.cell? p):GridV B W' v n R f:=by
 obtain ⟨b,off,cap,e,hb,hc,hA⟩:=h
 refine ⟨b,off,cap,e,hb,hc,fun c hc=>?_⟩
 obtain ⟨b2,off2,cap2,h1,h2,h3,h4⟩:=hA c hc
 exact ⟨b2,off2,cap2,(hk _ hb).trans h1,h2,h3,fun r hr=>(hk _ h3).trans (h4 r hr)⟩
theorem GridV.below {B:Nat} {W W':World} {v:Value} {n R:Nat} {f:Nat→Nat→Value} (h:GridV B W v n R f) (hb:Below B W W'):GridV B W' v n R f:=h.keep_ fun _ hp=>hb.cell hp
theorem Cols.grid {B:Nat} {W:World} {v:Value} {css:List (List (List UInt8))} {R:Nat} (h:Cols B W v css) (h0:0<css.length) (hR:0<R) (hrow:∀ j,j<css.length→(css[j]?.getD []).length=R) :
 ∃ f,GridV B W v css.length R f∧∀ c r,c<css.length→r<R→Bytes B W (f c r) ((css[c]?.getD [])[r]?.getD []):=by
 obtain ⟨b,off,cap,rfl,hc,hb,hA⟩:=h.at_ h0
 have hall:∀ c:Nat,∃ g:Nat→Value,c<css.length→(∃ b2 off2 cap2,W.cell? ⟨b,off+c,none⟩=some (.slice (some ⟨b2,off2,none⟩) R cap2)∧R≤cap2∧b2<B∧∀ r,r<R→W.cell? ⟨b2,off2+r,none⟩=some (g r))∧∀ r,r<R→Bytes B W (g r) ((css[c]?.getD [])[r]?.getD []):=by
  intro c
  by_cases hcl:c<css.length
  · obtain ⟨u,hu,A,cap2,rfl,hc2,hA2⟩:=hA c hcl
    rw [hrow c hcl] at hu hc2 hA2
    obtain ⟨b2,off2,rfl,hb2,hr2⟩:=hA2 hR
    refine ⟨fun r=>(W.cell? ⟨b2,off2+r,none⟩).getD undef,fun _=>⟨⟨b2,off2,cap2,hu,hc2,hb2,fun r hr=>?_⟩,fun r hr=>?_⟩⟩
    · obtain ⟨x,hx,_⟩:=hr2 r hr
      show _=some ((W.cell? ⟨b2,off2+r,none⟩).getD undef)
      rw [hx];rfl
    · obtain ⟨x,hx,hy⟩:=hr2 r hr
      show Bytes B W ((W.cell? ⟨b2,off2+r,none⟩).getD undef) _
      rw [hx];exact hy
  · exact ⟨fun _=>undef,fun h=>absurd h hcl⟩
 obtain ⟨f,hf⟩:=Classical.axiomOfChoice hall
 exact ⟨f,⟨b,off,cap,rfl,hb,hc,fun c hcl=>(hf c hcl).1⟩,fun c r hcl hr=>(hf c hcl).2 r hr⟩
def diagW (p:Int) (f:Nat→Nat→Value):Nat→List Int→List Value
 | _,[]=>[]
 | k,x :: xs=>(if x<p - 1 then [f k x.toNat] else []) ++ diagW p f (k+1) xs
theorem diagW_append (p:Int) (f:Nat→Nat→Value):∀ (k:Nat) (xs ys:List Int),diagW p f k (xs ++ ys)=diagW p f k xs ++ diagW p f (k+xs.length) ys
 | k,[],ys=>by simp [diagW]
 | k,x :: xs,ys=>by
   rw [List.cons_append,diagW,diagW,diagW_append p f (k+1) xs ys,List.append_assoc,List.length_cons]
   congr 3
   omega
theorem diagW_one (p:Int) (f:Nat→Nat→Value) (xs:List Int) (x:Int):diagW p f 0 (xs ++ [x])=diagW p f 0 xs ++ (if x<p - 1 then [f xs.length x.toNat] else []):=by
 rw [diagW_append]
 simp [diagW]
def diagV (p a:Int) (f:Nat→Nat→Value) (k:Nat):List Value:=(diagAt p a k).map fun x=>f x.1 x.2
theorem diagV_succ (p a:Int) (f:Nat→Nat→Value) (k:Nat):diagV p a f (k+1)=diagV p a f k ++ (if (a - (k:Int)) % p<p - 1 then [f k ((a - (k:Int)) % p).toNat] else []):=by
 unfold diagV
 rw [diagAt_succ,List.map_append]
 congr 1
 split <;> rfl
theorem diagW_walk0 (p a:Int) (f:Nat→Nat→Value):∀ k:Nat,diagW p f 0 ((List.range k).map fun (i:Nat)=>(a - (i:Int)) % p)=diagV p a f k
 | 0=>rfl
 | k+1=>by rw [List.range_succ,List.map_append,List.map_singleton,diagW_one,diagW_walk0 p a f k,diagV_succ,List.length_map,List.length_range]
theorem diagW_walk {p a:Int} (hp:p∈prm) (h0:0≤a) (h1:a<p) (f:Nat→Nat→Value):diagW p f 0 (walkN p a (-1))=diagV p a f p.toNat:=by
 rw [walk_back hp h0 h1,diagW_walk0]
end Go.Proofs.YtcchjofjpflbhaaGreatDoor.E

namespace Go.Proofs.YtcchjofjpflbhaaGreatDoor
open Go.RowKit Go.Shelf

def FarO {β:Type} (B:Nat) (I:β→Option Nat→World→Prop):Prop :=
 ∀ s o X Y row,I s o X→X.grownBy Y row→(∀ r,row=some r→B≤r∧some r≠o)→I s o Y
def SinceO (B:Nat) (o:Option Nat) (X Y:World):Prop:=X.heap.size≤Y.heap.size∧∀ b,B≤b→b<X.heap.size→some b≠o→Y.heap[b]?=X.heap[b]?
def RowO (o:Option Nat) (X:World):Prop:=∀ b,o=some b→∃ cs t fr,X.heap[b]?=some (.cells cs t fr)
theorem RowO.lt {o:Option Nat} {X:World} (h:RowO o X):∀ b,o=some b→b<X.heap.size:=fun b e=>by
 obtain ⟨_,_,_,hc⟩:=h b e
 exact (Array.getElem?_eq_some_iff.1 hc).1
theorem RowO.ne {o:Option Nat} {X:World} (h:RowO o X) {D:Nat} {ds:Option (List Deferred)} (hD:X.heap[D]?=some (.deferred ds)):some D≠o:=fun e=>by
 obtain ⟨_,_,_,hc⟩:=h D e.symm
 rw [hD] at hc
 cases hc
def FreshO (o o':Option Nat) (X:World):Prop:=o'=o∨∃ b,o'=some b∧X.heap.size≤b

section
variable {β:Type} {B k:Nat} {I I':β→Option Nat→World→Prop} {X Y Z:World} {o o' o'':Option Nat}
theorem FarO.and (h:FarO B I) (h':FarO B I'):FarO B (fun s o W=>I s o W∧I' s o W):=fun s o X Y row hs hg hr=>⟨h s o X Y row hs.1 hg hr,h' s o X Y row hs.2 hg hr⟩
theorem FarO.less {B':Nat} (h:FarO B I) (hB:B≤B'):FarO B' I:=fun s o X Y row hs hg hr=>h s o X Y row hs hg fun r e=>⟨by have:=(hr r e).1;omega,(hr r e).2⟩
theorem FarO.put (h:FarO B I) {s:β} {l:Nat} (hs:I s o X) (h1:B≤l) (h2:some l≠o) (ob:Obj):I s o (X.putObj l ob) :=
 h s o X _ (some l) hs (grownBy_putObj' X l ob) fun r e=>by injection e with e;subst e;exact ⟨h1,h2⟩
theorem FarO.lay (h:FarO B I) {s:β} (hs:I s o X) (ob:Obj):I s o (X.alloc ob):=h s o X _ none hs (World.grownBy_alloc X ob none) fun r e=>by cases e
theorem FarO.below (h:FarO B I) {s:β} (hs:I s o X) (hb:Below X.heap.size X Y):I s o Y:=h s o X Y none hs (grown_below hb) fun r e=>by cases e
theorem SinceO.refl (B:Nat) (o:Option Nat) (X:World):SinceO B o X X:=⟨Nat.le_refl _,fun _ _ _ _=>rfl⟩
theorem SinceO.below (hb:Below X.heap.size X Y):SinceO B o X Y:=⟨hb.size,fun b _ h2 _=>hb.block b h2⟩
theorem SinceO.less {B':Nat} (h:SinceO B o X Y) (hB:B≤B'):SinceO B' o X Y:=⟨h.1,fun b h1 h2=>h.2 b (by omega) h2⟩
theorem SinceO.trans (h:SinceO B o X Y) (hf:FreshO o o' X) (h':SinceO B o' Y Z):SinceO B o X Z:=⟨Nat.le_trans h.1 h'.1,fun b h1 h2 h3=>(h'.2 b h1 (by have:=h.1;omega) (by
 rcases hf with rfl | ⟨c,rfl,hc⟩
 · exact h3
 · intro e;injection e with e;omega)).trans (h.2 b h1 h2 h3)⟩
theorem SinceO.trans_ (h:SinceO B o X Y) (h':SinceO B o Y Z):SinceO B o X Z:=h.trans (.inl rfl) h'
theorem FreshO.trans (h:FreshO o o' X) (hs:X.heap.size≤Y.heap.size) (h':FreshO o' o'' Y):FreshO o o'' X:=by
 rcases h' with rfl | ⟨c,rfl,hc⟩
 · exact h
 · exact .inr ⟨c,rfl,by omega⟩
theorem FreshO.later (h:FreshO o o' Y) (hs:X.heap.size≤Y.heap.size):FreshO o o' X:=h.imp id fun ⟨c,e,hc⟩=>⟨c,e,by omega⟩
theorem FreshO.ne (h:FreshO o o' X) {b:Nat} (hb:b<X.heap.size) (hne:some b≠o):some b≠o':=by
 rcases h with rfl | ⟨c,rfl,hc⟩
 · exact hne
 · intro e;injection e with e;omega
theorem SinceO.blk {g:Nat} {t:TypeId} {cs:Array Value} (h:SinceO B o X Y) (hb:Blk X g t cs) (hg:B≤g) (hne:some g≠o):Blk Y g t cs:=(h.2 g hg hb.lt hne).trans hb
theorem SinceO.keep {B' k:Nat} (h:SinceO B o X Y) (hB:B≤B') (hk:B'+k≤X.heap.size) (ho:∀ b,o=some b→b<B'∨B'+k≤b):Keep B' k X Y :=
 ⟨h.1,fun b h1 h2=>h.2 b (by omega) (by omega) (fun e=>by have:=ho b e.symm;omega)⟩
end

def SeqO {α:Type} (F:Fence) (n:Nat) (P:Program) (gf:Nat) (lb:Array Value) (encs:α→Array Value) (Ok:α→World→Prop) (Kp:World→World→Prop) (S Sp:List α→Prop) (N:Nat) (w:World):Prop :=
 ∀ (l:Nat) (J Jx:List α→Option Nat→World→Prop) (W:World) (o₀:Option Nat),Below w.heap.size w W→(∀ b,o₀=some b→b<W.heap.size)→FarO W.heap.size J→FarO W.heap.size Jx→(∀ s o X,J s o X→RowO o X)→(∀ s o X,Jx s o X→RowO o X) →
  (∀ pre x o W1,J pre o W1→Ok x W1→pre.length<N→W.heap.size≤W1.heap.size→YieldAt F (n - 1) P l (encs x) W1 fun e W'=>∃ o',FreshO o o' W1∧SinceO W.heap.size o W1 W' ∧
   ((e = .returned (.bool true)∧J (pre ++ [x]) o' W'∧Kp W1 W')∨(e = .returned (.bool false)∧Jx (pre ++ [x]) o' W'))) →
  J [] o₀ W →
  CallsIn F n P gf (#[.func (.yield l) #[] #[]] ++ lb) W fun e W'=>(∃ v,e = .returned v)∧∃ o',FreshO o₀ o' W∧((∃ xs,S xs∧J xs o' W')∨(∃ pre,Sp pre∧Jx pre o' W'))

def postO {α:Type} (B:Nat) (Kp:World→World→Prop) (I:List α→Option Nat→World→Prop) (Ix:Code→List α→Option Nat→World→Prop) (xs:List α) (o:Option Nat) (W:World):Exit→Act→World→Prop
 | .normal,_,W'=>∃ o',FreshO o o' W∧SinceO B o W W'∧Kp W W'∧I xs o' W'
 | .ret,_,W'=>∃ o',FreshO o o' W∧SinceO B o W W'∧Ix .ret xs o' W'
 | .exit id,_,W'=>∃ o',FreshO o o' W∧SinceO B o W W'∧Ix (.exit id) xs o' W'
 | .goto t,_,W'=>∃ o',FreshO o o' W∧SinceO B o W W'∧Ix (.goto t) xs o' W'
 | .panic _,_,_=>False
 | .outgrown,_,_=>False
def HeldO (rec:LoopState→Option Code→Loop) (D:Nat) (st:LoopState) (pe:Option Code) (o:Option Nat) (X:World):Prop:=Held rec D st pe X∧some D≠o∧some (D+1)≠o
theorem Held.lt0 {rec:LoopState→Option Code→Loop} {D:Nat} {st:LoopState} {pe:Option Code} {X:World} (h:Held rec D st pe X):D<X.heap.size:=by have:=h.lt;omega
theorem HeldO.since {rec:LoopState→Option Code→Loop} {D B:Nat} {st:LoopState} {pe:Option Code} {X Y:World} {o o':Option Nat} (h:HeldO rec D st pe o X) (hk:SinceO B o X Y) (hf:FreshO o o' X) (h1:B≤D):HeldO rec D st pe o' Y :=
 ⟨⟨(hk.2 _ (by omega) h.1.lt h.2.2).trans h.1.1,(hk.2 _ h1 h.1.lt0 h.2.1).trans h.1.2⟩,hf.ne h.1.lt0 h.2.1,hf.ne h.1.lt h.2.2⟩
theorem held_farO (rec:LoopState→Option Code→Loop) (D:Nat) (st:LoopState) (pe:Option Code) {β:Type}:FarO (D+2) (fun (_:β) o W=>HeldO rec D st pe o W):=fun _ o X Y _ hs hg hr =>
 ⟨⟨(hg.block _ hs.1.lt (fun e=>by have:=(hr _ e.symm).1;omega)).trans hs.1.1,(hg.block D hs.1.lt0 (fun e=>by have:=(hr _ e.symm).1;omega)).trans hs.1.2⟩,hs.2⟩
theorem HeldO.turn {rec:LoopState→Option Code→Loop} {D:Nat} {st:LoopState} {pe:Option Code} {o:Option Nat} {X:World} (h:HeldO rec D st pe o X) (st':LoopState) (pe':Option Code):HeldO rec D st' pe' o (X.putObj (D+1) (.loop (rec st' pe'))):=⟨h.1.turn st' pe',h.2⟩

theorem wpIn_rangeO {α:Type} {F:Fence} {n:Nat} {P:Program} {g:Operand} {ps:Array Tmp} {assign body:Code} {Q:Exit→Act→World→Prop} {a:Act} {w:World}
 (hro:F.round=none) (h1:1≤n) {gf:Nat} {lb:Array Value} (hg:a.eval g = .func (.func gf) #[] lb) (hFg:F.fn gf) (eg:∀ args w,(callFunc gf args).run P w = .ok (.enter gf args) w)
 {encs:α→Array Value} {Ok:α→World→Prop} {Kp:World→World→Prop} {S Sp:List α→Prop} {N:Nat} {w0:World} (hseq:SeqO F (n - 1) P gf lb encs Ok Kp S Sp N w0)
 (hKt:∀ {A B C:World},Kp A B→Kp B C→Kp A C) (hKb:∀ (W:World) (l:Nat) (ob:Obj),w.heap.size≤l→l<W.heap.size→(∃ r,W.heap[l]?=some (.loop r))→Kp W (W.putObj l ob)) (hb0:Below w0.heap.size w0 w) (hps:∀ x,(encs x).size=ps.size)
 (I:List α→Option Nat→World→Prop) (Ix:Code→List α→Option Nat→World→Prop) (hI:FarO w.heap.size I) (hIx:∀ c,FarO w.heap.size (Ix c)) (o₀:Option Nat) (ho₀:∀ b,o₀=some b→b<w.heap.size) (h0:I [] o₀ w)
 (Ax:α→Option Nat→Act→World→Prop) (hAx:∀ (x:α) (o:Option Nat) (a':Act) (W:World) (l:Nat) (ob:Obj) (r:Loop),W.heap[l]?=some (.loop r)→Ax x o a' W→Ax x o a' (W.putObj l ob))
 (hassign:∀ (l:Nat) (pre:List α) (x:α) (o:Option Nat) (W:World) (K:Act→World→Prop),w.heap.size≤W.heap.size→(∀ b,o=some b→b<W.heap.size)→I pre o W→Ok x W→(∀ a' W',SinceO w.heap.size o W W'→Kp W W'→I pre o W'→Ax x o a' W'→K a' W') →
  assign.wpIn (F.inRound l) (n - 1 - 1) P (Exit.then K (fun _ _ _=>False)) { tmps:=(ps.zip (encs x)).foldl (fun t (p,v)=>t.setIfInBounds p v) a.tmps,defers:=[] } W)
 (hrow:∀ pre o W,I pre o W→RowO o W) (hrowx:∀ c pre o W,Ix c pre o W→RowO o W)
 (hbody:∀ (l:Nat) (pre:List α) (x:α) (o:Option Nat) (a':Act) (W:World),w.heap.size≤W.heap.size→I pre o W→Ax x o a' W→pre.length<N →
  body.wpIn (F.inRound l) (n - 1 - 1) P (postO w.heap.size Kp I Ix (pre ++ [x]) o W) a' W)
 (hdone:∀ (D:Nat) (xs:List α) (o:Option Nat) (W:World),w.heap.size≤D→FreshO o₀ o w→S xs→I xs o W→W.heap[D]?=some (.deferred (some []))→some D≠o→Q .normal { a with defers:={ target:=.collected D,args:=#[] } :: a.defers } W)
 (hstop:∀ (D:Nat) (c:Code) (pre:List α) (o:Option Nat) (W:World),w.heap.size≤D→FreshO o₀ o w→Sp pre→Ix c pre o W→W.heap[D]?=some (.deferred (some []))→some D≠o→c.wpIn F n P Q { a with defers:={ target:=.collected D,args:=#[] } :: a.defers } W) :
 (Code.rangeFunc g ps assign body).wpIn F n P Q a w:=by
 refine wpIn_rangeFunc fun fn hfn=>?_
 rw [hro]
 obtain ⟨rec,hrec⟩:∃ rec:LoopState→Option Code→Loop,rec=fun st pe=>{ state:=st,pending:=pe,fn,tmps:=a.tmps,params:=ps,assign,body,defers:=w.heap.size }:=⟨_,rfl⟩
 obtain ⟨W1,hW1⟩:∃ W1,(w.alloc (.deferred (some []))).alloc (.loop (rec .ready none))=W1:=⟨_,rfl⟩
 have s1:W1.heap.size=w.heap.size+2:=by rw [←hW1];simp
 have n0:some w.heap.size≠o₀:=fun e=>by have:=ho₀ _ e.symm;omega
 have n1:some (w.heap.size+1)≠o₀:=fun e=>by have:=ho₀ _ e.symm;omega
 have H1:HeldO rec w.heap.size .ready none o₀ W1:=by
  rw [←hW1]
  refine ⟨⟨?_,(Below.heap_alloc _ _ _ (by simp)).trans (World.alloc_heap_new w _)⟩,n0,n1⟩
  have:=World.alloc_heap_new (w.alloc (.deferred (some []))) (.loop (rec .ready none))
  rwa [World.size_alloc] at this
 have I1:I [] o₀ W1:=by rw [←hW1];exact hI.lay (hI.lay h0 _) _
 have B1:Below w0.heap.size w0 W1:=by
  rw [←hW1];exact hb0.trans ((((Below.refl _ w).alloc (Nat.le_refl _) _).alloc (by simp) _).mono hb0.size)
 refine ⟨w.heap.size+1,[{ target:=.collected w.heap.size,args:=#[] }],W1,{ target:=.fn (.func gf) lb,args:=#[.func (.yield (w.heap.size+1)) #[] #[]] },W1,gf,
  #[.func (.yield (w.heap.size+1)) #[] #[]] ++ lb,W1,?_,?_,?_,?_,fun _=>h1,?_⟩
 · rw [←hW1,hrec];exact run_enterLoop_outer _ _ _ _ _
 · simp only [resolve,hg]
   simp [go_sem]
 · intro f' hf'
   simp [Target.leads] at hf'
   exact hf'▸hFg
 · simp [invoke,go_sem,eg]
 have hI':FarO W1.heap.size I:=hI.less (by omega)
 have hH:=fun st pe=>(s1▸held_farO rec w.heap.size st pe (β:=List α):FarO W1.heap.size _)
 refine (hseq (w.heap.size+1) (fun pre o W=>I pre o W∧HeldO rec w.heap.size .ready none o W) (fun pre o W=>∃ c,Ix c pre o W∧HeldO rec w.heap.size .done (some c) o W) W1 o₀ B1 (fun b e=>by have:=ho₀ b e;omega) (hI'.and (hH _ _))
  (fun s o X Y row hs hgr hr=>by
   obtain ⟨c,hc,hh⟩:=hs
   exact ⟨c,(hIx c).less (by omega) s o X Y row hc hgr hr,hH _ _ s o X Y row hh hgr hr⟩) (fun s o X h=>hrow _ _ _ h.1) (fun s o X h=>h.elim fun c h=>hrowx _ _ _ _ h.1) ?_ ⟨I1,H1⟩).mono ?_
 · rintro pre x o W ⟨hi,hh⟩ hok hlen hsz
   rw [s1] at hsz
   have hy:=run_yield (P:=P) (args:=encs x) hh.1.1 (by rw [hrec];exact hps x)
   rw [hrec] at hy
   refine ⟨fn,_,assign,body,hy,roundIn_of_wpIn hfn (hassign _ pre x o W _ (by omega) (RowO.lt (hrow _ _ _ hi)) hi hok ?_)⟩
   intro a' Wa hka hpa hia hax
   have ha:=hh.since hka (.inl rfl) (Nat.le_refl _)
   have hb:=ha.turn .busy none
   have hbegin:=run_beginRound (P:=P) ha.1.1 (by rw [hrec])
   have ebusy:({ rec .ready none with state:=.busy }:Loop)=rec .busy none:=by rw [hrec]
   rw [ebusy] at hbegin
   refine ⟨_,hbegin,?_⟩
   have hsa:=hka.1
   have hsb:(Wa.putObj (w.heap.size+1) (.loop (rec .busy none))).heap.size=Wa.heap.size:=by simp [World.putObj]
   refine wpIn_mono (hbody _ pre x o a' _ (by rw [hsb];omega) (hI.put hia (by omega) ha.2.2 _) (hAx _ _ _ _ _ _ _ ha.1.1 hax) hlen) ?_
   have fin:∀ (jump:Option Code) (o':Option Nat) (W3:World),FreshO o o' (Wa.putObj (w.heap.size+1) (.loop (rec .busy none)))→SinceO w.heap.size o (Wa.putObj (w.heap.size+1) (.loop (rec .busy none))) W3 →
    (Instr.endRound (w.heap.size+1) jump).run P W3 = .ok (.bool jump.isNone) (W3.putObj (w.heap.size+1) (.loop (rec (if jump.isNone then .ready else .done) jump))) ∧
    HeldO rec w.heap.size (if jump.isNone then .ready else .done) jump o' (W3.putObj (w.heap.size+1) (.loop (rec (if jump.isNone then .ready else .done) jump)))∧HeldO rec w.heap.size .busy none o' W3:=fun jump o' W3 hf hk3=>by
    have h3:=hb.since hk3 hf (Nat.le_refl _)
    have he:=run_endRound (P:=P) jump h3.1.1
    have e2:({ rec .busy none with state:=if jump.isNone then .ready else .done,pending:=jump }:Loop)=rec (if jump.isNone then .ready else .done) jump:=by rw [hrec]
    rw [e2] at he
    exact ⟨he,h3.turn _ _,h3⟩
   have putFar:∀ (o:Option Nat) (V:World) (ob:Obj),SinceO W1.heap.size o V (V.putObj (w.heap.size+1) ob):=fun o V ob=>⟨by simp [World.putObj],fun b h2 _ _=>World.putObj_heap_other (by omega)⟩
   have keepAll:∀ (ob:Obj) (o':Option Nat) (W3:World),SinceO w.heap.size o (Wa.putObj (w.heap.size+1) (.loop (rec .busy none))) W3→SinceO W1.heap.size o W (W3.putObj (w.heap.size+1) ob):=fun ob o' W3 hk3 =>
    (((hka.less (by omega)).trans_ (putFar o Wa _)).trans_ (hk3.less (by omega))).trans_ (putFar o W3 _)
   intro e a3 W3 hp
   cases e with
   | normal =>
     obtain ⟨o',hf3,hk3,hp3,hi3⟩:=hp
     obtain ⟨he,h4,h5⟩:=fin none o' W3 hf3 hk3
     exact ⟨_,_,he,o',hf3.later (by rw [hsb];exact hsa),keepAll _ o' _ hk3,.inl ⟨rfl,⟨hI.put hi3 (by omega) h5.2.2 _,h4⟩,hKt hpa (hKt (hKb _ _ _ (by omega) ha.1.lt ⟨_,ha.1.1⟩) (hKt hp3 (hKb _ _ _ (by omega) h5.1.lt ⟨_,h5.1.1⟩)))⟩⟩
   | ret =>
     obtain ⟨o',hf3,hk3,hi3⟩:=hp
     obtain ⟨he,h4,h5⟩:=fin (some .ret) o' W3 hf3 hk3
     exact ⟨_,_,he,o',hf3.later (by rw [hsb];exact hsa),keepAll _ o' _ hk3,.inr ⟨rfl,.ret,(hIx _).put hi3 (by omega) h5.2.2 _,h4⟩⟩
   | exit id =>
     obtain ⟨o',hf3,hk3,hi3⟩:=hp
     obtain ⟨he,h4,h5⟩:=fin (some (.exit id)) o' W3 hf3 hk3
     exact ⟨_,_,he,o',hf3.later (by rw [hsb];exact hsa),keepAll _ o' _ hk3,.inr ⟨rfl,.exit id,(hIx _).put hi3 (by omega) h5.2.2 _,h4⟩⟩
   | goto t =>
     obtain ⟨o',hf3,hk3,hi3⟩:=hp
     obtain ⟨he,h4,h5⟩:=fin (some (.goto t)) o' W3 hf3 hk3
     exact ⟨_,_,he,o',hf3.later (by rw [hsb];exact hsa),keepAll _ o' _ hk3,.inr ⟨rfl,.goto t,(hIx _).put hi3 (by omega) h5.2.2 _,h4⟩⟩
   | panic ch=>exact hp.elim
   | outgrown=>exact hp.elim
 · rintro e W2 ⟨⟨v,rfl⟩,o',hfo,(⟨xs,hS,hi,hh⟩ | ⟨pre,hSp,c,hc,hh⟩)⟩
   · have he:=run_endLoop (P:=P) hh.1.1 (by rw [hrec];simp)
     rw [show (rec .ready none).pending=none by rw [hrec]] at he
     exact ⟨none,_,he,hdone _ xs o' _ (Nat.le_refl _) (hfo.later (by omega)) hS (hI.put hi (by omega) hh.2.2 _) ((World.putObj_heap_other (by omega)).trans hh.1.2) hh.2.1⟩
   · have he:=run_endLoop (P:=P) hh.1.1 (by rw [hrec];simp)
     rw [show (rec .done (some c)).pending=some c by rw [hrec]] at he
     exact ⟨some c,_,he,hstop _ c pre o' _ (Nat.le_refl _) (hfo.later (by omega)) hSp ((hIx c).put hc (by omega) hh.2.2 _) ((World.putObj_heap_other (by omega)).trans hh.1.2) hh.2.1⟩

end Go.Proofs.YtcchjofjpflbhaaGreatDoor

namespace Go.Proofs.YtcchjofjpflbhaaGreatDoor.E
open Go.RowKit Go.Shelf Go.Proofs.YtcchjofjpflbhaaGreatDoor.C
attribute [local go_sem] Oper.semAt_some

theorem walk1_inO (n:Nat) (hn:1≤n) (l g h lo m p:Nat) (hp:0<p) (hp2:p≤1000) (a s:Int) (a0:0≤a) (a1:a<p) (s0:0≤s) (s1:s<p) (hh1:lo≤h) (hh:h<lo+m) (W:World) (hnW:lo+m≤W.heap.size) (J Jx:List Int→Option Nat→World→Prop) (o₀:Option Nat) (ho₀:∀ b,o₀=some b→b<W.heap.size)
 (hJ:FarO W.heap.size J)
 (hY:∀ pre (x:Int) o W1,J pre o W1→(0≤x∧x<(p:Int))→pre.length<p→W.heap.size≤W1.heap.size→YieldAt Fence.wide (n - 1) Tryz.prog l #[.int .i64 x] W1 fun e W'=>∃ o',FreshO o o' W1∧SinceO W.heap.size o W1 W'∧((e = .returned (.bool true)∧J (pre ++ [x]) o' W'∧Keep lo m W1 W')∨(e = .returned (.bool false)∧Jx (pre ++ [x]) o' W')))
 (bg:Blk W g 194 #[.int .i64 p,.int .i64 a]) (bh:Blk W h 192 #[.int .i64 s]) (h0:J [] o₀ W) :
 CallsIn Fence.wide n Tryz.prog 205 #[.func (.yield l) #[] #[],.pointer (some ⟨g,0,none⟩),.pointer (some ⟨h,0,none⟩)] W fun e W'=>(∃ v,e = .returned v)∧∃ o',FreshO o₀ o' W∧((∃ ys,ys=walkL p a s∧J ys o' W')∨(∃ pre,pre <+: walkL p a s∧Jx pre o' W')):=by
 have c0:W.cell? ⟨g,0,none⟩=some (.int .i64 p):=bg.cell 0
 have c1:W.cell? ⟨g,1,none⟩=some (.int .i64 a):=bg.cell 1
 refine callsIn_of_wp Tryz.func205 rfl trivial ?_ rfl
 simp only [Tryz.ntmps205,List.size_toArray,List.length_cons,List.length_nil,Nat.reduceAdd,Nat.reduceSub,Array.replicate_succ,Array.replicate_zero,List.push_toArray,List.append_toArray,List.nil_append,List.cons_append]
 refine wpIn_scope_wide ?_
 gi_wp2
 refine wpIn_label ?_
 obtain ⟨W0,hW0⟩:∃ W0,W.alloc (.cells #[.int .i64 p,.int .i64 a] 194)=W0:=⟨_,rfl⟩
 have bD:Blk W0 W.heap.size 194 #[.int .i64 p,.int .i64 (walkAt p a s 0)]:=by rw [←hW0,walkAt_zero p a s a0 (by omega)];exact Blk.new W _ _
 have hJ0:J [] o₀ W0:=by rw [←hW0];exact hJ.lay h0 _
 have hB0:Keep lo m W W0:=by rw [←hW0];exact Keep.alloc hnW _
 rw [hW0]
 clear hW0
 have d0:W0.cell? ⟨W.heap.size,0,none⟩=some (.int .i64 p):=bD.cell 0
 have d1:W0.cell? ⟨W.heap.size,1,none⟩=some (.int .i64 (walkAt p a s 0)):=bD.cell 1
 gi_wp2
 clear d0 d1
 gi_loopw [8] (fun i wr=>∃ k:Nat,k≤p∧i = .int .i64 k∧Hid (∃ o,J ((walkL p a s).take k) o wr∧FreshO o₀ o W∧some W.heap.size≠o)∧Hid (Blk wr W.heap.size 194 #[.int .i64 p,.int .i64 (walkAt p a s k)])∧Keep lo m W wr) (fun i _=>p - (intOf i).toNat)
 case atStart=>exact ⟨0,Nat.zero_le _,rfl,Lib.hid ⟨o₀,hJ0,.inl rfl,fun e=>by have:=ho₀ _ e.symm;omega⟩,Lib.hid bD,hB0⟩
 case round =>
  obtain ⟨k,hk,rfl,HJ,HD,hB⟩:=hrel
  obtain ⟨o,hj,hfo,hno⟩:=HJ.out
  have HJ2:=Lib.hid hj
  by_cases hlt:k<p
  · have hdec:decide ((k:Int)<(p:Int))=true:=by simp;omega
    have HT:=Lib.hid (walkL_next p a s k hlt)
    have hx:=walkAt_lt p hp a s k
    have HN:=Lib.hid (walkAt_next p a s k)
    have hD:=HD.out
    have e0:wr.cell? ⟨W.heap.size,0,none⟩=some (.int .i64 p):=hD.cell 0
    have e1:wr.cell? ⟨W.heap.size,1,none⟩=some (.int .i64 (walkAt p a s k)):=hD.cell 1
    have hsz:=hD.lt
    have HY:=Lib.hid (hY _ (walkAt p a s k) o wr hj ⟨hx.1,by omega⟩ (by rw [List.length_take,walkL_len];omega) (by omega))
    have HW:=Lib.hid (fun V=>with_any 207 _ plus_any enter_plus p (walkAt p a s k) s V (by omega) (by omega) hx.1 (by omega) s0 (by omega) (by omega) (by omega))
    clear hD HJ HJ2 hj
    simp only [HN.out] at HW
    generalize walkAt p a s k=x at *
    generalize hyy:walkAt p a s (k+1)=y at *
    have HYY:=Lib.hid hyy
    clear hyy
    obtain ⟨fn,tmps,assign,body,hy,hR⟩:=HY.out
    gi_wp2
    refine hR.mono ?_
    rintro e W3 ⟨o',hf3,hS3,(⟨rfl,hJ3,hk3⟩ | ⟨rfl,hJx3⟩)⟩
    all_goals have hfo':FreshO o₀ o' W:=hfo.trans (by omega) hf3
    all_goals have hno':some W.heap.size≠o':=(by rcases hf3 with rfl | ⟨b2,rfl,hb2⟩;exact hno;intro e;injection e with e;omega)
    · have hD3:Blk W3 W.heap.size 194 #[.int .i64 p,.int .i64 x]:=(hS3.2 W.heap.size (Nat.le_refl _) (by omega) hno).trans HD.out
      have hB3:=hB.trans hk3
      have g0:W3.cell? ⟨W.heap.size,0,none⟩=some (.int .i64 p):=hD3.cell 0
      have g1:W3.cell? ⟨W.heap.size,1,none⟩=some (.int .i64 x):=hD3.cell 1
      have g2:W3.cell? ⟨h,0,none⟩=some (.int .i64 s):=(hB3.blk bh hh1 hh).one
      have hl3:=hD3.lt
      gi_wp2_with (refine ⟨trivial,?_⟩;gi_at_call 206;refine (callsIn_wide.2 (HW.out _)).mono ?_;rintro e W4 ⟨rfl,hB4⟩;have hD4:=hD3.below hB4 hD3.lt;have i0:=hD4.cell 0;have i1:=hD4.cell 1;have j0:=hD4.frozen 0;have j1:=hD4.frozen 1;simp only [gz9] at i0 i1)
      go_roundw
      case rel =>
       refine ⟨k+1,by omega,by go_num,Lib.hid ?_,Lib.hid (by rw [HYY.out];exact (hD4.set_ 0 _).set_ 1 _),((hB3.trans (Keep.below hB4 (by have:=hB3.1;omega))).trans (Keep.setFar _ hnW _)).trans (Keep.setFar _ hnW _)⟩
       rw [HT.out]
       exact ⟨o',hJ _ o' W3 _ (some W.heap.size) hJ3 (grown_set (grown_set (grown_below hB4) 0 _) 1 _) (fun r e=>by cases e;exact ⟨Nat.le_refl _,hno'⟩),hfo',hno'⟩
      case measure=>simp [intOf];omega
    · gi_wp2
      rw [Exit.noGoto_normal]
      go_end0
      exact ⟨⟨_,rfl⟩,o',hfo',.inr ⟨_,by rw [←HT.out];exact List.take_prefix _ _,hJx3⟩⟩
  · obtain rfl:k=p:=by omega
    have hdec:decide ((k:Int)<(k:Int))=false:=by simp
    have HF:Hid (J (walkL k a s) o wr):=by have:=HJ2.out;rwa [List.take_of_length_le (by rw [walkL_len];omega)] at this
    gi_wp2
    rw [Exit.noGoto_normal]
    go_end0
    exact ⟨⟨_,rfl⟩,o,hfo,.inl ⟨_,rfl,HF.out⟩⟩

end Go.Proofs.YtcchjofjpflbhaaGreatDoor.E
