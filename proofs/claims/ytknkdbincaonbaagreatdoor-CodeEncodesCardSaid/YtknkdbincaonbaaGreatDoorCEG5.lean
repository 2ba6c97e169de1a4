/- -/
import Derived.Test.YtknkdbincaonbaaGreatDoorCEG4
import Derived.Test.YtknkdbincaonbaaGreatDoorCEG2
set_option linter.unusedVariables false
set_option linter.unusedSimpArgs false
set_option maxRecDepth 100000
set_option maxHeartbeats 2000000
namespace Go.Proofs.YtknkdbincaonbaaGreatDoor.E
open Go.RowKit Go.Shelf Go.Proofs.YtknkdbincaonbaaGreatDoor.C

def xa (l:List UInt8):UInt8:=l.foldl (· ^^^ ·) 0
theorem xa_from:∀ (l:List UInt8) (z:UInt8),l.foldl (· ^^^ ·) z=z ^^^ xa l
 | [],z=>by simp [xa]
 | a :: l,z=>by
   unfold xa
   rw [List.foldl_cons,xa_from l,List.foldl_cons,xa_from l (0 ^^^ a)]
   simp [UInt8.xor_assoc]
theorem xa_nil:xa []=0:=rfl
theorem xa_cons (a:UInt8) (l:List UInt8):xa (a :: l)=a ^^^ xa l:=by
 show (a :: l).foldl (· ^^^ ·) 0 = _
 rw [List.foldl_cons,xa_from,UInt8.zero_xor]
theorem xa_append (a b:List UInt8):xa (a ++ b)=xa a ^^^ xa b:=by
 induction a with
 | nil=>simp [xa_nil]
 | cons x a ih=>rw [List.cons_append,xa_cons,xa_cons,ih,UInt8.xor_assoc]
theorem xa_perm {a b:List UInt8} (h:a.Perm b):xa a=xa b:=by
 induction h with
 | nil=>rfl
 | cons x _ ih=>rw [xa_cons,xa_cons,ih]
 | swap x y l=>rw [xa_cons,xa_cons,xa_cons,xa_cons,←UInt8.xor_assoc,←UInt8.xor_assoc,UInt8.xor_comm x y]
 | trans _ _ h1 h2=>exact h1.trans h2
theorem at_out (l:List UInt8) (j:Nat) (h:l.length≤j):at_ l j=0:=by
 unfold at_
 rw [List.getElem?_eq_none h]
 rfl
theorem ext_at {a b:List UInt8} (hl:a.length=b.length) (h:∀ j,at_ a j=at_ b j):a=b:=by
 rw [tab_of a,tab_of b,hl]
 exact tab_ext fun j _=>h j
theorem at_xorB (a b:List UInt8) (j:Nat) (h:b.length=a.length):at_ (xorB a b) j=at_ a j ^^^ at_ b j:=by
 rcases Nat.lt_or_ge j a.length with hj | hj
 · exact xorB_at a b j hj
 · rw [at_out _ _ (by rw [xorB_len];exact hj),at_out a j hj,at_out b j (by omega),UInt8.xor_self]
theorem at_xors (j:Nat):∀ (ls:List (List UInt8)) (z:List UInt8),(∀ l∈ls,l.length=z.length)→at_ (xors z ls) j=at_ z j ^^^ xa (ls.map (at_ · j))
 | [],z,_=>by simp [xors,xa_nil]
 | l :: ls,z,h=>by
   show at_ (xors (xorB z l) ls) j = _
   rw [at_xors j ls (xorB z l) (fun m hm=>by rw [xorB_len];exact h m (.tail _ hm)),at_xorB z l j (h l (.head _)),List.map_cons,xa_cons,UInt8.xor_assoc]
theorem at_zeros (n j:Nat):at_ (List.replicate n 0) j=0:=by
 unfold at_
 rw [List.getElem?_replicate]
 split <;> rfl
theorem at_upon {n:Nat} {ls:List (List UInt8)} (h:∀ l∈ls,l.length=n) (j:Nat):at_ (xors (List.replicate n 0) ls) j=xa (ls.map (at_ · j)):=by
 rw [at_xors j ls _ (fun l hl=>by rw [List.length_replicate];exact h l hl),at_zeros,UInt8.zero_xor]
theorem first_len {n:Nat} {ls:List (List UInt8)} (h0:0<ls.length) (h:∀ l∈ls,l.length=n):(ls[0]?.getD []).length=n:=by
 rw [List.getElem?_eq_getElem h0]
 exact h _ (List.getElem_mem h0)
theorem at_xorOf {n:Nat} {ls:List (List UInt8)} (h0:0<ls.length) (h:∀ l∈ls,l.length=n) (j:Nat):at_ (xorOf ls) j=xa (ls.map (at_ · j)):=by
 unfold xorOf
 rw [first_len h0 h]
 exact at_upon h j
theorem xorOf_len_of {n:Nat} {ls:List (List UInt8)} (h0:0<ls.length) (h:∀ l∈ls,l.length=n):(xorOf ls).length=n:=by
 rw [xorOf_len,first_len h0 h]

def by_ (css:List (List (List UInt8))) (j c r:Nat):UInt8:=at_ (cellOf_ css c r) j
def dg_ (p:Int) (css:List (List (List UInt8))) (j:Nat) (k:Int):UInt8:=xa ((diagAt p k p.toNat).map fun x=>by_ css j x.1 x.2)
def adjOf (p:Int) (css:List (List (List UInt8))):List UInt8:=xorOf (diagOf p (p - 1) css)
def rowsMade (R:Nat) (css:List (List (List UInt8))):List (List UInt8):=(List.range R).map fun r=>xorOf (rowOf css r)
def diagsMade (p:Int) (R:Nat) (css:List (List (List UInt8))):List (List UInt8):=(List.range R).map fun (r:Nat)=>xorOf ([adjOf p css] ++ diagOf p r css)
def encOf (p:Int) (css:List (List (List UInt8))):List (List (List UInt8)):=[rowsMade (p - 1).toNat css,diagsMade p (p - 1).toNat css]
section
variable {p:Int} {css:List (List (List UInt8))}
theorem dataOk_n (h:DataOk p css):css.length=p.toNat∧3≤p.toNat∧p.toNat≤17∧(p.toNat:Int)=p∧(p - 1).toNat=p.toNat - 1:=by
 have hpp:=prm_bounds h.1.2
 have:=h.2.1
 omega
theorem rowOf_ok (h:DataOk p css) {r:Nat} (hr:r<(p - 1).toNat):∀ l∈rowOf css r,l.length=(firstC css).length:=by
 intro l hl
 unfold rowOf at hl
 obtain ⟨cs,hcs,rfl⟩:=List.mem_map.1 hl
 obtain ⟨c,hc,rfl⟩:=List.getElem_of_mem hcs
 have:=togOk_cell h.2.2 hc hr
 unfold cellOf_ at this
 rwa [List.getElem?_eq_getElem hc] at this
theorem rowOf_pos (h:DataOk p css) (r:Nat):0<(rowOf css r).length:=by
 rw [rowOf_len]
 exact h.2.2.1
theorem at_row (h:DataOk p css) {r:Nat} (hr:r<(p - 1).toNat) (j:Nat):at_ (xorOf (rowOf css r)) j=xa ((List.range p.toNat).map fun c=>by_ css j c r):=by
 rw [at_xorOf (rowOf_pos h r) (rowOf_ok h hr)]
 have e:(rowOf css r).map (at_ · j)=(List.range p.toNat).map fun c=>by_ css j c r:=by
  apply List.ext_getElem
  · rw [List.length_map,rowOf_len,List.length_map,List.length_range,(dataOk_n h).1]
  · intro c h1 h2
    rw [List.length_map,rowOf_len] at h1
    rw [List.getElem_map,List.getElem_map,List.getElem_range]
    unfold by_ cellOf_ rowOf
    rw [List.getElem_map,List.getElem?_eq_getElem h1]
    rfl
 rw [e]
theorem map_diag (j:Nat) (k:Int):(diagOf p k css).map (at_ · j)=(diagAt p k p.toNat).map fun x=>by_ css j x.1 x.2:=by
 unfold diagOf
 rw [List.map_map]
 rfl
theorem at_diag (h:DataOk p css) {k:Int} (h0:0≤k) (h1:k<p) (j:Nat):at_ (xorOf (diagOf p k css)) j=dg_ p css j k:=by
 rw [at_xorOf (diagOf_pos h.1.2 h0 h1) (diagOf_ok h h0 h1),map_diag]
 rfl
theorem adjOf_len (h:DataOk p css):(adjOf p css).length=(firstC css).length:=by
 have:=dataOk_n h
 exact xorOf_len_of (diagOf_pos h.1.2 (by omega) (by omega)) (diagOf_ok h (by omega) (by omega))
theorem adjDiag_ok (h:DataOk p css) {r:Nat} (hr:(r:Int)<p):∀ l∈[adjOf p css] ++ diagOf p r css,l.length=(firstC css).length:=by
 intro l hl
 rcases List.mem_append.1 hl with hl | hl
 · rw [List.mem_singleton.1 hl]
   exact adjOf_len h
 · exact diagOf_ok h (by omega) hr l hl
theorem at_diagMade (h:DataOk p css) {r:Nat} (hr:(r:Int)<p) (j:Nat):at_ (xorOf ([adjOf p css] ++ diagOf p r css)) j=dg_ p css j (p - 1) ^^^ dg_ p css j r:=by
 have:=dataOk_n h
 rw [at_xorOf (by simp) (adjDiag_ok h hr),List.map_append,List.map_singleton,xa_append,xa_cons,xa_nil,UInt8.xor_zero,map_diag]
 unfold adjOf
 rw [at_diag h (by omega) (by omega)]
 rfl
theorem rowsMade_at (h:DataOk p css) {r:Nat} (hr:r<(p - 1).toNat):(rowsMade (p - 1).toNat css)[r]?.getD []=xorOf (rowOf css r):=by
 unfold rowsMade
 rw [List.getElem?_map,List.getElem?_range hr]
 rfl
theorem diagsMade_at (h:DataOk p css) {r:Nat} (hr:r<(p - 1).toNat):(diagsMade p (p - 1).toNat css)[r]?.getD []=xorOf ([adjOf p css] ++ diagOf p r css):=by
 unfold diagsMade
 rw [List.getElem?_map,List.getElem?_range hr]
 rfl
theorem rowsMade_len (R:Nat):(rowsMade R css).length=R:=by unfold rowsMade;simp
theorem diagsMade_len (R:Nat):(diagsMade p R css).length=R:=by unfold diagsMade;simp
theorem row_len (h:DataOk p css) {r:Nat} (hr:r<(p - 1).toNat):(xorOf (rowOf css r)).length=(firstC css).length:=xorOf_len_of (rowOf_pos h r) (rowOf_ok h hr)
theorem diag_len (h:DataOk p css) {r:Nat} (hr:(r:Int)<p):(xorOf ([adjOf p css] ++ diagOf p r css)).length=(firstC css).length:=xorOf_len_of (by simp) (adjDiag_ok h hr)
end
end Go.Proofs.YtknkdbincaonbaaGreatDoor.E

namespace Go.Proofs.YtknkdbincaonbaaGreatDoor.E
open Go.RowKit Go.Shelf Go.Proofs.YtknkdbincaonbaaGreatDoor.C
attribute [local go_sem] Oper.semAt_some

theorem diag_xorOk {p a:Int} {css:List (List (List UInt8))} (h:DataOk p css) (h0:0≤a) (h1:a<p):XorOk (diagOf p a css):=xorOk_of (diagOf_pos h.1.2 h0 h1) (togOk_first h.2.2) (diagOf_ok h h0 h1)
theorem manyV_nil (B:Nat) (W:World):ManyV B W (.slice none 0 0) [] []:=⟨rfl,.inl ⟨rfl,rfl⟩,fun j u h=>by cases h⟩
theorem adjuster_any {B:Nat} (p:Int) (v:Value) (css:List (List (List UInt8))) (hok:DataOk p css) (w:World) (hL:Laid w) (hB:B≤w.heap.size) (hC:Cols B w v css) :
 Calls Tryz.prog 225 #[.agg #[.int .i64 p,v]] w fun e w'=>∃ u,e = .returned u∧Fresh w.heap.size w' u (xorOf (diagOf p (p - 1) css))∧Below w.heap.size w w':=by
 have hpp:=prm_bounds hok.1.2
 obtain ⟨A,cap,rfl,_,_⟩:=id hC
 obtain ⟨W1,hW1⟩:∃ W1,w.alloc (.cells #[.int .i64 p,.slice A css.length cap] 151)=W1:=⟨_,rfl⟩
 have b0:Blk W1 w.heap.size 151 #[.int .i64 p,.slice A css.length cap]:=by rw [←hW1];exact Blk.new w _ _
 have hBW:Below w.heap.size w W1:=by rw [←hW1];exact below_one w _
 have hL1:=hL.next hBW
 have hC1:=hC.below (hBW.mono hB)
 have hB1:B≤W1.heap.size:=Nat.le_trans hB hBW.size
 have HD:=Lib.hid (fun (U:World)=>diagonal_any p (p - 1) (.slice A css.length cap) U A css.length cap rfl)
 have HLa:=Lib.hid (fun (U:World)=>last_any p ⟨by omega,by omega⟩ U)
 have HU:=Lib.hid (fun (U:World)=>upon_any (.slice none 0 0) U none 0 0 rfl)
 have HC:=Lib.hid (fun (U:World) (g h:Nat) (hBU:Below W1.heap.size W1 U) (bg:Blk U g 151 #[.int .i64 p,.slice A css.length cap]) (bh:Blk U h 3 #[.int .i64 (p - 1)]) =>
  collectDiag_any (B:=B) g h p (p - 1) (.slice A css.length cap) css hok (by omega) (by omega) U U (Nat.le_trans hB1 hBU.size) (hL1.next hBU) (hC1.below (hBU.mono hB1)) bg bh (Below.refl _ _))
 have HX:=Lib.hid (fun (U:World) (vl:Value) (us:List Value) (gU:Nat) (bU:Blk U gU 57 #[.slice none 0 0]) (hM:ManyV U.heap.size U vl us (diagOf p (p - 1) css)) =>
  upon1_yes (B:=U.heap.size) (.slice none 0 0) vl [] us [] (diagOf p (p - 1) css) gU U (Nat.le_refl _) bU (manyV_nil _ _) hM (by simp) (by have:=@diagOf_len p (p - 1) css;omega) (by rw [List.nil_append];exact diag_xorOk hok (by omega) (by omega)))
 simp only [List.nil_append] at HX
 have c0:=b0.cell 0
 have c1:=b0.cell 1
 simp only [gz9] at c0 c1
 have hg0:=b0.lt
 clear hC hC1 hL hL1 hok b0 hB hB1
 generalize xorOf (diagOf p (p - 1) css)=xo at *
 generalize diagOf p (p - 1) css=dg at *
 generalize css.length=n at *
 have hw1:IntKind.i64.wrap (p - 1)=p - 1:=IntWalk.i64_in _ (by omega)
 generalize p - 1=q at *
 have HPP:=Lib.hid hpp
 clear hpp hw1
 go_enter Tryz.func225,Tryz.ntmps225
 go_wp2_with fail
 clear hW1
 go_region_held3 (fun U=>U.cell? ⟨w.heap.size,0,none⟩=some (.int .i64 p)∧U.cell? ⟨w.heap.size,1,none⟩=some (.slice A n cap))
  (first | exact ⟨c0,c1⟩ | exact ⟨(hBa.cell (p:=⟨w.heap.size,0,none⟩) hg0).trans c0,(hBa.cell (p:=⟨w.heap.size,1,none⟩) hg0).trans c1⟩ | exact ⟨(hBb.cell (p:=⟨w.heap.size,0,none⟩) hg0).trans c0,(hBb.cell (p:=⟨w.heap.size,1,none⟩) hg0).trans c1⟩ | exact ⟨(hBc.cell (p:=⟨w.heap.size,0,none⟩) hg0).trans c0,(hBc.cell (p:=⟨w.heap.size,1,none⟩) hg0).trans c1⟩ | exact ⟨(hBd.cell (p:=⟨w.heap.size,0,none⟩) hg0).trans c0,(hBd.cell (p:=⟨w.heap.size,1,none⟩) hg0).trans c1⟩ | exact ⟨(hBe.cell (p:=⟨w.heap.size,0,none⟩) hg0).trans c0,(hBe.cell (p:=⟨w.heap.size,1,none⟩) hg0).trans c1⟩) (first
  | (go_at_call 224;refine (HU.out _).mono ?_;rintro e w1 ⟨rfl,bU,hBx⟩;have hBa:Below W1.heap.size W1 w1:=(by first | exact hBx | exact Below.undrew hBx))
  | (go_at_call 260;refine (HLa.out _).mono ?_;rintro e w2 ⟨rfl,hBx2⟩;have hBb:Below W1.heap.size W1 w2:=below_in hBa hBx2)
  | (go_at_call 231;refine (HD.out _).mono ?_;rintro e w3 ⟨rfl,bg,bh,hBx3⟩;have hBc:Below W1.heap.size W1 w3:=below_in hBb hBx3)
  | (go_at_call 230;refine (HC.out _ _ _ hBc bg bh).mono ?_;rintro e w4 ⟨u,us,rfl,hM,hBx4⟩;have hBd:Below W1.heap.size W1 w4:=below_in hBc hBx4;have bU4:=((bU.below hBx2 bU.lt).below hBx3 (Nat.lt_of_lt_of_le bU.lt hBx2.size)).below hBx4 (Nat.lt_of_lt_of_le (Nat.lt_of_lt_of_le bU.lt hBx2.size) hBx3.size))
  | (go_at_call 257;refine (HX.out _ _ _ _ bU4 hM).mono ?_;rintro e w5 ⟨x,rfl,hf,hBx5⟩;have hBe:Below W1.heap.size W1 w5:=below_in hBd hBx5))
 all_goals go_wp2
 all_goals go_ret
 all_goals exact ⟨_,rfl,hf.less (Nat.le_trans hBW.size hBd.size),below_in hBW hBe⟩

theorem encoded2_any {B:Nat} (p:Int) (r:Nat) (css:List (List (List UInt8))) (v vh:Value) (ush:List Value) (hls:List (List UInt8)) (g0 g1 gh:Nat) (W1:World) (hB:B≤W1.heap.size) (hL:Laid W1) (hok:DataOk p css) (hr:(r:Int)<p) (hC:Cols B W1 v css)
 (b0:Blk W1 g0 135 #[.func (.func 257) #[] #[.pointer (some ⟨gh,0,none⟩)]]) (b1:Blk W1 g1 151 #[.int .i64 p,v]) (bh:Blk W1 gh 57 #[vh]) (hh:ManyV B W1 vh ush hls) (hn:hls.length≤80) (hxo:XorOk (hls ++ diagOf p r css)) :
 Calls Tryz.prog 229 #[.int .i64 (r:Int),.pointer (some ⟨g0,0,none⟩),.pointer (some ⟨g1,0,none⟩)] W1 fun e w'=>∃ u,e = .returned u∧Fresh W1.heap.size w' u (xorOf (hls ++ diagOf p r css))∧Below W1.heap.size W1 w':=by
 have hpp:=prm_bounds hok.1.2
 obtain ⟨A,cap,rfl,_,_⟩:=id hC
 have HD:=Lib.hid (fun (U:World)=>diagonal_any p (r:Int) (.slice A css.length cap) U A css.length cap rfl)
 have HC:=Lib.hid (fun (U:World) (g h:Nat) (hBU:Below W1.heap.size W1 U) (bg:Blk U g 151 #[.int .i64 p,.slice A css.length cap]) (bh:Blk U h 3 #[.int .i64 (r:Int)]) =>
  collectDiag_any (B:=B) g h p (r:Int) (.slice A css.length cap) css hok (by omega) hr U U (Nat.le_trans hB hBU.size) (hL.next hBU) (hC.below (hBU.mono hB)) bg bh (Below.refl _ _))
 have HX:=Lib.hid (fun (U:World) (vl:Value) (us:List Value) (hBU:Below W1.heap.size W1 U) (hM:ManyV U.heap.size U vl us (diagOf p r css)) =>
  upon1_yes (B:=U.heap.size) vh vl ush us hls (diagOf p r css) gh U (Nat.le_refl _) (bh.below hBU bh.lt) ((hh.below (hBU.mono hB)).more (Nat.le_trans hB hBU.size)) hM (by omega) (by have:=@diagOf_len p r css;omega) hxo)
 have c0:=b0.one
 have c1:=b1.cell 0
 have c2:=b1.cell 1
 simp only [gz9] at c1 c2
 have hg0:=b0.lt
 have hg1:=b1.lt
 clear hC hL hok hxo hh bh b0 b1 hn hr hpp
 generalize xorOf (hls ++ diagOf p r css)=xo at *
 generalize diagOf p r css=dg at *
 generalize css.length=n at *
 clear hls
 go_enter Tryz.func229,Tryz.ntmps229
 go_wp2_with fail
 go_region_held3 (fun U=>U.cell? ⟨g0,0,none⟩=some (.func (.func 257) #[] #[.pointer (some ⟨gh,0,none⟩)])∧U.cell? ⟨g1,0,none⟩=some (.int .i64 p)∧U.cell? ⟨g1,1,none⟩=some (.slice A n cap))
  (first | exact ⟨c0,c1,c2⟩ | exact ⟨(hBc.cell (p:=⟨g0,0,none⟩) hg0).trans c0,(hBc.cell (p:=⟨g1,0,none⟩) hg1).trans c1,(hBc.cell (p:=⟨g1,1,none⟩) hg1).trans c2⟩ | exact ⟨(hBd.cell (p:=⟨g0,0,none⟩) hg0).trans c0,(hBd.cell (p:=⟨g1,0,none⟩) hg1).trans c1,(hBd.cell (p:=⟨g1,1,none⟩) hg1).trans c2⟩ | exact ⟨(hBe.cell (p:=⟨g0,0,none⟩) hg0).trans c0,(hBe.cell (p:=⟨g1,0,none⟩) hg1).trans c1,(hBe.cell (p:=⟨g1,1,none⟩) hg1).trans c2⟩) (first
  | (go_at_call 231;refine (HD.out _).mono ?_;rintro e w3 ⟨rfl,bg,bh,hBx⟩;have hBc:Below W1.heap.size W1 w3:=(by first | exact hBx | exact Below.undrew hBx))
  | (go_at_call 230;refine (HC.out _ _ _ hBc bg bh).mono ?_;rintro e w4 ⟨u,us,rfl,hM,hBx4⟩;have hBd:Below W1.heap.size W1 w4:=below_in hBc hBx4)
  | (go_at_call 257;refine (HX.out _ _ _ hBd hM).mono ?_;rintro e w5 ⟨x,rfl,hf,hBx5⟩;have hBe:Below W1.heap.size W1 w5:=below_in hBd hBx5))
 all_goals go_wp2
 all_goals go_ret
 all_goals exact ⟨_,rfl,hf.less hBd.size,hBe⟩
end Go.Proofs.YtknkdbincaonbaaGreatDoor.E

namespace Go.Proofs.YtknkdbincaonbaaGreatDoor
open Go.RowKit Go.Shelf

section
variable {F:Fence} {n:Nat} {P:Program} {md:Region.Mode} {ops:Array Oper} {Q:Exit→Act→World→Prop}
theorem count_set {listed:Array Bool} {i k:Nat} (h:listed.getD i true=false) (hk:listed.toList.count false≤k+1):(listed.setIfInBounds i true).toList.count false≤k:=by
 have hi:i<listed.size:=by
  rcases Nat.lt_or_ge i listed.size with h' | h'
  · exact h'
  · simp [Array.getElem?_eq_none h'] at h
 have hl:listed.toList[i]'(by simpa using hi)=false:=by
  simp [hi] at h
  simpa using h
 rw [Array.toList_setIfInBounds,List.count_set (h:=by simpa using hi),hl,if_pos (show (false == false)=true from rfl),if_neg (show ¬ ((true == false)=true) by decide)]
 omega
theorem wpAnyIn_inv (I:Array Bool→Act→World→Prop)
 (hstep:∀ (i:Nat) (listed:Array Bool) (a:Act) (w:World),i∈Region.ready md ops listed→listed.size=ops.size→I listed a w→wpOpIn F n P ops Q i (I (listed.setIfInBounds i true)) a w)
 (hend:∀ (listed:Array Bool) (a:Act) (w:World),listed.size=ops.size→I listed a w→Region.ready md ops listed = []→Q .normal a w) :
 ∀ (k:Nat) (listed:Array Bool) (a:Act) (w:World),listed.size=ops.size→listed.toList.count false≤k→I listed a w→wpAnyIn F n P md ops Q k listed a w
 | 0,listed,a,w,hs,hc,hI=>by
   have hr:Region.ready md ops listed = []:=by
    rw [List.eq_nil_iff_forall_not_mem]
    intro i hi
    have h:=(mem_ready.1 hi).1
    have hil:i<listed.size:=by
     rcases Nat.lt_or_ge i listed.size with h' | h'
     · exact h'
     · simp [Array.getElem?_eq_none h'] at h
    simp [hil] at h
    have hm:false∈listed.toList:=by rw [←h];simp
    have:=List.count_pos_iff.2 hm
    omega
   exact ⟨hr,hend listed a w hs hI hr⟩
 | k+1,listed,a,w,hs,hc,hI=>⟨hend listed a w hs hI,fun i hi=>wpOpIn_mono (fun a' w' h=>wpAnyIn_inv I hstep hend k _ a' w' (by simpa using hs) (count_set (mem_ready.1 hi).1 hc) h) (hstep i listed a w hi hs hI)⟩
def onward (md:Region.Mode) (ops:Array Oper):Bool:=(List.range ops.size).all fun i=>((ops[i]?).map (·.after.all fun e=>!Region.binds md e || decide (e.on<i))).getD true
theorem all_listed (h:onward md ops=true) {listed:Array Bool} (hs:listed.size=ops.size) (hr:Region.ready md ops listed = []):∀ i,i<ops.size→listed.getD i false=true:=by
 intro i
 induction i using Nat.strongRecOn with
 | _ i ih =>
   intro hi
   have hn:i∉Region.ready md ops listed:=by rw [hr];simp
   rw [mem_ready] at hn
   have hil:i<listed.size:=by omega
   cases hl:listed.getD i false with
   | true=>rfl
   | false =>
     refine absurd ⟨?_,ops[i],Array.getElem?_eq_getElem hi,fun e he hb=>?_⟩ hn
     · simp [hil] at hl ⊢
       exact hl
     · have h1:=List.all_eq_true.1 h i (List.mem_range.2 hi)
       rw [Array.getElem?_eq_getElem hi] at h1
       simp only [Option.map_some,Option.getD_some,Array.all_eq_true_iff_forall_mem] at h1
       have h2:=h1 e he
       rw [hb] at h2
       have h3:e.on<i:=by simpa using h2
       exact ih e.on h3 (by omega)
theorem region_inv {id:Nat} {a:Act} {w:World} (hm:P.follows .mixedOrders=true) (ho:onward .any ops=true) (I:Array Bool→Act→World→Prop) (h0:I (Array.replicate ops.size false) a w.drew)
 (hstep:∀ (i:Nat) (listed:Array Bool) (a:Act) (w:World),i∈Region.ready .any ops listed→I listed a w→wpOpIn F n P ops Q i (I (listed.setIfInBounds i true)) a w)
 (hend:∀ (listed:Array Bool) (a:Act) (w:World),(∀ i,i<ops.size→listed.getD i false=true)→I listed a w→Q .normal a w):(Code.region id ops true).wpIn F n P Q a w :=
 wpIn_region_any hm (wpAnyIn_inv I (fun i l a w hi _ h=>hstep i l a w hi h) (fun l a w hs hI hr=>hend l a w (all_listed ho hs hr) hI) _ _ _ _ (by simp) (by simp) h0)
theorem listed_ne {listed:Array Bool} {i j:Nat} (h:i≠j):(listed.setIfInBounds i true).getD j false=listed.getD j false:=getD_set_ne false h
theorem ready_on {i:Nat} {o:Oper} {listed:Array Bool} (h:i∈Region.ready md ops listed) (ho:ops[i]?=some o) (js:List Nat) (hj:(js.all fun j=>o.after.any fun e=>Region.binds md e && e.on == j)=true):∀ j∈js,listed.getD j false=true:=by
 obtain ⟨_,o',ho',hall⟩:=mem_ready.1 h
 rw [ho] at ho'
 cases ho'
 intro j hjm
 have h1:=List.all_eq_true.1 hj j hjm
 rw [←Array.any_toList,List.any_eq_true] at h1
 obtain ⟨e,he,h2⟩:=h1
 replace he:=Array.mem_toList_iff.1 he
 rw [Bool.and_eq_true] at h2
 have h3:e.on=j:=by simpa using h2.2
 rw [←h3]
 exact hall e he h2.1
theorem wpOpIn_one {i:Nat} {o:Oper} {K:Act→World→Prop} {a:Act} {w:World} (ho:ops[i]?=some o) (hw:Region.wanted o (yielded ops a.tmps)=true) (h:Oper.wpIn F n P o a w K Q):wpOpIn F n P ops Q i K a w:=by
 unfold wpOpIn
 rw [ho]
 simp only [hw,if_true]
 exact h
end
end Go.Proofs.YtknkdbincaonbaaGreatDoor
