/- -/
import Derived.Test.YtknkdbincaonbaaGreatDoorCCG12
import Derived.Test.YtknkdbincaonbaaGreatDoorCCG13
import Derived.Test.YtknkdbincaonbaaGreatDoorCCG11
import Derived.Test.YtknkdbincaonbaaGreatDoorCCG4
import Derived.Test.YtknkdbincaonbaaGreatDoorCCCA
import Derived.Test.YtknkdbincaonbaaGreatDoorCCG6
set_option linter.unusedVariables false
set_option linter.unusedSimpArgs false
set_option maxRecDepth 100000
set_option maxHeartbeats 2000000
namespace Go.Proofs.YtknkdbincaonbaaGreatDoor.Q
open Go.RowKit Go.Shelf Go.Proofs.YtknkdbincaonbaaGreatDoor.C Go.Proofs.YtknkdbincaonbaaGreatDoor.E

def StripeK (k p:Int) (n:Nat) (s:List (List (List UInt8))):Prop:=RightC k p∧(s.length:Int)=p - shortN k+madeN k∧Grid (p - 1).toNat n s∧1≤n∧n≤64
def parL (k p:Int):List (Int×Int):=flatC p (spanL (p - shortN k) (p - shortN k+madeN k))
def chgK (k p:Int) (s:List (List (List UInt8))) (x y:Int) (c:List UInt8):List (List (List UInt8)) :=
 (List.range s.length).map fun (j:Nat)=>(List.range (s[j]?.getD []).length).map fun (r:Nat) =>
  if ((j:Int),(r:Int))=(x,y) then c else if ((j:Int),(r:Int))∈touL k p x y then xorB (cellOf_ s j r) (xorB (cellI s (x,y)) c) else cellOf_ s j r

theorem par_of {k p:Int} {m:Int×Int} (h:m∈parL k p):(p - shortN k≤m.1∧m.1<p - shortN k+madeN k)∧0≤m.2∧m.2<p - 1:=by
 have h3:=flatC_mem' h
 have h4:=spanL_mem h3.1
 exact ⟨⟨by omega,by omega⟩,h3.2⟩
theorem par_mk {k p x y:Int} (hx:p - shortN k≤x∧x<p - shortN k+madeN k) (hy:0≤y∧y<p - 1):(x,y)∈parL k p:=flatC_mem (spanL_mk hx.1 hx.2) hy
theorem memB_rowself {k p x y:Int} (hx:x<p - shortN k) (r:Int):memB k p (p - shortN k) r x y=decide (y=r):=by
 unfold memB wayB
 rw [show roleN (p - shortN k) (p - shortN k)=2 from if_pos rfl,if_pos rfl]
 unfold inRw
 by_cases h:y=r
 · rw [decide_eq_true h];exact decide_eq_true ⟨hx,h⟩
 · rw [decide_eq_false h];exact decide_eq_false fun e=>h e.2
theorem tou_of {k p x y:Int} {m:Int×Int}:m∈touL k p x y↔m∈parL k p∧(memB k p m.1 m.2 x y=true∨memB k p m.1 m.2 (p - shortN k) y=true):=by
 unfold touL parL
 rw [List.mem_filter,Bool.or_eq_true]
section
variable {k p:Int} {n:Nat} {s:List (List (List UInt8))} {x y:Int} {c:List UInt8}
theorem chgK_len:(chgK k p s x y c).length=s.length:=by unfold chgK;rw [List.length_map,List.length_range]
theorem chgK_col {j:Nat} (hj:j<s.length):((chgK k p s x y c)[j]?.getD []).length=(s[j]?.getD []).length:=by
 unfold chgK
 rw [List.getElem?_map,List.getElem?_range hj]
 show ((List.range _).map _).length = _
 rw [List.length_map,List.length_range]
theorem chgK_cell {j r:Nat} (hj:j<s.length) (hr:r<(s[j]?.getD []).length):cellOf_ (chgK k p s x y c) j r=if ((j:Int),(r:Int))=(x,y) then c else if ((j:Int),(r:Int))∈touL k p x y then xorB (cellOf_ s j r) (xorB (cellI s (x,y)) c) else cellOf_ s j r:=by
 unfold chgK
 conv=>lhs;unfold cellOf_
 rw [List.getElem?_map,List.getElem?_range hj]
 show ((List.range _).map _)[r]?.getD [] = _
 rw [List.getElem?_map,List.getElem?_range hr]
 rfl
theorem stripe_n (h:StripeK k p n s):3≤p∧p≤17∧p - 1=((p - 1).toNat:Int)∧0≤shortN k∧shortN k≤1∧2≤madeN k∧madeN k≤3:=by
 obtain ⟨p1,p2,s1,s2,m1,m2⟩:=h.1.und
 exact ⟨by omega,by omega,by omega,s1,s2,m1,m2⟩
theorem stripe_cell (h:StripeK k p n s) {z:Int×Int} (hz:0≤z.1∧z.1<p - shortN k+madeN k) (hz2:0≤z.2∧z.2<p - 1):(cellI s z).length=n∧z.1.toNat<s.length∧z.2.toNat<(s[z.1.toNat]?.getD []).length:=by
 obtain ⟨p1,p2,hp,s1,s2,m1,m2⟩:=stripe_n h
 have hl:=h.2.1
 have h1:z.1.toNat<s.length:=by omega
 have h2:=h.2.2.1 z.1.toNat h1
 exact ⟨h2.2 z.2.toNat (by omega),h1,by rw [h2.1];omega⟩
theorem chgK_at (h:StripeK k p n s) {z:Int×Int} (hz:0≤z.1∧z.1<p - shortN k+madeN k) (hz2:0≤z.2∧z.2<p - 1):cellI (chgK k p s x y c) z=if z=(x,y) then c else if z∈touL k p x y then xorB (cellI s z) (xorB (cellI s (x,y)) c) else cellI s z:=by
 obtain ⟨_,h1,h2⟩:=stripe_cell h hz hz2
 have e:((z.1.toNat:Int),(z.2.toNat:Int))=z:=by rw [Int.toNat_of_nonneg hz.1,Int.toNat_of_nonneg hz2.1]
 have h3:=chgK_cell (k:=k) (p:=p) (x:=x) (y:=y) (c:=c) h1 h2
 rw [e] at h3
 exact h3
theorem chgK_ok (h:StripeK k p n s) (hx:0≤x∧x<p - shortN k) (hy:0≤y∧y<p - 1) (hc:c.length=n):StripeK k p n (chgK k p s x y c):=by
 obtain ⟨p1,p2,hp,s1,s2,m1,m2⟩:=stripe_n h
 refine ⟨h.1,by rw [chgK_len];exact h.2.1,fun j hj=>?_,h.2.2.2⟩
 rw [chgK_len] at hj
 have hg:=h.2.2.1 j hj
 refine ⟨by rw [chgK_col hj];exact hg.1,fun i hi=>?_⟩
 have h1:=chgK_cell (k:=k) (p:=p) (x:=x) (y:=y) (c:=c) hj (r:=i) (by rw [hg.1];exact hi)
 unfold cellOf_ at h1
 rw [h1]
 have hcx:=(stripe_cell h (z:=(x,y)) ⟨hx.1,by show x < _;omega⟩ hy).1
 split
 · exact hc
 · split
   · rw [xorB_len];exact hg.2 i hi
   · exact hg.2 i hi
theorem eq_at {a b:List UInt8} (hl:a.length=b.length) (h:∀ j,at_ a j=at_ b j):a=b:=by
 refine List.ext_getElem hl fun j h1 h2=>?_
 have h3:=h j
 unfold at_ at h3
 rwa [List.getElem?_eq_getElem h1,List.getElem?_eq_getElem h2] at h3
end
end Go.Proofs.YtknkdbincaonbaaGreatDoor.Q

namespace Go.Proofs.YtknkdbincaonbaaGreatDoor.Q
open Go.RowKit Go.Shelf Go.Proofs.YtknkdbincaonbaaGreatDoor.C Go.Proofs.YtknkdbincaonbaaGreatDoor.E

section
variable {k p:Int} {n:Nat} {s t:List (List (List UInt8))} {x y x' y':Int} {c c':List UInt8}
theorem stripe_ext (h:StripeK k p n s) (h':StripeK k p n t) (he:∀ z:Int×Int,(0≤z.1∧z.1<p - shortN k+madeN k)→(0≤z.2∧z.2<p - 1)→∀ j,at_ (cellI s z) j=at_ (cellI t z) j):s=t:=by
 obtain ⟨p1,p2,hp,s1,s2,m1,m2⟩:=stripe_n h
 have hl:=h.2.1
 have hl':=h'.2.1
 refine List.ext_getElem (by omega) fun a h1 h2=>?_
 have hg:=h.2.2.1 a h1
 have hg':=h'.2.2.1 a h2
 rw [List.getElem?_eq_getElem h1,Option.getD_some] at hg
 rw [List.getElem?_eq_getElem h2,Option.getD_some] at hg'
 refine List.ext_getElem (hg.1.trans hg'.1.symm) fun b h3 h4=>?_
 have g1:=hg.2 b (by omega)
 have g2:=hg'.2 b (by omega)
 rw [List.getElem?_eq_getElem h3,Option.getD_some] at g1
 rw [List.getElem?_eq_getElem h4,Option.getD_some] at g2
 refine eq_at (g1.trans g2.symm) fun j=>?_
 have h5:=he ((a:Int),(b:Int)) ⟨by show 0≤(a:Int);omega,by show (a:Int) < _;omega⟩ ⟨by show 0≤(b:Int);omega,by show (b:Int) < _;omega⟩ j
 unfold cellI cellOf_ at h5
 simp only [Int.toNat_natCast] at h5
 rwa [List.getElem?_eq_getElem h1,List.getElem?_eq_getElem h2,Option.getD_some,Option.getD_some,List.getElem?_eq_getElem h3,List.getElem?_eq_getElem h4,Option.getD_some,Option.getD_some] at h5
theorem steps_stripe {css:List (List (List UInt8))} (hR:RightC k p) (hl:(css.length:Int)=p - shortN k) (hG:Grid (p - 1).toNat n css) (hn:1≤n∧n≤64):StripeK k p n (stepsL k p n css (madeN k).toNat):=by
 obtain ⟨p1,p2,s1,s2,m1,m2⟩:=hR.und
 exact ⟨hR,by rw [stepsL_len];omega,hG.steps rfl _,hn⟩
end
end Go.Proofs.YtknkdbincaonbaaGreatDoor.Q

namespace Go.Proofs.YtknkdbincaonbaaGreatDoor.Q
open Go.RowKit Go.Shelf Go.Proofs.YtknkdbincaonbaaGreatDoor.C Go.Proofs.YtknkdbincaonbaaGreatDoor.E

def cellB (b:List UInt8) (len n:Nat):List UInt8:=(List.range len).map fun i=>at_ b (n * len+i)
def partL (d len:Nat) (b:List UInt8) (n:Nat):List (List (List UInt8)):=(List.range d).map fun c=>(List.range ((n+(d - 1 - c)) / d)).map fun row=>cellB b len (row * d+c)
def fillL (d R len:Nat) (b:List UInt8):List (List (List UInt8)):=(List.range d).map fun c=>(List.range R).map fun row=>cellB b len (row * d+c)
theorem cellB_len (b:List UInt8) (len n:Nat):(cellB b len n).length=len:=by unfold cellB;rw [List.length_map,List.length_range]
theorem partL_len (d len:Nat) (b:List UInt8) (n:Nat):(partL d len b n).length=d:=by unfold partL;rw [List.length_map,List.length_range]
theorem part_at {d len:Nat} {b:List UInt8} {n c:Nat} (hc:c<d):(partL d len b n)[c]?.getD []=(List.range ((n+(d - 1 - c)) / d)).map fun row=>cellB b len (row * d+c):=by
 unfold partL
 rw [List.getElem?_map,List.getElem?_range hc]
 rfl
theorem part_zero (d len:Nat) (b:List UInt8):partL d len b 0=List.replicate d []:=by
 refine List.ext_getElem (by rw [partL_len,List.length_replicate]) fun c h1 h2=>?_
 rw [partL_len] at h1
 have e:=part_at (len:=len) (b:=b) (n:=0) h1
 rw [List.getElem?_eq_getElem (by rw [partL_len];exact h1),Option.getD_some] at e
 rw [e,List.getElem_replicate,Nat.div_eq_of_lt (by omega)]
 rfl
theorem count_other {d n c:Nat} (hc:c<d) (hne:c≠n % d):(n+1+(d - 1 - c)) / d=(n+(d - 1 - c)) / d:=by
 have hd:0<d:=by omega
 have hr:=Nat.mod_lt n hd
 have hn:=Nat.div_add_mod n d
 generalize n % d=r at *
 generalize hq:n / d=q at *
 subst hn
 rcases Nat.lt_or_gt_of_ne hne with h | h
 · rw [show d * q+r+1+(d - 1 - c)=d * (q+1)+(r - c) by rw [Nat.mul_add,Nat.mul_one];omega,show d * q+r+(d - 1 - c)=d * (q+1)+(r - c - 1) by rw [Nat.mul_add,Nat.mul_one];omega,
    Nat.mul_add_div hd,Nat.mul_add_div hd,Nat.div_eq_of_lt (show r - c<d by omega),Nat.div_eq_of_lt (show r - c - 1<d by omega)]
 · rw [show d * q+r+1+(d - 1 - c)=d * q+(d - (c - r)) by omega,show d * q+r+(d - 1 - c)=d * q+(d - 1 - (c - r)) by omega,
    Nat.mul_add_div hd,Nat.mul_add_div hd,Nat.div_eq_of_lt (show d - (c - r)<d by omega),Nat.div_eq_of_lt (show d - 1 - (c - r)<d by omega)]
theorem count_own {d n:Nat} (hd:0<d):(n+1+(d - 1 - n % d)) / d=n / d+1∧(n+(d - 1 - n % d)) / d=n / d:=by
 have hr:=Nat.mod_lt n hd
 have hn:=Nat.div_add_mod n d
 generalize n % d=r at *
 generalize hq:n / d=q at *
 subst hn
 constructor
 · rw [show d * q+r+1+(d - 1 - r)=d * (q+1)+0 by rw [Nat.mul_add,Nat.mul_one];omega,Nat.mul_add_div hd,Nat.zero_div]
 · rw [show d * q+r+(d - 1 - r)=d * q+(d - 1) by omega,Nat.mul_add_div hd,Nat.div_eq_of_lt (show d - 1<d by omega)];omega
theorem part_next {d len:Nat} {b:List UInt8} {n:Nat} (hd:0<d):partL d len b (n+1)=(partL d len b n).set (n % d) (((partL d len b n)[n % d]?.getD []) ++ [cellB b len n]):=by
 have hr:=Nat.mod_lt n hd
 refine List.ext_getElem (by rw [List.length_set,partL_len,partL_len]) fun c h1 h2=>?_
 rw [partL_len] at h1
 have e:=part_at (len:=len) (b:=b) (n:=n+1) h1
 rw [List.getElem?_eq_getElem (by rw [partL_len];exact h1),Option.getD_some] at e
 rw [e,List.getElem_set]
 by_cases hc:n % d=c
 · rw [if_pos hc]
   subst hc
   rw [part_at hr,(count_own hd).1,(count_own hd).2,List.range_succ,List.map_append]
   congr 1
   show [cellB b len (n / d * d+n % d)] = _
   rw [Nat.mul_comm,Nat.div_add_mod]
 · rw [if_neg hc]
   have e2:=part_at (len:=len) (b:=b) (n:=n) h1
   rw [List.getElem?_eq_getElem (by rw [partL_len];exact h1),Option.getD_some] at e2
   rw [e2,count_other h1 (fun e=>hc e.symm)]
theorem part_all {d R len:Nat} {b:List UInt8}:partL d len b (d * R)=fillL d R len b:=by
 unfold partL fillL
 refine List.map_congr_left fun c hc=>?_
 have hc2:=List.mem_range.1 hc
 rw [Nat.mul_add_div (by omega),Nat.div_eq_of_lt (show d - 1 - c<d by omega),Nat.add_zero]
theorem fill_len (d R len:Nat) (b:List UInt8):(fillL d R len b).length=d:=by unfold fillL;rw [List.length_map,List.length_range]
theorem fill_at {d R len:Nat} {b:List UInt8} {c:Nat} (hc:c<d):(fillL d R len b)[c]?.getD []=(List.range R).map fun row=>cellB b len (row * d+c):=by
 unfold fillL
 rw [List.getElem?_map,List.getElem?_range hc]
 rfl
theorem fill_cell {d R len:Nat} {b:List UInt8} {c r:Nat} (hc:c<d) (hr:r<R):cellOf_ (fillL d R len b) c r=cellB b len (r * d+c):=by
 unfold cellOf_
 rw [fill_at hc,List.getElem?_map,List.getElem?_range hr]
 rfl
theorem fill_grid (d R len:Nat) (b:List UInt8):Grid R len (fillL d R len b):=fun c hc=>by
 rw [fill_len] at hc
 refine ⟨by rw [fill_at hc,List.length_map,List.length_range],fun r hr=>?_⟩
 have h:=fill_cell (len:=len) (b:=b) hc hr
 unfold cellOf_ at h
 rw [h,cellB_len]
end Go.Proofs.YtknkdbincaonbaaGreatDoor.Q

namespace Go.Proofs.YtknkdbincaonbaaGreatDoor.Q
open Go.RowKit Go.Shelf Go.Proofs.YtknkdbincaonbaaGreatDoor.C Go.Proofs.YtknkdbincaonbaaGreatDoor.E

def setQ (s:List (List (List UInt8))) (X Y:Nat) (c:List UInt8):List (List (List UInt8)):=s.set X ((s[X]?.getD []).set Y c)
section
variable {k p:Int} {n:Nat} {s:List (List (List UInt8))} {X Y:Nat} {c:List UInt8}
theorem setQ_len:(setQ s X Y c).length=s.length:=List.length_set
theorem setQ_col (hX:X<s.length) (j:Nat):((setQ s X Y c)[j]?.getD []).length=(s[j]?.getD []).length:=by
 unfold setQ
 rw [List.getElem?_set]
 by_cases e:X=j
 · subst e
   rw [if_pos rfl,if_pos hX]
   show ((s[X]?.getD []).set Y c).length = _
   rw [List.length_set]
 · rw [if_neg e]
theorem setQ_cell (hX:X<s.length) (hY:Y<(s[X]?.getD []).length) (a b:Nat):cellOf_ (setQ s X Y c) a b=if a=X∧b=Y then c else cellOf_ s a b:=by
 unfold cellOf_ setQ
 rw [List.getElem?_set]
 by_cases e:X=a
 · subst e
   rw [if_pos rfl,if_pos hX]
   show ((s[X]?.getD []).set Y c)[b]?.getD [] = _
   rw [List.getElem?_set]
   by_cases e2:Y=b
   · subst e2
     rw [if_pos rfl,if_pos hY,if_pos ⟨rfl,rfl⟩]
     rfl
   · rw [if_neg e2,if_neg (fun h=>e2 h.2.symm)]
 · rw [if_neg e,if_neg (fun h=>e h.1.symm)]
theorem setQ_ok (h:StripeK k p n s) (hX:X<s.length) (hY:Y<(p - 1).toNat) (hc:c.length=n):StripeK k p n (setQ s X Y c):=by
 refine ⟨h.1,by rw [setQ_len];exact h.2.1,fun j hj=>?_,h.2.2.2⟩
 rw [setQ_len] at hj
 have hg:=h.2.2.1 j hj
 refine ⟨by rw [setQ_col hX];exact hg.1,fun i hi=>?_⟩
 have h1:=setQ_cell (c:=c) hX (by rw [(h.2.2.1 X hX).1];exact hY) j i
 unfold cellOf_ at h1
 rw [h1]
 split
 · exact hc
 · exact hg.2 i hi
end
end Go.Proofs.YtknkdbincaonbaaGreatDoor.Q

namespace Go.Proofs.YtknkdbincaonbaaGreatDoor.R
open Go.RowKit Go.Shelf Go.Proofs.YtknkdbincaonbaaGreatDoor.C Go.Proofs.YtknkdbincaonbaaGreatDoor.E

theorem enter_encode1:∀ args W,(callFunc 193 args).run Tryz.prog W = .ok (.enter 193 args) W:=enters_of Tryz.func193 (by kernel_rfl) rfl
theorem encode_yes {B:Nat} (p:Int) (v:Value) (css:List (List (List UInt8))) (hok:DataR p css) (w:World) (hL:Laid w) (hB:B≤w.heap.size) (hC:Cols B w v css) :
 Calls Tryz.prog 161 #[.int .i64 p,v] w fun e w'=>∃ u,e = .returned (.tuple #[u,.int .i64 0])∧Cols w'.heap.size w' u (rdpOf p css)∧Below w.heap.size w w':=by
 have hdn:=hok.2
 have hpp:=prm_bounds hok.1.1
 obtain ⟨A,cap,rfl,_,_⟩:=id hC
 obtain ⟨W2,hW2⟩:∃ W2,(w.alloc (.cells #[.int .i64 p] 3)).alloc (.cells #[.slice A css.length cap] 25)=W2:=⟨_,rfl⟩
 have b0:Blk W2 w.heap.size 3 #[.int .i64 p]:=by rw [←hW2];exact (Blk.new w _ _).alloc _
 have b1:Blk W2 (w.heap.size+1) 25 #[.slice A css.length cap]:=by rw [←hW2];exact Blk.second w _ _ _
 have hBW:Below w.heap.size w W2:=by rw [←hW2];exact below_two w _ _
 have hL2:=hL.next hBW
 have HA:=Lib.hid (ans_S_yes 193 #[.pointer (some ⟨w.heap.size,0,none⟩),.pointer (some ⟨w.heap.size+1,0,none⟩)] W2 (fun u W=>Cols W.heap.size W u (rdpOf p css)) (enter_encode1 _) (fun U hU _=>by
  have hLU:=hL2.next hU
  have hBU:=below_in hBW hU
  have hCU:=hC.below (hBU.mono hB)
  have HQ:=Lib.hid (asked_yes (B:=B) p (.slice A css.length cap) css U hLU (Nat.le_trans hB hBU.size) hCU hok)
  have HE:=Lib.hid (fun (V:World) (hV:Below U.heap.size U V)=>encoded_any (B:=B) p (.slice A css.length cap) css hok V (hLU.next hV) (Nat.le_trans hB (Nat.le_trans hBU.size hV.size)) (hCU.below (hV.mono (Nat.le_trans hB hBU.size))))
  have c0:=(b0.below hU b0.lt).one
  have c1:=(b1.below hU b1.lt).one
  clear hC hCU hok hdn b0 b1 hW2 hL hL2 hLU
  generalize css.length=n at *
  go_enter Tryz.func193,Tryz.ntmps193
  go_wp2_with (first
   | (go_at_call 194;refine HQ.out.mono ?_;rintro e w1 ⟨rfl,hB1⟩)
   | (go_at_call 195;refine (HE.out _ hB1).mono ?_;rintro e w2 ⟨u,rfl,hu,hB2⟩))
  go_ret
  exact ⟨_,rfl,hu,below_in hB1 hB2⟩))
 clear hC b0 b1 hL2 hok hdn
 generalize css.length=n at *
 go_enter Tryz.func161,Tryz.ntmps161
 have hmf:∀ (fn:Fn) (first cap:Array Value) (w:World),(Instr.makeFunc fn first cap).run Tryz.prog w = .ok (.func fn first cap) w:=fun _ _ _ _=>rfl
 go_wp2_with (go_at_call 192;refine HA.out.mono ?_;rintro e w1 ⟨u,W,rfl,hu,bE,rfl,hB1⟩)
 go_ret2
 exact ⟨u,rfl,Cols.more (Cols.set_int hu bE _) (by simp),below_in hBW hB1⟩
section
attribute [local go_sem] Oper.semAt_some
end
end Go.Proofs.YtknkdbincaonbaaGreatDoor.R

namespace Go.Proofs.YtknkdbincaonbaaGreatDoor.Q
open Go.RowKit Go.Shelf Go.Proofs.YtknkdbincaonbaaGreatDoor.C Go.Proofs.YtknkdbincaonbaaGreatDoor.E

def wholeL (k p:Int) (css:List (List (List UInt8))):List (List (List UInt8)):=stepsL k p (firstC css).length css (madeN k).toNat
def DataK (k p:Int) (css:List (List (List UInt8))):Prop:=(RightC k p∧(css.length:Int)=p - shortN k)∧RightD p css
def AllK (k p:Int) (css:List (List (List UInt8))):Prop:=(RightC k p∧(css.length:Int)=p - shortN k+madeN k)∧RightD p css
def datN (k p:Int):Nat:=(p - shortN k).toNat

variable {k p:Int} {n:Nat} {s:List (List (List UInt8))}

theorem datN_eq (hR:RightC k p):p - shortN k=(datN k p:Int)∧2≤datN k p∧datN k p≤17:=by
 obtain ⟨p1,p2,s1,s2,m1,m2⟩:=hR.und
 unfold datN
 omega
theorem right_grid (h:RightD p s):Grid (p - 1).toNat (firstC s).length s:=togOk_grid h.2
theorem right_n (h:RightD p s):1≤(firstC s).length∧(firstC s).length≤64:=by
 have:=togOk_first h.2
 omega
theorem all_stripe (h:AllK k p s):StripeK k p (firstC s).length s:=⟨h.1.1,h.1.2,right_grid h.2,right_n h.2⟩
theorem grid_first (hp:p∈prm) (hl:0<s.length) (hg:Grid (p - 1).toNat n s):(firstC s).length=n:=by
 have:=prm_bounds hp
 exact (hg 0 hl).2 0 (by omega)
theorem right_of (hp:p∈prm) (hl:0<s.length) (hg:Grid (p - 1).toNat n s) (hn:1≤n∧n≤64):RightD p s:=by
 have hf:=grid_first hp hl hg
 have hC:Cell (firstC s):=by unfold Cell;omega
 refine ⟨hp,hl,fun j hj=>?_⟩
 have:=hg j hj
 exact ⟨this.1,hC,fun i hi=>by rw [hf];exact this.2 i (by rw [this.1] at hi;exact hi)⟩
theorem stripe_all (h:StripeK k p n s):AllK k p s∧(firstC s).length=n:=by
 obtain ⟨p1,p2,hp,s1,s2,m1,m2⟩:=stripe_n h
 have hl:=h.2.1
 exact ⟨⟨⟨h.1,h.2.1⟩,right_of h.1.2 (by omega) h.2.2.1 h.2.2.2⟩,grid_first h.1.2 (by omega) h.2.2.1⟩
theorem whole_all (h:DataK k p s):AllK k p (wholeL k p s)∧(firstC (wholeL k p s)).length=(firstC s).length :=
 stripe_all (steps_stripe h.1.1 h.1.2 (right_grid h.2) (right_n h.2))
theorem whole_one (h:DataK 1 p s):DataOk p s∧wholeL 1 p s=s ++ encOf p s:=by
 have e:p - shortN 1=p:=Int.sub_zero p
 have hl:=h.1.2
 rw [e] at hl
 have hd:DataOk p s:=⟨h.1.1,hl,h.2.2⟩
 exact ⟨hd,steps1 hd⟩
theorem whole_two (h:DataK 2 p s):R.DataR p s∧wholeL 2 p s=s ++ R.rdpOf p s:=by
 have hd:R.DataR p s:=⟨h.2,h.1.2⟩
 exact ⟨hd,R.steps2 hd⟩
theorem whole_three (h:DataK 3 p s):DataOk p s∧wholeL 3 p s=s ++ T.starOf p s:=by
 have e:p - shortN 3=p:=Int.sub_zero p
 have hl:=h.1.2
 rw [e] at hl
 have hd:DataOk p s:=⟨⟨⟨by decide,by decide⟩,h.1.1.2⟩,hl,h.2.2⟩
 exact ⟨hd,T.steps3 hd⟩
end Go.Proofs.YtknkdbincaonbaaGreatDoor.Q

namespace Go.Proofs.YtknkdbincaonbaaGreatDoor.Cd
open Go.RowKit Go.Shelf Go.Proofs.YtknkdbincaonbaaGreatDoor.C Go.Proofs.YtknkdbincaonbaaGreatDoor.E Go.Proofs.YtknkdbincaonbaaGreatDoor.Q
attribute [local go_sem] Oper.semAt_some

def ManyK (fn:Nat) (k p:Int) (n:Int):Prop:=(∀ args W,(callFunc fn args).run Tryz.prog W = .ok (.enter fn args) W) ∧
 ∀ W,Laid W→Calls Tryz.prog fn #[.agg #[.int .i64 k,.int .i64 p]] W (Tells (RightC k p) n 2 W)
theorem enter_sdata:∀ args W,(callFunc 39 args).run Tryz.prog W = .ok (.enter 39 args) W:=enters_of Tryz.func39 (by kernel_rfl) rfl
theorem enter_scols:∀ args W,(callFunc 43 args).run Tryz.prog W = .ok (.enter 43 args) W:=enters_of Tryz.func43 (by kernel_rfl) rfl
theorem many_data (k p:Int):ManyK 39 k p (p - shortN k):=⟨enter_sdata,fun W hL=>shapeData_any k p W hL⟩
theorem many_cols (k p:Int):ManyK 43 k p (p - shortN k+madeN k):=⟨enter_scols,fun W hL=>shapeCols_any k p W hL⟩
theorem asked_yes {B:Nat} (fn:Nat) (k p:Int) (v:Value) (css:List (List (List UInt8))) (hM:ManyK fn k p (css.length:Int)) (hR0:RightC k p) (w:World) (hL:Laid w) (hB:B≤w.heap.size) (hC:Cols B w v css) (hlen:css.length≤1000) (hok:RightD p css) :
 Calls Tryz.prog 38 #[.agg #[.int .i64 k,.int .i64 p],.func (.func fn) #[] #[],v] w fun e w'=>e = .returned (.agg #[.int .i64 k,.int .i64 p,v])∧Below w.heap.size w w':=by
 obtain ⟨hent,hcall⟩:=hM
 have HM:=Lib.hid (fun W hL=>(hcall W hL).mono fun _ _ h=>(⟨h.1 hR0,h.2.2⟩:_∧_))
 obtain ⟨A,cap,rfl,_,_⟩:=id hC
 have hBz:=below_two w (.cells #[.int .i64 k,.int .i64 p] 24) (.cells #[.int .i64 0,.int .i64 0,.slice none 0 0] 76)
 have bc:=(Blk.new w 24 #[.int .i64 k,.int .i64 p]).alloc (.cells #[.int .i64 0,.int .i64 0,.slice none 0 0] 76)
 have bz:=Blk.second w (.cells #[.int .i64 k,.int .i64 p] 24) 76 #[.int .i64 0,.int .i64 0,.slice none 0 0]
 have HR:=Lib.hid (fun (W:World) (hb:Below w.heap.size w W)=>E.right_yes (B:=B) p (.slice A css.length cap) css W (hL.next hb) (Nat.le_trans hB hb.size) (hC.below (hb.mono hB)) hlen hok)
 have HLN:=Lib.hid (fun (W:World) (hb:Below w.heap.size w W)=>hL.next hb)
 clear hC hok hlen hcall
 generalize css.length=n at *
 have hnn:((n:Int) == (n:Int))=true:=by simp
 have c0:=bc.cell 0
 have c1:=bc.cell 1
 simp only [gz9] at c0 c1
 go_enter Tryz.func38,Tryz.ntmps38
 go_wp2_with fail
 refine (HM.out _ (hL.next hBz)).mono ?_
 rintro e w1 ⟨rfl,hB1⟩
 have hBa:=below_in hBz hB1
 replace bz:=bz.below hB1 bz.lt
 replace bc:=bc.below hB1 bc.lt
 clear hBz hB1 HM c0 c1
 have c0:=bc.cell 0
 have c1:=bc.cell 1
 simp only [gz9] at c0 c1
 go_wp2_with (first
  | (go_at_call 73;refine (sureI _ _).mono ?_;rintro e w2 ⟨rfl,rfl⟩)
  | (go_at_call 74;refine (HR.out _ hBa).mono ?_;rintro e w3 ⟨rfl,hB3⟩;have hBb:=below_in hBa hB3;replace bz:=bz.below hB3 bz.lt;replace bc:=bc.below hB3 bc.lt;have c0:=bc.cell 0;have c1:=bc.cell 1;have g0:=bz.cell 0;have g1:=bz.cell 1;have g2:=bz.cell 2;have f0:=bz.frozen 0;have f1:=bz.frozen 1;have f2:=bz.frozen 2;simp only [gz9] at c0 c1 g0 g1 g2)
  | (go_at_call 72;refine (need_yes _).mono ?_;rintro e w4 ⟨rfl,rfl⟩))
 have r:=((bz.set_ 0 (.int .i64 k)).set_ 1 (.int .i64 p)).set_ 2 (.slice A n cap)
 have r0:=r.cell 0
 have r1:=r.cell 1
 have r2:=r.cell 2
 simp only [List.setIfInBounds_toArray,List.set_cons_zero,List.set_cons_succ,List.getElem?_toArray,List.getElem?_cons_zero,List.getElem?_cons_succ] at r0 r1 r2
 exact bodyPost_ret (v:=.agg #[.int .i64 k,.int .i64 p,.slice A n cap]) (by simp [results,Tryz.results38,go_sem,r0,r1,r2]) rfl ⟨rfl,((hBb.setCell (by simp) _).setCell (by simp) _).setCell (by simp) _⟩
theorem asked_no {B:Nat} (fn:Nat) (k p N:Int) (v:Value) (css:List (List (List UInt8))) (hM:ManyK fn k p N) (w:World) (hL:Laid w) (hB:B≤w.heap.size) (hC:Cols B w v css) (hlen:css.length≤1000) (hcl:∀ j,j<css.length→(css[j]?.getD []).length≤1000) (hno:¬ ((RightC k p∧(css.length:Int)=N)∧RightD p css)) :
 Calls Tryz.prog 38 #[.agg #[.int .i64 k,.int .i64 p],.func (.func fn) #[] #[],v] w fun e w'=>e = .panicked (gave 2)∧Below w.heap.size w w':=by
 obtain ⟨hent,hcall⟩:=hM
 obtain ⟨A,cap,rfl,_,_⟩:=id hC
 have hBz:=below_two w (.cells #[.int .i64 k,.int .i64 p] 24) (.cells #[.int .i64 0,.int .i64 0,.slice none 0 0] 76)
 have bc:=(Blk.new w 24 #[.int .i64 k,.int .i64 p]).alloc (.cells #[.int .i64 0,.int .i64 0,.slice none 0 0] 76)
 have bz:=Blk.second w (.cells #[.int .i64 k,.int .i64 p] 24) 76 #[.int .i64 0,.int .i64 0,.slice none 0 0]
 by_cases hR:RightC k p
 case neg =>
  have HM:=Lib.hid (fun W hL=>(hcall W hL).mono fun _ _ h=>(⟨h.2.1 hR,h.2.2⟩:_∧_))
  clear hC hno hlen hcl hcall hR
  generalize css.length=n at *
  go_enter Tryz.func38,Tryz.ntmps38
  go_wp2_with fail
  refine (HM.out _ (hL.next hBz)).mono ?_
  rintro e w1 ⟨rfl,hB1⟩
  have hBa:=below_in hBz hB1
  clear hBz hB1 HM
  go_wp2_with (go_at_call 73;refine (sureI_no _ _).mono ?_;rintro e w2 ⟨rfl,rfl⟩)
  exact ⟨rfl,rfl,hBa⟩
 have HM:=Lib.hid (fun W hL=>(hcall W hL).mono fun _ _ h=>(⟨h.1 hR,h.2.2⟩:_∧_))
 clear hcall
 by_cases hn:(css.length:Int)=N
 case neg =>
  have hnn:((css.length:Int) == N)=false:=by simpa using hn
  clear hC hno hlen hcl hR hn
  generalize css.length=n at *
  go_enter Tryz.func38,Tryz.ntmps38
  go_wp2_with fail
  refine (HM.out _ (hL.next hBz)).mono ?_
  rintro e w1 ⟨rfl,hB1⟩
  have hBa:=below_in hBz hB1
  clear hBz hB1 HM
  go_wp2_with (first
   | (go_at_call 73;refine (sureI _ _).mono ?_;rintro e w2 ⟨rfl,rfl⟩)
   | (go_at_call 72;refine (need_no _).mono ?_;rintro e w4 ⟨rfl,rfl⟩))
  exact ⟨rfl,rfl,hBa⟩
 have hr:¬ RightD p css:=fun h=>hno ⟨⟨hR,hn⟩,h⟩
 have HR:=Lib.hid (fun (W:World) (hb:Below w.heap.size w W)=>E.right_no (B:=B) p (.slice A css.length cap) css W (hL.next hb) (Nat.le_trans hB hb.size) (hC.below (hb.mono hB)) hlen hcl hr)
 have hnn:((css.length:Int) == N)=true:=by simpa using hn
 clear hC hno hlen hcl hR hr hn
 generalize css.length=n at *
 have c0:=bc.cell 0
 have c1:=bc.cell 1
 simp only [gz9] at c0 c1
 go_enter Tryz.func38,Tryz.ntmps38
 go_wp2_with fail
 refine (HM.out _ (hL.next hBz)).mono ?_
 rintro e w1 ⟨rfl,hB1⟩
 have hBa:=below_in hBz hB1
 replace bc:=bc.below hB1 bc.lt
 clear hBz hB1 HM c0 c1
 have c0:=bc.cell 0
 have c1:=bc.cell 1
 simp only [gz9] at c0 c1
 go_wp2_with (first
  | (go_at_call 73;refine (sureI _ _).mono ?_;rintro e w2 ⟨rfl,rfl⟩)
  | (go_at_call 74;refine (HR.out _ hBa).mono ?_;rintro e w3 ⟨rfl,hB3⟩;have hBb:=below_in hBa hB3)
  | (go_at_call 72;refine (need_no _).mono ?_;rintro e w4 ⟨rfl,rfl⟩))
 exact ⟨rfl,rfl,hBb⟩
end Go.Proofs.YtknkdbincaonbaaGreatDoor.Cd

namespace Go.Proofs.YtknkdbincaonbaaGreatDoor.Cd
open Go.RowKit Go.Shelf Go.Proofs.YtknkdbincaonbaaGreatDoor.C Go.Proofs.YtknkdbincaonbaaGreatDoor.E Go.Proofs.YtknkdbincaonbaaGreatDoor.Q

def SepP {α:Type} (r:Rep α) (t:TypeId) (d:α) (P:Nat→Prop) (W:World) (v:Value) (xs:List α):Prop :=
 ∃ A cap,v = .slice A xs.length cap∧xs.length≤cap∧(0<xs.length→∃ b cs,A=some ⟨b,0,none⟩∧P b∧Blk W b t cs∧∃ Z:Nat→Nat→Prop,(∀ i j c,Z i c→Z j c→i=j)∧(∀ j c,Z j c→P c∧c≠b)∧∀ j,j<xs.length→∃ u,cs[j]?=some u∧r.R (Z j) W u (xs[j]?.getD d))
section
variable {α:Type} {r:Rep α} {t:TypeId} {d:α} {P Q:Nat→Prop} {W W':World} {v:Value} {xs:List α}
theorem SepP.imp (h:SepP r t d P W v xs) (hq:∀ b,P b→Q b):SepP r t d Q W v xs:=by
 obtain ⟨A,cap,e,hc,hA⟩:=h
 refine ⟨A,cap,e,hc,fun hp=>?_⟩
 obtain ⟨b,cs,e2,hb,hB,Z,h1,h2,h3⟩:=hA hp
 exact ⟨b,cs,e2,hq b hb,hB,Z,h1,fun j c hz=>⟨hq c (h2 j c hz).1,(h2 j c hz).2⟩,h3⟩
theorem SepP.keep (h:SepP r t d P W v xs) (hk:Keeps P W W'):SepP r t d P W' v xs:=by
 obtain ⟨A,cap,e,hc,hA⟩:=h
 refine ⟨A,cap,e,hc,fun hp=>?_⟩
 obtain ⟨b,cs,e2,hb,hB,Z,h1,h2,h3⟩:=hA hp
 exact ⟨b,cs,e2,hb,(hk b hb).trans hB,Z,h1,h2,fun j hj=>by obtain ⟨u,h4,h5⟩:=h3 j hj;exact ⟨u,h4,r.keep h5 fun c hc=>hk c (h2 j c hc).1⟩⟩
theorem SepP.slice (h:SepP r t d P W v xs):SliceP r d P W v xs:=by
 obtain ⟨A,cap,e,hc,hA⟩:=h
 refine ⟨A,cap,e,hc,fun hp=>?_⟩
 obtain ⟨b,cs,e2,hb,hB,Z,h1,h2,h3⟩:=hA hp
 exact ⟨b,0,e2,hb,fun j hj=>by obtain ⟨u,h4,h5⟩:=h3 j hj;exact ⟨u,by rw [Nat.zero_add,hB.cell j];exact h4,r.imp h5 fun c hc=>(h2 j c hc).1⟩⟩
theorem SepP.map {β:Type} {r2:Rep β} {d2:β} {ys:List β} (h:SepP r t d P W v xs) (hl:ys.length=xs.length) (hm:∀ Z u j,j<xs.length→r.R Z W u (xs[j]?.getD d)→r2.R Z W u (ys[j]?.getD d2)):SepP r2 t d2 P W v ys:=by
 obtain ⟨A,cap,e,hc,hA⟩:=h
 refine ⟨A,cap,by rw [hl];exact e,by rw [hl];exact hc,fun hp=>?_⟩
 obtain ⟨b,cs,e2,hb,hB,Z,h1,h2,h3⟩:=hA (by rw [←hl];exact hp)
 exact ⟨b,cs,e2,hb,hB,Z,h1,h2,fun j hj=>by obtain ⟨u,h4,h5⟩:=h3 j (by rw [←hl];exact hj);exact ⟨u,h4,hm _ _ j (by rw [←hl];exact hj) h5⟩⟩
end
def sepR {α:Type} (r:Rep α) (t:TypeId) (d:α):Rep (List α) where
 R:=SepP r t d
 imp:=SepP.imp
 keep:=SepP.keep
 one:=fun ⟨_,_,e,_⟩=>by rw [e];rfl
def sepM:Rep (List (List UInt8)):=sepR bytesR 32 []
def sepC:Rep (List (List (List UInt8))):=sepR sepM 58 []
theorem sepM_many {P:Nat→Prop} {W:World} {v:Value} {ls:List (List UInt8)} (h:sepM.R P W v ls):manyR.R P W v ls:=SepP.slice h
theorem SliceP.map {α:Type} {r r2:Rep α} {d:α} {P:Nat→Prop} {W:World} {v:Value} {xs:List α} (h:SliceP r d P W v xs) (hm:∀ u x,r.R P W u x→r2.R P W u x):SliceP r2 d P W v xs:=by
 obtain ⟨A,cap,e,hc,hA⟩:=h
 refine ⟨A,cap,e,hc,fun hp=>?_⟩
 obtain ⟨b,off,e2,hb,h3⟩:=hA hp
 exact ⟨b,off,e2,hb,fun j hj=>by obtain ⟨u,h4,h5⟩:=h3 j hj;exact ⟨u,h4,hm _ _ h5⟩⟩
theorem sepC_cols {P:Nat→Prop} {W:World} {v:Value} {css:List (List (List UInt8))} (h:sepC.R P W v css):colsR.R P W v css:=SliceP.map (SepP.slice h) fun _ _=>sepM_many

end Go.Proofs.YtknkdbincaonbaaGreatDoor.Cd

namespace Go.Proofs.YtknkdbincaonbaaGreatDoor.E
open Go.RowKit Go.Shelf Go.Proofs.YtknkdbincaonbaaGreatDoor.C

def allocs (w:World) (os:List Obj):World:=os.foldl World.alloc w
theorem allocs_below (w:World) (os:List Obj):Below w.heap.size w (allocs w os):=by
 induction os generalizing w with
 | nil=>exact Below.refl _ _
 | cons o os ih=>exact below_in (below_one w o) (ih (w.alloc o))
theorem allocs_blk (w:World) (os:List Obj) (k:Nat) (t:TypeId) (cs:Array Value) (h:os[k]?=some (.cells cs t)):Blk (allocs w os) (w.heap.size+k) t cs:=by
 induction os generalizing w k with
 | nil=>cases h
 | cons o os ih =>
   cases k with
   | zero=>cases h;exact (Blk.new w t cs).below (allocs_below _ os) (by simp)
   | succ k =>
     have h2:=ih (w.alloc o) k h
     rw [World.size_alloc] at h2
     rw [show w.heap.size+(k+1)=w.heap.size+1+k by omega]
     exact h2
theorem bytes_one {W:World} {g:Nat} {t:TypeId} {a:UInt8} (h:Blk W g t #[.int .u8 (a.toNat:Int)]):Bytes W.heap.size W (.slice (some ⟨g,0,none⟩) 1 1) [a] :=
 ⟨_,1,rfl,Nat.le_refl _,fun _=>⟨g,0,rfl,h.lt,fun j hj=>by
  have:j=0:=by simp at hj;exact hj
  subst this
  exact h.cell 0⟩⟩
theorem many_two {W:World} {g ga gb:Nat} {t t1 t2:TypeId} {a b:UInt8} (h:Blk W g t #[.slice (some ⟨ga,0,none⟩) 1 1,.slice (some ⟨gb,0,none⟩) 1 1]) (ha:Blk W ga t1 #[.int .u8 (a.toNat:Int)]) (hb:Blk W gb t2 #[.int .u8 (b.toNat:Int)]) :
 Many W.heap.size W (.slice (some ⟨g,0,none⟩) 2 2) [[a],[b]] :=
 ⟨_,2,rfl,Nat.le_refl _,fun _=>⟨g,0,rfl,h.lt,fun j hj=>by
  have:j=0∨j=1:=by simp at hj;omega
  rcases this with rfl | rfl
  · exact ⟨_,h.cell 0,bytes_one ha⟩
  · exact ⟨_,h.cell 1,bytes_one hb⟩⟩⟩
theorem cols_of {W:World} {g n cap:Nat} {t:TypeId} {cs:Array Value} {css:List (List (List UInt8))} (h:Blk W g t cs) (hn:css.length=n) (hc:n≤cap) (hA:∀ j,j<n→∃ u,cs[j]?=some u∧Many W.heap.size W u (css[j]?.getD [])):Cols W.heap.size W (.slice (some ⟨g,0,none⟩) n cap) css:=by
 subst hn
 refine ⟨_,cap,rfl,hc,fun _=>⟨g,0,rfl,h.lt,fun j hj=>?_⟩⟩
 obtain ⟨u,h1,h2⟩:=hA j hj
 exact ⟨u,by rw [Nat.zero_add,h.cell j];exact h1,h2⟩
def css3:List (List (List UInt8)):=[[[1],[2]],[[4],[8]],[[16],[32]]]
theorem ok3:DataOk 3 css3:=⟨⟨by decide,by decide⟩,rfl,by decide,fun j hj=>by
 have hj3:j=0∨j=1∨j=2:=by have:j<3:=hj;omega
 rcases hj3 with rfl | rfl | rfl <;> exact ⟨rfl,by decide,fun k hk=>by
  have hk2:k=0∨k=1:=by have:k<2:=hk;omega
  rcases hk2 with rfl | rfl <;> rfl⟩⟩
end Go.Proofs.YtknkdbincaonbaaGreatDoor.E

namespace Go.Proofs.YtknkdbincaonbaaGreatDoor.E
open Go.RowKit Go.Shelf Go.Proofs.YtknkdbincaonbaaGreatDoor.C
theorem RowG.empty {α:Type} (r:Rep α) (t:TypeId) (d:α) (Q:Nat→Prop) {W:World} {base g:Nat} (hg:Blk W g t #[]) (hb:base≤g):RowG r t d Q W base (.slice (some ⟨g,0,none⟩) 0 0) [] :=
 ⟨[],⟨rfl,.inr ⟨g,0,#[],rfl,hb,hg,Nat.le_refl _,by unfold maxLen;omega,rfl,rfl⟩⟩,rfl,fun j y hy=>by cases hy⟩
section
variable {p:Int} {a b:List (List (List UInt8))}
end
end Go.Proofs.YtknkdbincaonbaaGreatDoor.E
