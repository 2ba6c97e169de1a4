/- -/
import Derived.Test.YtkllhjhkcipkoaaGreatDoorTHG26
import Derived.Laws.StructEq
set_option linter.unusedVariables false
set_option linter.unusedSimpArgs false
set_option maxRecDepth 100000
set_option maxHeartbeats 2000000
namespace Go.Proofs.YtkllhjhkcipkoaaGreatDoor.T
open Go.RowKit Go.Shelf Go.Proofs.YtkllhjhkcipkoaaGreatDoor.C Go.Proofs.YtkllhjhkcipkoaaGreatDoor.E

def lineS (p N line:Int):List (Int×Int):=(flatC p (spanL 0 N)).filter fun z=>decide ((z.2 - z.1) % p=line)
def slAt (p line:Int):List (Nat×Nat):=(lineS p p line).map natZ
def slOf (p:Int) (css:List (List (List UInt8))) (s:Int):List UInt8:=uponL (firstC css).length css (lineS p p s)
def sg_ (p:Int) (css:List (List (List UInt8))) (j:Nat) (s:Int):UInt8:=xa ((slAt p s).map fun x=>by_ css j x.1 x.2)
def slMade (p:Int) (css:List (List (List UInt8))):List (List UInt8):=(List.range (p - 1).toNat).map fun (r:Nat)=>xorB (slOf p css (r:Int)) (slOf p css (p - 1))
def starOf (p:Int) (css:List (List (List UInt8))):List (List (List UInt8)):=encOf p css ++ [slMade p css]
def overOf (css:List (List (List UInt8))):List (List (List UInt8)):=css.take 1 ++ (css.drop 1).reverse

theorem slIn:∀ p∈prm,∀ s∈List.range p.toNat,inB (p - 1).toNat p.toNat (lineS p p (s:Int))=true:=by decide +kernel
theorem memRow3:∀ p∈prm,∀ r∈List.range (p - 1).toNat,memL 3 p p (r:Int)=(List.range p.toNat).map fun (c:Nat)=>((c:Int),(r:Int)):=by decide +kernel
theorem memDiag3:∀ p∈prm,∀ r∈List.range (p - 1).toNat,((memL 3 p (p+1) (r:Int)).map natZ).isPerm (diagAt p (p - 1) p.toNat ++ diagAt p (r:Int) p.toNat)=true:=by decide +kernel
theorem memSlant3:∀ p∈prm,∀ r∈List.range (p - 1).toNat,((memL 3 p (p+2) (r:Int)).map natZ).isPerm (slAt p (r:Int) ++ slAt p (p - 1))=true:=by decide +kernel
theorem memIn3:∀ p∈prm,∀ r∈List.range (p - 1).toNat,∀ m∈[0,1,2],inB (p - 1).toNat p.toNat (memL 3 p (p+m) (r:Int))=true:=by decide +kernel
theorem diag_over0:∀ p∈prm,∀ k∈List.range p.toNat,((diagAt p (k:Int) p.toNat).map fun x=>((p.toNat - x.1) % p.toNat,x.2)).isPerm (slAt p (k:Int))=true:=by decide +kernel
theorem range_over0:∀ p∈prm,((List.range p.toNat).map fun c=>(p.toNat - c) % p.toNat).isPerm (List.range p.toNat)=true:=by decide +kernel
section
variable {p:Int} {a b css:List (List (List UInt8))}
theorem sl_in (hp:p∈prm) {s:Int} (h0:0≤s) (h1:s<p):inL (p - 1).toNat p.toNat (lineS p p s):=by
 have h:=inL_of (slIn p hp s.toNat (List.mem_range.2 (by omega)))
 rwa [show ((s.toNat:Nat):Int)=s by omega] at h
theorem slOf_len (s:Int):(slOf p css s).length=(firstC css).length:=uponL_len _ _ _
theorem at_sl (h:DataOk p css) {s:Int} (h0:0≤s) (h1:s<p) (j:Nat):at_ (slOf p css s) j=sg_ p css j s:=by
 have hd:=dataOk_n h
 unfold slOf sg_ slAt
 exact at_uponN ((sl_in h.1.2 h0 h1).cells (togOk_grid h.2.2) (by omega)) j
theorem slCell_len (s t:Int):(xorB (slOf p css s) (slOf p css t)).length=(firstC css).length:=by rw [xorB_len,slOf_len]
theorem at_slMade (h:DataOk p css) {r:Nat} (hr:(r:Int)<p) (j:Nat):at_ (xorB (slOf p css (r:Int)) (slOf p css (p - 1))) j=sg_ p css j r ^^^ sg_ p css j (p - 1):=by
 have hd:=dataOk_n h
 rw [at_xorB _ _ _ (by rw [slOf_len,slOf_len]),at_sl h (by omega) hr,at_sl h (by omega) (by omega)]
theorem col3_rows (h:DataOk p css):colL 3 p (firstC css).length css p=rowsMade (p - 1).toNat css:=by
 have hd:=dataOk_n h
 have hg:=togOk_grid h.2.2
 unfold colL
 refine Eq.trans ?_ (rfl:(List.range (p - 1).toNat).map (fun r=>xorOf (rowOf css r)) = _)
 refine List.map_congr_left fun r hr=>?_
 have hr':=List.mem_range.1 hr
 have hin:=inL_of (memIn3 p h.1.2 r hr 0 (by simp))
 rw [Int.add_zero] at hin
 refine ext_at (by rw [uponL_len,row_len h hr']) fun j=>?_
 rw [at_uponL (hin.cells hg (by omega)) j,at_row h hr',memRow3 p h.1.2 r hr,List.map_map]
 rfl
theorem col3_diags (h:DataOk p css) (cs:List (List UInt8)) (hcs:cs.length=(p - 1).toNat∧∀ i,i<(p - 1).toNat→(cs[i]?.getD []).length=(firstC css).length):colL 3 p (firstC css).length (css ++ [cs]) (p+1)=diagsMade p (p - 1).toNat css:=by
 have hd:=dataOk_n h
 have hg:=(togOk_grid h.2.2).snoc hcs.1 hcs.2
 unfold colL
 refine Eq.trans ?_ (rfl:(List.range (p - 1).toNat).map (fun (r:Nat)=>xorOf ([adjOf p css] ++ diagOf p r css)) = _)
 refine List.map_congr_left fun r hr=>?_
 have hr':=List.mem_range.1 hr
 have hin:=inL_of (memIn3 p h.1.2 r hr 1 (by simp))
 have hrp:(r:Int)<p:=by omega
 refine ext_at (by rw [uponL_len,diag_len h hrp]) fun j=>?_
 rw [at_uponN (hin.cells hg (by rw [List.length_append];omega)) j,at_diagMade h hrp,xa_perm ((List.isPerm_iff.1 (memDiag3 p h.1.2 r hr)).map _),List.map_append,xa_append]
 have hE:∀ a:Int,xa ((diagAt p a p.toNat).map fun x=>by_ (css ++ [cs]) j x.1 x.2)=dg_ p css j a:=fun a=>by
  unfold dg_
  congr 1
  refine List.map_congr_left fun x hx=>?_
  have:=diagAt_in (by omega) hx
  exact by_left (by omega) j x.2
 rw [hE,hE]
theorem slAt_lt (hp:p∈prm) {s:Int} (h0:0≤s) (h1:s<p) {x:Nat×Nat} (hx:x∈slAt p s):x.1<p.toNat∧x.2<(p - 1).toNat:=by
 unfold slAt at hx
 obtain ⟨z,hz,rfl⟩:=List.mem_map.1 hx
 have:=sl_in hp h0 h1 z hz
 show z.1.toNat < _∧z.2.toNat < _
 omega
theorem col3_slants (h:DataOk p css) (ds:List (List (List UInt8))) (hg:Grid (p - 1).toNat (firstC css).length (css ++ ds)):colL 3 p (firstC css).length (css ++ ds) (p+2)=slMade p css:=by
 have hd:=dataOk_n h
 unfold colL
 refine Eq.trans ?_ (rfl:(List.range (p - 1).toNat).map (fun (r:Nat)=>xorB (slOf p css (r:Int)) (slOf p css (p - 1))) = _)
 refine List.map_congr_left fun r hr=>?_
 have hr':=List.mem_range.1 hr
 have hin:=inL_of (memIn3 p h.1.2 r hr 2 (by simp))
 have hrp:(r:Int)<p:=by omega
 refine ext_at (by rw [uponL_len,slCell_len]) fun j=>?_
 rw [at_uponN (hin.cells hg (by rw [List.length_append];omega)) j,at_slMade h hrp,xa_perm ((List.isPerm_iff.1 (memSlant3 p h.1.2 r hr)).map _),List.map_append,xa_append]
 have hE:∀ s:Int,0≤s→s<p→xa ((slAt p s).map fun x=>by_ (css ++ ds) j x.1 x.2)=sg_ p css j s:=fun s h0 h1=>by
  unfold sg_
  congr 1
  refine List.map_congr_left fun x hx=>?_
  have:=slAt_lt h.1.2 h0 h1 hx
  exact by_left (by omega) j x.2
 rw [hE _ (by omega) (by omega),hE _ (by omega) (by omega)]
theorem steps3 (h:DataOk p css):stepsL 3 p (firstC css).length css 3=css ++ starOf p css:=by
 have hd:=dataOk_n h
 have hg:=togOk_grid h.2.2
 have e0:((css.length:Int)+((0:Nat):Int))=p:=by omega
 have e1:((css.length:Int)+((1:Nat):Int))=p+1:=by omega
 have e2:((css.length:Int)+((2:Nat):Int))=p+2:=by omega
 have hr:(rowsMade (p - 1).toNat css).length=(p - 1).toNat∧∀ i,i<(p - 1).toNat→((rowsMade (p - 1).toNat css)[i]?.getD []).length=(firstC css).length:=⟨rowsMade_len _,fun i hi=>by rw [rowsMade_at h hi];exact row_len h hi⟩
 have hdg:(diagsMade p (p - 1).toNat css).length=(p - 1).toNat∧∀ i,i<(p - 1).toNat→((diagsMade p (p - 1).toNat css)[i]?.getD []).length=(firstC css).length:=⟨diagsMade_len _,fun i hi=>by rw [diagsMade_at h hi];exact diag_len h (by omega)⟩
 have hg2:=(hg.snoc hr.1 hr.2).snoc hdg.1 hdg.2
 rw [List.append_assoc] at hg2
 have hs3:=col3_slants h _ hg2
 rw [←List.append_assoc] at hs3
 show ((css ++ [colL 3 p _ css _]) ++ [colL 3 p _ (css ++ [colL 3 p _ css _]) _]) ++ [colL 3 p _ ((css ++ [colL 3 p _ css _]) ++ [colL 3 p _ (css ++ [colL 3 p _ css _]) _]) _] = _
 rw [e0,e1,e2,col3_rows h,col3_diags h _ hr,hs3,List.append_assoc,List.append_assoc]
 rfl

theorem overOf_len (h0:0<css.length):(overOf css).length=css.length:=by
 unfold overOf
 rw [List.length_append,List.length_take,List.length_reverse,List.length_drop]
 omega
theorem overOf_col {N:Nat} (hN:css.length=N) {c:Nat} (hc:c<N):(overOf css)[c]?.getD []=css[(N - c) % N]?.getD []:=by
 unfold overOf
 rcases Nat.eq_zero_or_pos c with rfl | h1
 · rw [Nat.sub_zero,Nat.mod_self,List.getElem?_append_left (by rw [List.length_take];omega),List.getElem?_take_of_lt (by omega)]
 · rw [Nat.mod_eq_of_lt (by omega),List.getElem?_append_right (by rw [List.length_take];omega),List.length_take,Nat.min_eq_left (by omega),List.getElem?_reverse (by rw [List.length_drop];omega),List.length_drop,List.getElem?_drop]
   congr 2
   omega
theorem over_ok (h:DataOk p css):DataOk p (overOf css)∧firstC (overOf css)=firstC css:=by
 have hd:=dataOk_n h
 obtain ⟨hR,hn,h0,hall⟩:=id h
 have hf:firstC (overOf css)=firstC css:=by
  unfold firstC
  rw [overOf_col hd.1 (by omega),Nat.sub_zero,Nat.mod_self]
 refine ⟨⟨hR,by rw [overOf_len h0];exact hn,by rw [overOf_len h0];exact h0,fun j hj=>?_⟩,hf⟩
 rw [overOf_len h0] at hj
 rw [overOf_col hd.1 (by omega),hf]
 exact hall _ (by rw [hd.1];exact Nat.mod_lt _ (by omega))
theorem by_over (h:DataOk p css) {c:Nat} (hc:c<p.toNat) (j r:Nat):by_ (overOf css) j c r=by_ css j ((p.toNat - c) % p.toNat) r:=by
 unfold by_ cellOf_
 rw [overOf_col (dataOk_n h).1 hc]
theorem dg_over (h:DataOk p css) {k:Int} (h0:0≤k) (h1:k<p) (j:Nat):dg_ p (overOf css) j k=sg_ p css j k:=by
 have hd:=dataOk_n h
 have hp:=diag_over0 p h.1.2 k.toNat (List.mem_range.2 (by omega))
 rw [show ((k.toNat:Nat):Int)=k by omega] at hp
 unfold dg_ sg_
 rw [←xa_perm ((List.isPerm_iff.1 hp).map fun x=>by_ css j x.1 x.2),List.map_map]
 congr 1
 refine List.map_congr_left fun x hx=>?_
 exact by_over h (diagAt_in (by omega) hx).1 j x.2
theorem diags_over (h:DataOk p css):diagsMade p (p - 1).toNat (overOf css)=slMade p css:=by
 have hd:=dataOk_n h
 have ho:=over_ok h
 unfold diagsMade slMade
 refine List.map_congr_left fun r hr=>?_
 rw [List.mem_range] at hr
 refine ext_at (by rw [diag_len ho.1 (by omega),slCell_len,ho.2]) fun j=>?_
 rw [at_diagMade ho.1 (by omega),at_slMade h (by omega),dg_over h (by omega) (by omega),dg_over h (by omega) (by omega),UInt8.xor_comm]
end
end Go.Proofs.YtkllhjhkcipkoaaGreatDoor.T

namespace Go.Proofs.YtkllhjhkcipkoaaGreatDoor.Tr
open Go.RowKit Go.Shelf Go.Maps Go.Proofs.YtkllhjhkcipkoaaGreatDoor.C Go.Proofs.YtkllhjhkcipkoaaGreatDoor.E Go.Proofs.YtkllhjhkcipkoaaGreatDoor.T Go.Proofs.YtkllhjhkcipkoaaGreatDoor.Rg Go.Proofs.YtkllhjhkcipkoaaGreatDoor.Ch

section
variable {P Q n:Nat} {css:List (List (List UInt8))}
theorem t0p {x:Int→UInt8} (h:Per P x):tu 0 x=x:=t0f h.2
theorem btf_turn (d:Dims P Q n) {c:List (List UInt8)} (gc:GoodC Q n c) (b:Int) (j:Nat):Bt P Q n (turnC P Q n c b) j=tu b (Bt P Q n c j):=funext fun r=>bt_turn d.hQ gc b j r
theorem btf_two (d:Dims P Q n) {c e:List (List UInt8)} (gc:GoodC Q n c) (ge:GoodC Q n e) (j:Nat):Bt P Q n (sumC Q [c,e]) j=fun r=>Bt P Q n c j r ^^^ Bt P Q n e j r:=funext fun r=>bt_sum2 d gc ge j r
theorem btf_l (d:Dims P Q n) {c e:List (List UInt8)} (gc:GoodC Q n c) (ge:GoodC Q n e) (y:Int) (j:Nat):Bt P Q n (lT P Q n c e y) j=fun r=>Bt P Q n c j r ^^^ tu y (Bt P Q n e j) r:=by
 unfold lT
 rw [btf_two d gc (turn_good d.h1 d.h64 ge y),btf_turn d ge]
theorem st_slack (d:Dims P Q n) {c:List (List UInt8)} (gc:GoodC Q n c) {b:Int} (hb:b % (P:Int)≠0) (j:Nat) (r:Int):st b (Bt P Q n (slackL P Q (wholeF Q n c) b) j) r=Bt P Q n c j r:=by
 have h:=bt_str d.hQ (slack_good d.hQ d.h1 d.h64 gc b) b j r
 rw [str_slack d.hQ d.hp d.h1 d.h64 gc hb] at h
 exact h.symm
theorem sec_st (d:Dims P Q n) {s0 s1:List (List UInt8)} (g0:GoodC Q n s0) (g1:GoodC Q n s1) {k0 k1 a b:Int} (hne:(k1 * (b - a) - k0 * (b - a)) % (P:Int)≠0) (j:Nat) (r:Int) :
 st (k1 * (b - a) - k0 * (b - a)) (Bt P Q n (secT P Q n s0 s1 k0 k1 a b) j) r=tu (-(k0 * (b - a))) (fun r=>tu (-(k0 * a)) (Bt P Q n s0 j) r ^^^ tu (-(k1 * a)) (Bt P Q n s1 j) r) r:=by
 have t0:=turn_good (P:=P) d.h1 d.h64 g0 (-(k0 * a))
 have t1:=turn_good (P:=P) d.h1 d.h64 g1 (-(k1 * a))
 have gs:=sum2_good d t0 t1
 unfold secT
 rw [st_slack d (turn_good d.h1 d.h64 gs _) hne,btf_turn d gs,btf_two d t0 t1,btf_turn d g0,btf_turn d g1]
theorem col_eq (d:Dims P Q n) {c e:List (List UInt8)} (gc:GoodC Q n c) (ge:GoodC Q n e) (h:∀ j r,Bt P Q n c j r ^^^ Bt P Q n e j r=0):c=e:=col_ext d.hQ gc ge fun j r=>x_of (h j r)
theorem two_told (d:Dims P Q n) {s0 s1 A B:List (List UInt8)} (g0:GoodC Q n s0) (g1:GoodC Q n s1) (gA:GoodC Q n A) (gB:GoodC Q n B) {k0 k1 a b:Int} (hne:(k1 * (b - a) - k0 * (b - a)) % (P:Int)≠0)
 (e0:∀ j r,Bt P Q n s0 j r=tu (k0 * a) (Bt P Q n A j) r ^^^ tu (k0 * b) (Bt P Q n B j) r) (e1:∀ j r,Bt P Q n s1 j r=tu (k1 * a) (Bt P Q n A j) r ^^^ tu (k1 * b) (Bt P Q n B j) r):aT2 P Q n s0 s1 k0 k1 a b=A∧secT P Q n s0 s1 k0 k1 a b=B:=by
 have gS:=sec_good d s0 s1 g0 g1 k0 k1 a b
 have gl:=lT_good d g0 gS (k0 * b)
 have gT:GoodC Q n (aT2 P Q n s0 s1 k0 k1 a b):=turn_good d.h1 d.h64 gl _
 have hd:k1 * (b - a) - k0 * (b - a)=(k1 * b - k1 * a) - (k0 * b - k0 * a):=by rw [Int.mul_sub,Int.mul_sub]
 have key:∀ j,(∀ r,Bt P Q n (aT2 P Q n s0 s1 k0 k1 a b) j r ^^^ Bt P Q n A j r=0)∧∀ r,Bt P Q n (secT P Q n s0 s1 k0 k1 a b) j r ^^^ Bt P Q n B j r=0:=fun j=>by
  have hA:∀ r,Bt P Q n (aT2 P Q n s0 s1 k0 k1 a b) j r=tu (-(k0 * a)) (fun r=>Bt P Q n s0 j r ^^^ tu (k0 * b) (Bt P Q n (secT P Q n s0 s1 k0 k1 a b) j) r) r:=fun r=>by
   unfold aT2
   rw [btf_turn d gl,btf_l d g0 gS]
  have hB:=sec_st d g0 g1 hne j
  rw [hd,show -(k0 * (b - a)) = -(k0 * b - k0 * a) by rw [Int.mul_sub]] at hB
  have f0:=two0 (Bt.per d.hQ s0 j) hA
  have f1:=two1 (Bt.per d.hQ s0 j) (Bt.per d.hQ s1 j) hA hB
  refine two_uni (P:=P) d.hQ d.hp (a0:=k0 * a) (a1:=k1 * a) (b0:=k0 * b) (b1:=k1 * b) (by rw [←hd];exact hne) ((Bt.per d.hQ _ j).add (Bt.per d.hQ _ j)) ((Bt.per d.hQ _ j).add (Bt.per d.hQ _ j)) (fun r=>?_) (fun r=>?_)
  · have h:=f0 r
    rw [e0 j r] at h
    have z:=x_zero h
    rw [taf,taf]
    rw [←z]
    simp only [UInt8.xor_assoc,UInt8.xor_comm,xlc]
  · have h:=f1 r
    rw [e1 j r] at h
    have z:=x_zero h
    rw [taf,taf]
    rw [←z]
    simp only [UInt8.xor_assoc,UInt8.xor_comm,xlc]
 exact ⟨col_eq d gT gA fun j r=>(key j).1 r,col_eq d gS gB fun j r=>(key j).2 r⟩
theorem three_told (d:Dims P Q n) {s0 s1 s2 A B C:List (List UInt8)} (g0:GoodC Q n s0) (g1:GoodC Q n s1) (g2:GoodC Q n s2) (gA:GoodC Q n A) (gB:GoodC Q n B) (gC:GoodC Q n C) {a b c:Int} (hab:(b - a) % (P:Int)≠0) (hac:(c - a) % (P:Int)≠0) (hbc:(b - c) % (P:Int)≠0)
 (e0:∀ j r,Bt P Q n s0 j r=Bt P Q n A j r ^^^ Bt P Q n B j r ^^^ Bt P Q n C j r) (e1:∀ j r,Bt P Q n s1 j r=tu a (Bt P Q n A j) r ^^^ tu b (Bt P Q n B j) r ^^^ tu c (Bt P Q n C j) r) (e2:∀ j r,Bt P Q n s2 j r=tu (-a) (Bt P Q n A j) r ^^^ tu (-b) (Bt P Q n B j) r ^^^ tu (-c) (Bt P Q n C j) r) :
 aT3 P Q n s0 s1 s2 a b c=A∧bT3 P Q n s0 s1 s2 a b c=B∧cT3 P Q n s0 s1 s2 a b c=C:=by
 have g3:GoodC Q n (cT3 P Q n s0 s1 s2 a b c):=third_good d s0 s1 s2 g0 g1 g2 a b c
 have gl0:=lT_good d g0 g3 (0 * c)
 have gl1:=lT_good d g1 g3 (1 * c)
 have gb:GoodC Q n (bT3 P Q n s0 s1 s2 a b c):=sec_good d _ _ gl0 gl1 0 1 a b
 have gl2:=lT_good d gl0 gb (0 * b)
 have ga:GoodC Q n (aT3 P Q n s0 s1 s2 a b c):=turn_good d.h1 d.h64 gl2 _
 have gt0:=turn_good (P:=P) d.h1 d.h64 g0 (-(0 * a))
 have gt1:=turn_good (P:=P) d.h1 d.h64 g1 (-(1 * a))
 have gt2:=turn_good (P:=P) d.h1 d.h64 g2 (-(-1 * a))
 have gR:GoodC Q n (rowsT P Q n s0 s1 a):=sum2_good d gt0 gt1
 have gS0:=sum2_good d gt0 gt2
 have gS:GoodC Q n (slantsT P Q n s0 s2 a):=turn_good d.h1 d.h64 gS0 _
 have gK:=sec_good d _ _ gR gS 0 (-1) b c
 have key:∀ j,(∀ r,Bt P Q n (aT3 P Q n s0 s1 s2 a b c) j r ^^^ Bt P Q n A j r=0)∧(∀ r,Bt P Q n (bT3 P Q n s0 s1 s2 a b c) j r ^^^ Bt P Q n B j r=0)∧∀ r,Bt P Q n (cT3 P Q n s0 s1 s2 a b c) j r ^^^ Bt P Q n C j r=0:=fun j=>by
  have p0:=Bt.per d.hQ s0 (n:=n) j
  have p1:=Bt.per d.hQ s1 (n:=n) j
  have p2:=Bt.per d.hQ s2 (n:=n) j
  have pc:=Bt.per d.hQ (cT3 P Q n s0 s1 s2 a b c) (n:=n) j
  have pb:=Bt.per d.hQ (bT3 P Q n s0 s1 s2 a b c) (n:=n) j
  have hK:∀ r,st (-(c - b)) (Bt P Q n (secT P Q n (rowsT P Q n s0 s1 a) (slantsT P Q n s0 s2 a) 0 (-1) b c) j) r=Bt P Q n s0 j r ^^^ tu (-a) (Bt P Q n s1 j) r ^^^ tu (b - a) (fun r=>Bt P Q n s0 j r ^^^ tu a (Bt P Q n s2 j) r) r:=fun r=>by
   have h:=sec_st d gR gS (k0:=0) (k1:=-1) (a:=b) (b:=c) (by rw [show -1 * (c - b) - 0 * (c - b)=b - c by omega];exact hbc) j r
   rw [show -1 * (c - b) - 0 * (c - b) = -(c - b) by omega] at h
   rw [h]
   unfold rowsT slantsT
   rw [btf_turn d gS0,btf_two d gt0 gt1,btf_two d gt0 gt2,btf_turn d g0,btf_turn d g1,btf_turn d g2]
   rw [show -(0 * (c - b))=0 by omega,show -(0 * b)=0 by omega,show -(0 * a)=0 by omega,show -(1 * a) = -a by omega,show -(-1 * a)=a by omega,show -(-1 * b)=b by omega,tuf,show -a+b=b - a by omega]
   rw [t0p p0]
   rw [t0p (p0.add (p1.tu (-a)))]
   rw [t0p ((p0.add (p1.tu (-a))).add ((p0.add (p2.tu a)).tu (b - a)))]
  have hC:∀ r,st (c - a) (Bt P Q n (cT3 P Q n s0 s1 s2 a b c) j) r=Bt P Q n (secT P Q n (rowsT P Q n s0 s1 a) (slantsT P Q n s0 s2 a) 0 (-1) b c) j r:=fun r=>st_slack d gK hac j r
  have hB:∀ r,st (b - a) (Bt P Q n (bT3 P Q n s0 s1 s2 a b c) j) r=(Bt P Q n s0 j r ^^^ Bt P Q n (cT3 P Q n s0 s1 s2 a b c) j r) ^^^ tu (-a) (fun r=>Bt P Q n s1 j r ^^^ tu c (Bt P Q n (cT3 P Q n s0 s1 s2 a b c) j) r) r:=fun r=>by
   have h:=sec_st d gl0 gl1 (k0:=0) (k1:=1) (a:=a) (b:=b) (by rw [show 1 * (b - a) - 0 * (b - a)=b - a by omega];exact hab) j r
   rw [show 1 * (b - a) - 0 * (b - a)=b - a by omega] at h
   refine h.trans ?_
   rw [btf_l d g0 g3,btf_l d g1 g3,show -(0 * (b - a))=0 by omega,show -(0 * a)=0 by omega,show 0 * c=0 by omega,show -(1 * a) = -a by omega,show 1 * c=c by omega,t0p pc]
   rw [t0p (p0.add pc)]
   rw [t0p ((p0.add pc).add ((p1.add (pc.tu c)).tu (-a)))]
  have hA:∀ r,Bt P Q n (aT3 P Q n s0 s1 s2 a b c) j r=(Bt P Q n s0 j r ^^^ Bt P Q n (cT3 P Q n s0 s1 s2 a b c) j r) ^^^ Bt P Q n (bT3 P Q n s0 s1 s2 a b c) j r:=fun r=>by
   show Bt P Q n (turnC P Q n (lT P Q n (lT P Q n s0 (cT3 P Q n s0 s1 s2 a b c) (0 * c)) (bT3 P Q n s0 s1 s2 a b c) (0 * b)) (-(0 * a))) j r = _
   rw [btf_turn d gl2,btf_l d gl0 gb,btf_l d g0 g3,show 0 * c=0 by omega,show 0 * b=0 by omega,show -(0 * a)=0 by omega,t0p pc,t0p pb]
   rw [t0p ((p0.add pc).add pb)]
  have f2:=three2 p0 p1 p2 pc pb hK hC hB hA
  have q0:=p0.add pc
  have q1:=p1.add (pc.tu c)
  have f1:=two1 (P:=P) (a0:=0) (a1:=a) (b0:=0) (b1:=b) (s0:=fun r=>Bt P Q n s0 j r ^^^ Bt P Q n (cT3 P Q n s0 s1 s2 a b c) j r) (s1:=fun r=>Bt P Q n s1 j r ^^^ tu c (Bt P Q n (cT3 P Q n s0 s1 s2 a b c) j) r) (A:=Bt P Q n (aT3 P Q n s0 s1 s2 a b c) j) (B:=Bt P Q n (bT3 P Q n s0 s1 s2 a b c) j) q0 q1 (fun r=>by
   rw [show (-0:Int)=0 by omega,t0p pb,t0p (q0.add pb)];exact hA r) (fun r=>by
   rw [show b - a - (0 - 0)=b - a by omega,show (-(0 - 0):Int)=0 by omega,show (-0:Int)=0 by omega,t0p q0,t0p (q0.add (q1.tu (-a)))];exact hB r)
  refine three_uni (P:=P) d.hQ d.hp (a:=a) (b:=b) (c:=c) hab hac hbc ((Bt.per d.hQ _ j).add (Bt.per d.hQ _ j)) ((Bt.per d.hQ _ j).add (Bt.per d.hQ _ j)) ((Bt.per d.hQ _ j).add (Bt.per d.hQ _ j)) (fun r=>?_) (fun r=>?_) (fun r=>?_)
  · have h:=hA r
    rw [e0 j r] at h
    have z:=x_zero h
    rw [←z]
    simp only [UInt8.xor_assoc,UInt8.xor_comm,xlc,xx,UInt8.xor_self,UInt8.xor_zero,UInt8.zero_xor]
  · have h:=f1 r
    rw [e1 j r] at h
    have z:=x_zero h
    rw [taf,taf,taf]
    rw [←z]
    simp only [UInt8.xor_assoc,UInt8.xor_comm,xlc,xx,UInt8.xor_self,UInt8.xor_zero,UInt8.zero_xor]
  · have h:=f2 r
    rw [e2 j r] at h
    have z:=x_zero h
    rw [taf,taf,taf]
    rw [←z]
    simp only [UInt8.xor_assoc,UInt8.xor_comm,xlc,xx,UInt8.xor_self,UInt8.xor_zero,UInt8.zero_xor]
 exact ⟨col_eq d ga gA fun j r=>(key j).1 r,col_eq d gb gB fun j r=>(key j).2.1 r,col_eq d g3 gC fun j r=>(key j).2.2 r⟩
theorem one_told (d:Dims P Q n) {s A:List (List UInt8)} (gs:GoodC Q n s) (gA:GoodC Q n A) {y:Int} (e:∀ j r,Bt P Q n s j r=tu y (Bt P Q n A j) r):s=turnC P Q n A y∧turnC P Q n s (-y)=A:=by
 refine ⟨col_ext d.hQ gs (turn_good d.h1 d.h64 gA y) fun j r=>?_,col_ext d.hQ (turn_good d.h1 d.h64 gs _) gA fun j r=>?_⟩
 · rw [e j r,btf_turn d gA]
 · rw [btf_turn d gs,show Bt P Q n s j=tu y (Bt P Q n A j) from funext (e j),tuf,show y+-y=0 by omega,t0f (Bt.per d.hQ A j).2]
end
end Go.Proofs.YtkllhjhkcipkoaaGreatDoor.Tr

namespace Go.Proofs.YtkllhjhkcipkoaaGreatDoor.Tr
open Go.RowKit Go.Shelf Go.Maps Go.Proofs.YtkllhjhkcipkoaaGreatDoor.C Go.Proofs.YtkllhjhkcipkoaaGreatDoor.E Go.Proofs.YtkllhjhkcipkoaaGreatDoor.T Go.Proofs.YtkllhjhkcipkoaaGreatDoor.Rg Go.Proofs.YtkllhjhkcipkoaaGreatDoor.Ch

section
variable {P Q n:Nat} {css cs2:List (List (List UInt8))} {L rs:List Int}
theorem tu_cong {P:Nat} {x:Int→UInt8} (h:Per P x) {a b:Int} (e:a % (P:Int)=b % (P:Int)) (r:Int):tu a x r=tu b x r:=by
 unfold tu
 rw [h.1 (r - a) (r - b) (by rw [Int.sub_emod,e,←Int.sub_emod]),h.1 (-1 - a) (-1 - b) (by rw [Int.sub_emod,e,←Int.sub_emod])]
theorem slMade_diags (hok:DataOk (P:Int) css) (hQ:P=Q+1):slMade (P:Int) css=diagsMade (P:Int) Q (overOf css):=by
 have h:=diags_over hok
 rw [show ((P:Int) - 1).toNat=Q by omega] at h
 exact h.symm
theorem bt_slants (d:Dims P Q n) (hok:DataOk (P:Int) css) (hn:(firstC css).length=n) (j:Nat) (r:Int):Bt P Q n (slMade (P:Int) css) j r=xa ((List.range P).map fun c:Nat=>tu (-1 * (c:Int)) (Bt P Q n (css[c]?.getD []) j) r):=by
 have hov:=over_ok hok
 have hl:=(dataOk_n hok).1
 rw [show (P:Int).toNat=P from Int.toNat_natCast P] at hl
 have hpb:=prm_bounds d.hp
 rw [slMade_diags hok d.hQ,bt_diags d hov.1 (by rw [hov.2];exact hn)]
 have hp:((List.range P).map fun c=>(P - c) % P).Perm (List.range P):=by
  have h:=range_over0 (P:Int) d.hp
  rw [show (P:Int).toNat=P from Int.toNat_natCast P] at h
  exact List.isPerm_iff.1 h
 refine Eq.trans ?_ (xa_perm (hp.map fun c:Nat=>tu (-1 * (c:Int)) (Bt P Q n (css[c]?.getD []) j) r))
 rw [List.map_map]
 congr 1
 refine List.map_congr_left fun c hc=>?_
 have hc':=List.mem_range.1 hc
 show tu (c:Int) (Bt P Q n ((overOf css)[c]?.getD []) j) r=tu (-1 * (((P - c) % P:Nat):Int)) (Bt P Q n (css[(P - c) % P]?.getD []) j) r
 rw [overOf_col hl hc']
 refine tu_cong (Bt.per d.hQ _ j) ?_ r
 rcases Nat.eq_zero_or_pos c with rfl | h1
 · rw [Nat.sub_zero,Nat.mod_self];rfl
 · rw [Nat.mod_eq_of_lt (by omega),show -1 * ((P - c:Nat):Int)=(c:Int)+(P:Int) * (-1) by omega,Int.add_mul_emod_self_left]
theorem slMade_good (d:Dims P Q n) (hok:DataOk (P:Int) css) (hn:(firstC css).length=n):GoodC Q n (slMade (P:Int) css):=by
 have hov:=over_ok hok
 rw [slMade_diags hok d.hQ]
 exact diagsMade_good d hov.1 (by rw [hov.2];exact hn)
def roleC (P Q:Nat) (css:List (List (List UInt8))) (r:Int):List (List UInt8):=if r=2 then rowsMade Q css else if r=3 then diagsMade (P:Int) Q css else slMade (P:Int) css
theorem roleC_good (d:Dims P Q n) (hok:DataOk (P:Int) css) (hn:(firstC css).length=n) (r:Int):GoodC Q n (roleC P Q css r):=by
 unfold roleC
 split
 · exact rowsMade_good d hok hn
 · split
   · exact diagsMade_good d hok hn
   · exact slMade_good d hok hn
theorem bt_role (d:Dims P Q n) (hok:DataOk (P:Int) css) (hn:(firstC css).length=n) {s:Int} (hs:IsRole s) (j:Nat) (r:Int):Bt P Q n (roleC P Q css s) j r=xa ((List.range P).map fun c:Nat=>tu (kOf s * (c:Int)) (Bt P Q n (css[c]?.getD []) j) r):=by
 have h3:s=2∨s=3∨s=4:=by obtain ⟨h1,h2⟩:=hs;omega
 rcases h3 with rfl | rfl | rfl
 · refine (bt_rows d hok hn j r).trans ?_
   congr 1
   refine List.map_congr_left fun c _=>?_
   show _=tu (0 * (c:Int)) _ r
   rw [show 0 * (c:Int)=0 by omega,t0p (Bt.per d.hQ _ j)]
 · refine (bt_diags d hok hn j r).trans ?_
   congr 1
   refine List.map_congr_left fun c _=>?_
   show _=tu (1 * (c:Int)) _ r
   rw [show 1 * (c:Int)=c by omega]
 · exact bt_slants d hok hn j r
structure Bad3 (P Q n:Nat) (css cs2:List (List (List UInt8))) (L rs:List Int):Prop where
 hok:DataOk (P:Int) css
 hn:(firstC css).length=n
 hl:cs2.length=P+3
 hd:∀ c:Nat,c<P→(c:Int)∉L→cs2[c]?.getD []=css[c]?.getD []
 hr:∀ r∈rs,IsRole r∧cs2[P+(r - 2).toNat]?.getD []=roleC P Q css r
theorem Bad3.goodD (d:Dims P Q n) (h:Bad3 P Q n css cs2 L rs):∀ i:Nat,i<P→(i:Int)∉L→GoodC Q n (cs2[i]?.getD []):=fun i hi hm=>by
 rw [h.hd i hi hm];exact good_of d h.hok h.hn i hi
theorem Bad3.goodR (d:Dims P Q n) (h:Bad3 P Q n css cs2 L rs):∀ r∈rs,GoodC Q n (cs2[P+(r - 2).toNat]?.getD []):=fun r hr=>by
 rw [(h.hr r hr).2];exact roleC_good d h.hok h.hn r
theorem Bad3.sh (d:Dims P Q n) (h:Bad3 P Q n css cs2 L rs) {s:Int} (hs:s∈rs) (j:Nat) (r:Int) :
 Bt P Q n (shT P Q n cs2 (cs2[P+(s - 2).toNat]?.getD []) (kOf s) L) j r=xa ((List.range P).map fun c:Nat=>tu (kOf s * (c:Int)) (Bt P Q n (css[c]?.getD []) j) r) ^^^ xa ((List.range P).map fun c:Nat=>if (c:Int)∈L then 0 else tu (kOf s * (c:Int)) (Bt P Q n (css[c]?.getD []) j) r):=by
 rw [bt_sh d (h.goodR d s hs) (h.goodD d)]
 congr 1
 · rw [(h.hr s hs).2];exact bt_role d h.hok h.hn (h.hr s hs).1 j r
 · congr 1
   refine List.map_congr_left fun c hc=>?_
   by_cases hm:(c:Int)∈L
   · rw [if_pos hm,if_pos hm]
   · rw [if_neg hm,if_neg hm,h.hd c (List.mem_range.1 hc) hm]
theorem xa_lack3 (P a b c:Nat) (ha:a<P) (hb:b<P) (hc:c<P) (hab:a≠b) (hac:a≠c) (hbc:b≠c) (f:Nat→UInt8):xa ((List.range P).map f) ^^^ xa ((List.range P).map fun i:Nat=>if (i:Int)∈[(a:Int),(b:Int),(c:Int)] then 0 else f i)=f a ^^^ f b ^^^ f c:=by
 rw [←xa_add,←xa_one P a ha f,←xa_one P b hb f,←xa_one P c hc f,←xa_add,←xa_add]
 congr 1
 refine List.map_congr_left fun i _=>?_
 by_cases h1:i=a
 · subst h1
   rw [if_pos (by simp),if_pos rfl,if_neg hab,if_neg hac,UInt8.xor_zero,UInt8.xor_zero]
 · by_cases h2:i=b
   · subst h2
     rw [if_pos (by simp),if_pos rfl,if_neg (fun h=>hab h.symm),if_neg hbc,UInt8.xor_zero,UInt8.xor_zero,UInt8.zero_xor]
   · by_cases h3:i=c
     · subst h3
       rw [if_pos (by simp),if_pos rfl,if_neg (fun h=>hac h.symm),if_neg (fun h=>hbc h.symm),UInt8.xor_zero,UInt8.zero_xor,UInt8.zero_xor]
     · rw [if_neg (by simp;omega),if_neg h1,if_neg h2,if_neg h3,UInt8.xor_self];rfl
theorem Bad3.three (d:Dims P Q n) {a b c:Nat} (hab:a<b) (hbc:b<c) (hc:c<P) (h:Bad3 P Q n css cs2 [(a:Int),(b:Int),(c:Int)] [2,3,4]) :
 [aT3 P Q n (shT P Q n cs2 (cs2[P+((2:Int) - 2).toNat]?.getD []) (0) [(a:Int),(b:Int),(c:Int)]) (shT P Q n cs2 (cs2[P+((3:Int) - 2).toNat]?.getD []) (1) [(a:Int),(b:Int),(c:Int)]) (shT P Q n cs2 (cs2[P+((4:Int) - 2).toNat]?.getD []) (-1) [(a:Int),(b:Int),(c:Int)]) a b c,bT3 P Q n (shT P Q n cs2 (cs2[P+((2:Int) - 2).toNat]?.getD []) (0) [(a:Int),(b:Int),(c:Int)]) (shT P Q n cs2 (cs2[P+((3:Int) - 2).toNat]?.getD []) (1) [(a:Int),(b:Int),(c:Int)]) (shT P Q n cs2 (cs2[P+((4:Int) - 2).toNat]?.getD []) (-1) [(a:Int),(b:Int),(c:Int)]) a b c,cT3 P Q n (shT P Q n cs2 (cs2[P+((2:Int) - 2).toNat]?.getD []) (0) [(a:Int),(b:Int),(c:Int)]) (shT P Q n cs2 (cs2[P+((3:Int) - 2).toNat]?.getD []) (1) [(a:Int),(b:Int),(c:Int)]) (shT P Q n cs2 (cs2[P+((4:Int) - 2).toNat]?.getD []) (-1) [(a:Int),(b:Int),(c:Int)]) a b c] = [css[a]?.getD [],css[b]?.getD [],css[c]?.getD []]:=by
 have g:=fun (s:Int) (hs:s∈([2,3,4]:List Int))=>sh_good (k:=kOf s) d (h.goodR d s hs) (h.goodD d)
 have e:=fun (s:Int) (hs:s∈([2,3,4]:List Int)) (j:Nat) (r:Int)=>(h.sh d hs j r).trans (xa_lack3 P a b c (by omega) (by omega) hc (by omega) (by omega) (by omega) fun i=>tu (kOf s * (i:Int)) (Bt P Q n (css[i]?.getD []) j) r)
 obtain ⟨t1,t2,t3⟩:=three_told d (g 2 (by simp)) (g 3 (by simp)) (g 4 (by simp)) (good_of d h.hok h.hn a (by omega)) (good_of d h.hok h.hn b (by omega)) (good_of d h.hok h.hn c hc) (a:=a) (b:=b) (c:=c)
  (sub_mod_ne (by omega) (by omega) (by omega)) (sub_mod_ne (by omega) (by omega) (by omega)) (fun hz=>sub_mod_ne (P:=P) (a:=(b:Int)) (b:=(c:Int)) (by omega) (by omega) (by omega) (by
   have h1:=Int.dvd_of_emod_eq_zero hz
   rw [show (c:Int) - b = -((b:Int) - c) by omega]
   exact Int.emod_eq_zero_of_dvd (Int.dvd_neg.2 h1)))
  (fun j r=>(e 2 (by simp) j r).trans (by
   show tu (0 * (a:Int)) _ r ^^^ tu (0 * (b:Int)) _ r ^^^ tu (0 * (c:Int)) _ r = _
   rw [show 0 * (a:Int)=0 by omega,show 0 * (b:Int)=0 by omega,show 0 * (c:Int)=0 by omega,t0p (Bt.per d.hQ _ j),t0p (Bt.per d.hQ _ j),t0p (Bt.per d.hQ _ j)]))
  (fun j r=>(e 3 (by simp) j r).trans (by
   show tu (1 * (a:Int)) _ r ^^^ tu (1 * (b:Int)) _ r ^^^ tu (1 * (c:Int)) _ r = _
   rw [show 1 * (a:Int)=a by omega,show 1 * (b:Int)=b by omega,show 1 * (c:Int)=c by omega]))
  (fun j r=>(e 4 (by simp) j r).trans (by
   show tu (-1 * (a:Int)) _ r ^^^ tu (-1 * (b:Int)) _ r ^^^ tu (-1 * (c:Int)) _ r = _
   rw [show -1 * (a:Int) = -a by omega,show -1 * (b:Int) = -b by omega,show -1 * (c:Int) = -c by omega]))
 rw [←t1,←t2,←t3]
 rfl
theorem Bad3.two (d:Dims P Q n) {a b:Nat} {s:Int} (hs:IsRole s) (hab:a<b) (hb:b<P) (h:Bad3 P Q n css cs2 [(a:Int),(b:Int)] (butL s)) :
 [aT2 P Q n (shT P Q n cs2 (cs2[P+(((butL s)[0]?.getD 0) - 2).toNat]?.getD []) (kOf ((butL s)[0]?.getD 0)) [(a:Int),(b:Int)]) (shT P Q n cs2 (cs2[P+(((butL s)[1]?.getD 0) - 2).toNat]?.getD []) (kOf ((butL s)[1]?.getD 0)) [(a:Int),(b:Int)]) (kOf ((butL s)[0]?.getD 0)) (kOf ((butL s)[1]?.getD 0)) a b,secT P Q n (shT P Q n cs2 (cs2[P+(((butL s)[0]?.getD 0) - 2).toNat]?.getD []) (kOf ((butL s)[0]?.getD 0)) [(a:Int),(b:Int)]) (shT P Q n cs2 (cs2[P+(((butL s)[1]?.getD 0) - 2).toNat]?.getD []) (kOf ((butL s)[1]?.getD 0)) [(a:Int),(b:Int)]) (kOf ((butL s)[0]?.getD 0)) (kOf ((butL s)[1]?.getD 0)) a b] = [css[a]?.getD [],css[b]?.getD []]:=by
 have hne:=but_ne d.hp hs (a:=a) (b:=b) (by omega) (by omega) (by omega)
 obtain ⟨y0,y1,hxy⟩:=but_two hs
 rw [hxy] at h hne ⊢
 have g:=fun (s:Int) (hs:s∈([y0,y1]:List Int))=>sh_good (k:=kOf s) d (h.goodR d s hs) (h.goodD d)
 have e:=fun (s:Int) (hs:s∈([y0,y1]:List Int)) (j:Nat) (r:Int)=>(h.sh d hs j r).trans (xa_lack2 P a b (by omega) hb (by omega) fun i=>tu (kOf s * (i:Int)) (Bt P Q n (css[i]?.getD []) j) r)
 obtain ⟨t1,t2⟩:=two_told d (g y0 (by simp)) (g y1 (by simp)) (good_of d h.hok h.hn a (by omega)) (good_of d h.hok h.hn b (by omega)) (a:=a) (b:=b) (k0:=kOf y0) (k1:=kOf y1) hne (e y0 (by simp)) (e y1 (by simp))
 rw [←t1,←t2]
 rfl
theorem Bad3.one (d:Dims P Q n) {a:Nat} {s:Int} (ha:a<P) (h:Bad3 P Q n css cs2 [(a:Int)] [s]) :
 (shT P Q n cs2 (cs2[P+(s - 2).toNat]?.getD []) (kOf s) [(a:Int)])=turnC P Q n (css[a]?.getD []) (kOf s * (a:Int))∧turnC P Q n (shT P Q n cs2 (cs2[P+(s - 2).toNat]?.getD []) (kOf s) [(a:Int)]) (-(kOf s * (a:Int)))=css[a]?.getD [] :=
 one_told d (sh_good d (h.goodR d s (by simp)) (h.goodD d)) (good_of d h.hok h.hn a ha) fun j r=>(h.sh d (by simp) j r).trans (xa_lack1 P a ha (fun c _=>by rw [List.mem_singleton];omega) fun i=>tu (kOf s * (i:Int)) (Bt P Q n (css[i]?.getD []) j) r)
end
end Go.Proofs.YtkllhjhkcipkoaaGreatDoor.Tr

namespace Go.Proofs.YtkllhjhkcipkoaaGreatDoor.T
open Go.RowKit Go.Shelf Go.Maps Go.Proofs.YtkllhjhkcipkoaaGreatDoor.C Go.Proofs.YtkllhjhkcipkoaaGreatDoor.E Go.Proofs.YtkllhjhkcipkoaaGreatDoor.Ch
attribute [local go_sem] Oper.semAt_some

theorem dimsW:Rg.Dims 3 2 1:=⟨rfl,by decide,by decide,by decide⟩
theorem good_W (x y:UInt8):GoodC 2 1 [[x],[y]]:=⟨rfl,fun k hk=>(by
 have hk2:k=0∨k=1:=by omega
 rcases hk2 with rfl | rfl <;> exact ⟨⟨by show 1≤1;omega,by show 1≤64;omega⟩,rfl⟩)⟩
theorem byte_W {W:World} {g:Nat} {x:UInt8} (h:Blk W g 5 #[.int .u8 (x.toNat:Int)]):Bytes W.heap.size W (.slice (some ⟨g,0,none⟩) 1 1) [x] :=
 ⟨_,1,rfl,Nat.le_refl _,fun _=>⟨g,0,rfl,h.lt,fun j hj=>by obtain rfl:j=0:=(by have:j<1:=hj;omega);exact h.cell _⟩⟩
theorem many_W {W:World} {g ga gb:Nat} {x y:UInt8} (h:Blk W g 60 #[.slice (some ⟨ga,0,none⟩) 1 1,.slice (some ⟨gb,0,none⟩) 1 1]) (ha:Blk W ga 5 #[.int .u8 (x.toNat:Int)]) (hb:Blk W gb 5 #[.int .u8 (y.toNat:Int)]):Many W.heap.size W (.slice (some ⟨g,0,none⟩) 2 2) [[x],[y]]:=many2 h (byte_W ha) (byte_W hb) h.lt
end Go.Proofs.YtkllhjhkcipkoaaGreatDoor.T

namespace Go.Proofs.YtkllhjhkcipkoaaGreatDoor.Ch
open Go.RowKit Go.Shelf Go.Proofs.YtkllhjhkcipkoaaGreatDoor.C Go.Proofs.YtkllhjhkcipkoaaGreatDoor.E Go.Proofs.YtkllhjhkcipkoaaGreatDoor.T

theorem sub_mod_ne {P:Nat} {a b:Int} (ha:0≤a) (hab:a<b) (hb:b<(P:Int)):(b - a) % (P:Int)≠0:=by rw [Int.emod_eq_of_lt (by omega) (by omega)];omega
section
variable {P Q n:Nat} {x y:List (List (List UInt8))} {L:List Int}
end
theorem app_far {W U:World} {base:Nat} {v x:Value} {css ds:List (List (List UInt8))} (hU:Below W.heap.size W U) (hb:W.heap.size≤base) (hrow:RowC (fun _=>True) U base v css) (hx:Cols W.heap.size U x ds):colsR.R (fun b=>b<U.heap.size∧some b≠v.ownBlock∧True) U x ds :=
 colsR.imp (colsR_iff.2 hx) fun b hb2=>by
  have h1:b<W.heap.size:=hb2
  have h2:=hU.size
  exact ⟨by omega,fun e=>by have:=RowG.own_le hrow b e.symm;omega,trivial⟩
end Go.Proofs.YtkllhjhkcipkoaaGreatDoor.Ch

namespace Go.Proofs.YtkllhjhkcipkoaaGreatDoor
open Go.RowKit Go.Shelf

def atV (x:Int×Int):Value:=.agg #[.int .i64 x.1,.int .i64 x.2]
def AtMap (W:World) (b:Nat) (l:List (Int×Int)):Prop:=∃ es ck,W.heap[b]?=some (.map es ck)∧∀ e∈es.toList,∃ y∈l,e.key=atV y
theorem AtMap.made (w:World):AtMap (w.alloc (.map #[] 0)) w.heap.size []:=⟨#[],0,by show (w.heap.push (.map #[] 0))[w.heap.size]? = _;exact Array.getElem?_push_size,fun e he=>by simp at he⟩
theorem AtMap.lt {W:World} {b:Nat} {l:List (Int×Int)} (h:AtMap W b l):b<W.heap.size:=by
 obtain ⟨es,ck,h1,_⟩:=h
 exact (Array.getElem?_eq_some_iff.1 h1).1
theorem AtMap.below {X Y:World} {B b:Nat} {l:List (Int×Int)} (h:AtMap X b l) (hb:Below B X Y) (hB:b<B):AtMap Y b l:=by
 obtain ⟨es,ck,hh,hF⟩:=h
 exact ⟨es,ck,(hb.block b hB).trans hh,hF⟩
theorem AtMap.keep {X Y:World} {b:Nat} {l:List (Int×Int)} (h:AtMap X b l) (hb:Y.heap[b]?=X.heap[b]?):AtMap Y b l:=by
 obtain ⟨es,ck,hh,hF⟩:=h
 exact ⟨es,ck,hb.trans hh,hF⟩
end Go.Proofs.YtkllhjhkcipkoaaGreatDoor

namespace Go.Proofs.YtkllhjhkcipkoaaGreatDoor.E
open Go.RowKit Go.Shelf Go.Proofs.YtkllhjhkcipkoaaGreatDoor.C

theorem xors_next (z:List UInt8) (ls:List (List UInt8)) {k:Nat} (hk:k<ls.length):xors z (ls.take (k+1))=xorB (xors z (ls.take k)) (ls[k]?.getD []):=by
 unfold xors
 rw [List.take_add_one,List.foldl_append,List.getElem?_eq_getElem hk]
 rfl
theorem uponL_next (n:Nat) (css:List (List (List UInt8))) (l:List (Int×Int)) {k:Nat} (hk:k<l.length):uponL n css (l.take (k+1))=xorB (uponL n css (l.take k)) (cellI css l[k]):=by
 unfold uponL
 rw [List.map_take,xors_next _ _ (by rw [List.length_map];exact hk),List.map_take,List.getElem?_map,List.getElem?_eq_getElem hk]
 rfl
theorem nought6_fresh (n:Nat) (hn:n≤1000) (w:World):Calls Tryz.prog 38 #[.int .i64 (n:Int)] w fun e w'=>∃ u,e = .returned u∧Fresh w.heap.size w' u (List.replicate n 0)∧Below w.heap.size w w':=by
 obtain ⟨i0,hi,hz0,hz1,hz2⟩:=info_parts Tryz.infoByte
 have hmk:=fun W:World=>run_make (P:=Tryz.prog) W 60 5 i0 (.int .u8 0) Tryz.underlying60 hi hz0 .i64 .i64 (n:Int) (n:Int) (by omega) (by omega) (by rw [hz2];omega) (by omega)
 simp only [hz1,Nat.mul_one,Int.toNat_natCast] at hmk
 have hR:=Row.made w n
 have hBz:=below_one w (.cells (madeCells #[.int .u8 0] n) 5)
 go_enter Tryz.func38,Tryz.ntmps38
 go_wp2
 go_ret
 exact ⟨_,rfl,Row.fresh hR (Nat.le_refl _) (by simp),hBz⟩
theorem upon6_any {B:Nat} (vs vl:Value) (css:List (List (List UInt8))) (l:List (Int×Int)) (R n:Nat) (w:World) (hB:B≤w.heap.size) (hC:Cols B w vs css) (hl:ReadA w vl l) (hg:Grid R n css) (hin:inL R css.length l) (hn:n≤1000) (hll:l.length≤1000) (hcl:css.length≤1000) (hR:R≤1000) :
 Calls Tryz.prog 48 #[vs,vl,.int .i64 (n:Int)] w fun e w'=>∃ u,e = .returned u∧Fresh w.heap.size w' u (uponL n css l)∧Below w.heap.size w w':=by
 obtain ⟨A,cap,rfl,_,_⟩:=id hC
 obtain ⟨Al,capl,rfl,hRd⟩:=hl
 have HR1:=Lib.hid hRd
 have HCC:=Lib.hid hC
 have HG:=Lib.hid hg
 have HIN:=Lib.hid hin
 obtain ⟨N,hN⟩:∃ N,l.length=N:=⟨_,rfl⟩
 obtain ⟨C,hCn⟩:∃ C,css.length=C:=⟨_,rfl⟩
 have HN:=Lib.hid hN
 have HCN:=Lib.hid hCn
 rw [hN] at hll
 rw [hCn] at hcl
 rw [hN,hCn]
 have HNO:=Lib.hid (fun (U:World)=>nought6_fresh n hn U)
 have HNX:Hid (∀ k,k<N→∀ hk:k<l.length,uponL n css (l.take (k+1))=xorB (uponL n css (l.take k)) (cellI css l[k])):=fun k _ hk=>uponL_next n css l hk
 have HE:Hid (uponL n css (l.take N)=uponL n css l):=by unfold Hid;rw [←hN,List.take_length]
 have HLN:Hid (∀ k,(uponL n css (l.take k)).length=n):=fun k=>uponL_len n css _
 clear hN hCn hC hRd hg hin
 go_enter Tryz.func48,Tryz.ntmps48
 go_wp2_with (go_at_call 38;refine (HNO.out _).mono ?_;rintro e w1 ⟨u0,rfl,hu0,hB1⟩)
 go_loopw [7,8] (fun v i wr=>∃ j:Nat,j≤N∧i = .int .i64 j∧Fresh w.heap.size wr v (uponL n css (l.take j))∧Below w.heap.size w wr) (fun _ i _=>N - (intOf i).toNat)
 case atStart=>exact ⟨0,by omega,rfl,hu0,hB1⟩
 case round =>
  clear hu0 hB1
  obtain ⟨j,hj,rfl,hu,hBr⟩:=hrel
  by_cases hlt:j<N
  · have hdec:decide ((j:Int)<(N:Int))=true:=by simp;omega
    have hjs:j<l.length:=by rw [HN.out];exact hlt
    have hnx:=HNX.out j hlt hjs
    obtain ⟨g1,rfl,hg1,x0,x1⟩:=HR1.out j hjs
    obtain ⟨hz1,hz2⟩:=HIN.out l[j] (List.getElem_mem hjs)
    have hlen:=HLN.out j
    clear HR1 HIN HNX
    generalize l[j]=z at *
    obtain ⟨zx,zy⟩:=z
    simp only at hz1 hz2 x0 x1
    rw [HCN.out] at hz1
    obtain ⟨X,rfl⟩:∃ X:Nat,zx=(X:Int):=⟨zx.toNat,by omega⟩
    obtain ⟨Y,rfl⟩:∃ Y:Nat,zy=(Y:Int):=⟨zy.toNat,by omega⟩
    have hX:X<C:=by omega
    have hY:Y<R:=by omega
    obtain ⟨b1,off1,cq1,e1,hcq,hb1,hrow1⟩:=HCC.out.at_ (by rw [HCN.out];omega)
    rw [HCN.out] at e1 hcq
    injection e1 with e1 _ e1c
    subst e1 e1c
    obtain ⟨u1,hc1,hm1⟩:=hrow1 X (by rw [HCN.out];exact hX)
    obtain ⟨hcr,hce⟩:=HG.out X (by rw [HCN.out];exact hX)
    obtain ⟨A3,cap3,rfl,_,_⟩:=id hm1
    obtain ⟨b2,off3,rfl,hb2,hrow3⟩:=many_at hm1 (by omega)
    obtain ⟨Aa,ca,hc3,hby⟩:=hrow3 Y (by omega)
    have hcl2:=hce Y hY
    rw [hcr] at hc1
    rw [hcl2] at hc3 hby
    have hcI:cellI css ((X:Int),(Y:Int))=(css[X]?.getD [])[Y]?.getD []:=rfl
    rw [hcI] at hnx
    have HJX:=Lib.hid hnx
    clear hnx
    have x0':=(hBr.cell (p:=⟨g1,j * 2,none⟩) hg1).trans x0
    have x1':=(hBr.cell (p:=⟨g1,j * 2+1,none⟩) hg1).trans x1
    have y0':=(hBr.cell (p:=⟨b1,off1+X,none⟩) (Nat.lt_of_lt_of_le hb1 hB)).trans hc1
    have y1':=(hBr.cell (p:=⟨b2,off3+Y,none⟩) (Nat.lt_of_lt_of_le hb2 hB)).trans hc3
    have HP:=Lib.hid (fun (U:World) (v:Value) (hU:Below w.heap.size w U) (hv:Bytes U.heap.size U v (uponL n css (l.take j)))=>rput_any v (.slice Aa n ca) (uponL n css (l.take j)) ((css[X]?.getD [])[Y]?.getD []) U hv ((hby.below (hU.mono hB)).more (Nat.le_trans hB hU.size)) (by omega) (by omega))
    clear hcI hce hrow1 hrow3 hm1 hby x0 x1 hc1 hc3
    generalize (css[X]?.getD [])[Y]?.getD []=xy at *
    generalize uponL n css (l.take j)=cur at *
    have i1:(0:Int)≤(j:Int):=by omega
    have i2:(j:Int)<(N:Int):=by omega
    have i3:(0:Int)≤(X:Int):=by omega
    have i4:(X:Int)<(C:Int):=by omega
    have i5:(0:Int)≤(Y:Int):=by omega
    have i6:(Y:Int)<(R:Int):=by omega
    have HHU:=Lib.hid hu.bytes
    have hBz:=hBr.size
    clear hlen hcl2 hcr hu
    go_wp2
    go_region_held3 (fun U=>U.cell? ⟨g1,j * 2,none⟩=some (.int .i64 (X:Int))∧U.cell? ⟨g1,j * 2+1,none⟩=some (.int .i64 (Y:Int))∧U.cell? ⟨b1,off1+X,none⟩=some (.slice (some ⟨b2,off3,none⟩) R cap3)∧U.cell? ⟨b2,off3+Y,none⟩=some (.slice Aa n ca))
     (first | exact ⟨x0',x1',y0',y1'⟩ | exact ⟨(hB4.cell (p:=⟨g1,j * 2,none⟩) (Nat.lt_of_lt_of_le hg1 hBz)).trans x0',(hB4.cell (p:=⟨g1,j * 2+1,none⟩) (Nat.lt_of_lt_of_le hg1 hBz)).trans x1',(hB4.cell (p:=⟨b1,off1+X,none⟩) (Nat.lt_of_lt_of_le hb1 (Nat.le_trans hB hBz))).trans y0',(hB4.cell (p:=⟨b2,off3+Y,none⟩) (Nat.lt_of_lt_of_le hb2 (Nat.le_trans hB hBz))).trans y1'⟩) (first | (go_at_call 53;refine (HP.out _ _ hBr.drew (HHU.out.below ((Below.refl _ _).drew))).mono ?_;rintro e w4 ⟨v4,rfl,hv4,hB4⟩;replace hB4:=below_undrew hB4))
    all_goals go_wp2
    all_goals go_roundw
    case rel=>exact ⟨j+1,by omega,by go_num,by rw [HJX.out];exact hv4.fresh.less hBz,below_in hBr hB4⟩
    case measure=>simp [intOf];omega
  · obtain rfl:j=N:=by omega
    have hdec:decide ((j:Int)<(j:Int))=false:=by simp
    rw [HE.out] at hu
    go_wp2
    go_ret
    exact ⟨_,rfl,hu,hBr⟩
end Go.Proofs.YtkllhjhkcipkoaaGreatDoor.E
