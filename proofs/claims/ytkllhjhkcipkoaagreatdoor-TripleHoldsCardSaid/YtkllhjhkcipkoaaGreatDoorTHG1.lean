/- -/
import Derived.OrdersIn
import Derived.OrdersHeld
import Derived.Test.YtkllhjhkcipkoaaGreatDoorTHCA
set_option linter.unusedVariables false
set_option linter.unusedSimpArgs false
set_option maxRecDepth 100000
set_option maxHeartbeats 2000000
namespace Go.Proofs.YtkllhjhkcipkoaaGreatDoor.E
open Go.RowKit Go.Shelf Go.Proofs.YtkllhjhkcipkoaaGreatDoor.C

theorem need_yes (w:World):Calls Tryz.prog 119 #[.bool true] w fun e w'=>e = .returned (.tuple #[])∧w=w':=by
 go_enter Tryz.func119,Tryz.ntmps119
 go_wp2
 go_end0
 exact ⟨rfl,rfl⟩
theorem need_no (w:World):Calls Tryz.prog 119 #[.bool false] w fun e w'=>e = .panicked gaveUp∧w=w':=by
 go_enter Tryz.func119,Tryz.ntmps119
 go_wp2
 exact ⟨rfl,rfl,rfl⟩
theorem sureI (n:Int) (w:World):Calls Tryz.prog 141 #[.int .i64 n,.int .i64 0] w fun e w'=>e = .returned (.int .i64 n)∧w=w':=by
 go_enter Tryz.func141,Tryz.ntmps141
 go_wp2
 go_ret
 exact ⟨rfl,rfl⟩
theorem code_any (p:Int) (w:World):Calls Tryz.prog 121 #[.int .i64 p] w fun e w'=>e = .returned (.agg #[.int .i64 1,.int .i64 p])∧Below w.heap.size w w':=by
 go_enter Tryz.func121,Tryz.ntmps121
 go_wp2
 have b:=Blk.new w 37 #[.int .i64 1,.int .i64 p]
 have c0:=b.cell 0
 have c1:=b.cell 1
 simp only [List.getElem?_toArray,List.getElem?_cons_zero,List.getElem?_cons_succ] at c0 c1
 exact bodyPost_ret (v:=.agg #[.int .i64 1,.int .i64 p]) (by simp [results,Tryz.results121,go_sem,c0,c1]) rfl ⟨rfl,below_one w _⟩
theorem primeOf_yes (p:Int) (hR:RightC 1 p) (w:World) (hL:Laid w):Calls Tryz.prog 99 #[.int .i64 p] w fun e w'=>e = .returned (.int .i64 p)∧Below w.heap.size w w':=by
 have HC:=Lib.hid (fun W hL=>(shapeCheck_any 1 p W hL).mono fun e w' h=>And.intro (h.1 hR) h.2.2)
 clear hR
 go_enter Tryz.func99,Tryz.ntmps99
 go_wp2_with (first
  | (go_at_call 121;refine (code_any p _).mono ?_;rintro e w1 ⟨rfl,hB1⟩;replace hL:=hL.next hB1)
  | (go_at_call 120;refine (HC.out _ hL).mono ?_;rintro e w2 ⟨rfl,hB2⟩)
  | (go_at_call 119;refine (need_yes _).mono ?_;rintro e w3 ⟨rfl,rfl⟩))
 go_ret
 exact ⟨rfl,below_in hB1 hB2⟩
theorem primeOf_no (p:Int) (hR:¬ RightC 1 p) (w:World) (hL:Laid w):Calls Tryz.prog 99 #[.int .i64 p] w fun e w'=>e = .panicked gaveUp∧Below w.heap.size w w':=by
 have HC:=Lib.hid (fun W hL=>(shapeCheck_any 1 p W hL).mono fun e w' h=>And.intro (h.2.1 hR) h.2.2)
 clear hR
 go_enter Tryz.func99,Tryz.ntmps99
 go_wp2_with (first
  | (go_at_call 121;refine (code_any p _).mono ?_;rintro e w1 ⟨rfl,hB1⟩;replace hL:=hL.next hB1)
  | (go_at_call 120;refine (HC.out _ hL).mono ?_;rintro e w2 ⟨rfl,hB2⟩)
  | (go_at_call 119;refine (need_no _).mono ?_;rintro e w3 ⟨rfl,rfl⟩))
 exact ⟨rfl,rfl,below_in hB1 hB2⟩
theorem rows_any (p:Int) (hR:RightC 1 p) (w:World) (hL:Laid w):Calls Tryz.prog 122 #[.int .i64 p] w fun e w'=>e = .returned (.int .i64 (p - 1))∧Below w.heap.size w w':=by
 have HC:=Lib.hid (fun W hL=>(shapeRows_any 1 p W hL).mono fun _ _ h=>(⟨h.1 hR,h.2.2⟩:_∧_))
 clear hR
 go_enter Tryz.func122,Tryz.ntmps122
 go_wp2_with (first
  | (go_at_call 121;refine (code_any p _).mono ?_;rintro e w1 ⟨rfl,hB1⟩;replace hL:=hL.next hB1)
  | (go_at_call 142;refine (HC.out _ hL).mono ?_;rintro e w2 ⟨rfl,hB2⟩)
  | (go_at_call 141;refine (sureI _ _).mono ?_;rintro e w3 ⟨rfl,rfl⟩))
 go_ret
 exact ⟨rfl,below_in hB1 hB2⟩
end Go.Proofs.YtkllhjhkcipkoaaGreatDoor.E

namespace Go.Proofs.YtkllhjhkcipkoaaGreatDoor.E
open Go.RowKit Go.Shelf Go.Proofs.YtkllhjhkcipkoaaGreatDoor.C

def Cols (B:Nat) (W:World) (v:Value) (css:List (List (List UInt8))):Prop :=
 ∃ A cap,v = .slice A css.length cap∧css.length≤cap∧(0<css.length→∃ b off,A=some ⟨b,off,none⟩∧b<B ∧
  ∀ j,j<css.length→∃ u,W.cell? ⟨b,off+j,none⟩=some u∧Many B W u (css[j]?.getD []))
section
variable {W W':World} {B B':Nat} {v:Value} {css:List (List (List UInt8))}
theorem Cols.keep (h:Cols B W v css) (hk:∀ p:Addr,p.block<B→W'.cell? p=W.cell? p):Cols B W' v css:=by
 obtain ⟨A,cap,e,hc,hA⟩:=h
 refine ⟨A,cap,e,hc,fun hp=>?_⟩
 obtain ⟨b,off,e1,hb,hr⟩:=hA hp
 refine ⟨b,off,e1,hb,fun j hj=>?_⟩
 obtain ⟨u,hu,hm⟩:=hr j hj
 exact ⟨u,(hk ⟨b,off+j,none⟩ hb).trans hu,hm.keep hk⟩
theorem Cols.below (h:Cols B W v css) (hb:Below B W W'):Cols B W' v css:=h.keep fun _ hp=>hb.cell hp
theorem Cols.at_ (h:Cols B W v css) (h0:0<css.length):∃ b off cap,v = .slice (some ⟨b,off,none⟩) css.length cap∧css.length≤cap∧b<B∧∀ j,j<css.length→∃ u,W.cell? ⟨b,off+j,none⟩=some u∧Many B W u (css[j]?.getD []):=by
 obtain ⟨A,cap,rfl,hc,hA⟩:=h
 obtain ⟨b,off,rfl,hb,hr⟩:=hA h0
 exact ⟨b,off,cap,rfl,hc,hb,hr⟩
end

theorem areAlike_any {B B':Nat} (v1 v2:Value) (one:List UInt8) (ls:List (List UInt8)) (w:World) (h1:Bytes B w v1 one) (hM:Many B' w v2 ls) (hls:ls.length≤1000) (b:Bool) (hb:b=true↔(Cell one∧AllLen one.length ls)) :
 Calls Tryz.prog 123 #[v1,v2] w fun e w'=>e = .returned (.bool b)∧Below w.heap.size w w':=by
 have HC:=Lib.hid (C.check_any (B:=B) v1 one w h1)
 obtain ⟨A,cap,rfl,_,_⟩:=id hM
 obtain ⟨A1,cap1,rfl,_,_⟩:=id h1
 have HB:=Lib.hid hb
 clear hb
 obtain ⟨q,hq⟩:∃ q,one.length=q:=⟨_,rfl⟩
 have HQ:=Lib.hid hq
 rw [hq] at HC HB ⊢
 clear hq h1
 go_enter Tryz.func123,Tryz.ntmps123
 go_wp2
 go_loop [9] (fun i=>∃ k:Nat,k≤ls.length∧i = .int .i64 k∧Hid (∀ j,j<k→(ls[j]?.getD []).length=q)) (fun i=>ls.length - (intOf i).toNat)
 case atStart=>exact ⟨0,Nat.zero_le _,rfl,Lib.hid fun j hj=>absurd hj (by omega)⟩
 case round =>
  obtain ⟨k,hk,rfl,HA⟩:=hrel
  by_cases hlt:k<ls.length
  · have hdec:decide ((k:Int)<(ls.length:Int))=true:=by simp;omega
    obtain ⟨b1,off,rfl,hb1,hrow⟩:=many_at hM (by omega)
    obtain ⟨A2,cp,hc,hB2⟩:=hrow k hlt
    clear hrow hB2
    have HL:Hid ((ls[k]?.getD []).length=q→∀ j,j<k+1→(ls[j]?.getD []).length=q):=by
     intro h j hj
     rcases Nat.lt_or_ge j k with h1 | h1
     · exact HA.out j h1
     · obtain rfl:j=k:=by omega
       exact h
    have HM:Hid (¬ (ls[k]?.getD []).length=q→¬ AllLen q ls):=fun h h2=>h (h2 k hlt)
    generalize (ls[k]?.getD []).length=qq at hc HL HM
    by_cases hln:qq=q
    · have HL2:=Lib.hid (HL.out hln)
      subst hln
      have hne:((qq:Int) != (qq:Int))=false:=by simp
      go_wp2
      go_round
      case rel=>exact ⟨k+1,by omega,by go_num,HL2⟩
      case measure=>simp [intOf];omega
    · have hne:((qq:Int) != (q:Int))=true:=by simp;omega
      have HF:Hid (b=false):=by
       unfold Hid
       rw [Bool.eq_false_iff]
       exact fun h=>HM.out hln ((HB.out).1 h).2
      have hnq:¬ (qq:Int)=(q:Int):=by omega
      go_wp2
      go_ret
      exact ⟨ret_bool HF.out.symm,Below.refl _ _⟩
  · obtain rfl:k=ls.length:=by omega
    have e1:decide ((ls.length:Int)<(ls.length:Int))=false:=by simp
    by_cases hce:Cell one
    · rw [if_pos hce] at HC
      have HF:Hid (b=true):=(HB.out).2 ⟨hce,HA.out⟩
      clear HB HA
      go_wp2_with (go_at_call 143;refine HC.out.mono ?_;rintro e w1 ⟨rfl,hB1⟩)
      go_ret
      exact ⟨ret_bool HF.out.symm,hB1⟩
    · rw [if_neg hce] at HC
      have HF:Hid (b=false):=by
       unfold Hid
       rw [Bool.eq_false_iff]
       exact fun h=>hce ((HB.out).1 h).1
      clear HB HA
      go_wp2_with (go_at_call 143;refine HC.out.mono ?_;rintro e w1 ⟨rfl,hB1⟩)
      go_ret
      exact ⟨ret_bool HF.out.symm,hB1⟩
end Go.Proofs.YtkllhjhkcipkoaaGreatDoor.E

namespace Go.Proofs.YtkllhjhkcipkoaaGreatDoor.E
open Go.RowKit Go.Shelf Go.Proofs.YtkllhjhkcipkoaaGreatDoor.C

def firstC (css:List (List (List UInt8))):List UInt8:=((css[0]?.getD [])[0]?.getD [])
def TogOk (R:Nat) (css:List (List (List UInt8))):Prop:=0<css.length∧∀ j,j<css.length→(css[j]?.getD []).length=R∧(Cell (firstC css)∧AllLen (firstC css).length (css[j]?.getD []))

theorem together_yes {B:Nat} (p:Int) (R:Nat) (hR:RightC 1 p) (hr:p - 1=(R:Int)) (v:Value) (css:List (List (List UInt8))) (w:World) (hL:Laid w) (hB:B≤w.heap.size) (hC:Cols B w v css) (hlen:css.length≤1000) (hok:TogOk R css) :
 Calls Tryz.prog 100 #[.int .i64 p,v] w fun e w'=>e = .returned (.agg #[.int .i64 p,v])∧Below w.heap.size w w':=by
 have HRw:=Lib.hid (fun W hL=>rows_any p hR W hL)
 rw [hr] at HRw
 have hR2:2≤R:=by have:=hR.und.p1;omega
 have hR3:R≤16:=by have:=hR.und.p2;omega
 obtain ⟨b0,off0,cap,rfl,hcap,hb0,hrow⟩:=hC.at_ hok.1
 have HRow:=Lib.hid hrow
 have HOK:=Lib.hid hok.2
 have hl0:=hok.1
 clear hr hR hC hrow hok
 go_enter Tryz.func100,Tryz.ntmps100
 have hBz:=below_one w (.cells #[.int .i64 0,.slice none 0 0] 135)
 have bz:=Blk.new w 135 #[.int .i64 0,.slice none 0 0]
 have hL1:=hL.next hBz
 have hd0:decide (0<(css.length:Int))=true:=by simp;omega
 go_wp2_with (go_at_call 119;refine (need_yes _).mono ?_;rintro e w3 ⟨rfl,rfl⟩)
 refine (HRw.out _ hL1).mono ?_
 rintro e w1 ⟨rfl,hB1⟩
 replace bz:=bz.below hB1 bz.lt
 have hBw:=below_in hBz hB1
 clear hBz hB1 hL1 HRw hL
 obtain ⟨u0,hu0,hm0⟩:=HRow.out 0 hl0
 have hlen0:=(HOK.out 0 hl0).1
 obtain ⟨A0,cap0,rfl,hcap0,_⟩:=id hm0
 obtain ⟨b1,off1,rfl,hb1,hrow1⟩:=many_at hm0 (by rw [hlen0];omega)
 clear hm0 hcap0
 obtain ⟨c0v,hc0,hbc0⟩:=(by
  obtain ⟨A9,cp9,hc9,hB9⟩:=hrow1 0 (by rw [hlen0];omega)
  exact ⟨_,hc9,hB9⟩:∃ c0v,w.cell? ⟨b1,off1+0,none⟩=some c0v∧Bytes B w c0v (firstC css))
 rw [hlen0,Nat.add_zero] at hu0
 rw [Nat.add_zero] at hc0
 clear hrow1
 go_wp2
 go_loopw [16] (fun i wr=>∃ k:Nat,k≤css.length∧i = .int .i64 k∧Blk wr w.heap.size 135 #[.int .i64 0,.slice none 0 0]∧Below w.heap.size w wr) (fun i _=>css.length - (intOf i).toNat)
 case atStart=>exact ⟨0,Nat.zero_le _,rfl,bz,hBw⟩
 case round =>
  clear bz hBw
  obtain ⟨k,hk,rfl,bz,hBr⟩:=hrel
  by_cases hlt:k<css.length
  · have hdec:decide ((k:Int)<(css.length:Int))=true:=by simp;omega
    obtain ⟨u,hu,hmu⟩:=HRow.out k hlt
    obtain ⟨hlk,hce,hal⟩:=HOK.out k hlt
    obtain ⟨Au,capu,rfl,_,_⟩:=id hmu
    have HA0:=areAlike_any c0v (.slice Au (css[k]?.getD []).length capu) (firstC css) (css[k]?.getD []) wr (hbc0.below (hBr.mono hB)) (hmu.below (hBr.mono hB)) (by omega) true (by simp [hce,hal])
    rw [hlk] at hu HA0
    have HA:=Lib.hid HA0
    clear HA0
    have x0:wr.cell? ⟨b0,off0,none⟩=some (.slice (some ⟨b1,off1,none⟩) R cap0):=(hBr.cell (p:=⟨b0,off0,none⟩) (by exact Nat.lt_of_lt_of_le hb0 hB)).trans hu0
    have xk:wr.cell? ⟨b0,off0+k,none⟩=some (.slice Au R capu):=(hBr.cell (p:=⟨b0,off0+k,none⟩) (by exact Nat.lt_of_lt_of_le hb0 hB)).trans hu
    have y0:wr.cell? ⟨b1,off1,none⟩=some c0v:=(hBr.cell (p:=⟨b1,off1,none⟩) (by exact Nat.lt_of_lt_of_le hb1 hB)).trans hc0
    have hRR:((R:Int) == (R:Int))=true:=by simp
    have i1:(0:Int)<(R:Int):=by omega
    have i2:(0:Int)<(css.length:Int):=by omega
    go_wp2_with (first
     | (go_at_call 123;refine HA.out.mono ?_;rintro e w4 ⟨rfl,hB4⟩)
     | (go_at_call 119;refine (need_yes _).mono ?_;rintro e w3 ⟨rfl,rfl⟩))
    go_roundw
    case rel=>exact ⟨k+1,by omega,by go_num,bz.below hB4 bz.lt,below_in hBr hB4⟩
    case measure=>simp [intOf];omega
  · obtain rfl:k=css.length:=by omega
    have e1:decide ((css.length:Int)<(css.length:Int))=false:=by simp
    have g0:=bz.cell 0
    have g1:=bz.cell 1
    have f0:=bz.frozen 0
    have f1:=bz.frozen 1
    simp only [List.getElem?_toArray,List.getElem?_cons_zero,List.getElem?_cons_succ] at g0 g1
    go_wp2
    have r:=(bz.set_ 0 (.int .i64 p)).set_ 1 (.slice (some ⟨b0,off0,none⟩) css.length cap)
    have r0:=r.cell 0
    have r1:=r.cell 1
    simp only [List.setIfInBounds_toArray,List.set_cons_zero,List.set_cons_succ,List.getElem?_toArray,List.getElem?_cons_zero,List.getElem?_cons_succ] at r0 r1
    exact bodyPost_ret (v:=.agg #[.int .i64 p,.slice (some ⟨b0,off0,none⟩) css.length cap]) (by simp [results,Tryz.results100,go_sem,r0,r1]) rfl ⟨rfl,(hBr.setCell (by simp) _).setCell (by simp) _⟩

theorem together_no {B:Nat} (p:Int) (R:Nat) (hR:RightC 1 p) (hr:p - 1=(R:Int)) (v:Value) (css:List (List (List UInt8))) (w:World) (hL:Laid w) (hB:B≤w.heap.size) (hC:Cols B w v css) (hlen:css.length≤1000) (hcl:∀ j,j<css.length→(css[j]?.getD []).length≤1000) (hno:¬ TogOk R css) :
 Calls Tryz.prog 100 #[.int .i64 p,v] w fun e w'=>e = .panicked gaveUp∧Below w.heap.size w w':=by
 have HRw:=Lib.hid (fun W hL=>rows_any p hR W hL)
 rw [hr] at HRw
 have hR2:2≤R:=by have:=hR.und.p1;omega
 have hR3:R≤16:=by have:=hR.und.p2;omega
 have HNO:=Lib.hid hno
 have HCL:=Lib.hid hcl
 clear hno hcl
 have hBz:=below_one w (.cells #[.int .i64 0,.slice none 0 0] 135)
 have bz:=Blk.new w 135 #[.int .i64 0,.slice none 0 0]
 have hL1:=hL.next hBz
 by_cases hl0:0<css.length
 case neg =>
  have hd0:decide (0<(css.length:Int))=false:=decide_eq_false (by omega)
  obtain ⟨A,cap,rfl,_,_⟩:=id hC
  clear hr hR hC HNO
  go_enter Tryz.func100,Tryz.ntmps100
  go_wp2_with (go_at_call 119;refine (need_no _).mono ?_;rintro e w3 ⟨rfl,rfl⟩)
  exact ⟨rfl,rfl,hBz⟩
 obtain ⟨b0,off0,cap,rfl,hcap,hb0,hrow⟩:=hC.at_ hl0
 have HRow:=Lib.hid hrow
 clear hr hR hC hrow
 have hd0:decide (0<(css.length:Int))=true:=by simp;omega
 go_enter Tryz.func100,Tryz.ntmps100
 go_wp2_with (go_at_call 119;refine (need_yes _).mono ?_;rintro e w3 ⟨rfl,rfl⟩)
 refine (HRw.out _ hL1).mono ?_
 rintro e w1 ⟨rfl,hB1⟩
 have hBw:=below_in hBz hB1
 clear hBz hB1 hL1 HRw hL bz
 obtain ⟨u0,hu0,hm0⟩:=HRow.out 0 hl0
 obtain ⟨A0,cap0,rfl,hcap0,_⟩:=id hm0
 rw [Nat.add_zero] at hu0
 have HM0:=Lib.hid hm0
 clear hm0
 go_wp2
 go_loopw [16] (fun i wr=>∃ k:Nat,k≤css.length∧i = .int .i64 k∧Hid (∀ j,j<k→(css[j]?.getD []).length=R∧(Cell (firstC css)∧AllLen (firstC css).length (css[j]?.getD [])))∧Below w.heap.size w wr) (fun i _=>css.length - (intOf i).toNat)
 case atStart=>exact ⟨0,Nat.zero_le _,rfl,Lib.hid (fun j hj=>absurd hj (by omega)),hBw⟩
 case round =>
  clear hBw
  obtain ⟨k,hk,rfl,HA,hBr⟩:=hrel
  by_cases hlt:k<css.length
  · have hdec:decide ((k:Int)<(css.length:Int))=true:=by simp;omega
    obtain ⟨u,hu,hmu⟩:=HRow.out k hlt
    have hkl:=HCL.out k hlt
    obtain ⟨Au,capu,rfl,_,_⟩:=id hmu
    have xk:wr.cell? ⟨b0,off0+k,none⟩=some (.slice Au (css[k]?.getD []).length capu):=(hBr.cell (p:=⟨b0,off0+k,none⟩) (by exact Nat.lt_of_lt_of_le hb0 hB)).trans hu
    by_cases hlk:(css[k]?.getD []).length=R
    · have hlen0:(css[0]?.getD []).length=R:=by
       rcases Nat.eq_zero_or_pos k with h | h
       · subst h;exact hlk
       · exact (HA.out 0 h).1
      obtain ⟨b1,off1,hA0,hb1,hrow1⟩:=many_at HM0.out (by rw [hlen0];omega)
      subst hA0
      obtain ⟨c0v,hc0,hbc0⟩:=(by
       obtain ⟨A9,cp9,hc9,hB9⟩:=hrow1 0 (by rw [hlen0];omega)
       exact ⟨_,hc9,hB9⟩:∃ c0v,w.cell? ⟨b1,off1+0,none⟩=some c0v∧Bytes B w c0v (firstC css))
      rw [Nat.add_zero] at hc0
      clear hrow1
      have x0:wr.cell? ⟨b0,off0,none⟩=some (.slice (some ⟨b1,off1,none⟩) (css[0]?.getD []).length cap0):=(hBr.cell (p:=⟨b0,off0,none⟩) (by exact Nat.lt_of_lt_of_le hb0 hB)).trans hu0
      have y0:wr.cell? ⟨b1,off1,none⟩=some c0v:=(hBr.cell (p:=⟨b1,off1,none⟩) (by exact Nat.lt_of_lt_of_le hb1 hB)).trans hc0
      have HAA:=fun b hb=>areAlike_any c0v (.slice Au (css[k]?.getD []).length capu) (firstC css) (css[k]?.getD []) wr (hbc0.below (hBr.mono hB)) (hmu.below (hBr.mono hB)) hkl b hb
      rw [hlk] at xk HAA
      rw [hlen0] at x0
      have hRR:((R:Int) == (R:Int))=true:=by simp
      have i1:(0:Int)<(R:Int):=by omega
      have i2:(0:Int)<(css.length:Int):=by omega
      by_cases hg:Cell (firstC css)∧AllLen (firstC css).length (css[k]?.getD [])
      · have HAA2:=Lib.hid (HAA true (by simp [hg]))
        have HA2:Hid (∀ j,j<k+1→(css[j]?.getD []).length=R∧(Cell (firstC css)∧AllLen (firstC css).length (css[j]?.getD []))):=fun j hj=>by
         rcases Nat.lt_or_ge j k with h1 | h1
         · exact HA.out j h1
         · obtain rfl:j=k:=by omega
           exact ⟨hlk,hg⟩
        clear HAA HA hg hlk hlen0
        go_wp2_with (first
         | (go_at_call 123;refine HAA2.out.mono ?_;rintro e w4 ⟨rfl,hB4⟩)
         | (go_at_call 119;refine (need_yes _).mono ?_;rintro e w3 ⟨rfl,rfl⟩))
        go_roundw
        case rel=>exact ⟨k+1,by omega,by go_num,HA2,below_in hBr hB4⟩
        case measure=>simp [intOf];omega
      · have HAA2:=Lib.hid (HAA false (by simp;exact fun h1 h2=>hg ⟨h1,h2⟩))
        clear HAA HA hg hlk hlen0
        go_wp2_with (first
         | (go_at_call 123;refine HAA2.out.mono ?_;rintro e w4 ⟨rfl,hB4⟩)
         | (go_at_call 119;refine (need_no _).mono ?_;rintro e w3 ⟨rfl,rfl⟩))
        exact ⟨rfl,rfl,below_in hBr hB4⟩
    · have hRR:(((css[k]?.getD []).length:Int) == (R:Int))=false:=by simp;omega
      generalize (css[k]?.getD []).length=q at xk hRR
      clear hlk
      go_wp2_with (go_at_call 119;refine (need_no _).mono ?_;rintro e w3 ⟨rfl,rfl⟩)
      exact ⟨rfl,rfl,hBr⟩
  · obtain rfl:k=css.length:=by omega
    exact absurd ⟨hl0,HA.out⟩ HNO.out
end Go.Proofs.YtkllhjhkcipkoaaGreatDoor.E

namespace Go.Proofs.YtkllhjhkcipkoaaGreatDoor.E
open Go.RowKit Go.Shelf Go.Proofs.YtkllhjhkcipkoaaGreatDoor.C

def DataOk (p:Int) (css:List (List (List UInt8))):Prop:=RightC 1 p∧(css.length:Int)=p∧TogOk (p - 1).toNat css

end Go.Proofs.YtkllhjhkcipkoaaGreatDoor.E

namespace Go.Proofs.YtkllhjhkcipkoaaGreatDoor.E
open Go.RowKit Go.Shelf Go.Proofs.YtkllhjhkcipkoaaGreatDoor.C

theorem BytesP.imp {P Q:Nat→Prop} {W:World} {v:Value} {l:List UInt8} (h:BytesP P W v l) (hq:∀ b,P b→Q b):BytesP Q W v l:=by
 obtain ⟨A,cap,e,hc,hA⟩:=h
 refine ⟨A,cap,e,hc,fun hp=>?_⟩
 obtain ⟨b,off,e2,hb,hcell⟩:=hA hp
 exact ⟨b,off,e2,hq b hb,hcell⟩
theorem BytesP.below {N:Nat} {P:Nat→Prop} {W W':World} {v:Value} {l:List UInt8} (h:BytesP P W v l) (hP:∀ b,P b→b<N) (hb:Below N W W'):BytesP P W' v l:=h.keep fun b hp=>hb.block b (hP b hp)
theorem Tryz.infoSlcE:(Tryz.prog.info? 60).map (fun i=>(i.zero,i.size,i.bytes))=some (some (.slice none 0 0),1,24):=by kernel_rfl
def ManyP (P:Nat→Prop) (W:World) (v:Value) (ls:List (List UInt8)):Prop :=
 ∃ A cap,v = .slice A ls.length cap∧ls.length≤cap∧(0<ls.length→∃ b off,A=some ⟨b,off,none⟩∧P b∧∀ j,j<ls.length→∃ u,W.cell? ⟨b,off+j,none⟩=some u∧BytesP P W u (ls[j]?.getD []))

theorem ManyP.many {P:Nat→Prop} {N:Nat} {W:World} {v:Value} {ls:List (List UInt8)} (h:ManyP P W v ls) (hP:∀ b,P b→b<N):Many N W v ls:=by
 obtain ⟨A,cap,e,hc,hA⟩:=h
 refine ⟨A,cap,e,hc,fun hp=>?_⟩
 obtain ⟨b,off,e2,hb,hcell⟩:=hA hp
 exact ⟨b,off,e2,hP b hb,fun j hj=>by obtain ⟨u,h1,h2⟩:=hcell j hj;exact ⟨u,h1,BytesP.imp h2 hP⟩⟩
end Go.Proofs.YtkllhjhkcipkoaaGreatDoor.E

namespace Go.Proofs.YtkllhjhkcipkoaaGreatDoor.E
open Go.RowKit Go.Shelf Go.Proofs.YtkllhjhkcipkoaaGreatDoor.C

def FewC (cs:List (List UInt8)):Prop:=cs.length≤20∧∀ k,k<cs.length→(cs[k]?.getD []).length≤70
def Few6 (css:List (List (List UInt8))):Prop:=css.length≤24∧∀ j,j<css.length→FewC (css[j]?.getD [])
theorem all_next {P:Nat→Prop} {k:Nat} (h:∀ j,j<k→P j) (hk:P k):∀ j,j<k+1→P j:=by
 intro j hj
 rcases Nat.lt_or_ge j k with h1 | h1
 · exact h j h1
 · obtain rfl:j=k:=by omega
   exact hk
theorem few6_any {B:Nat} (v:Value) (css:List (List (List UInt8))) (w:World) (hC:Cols B w v css) (b:Bool) (hb:b=true↔Few6 css) :
 Calls Tryz.prog 8 #[v] w fun e w'=>e = .returned (.bool b)∧w=w':=by
 obtain ⟨A,cap,rfl,_,_⟩:=id hC
 by_cases h24:css.length≤24
 · have d0:decide ((24:Int)<(css.length:Int))=false:=by simp;omega
   go_enter Tryz.func8,Tryz.ntmps8
   go_wp2
   go_loop [3] (fun i=>∃ k:Nat,k≤css.length∧i = .int .i64 k∧Hid (∀ j,j<k→FewC (css[j]?.getD []))) (fun i=>css.length - (intOf i).toNat)
   case atStart=>exact ⟨0,Nat.zero_le _,rfl,Lib.hid fun j hj=>absurd hj (by omega)⟩
   case round =>
    obtain ⟨k,hk,rfl,HA⟩:=hrel
    by_cases hlt:k<css.length
    · have hdec:decide ((k:Int)<(css.length:Int))=true:=by simp;omega
      obtain ⟨b1,off1,cap1,e1,_,_,hrow1⟩:=hC.at_ (by omega)
      injection e1 with e1 _ _
      subst e1
      obtain ⟨u,hu,hm⟩:=hrow1 k hlt
      obtain ⟨A2,cap2,rfl,_,_⟩:=id hm
      have HN:=Lib.hid (fun (h:b=true)=>(hb.1 h).2 k hlt)
      have HL:=Lib.hid (fun (h:FewC (css[k]?.getD []))=>all_next HA.out h)
      clear hrow1
      generalize css[k]?.getD []=cs at *
      by_cases h20:cs.length≤20
      · have d1:decide ((20:Int)<(cs.length:Int))=false:=by simp;omega
        go_wp2
        go_loop [4] (fun i=>∃ m:Nat,m≤cs.length∧i = .int .i64 m∧Hid (∀ j,j<m→(cs[j]?.getD []).length≤70)) (fun i=>cs.length - (intOf i).toNat)
        case atStart=>exact ⟨0,Nat.zero_le _,rfl,Lib.hid fun j hj=>absurd hj (by omega)⟩
        case round =>
         obtain ⟨m,hm2,rfl,HA2⟩:=hrel
         by_cases hlt2:m<cs.length
         · have hdec2:decide ((m:Int)<(cs.length:Int))=true:=by simp;omega
           obtain ⟨b2,off2,rfl,_,hrow2⟩:=many_at hm (by omega)
           obtain ⟨B1,cp1,hc1,_⟩:=hrow2 m hlt2
           have HN2:=Lib.hid (fun (h:b=true)=>(HN.out h).2 m hlt2)
           have HL2:=Lib.hid (fun (h:(cs[m]?.getD []).length≤70)=>all_next HA2.out h)
           clear hrow2
           generalize (cs[m]?.getD []).length=x at hc1 HN2 HL2
           by_cases hx:x≤70
           · have d2:decide ((70:Int)<(x:Int))=false:=by simp;omega
             go_wp2
             go_round
             case rel=>exact ⟨m+1,by omega,by go_num,Lib.hid (HL2.out hx)⟩
             case measure=>simp [intOf];omega
           · have d2:decide ((70:Int)<(x:Int))=true:=by simp;omega
             go_wp2
             go_ret
             exact ⟨ret_bool (Bool.eq_false_iff.2 fun h=>hx (HN2.out h)).symm,rfl⟩
         · obtain rfl:m=cs.length:=by omega
           have e1:decide ((cs.length:Int)<(cs.length:Int))=false:=by simp
           go_wp2
           go_round
           case rel=>exact ⟨k+1,by omega,by go_num,Lib.hid (HL.out ⟨h20,HA2.out⟩)⟩
           case measure=>simp [intOf];omega
      · have d1:decide ((20:Int)<(cs.length:Int))=true:=by simp;omega
        go_wp2
        go_ret
        exact ⟨ret_bool (Bool.eq_false_iff.2 fun h=>h20 (HN.out h).1).symm,rfl⟩
    · obtain rfl:k=css.length:=by omega
      have e1:decide ((css.length:Int)<(css.length:Int))=false:=by simp
      go_wp2
      go_ret
      exact ⟨ret_bool (hb.2 ⟨h24,HA.out⟩).symm,rfl⟩
 · have d0:decide ((24:Int)<(css.length:Int))=true:=by simp;omega
   have hbf:b=false:=Bool.eq_false_iff.2 fun h=>h24 (hb.1 h).1
   subst hbf
   go_enter Tryz.func8,Tryz.ntmps8
   go_wp2
   go_ret
   exact ⟨rfl,rfl⟩

def RightD (p:Int) (css:List (List (List UInt8))):Prop:=p∈prm∧TogOk (p - 1).toNat css
def GoodC (R n:Nat) (cs:List (List UInt8)):Prop:=cs.length=R∧∀ r,r<R→Cell (cs[r]?.getD [])∧(cs[r]?.getD []).length=n
theorem rightD_iff {p:Int} {css:List (List (List UInt8))} (hp:p∈prm) (h0:0<css.length):RightD p css↔∀ j,j<css.length→GoodC (p - 1).toNat (firstC css).length (css[j]?.getD []):=by
 have hpp:=prm_bounds hp
 constructor
 · rintro ⟨_,_,h⟩ j hj
   obtain ⟨h1,h2,h3⟩:=h j hj
   refine ⟨h1,fun r hr=>?_⟩
   have h4:=h3 r (by omega)
   refine ⟨?_,h4⟩
   unfold Cell at h2 ⊢
   omega
 · intro h
   refine ⟨hp,h0,fun j hj=>⟨(h j hj).1,((h 0 h0).2 0 (by omega)).1,fun r hr=>((h j hj).2 r (by have:=(h j hj).1;omega)).2⟩⟩
theorem right6_any {B:Nat} (p:Int) (v:Value) (css:List (List (List UInt8))) (w:World) (hB:B≤w.heap.size) (hC:Cols B w v css) (hlen:css.length≤1000) (b:Bool) (hb:b=true↔RightD p css) :
 Calls Tryz.prog 22 #[.int .i64 p,v] w fun e w'=>e = .returned (.bool b)∧Below w.heap.size w w':=by
 have HR:=Lib.hid (Go.Proofs.YtkllhjhkcipkoaaGreatDoor.right_any p w)
 obtain ⟨A,cap,rfl,_,_⟩:=id hC
 by_cases hp:p∈prm
 · rw [decide_eq_true hp] at HR
   have hpp:=prm_bounds hp
   by_cases h0:0<css.length
   · have e0:((css.length:Int) == 0)=false:=by rw [beq_eq_false_iff_ne];omega
     have HI:=Lib.hid (rightD_iff (css:=css) hp h0)
     have HB:=Lib.hid hb
     obtain ⟨R,hR⟩:∃ R:Nat,p - 1=(R:Int):=⟨(p - 1).toNat,by omega⟩
     have hR2:(p - 1).toNat=R:=by omega
     rw [hR2] at HI
     have hpw:IntKind.i64.wrap (p - 1)=(R:Int):=by rw [←hR];exact IntWalk.i64_in _ (by omega)
     have hRn:2≤R∧R≤16:=by omega
     obtain ⟨b1,off1,cap1,e1,_,hb1,hrow1⟩:=hC.at_ (by omega)
     injection e1 with e1 _ _
     subst e1
     have HROW:=Lib.hid hrow1
     clear hb hp hR2 hpp hC hrow1
     go_enter Tryz.func22,Tryz.ntmps22
     go_wp2_with (go_at_call 19;refine HR.out.mono ?_;rintro e w1 ⟨rfl,hB1⟩)
     clear HR
     go_loopw [5] (fun i wr=>∃ k:Nat,k≤css.length∧i = .int .i64 k∧Hid (∀ j,j<k→GoodC R (firstC css).length (css[j]?.getD []))∧Below w.heap.size w wr) (fun i _=>css.length - (intOf i).toNat)
     case atStart=>exact ⟨0,Nat.zero_le _,rfl,(Lib.hid fun j hj=>absurd hj (by omega)),hB1⟩
     case round =>
      clear hB1
      obtain ⟨k,hk,rfl,HA,hBr⟩:=hrel
      by_cases hlt:k<css.length
      · have hdec:decide ((k:Int)<(css.length:Int))=true:=by simp;omega
        obtain ⟨u,hu0,hm0⟩:=HROW.out k hlt
        obtain ⟨A2,cap2,rfl,_,_⟩:=id hm0
        have hu:=(hBr.cell (p:=⟨b1,off1+k,none⟩) (Nat.lt_of_lt_of_le hb1 hB)).trans hu0
        have HN:=Lib.hid (fun (h:b=true)=>HI.out.1 (HB.out.1 h) k hlt)
        have HL:=Lib.hid (fun (h:GoodC R (firstC css).length (css[k]?.getD []))=>all_next HA.out h)
        have HF:Hid (k=0→css[k]?.getD []=css[0]?.getD []):=fun e=>by rw [e]
        have HF0:Hid (0<k→(css[0]?.getD []).length=R):=fun e=>(HA.out 0 e).1
        generalize css[k]?.getD []=cs at *
        by_cases hcl:cs.length=R
        · have hne:((cs.length:Int) != (R:Int))=false:=by rw [hcl];simp
          have hR0:(css[0]?.getD []).length=R:=by
           rcases Nat.eq_zero_or_pos k with h | h
           · rw [←HF.out h];exact hcl
           · exact HF0.out h
          obtain ⟨u9,hu9,hm9⟩:=HROW.out 0 h0
          obtain ⟨A9,cap9,rfl,_,_⟩:=id hm9
          obtain ⟨b9,off9,rfl,hb9,hrow9⟩:=many_at hm9 (by omega)
          obtain ⟨B9,cp9,hc9,_⟩:=hrow9 0 (by omega)
          rw [Nat.add_zero] at hc9 hu9
          have HU9:=Lib.hid hu9
          have HC9:Hid (w.cell? ⟨b9,off9,none⟩=some (.slice B9 (firstC css).length cp9)):=hc9
          obtain ⟨R9,hR9⟩:∃ x,(css[0]?.getD []).length=x:=⟨_,rfl⟩
          rw [hR9] at HU9 hR0
          subst hR0
          clear hu9 hc9 hm9 hrow9 hR9
          have hcl':=Lib.hid hcl
          have HU:=Lib.hid hu0
          obtain ⟨b2,off2,e2,hb2,hrow2⟩:=many_at hm0 (by omega)
          subst e2
          have HROW2:=Lib.hid hrow2
          clear hrow2 hm0
          rw [hcl] at hu HU
          clear hne hcl hu0
          have hne:((R9:Int) != (R9:Int))=false:=by simp
          generalize (firstC css).length=n at *
          go_wp2
          obtain ⟨wq,hwq⟩:∃ x,x=wr:=⟨_,rfl⟩
          subst hwq
          go_loopw [6] (fun i wr=>∃ m:Nat,m≤R9∧i = .int .i64 m∧Hid (∀ r,r<m→Cell (cs[r]?.getD [])∧(cs[r]?.getD []).length=n)∧Below w.heap.size w wr) (fun i _=>R9 - (intOf i).toNat)
          case atStart=>exact ⟨0,Nat.zero_le _,rfl,(Lib.hid fun j hj=>absurd hj (by omega)),hBr⟩
          case round =>
           clear hBr hu
           obtain ⟨m,hm2,rfl,HA2,hBr⟩:=hrel
           by_cases hlt2:m<R9
           · have hdec2:decide ((m:Int)<(R9:Int))=true:=by simp;omega
             obtain ⟨B3,cp3,hc3,hby3⟩:=HROW2.out m (by have:=hcl'.out;omega)
             have cu:=(hBr.cell (p:=⟨b1,off1+k,none⟩) (Nat.lt_of_lt_of_le hb1 hB)).trans HU.out
             have c3:=(hBr.cell (p:=⟨b2,off2+m,none⟩) (Nat.lt_of_lt_of_le hb2 hB)).trans hc3
             have c9:=(hBr.cell (p:=⟨b1,off1,none⟩) (Nat.lt_of_lt_of_le hb1 hB)).trans HU9.out
             have c90:=(hBr.cell (p:=⟨b9,off9,none⟩) (Nat.lt_of_lt_of_le hb9 hB)).trans HC9.out
             have HRr:=Lib.hid (fun n=>C.right_any _ _ (wr.drewN n) ((hby3.below (hBr.mono hB)).keep (W':=wr.drewN n) fun _ _=>rfl))
             have HN2:=Lib.hid (fun (h:b=true)=>(HN.out h).2 m hlt2)
             have HL2:=Lib.hid (fun (h:Cell (cs[m]?.getD [])∧(cs[m]?.getD []).length=n)=>all_next HA2.out h)
             clear hc3 hby3
             generalize cs[m]?.getD []=x at *
             by_cases hcx:Cell x
             · rw [decide_eq_true hcx] at HRr
               by_cases hxn:x.length=n
               · have HL3:=Lib.hid (HL2.out ⟨hcx,hxn⟩)
                 have e1:((x.length:Int) != (x.length:Int))=false:=by simp
                 clear HL2 HN2 hcx HL HN HA HA2 HF HF0
                 subst hxn
                 go_wp2
                 go_quiet ((go_at_call 45;refine (HRr.out _).mono ?_;rintro e w' ⟨rfl,rfl⟩;exact ⟨rfl,_,rfl⟩))
                 go_wp2
                 go_roundw
                 case rel=>exact ⟨m+1,by omega,by go_num,HL3,below_drewN hBr _⟩
                 case measure=>simp [intOf];omega
               · have e1:((x.length:Int) != (n:Int))=true:=by rw [bne_iff_ne];omega
                 have HF:=Lib.hid (Bool.eq_false_iff.2 fun h=>hxn (HN2.out h).2)
                 clear HL2 HN2 hcx hxn HL HN HA HA2
                 go_wp2
                 go_quiet ((go_at_call 45;refine (HRr.out _).mono ?_;rintro e w' ⟨rfl,rfl⟩;exact ⟨rfl,_,rfl⟩))
                 go_wp2
                 go_ret
                 exact ⟨ret_bool HF.out.symm,below_drewN hBr _⟩
             · rw [decide_eq_false hcx] at HRr
               have HF:=Lib.hid (Bool.eq_false_iff.2 fun h=>hcx (HN2.out h).1)
               clear HL2 HN2 hcx HL HN HA HA2
               go_wp2
               go_quiet ((go_at_call 45;refine (HRr.out _).mono ?_;rintro e w' ⟨rfl,rfl⟩;exact ⟨rfl,_,rfl⟩))
               go_wp2
               go_ret
               exact ⟨ret_bool HF.out.symm,below_drewN hBr _⟩
           · obtain rfl:m=R9:=by omega
             have e1:decide ((m:Int)<(m:Int))=false:=by simp
             go_wp2
             go_roundw
             case rel=>exact ⟨k+1,by omega,by go_num,Lib.hid (HL.out ⟨hcl'.out,HA2.out⟩),hBr⟩
             case measure=>simp [intOf];omega
        · have hne:((cs.length:Int) != (R:Int))=true:=by rw [bne_iff_ne];omega
          go_wp2
          go_ret
          exact ⟨ret_bool (Bool.eq_false_iff.2 fun h=>hcl (HN.out h).1).symm,hBr⟩
      · obtain rfl:k=css.length:=by omega
        have e1:decide ((css.length:Int)<(css.length:Int))=false:=by simp
        go_wp2
        go_ret
        exact ⟨ret_bool (HB.out.2 (HI.out.2 HA.out)).symm,hBr⟩
   · have e0:((css.length:Int) == 0)=true:=by rw [beq_iff_eq];omega
     have hbf:b=false:=Bool.eq_false_iff.2 fun h=>h0 (hb.1 h).2.1
     subst hbf
     clear hb hp
     go_enter Tryz.func22,Tryz.ntmps22
     go_wp2_with (go_at_call 19;refine HR.out.mono ?_;rintro e w1 ⟨rfl,hB1⟩)
     go_ret
     exact ⟨rfl,hB1⟩
 · rw [decide_eq_false hp] at HR
   have hbf:b=false:=Bool.eq_false_iff.2 fun h=>hp (hb.1 h).1
   subst hbf
   clear hb hp
   go_enter Tryz.func22,Tryz.ntmps22
   go_wp2_with (go_at_call 19;refine HR.out.mono ?_;rintro e w1 ⟨rfl,hB1⟩)
   go_ret
   exact ⟨rfl,hB1⟩
end Go.Proofs.YtkllhjhkcipkoaaGreatDoor.E

namespace Go.Proofs.YtkllhjhkcipkoaaGreatDoor
open Go.RowKit Go.Shelf

def anyHF (F:Fence) (n:Nat) (P:Program) (md:Region.Mode) (ops:Array Oper) (Q:Exit→Act→World→Prop) (S:World→Prop):Nat→Array Bool→Act→World→Prop
 | 0,listed,a,w=>Region.ready md ops listed = []∧Q .normal a w
 | k+1,listed,a,w=>(Region.ready md ops listed = []→Q .normal a w)∧∀ i∈Region.ready md ops listed,wpOpIn F n P ops Q i (fun a' w'=>S w'∧anyHF F n P md ops Q S k (listed.setIfInBounds i true) a' w') a w
section
variable {F:Fence} {n:Nat} {P:Program} {md:Region.Mode} {ops:Array Oper} {Q:Exit→Act→World→Prop} {S:World→Prop}
theorem anyHF.any:∀ (k:Nat) (listed:Array Bool) (a:Act) (w:World),anyHF F n P md ops Q S k listed a w→wpAnyIn F n P md ops Q k listed a w
 | 0,_,_,_,h=>h
 | k+1,_,_,_,h=>⟨h.1,fun i hi=>wpOpIn_mono (fun a' w' h'=>anyHF.any k _ a' w' h'.2) (h.2 i hi)⟩
def Leaves (P:Program) (ops:Array Oper) (S:World→Prop) (o:Oper) (v:Value) (a:Act):Prop:=YieldsIf P ops S o v a∧∀ w,o.about P w a.eval=none
theorem Leaves.op {i:Nat} {o:Oper} {v:Value} {a:Act} (hnd:notDefer o.op=true) (hi:ops[i]?=some o) (hy:Leaves P ops S o v a) {K:Act→World→Prop} {w:World} (hS:S w) (h:K (a.put o.dst v) w):wpOpIn F n P ops Q i K a w:=by
 unfold Go.wpOpIn
 simp only [hi]
 have hab:∀ f,o.about P w a.eval=some f→F.fn f:=fun f hf=>by rw [hy.2 w] at hf;cases hf
 rcases hy.1 with ⟨hw,hv⟩ | ⟨hw,rfl⟩
 · simp only [hw,if_true,Oper.wpIn]
   rw [Oper.semAt_plain _ _ _ (notDefer_ne hnd),hv w hS]
   exact ⟨hab,h⟩
 · simp only [hw,Bool.false_eq_true,if_false];exact ⟨hab,h⟩
theorem Leaves.put {j:Nat} {oi oj:Oper} {v:Value} (hnd:notDefer oj.op=true) (hj:ops[j]?=some oj) (hap:oi.apart ops oj=true)
 (hsi:∀ cs b,oi.op≠.select cs b) (hsj:∀ cs b,oj.op≠.select cs b) (hQ:∀ c a w,Q (.panic c) (a.put oi.dst v) w→Q (.panic c) a w) {K:Act→World→Prop} {a:Act} {w:World}
 (hy:Leaves P ops S oi v a) (h:wpOpIn F n P ops Q j K (a.put oi.dst v) w):wpOpIn F n P ops Q j (fun a' w'=>Leaves P ops S oi v a'∧K (a'.put oi.dst v) w') a w:=by
 obtain ⟨h1,h2,h3⟩:=Oper.apart_spec hap
 have keep:∀ u,Leaves P ops S oi v (a.put oj.dst u):=fun u =>
  ⟨hy.1.of_same (execOp_put oi hsi a oj.dst u h3) (wanted_put oi a oj.dst u h3),fun w=>(about_put oi w a oj.dst u h3).trans (hy.2 w)⟩
 unfold wpOpIn at *
 simp only [hj] at *
 rw [wanted_put oj a oi.dst v h1,about_put oj w a oi.dst v h1] at h
 split
 · rename_i hw
   simp only [hw,if_true] at h
   unfold Oper.wpIn at *
   rw [about_put oj w a oi.dst v h1,Oper.semAt_plain _ _ _ (notDefer_ne hnd),execOp_put oj hsj a oi.dst v h1] at h
   rw [Oper.semAt_plain _ _ _ (notDefer_ne hnd)]
   obtain ⟨hab,h⟩:=h
   refine ⟨hab,?_⟩
   clear hab
   generalize (execOp a.eval oj).run P w=r at *
   cases r with
   | ok x w' =>
     cases x <;> simp only [Oper.uponIn] at h ⊢
     case value u=>exact ⟨keep u,by rw [←Act.put_comm a v u h2];exact h⟩
     case skip=>exact ⟨keep _,by rw [←Act.put_comm a v undef h2];exact h⟩
     case defer d =>
      refine ⟨⟨hy.1.of_same (execOp_put oi hsi { a with defers:=d :: a.defers } oj.dst undef h3) (wanted_put oi { a with defers:=d :: a.defers } oj.dst undef h3),fun w=>(about_put oi w { a with defers:=d :: a.defers } oj.dst undef h3).trans (hy.2 w)⟩,?_⟩
      rw [←Act.put_comm _ v undef h2,←Act.put_defers]
      exact h
     case enter f args =>
      refine ⟨h.1,CallsIn.mono h.2 fun e w'' he=>?_⟩
      cases e with
      | returned u=>exact ⟨keep u,by rw [←Act.put_comm a v u h2];exact he⟩
      | panicked c=>exact hQ _ _ _ he
      | outgrown=>exact he
     case row row args=>exact ⟨h.1,RowsIn.mono h.2 fun u w'' he=>⟨keep u,by rw [←Act.put_comm a v u h2];exact he⟩⟩
     case round l f tmps assign body =>
      refine ⟨h.1,RoundIn.mono h.2 fun e w'' he=>?_⟩
      cases e with
      | returned u=>exact ⟨keep u,by rw [←Act.put_comm a v u h2];exact he⟩
      | panicked c=>exact hQ _ _ _ he
      | outgrown=>exact he
   | halt x w' =>
     cases x <;> simp only [Oper.uponIn] at h ⊢
     case panic u=>exact hQ _ _ _ h
 · rename_i hw
   simp only [hw] at h
   exact ⟨h.1,keep _,by rw [←Act.put_comm a v undef h2];exact h.2⟩
theorem anyHF_first {i:Nat} {oi:Oper} {v:Value} (hnd:∀ (i:Nat) (o:Oper),ops[i]?=some o→notDefer o.op=true) (hi:ops[i]?=some oi) (hsel:∀ (j:Nat) (o:Oper) cs b,ops[j]?=some o→o.op≠.select cs b)
 (hQ:∀ c a w,Q (.panic c) (a.put oi.dst v) w→Q (.panic c) a w) :
 ∀ (k:Nat) (listed:Array Bool) (a:Act) (w:World),
  (∀ j oj,ops[j]?=some oj→j≠i→listed.getD j true=false→(∀ e∈oj.after,Region.binds md e=true→e.on≠i)→oi.apart ops oj=true) →
  i∈Region.ready md ops listed→Leaves P ops S oi v a→S w →
  anyHF F n P md ops Q S k (listed.setIfInBounds i true) (a.put oi.dst v) w→anyHF F n P md ops Q S (k+1) listed a w:=by
 intro k
 induction k with
 | zero =>
   intro listed a w _ hr hy hS H
   refine ⟨fun h=>(by rw [h] at hr;cases hr),fun j hj=>?_⟩
   by_cases hji:j=i
   · subst hji;exact hy.op (hnd _ _ hi) hi hS ⟨hS,H⟩
   · have:=ready_mono hj hji
     rw [H.1] at this
     cases this
 | succ k ih =>
   intro listed a w hfree hr hy hS H
   refine ⟨fun h=>(by rw [h] at hr;cases hr),fun j hj=>?_⟩
   by_cases hji:j=i
   · subst hji;exact hy.op (hnd _ _ hi) hi hS ⟨hS,H⟩
   · have h1:=H.2 j (ready_mono hj hji)
     obtain ⟨hjun,oj,hoj,hall⟩:=mem_ready.1 hj
     have hnot:∀ e∈oj.after,Region.binds md e=true→e.on≠i:=fun e he hb heq=>by
      have h1:=hall e he hb
      have h0:=(mem_ready.1 hr).1
      rw [heq] at h1
      rcases Nat.lt_or_ge i listed.size with h' | h'
      · simp [h'] at h0 h1;rw [h0] at h1;cases h1
      · simp [Array.getElem?_eq_none h'] at h1
     have h2:=Leaves.put (hnd _ _ hoj) hoj (hfree j oj hoj hji hjun hnot) (fun cs b=>hsel i oi cs b hi) (fun cs b=>hsel j oj cs b hoj) hQ hy h1
     refine wpOpIn_mono (fun a' w' h3=>⟨h3.2.1,ih (listed.setIfInBounds j true) a' w' (fun x ox hx hxi hun hno=>hfree x ox hx hxi ?_ hno) (ready_mono hr (Ne.symm hji)) h3.1 h3.2.1 ?_⟩) h2
     · by_cases hjx:j=x
       · subst hjx;exact hjun
       · rw [getD_set_ne true hjx] at hun;exact hun
     · rw [Array.setIfInBounds_comm _ _ hji]
       exact h3.2.2
theorem anyHF_take {i:Nat} {oi:Oper} {d:Tmp} {v:Value} {k:Nat} {listed:Array Bool} {a:Act} {w:World} (hnd:(ops.toList.all fun o=>notDefer o.op)=true) (hi:ops[i]?=some oi)
 (hs:Region.noSelect ops=true) (hf:Region.free md ops listed i=true) (hr:(Region.ready md ops listed).contains i=true) (hd:oi.dst=some d)
 (hQ:∀ c a w,Q (.panic c) (a.put oi.dst v) w→Q (.panic c) a w) (hy:Leaves P ops S oi v a) (hS:S w)
 (h:anyHF F n P md ops Q S k (listed.setIfInBounds i true) { tmps:=a.tmps.setIfInBounds d v,defers:=a.defers } w):anyHF F n P md ops Q S (k+1) listed a w :=
 anyHF_first (all_nd hnd) hi (Region.noSelect_spec hs) hQ k listed a w (Region.free_spec hi hf) (by simpa using hr) hy hS (by unfold Act.put;rw [hd];exact h)
theorem anyHF_one {i:Nat} {o:Oper} {k:Nat} {listed:Array Bool} {a:Act} {w:World} (hr:Region.ready md ops listed = [i]) (ho:ops[i]?=some o) (hnd:(ops.toList.all fun o=>notDefer o.op)=true) (hw:Region.wanted o (yielded ops a.tmps)=true)
 (h:Oper.wpIn F n P o a w (fun a' w'=>S w'∧anyHF F n P md ops Q S k (listed.setIfInBounds i true) a' w') Q):anyHF F n P md ops Q S (k+1) listed a w :=
 ⟨fun h0=>(by rw [hr] at h0;cases h0),fun j hj=>by
  rw [hr] at hj
  obtain rfl:=List.mem_singleton.1 hj
  unfold wpOpIn
  rw [ho]
  simp only [hw,if_true]
  exact h⟩
theorem ud9 {α:Type}:(∀ (l:List α) (i:Nat) (a:α),l.toArray.setIfInBounds i a=(l.set i a).toArray)∧(∀ (x:α) (xs:List α) (a:α),(x :: xs).set 0 a=a :: xs)∧(∀ (x:α) (xs:List α) (i:Nat) (a:α),(x :: xs).set (i+1) a=x :: xs.set i a):=⟨fun _ _ _=>List.setIfInBounds_toArray ..,fun _ _ _=>rfl,fun _ _ _ _=>rfl⟩
theorem gz9 {α:Type}:(∀ (l:List α) (i:Nat),l.toArray[i]?=l[i]?)∧(∀ (x:α) (xs:List α),(x :: xs)[0]?=some x)∧(∀ (x:α) (xs:List α) (i:Nat),(x :: xs)[i+1]?=xs[i]?):=⟨fun _ _=>List.getElem?_toArray ..,fun _ _=>rfl,fun _ _ _=>rfl⟩
theorem tkF {i:Nat} {oi:Oper} {d:Tmp} {v:Value} {k:Nat} {listed:Array Bool} {a:Act} {w:World} (q1:(ops.toList.all fun o=>notDefer o.op)=true:=by kernel_rfl) (q2:ops[i]?=some oi:=by rfl)
 (q3:Region.noSelect ops=true:=by kernel_rfl) (q4:Region.free md ops listed i=true:=by kernel_rfl) (q5:(Region.ready md ops listed).contains i=true:=by kernel_rfl) (q6:oi.dst=some d:=by rfl)
 (q7:∀ c a w,Q (.panic c) (a.put oi.dst v) w→Q (.panic c) a w:=by exact fun _ _ _ h=>h) (q8:Leaves P ops S oi v a:=by exact ⟨Or.inl ⟨by rfl,fun w hS=>by (repeat (obtain ⟨_,hS⟩:=hS));go_simp⟩,fun _=>rfl⟩) (s:S w)
 (c:anyHF F n P md ops Q S k (listed.setIfInBounds i true) { tmps:=a.tmps.setIfInBounds d v,defers:=a.defers } w):anyHF F n P md ops Q S (k+1) listed a w:=anyHF_take q1 q2 q3 q4 q5 q6 q7 q8 s c
theorem oneF {i:Nat} {o:Oper} {k:Nat} {listed:Array Bool} {a:Act} {w:World} (q1:Region.ready md ops listed = [i]:=by kernel_rfl) (q2:ops[i]?=some o:=by rfl) (q3:(ops.toList.all fun o=>notDefer o.op)=true:=by kernel_rfl) (q4:Region.wanted o (yielded ops a.tmps)=true:=by rfl)
 (c:Oper.wpIn F n P o a w (fun a' w'=>S w'∧anyHF F n P md ops Q S k (listed.setIfInBounds i true) a' w') Q):anyHF F n P md ops Q S (k+1) listed a w:=anyHF_one q1 q2 q3 q4 c
theorem anyHF_done {listed:Array Bool} {a:Act} {w:World} (hr:Region.ready md ops listed = []) (h:Q .normal a w):∀ k,anyHF F n P md ops Q S k listed a w
 | 0=>⟨hr,h⟩
 | _+1=>⟨fun _=>h,by rw [hr];simp⟩
theorem region_HF {id:Nat} {a:Act} {w:World} (hm:P.follows .mixedOrders=true) (h:anyHF F n P .any ops Q S ops.size (Array.replicate ops.size false) a w.drew):(Code.region id ops true).wpIn F n P Q a w :=
 wpIn_region_any hm (anyHF.any _ _ _ _ h)
end
end Go.Proofs.YtkllhjhkcipkoaaGreatDoor
