/- -/
import Derived.Test.YtknkdbincaonbaaGreatDoorCEG1
import Derived.Test.YtknkdbincaonbaaGreatDoorCECA
import Derived.Test.YtknkdbincaonbaaGreatDoorCESA
import Derived.OrdersIn
import Derived.OrdersHeld
import Derived.Lib.AppendZeros
import Derived.Laws.OwnMore
set_option linter.unusedVariables false
set_option linter.unusedSimpArgs false
set_option maxRecDepth 100000
set_option maxHeartbeats 2000000
namespace Go.Proofs.YtknkdbincaonbaaGreatDoor.E
open Go.RowKit Go.Shelf Go.Proofs.YtknkdbincaonbaaGreatDoor.C

def FewC (cs:List (List UInt8)):Prop:=cs.length≤20∧∀ k,k<cs.length→(cs[k]?.getD []).length≤70
def Few6 (css:List (List (List UInt8))):Prop:=css.length≤24∧∀ j,j<css.length→FewC (css[j]?.getD [])
theorem all_next {P:Nat→Prop} {k:Nat} (h:∀ j,j<k→P j) (hk:P k):∀ j,j<k+1→P j:=by
 intro j hj
 rcases Nat.lt_or_ge j k with h1 | h1
 · exact h j h1
 · obtain rfl:j=k:=by omega
   exact hk
theorem few6_any {B:Nat} (v:Value) (css:List (List (List UInt8))) (w:World) (hC:Cols B w v css) (b:Bool) (hb:b=true↔Few6 css) :
 Calls Tryz.prog 8 #[v] w fun e w'=>e = .returned (.bool b)∧w=w':=by
 obtain ⟨A,cap,rfl,_,_⟩:=id hC
 by_cases h24:css.length≤24
 · have d0:decide ((24:Int)<(css.length:Int))=false:=by simp;omega
   go_enter Tryz.func8,Tryz.ntmps8
   go_wp2
   go_loop [3] (fun i=>∃ k:Nat,k≤css.length∧i = .int .i64 k∧Hid (∀ j,j<k→FewC (css[j]?.getD []))) (fun i=>css.length - (intOf i).toNat)
   case atStart=>exact ⟨0,Nat.zero_le _,rfl,Lib.hid fun j hj=>absurd hj (by omega)⟩
   case round =>
    obtain ⟨k,hk,rfl,HA⟩:=hrel
    by_cases hlt:k<css.length
    · have hdec:decide ((k:Int)<(css.length:Int))=true:=by simp;omega
      obtain ⟨b1,off1,cap1,e1,_,_,hrow1⟩:=hC.at_ (by omega)
      injection e1 with e1 _ _
      subst e1
      obtain ⟨u,hu,hm⟩:=hrow1 k hlt
      obtain ⟨A2,cap2,rfl,_,_⟩:=id hm
      have HN:=Lib.hid (fun (h:b=true)=>(hb.1 h).2 k hlt)
      have HL:=Lib.hid (fun (h:FewC (css[k]?.getD []))=>all_next HA.out h)
      clear hrow1
      generalize css[k]?.getD []=cs at *
      by_cases h20:cs.length≤20
      · have d1:decide ((20:Int)<(cs.length:Int))=false:=by simp;omega
        go_wp2
        go_loop [4] (fun i=>∃ m:Nat,m≤cs.length∧i = .int .i64 m∧Hid (∀ j,j<m→(cs[j]?.getD []).length≤70)) (fun i=>cs.length - (intOf i).toNat)
        case atStart=>exact ⟨0,Nat.zero_le _,rfl,Lib.hid fun j hj=>absurd hj (by omega)⟩
        case round =>
         obtain ⟨m,hm2,rfl,HA2⟩:=hrel
         by_cases hlt2:m<cs.length
         · have hdec2:decide ((m:Int)<(cs.length:Int))=true:=by simp;omega
           obtain ⟨b2,off2,rfl,_,hrow2⟩:=many_at hm (by omega)
           obtain ⟨B1,cp1,hc1,_⟩:=hrow2 m hlt2
           have HN2:=Lib.hid (fun (h:b=true)=>(HN.out h).2 m hlt2)
           have HL2:=Lib.hid (fun (h:(cs[m]?.getD []).length≤70)=>all_next HA2.out h)
           clear hrow2
           generalize (cs[m]?.getD []).length=x at hc1 HN2 HL2
           by_cases hx:x≤70
           · have d2:decide ((70:Int)<(x:Int))=false:=by simp;omega
             go_wp2
             go_round
             case rel=>exact ⟨m+1,by omega,by go_num,Lib.hid (HL2.out hx)⟩
             case measure=>simp [intOf];omega
           · have d2:decide ((70:Int)<(x:Int))=true:=by simp;omega
             go_wp2
             go_ret
             exact ⟨ret_bool (Bool.eq_false_iff.2 fun h=>hx (HN2.out h)).symm,rfl⟩
         · obtain rfl:m=cs.length:=by omega
           have e1:decide ((cs.length:Int)<(cs.length:Int))=false:=by simp
           go_wp2
           go_round
           case rel=>exact ⟨k+1,by omega,by go_num,Lib.hid (HL.out ⟨h20,HA2.out⟩)⟩
           case measure=>simp [intOf];omega
      · have d1:decide ((20:Int)<(cs.length:Int))=true:=by simp;omega
        go_wp2
        go_ret
        exact ⟨ret_bool (Bool.eq_false_iff.2 fun h=>h20 (HN.out h).1).symm,rfl⟩
    · obtain rfl:k=css.length:=by omega
      have e1:decide ((css.length:Int)<(css.length:Int))=false:=by simp
      go_wp2
      go_ret
      exact ⟨ret_bool (hb.2 ⟨h24,HA.out⟩).symm,rfl⟩
 · have d0:decide ((24:Int)<(css.length:Int))=true:=by simp;omega
   have hbf:b=false:=Bool.eq_false_iff.2 fun h=>h24 (hb.1 h).1
   subst hbf
   go_enter Tryz.func8,Tryz.ntmps8
   go_wp2
   go_ret
   exact ⟨rfl,rfl⟩

def RightD (p:Int) (css:List (List (List UInt8))):Prop:=p∈prm∧TogOk (p - 1).toNat css
def GoodC (R n:Nat) (cs:List (List UInt8)):Prop:=cs.length=R∧∀ r,r<R→Cell (cs[r]?.getD [])∧(cs[r]?.getD []).length=n
theorem rightD_iff {p:Int} {css:List (List (List UInt8))} (hp:p∈prm) (h0:0<css.length):RightD p css↔∀ j,j<css.length→GoodC (p - 1).toNat (firstC css).length (css[j]?.getD []):=by
 have hpp:=prm_bounds hp
 constructor
 · rintro ⟨_,_,h⟩ j hj
   obtain ⟨h1,h2,h3⟩:=h j hj
   refine ⟨h1,fun r hr=>?_⟩
   have h4:=h3 r (by omega)
   refine ⟨?_,h4⟩
   unfold Cell at h2 ⊢
   omega
 · intro h
   refine ⟨hp,h0,fun j hj=>⟨(h j hj).1,((h 0 h0).2 0 (by omega)).1,fun r hr=>((h j hj).2 r (by have:=(h j hj).1;omega)).2⟩⟩
theorem right6_any {B:Nat} (p:Int) (v:Value) (css:List (List (List UInt8))) (w:World) (hB:B≤w.heap.size) (hC:Cols B w v css) (hlen:css.length≤1000) (b:Bool) (hb:b=true↔RightD p css) :
 Calls Tryz.prog 18 #[.int .i64 p,v] w fun e w'=>e = .returned (.bool b)∧Below w.heap.size w w':=by
 have HR:=Lib.hid (Go.Proofs.YtknkdbincaonbaaGreatDoor.right_any p w)
 obtain ⟨A,cap,rfl,_,_⟩:=id hC
 by_cases hp:p∈prm
 · rw [decide_eq_true hp] at HR
   have hpp:=prm_bounds hp
   by_cases h0:0<css.length
   · have e0:((css.length:Int) == 0)=false:=by rw [beq_eq_false_iff_ne];omega
     have HI:=Lib.hid (rightD_iff (css:=css) hp h0)
     have HB:=Lib.hid hb
     obtain ⟨R,hR⟩:∃ R:Nat,p - 1=(R:Int):=⟨(p - 1).toNat,by omega⟩
     have hR2:(p - 1).toNat=R:=by omega
     rw [hR2] at HI
     have hpw:IntKind.i64.wrap (p - 1)=(R:Int):=by rw [←hR];exact IntWalk.i64_in _ (by omega)
     have hRn:2≤R∧R≤16:=by omega
     obtain ⟨b1,off1,cap1,e1,_,hb1,hrow1⟩:=hC.at_ (by omega)
     injection e1 with e1 _ _
     subst e1
     have HROW:=Lib.hid hrow1
     clear hb hp hR2 hpp hC hrow1
     go_enter Tryz.func18,Tryz.ntmps18
     go_wp2_with (go_at_call 48;refine HR.out.mono ?_;rintro e w1 ⟨rfl,hB1⟩)
     clear HR
     go_loopw [5] (fun i wr=>∃ k:Nat,k≤css.length∧i = .int .i64 k∧Hid (∀ j,j<k→GoodC R (firstC css).length (css[j]?.getD []))∧Below w.heap.size w wr) (fun i _=>css.length - (intOf i).toNat)
     case atStart=>exact ⟨0,Nat.zero_le _,rfl,(Lib.hid fun j hj=>absurd hj (by omega)),hB1⟩
     case round =>
      clear hB1
      obtain ⟨k,hk,rfl,HA,hBr⟩:=hrel
      by_cases hlt:k<css.length
      · have hdec:decide ((k:Int)<(css.length:Int))=true:=by simp;omega
        obtain ⟨u,hu0,hm0⟩:=HROW.out k hlt
        obtain ⟨A2,cap2,rfl,_,_⟩:=id hm0
        have hu:=(hBr.cell (p:=⟨b1,off1+k,none⟩) (Nat.lt_of_lt_of_le hb1 hB)).trans hu0
        have HN:=Lib.hid (fun (h:b=true)=>HI.out.1 (HB.out.1 h) k hlt)
        have HL:=Lib.hid (fun (h:GoodC R (firstC css).length (css[k]?.getD []))=>all_next HA.out h)
        have HF:Hid (k=0→css[k]?.getD []=css[0]?.getD []):=fun e=>by rw [e]
        have HF0:Hid (0<k→(css[0]?.getD []).length=R):=fun e=>(HA.out 0 e).1
        generalize css[k]?.getD []=cs at *
        by_cases hcl:cs.length=R
        · have hne:((cs.length:Int) != (R:Int))=false:=by rw [hcl];simp
          have hR0:(css[0]?.getD []).length=R:=by
           rcases Nat.eq_zero_or_pos k with h | h
           · rw [←HF.out h];exact hcl
           · exact HF0.out h
          obtain ⟨u9,hu9,hm9⟩:=HROW.out 0 h0
          obtain ⟨A9,cap9,rfl,_,_⟩:=id hm9
          obtain ⟨b9,off9,rfl,hb9,hrow9⟩:=many_at hm9 (by omega)
          obtain ⟨B9,cp9,hc9,_⟩:=hrow9 0 (by omega)
          rw [Nat.add_zero] at hc9 hu9
          have HU9:=Lib.hid hu9
          have HC9:Hid (w.cell? ⟨b9,off9,none⟩=some (.slice B9 (firstC css).length cp9)):=hc9
          obtain ⟨R9,hR9⟩:∃ x,(css[0]?.getD []).length=x:=⟨_,rfl⟩
          rw [hR9] at HU9 hR0
          subst hR0
          clear hu9 hc9 hm9 hrow9 hR9
          have hcl':=Lib.hid hcl
          have HU:=Lib.hid hu0
          obtain ⟨b2,off2,e2,hb2,hrow2⟩:=many_at hm0 (by omega)
          subst e2
          have HROW2:=Lib.hid hrow2
          clear hrow2 hm0
          rw [hcl] at hu HU
          clear hne hcl hu0
          have hne:((R9:Int) != (R9:Int))=false:=by simp
          generalize (firstC css).length=n at *
          go_wp2
          obtain ⟨wq,hwq⟩:∃ x,x=wr:=⟨_,rfl⟩
          subst hwq
          go_loopw [6] (fun i wr=>∃ m:Nat,m≤R9∧i = .int .i64 m∧Hid (∀ r,r<m→Cell (cs[r]?.getD [])∧(cs[r]?.getD []).length=n)∧Below w.heap.size w wr) (fun i _=>R9 - (intOf i).toNat)
          case atStart=>exact ⟨0,Nat.zero_le _,rfl,(Lib.hid fun j hj=>absurd hj (by omega)),hBr⟩
          case round =>
           clear hBr hu
           obtain ⟨m,hm2,rfl,HA2,hBr⟩:=hrel
           by_cases hlt2:m<R9
           · have hdec2:decide ((m:Int)<(R9:Int))=true:=by simp;omega
             obtain ⟨B3,cp3,hc3,hby3⟩:=HROW2.out m (by have:=hcl'.out;omega)
             have cu:=(hBr.cell (p:=⟨b1,off1+k,none⟩) (Nat.lt_of_lt_of_le hb1 hB)).trans HU.out
             have c3:=(hBr.cell (p:=⟨b2,off2+m,none⟩) (Nat.lt_of_lt_of_le hb2 hB)).trans hc3
             have c9:=(hBr.cell (p:=⟨b1,off1,none⟩) (Nat.lt_of_lt_of_le hb1 hB)).trans HU9.out
             have c90:=(hBr.cell (p:=⟨b9,off9,none⟩) (Nat.lt_of_lt_of_le hb9 hB)).trans HC9.out
             have HRr:=Lib.hid (fun n=>C.right_any _ _ (wr.drewN n) ((hby3.below (hBr.mono hB)).keep (W':=wr.drewN n) fun _ _=>rfl))
             have HN2:=Lib.hid (fun (h:b=true)=>(HN.out h).2 m hlt2)
             have HL2:=Lib.hid (fun (h:Cell (cs[m]?.getD [])∧(cs[m]?.getD []).length=n)=>all_next HA2.out h)
             clear hc3 hby3
             generalize cs[m]?.getD []=x at *
             by_cases hcx:Cell x
             · rw [decide_eq_true hcx] at HRr
               by_cases hxn:x.length=n
               · have HL3:=Lib.hid (HL2.out ⟨hcx,hxn⟩)
                 have e1:((x.length:Int) != (x.length:Int))=false:=by simp
                 clear HL2 HN2 hcx HL HN HA HA2 HF HF0
                 subst hxn
                 go_wp2
                 go_quiet ((go_at_call 49;refine (HRr.out _).mono ?_;rintro e w' ⟨rfl,rfl⟩;exact ⟨rfl,_,rfl⟩))
                 go_wp2
                 go_roundw
                 case rel=>exact ⟨m+1,by omega,by go_num,HL3,below_drewN hBr _⟩
                 case measure=>simp [intOf];omega
               · have e1:((x.length:Int) != (n:Int))=true:=by rw [bne_iff_ne];omega
                 have HF:=Lib.hid (Bool.eq_false_iff.2 fun h=>hxn (HN2.out h).2)
                 clear HL2 HN2 hcx hxn HL HN HA HA2
                 go_wp2
                 go_quiet ((go_at_call 49;refine (HRr.out _).mono ?_;rintro e w' ⟨rfl,rfl⟩;exact ⟨rfl,_,rfl⟩))
                 go_wp2
                 go_ret
                 exact ⟨ret_bool HF.out.symm,below_drewN hBr _⟩
             · rw [decide_eq_false hcx] at HRr
               have HF:=Lib.hid (Bool.eq_false_iff.2 fun h=>hcx (HN2.out h).1)
               clear HL2 HN2 hcx HL HN HA HA2
               go_wp2
               go_quiet ((go_at_call 49;refine (HRr.out _).mono ?_;rintro e w' ⟨rfl,rfl⟩;exact ⟨rfl,_,rfl⟩))
               go_wp2
               go_ret
               exact ⟨ret_bool HF.out.symm,below_drewN hBr _⟩
           · obtain rfl:m=R9:=by omega
             have e1:decide ((m:Int)<(m:Int))=false:=by simp
             go_wp2
             go_roundw
             case rel=>exact ⟨k+1,by omega,by go_num,Lib.hid (HL.out ⟨hcl'.out,HA2.out⟩),hBr⟩
             case measure=>simp [intOf];omega
        · have hne:((cs.length:Int) != (R:Int))=true:=by rw [bne_iff_ne];omega
          go_wp2
          go_ret
          exact ⟨ret_bool (Bool.eq_false_iff.2 fun h=>hcl (HN.out h).1).symm,hBr⟩
      · obtain rfl:k=css.length:=by omega
        have e1:decide ((css.length:Int)<(css.length:Int))=false:=by simp
        go_wp2
        go_ret
        exact ⟨ret_bool (HB.out.2 (HI.out.2 HA.out)).symm,hBr⟩
   · have e0:((css.length:Int) == 0)=true:=by rw [beq_iff_eq];omega
     have hbf:b=false:=Bool.eq_false_iff.2 fun h=>h0 (hb.1 h).2.1
     subst hbf
     clear hb hp
     go_enter Tryz.func18,Tryz.ntmps18
     go_wp2_with (go_at_call 48;refine HR.out.mono ?_;rintro e w1 ⟨rfl,hB1⟩)
     go_ret
     exact ⟨rfl,hB1⟩
 · rw [decide_eq_false hp] at HR
   have hbf:b=false:=Bool.eq_false_iff.2 fun h=>hp (hb.1 h).1
   subst hbf
   clear hb hp
   go_enter Tryz.func18,Tryz.ntmps18
   go_wp2_with (go_at_call 48;refine HR.out.mono ?_;rintro e w1 ⟨rfl,hB1⟩)
   go_ret
   exact ⟨rfl,hB1⟩
end Go.Proofs.YtknkdbincaonbaaGreatDoor.E

namespace Go.Proofs.YtknkdbincaonbaaGreatDoor
open Go.RowKit Go.Shelf

def anyHF (F:Fence) (n:Nat) (P:Program) (md:Region.Mode) (ops:Array Oper) (Q:Exit→Act→World→Prop) (S:World→Prop):Nat→Array Bool→Act→World→Prop
 | 0,listed,a,w=>Region.ready md ops listed = []∧Q .normal a w
 | k+1,listed,a,w=>(Region.ready md ops listed = []→Q .normal a w)∧∀ i∈Region.ready md ops listed,wpOpIn F n P ops Q i (fun a' w'=>S w'∧anyHF F n P md ops Q S k (listed.setIfInBounds i true) a' w') a w
section
variable {F:Fence} {n:Nat} {P:Program} {md:Region.Mode} {ops:Array Oper} {Q:Exit→Act→World→Prop} {S:World→Prop}
theorem anyHF.any:∀ (k:Nat) (listed:Array Bool) (a:Act) (w:World),anyHF F n P md ops Q S k listed a w→wpAnyIn F n P md ops Q k listed a w
 | 0,_,_,_,h=>h
 | k+1,_,_,_,h=>⟨h.1,fun i hi=>wpOpIn_mono (fun a' w' h'=>anyHF.any k _ a' w' h'.2) (h.2 i hi)⟩
def Leaves (P:Program) (ops:Array Oper) (S:World→Prop) (o:Oper) (v:Value) (a:Act):Prop:=YieldsIf P ops S o v a∧∀ w,o.about P w a.eval=none
theorem Leaves.op {i:Nat} {o:Oper} {v:Value} {a:Act} (hnd:notDefer o.op=true) (hi:ops[i]?=some o) (hy:Leaves P ops S o v a) {K:Act→World→Prop} {w:World} (hS:S w) (h:K (a.put o.dst v) w):wpOpIn F n P ops Q i K a w:=by
 unfold Go.wpOpIn
 simp only [hi]
 have hab:∀ f,o.about P w a.eval=some f→F.fn f:=fun f hf=>by rw [hy.2 w] at hf;cases hf
 rcases hy.1 with ⟨hw,hv⟩ | ⟨hw,rfl⟩
 · simp only [hw,if_true,Oper.wpIn]
   rw [Oper.semAt_plain _ _ _ (notDefer_ne hnd),hv w hS]
   exact ⟨hab,h⟩
 · simp only [hw,Bool.false_eq_true,if_false];exact ⟨hab,h⟩
theorem Leaves.put {j:Nat} {oi oj:Oper} {v:Value} (hnd:notDefer oj.op=true) (hj:ops[j]?=some oj) (hap:oi.apart ops oj=true)
 (hsi:∀ cs b,oi.op≠.select cs b) (hsj:∀ cs b,oj.op≠.select cs b) (hQ:∀ c a w,Q (.panic c) (a.put oi.dst v) w→Q (.panic c) a w) {K:Act→World→Prop} {a:Act} {w:World}
 (hy:Leaves P ops S oi v a) (h:wpOpIn F n P ops Q j K (a.put oi.dst v) w):wpOpIn F n P ops Q j (fun a' w'=>Leaves P ops S oi v a'∧K (a'.put oi.dst v) w') a w:=by
 obtain ⟨h1,h2,h3⟩:=Oper.apart_spec hap
 have keep:∀ u,Leaves P ops S oi v (a.put oj.dst u):=fun u =>
  ⟨hy.1.of_same (execOp_put oi hsi a oj.dst u h3) (wanted_put oi a oj.dst u h3),fun w=>(about_put oi w a oj.dst u h3).trans (hy.2 w)⟩
 unfold wpOpIn at *
 simp only [hj] at *
 rw [wanted_put oj a oi.dst v h1,about_put oj w a oi.dst v h1] at h
 split
 · rename_i hw
   simp only [hw,if_true] at h
   unfold Oper.wpIn at *
   rw [about_put oj w a oi.dst v h1,Oper.semAt_plain _ _ _ (notDefer_ne hnd),execOp_put oj hsj a oi.dst v h1] at h
   rw [Oper.semAt_plain _ _ _ (notDefer_ne hnd)]
   obtain ⟨hab,h⟩:=h
   refine ⟨hab,?_⟩
   clear hab
   generalize (execOp a.eval oj).run P w=r at *
   cases r with
   | ok x w' =>
     cases x <;> simp only [Oper.uponIn] at h ⊢
     case value u=>exact ⟨keep u,by rw [←Act.put_comm a v u h2];exact h⟩
     case skip=>exact ⟨keep _,by rw [←Act.put_comm a v undef h2];exact h⟩
     case defer d =>
      refine ⟨⟨hy.1.of_same (execOp_put oi hsi { a with defers:=d :: a.defers } oj.dst undef h3) (wanted_put oi { a with defers:=d :: a.defers } oj.dst undef h3),fun w=>(about_put oi w { a with defers:=d :: a.defers } oj.dst undef h3).trans (hy.2 w)⟩,?_⟩
      rw [←Act.put_comm _ v undef h2,←Act.put_defers]
      exact h
     case enter f args =>
      refine ⟨h.1,CallsIn.mono h.2 fun e w'' he=>?_⟩
      cases e with
      | returned u=>exact ⟨keep u,by rw [←Act.put_comm a v u h2];exact he⟩
      | panicked c=>exact hQ _ _ _ he
      | outgrown=>exact he
     case row row args=>exact ⟨h.1,RowsIn.mono h.2 fun u w'' he=>⟨keep u,by rw [←Act.put_comm a v u h2];exact he⟩⟩
     case round l f tmps assign body =>
      refine ⟨h.1,RoundIn.mono h.2 fun e w'' he=>?_⟩
      cases e with
      | returned u=>exact ⟨keep u,by rw [←Act.put_comm a v u h2];exact he⟩
      | panicked c=>exact hQ _ _ _ he
      | outgrown=>exact he
   | halt x w' =>
     cases x <;> simp only [Oper.uponIn] at h ⊢
     case panic u=>exact hQ _ _ _ h
 · rename_i hw
   simp only [hw] at h
   exact ⟨h.1,keep _,by rw [←Act.put_comm a v undef h2];exact h.2⟩
theorem anyHF_first {i:Nat} {oi:Oper} {v:Value} (hnd:∀ (i:Nat) (o:Oper),ops[i]?=some o→notDefer o.op=true) (hi:ops[i]?=some oi) (hsel:∀ (j:Nat) (o:Oper) cs b,ops[j]?=some o→o.op≠.select cs b)
 (hQ:∀ c a w,Q (.panic c) (a.put oi.dst v) w→Q (.panic c) a w) :
 ∀ (k:Nat) (listed:Array Bool) (a:Act) (w:World),
  (∀ j oj,ops[j]?=some oj→j≠i→listed.getD j true=false→(∀ e∈oj.after,Region.binds md e=true→e.on≠i)→oi.apart ops oj=true) →
  i∈Region.ready md ops listed→Leaves P ops S oi v a→S w →
  anyHF F n P md ops Q S k (listed.setIfInBounds i true) (a.put oi.dst v) w→anyHF F n P md ops Q S (k+1) listed a w:=by
 intro k
 induction k with
 | zero =>
   intro listed a w _ hr hy hS H
   refine ⟨fun h=>(by rw [h] at hr;cases hr),fun j hj=>?_⟩
   by_cases hji:j=i
   · subst hji;exact hy.op (hnd _ _ hi) hi hS ⟨hS,H⟩
   · have:=ready_mono hj hji
     rw [H.1] at this
     cases this
 | succ k ih =>
   intro listed a w hfree hr hy hS H
   refine ⟨fun h=>(by rw [h] at hr;cases hr),fun j hj=>?_⟩
   by_cases hji:j=i
   · subst hji;exact hy.op (hnd _ _ hi) hi hS ⟨hS,H⟩
   · have h1:=H.2 j (ready_mono hj hji)
     obtain ⟨hjun,oj,hoj,hall⟩:=mem_ready.1 hj
     have hnot:∀ e∈oj.after,Region.binds md e=true→e.on≠i:=fun e he hb heq=>by
      have h1:=hall e he hb
      have h0:=(mem_ready.1 hr).1
      rw [heq] at h1
      rcases Nat.lt_or_ge i listed.size with h' | h'
      · simp [h'] at h0 h1;rw [h0] at h1;cases h1
      · simp [Array.getElem?_eq_none h'] at h1
     have h2:=Leaves.put (hnd _ _ hoj) hoj (hfree j oj hoj hji hjun hnot) (fun cs b=>hsel i oi cs b hi) (fun cs b=>hsel j oj cs b hoj) hQ hy h1
     refine wpOpIn_mono (fun a' w' h3=>⟨h3.2.1,ih (listed.setIfInBounds j true) a' w' (fun x ox hx hxi hun hno=>hfree x ox hx hxi ?_ hno) (ready_mono hr (Ne.symm hji)) h3.1 h3.2.1 ?_⟩) h2
     · by_cases hjx:j=x
       · subst hjx;exact hjun
       · rw [getD_set_ne true hjx] at hun;exact hun
     · rw [Array.setIfInBounds_comm _ _ hji]
       exact h3.2.2
theorem anyHF_take {i:Nat} {oi:Oper} {d:Tmp} {v:Value} {k:Nat} {listed:Array Bool} {a:Act} {w:World} (hnd:(ops.toList.all fun o=>notDefer o.op)=true) (hi:ops[i]?=some oi)
 (hs:Region.noSelect ops=true) (hf:Region.free md ops listed i=true) (hr:(Region.ready md ops listed).contains i=true) (hd:oi.dst=some d)
 (hQ:∀ c a w,Q (.panic c) (a.put oi.dst v) w→Q (.panic c) a w) (hy:Leaves P ops S oi v a) (hS:S w)
 (h:anyHF F n P md ops Q S k (listed.setIfInBounds i true) { tmps:=a.tmps.setIfInBounds d v,defers:=a.defers } w):anyHF F n P md ops Q S (k+1) listed a w :=
 anyHF_first (all_nd hnd) hi (Region.noSelect_spec hs) hQ k listed a w (Region.free_spec hi hf) (by simpa using hr) hy hS (by unfold Act.put;rw [hd];exact h)
theorem anyHF_one {i:Nat} {o:Oper} {k:Nat} {listed:Array Bool} {a:Act} {w:World} (hr:Region.ready md ops listed = [i]) (ho:ops[i]?=some o) (hnd:(ops.toList.all fun o=>notDefer o.op)=true) (hw:Region.wanted o (yielded ops a.tmps)=true)
 (h:Oper.wpIn F n P o a w (fun a' w'=>S w'∧anyHF F n P md ops Q S k (listed.setIfInBounds i true) a' w') Q):anyHF F n P md ops Q S (k+1) listed a w :=
 ⟨fun h0=>(by rw [hr] at h0;cases h0),fun j hj=>by
  rw [hr] at hj
  obtain rfl:=List.mem_singleton.1 hj
  unfold wpOpIn
  rw [ho]
  simp only [hw,if_true]
  exact h⟩
theorem ud9 {α:Type}:(∀ (l:List α) (i:Nat) (a:α),l.toArray.setIfInBounds i a=(l.set i a).toArray)∧(∀ (x:α) (xs:List α) (a:α),(x :: xs).set 0 a=a :: xs)∧(∀ (x:α) (xs:List α) (i:Nat) (a:α),(x :: xs).set (i+1) a=x :: xs.set i a):=⟨fun _ _ _=>List.setIfInBounds_toArray ..,fun _ _ _=>rfl,fun _ _ _ _=>rfl⟩
theorem gz9 {α:Type}:(∀ (l:List α) (i:Nat),l.toArray[i]?=l[i]?)∧(∀ (x:α) (xs:List α),(x :: xs)[0]?=some x)∧(∀ (x:α) (xs:List α) (i:Nat),(x :: xs)[i+1]?=xs[i]?):=⟨fun _ _=>List.getElem?_toArray ..,fun _ _=>rfl,fun _ _ _=>rfl⟩
theorem tkF {i:Nat} {oi:Oper} {d:Tmp} {v:Value} {k:Nat} {listed:Array Bool} {a:Act} {w:World} (q1:(ops.toList.all fun o=>notDefer o.op)=true:=by kernel_rfl) (q2:ops[i]?=some oi:=by rfl)
 (q3:Region.noSelect ops=true:=by kernel_rfl) (q4:Region.free md ops listed i=true:=by kernel_rfl) (q5:(Region.ready md ops listed).contains i=true:=by kernel_rfl) (q6:oi.dst=some d:=by rfl)
 (q7:∀ c a w,Q (.panic c) (a.put oi.dst v) w→Q (.panic c) a w:=by exact fun _ _ _ h=>h) (q8:Leaves P ops S oi v a:=by exact ⟨Or.inl ⟨by rfl,fun w hS=>by (repeat (obtain ⟨_,hS⟩:=hS));go_simp⟩,fun _=>rfl⟩) (s:S w)
 (c:anyHF F n P md ops Q S k (listed.setIfInBounds i true) { tmps:=a.tmps.setIfInBounds d v,defers:=a.defers } w):anyHF F n P md ops Q S (k+1) listed a w:=anyHF_take q1 q2 q3 q4 q5 q6 q7 q8 s c
theorem oneF {i:Nat} {o:Oper} {k:Nat} {listed:Array Bool} {a:Act} {w:World} (q1:Region.ready md ops listed = [i]:=by kernel_rfl) (q2:ops[i]?=some o:=by rfl) (q3:(ops.toList.all fun o=>notDefer o.op)=true:=by kernel_rfl) (q4:Region.wanted o (yielded ops a.tmps)=true:=by rfl)
 (c:Oper.wpIn F n P o a w (fun a' w'=>S w'∧anyHF F n P md ops Q S k (listed.setIfInBounds i true) a' w') Q):anyHF F n P md ops Q S (k+1) listed a w:=anyHF_one q1 q2 q3 q4 c
theorem anyHF_done {listed:Array Bool} {a:Act} {w:World} (hr:Region.ready md ops listed = []) (h:Q .normal a w):∀ k,anyHF F n P md ops Q S k listed a w
 | 0=>⟨hr,h⟩
 | _+1=>⟨fun _=>h,by rw [hr];simp⟩
theorem region_HF {id:Nat} {a:Act} {w:World} (hm:P.follows .mixedOrders=true) (h:anyHF F n P .any ops Q S ops.size (Array.replicate ops.size false) a w.drew):(Code.region id ops true).wpIn F n P Q a w :=
 wpIn_region_any hm (anyHF.any _ _ _ _ h)
end
end Go.Proofs.YtknkdbincaonbaaGreatDoor

namespace Go.Proofs.YtknkdbincaonbaaGreatDoor.E
open Go.RowKit Go.Shelf Go.Proofs.YtknkdbincaonbaaGreatDoor.C
attribute [local go_sem] Oper.semAt_some


theorem idle_K (p:Addr) (w:World) :
 CallsD Tryz.prog 152 #[.pointer (some p)] .returning w fun e u' w'=>e = .returned (.tuple #[])∧u' = .returning∧w'=w:=by
 have hta:=assert_errno
 refine callsD_of_wpS Tryz.func152 rfl fun c₀ cs hu=>?_
 simp only [Tryz.ntmps152,List.size_toArray,List.length_cons,List.length_nil,Nat.reduceAdd,Nat.reduceSub,Array.replicate_succ,Array.replicate_zero,List.push_toArray,List.append_toArray,List.nil_append,List.cons_append]
 apply wpS_seq
 apply wpS_region
 simp [wpOpsS,go_sem,recoverD,hu,Exit.thenS]
 all_goals (refine wpS_of_wp ?_;go_wp2;cases c₀;simp_all [bodyPostS,results,Tryz.results152])
theorem caught_K (p:Addr) (x:Int) (w:World) (hc:w.cell? p=some (.int .i64 x)) (hz:w.frozen? p=false) :
 CallsD Tryz.prog 152 #[.pointer (some p)] (.panicking gaveUp) w fun e u' w' =>
  e = .returned (.tuple #[])∧u' = .panicking [{ v:=.iface 29 (.int .i64 2),recovered:=true }]∧w'=w.setCell p (.int .i64 2):=by
 have hta:=assert_errno
 refine callsD_of_wpS Tryz.func152 rfl fun c₀ cs hu=>?_
 simp only [Tryz.ntmps152,List.size_toArray,List.length_cons,List.length_nil,Nat.reduceAdd,Nat.reduceSub,Array.replicate_succ,Array.replicate_zero,List.push_toArray,List.append_toArray,List.nil_append,List.cons_append]
 apply wpS_seq
 apply wpS_region
 simp [wpOpsS,go_sem,recoverD,hu,Exit.thenS,gaveUp]
 all_goals (refine wpS_of_wp ?_;go_wp2;simp [bodyPostS,results,Tryz.results152])

theorem two_blks (w:World) {w1:World} (hB1:Below ((w.alloc (.cells #[.int .i64 0,.slice none 0 0] 151)).alloc (.cells #[.int .i64 0] 29)).heap.size ((w.alloc (.cells #[.int .i64 0,.slice none 0 0] 151)).alloc (.cells #[.int .i64 0] 29)) w1):Blk w1 w.heap.size 151 #[.int .i64 0,.slice none 0 0]∧Blk w1 (w.heap.size+1) 29 #[.int .i64 0] :=
 ⟨((Blk.new w _ _).alloc _).below hB1 (by simp;omega),(Blk.second w _ _ _).below hB1 (by simp)⟩
theorem ans_K_yes (f:Nat) (caps:Array Value) (w:World) (p:Int) (A:Option Addr) (n c:Nat) (hent:∀ W,(callFunc f caps).run Tryz.prog W = .ok (.enter f caps) W)
 (h:∀ W,Below w.heap.size w W→Calls Tryz.prog f caps W fun e w'=>e = .returned (.agg #[.int .i64 p,.slice A n c])∧Below W.heap.size W w') :
 Calls Tryz.prog 116 #[.func (.func f) #[] caps] w fun e w'=>e = .returned (.tuple #[.agg #[.int .i64 p,.slice A n c],.int .i64 0])∧Below w.heap.size w w':=by
 have hmf:∀ (fn:Fn) (first cap:Array Value) (w:World),(Instr.makeFunc fn first cap).run Tryz.prog w = .ok (.func fn first cap) w:=fun _ _ _ _=>rfl
 have hBa:=below_two w (.cells #[.int .i64 0,.slice none 0 0] 151) (.cells #[.int .i64 0] 29)
 have h1:=h _ hBa
 clear h
 go_enter_defers Tryz.func116,Tryz.ntmps116
 go_wp2
 refine h1.mono ?_
 rintro e w1 ⟨rfl,hB1⟩
 obtain ⟨b0,b1⟩:=two_blks w hB1
 have c0:=b0.cell 0
 have c1:=b0.cell 1
 have c2:=b1.cell 0
 have f0:=b0.frozen 0
 have f1:=b0.frozen 1
 have f2:=b1.frozen 0
 simp only [List.getElem?_toArray,List.getElem?_cons_zero,List.getElem?_cons_succ] at c0 c1 c2
 have hBw:=below_in hBa hB1
 go_wp2
 obtain ⟨ww,hww⟩:∃ ww,((w1.setCell ⟨w.heap.size,0,none⟩ (.int .i64 p)).setCell ⟨w.heap.size,1,none⟩ (.slice A n c)).setCell ⟨w.heap.size+1,0,none⟩ (.int .i64 0)=ww:=⟨_,rfl⟩
 have d0:Blk ww w.heap.size 151 #[.int .i64 p,.slice A n c]:=by
  rw [←hww]
  exact Blk.far ((b0.set_ 0 (.int .i64 p)).set_ 1 (.slice A n c)) (by simp) _
 have d1:Blk ww (w.heap.size+1) 29 #[.int .i64 0]:=by
  rw [←hww]
  exact (Blk.far (Blk.far b1 (by simp) _) (by simp) _).set_ 0 (.int .i64 0)
 have hBz:Below w.heap.size w ww:=by
  rw [←hww]
  exact ((hBw.setCell (Nat.le_refl _) _).setCell (Nat.le_refl _) _).setCell (Nat.le_succ _) _
 rw [hww]
 have e0:=d0.cell 0
 have e1:=d0.cell 1
 have e2:=d1.cell 0
 simp only [List.getElem?_toArray,List.getElem?_cons_zero,List.getElem?_cons_succ] at e0 e1 e2
 refine leaves_cons (f:=152) (args:=#[.pointer (some ⟨w.heap.size+1,0,none⟩)]) (by simp) (by simp [go_sem]) ?_
 refine (idle_K ⟨w.heap.size+1,0,none⟩ _).mono ?_
 rintro e u' w'' ⟨rfl,rfl,rfl⟩
 simp [Go.Leaves,settle,results,Tryz.results116,go_sem,e0,e1,e2]
 exact hBz
theorem ans_K_no (f:Nat) (caps:Array Value) (w:World) (hent:∀ W,(callFunc f caps).run Tryz.prog W = .ok (.enter f caps) W)
 (h:∀ W,Below w.heap.size w W→Calls Tryz.prog f caps W fun e w'=>e = .panicked gaveUp∧Below W.heap.size W w') :
 Calls Tryz.prog 116 #[.func (.func f) #[] caps] w fun e w'=>e = .returned (.tuple #[.agg #[.int .i64 0,.slice none 0 0],.int .i64 2])∧Below w.heap.size w w':=by
 have hmf:∀ (fn:Fn) (first cap:Array Value) (w:World),(Instr.makeFunc fn first cap).run Tryz.prog w = .ok (.func fn first cap) w:=fun _ _ _ _=>rfl
 have hBa:=below_two w (.cells #[.int .i64 0,.slice none 0 0] 151) (.cells #[.int .i64 0] 29)
 have h1:=h _ hBa
 clear h
 go_enter_defers Tryz.func116,Tryz.ntmps116
 go_wp2
 refine h1.mono ?_
 rintro e w1 ⟨rfl,hB1⟩
 obtain ⟨b0,b1⟩:=two_blks w hB1
 have c2:=b1.cell 0
 have f2:=b1.frozen 0
 simp only [List.getElem?_toArray,List.getElem?_cons_zero,List.getElem?_cons_succ] at c2
 have hBw:=below_in hBa hB1
 refine leaves_cons (f:=152) (args:=#[.pointer (some ⟨w.heap.size+1,0,none⟩)]) (by simp) (by simp [go_sem]) ?_
 refine (caught_K ⟨w.heap.size+1,0,none⟩ 0 _ c2 f2).mono ?_
 rintro e u' w'' ⟨rfl,rfl,rfl⟩
 obtain ⟨ww,hww⟩:∃ ww,w1.setCell ⟨w.heap.size+1,0,none⟩ (.int .i64 2)=ww:=⟨_,rfl⟩
 have d0:Blk ww w.heap.size 151 #[.int .i64 0,.slice none 0 0]:=by
  rw [←hww]
  exact Blk.far b0 (by simp) _
 have d1:Blk ww (w.heap.size+1) 29 #[.int .i64 2]:=by
  rw [←hww]
  exact b1.set_ 0 (.int .i64 2)
 have hBz:Below w.heap.size w ww:=by
  rw [←hww]
  exact hBw.setCell (Nat.le_succ _) _
 rw [hww]
 have e0:=d0.cell 0
 have e1:=d0.cell 1
 have e2:=d1.cell 0
 simp only [List.getElem?_toArray,List.getElem?_cons_zero,List.getElem?_cons_succ] at e0 e1 e2
 simp [Go.Leaves,settle,results,Tryz.results116,go_sem,e0,e1,e2]
 exact hBz
def Gave (U:World):Exit→Act→World→Prop:=fun e a w'=>e = .panic gaveUp∧a.defers = []∧Below U.heap.size U w'
theorem enter_right1:∀ args W,(callFunc 117 args).run Tryz.prog W = .ok (.enter 117 args) W:=enters_of Tryz.func117 (by kernel_rfl) rfl

theorem right_yes {B:Nat} (p:Int) (v:Value) (css:List (List (List UInt8))) (w:World) (hL:Laid w) (hB:B≤w.heap.size) (hC:Cols B w v css) (hlen:css.length≤1000) (hok:RightD p css) :
 Calls Tryz.prog 74 #[.int .i64 p,v] w fun e w'=>e = .returned (.bool true)∧Below w.heap.size w w':=by
 obtain ⟨A,cap,rfl,_,_⟩:=id hC
 obtain ⟨W2,hW2⟩:∃ W2,(w.alloc (.cells #[.int .i64 p] 3)).alloc (.cells #[.slice A css.length cap] 25)=W2:=⟨_,rfl⟩
 have b0:Blk W2 w.heap.size 3 #[.int .i64 p]:=by rw [←hW2];exact (Blk.new w _ _).alloc _
 have b1:Blk W2 (w.heap.size+1) 25 #[.slice A css.length cap]:=by rw [←hW2];exact Blk.second w _ _ _
 have hBW:Below w.heap.size w W2:=by rw [←hW2];exact below_two w _ _
 have hL2:=hL.next hBW
 have hpp:=prm_bounds hok.1
 have hR:RightC 1 p:=⟨by omega,hok.1⟩
 have hr:p - 1=(((p - 1).toNat:Nat):Int):=by omega
 have HA:=Lib.hid (ans_K_yes 117 #[.pointer (some ⟨w.heap.size,0,none⟩),.pointer (some ⟨w.heap.size+1,0,none⟩)] W2 p A css.length cap (enter_right1 _) (fun U hU=>by
  have hLU:=hL2.next hU
  have hBU:=below_in hBW hU
  have hCU:=hC.below (hBU.mono hB)
  have HPP:=Lib.hid (fun (V:World) (hV:Below U.heap.size U V)=>primeOf_yes p hR V (hLU.next hV))
  have HT:=Lib.hid (fun (V:World) (hV:Below U.heap.size U V)=>together_yes (B:=B) p _ hR hr (.slice A css.length cap) css V (hLU.next hV) (Nat.le_trans hB (Nat.le_trans hBU.size hV.size)) (hCU.below (hV.mono (Nat.le_trans hB hBU.size))) hlen hok.2)
  have c0:=(b0.below hU b0.lt).one
  have c1:=(b1.below hU b1.lt).one
  have hSS:=Lib.hid (fun (V:World) (hV:Below U.heap.size U V)=>(⟨(hV.cell (p:=⟨w.heap.size,0,none⟩) (b0.below hU b0.lt).lt).trans c0,(hV.cell (p:=⟨w.heap.size+1,0,none⟩) (b1.below hU b1.lt).lt).trans c1⟩:(fun V:World=>V.cell? ⟨w.heap.size,0,none⟩=some (.int .i64 p)∧V.cell? ⟨w.heap.size+1,0,none⟩=some (.slice A css.length cap)) V))
  clear hC hCU hok hW2 hL hL2 hLU hlen hr hR hpp b0 b1
  generalize css.length=n at *
  have bz:=Blk.new U 151 #[.int .i64 0,.slice none 0 0]
  have hBz:=below_one U (.cells #[.int .i64 0,.slice none 0 0] 151)
  refine (callsIn_wide (n:=9)).1 ?_
  refine callsIn_of_wp_marks Tryz.func117 rfl trivial ?_ rfl
  simp only [Tryz.ntmps117,List.size_toArray,List.length_cons,List.length_nil,Nat.reduceAdd,Nat.reduceSub,Array.replicate_succ,Array.replicate_zero,List.push_toArray,List.append_toArray,List.nil_append,List.cons_append]
  gi_wp2_with fail
  have hS:(fun V:World=>V.cell? ⟨w.heap.size,0,none⟩=some (.int .i64 p)∧V.cell? ⟨w.heap.size+1,0,none⟩=some (.slice A n cap)) (U.alloc (.cells #[.int .i64 0,.slice none 0 0] 151)).drew:=hSS.out _ hBz.drew
  refine wpIn_mono (region_HF (Q:=NoPanic _) (S:=(fun V:World=>V.cell? ⟨w.heap.size,0,none⟩=some (.int .i64 p)∧V.cell? ⟨w.heap.size+1,0,none⟩=some (.slice A n cap))) (by kernel_rfl) ?_) NoPanic.imp
  refine anyHF_take (i:=0) (d:=3) (v:=.int .i64 p) (by kernel_rfl) rfl (by kernel_rfl) (by kernel_rfl) (by kernel_rfl) rfl (fun _ _ _ h=>h) ⟨Or.inl ⟨by rfl,fun w hS=>by obtain ⟨h0,h1⟩:=hS;go_simp⟩,fun _=>rfl⟩ hS ?_
  simp only [List.setIfInBounds_toArray,List.set_cons_zero,List.set_cons_succ]
  refine anyHF_take (i:=2) (d:=5) (v:=.slice A n cap) (by kernel_rfl) rfl (by kernel_rfl) (by kernel_rfl) (by kernel_rfl) rfl (fun _ _ _ h=>h) ⟨Or.inl ⟨by rfl,fun w hS=>by obtain ⟨h0,h1⟩:=hS;go_simp⟩,fun _=>rfl⟩ hS ?_
  simp only [List.setIfInBounds_toArray,List.set_cons_zero,List.set_cons_succ]
  refine anyHF_one (i:=1) (by kernel_rfl) rfl (by kernel_rfl) (by rfl) ?_
  gi_wp2_with fail
  refine ⟨trivial,(callsIn_wide.2 (HPP.out _ hBz.drew)).mono ?_⟩
  rintro e w1 ⟨rfl,hB1⟩
  replace hB1:=below_undrew hB1
  replace bz:=bz.below hB1 bz.lt
  replace hBz:=below_in hBz hB1
  clear hS
  have hS:(fun V:World=>V.cell? ⟨w.heap.size,0,none⟩=some (.int .i64 p)∧V.cell? ⟨w.heap.size+1,0,none⟩=some (.slice A n cap)) w1:=hSS.out _ hBz
  gi_wp2
  try (refine ⟨hS,?_⟩)
  refine anyHF_one (i:=3) (by kernel_rfl) rfl (by kernel_rfl) (by rfl) ?_
  gi_wp2_with fail
  refine ⟨trivial,(callsIn_wide.2 (HT.out _ hBz)).mono ?_⟩
  rintro e w2 ⟨rfl,hB2⟩
  replace bz:=bz.below hB2 bz.lt
  replace hBz:=below_in hBz hB2
  clear hS
  have hS:(fun V:World=>V.cell? ⟨w.heap.size,0,none⟩=some (.int .i64 p)∧V.cell? ⟨w.heap.size+1,0,none⟩=some (.slice A n cap)) w2:=hSS.out _ hBz
  gi_wp2
  try (refine ⟨hS,?_⟩)
  refine anyHF_one (i:=4) (by kernel_rfl) rfl (by kernel_rfl) (by rfl) ?_
  have g0:=bz.cell 0
  have g1:=bz.cell 1
  have f0:=bz.frozen 0
  have f1:=bz.frozen 1
  simp only [List.getElem?_toArray,List.getElem?_cons_zero,List.getElem?_cons_succ] at g0 g1
  gi_wp2
  have r:=(bz.set_ 0 (.int .i64 p)).set_ 1 (.slice A n cap)
  have hBf:=(hBz.setCell (p:=⟨U.heap.size,0,none⟩) (Nat.le_refl _) (.int .i64 p)).setCell (p:=⟨U.heap.size,1,none⟩) (Nat.le_refl _) (.slice A n cap)
  clear hS
  have hS:(fun V:World=>V.cell? ⟨w.heap.size,0,none⟩=some (.int .i64 p)∧V.cell? ⟨w.heap.size+1,0,none⟩=some (.slice A n cap)) _:=hSS.out _ hBf
  refine ⟨hSS.out _ (hBz.setCell (p:=⟨U.heap.size,0,none⟩) (Nat.le_refl _) (.int .i64 p)),?_⟩
  refine anyHF_done (by kernel_rfl) ?_ _
  refine NoPanic.normal ?_
  have r0:=r.cell 0
  have r1:=r.cell 1
  simp only [List.setIfInBounds_toArray,List.set_cons_zero,List.set_cons_succ,List.getElem?_toArray,List.getElem?_cons_zero,List.getElem?_cons_succ] at r0 r1
  gi_wp2
  exact ⟨.agg #[.int .i64 p,.slice A n cap],by simp [results,Tryz.results117,go_sem,r0,r1],rfl,hBf⟩))
 clear hC b0 b1 hL2 hok hlen hr hR hpp
 generalize css.length=n at *
 go_enter Tryz.func74,Tryz.ntmps74
 have hmf:∀ (fn:Fn) (first cap:Array Value) (w:World),(Instr.makeFunc fn first cap).run Tryz.prog w = .ok (.func fn first cap) w:=fun _ _ _ _=>rfl
 go_wp2_with (go_at_call 116;refine HA.out.mono ?_;rintro e w1 ⟨rfl,hB1⟩)
 go_ret
 exact ⟨rfl,below_in hBW (below_in hB1 (below_one _ _))⟩

theorem right_no {B:Nat} (p:Int) (v:Value) (css:List (List (List UInt8))) (w:World) (hL:Laid w) (hB:B≤w.heap.size) (hC:Cols B w v css) (hlen:css.length≤1000) (hcl:∀ j,j<css.length→(css[j]?.getD []).length≤1000) (hno:¬ RightD p css) :
 Calls Tryz.prog 74 #[.int .i64 p,v] w fun e w'=>e = .returned (.bool false)∧Below w.heap.size w w':=by
 obtain ⟨A,cap,rfl,_,_⟩:=id hC
 obtain ⟨W2,hW2⟩:∃ W2,(w.alloc (.cells #[.int .i64 p] 3)).alloc (.cells #[.slice A css.length cap] 25)=W2:=⟨_,rfl⟩
 have b0:Blk W2 w.heap.size 3 #[.int .i64 p]:=by rw [←hW2];exact (Blk.new w _ _).alloc _
 have b1:Blk W2 (w.heap.size+1) 25 #[.slice A css.length cap]:=by rw [←hW2];exact Blk.second w _ _ _
 have hBW:Below w.heap.size w W2:=by rw [←hW2];exact below_two w _ _
 have hL2:=hL.next hBW
 have HA:=Lib.hid (ans_K_no 117 #[.pointer (some ⟨w.heap.size,0,none⟩),.pointer (some ⟨w.heap.size+1,0,none⟩)] W2 (enter_right1 _) (fun U hU=>by
  have hLU:=hL2.next hU
  have hBU:=below_in hBW hU
  have hCU:=hC.below (hBU.mono hB)
  have c0:=(b0.below hU b0.lt).one
  have c1:=(b1.below hU b1.lt).one
  have hSS:=Lib.hid (fun (V:World) (hV:Below U.heap.size U V)=>(⟨(hV.cell (p:=⟨w.heap.size,0,none⟩) (b0.below hU b0.lt).lt).trans c0,(hV.cell (p:=⟨w.heap.size+1,0,none⟩) (b1.below hU b1.lt).lt).trans c1⟩:(fun V:World=>V.cell? ⟨w.heap.size,0,none⟩=some (.int .i64 p)∧V.cell? ⟨w.heap.size+1,0,none⟩=some (.slice A css.length cap)) V))
  have hBz:=below_one U (.cells #[.int .i64 0,.slice none 0 0] 151)
  by_cases hp:p∈prm
  · have hpp:=prm_bounds hp
    have hR:RightC 1 p:=⟨by omega,hp⟩
    have hr:p - 1=(((p - 1).toNat:Nat):Int):=by omega
    have HPP:=Lib.hid (fun (V:World) (hV:Below U.heap.size U V)=>primeOf_yes p hR V (hLU.next hV))
    have HT:=Lib.hid (fun (V:World) (hV:Below U.heap.size U V)=>together_no (B:=B) p _ hR hr (.slice A css.length cap) css V (hLU.next hV) (Nat.le_trans hB (Nat.le_trans hBU.size hV.size)) (hCU.below (hV.mono (Nat.le_trans hB hBU.size))) hlen hcl (fun h=>hno ⟨hp,h⟩))
    clear hC hCU hno b0 b1 hW2 hL hL2 hLU hlen hcl hr hR hpp hp
    generalize css.length=n at *
    refine (callsIn_wide (n:=9)).1 ?_
    refine callsIn_of_wp_marks Tryz.func117 rfl trivial ?_ rfl
    simp only [Tryz.ntmps117,List.size_toArray,List.length_cons,List.length_nil,Nat.reduceAdd,Nat.reduceSub,Array.replicate_succ,Array.replicate_zero,List.push_toArray,List.append_toArray,List.nil_append,List.cons_append]
    gi_wp2_with fail
    have hS:(fun V:World=>V.cell? ⟨w.heap.size,0,none⟩=some (.int .i64 p)∧V.cell? ⟨w.heap.size+1,0,none⟩=some (.slice A n cap)) (U.alloc (.cells #[.int .i64 0,.slice none 0 0] 151)).drew:=hSS.out _ hBz.drew
    refine wpIn_mono (region_HF (Q:=Gave U) (S:=(fun V:World=>V.cell? ⟨w.heap.size,0,none⟩=some (.int .i64 p)∧V.cell? ⟨w.heap.size+1,0,none⟩=some (.slice A n cap))) (by kernel_rfl) ?_) (fun e a w' h=>by obtain ⟨rfl,hd,hB⟩:=h;obtain ⟨tm,df⟩:=a;have hd':df = []:=hd;subst hd';exact ⟨rfl,hB⟩)
    refine anyHF_take (i:=0) (d:=3) (v:=.int .i64 p) (by kernel_rfl) rfl (by kernel_rfl) (by kernel_rfl) (by kernel_rfl) rfl (fun _ _ _ h=>⟨h.1,by simpa [Act.put] using h.2.1,h.2.2⟩) ⟨Or.inl ⟨by rfl,fun w hS=>by obtain ⟨h0,h1⟩:=hS;go_simp⟩,fun _=>rfl⟩ hS ?_
    simp only [List.setIfInBounds_toArray,List.set_cons_zero,List.set_cons_succ]
    refine anyHF_take (i:=2) (d:=5) (v:=.slice A n cap) (by kernel_rfl) rfl (by kernel_rfl) (by kernel_rfl) (by kernel_rfl) rfl (fun _ _ _ h=>⟨h.1,by simpa [Act.put] using h.2.1,h.2.2⟩) ⟨Or.inl ⟨by rfl,fun w hS=>by obtain ⟨h0,h1⟩:=hS;go_simp⟩,fun _=>rfl⟩ hS ?_
    simp only [List.setIfInBounds_toArray,List.set_cons_zero,List.set_cons_succ]
    refine anyHF_one (i:=1) (by kernel_rfl) rfl (by kernel_rfl) (by rfl) ?_
    gi_wp2_with fail
    refine ⟨trivial,(callsIn_wide.2 (HPP.out _ hBz.drew)).mono ?_⟩
    rintro e w1 ⟨rfl,hB1⟩
    replace hB1:=below_undrew hB1
    replace hBz:=below_in hBz hB1
    clear hS
    have hS:(fun V:World=>V.cell? ⟨w.heap.size,0,none⟩=some (.int .i64 p)∧V.cell? ⟨w.heap.size+1,0,none⟩=some (.slice A n cap)) w1:=hSS.out _ hBz
    gi_wp2
    try (refine ⟨hS,?_⟩)
    refine anyHF_one (i:=3) (by kernel_rfl) rfl (by kernel_rfl) (by rfl) ?_
    gi_wp2_with fail
    refine ⟨trivial,(callsIn_wide.2 (HT.out _ hBz)).mono ?_⟩
    rintro e w2 ⟨rfl,hB2⟩
    exact ⟨rfl,rfl,below_in hBz hB2⟩
  · have HPP:=Lib.hid (fun (V:World) (hV:Below U.heap.size U V)=>primeOf_no p (fun h=>hp h.2) V (hLU.next hV))
    clear hC hCU hno b0 b1 hW2 hL hL2 hLU hlen hcl hp
    generalize css.length=n at *
    refine (callsIn_wide (n:=9)).1 ?_
    refine callsIn_of_wp_marks Tryz.func117 rfl trivial ?_ rfl
    simp only [Tryz.ntmps117,List.size_toArray,List.length_cons,List.length_nil,Nat.reduceAdd,Nat.reduceSub,Array.replicate_succ,Array.replicate_zero,List.push_toArray,List.append_toArray,List.nil_append,List.cons_append]
    gi_wp2_with fail
    have hS:(fun V:World=>V.cell? ⟨w.heap.size,0,none⟩=some (.int .i64 p)∧V.cell? ⟨w.heap.size+1,0,none⟩=some (.slice A n cap)) (U.alloc (.cells #[.int .i64 0,.slice none 0 0] 151)).drew:=hSS.out _ hBz.drew
    refine wpIn_mono (region_HF (Q:=Gave U) (S:=(fun V:World=>V.cell? ⟨w.heap.size,0,none⟩=some (.int .i64 p)∧V.cell? ⟨w.heap.size+1,0,none⟩=some (.slice A n cap))) (by kernel_rfl) ?_) (fun e a w' h=>by obtain ⟨rfl,hd,hB⟩:=h;obtain ⟨tm,df⟩:=a;have hd':df = []:=hd;subst hd';exact ⟨rfl,hB⟩)
    refine anyHF_take (i:=0) (d:=3) (v:=.int .i64 p) (by kernel_rfl) rfl (by kernel_rfl) (by kernel_rfl) (by kernel_rfl) rfl (fun _ _ _ h=>⟨h.1,by simpa [Act.put] using h.2.1,h.2.2⟩) ⟨Or.inl ⟨by rfl,fun w hS=>by obtain ⟨h0,h1⟩:=hS;go_simp⟩,fun _=>rfl⟩ hS ?_
    simp only [List.setIfInBounds_toArray,List.set_cons_zero,List.set_cons_succ]
    refine anyHF_take (i:=2) (d:=5) (v:=.slice A n cap) (by kernel_rfl) rfl (by kernel_rfl) (by kernel_rfl) (by kernel_rfl) rfl (fun _ _ _ h=>⟨h.1,by simpa [Act.put] using h.2.1,h.2.2⟩) ⟨Or.inl ⟨by rfl,fun w hS=>by obtain ⟨h0,h1⟩:=hS;go_simp⟩,fun _=>rfl⟩ hS ?_
    simp only [List.setIfInBounds_toArray,List.set_cons_zero,List.set_cons_succ]
    refine anyHF_one (i:=1) (by kernel_rfl) rfl (by kernel_rfl) (by rfl) ?_
    gi_wp2_with fail
    refine ⟨trivial,(callsIn_wide.2 (HPP.out _ hBz.drew)).mono ?_⟩
    rintro e w1 ⟨rfl,hB1⟩
    exact ⟨rfl,rfl,below_in hBz (below_undrew hB1)⟩))
 clear hC b0 b1 hL2 hno hlen hcl
 generalize css.length=n at *
 go_enter Tryz.func74,Tryz.ntmps74
 have hmf:∀ (fn:Fn) (first cap:Array Value) (w:World),(Instr.makeFunc fn first cap).run Tryz.prog w = .ok (.func fn first cap) w:=fun _ _ _ _=>rfl
 go_wp2_with (go_at_call 116;refine HA.out.mono ?_;rintro e w1 ⟨rfl,hB1⟩)
 go_ret
 exact ⟨rfl,below_in hBW (below_in hB1 (below_one _ _))⟩
end Go.Proofs.YtknkdbincaonbaaGreatDoor.E

namespace Go.Proofs.YtknkdbincaonbaaGreatDoor.E
open Go.RowKit Go.Shelf Go.Proofs.YtknkdbincaonbaaGreatDoor.C

def rowOf (css:List (List (List UInt8))) (r:Nat):List (List UInt8):=css.map fun cs=>cs[r]?.getD []
theorem rowOf_len (css:List (List (List UInt8))) (r:Nat):(rowOf css r).length=css.length:=by unfold rowOf;simp
theorem rowOf_at (css:List (List (List UInt8))) (r j:Nat) (hj:j<css.length):(rowOf css r)[j]?.getD []=(css[j]?.getD [])[r]?.getD []:=by
 unfold rowOf
 rw [List.getElem?_map,List.getElem?_eq_getElem hj]
 rfl

theorem row1_any {B:Nat} (p:Int) (R r n:Nat) (css:List (List (List UInt8))) (v:Value) (g0 g1:Nat) (W:World) (hC:Cols B W v css) (hn:n<css.length) (hr:r<R) (hR:R≤16) (hlen:css.length≤1000) (hrow:∀ j,j<css.length→(css[j]?.getD []).length=R)
 (b0:Blk W g0 151 #[.int .i64 p,v]) (b1:Blk W g1 3 #[.int .i64 (r:Int)]) :
 Calls Tryz.prog 261 #[.int .i64 (n:Int),.pointer (some ⟨g0,0,none⟩),.pointer (some ⟨g1,0,none⟩)] W fun e w'=>∃ u,e = .returned u∧Bytes B w' u ((css[n]?.getD [])[r]?.getD [])∧Below W.heap.size W w':=by
 obtain ⟨bb,off,cap,rfl,hcap,hbb,hcell⟩:=hC.at_ (by omega)
 obtain ⟨u,hu,hm⟩:=hcell n hn
 have hl:=hrow n hn
 obtain ⟨Au,capu,rfl,_,_⟩:=id hm
 obtain ⟨b2,off2,rfl,hb2,hrow2⟩:=many_at hm (by omega)
 obtain ⟨A3,cp3,hc3,hB3⟩:=hrow2 r (by omega)
 rw [hl] at hu
 have c0:=b0.cell 0
 have c1:=b0.cell 1
 have d0:=b1.cell 0
 simp only [List.getElem?_toArray,List.getElem?_cons_zero,List.getElem?_cons_succ] at c0 c1 d0
 have i1:(0:Int)≤(n:Int):=by omega
 have i2:(n:Int)<(css.length:Int):=by omega
 have j1:(0:Int)≤(r:Int):=by omega
 have j2:(r:Int)<(R:Int):=by omega
 clear hrow2 hcell hC hl hrow hm
 generalize ((css[n]?.getD [])[r]?.getD [])=ce at *
 go_enter Tryz.func261,Tryz.ntmps261
 go_wp2
 go_region_held3 (fun U=>U.cell? ⟨g0,1,none⟩=some (.slice (some ⟨bb,off,none⟩) css.length cap)∧U.cell? ⟨bb,off+n,none⟩=some (.slice (some ⟨b2,off2,none⟩) R capu)∧U.cell? ⟨g1,0,none⟩=some (.int .i64 (r:Int))∧U.cell? ⟨b2,off2+r,none⟩=some (.slice A3 ce.length cp3))
  (exact ⟨c1,hu,d0,hc3⟩) (fail)
 all_goals go_wp2
 all_goals go_ret
 all_goals exact ⟨.slice A3 ce.length cp3,rfl,hB3.below (Below.refl _ _).drew,(Below.refl _ _).drew⟩
theorem row_any {B:Nat} (p:Int) (R r:Nat) (css:List (List (List UInt8))) (v:Value) (w:World) (hB:B≤w.heap.size) (hC:Cols B w v css) (hr:r<R) (hR:R≤16) (hlen:css.length≤1000) (hrow:∀ j,j<css.length→(css[j]?.getD []).length=R) :
 Calls Tryz.prog 228 #[.agg #[.int .i64 p,v],.int .i64 (r:Int)] w fun e w'=>∃ u,e = .returned u∧Many w'.heap.size w' u (rowOf css r)∧Below w.heap.size w w':=by
 obtain ⟨W2,hW2⟩:∃ W2,(w.alloc (.cells #[.int .i64 p,v] 151)).alloc (.cells #[.int .i64 (r:Int)] 3)=W2:=⟨_,rfl⟩
 have b0:Blk W2 w.heap.size 151 #[.int .i64 p,v]:=by rw [←hW2];exact (Blk.new w _ _).alloc _
 have b1:Blk W2 (w.heap.size+1) 3 #[.int .i64 (r:Int)]:=by rw [←hW2];exact Blk.second w _ _ _
 have hB2:Below w.heap.size w W2:=by rw [←hW2];exact below_two w _ _
 have HL:=Lib.hid (listed_any 261 #[.pointer (some ⟨w.heap.size,0,none⟩),.pointer (some ⟨w.heap.size+1,0,none⟩)] (rowOf css r) W2 (by rw [rowOf_len];exact hlen) ⟨enters_of Tryz.func261 (by kernel_rfl) rfl,fun n W hn hBW=>by
  rw [rowOf_len] at hn
  rw [rowOf_at css r n hn]
  refine (row1_any p R r n css v w.heap.size (w.heap.size+1) W (hC.below ((hB2.trans (hBW.mono hB2.size)).mono hB)) hn hr hR hlen hrow (b0.below hBW b0.lt) (b1.below hBW b1.lt)).mono ?_
  rintro e w' ⟨u,rfl,hu,hBq⟩
  have hs3:=hBq.size
  have hs:=hB2.size
  have hs2:=hBW.size
  exact ⟨u,rfl,BytesP.imp (Bytes.toP hu) (fun b hb=>⟨.inl (by have h0:b<B:=hb;omega),by have h0:b<B:=hb;omega⟩),hBq⟩⟩)
 rw [rowOf_len] at HL
 obtain ⟨A,cap,rfl,_,_⟩:=id hC
 have c0:=b0.cell 0
 have c1:=b0.cell 1
 simp only [List.getElem?_toArray,List.getElem?_cons_zero,List.getElem?_cons_succ] at c0 c1
 clear hC hrow
 go_enter Tryz.func228,Tryz.ntmps228
 go_wp2_with (go_at_call 226;refine HL.out.mono ?_;rintro e w1 ⟨u,rfl,hm,hB1⟩)
 go_ret
 exact ⟨_,rfl,hm,below_in hB2 hB1⟩
end Go.Proofs.YtknkdbincaonbaaGreatDoor.E

namespace Go.Proofs.YtknkdbincaonbaaGreatDoor.E
open Go.RowKit Go.Shelf Go.Proofs.YtknkdbincaonbaaGreatDoor.C

def Vals (B:Nat) (W:World) (v:Value) (us:List Value):Prop :=
 (v = .slice none 0 0∧us = [])∨∃ b off cap,v = .slice (some ⟨b,off,none⟩) us.length cap∧us.length≤cap∧b<B∧∀ (j:Nat) (u:Value),us[j]?=some u→W.cell? ⟨b,off+j,none⟩=some u
theorem Vals.below {B:Nat} {W W':World} {v:Value} {us:List Value} (h:Vals B W v us) (hb:Below B W W'):Vals B W' v us :=
 h.imp id fun ⟨b,off,cap,e,hc,hlt,hcell⟩=>⟨b,off,cap,e,hc,hlt,fun j u hu=>(hb.cell (p:=⟨b,off+j,none⟩) hlt).trans (hcell j u hu)⟩
theorem Vals.len {B:Nat} {W:World} {v:Value} {us:List Value} (h:Vals B W v us):∃ A cap,v = .slice A us.length cap:=by
 rcases h with ⟨rfl,rfl⟩ | ⟨b,off,cap,e,_⟩
 · exact ⟨none,0,rfl⟩
 · exact ⟨_,cap,e⟩
def OwnS (w:World) (base:Nat) (v:Value) (us:List Value):Prop:=w.ownsRow base 32 1 v us.length us
theorem ownS_nil (w:World) (base:Nat):OwnS w base (.slice none 0 0) []:=World.ownsRow_nil w base _ 1
theorem wpList_zerosS (w:World) {ops:Array Oper} {rest:List Oper} {o:Oper} {a:Act} {Q:Exit→Act→World→Prop} (hgd:o.guard=none) (s x:Operand)
 (ho:o.op = .call { callee:=.builtin .append,args:=#[s,x],argTypes:=#[57,3] }) (n:Nat) (h0:0<n) (hn:n≤1000000)
 (hs:a.eval s = .slice none 0 0) (hx:a.eval x = .int .i64 (n:Int))
 (h:∀ c w',OwnS w' w.heap.size (.slice (some ⟨w.heap.size,0,none⟩) 0 c) []→Below w.heap.size w w'→n≤c→wpList Tryz.prog ops Q rest (a.put o.dst (.slice (some ⟨w.heap.size,0,none⟩) n c)) w'):wpList Tryz.prog ops Q (o :: rest) a w :=
 wpList_plain hgd fun K hK=>by
  obtain ⟨i0,hi,hz0,hz1,hz2⟩:=info_parts Tryz.infoSlcE
  have hrun:=Lib.run_append_nil_zeros (P:=Tryz.prog) w 57 3 o.type 32 i0 (.slice none 0 0) .i64 .i64 Tryz.underlying57 Tryz.underlying3 hi hz0 n h0 (by omega) (by omega) (by rw [hz2];omega)
  have hge:=grownCap_ge w n 0 32
  have hle:=grownCap_le_maxLen w n 0 32 (by unfold maxLen;omega)
  generalize grownCap w n 0 32=c at *
  have hsz:(Builtin.zeroCells (Value.slice none 0 0).cells n ++ Builtin.zeroCells (Value.slice none 0 0).cells (c - n)).size=c * 1:=by
   rw [Array.size_append,show (Value.slice none 0 0).cells=#[.slice none 0 0] from rfl,size_zeroCells,size_zeroCells];simp;omega
  generalize Builtin.zeroCells (Value.slice none 0 0).cells n ++ Builtin.zeroCells (Value.slice none 0 0).cells (c - n)=cs at *
  unfold Oper.wp execOp
  simp only [ho,resolve,invoke,builtin,Sem.run_bind,Sem.run_pure,Result.andThen_ok,List.map_toArray,List.map_cons,List.map_nil,hs,hx,hrun]
  exact hK _ _ (h c _ (World.ownsRow_made w.drew cs c (Nat.le_refl _) hle hsz) ((Below.refl w.heap.size w).drew.alloc (Nat.le_refl _) _) hge)

theorem growS_any (n:Nat) (hn:n≤1000000) (w:World) :
 Calls Tryz.prog 281 #[.slice none 0 0,.int .i64 (n:Int)] w fun e w'=>∃ v,e = .returned v∧OwnS w' w.heap.size v []∧Below w.heap.size w w':=by
 by_cases h0:n=0
 · subst h0
   go_enter Tryz.func281,Tryz.ntmps281
   go_wp2
   go_ret
   exact ⟨_,rfl,ownS_nil _ _,Below.refl _ _⟩
 · have hp:0<n:=by omega
   have d1:decide ((n:Int)<0)=false:=by simp
   have d2:decide (0<(n:Int))=true:=by simp;omega
   go_enter Tryz.func281,Tryz.ntmps281
   go_wp2_with (at_builtin;refine wpList_zerosS _ rfl _ _ rfl n hp hn rfl rfl ?_;intro c w1 hown hB1 hc)
   go_ret
   exact ⟨_,rfl,hown,hB1⟩
theorem wpList_vals (w:World) {ops:Array Oper} {rest:List Oper} {o:Oper} {a:Act} {Q:Exit→Act→World→Prop} (hgd:o.guard=none) (s x:Operand)
 (ho:o.op = .call { callee:=.builtin .append,args:=#[s,x],argTypes:=#[57,57] })
 (base:Nat) (v:Value) (l:List Value) (hs:a.eval s=v) (hown:OwnS w base v l) (B2:Nat) (v2:Value) (us:List Value) (hx:a.eval x=v2) (hv2:Vals B2 w v2 us) (hone:∀ u∈us,u.oneCell'=true) (hlen:l.length≤100000) (hlen2:us.length≤100000) (hbase:base≤w.heap.size)
 (h:∀ v' w',OwnS w' base v' (l ++ us)→w.grownBy w' v.ownBlock→wpList Tryz.prog ops Q rest (a.put o.dst v') w'):wpList Tryz.prog ops Q (o :: rest) a w :=
 wpList_plain hgd fun K hK=>by
  obtain ⟨i,hi,hz0,hz1,hz2⟩:=info_parts Tryz.infoSlcE
  rcases hv2 with ⟨rfl,rfl⟩ | ⟨b,off,cap,rfl,hc,hb,hcell⟩
  · rw [List.append_nil] at h
    have hrun:=run_append_owned_none (P:=Tryz.prog) (w:=w) base 57 o.type 32 i 1 Tryz.underlying57 hi v l.length l hown
    unfold Oper.wp execOp
    simp only [ho,resolve,invoke,builtin,Sem.run_bind,Sem.run_pure,Result.andThen_ok,List.map_toArray,List.map_cons,List.map_nil,hs,hx,hrun]
    exact hK _ _ (h v w hown (World.grownBy.refl _ _))
  · obtain ⟨v',w',hrun,r1,r2,_,r3⟩:=run_append_own_at (P:=Tryz.prog) w base 57 o.type 32 i (.slice none 0 0) 1 24 Tryz.underlying57 hi hz0 hz1 hz2 rfl (by omega) v l.length l hown ⟨b,off,none⟩ us.length cap us (by omega)
     (by intro j u hu;rw [addr_add];exact hcell j u hu) hone (by unfold maxLen;omega) (by omega) hbase
    unfold Oper.wp execOp
    simp only [ho,resolve,invoke,builtin,Sem.run_bind,Sem.run_pure,Result.andThen_ok,List.map_toArray,List.map_cons,List.map_nil,hs,hx,hrun]
    exact hK _ _ (h v' w' (by unfold OwnS;rw [List.length_append];exact r1) r2)
end Go.Proofs.YtknkdbincaonbaaGreatDoor.E
