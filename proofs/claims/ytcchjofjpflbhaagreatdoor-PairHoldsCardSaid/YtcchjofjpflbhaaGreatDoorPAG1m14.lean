/- -/
import Derived.OrdersIn
import Derived.OrdersHeld
import Derived.Test.YtcchjofjpflbhaaGreatDoorPACAm14
import Derived.Test.YtcchjofjpflbhaaGreatDoorPAG1
set_option linter.unusedVariables false
set_option linter.unusedSimpArgs false
set_option maxRecDepth 100000
set_option maxHeartbeats 2000000
namespace Go.Proofs.YtcchjofjpflbhaaGreatDoor.E
open Go.RowKit Go.Shelf Go.Proofs.YtcchjofjpflbhaaGreatDoor.C

def FewC (cs:List (List UInt8)):Prop:=cs.length≤20∧∀ k,k<cs.length→(cs[k]?.getD []).length≤70
def Few6 (css:List (List (List UInt8))):Prop:=css.length≤24∧∀ j,j<css.length→FewC (css[j]?.getD [])
theorem few6_any {B:Nat} (v:Value) (css:List (List (List UInt8))) (w:World) (hC:Cols B w v css) (b:Bool) (hb:b=true↔Few6 css) :
 Calls Tryz.prog 24 #[v] w fun e w'=>e = .returned (.bool b)∧w=w':=by
 obtain ⟨A,cap,rfl,_,_⟩:=id hC
 by_cases h24:css.length≤24
 · have d0:decide ((24:Int)<(css.length:Int))=false:=by simp;omega
   go_enter Tryz.func24,Tryz.ntmps24
   go_wp2
   go_loop [3] (fun i=>∃ k:Nat,k≤css.length∧i = .int .i64 k∧Hid (∀ j,j<k→FewC (css[j]?.getD []))) (fun i=>css.length - (intOf i).toNat)
   case atStart=>exact ⟨0,Nat.zero_le _,rfl,Lib.hid fun j hj=>absurd hj (by omega)⟩
   case round =>
    obtain ⟨k,hk,rfl,HA⟩:=hrel
    by_cases hlt:k<css.length
    · have hdec:decide ((k:Int)<(css.length:Int))=true:=by simp;omega
      obtain ⟨b1,off1,cap1,e1,_,_,hrow1⟩:=hC.at_ (by omega)
      injection e1 with e1 _ _
      subst e1
      obtain ⟨u,hu,hm⟩:=hrow1 k hlt
      obtain ⟨A2,cap2,rfl,_,_⟩:=id hm
      have HN:=Lib.hid (fun (h:b=true)=>(hb.1 h).2 k hlt)
      have HL:=Lib.hid (fun (h:FewC (css[k]?.getD []))=>all_next HA.out h)
      clear hrow1
      generalize css[k]?.getD []=cs at *
      by_cases h20:cs.length≤20
      · have d1:decide ((20:Int)<(cs.length:Int))=false:=by simp;omega
        go_wp2
        go_loop [4] (fun i=>∃ m:Nat,m≤cs.length∧i = .int .i64 m∧Hid (∀ j,j<m→(cs[j]?.getD []).length≤70)) (fun i=>cs.length - (intOf i).toNat)
        case atStart=>exact ⟨0,Nat.zero_le _,rfl,Lib.hid fun j hj=>absurd hj (by omega)⟩
        case round =>
         obtain ⟨m,hm2,rfl,HA2⟩:=hrel
         by_cases hlt2:m<cs.length
         · have hdec2:decide ((m:Int)<(cs.length:Int))=true:=by simp;omega
           obtain ⟨b2,off2,rfl,_,hrow2⟩:=many_at hm (by omega)
           obtain ⟨B1,cp1,hc1,_⟩:=hrow2 m hlt2
           have HN2:=Lib.hid (fun (h:b=true)=>(HN.out h).2 m hlt2)
           have HL2:=Lib.hid (fun (h:(cs[m]?.getD []).length≤70)=>all_next HA2.out h)
           clear hrow2
           generalize (cs[m]?.getD []).length=x at hc1 HN2 HL2
           by_cases hx:x≤70
           · have d2:decide ((70:Int)<(x:Int))=false:=by simp;omega
             go_wp2
             go_round
             case rel=>exact ⟨m+1,by omega,by go_num,Lib.hid (HL2.out hx)⟩
             case measure=>simp [intOf];omega
           · have d2:decide ((70:Int)<(x:Int))=true:=by simp;omega
             go_wp2
             go_ret
             exact ⟨ret_bool (Bool.eq_false_iff.2 fun h=>hx (HN2.out h)).symm,rfl⟩
         · obtain rfl:m=cs.length:=by omega
           have e1:decide ((cs.length:Int)<(cs.length:Int))=false:=by simp
           go_wp2
           go_round
           case rel=>exact ⟨k+1,by omega,by go_num,Lib.hid (HL.out ⟨h20,HA2.out⟩)⟩
           case measure=>simp [intOf];omega
      · have d1:decide ((20:Int)<(cs.length:Int))=true:=by simp;omega
        go_wp2
        go_ret
        exact ⟨ret_bool (Bool.eq_false_iff.2 fun h=>h20 (HN.out h).1).symm,rfl⟩
    · obtain rfl:k=css.length:=by omega
      have e1:decide ((css.length:Int)<(css.length:Int))=false:=by simp
      go_wp2
      go_ret
      exact ⟨ret_bool (hb.2 ⟨h24,HA.out⟩).symm,rfl⟩
 · have d0:decide ((24:Int)<(css.length:Int))=true:=by simp;omega
   have hbf:b=false:=Bool.eq_false_iff.2 fun h=>h24 (hb.1 h).1
   subst hbf
   go_enter Tryz.func24,Tryz.ntmps24
   go_wp2
   go_ret
   exact ⟨rfl,rfl⟩

theorem right6_any {B:Nat} (p:Int) (v:Value) (css:List (List (List UInt8))) (w:World) (hB:B≤w.heap.size) (hC:Cols B w v css) (hlen:css.length≤1000) (b:Bool) (hb:b=true↔RightD p css) :
 Calls Tryz.prog 32 #[.int .i64 p,v] w fun e w'=>e = .returned (.bool b)∧Below w.heap.size w w':=by
 have HR:=Lib.hid (Go.Proofs.YtcchjofjpflbhaaGreatDoor.right_any p w)
 obtain ⟨A,cap,rfl,_,_⟩:=id hC
 by_cases hp:p∈prm
 · rw [decide_eq_true hp] at HR
   have hpp:=prm_bounds hp
   by_cases h0:0<css.length
   · have e0:((css.length:Int) == 0)=false:=by rw [beq_eq_false_iff_ne];omega
     have HI:=Lib.hid (rightD_iff (css:=css) hp h0)
     have HB:=Lib.hid hb
     obtain ⟨R,hR⟩:∃ R:Nat,p - 1=(R:Int):=⟨(p - 1).toNat,by omega⟩
     have hR2:(p - 1).toNat=R:=by omega
     rw [hR2] at HI
     have hpw:IntKind.i64.wrap (p - 1)=(R:Int):=by rw [←hR];exact IntWalk.i64_in _ (by omega)
     have hRn:2≤R∧R≤16:=by omega
     obtain ⟨b1,off1,cap1,e1,_,hb1,hrow1⟩:=hC.at_ (by omega)
     injection e1 with e1 _ _
     subst e1
     have HROW:=Lib.hid hrow1
     clear hb hp hR2 hpp hC hrow1
     go_enter Tryz.func32,Tryz.ntmps32
     go_wp2_with (go_at_call 14;refine HR.out.mono ?_;rintro e w1 ⟨rfl,hB1⟩)
     clear HR
     go_loopw [5] (fun i wr=>∃ k:Nat,k≤css.length∧i = .int .i64 k∧Hid (∀ j,j<k→GoodC R (firstC css).length (css[j]?.getD []))∧Below w.heap.size w wr) (fun i _=>css.length - (intOf i).toNat)
     case atStart=>exact ⟨0,Nat.zero_le _,rfl,(Lib.hid fun j hj=>absurd hj (by omega)),hB1⟩
     case round =>
      clear hB1
      obtain ⟨k,hk,rfl,HA,hBr⟩:=hrel
      by_cases hlt:k<css.length
      · have hdec:decide ((k:Int)<(css.length:Int))=true:=by simp;omega
        obtain ⟨u,hu0,hm0⟩:=HROW.out k hlt
        obtain ⟨A2,cap2,rfl,_,_⟩:=id hm0
        have hu:=(hBr.cell (p:=⟨b1,off1+k,none⟩) (Nat.lt_of_lt_of_le hb1 hB)).trans hu0
        have HN:=Lib.hid (fun (h:b=true)=>HI.out.1 (HB.out.1 h) k hlt)
        have HL:=Lib.hid (fun (h:GoodC R (firstC css).length (css[k]?.getD []))=>all_next HA.out h)
        have HF:Hid (k=0→css[k]?.getD []=css[0]?.getD []):=fun e=>by rw [e]
        have HF0:Hid (0<k→(css[0]?.getD []).length=R):=fun e=>(HA.out 0 e).1
        generalize css[k]?.getD []=cs at *
        by_cases hcl:cs.length=R
        · have hne:((cs.length:Int) != (R:Int))=false:=by rw [hcl];simp
          have hR0:(css[0]?.getD []).length=R:=by
           rcases Nat.eq_zero_or_pos k with h | h
           · rw [←HF.out h];exact hcl
           · exact HF0.out h
          obtain ⟨u9,hu9,hm9⟩:=HROW.out 0 h0
          obtain ⟨A9,cap9,rfl,_,_⟩:=id hm9
          obtain ⟨b9,off9,rfl,hb9,hrow9⟩:=many_at hm9 (by omega)
          obtain ⟨B9,cp9,hc9,_⟩:=hrow9 0 (by omega)
          rw [Nat.add_zero] at hc9 hu9
          have HU9:=Lib.hid hu9
          have HC9:Hid (w.cell? ⟨b9,off9,none⟩=some (.slice B9 (firstC css).length cp9)):=hc9
          obtain ⟨R9,hR9⟩:∃ x,(css[0]?.getD []).length=x:=⟨_,rfl⟩
          rw [hR9] at HU9 hR0
          subst hR0
          clear hu9 hc9 hm9 hrow9 hR9
          have hcl':=Lib.hid hcl
          have HU:=Lib.hid hu0
          obtain ⟨b2,off2,e2,hb2,hrow2⟩:=many_at hm0 (by omega)
          subst e2
          have HROW2:=Lib.hid hrow2
          clear hrow2 hm0
          rw [hcl] at hu HU
          clear hne hcl hu0
          have hne:((R9:Int) != (R9:Int))=false:=by simp
          generalize (firstC css).length=n at *
          go_wp2
          obtain ⟨wq,hwq⟩:∃ x,x=wr:=⟨_,rfl⟩
          subst hwq
          go_loopw [6] (fun i wr=>∃ m:Nat,m≤R9∧i = .int .i64 m∧Hid (∀ r,r<m→Cell (cs[r]?.getD [])∧(cs[r]?.getD []).length=n)∧Below w.heap.size w wr) (fun i _=>R9 - (intOf i).toNat)
          case atStart=>exact ⟨0,Nat.zero_le _,rfl,(Lib.hid fun j hj=>absurd hj (by omega)),hBr⟩
          case round =>
           clear hBr hu
           obtain ⟨m,hm2,rfl,HA2,hBr⟩:=hrel
           by_cases hlt2:m<R9
           · have hdec2:decide ((m:Int)<(R9:Int))=true:=by simp;omega
             obtain ⟨B3,cp3,hc3,hby3⟩:=HROW2.out m (by have:=hcl'.out;omega)
             have cu:=(hBr.cell (p:=⟨b1,off1+k,none⟩) (Nat.lt_of_lt_of_le hb1 hB)).trans HU.out
             have c3:=(hBr.cell (p:=⟨b2,off2+m,none⟩) (Nat.lt_of_lt_of_le hb2 hB)).trans hc3
             have c9:=(hBr.cell (p:=⟨b1,off1,none⟩) (Nat.lt_of_lt_of_le hb1 hB)).trans HU9.out
             have c90:=(hBr.cell (p:=⟨b9,off9,none⟩) (Nat.lt_of_lt_of_le hb9 hB)).trans HC9.out
             have HRr:=Lib.hid (fun n=>C.right_any _ _ (wr.drewN n) ((hby3.below (hBr.mono hB)).keep (W':=wr.drewN n) fun _ _=>rfl))
             have HN2:=Lib.hid (fun (h:b=true)=>(HN.out h).2 m hlt2)
             have HL2:=Lib.hid (fun (h:Cell (cs[m]?.getD [])∧(cs[m]?.getD []).length=n)=>all_next HA2.out h)
             clear hc3 hby3
             generalize cs[m]?.getD []=x at *
             by_cases hcx:Cell x
             · rw [decide_eq_true hcx] at HRr
               by_cases hxn:x.length=n
               · have HL3:=Lib.hid (HL2.out ⟨hcx,hxn⟩)
                 have e1:((x.length:Int) != (x.length:Int))=false:=by simp
                 clear HL2 HN2 hcx HL HN HA HA2 HF HF0
                 subst hxn
                 go_wp2
                 go_quiet ((go_at_call 75;refine (HRr.out _).mono ?_;rintro e w' ⟨rfl,rfl⟩;exact ⟨rfl,_,rfl⟩))
                 go_wp2
                 go_roundw
                 case rel=>exact ⟨m+1,by omega,by go_num,HL3,below_drewN hBr _⟩
                 case measure=>simp [intOf];omega
               · have e1:((x.length:Int) != (n:Int))=true:=by rw [bne_iff_ne];omega
                 have HF:=Lib.hid (Bool.eq_false_iff.2 fun h=>hxn (HN2.out h).2)
                 clear HL2 HN2 hcx hxn HL HN HA HA2
                 go_wp2
                 go_quiet ((go_at_call 75;refine (HRr.out _).mono ?_;rintro e w' ⟨rfl,rfl⟩;exact ⟨rfl,_,rfl⟩))
                 go_wp2
                 go_ret
                 exact ⟨ret_bool HF.out.symm,below_drewN hBr _⟩
             · rw [decide_eq_false hcx] at HRr
               have HF:=Lib.hid (Bool.eq_false_iff.2 fun h=>hcx (HN2.out h).1)
               clear HL2 HN2 hcx HL HN HA HA2
               go_wp2
               go_quiet ((go_at_call 75;refine (HRr.out _).mono ?_;rintro e w' ⟨rfl,rfl⟩;exact ⟨rfl,_,rfl⟩))
               go_wp2
               go_ret
               exact ⟨ret_bool HF.out.symm,below_drewN hBr _⟩
           · obtain rfl:m=R9:=by omega
             have e1:decide ((m:Int)<(m:Int))=false:=by simp
             go_wp2
             go_roundw
             case rel=>exact ⟨k+1,by omega,by go_num,Lib.hid (HL.out ⟨hcl'.out,HA2.out⟩),hBr⟩
             case measure=>simp [intOf];omega
        · have hne:((cs.length:Int) != (R:Int))=true:=by rw [bne_iff_ne];omega
          go_wp2
          go_ret
          exact ⟨ret_bool (Bool.eq_false_iff.2 fun h=>hcl (HN.out h).1).symm,hBr⟩
      · obtain rfl:k=css.length:=by omega
        have e1:decide ((css.length:Int)<(css.length:Int))=false:=by simp
        go_wp2
        go_ret
        exact ⟨ret_bool (HB.out.2 (HI.out.2 HA.out)).symm,hBr⟩
   · have e0:((css.length:Int) == 0)=true:=by rw [beq_iff_eq];omega
     have hbf:b=false:=Bool.eq_false_iff.2 fun h=>h0 (hb.1 h).2.1
     subst hbf
     clear hb hp
     go_enter Tryz.func32,Tryz.ntmps32
     go_wp2_with (go_at_call 14;refine HR.out.mono ?_;rintro e w1 ⟨rfl,hB1⟩)
     go_ret
     exact ⟨rfl,hB1⟩
 · rw [decide_eq_false hp] at HR
   have hbf:b=false:=Bool.eq_false_iff.2 fun h=>hp (hb.1 h).1
   subst hbf
   clear hb hp
   go_enter Tryz.func32,Tryz.ntmps32
   go_wp2_with (go_at_call 14;refine HR.out.mono ?_;rintro e w1 ⟨rfl,hB1⟩)
   go_ret
   exact ⟨rfl,hB1⟩
end Go.Proofs.YtcchjofjpflbhaaGreatDoor.E
