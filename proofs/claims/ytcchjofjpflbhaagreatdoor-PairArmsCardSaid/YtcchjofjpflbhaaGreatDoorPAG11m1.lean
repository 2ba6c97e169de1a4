/- -/
import Derived.Deep.Upon
import Derived.Test.YtcchjofjpflbhaaGreatDoorPAG8m1
import Derived.Test.YtcchjofjpflbhaaGreatDoorPAG11
set_option linter.unusedVariables false
set_option linter.unusedSimpArgs false
set_option maxRecDepth 100000
set_option maxHeartbeats 4000000
namespace Go.Proofs.YtcchjofjpflbhaaGreatDoor.T
open Go.RowKit Go.Shelf Go.Maps Go.Proofs.YtcchjofjpflbhaaGreatDoor.C Go.Proofs.YtcchjofjpflbhaaGreatDoor.E Go.Proofs.YtcchjofjpflbhaaGreatDoor.Ch
attribute [local go_sem] Oper.semAt_some

theorem wpList_pushA2 (w:World) {ops:Array Oper} {rest:List Oper} {o:Oper} {a:Act} {QQ:Exit→Act→World→Prop} (hgd:o.guard=none) (s x:Operand)
 (ho:o.op = .call { callee:=.builtin .append,args:=#[s,x],argTypes:=#[23,23] })
 (base:Nat) (v:Value) (l:List (Int×Int)) (hs:a.eval s=v) (hown:OwnA w base v l) (g:Nat) (p1 p2 q1 q2:Int) (hx:a.eval x = .slice (some ⟨g,0,none⟩) 2 2) (hu:Blk w g 31 #[.int .i64 p1,.int .i64 p2,.int .i64 q1,.int .i64 q2])
 (hlen:l.length≤1000000) (hbase:base≤w.heap.size)
 (hK:∀ v' w',OwnA w' base v' (l ++ [(p1,p2),(q1,q2)])→w.grownBy w' v.ownBlock→wpList Tryz.prog ops QQ rest (a.put o.dst v') w'):wpList Tryz.prog ops QQ (o :: rest) a w :=
 wpList_plain hgd fun K hK2=>by
  obtain ⟨i,hi,hz0,hz1,hz2⟩:=info_parts Tryz.infoAt
  obtain ⟨v',w',hrun,r1,r2,_,r3⟩:=run_append_own_at (P:=Tryz.prog) w base 23 o.type 31 i (.agg #[.int .i64 0,.int .i64 0]) 2 16 Tryz.underlying23 hi hz0 hz1 hz2 rfl (by omega) v l.length (codeCells l) hown ⟨g,0,none⟩ 2 2 [.int .i64 p1,.int .i64 p2,.int .i64 q1,.int .i64 q2] rfl
   (by intro j y hy
       rw [addr_add,Nat.zero_add,hu.cell j,List.getElem?_toArray]
       exact hy)
   (by intro y hy;simp only [List.mem_cons,List.not_mem_nil,or_false] at hy;rcases hy with rfl | rfl | rfl | rfl <;> rfl) (by unfold maxLen;omega) (by omega) hbase
  unfold Oper.wp execOp
  simp only [ho,resolve,invoke,builtin,Sem.run_bind,Sem.run_pure,Result.andThen_ok,List.map_toArray,List.map_cons,List.map_nil,hs,hx,hrun]
  refine hK2 _ _ (hK v' w' ?_ r2)
  unfold OwnA
  have e:codeCells (l ++ [(p1,p2),(q1,q2)])=codeCells l ++ [.int .i64 p1,.int .i64 p2,.int .i64 q1,.int .i64 q2]:=by unfold codeCells;rw [List.flatMap_append];rfl
  rw [e,List.length_append]
  exact r1
theorem xk_last {P Q:Nat} (hQ:P=Q+1) (c:Int):xk P c Q=(P:Int) - 1:=by
 unfold xk
 rw [show ((Q:Int)+1)=(P:Int) by omega,Int.add_mul_emod_self_left]
 exact Int.emod_eq_of_lt (by omega) (by omega)
end Go.Proofs.YtcchjofjpflbhaaGreatDoor.T

namespace Go.Proofs.YtcchjofjpflbhaaGreatDoor.T
open Go.RowKit Go.Shelf Go.Maps Go.Proofs.YtcchjofjpflbhaaGreatDoor.C Go.Proofs.YtcchjofjpflbhaaGreatDoor.E Go.Proofs.YtcchjofjpflbhaaGreatDoor.Ch
attribute [local go_sem] Oper.semAt_some

theorem zk_in {P Q:Nat} (hQ:P=Q+1) (hp:(P:Int)∈prm) (c:Int) (k:Nat):0≤zk P c k∧zk P c k<(P:Int):=⟨Int.emod_nonneg _ (by omega),Int.emod_lt_of_pos _ (by omega)⟩
theorem zk_last {P Q:Nat} (hQ:P=Q+1) (c:Int):zk P c (Q+1)=(P:Int) - 1:=by rw [zk_succ];exact xk_last hQ c
theorem ak_len (P:Nat) (x y:Int) (k:Nat):(ak P x y k).length≤2 * (k+1):=by
 unfold ak
 refine Nat.le_trans (armOut_len _ _ _ _) ?_
 simp
theorem refArm_any {P Q:Nat} (hQ:P=Q+1) (hp:(P:Int)∈prm) (x y:Int) (hxy:x≠y) (hx:0≤x∧x<(P:Int)) (hy:0≤y∧y<(P:Int)) (w:World) :
 Calls Tryz.prog 16 #[.int .i64 (P:Int),.int .i64 x,.int .i64 y] w fun e w'=>∃ u,e = .returned u∧OwnA w' w.heap.size u (armP (P:Int) x y)∧Below w.heap.size w w':=by
 have hpb:=prm_bounds hp
 have hab2:(x - y) % (P:Int)≠0:=fun h=>by
  rcases Int.lt_or_gt_of_ne hxy with h2 | h2
  · have h1:=Int.emod_eq_of_lt (show (0:Int)≤x - y+(P:Int) * 1 by omega) (show x - y+(P:Int) * 1<(P:Int) by omega)
    rw [Int.add_mul_emod_self_left] at h1
    omega
  · have h1:=Int.emod_eq_of_lt (show (0:Int)≤x - y by omega) (show x - y<(P:Int) by omega)
    omega
 have HO:=Lib.hid (fun (z:Int) (hz:-1000≤z∧z≤1000) (W:World)=>rof_any (P:Int) z W (by omega) (by omega) (by omega) (by omega))
 have HZI:=Lib.hid (fun (k:Nat)=>zk_in hQ hp (x - y) k)
 have HZ0:=Lib.hid (zk_zero hQ (x - y))
 have HZN:=Lib.hid (fun k=>zk_next P x y k)
 have HZK:=Lib.hid (fun (k:Nat) (hk:k<Q)=>(show zk P (x - y) (k+1)≠(P:Int) - 1 by rw [zk_succ];have:=xk_in hQ hp hab2 hk;omega))
 have HZL:=Lib.hid (zk_last hQ (x - y))
 have HAN:=Lib.hid (fun (k:Nat) (hk:k<Q)=>ak_next hQ hp hab2 hk)
 have HA0:=Lib.hid (ak_zero hQ x y)
 have HST:=Lib.hid (fun (k:Nat) (hk:k≤Q) h1 h2=>ak_stop (x:=x) (y:=y) hQ hp hk h1 h2)
 have HAL:=Lib.hid (fun h=>ak_all (x:=x) (y:=y) hQ hp h)
 have HB:=Lib.hid (And.intro hQ (And.intro hpb (And.intro hx hy)))
 have hz0:(x - 1) % (P:Int)=(x+zk P (x - y) 0) % (P:Int):=by
  rw [HZ0.out,show x+((P:Int) - 1)=x - 1+(P:Int) * 1 by omega,Int.add_mul_emod_self_left]
 have HO1:=Lib.hid (HO.out (x - 1) (by omega))
 rw [hz0] at HO1
 have hw1:IntKind.i64.wrap (x - 1)=x - 1:=IntWalk.i64_in _ (by omega)
 have hwP:IntKind.i64.wrap ((P:Int) - 1)=(P:Int) - 1:=IntWalk.i64_in _ (by omega)
 clear hQ hp hpb hx hy hxy hab2 hz0
 go_enter Tryz.func16,Tryz.ntmps16
 go_wp2_with (go_at_call 50;refine (HO1.out _).mono ?_;rintro e w' ⟨rfl,rfl⟩)
 clear hw1
 go_loopw [7,8,9] (fun v r i wr=>∃ k:Nat,k≤Q∧i = .int .i64 (k:Int)∧r = .int .i64 ((x+zk P (x - y) k) % (P:Int))∧(∀ j,j<k→(x+zk P (x - y) j) % (P:Int)≠(P:Int) - 1)∧OwnA wr w.heap.size v (ak P x y k)∧Below w.heap.size w wr) (fun _ _ i _=>Q - (intOf i).toNat)
 case atStart=>exact ⟨0,Nat.zero_le _,rfl,rfl,(fun j hj=>absurd hj (Nat.not_lt_zero _)),by rw [HA0.out];exact ownA_nil _ _,Below.refl _ _⟩
 case round =>
  obtain ⟨k,hk,rfl,rfl,hne,hown,hBr⟩:=hrel
  have hBB:=HB.out
  have hkP:k<P:=by omega
  have d1:decide (k<P)=true:=decide_eq_true hkP
  by_cases hz:(x+zk P (x - y) k) % (P:Int)=(P:Int) - 1
  · have HS:=Lib.hid (HST.out k hk hne hz)
    rw [hz]
    have d2:(((P:Int) - 1) != (P:Int) - 1)=false:=by simp
    obtain ⟨vA,vn,vc,rfl⟩:=hown.form
    rw [HS.out] at hown
    clear hBB hne hz
    go_wp2
    go_ret
    exact ⟨_,rfl,hown,hBr⟩
  · have hm0:0≤(x+zk P (x - y) k) % (P:Int):=Int.emod_nonneg _ (by omega)
    have hm1:(x+zk P (x - y) k) % (P:Int)<(P:Int):=Int.emod_lt_of_pos _ (by omega)
    have HN:=Lib.hid (HZN.out k)
    have HNE:Hid (∀ j,j<k+1→(x+zk P (x - y) j) % (P:Int)≠(P:Int) - 1):=fun j hj=>by
     rcases Nat.lt_succ_iff_lt_or_eq.1 hj with h | rfl
     · exact hne j h
     · exact hz
    obtain ⟨z,hzz⟩:∃ z,(x+zk P (x - y) k) % (P:Int)=z:=⟨_,rfl⟩
    rw [hzz] at hz hm0 hm1 HN ⊢
    have d2:(z != (P:Int) - 1)=true:=bne_iff_ne.2 hz
    have hwa0:=IntWalk.i64_in (z - y) (by omega)
    have HOX:=Lib.hid (HO.out (z - y) (by omega))
    rw [HN.out] at HOX
    obtain ⟨a1,ha1⟩:∃ a1,z - y=a1:=⟨_,rfl⟩
    have hwa:IntKind.i64.wrap (z - y)=a1:=hwa0.trans ha1
    rw [ha1] at HOX
    clear ha1 hwa0
    have hzi:=HZI.out (k+1)
    by_cases hlt:k<Q
    · have hnr:=HZK.out k hlt
      have HAX:=Lib.hid (HAN.out k hlt)
      obtain ⟨r,hr⟩:∃ r,zk P (x - y) (k+1)=r:=⟨_,rfl⟩
      have HRR:=Lib.hid hr
      rw [hr] at HOX hzi hnr HAX
      have d3:(r == (P:Int) - 1)=false:=beq_eq_false_iff_ne.2 hnr
      have hwb0:=IntWalk.i64_in (x+r) (by omega)
      have hwk:IntKind.i64.wrap ((k:Int)+1)=((k+1:Nat):Int):=by rw [IntWalk.i64_in _ (by omega)];omega
      have HO2:=Lib.hid (HO.out (x+r) (by omega))
      obtain ⟨a2,ha2⟩:∃ a2,x+r=a2:=⟨_,rfl⟩
      have HA2R:=Lib.hid ha2
      have hwb:IntKind.i64.wrap (x+r)=a2:=hwb0.trans ha2
      rw [ha2] at HO2
      clear ha2 hwb0
      have HQ1:Hid ((ak P x y k).length≤1000000):=by unfold Hid;have:=ak_len P x y k;omega
      obtain ⟨vA,vn,vc,rfl⟩:=hown.form
      have hBz:=below_one wr (.cells #[.int .i64 y,.int .i64 r,.int .i64 x,.int .i64 r] 31)
      have bz:=Blk.new wr 31 #[.int .i64 y,.int .i64 r,.int .i64 x,.int .i64 r]
      have HB2:=Lib.hid (And.intro hBz bz)
      have HOWz:=Lib.hid (hown.below hBz)
      have hle:∀ g,(Value.slice vA vn vc).ownBlock=some g→w.heap.size≤g:=fun g e=>hown.own_le g e
      have HLE:=Lib.hid hle
      have hbs:=hBr.size
      have HBR:=Lib.hid hBr
      clear hown hBz bz hzz hBB hk hle hr hne hz hm0 hm1 hnr hzi
      go_wp2_with fail
      refine (HOX.out _).mono ?_
      rintro e w' ⟨rfl,rfl⟩
      clear HOX hwa
      go_wp2_with (at_builtin;refine wpList_pushA2 _ rfl _ _ rfl w.heap.size (.slice vA vn vc) _ rfl HOWz.out wr.heap.size y r x r rfl HB2.out.2 HQ1.out (by simp;omega) ?_;intro v' w2 hown2 hgr2;obtain ⟨vA2,vn2,vc2,rfl⟩:=hown2.form)
      refine (HO2.out _).mono ?_
      rintro e w' ⟨rfl,rfl⟩
      go_wp2_with fail
      go_roundw
      case rel=>exact ⟨k+1,by omega,rfl,by rw [HRR.out,HA2R.out],HNE.out,by rw [HAX.out];exact hown2,below_grown (below_in HBR.out HB2.out.1) hgr2 (by have:=HB2.out.1.size;omega) (fun g e=>HLE.out g e)⟩
      case measure=>simp [intOf];omega
    · obtain rfl:k=Q:=by omega
      have HZL2:=HZL.out
      rw [HZL2] at HOX
      have HA2:=Lib.hid (HAL.out HNE.out)
      have d3:(((P:Int) - 1) == (P:Int) - 1)=true:=by simp
      obtain ⟨vA,vn,vc,rfl⟩:=hown.form
      rw [HA2.out] at hown
      clear hBB HZL2 hzz hne hz hm0 hm1 hzi
      go_wp2_with fail
      refine (HOX.out _).mono ?_
      rintro e w' ⟨rfl,rfl⟩
      go_wp2_with fail
      go_ret
      exact ⟨_,rfl,hown,hBr⟩
end Go.Proofs.YtcchjofjpflbhaaGreatDoor.T
