/- -/
import Derived.Test.YtcchjofjpflbhaaGreatDoorPAG9m4
import Derived.Test.YtcchjofjpflbhaaGreatDoorPAG12m5
import Derived.Test.YtcchjofjpflbhaaGreatDoorPAG13m6
import Derived.Test.YtcchjofjpflbhaaGreatDoorPAG13m12
set_option linter.unusedVariables false
set_option linter.unusedSimpArgs false
set_option maxRecDepth 100000
set_option maxHeartbeats 4000000
namespace Go.Proofs.YtcchjofjpflbhaaGreatDoor.Rg
open Go.RowKit Go.Shelf Go.Proofs.YtcchjofjpflbhaaGreatDoor.C Go.Proofs.YtcchjofjpflbhaaGreatDoor.E
attribute [local go_sem] Oper.semAt_some

def outN (P Q n:Nat) (c:List (List UInt8)) (o:Nat):Nat→List (List UInt8)
 | 0=>c
 | m+1=>putC (outN P Q n c o m) (turnC P Q n c (2 * ((m+1:Nat):Int) * (o:Int)))
theorem outN_good {P Q n:Nat} (D:Dims P Q n) {c:List (List UInt8)} (hc:GoodC Q n c) (o:Nat):∀ m,GoodC Q n (outN P Q n c o m)
 | 0=>hc
 | m+1=>put_good D.h1 D.h64 (outN_good D hc o m)
theorem bt_out {P Q n:Nat} (D:Dims P Q n) {c:List (List UInt8)} (hc:GoodC Q n c) (o:Nat) (j:Nat) (r:Int):∀ m,Bt P Q n (outN P Q n c o m) j r=xa ((List.range (m+1)).map fun i:Nat=>tu (2 * (i:Int) * (o:Int)) (Bt P Q n c j) r)
 | 0=>by
   show Bt P Q n c j r = _
   have hp:=Bt.per (n:=n) D.hQ c j
   simp [xa,tu,hp.2]
 | m+1=>by
   show Bt P Q n (putC (outN P Q n c o m) (turnC P Q n c (2 * ((m+1:Nat):Int) * (o:Int)))) j r = _
   rw [bt_put D.hQ (outN_good D hc o m) (turn_good D.h1 D.h64 hc _),bt_out D hc o j r m,bt_turn D.hQ hc,List.range_succ (n:=m+1),List.map_append,xa_append]
   rw [List.map_cons,List.map_nil,xa_cons,xa_nil,UInt8.xor_zero]
theorem even_fin:∀ p∈prm,∀ s∈List.range 17,(s:Int)<p→s≠0→∀ r∈List.range 17,(r:Int)<p →
 ((List.range ((p - 1).toNat / 2+1)).flatMap fun i:Nat=>[((r:Int) - 2 * (i:Int) * (s:Int)) % p,((r:Int) - (s:Int) - 2 * (i:Int) * (s:Int)) % p]).isPerm ((r:Int) :: (List.range p.toNat).map fun k:Nat=>(k:Int))=true:=by decide +kernel
theorem xa_pairs {α:Type} (f g:α→UInt8):∀ l:List α,xa (l.flatMap fun i=>[f i,g i])=xa (l.map fun i=>f i ^^^ g i):=by
 intro l
 induction l with
 | nil=>rfl
 | cons a l ih =>
   rw [List.flatMap_cons,xa_append,ih,List.map_cons,xa_cons,xa_cons,xa_cons,xa_nil,UInt8.xor_zero]
theorem even_sum {P Q:Nat} (hQ:P=Q+1) (hp:(P:Int)∈prm) {b:Int} (hb:b % (P:Int)≠0) {o:Nat} (ho:b % (P:Int)=(o:Int)) {x:Int→UInt8} (hx:Per P x) (r:Int) :
 xa ((List.range (Q / 2+1)).map fun i:Nat=>x (r - 2 * (i:Int) * (o:Int)) ^^^ x (r - b - 2 * (i:Int) * (o:Int)))=x r ^^^ al P x:=by
 have hpb:=prm_bounds hp
 have h0:=Int.emod_nonneg r (show (P:Int)≠0 by omega)
 have h1:=Int.emod_lt_of_pos r (show (0:Int)<P by omega)
 have h3:=Int.emod_lt_of_pos b (show (0:Int)<P by omega)
 obtain ⟨s,hs⟩:∃ s:Nat,r % (P:Int)=(s:Int):=⟨(r % (P:Int)).toNat,by omega⟩
 have h:=xa_perm ((List.isPerm_iff.1 (even_fin _ hp o (List.mem_range.2 (by omega)) (by omega) (by omega) s (List.mem_range.2 (by omega)) (by omega))).map x)
 have hoo:(o:Int) % (P:Int)=(o:Int):=Int.emod_eq_of_lt (by omega) (by omega)
 have hss:(s:Int) % (P:Int)=(s:Int):=Int.emod_eq_of_lt (by omega) (by omega)
 rw [Int.toNat_natCast,List.map_cons,List.map_map,xa_cons,List.map_flatMap] at h
 simp only [List.map_cons,List.map_nil] at h
 rw [xa_pairs] at h
 refine Eq.trans ?_ (h.trans ?_)
 · rw [show ((P:Int) - 1).toNat / 2+1=Q / 2+1 by omega]
   congr 1
   refine List.map_congr_left fun i _=>?_
   congr 1
   · refine hx.1 _ _ ?_
     rw [Int.emod_emod_of_dvd _ (Int.dvd_refl _)]
     exact mod_sub (by rw [hss];exact hs) _
   · refine hx.1 _ _ ?_
     rw [Int.emod_emod_of_dvd _ (Int.dvd_refl _)]
     refine mod_sub ?_ _
     rw [Int.sub_emod,ho,hs]
 · rw [hx.1 (s:Int) r (by rw [hss,hs])]
   rfl
theorem xa_both {α:Type} (f g:α→UInt8):∀ l:List α,xa (l.map fun x=>f x ^^^ g x)=xa (l.map f) ^^^ xa (l.map g):=by
 intro l
 induction l with
 | nil=>simp [xa]
 | cons y l ih =>
   rw [List.map_cons,List.map_cons,List.map_cons,xa_cons,xa_cons,xa_cons,ih]
   simp only [UInt8.xor_assoc,UInt8.xor_comm,xlc]
theorem out_is {P Q n:Nat} (D:Dims P Q n) {c:List (List UInt8)} (hc:GoodC Q n c) {b:Int} (hb:b % (P:Int)≠0) {o:Nat} (ho:b % (P:Int)=(o:Int)):outN P Q n c o (Q / 2)=slackL P Q (wholeF Q n c) b:=by
 have g1:=outN_good D hc o (Q / 2)
 refine str_inj D.hQ D.hp g1 (slack_good D.hQ D.h1 D.h64 hc b) hb ?_
 rw [str_slack D.hQ D.hp D.h1 D.h64 hc hb]
 refine col_ext D.hQ (str_good D.h1 D.h64 g1 b) hc fun j r=>?_
 rw [bt_str D.hQ g1]
 have hx:=Bt.per (n:=n) D.hQ c j
 have e:∀ r,Bt P Q n (outN P Q n c o (Q / 2)) j r=xa ((List.range (Q / 2+1)).map fun i:Nat=>(Bt P Q n c j) (r - 2 * (i:Int) * (o:Int))) ^^^ xa ((List.range (Q / 2+1)).map fun i:Nat=>(Bt P Q n c j) (-1 - 2 * (i:Int) * (o:Int))):=fun r=>by
  rw [bt_out D hc o j r (Q / 2),←xa_both]
  rfl
 have e2:=fun r=>(xa_both (fun i:Nat=>(Bt P Q n c j) (r - 2 * (i:Int) * (o:Int))) (fun i:Nat=>(Bt P Q n c j) (r - b - 2 * (i:Int) * (o:Int))) (List.range (Q / 2+1))).symm.trans (even_sum D.hQ D.hp hb ho hx r)
 unfold st tu
 rw [e,e,e]
 have e3:=e2 r
 have e4:=e2 (-1)
 rw [hx.2,UInt8.zero_xor] at e4
 generalize xa ((List.range (Q / 2+1)).map fun i:Nat=>(Bt P Q n c j) (r - 2 * (i:Int) * (o:Int)))=z1 at *
 generalize xa ((List.range (Q / 2+1)).map fun i:Nat=>(Bt P Q n c j) (-1 - 2 * (i:Int) * (o:Int)))=z2 at *
 generalize xa ((List.range (Q / 2+1)).map fun i:Nat=>(Bt P Q n c j) (r - b - 2 * (i:Int) * (o:Int)))=z3 at *
 generalize xa ((List.range (Q / 2+1)).map fun i:Nat=>(Bt P Q n c j) (-1 - b - 2 * (i:Int) * (o:Int)))=z4 at *
 have e5:z1 ^^^ z2 ^^^ (z3 ^^^ z2 ^^^ (z4 ^^^ z2))=(z1 ^^^ z3) ^^^ (z2 ^^^ z4):=by simp only [UInt8.xor_assoc,UInt8.xor_comm,xlc,xx,UInt8.xor_self,UInt8.xor_zero,UInt8.zero_xor]
 rw [e5,e3,e4,UInt8.xor_assoc,UInt8.xor_self,UInt8.xor_zero]
theorem slackD_any {P Q n:Nat} (D:Dims P Q n) (b:Int) (y1:-9223372036854775808≤b) (y2:b≤9223372036854775807) (hb:b % (P:Int)≠0) (c:List (List UInt8)) (hc:GoodC Q n c) (v:Value) (w:World) (hM:Many w.heap.size w v c) :
 Calls Tryz.prog 68 #[.int .i64 (P:Int),v,.int .i64 b] w fun e w'=>∃ u,e = .returned u∧Many w'.heap.size w' u (slackL P Q (wholeF Q n c) b)∧Below w.heap.size w w':=by
 have hpb:=prm_bounds D.hp
 have hQ2:=prm_odd D.hQ D.hp
 obtain ⟨o,ho⟩:∃ o:Nat,b % (P:Int)=(o:Int):=⟨(b % (P:Int)).toNat,by have:=Int.emod_nonneg b (show (P:Int)≠0 by omega);omega⟩
 have hoP:o<P:=by have:=Int.emod_lt_of_pos b (show (0:Int)<P by omega);omega
 obtain ⟨h,hh⟩:∃ h,Q / 2=h:=⟨_,rfl⟩
 have hh8:h≤8:=by have:=D.hQ;omega
 have HIS:=Lib.hid (out_is D hc hb ho)
 rw [hh] at HIS
 have hq:((P:Int) - 1).tdiv 2=(h:Int):=by rw [Int.tdiv_eq_ediv_of_nonneg (by omega)];have:=D.hQ;omega
 have HOF:=Lib.hid (fun U=>rof_any (P:Int) b U (by omega) (by omega) y1 y2)
 rw [ho] at HOF
 have HT:=Lib.hid (fun (z:Int) (z0:0≤z) (z1:z≤1000) (U:World) (hU:Below w.heap.size w U)=>turnD_any D z (by omega) (by omega) c hc v U ((hM.below hU).more hU.size))
 have HM:=Lib.hid hM
 have HG:=Lib.hid (outN_good D hc o)
 have HC:=Lib.hid hc
 obtain ⟨A,ca,rfl,_,_⟩:=id hM
 rw [hc.1] at HT HM ⊢
 clear hM hQ2 hh ho hb hc
 go_enter Tryz.func68,Tryz.ntmps68
 go_wp2
 go_loopw [7,8] (fun u i wr=>∃ k:Nat,1≤k∧k≤h+1∧i = .int .i64 k∧Many wr.heap.size wr u (outN P Q n c o (k - 1))∧Below w.heap.size w wr) (fun _ i _=>h+1 - (intOf i).toNat)
 case atStart=>exact ⟨1,Nat.le_refl _,by omega,rfl,HM.out,Below.refl _ _⟩
 case round =>
  obtain ⟨k,hk1,hk,rfl,hu,hB⟩:=hrel
  by_cases hlt:k≤h
  · have hdec:decide ((k:Int)≤(h:Int))=true:=by simp;omega
    have i1:(0:Int)≤(k:Int):=by omega
    have i2:(k:Int)≤8:=by omega
    have i3:(0:Int)≤(o:Int):=by omega
    have i4:(o:Int)≤17:=by omega
    have z0:(0:Int)≤2 * (k:Int) * (o:Int):=Int.mul_nonneg (by omega) i3
    have z1:2 * (k:Int) * (o:Int)≤16 * 17:=Int.mul_le_mul (by omega) i4 i3 (by omega)
    have w1':IntKind.i64.wrap (2 * (k:Int))=2 * (k:Int):=IntWalk.i64_in _ (by omega)
    have w2':IntKind.i64.wrap (2 * (k:Int) * (o:Int))=2 * (k:Int) * (o:Int):=IntWalk.i64_in _ (by omega)
    have HTZ:=Lib.hid (HT.out _ z0 (by omega))
    have HPY:=Lib.hid (fun (U:World) (u2:Value) (h1:Many U.heap.size U u7 (outN P Q n c o (k - 1))) (h2:Many U.heap.size U u2 (turnC P Q n c (2 * (k:Int) * (o:Int))))=>putY D _ _ (HG.out (k - 1)) (turn_good D.h1 D.h64 HC.out _) u7 u2 U h1 h2)
    have HNX:Hid (putC (outN P Q n c o (k - 1)) (turnC P Q n c (2 * (k:Int) * (o:Int)))=outN P Q n c o (k+1 - 1)):=by
     obtain ⟨m,rfl⟩:∃ m,k=m+1:=⟨k - 1,by omega⟩
     rfl
    rw [HNX.out] at HPY
    go_wp2_with (go_at_call 50;refine (HOF.out _).mono ?_;rintro e w' ⟨rfl,rfl⟩)
    refine (HTZ.out _ hB).mono ?_
    rintro e w2 ⟨u2,rfl,hu2,hB2⟩
    have hu':=(hu.below hB2).more hB2.size
    go_wp2_with fail
    refine (HPY.out _ _ hu' hu2).mono ?_
    rintro e w3 ⟨u3,rfl,hu3,hB3⟩
    go_wp2
    go_roundw
    case rel=>exact ⟨k+1,by omega,by omega,by go_num,hu3,below_in hB (below_in hB2 hB3)⟩
    case measure=>simp [intOf];omega
  · have hkh:k - 1=h:=by omega
    have e1:decide ((k:Int)≤(h:Int))=false:=by simp;omega
    rw [hkh,HIS.out] at hu
    go_wp2
    go_ret
    exact ⟨_,rfl,hu,hB⟩
end Go.Proofs.YtcchjofjpflbhaaGreatDoor.Rg
