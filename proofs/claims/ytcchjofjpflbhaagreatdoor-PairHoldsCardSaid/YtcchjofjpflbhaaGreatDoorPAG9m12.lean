/- -/
import Derived.Laws.CopyOwn
import Derived.ArgAppend
import Derived.Test.YtcchjofjpflbhaaGreatDoorPAG6m12
import Derived.Test.YtcchjofjpflbhaaGreatDoorPAG9m14
set_option linter.unusedVariables false
set_option linter.unusedSimpArgs false
set_option maxRecDepth 100000
set_option maxHeartbeats 400000
namespace Go.Proofs.YtcchjofjpflbhaaGreatDoor.Rg
open Go.RowKit Go.Shelf Go.Proofs.YtcchjofjpflbhaaGreatDoor.C Go.Proofs.YtcchjofjpflbhaaGreatDoor.E

theorem x_of {a b:UInt8} (h:a ^^^ b=0):a=b:=by
 have:=congrArg (· ^^^ b) h
 simpa [UInt8.xor_assoc] using this
theorem reach {P:Nat} (hp:(P:Int)∈prm) {a:Int} (ha:a % (P:Int)≠0) (r:Int):∃ m:Nat,r % (P:Int)=(-1+(m:Int) * a) % (P:Int):=by
 have hb:=prm_bounds hp
 have h0:=Int.emod_nonneg a (show (P:Int)≠0 by omega)
 have h1:=Int.emod_lt_of_pos a (show (0:Int)<P by omega)
 obtain ⟨i,_,_,hi⟩:=inv_ex (P:Int) hp (a % (P:Int)) h0 h1 ha
 have h2:=Int.emod_nonneg r (show (P:Int)≠0 by omega)
 have h3:=Int.emod_lt_of_pos r (show (0:Int)<P by omega)
 refine ⟨((r % (P:Int) - -1) % (P:Int) * i % (P:Int)).toNat,(walk_comes P (by omega) (-1) (r % (P:Int)) (a % (P:Int)) i hi h2 h3).symm.trans ?_⟩
 generalize ((r % (P:Int) - -1) % (P:Int) * i % (P:Int)).toNat=m
 unfold walkAt
 rw [Int.add_emod,Int.mul_emod,Int.emod_emod_of_dvd _ (Int.dvd_refl _),←Int.mul_emod,←Int.add_emod]
theorem prm_odd {P Q:Nat} (hQ:P=Q+1) (hp:(P:Int)∈prm):Q % 2=0:=by
 have h:∀ p∈prm,(p - 1) % 2=0:=by decide
 have:=h _ hp
 omega
theorem st_slack {P:Nat} {x k:Int→UInt8} {b:Int} (hx:Per P x) (hk:Per P k) (h:∀ r,k r ^^^ k (r - b)=x r ^^^ al P x) (r:Int):st b k r=x r:=by
 have h1:=h (-1)
 rw [hk.2,hx.2,UInt8.zero_xor,UInt8.zero_xor] at h1
 unfold st tu
 rw [h1,←UInt8.xor_assoc,h,UInt8.xor_assoc,UInt8.xor_self,UInt8.xor_zero]
theorem tu_add {x y:Int→UInt8} (a:Int) (r:Int):tu a (fun r=>x r ^^^ y r) r=tu a x r ^^^ tu a y r:=by
 unfold tu
 simp only [UInt8.xor_assoc,UInt8.xor_comm,xlc,xx,UInt8.xor_self,UInt8.xor_zero,UInt8.zero_xor]
def strC (P Q n:Nat) (c:List (List UInt8)) (b:Int):List (List UInt8):=rowK 2 Q (fun i r=>if i=0 then xorOf [wholeF Q n c r,wholeF Q n c Q] else xorOf [mvF P b (wholeF Q n c) r,mvF P b (wholeF Q n c) Q])
theorem str_good {P Q n:Nat} (h1:1≤n) (h64:n≤64) {c:List (List UInt8)} (hc:GoodC Q n c) (b:Int):GoodC Q n (strC P Q n c b) :=
 made_good h1 h64 _ fun i _=>len_two (len_two (whole_len hc i) (whole_len hc Q)) (len_two (mv_len hc b i) (mv_len hc b Q))
theorem bt_str {P Q n:Nat} (hQ:P=Q+1) {c:List (List UInt8)} (hc:GoodC Q n c) (b:Int) (j:Nat) (r:Int):Bt P Q n (strC P Q n c b) j r=st b (Bt P Q n c j) r:=by
 refine bt_made hQ _ j _ ((Bt.per hQ c j).st b) (fun i hi=>?_) r
 show at_ (xorOf [xorOf [wholeF Q n c i,wholeF Q n c Q],xorOf [mvF P b (wholeF Q n c) i,mvF P b (wholeF Q n c) Q]]) j = _
 rw [at_two (len_two (whole_len hc i) (whole_len hc Q)) (len_two (mv_len hc b i) (mv_len hc b Q)),at_two (whole_len hc i) (whole_len hc Q),at_two (mv_len hc b i) (mv_len hc b Q),at_mv,at_mv]
 unfold st tu
 rw [(Bt.per hQ c j).1 ((Q:Int) - b) (-1 - b) (mod_sub (by rw [last_mod hQ,Int.emod_eq_of_lt (by omega) (by omega)]) b)]
 have e1:at_ (wholeF Q n c i) j=Bt P Q n c j (i:Int):=by unfold Bt;rw [Int.emod_eq_of_lt (by omega) (by omega),Int.toNat_natCast]
 have e2:at_ (wholeF Q n c Q) j=0:=by unfold wholeF;rw [if_neg (Nat.lt_irrefl _)];exact at_nought n j
 rw [e1,e2,UInt8.xor_zero]
def sofar (P:Nat) (x:Int→UInt8) (b:Int) (m:Nat):UInt8:=xa ((List.range m).map fun k:Nat=>x (-1+((k:Int)+1) * b) ^^^ al P x)
theorem sofar_next (P:Nat) (x:Int→UInt8) (b:Int) (m:Nat):sofar P x b (m+1)=sofar P x b m ^^^ (x (-1+((m:Int)+1) * b) ^^^ al P x):=by
 unfold sofar
 rw [List.range_succ,List.map_append,xa_append]
 simp [xa]
theorem xa_xorc (l:List UInt8) (a:UInt8):xa (l.map fun x=>x ^^^ a)=xa l ^^^ (if l.length % 2=0 then 0 else a):=by
 induction l with
 | nil=>simp [xa]
 | cons y l ih =>
   rw [List.map_cons,xa_cons,xa_cons,ih,List.length_cons]
   rcases Nat.mod_two_eq_zero_or_one l.length with h2 | h2
   · rw [if_pos h2,if_neg (by omega)];simp only [UInt8.xor_assoc,UInt8.xor_comm,xlc,xx,UInt8.xor_self,UInt8.xor_zero,UInt8.zero_xor]
   · rw [if_neg (by omega),if_pos (by omega)];simp only [UInt8.xor_assoc,UInt8.xor_comm,xlc,xx,UInt8.xor_self,UInt8.xor_zero,UInt8.zero_xor]
theorem perm_fin:∀ p∈prm,∀ s∈List.range 17,(s:Int)<p→s≠0→((List.range p.toNat).map (fun k:Nat=>(-1+(k:Int) * (s:Int)) % p)).isPerm ((List.range p.toNat).map fun k:Nat=>(k:Int))=true:=by decide +kernel
theorem all_steps {P:Nat} (hp:(P:Int)∈prm) {b:Int} (hb:b % (P:Int)≠0) {x:Int→UInt8} (hx:Per P x):xa ((List.range P).map fun k:Nat=>x (-1+(k:Int) * b))=al P x:=by
 have hpb:=prm_bounds hp
 have h0:=Int.emod_nonneg b (show (P:Int)≠0 by omega)
 have h1:=Int.emod_lt_of_pos b (show (0:Int)<P by omega)
 obtain ⟨s,hs⟩:∃ s:Nat,b % (P:Int)=(s:Int):=⟨(b % (P:Int)).toNat,by omega⟩
 have h:=xa_perm ((List.isPerm_iff.1 (perm_fin _ hp s (List.mem_range.2 (by omega)) (by omega) (by omega))).map x)
 rw [Int.toNat_natCast,List.map_map,List.map_map] at h
 unfold al
 refine Eq.trans ?_ h
 congr 1
 refine List.map_congr_left fun k _=>?_
 refine hx.1 _ _ ?_
 rw [←hs,Int.emod_emod_of_dvd _ (Int.dvd_refl _),mul_mod]
theorem sofar_all {P Q:Nat} (hQ:P=Q+1) (hp:(P:Int)∈prm) {b:Int} (hb:b % (P:Int)≠0) {x:Int→UInt8} (hx:Per P x):sofar P x b Q=al P x:=by
 have h:=all_steps hp hb hx
 have hr:List.range P=0 :: (List.range Q).map Nat.succ:=by rw [hQ,List.range_succ_eq_map]
 rw [hr,List.map_cons,xa_cons,List.map_map] at h
 have e0:x (-1+((0:Nat):Int) * b)=0:=by rw [show -1+((0:Nat):Int) * b = -1 by simp];exact hx.2
 rw [e0,UInt8.zero_xor] at h
 unfold sofar
 have e:=xa_xorc ((List.range Q).map fun k:Nat=>x (-1+((k:Int)+1) * b)) (al P x)
 rw [List.map_map,List.length_map,List.length_range,if_pos (prm_odd hQ hp),UInt8.xor_zero] at e
 refine Eq.trans e (Eq.trans ?_ h)
 congr 1
theorem slack_steps {P Q:Nat} (hQ:P=Q+1) (hp:(P:Int)∈prm) {b:Int} (hb:b % (P:Int)≠0) {x k:Int→UInt8} (hx:Per P x) (hk:Per P k) (h:∀ m,m≤Q→k (-1+(m:Int) * b)=sofar P x b m) (r:Int):k r ^^^ k (r - b)=x r ^^^ al P x:=by
 obtain ⟨m0,hm0⟩:=reach hp hb r
 obtain ⟨m,hm,hmQ⟩:∃ m:Nat,r % (P:Int)=(-1+(m:Int) * b) % (P:Int)∧m≤Q:=by
  refine ⟨m0 % P,hm0.trans ?_,by have:=Nat.mod_lt m0 (show 0<P by omega);omega⟩
  have e:(m0:Int)=((m0 % P:Nat):Int)+(P:Int) * ((m0 / P:Nat):Int):=by rw [←Int.natCast_mul,←Int.natCast_add,Nat.mod_add_div]
  rw [e,Int.add_mul,←Int.add_assoc,Int.mul_assoc,Int.add_mul_emod_self_left]
 rw [hk.1 _ _ hm,hk.1 _ _ (mod_sub hm b),hx.1 _ _ hm]
 rcases m with _ | m
 · rw [show -1+((0:Nat):Int) * b - b = -1 - b by simp,show -1+((0:Nat):Int) * b = -1 by simp,hk.2,hx.2]
   have e:k (-1 - b)=sofar P x b Q:=by
    rw [←h Q (Nat.le_refl _)]
    refine hk.1 _ _ ?_
    rw [show (-1:Int)+(Q:Int) * b = -1 - b+(P:Int) * b by rw [hQ,Int.natCast_add,Int.add_mul];omega,Int.add_mul_emod_self_left]
   rw [e,sofar_all hQ hp hb hx]
 · rw [show -1+((m+1:Nat):Int) * b - b = -1+(m:Int) * b by rw [Int.natCast_add,Int.add_mul];omega,h _ hmQ,h _ (by omega),sofar_next,show ((m+1:Nat):Int)=(m:Int)+1 by omega]
   simp only [UInt8.xor_assoc,UInt8.xor_comm,xlc,xx,UInt8.xor_self,UInt8.xor_zero,UInt8.zero_xor]
theorem al_whole {P Q n:Nat} (hQ:P=Q+1) {c:List (List UInt8)} (hc:GoodC Q n c) (j:Nat):at_ (xorOf ((List.range P).map (wholeF Q n c))) j=al P (Bt P Q n c j):=by
 rw [at_xorOf (n:=n) (by simp;omega) (fun l hl=>by obtain ⟨i,_,rfl⟩:=List.mem_map.1 hl;exact whole_len hc i),List.map_map]
 unfold al
 congr 1
 refine List.map_congr_left fun i hi=>?_
 have:=List.mem_range.1 hi
 show at_ (wholeF Q n c i) j = _
 unfold Bt
 rw [Int.emod_eq_of_lt (by omega) (by omega),Int.toNat_natCast]
theorem whole_all_len {P Q n:Nat} (hQ:P=Q+1) {c:List (List UInt8)} (hc:GoodC Q n c):(xorOf ((List.range P).map (wholeF Q n c))).length=n :=
 xorOf_len_of (by simp;omega) (fun l hl=>by obtain ⟨i,_,rfl⟩:=List.mem_map.1 hl;exact whole_len hc i)
theorem hld_at {P Q n:Nat} (hQ:P=Q+1) {c:List (List UInt8)} (hc:GoodC Q n c) (b:Int) (j:Nat):∀ m:Nat,at_ (hld (wholeF Q n c) (wholeF Q n c Q) (xorOf ((List.range P).map (wholeF Q n c))) ((List.range m).map (fun k:Nat=>((P:Int) - 1+((k:Int)+1) * b) % (P:Int)))) j=sofar P (Bt P Q n c j) b m:=by
 intro m
 induction m with
 | zero=>show at_ (wholeF Q n c Q) j = _;unfold wholeF;rw [if_neg (Nat.lt_irrefl _)];exact at_nought n j
 | succ m ih =>
   rw [List.range_succ,List.map_append,List.map_cons,List.map_nil,hld_snoc,at_two (hld_len (whole_len hc Q) _) (len_two (whole_len hc _) (whole_all_len hQ hc)),at_two (whole_len hc _) (whole_all_len hQ hc),ih,sofar_next,al_whole hQ hc]
   congr 2
   show Bt P Q n c j ((P:Int) - 1+((m:Int)+1) * b) = _
   refine (Bt.per hQ c j).1 _ _ ?_
   rw [show (P:Int) - 1+((m:Int)+1) * b=(-1+((m:Int)+1) * b)+(P:Int) * 1 by omega,Int.add_mul_emod_self_left]
theorem slack_good {P Q n:Nat} (hQ:P=Q+1) (h1:1≤n) (h64:n≤64) {c:List (List UInt8)} (hc:GoodC Q n c) (b:Int):GoodC Q n (slackL P Q (wholeF Q n c) b) :=
 made_good h1 h64 _ fun i _=>hld_len (whole_len hc Q) _
theorem idx_map {α:Type} [BEq α] [LawfulBEq α]:∀ (l:List α),l.Nodup→∀ m (hm:m<l.length),l.idxOf l[m]=m:=by
 intro l
 induction l with
 | nil=>intro _ m hm;simp at hm
 | cons a l ih =>
   intro hn m hm
   rw [List.nodup_cons] at hn
   rcases m with _ | m
   · simp
   · rw [List.idxOf_cons]
     have:(a == (a :: l)[m+1])=false:=by
      rw [beq_eq_false_iff_ne]
      intro e
      exact hn.1 (by rw [e];simp)
     rw [this]
     simp only [List.getElem_cons_succ,cond_false]
     rw [ih hn.2 m (by simpa using hm)]
theorem bt_slack {P Q n:Nat} (hQ:P=Q+1) (hp:(P:Int)∈prm) {c:List (List UInt8)} (hc:GoodC Q n c) {b:Int} (hb:b % (P:Int)≠0) (j:Nat) (r:Int) :
 Bt P Q n (slackL P Q (wholeF Q n c) b) j r ^^^ Bt P Q n (slackL P Q (wholeF Q n c) b) j (r - b)=Bt P Q n c j r ^^^ al P (Bt P Q n c j):=by
 obtain ⟨h1,h2,h3⟩:=slack_rows P Q hQ hp b hb
 refine slack_steps hQ hp hb (Bt.per hQ c j) (Bt.per hQ _ j) (fun m hm=>?_) r
 rcases m with _ | m
 · rw [show -1+((0:Nat):Int) * b = -1 by simp,(Bt.per hQ _ j).2];rfl
 · rw [rows_are hQ hp hb] at h1 h3
   have hl:m<((List.range Q).map (fun k:Nat=>((P:Int) - 1+((k:Int)+1) * b) % (P:Int))).length:=by simp;omega
   have hg:((List.range Q).map (fun k:Nat=>((P:Int) - 1+((k:Int)+1) * b) % (P:Int)))[m]=((P:Int) - 1+((m:Int)+1) * b) % (P:Int):=by simp
   have hi:=idx_map _ h1 m hl
   rw [hg] at hi
   have h4:=h3 (((P:Int) - 1+((m:Int)+1) * b) % (P:Int)) (by rw [←hg];exact List.getElem_mem hl)
   obtain ⟨i,hiQ⟩:∃ i:Nat,((P:Int) - 1+((m:Int)+1) * b) % (P:Int)=(i:Int):=⟨(((P:Int) - 1+((m:Int)+1) * b) % (P:Int)).toNat,by omega⟩
   have hi3:i<Q:=by omega
   have e:(-1+((m+1:Nat):Int) * b) % (P:Int)=(i:Int):=by
    rw [←hiQ,show (P:Int) - 1+((m:Int)+1) * b=(-1+((m+1:Nat):Int) * b)+(P:Int) * 1 by rw [show ((m+1:Nat):Int)=(m:Int)+1 by omega];omega,Int.add_mul_emod_self_left]
   rw [bt_at hQ _ j hi3 e]
   unfold slackL
   rw [row_get Q _ hi3,rows_are hQ hp hb,←hiQ,hi,←List.map_take,List.take_range,Nat.min_eq_left (by omega)]
   exact hld_at hQ hc b j (m+1)
theorem str_slack {P Q n:Nat} (hQ:P=Q+1) (hp:(P:Int)∈prm) (h1:1≤n) (h64:n≤64) {c:List (List UInt8)} (hc:GoodC Q n c) {b:Int} (hb:b % (P:Int)≠0):strC P Q n (slackL P Q (wholeF Q n c) b) b=c:=by
 have hg:=slack_good hQ h1 h64 hc b
 refine col_ext hQ (str_good h1 h64 hg b) hc fun j r=>?_
 rw [bt_str hQ hg]
 exact st_slack (Bt.per hQ c j) (Bt.per hQ _ j) (fun r=>bt_slack hQ hp hc hb j r) r
end Go.Proofs.YtcchjofjpflbhaaGreatDoor.Rg

namespace Go.Proofs.YtcchjofjpflbhaaGreatDoor.Ch
open Go.RowKit Go.Shelf Go.Proofs.YtcchjofjpflbhaaGreatDoor.C Go.Proofs.YtcchjofjpflbhaaGreatDoor.E Go.Proofs.YtcchjofjpflbhaaGreatDoor.Rg

theorem al_add {P:Nat} (x y:Int→UInt8):al P (fun r=>x r ^^^ y r)=al P x ^^^ al P y:=by
 unfold al
 exact xa_add _ _ _
theorem al_one {P Q:Nat} (hQ:P=Q+1) {x:Int→UInt8} (hx:∀ r s:Int,r % (P:Int)=s % (P:Int)→x r=x s):al P (fun r=>x (r - 1))=al P x:=by
 unfold al
 subst hQ
 rw [List.range_succ_eq_map,List.map_cons,xa_cons,←List.range_succ_eq_map,List.range_succ,List.map_append,xa_append,List.map_map,List.map_cons,List.map_nil,xa_cons,xa_nil,UInt8.xor_zero,UInt8.xor_comm]
 congr 1
 · congr 1
   refine List.map_congr_left fun i _=>?_
   show x (((i+1:Nat):Int) - 1)=x (i:Int)
   rw [show ((i+1:Nat):Int) - 1=(i:Int) by omega]
 · refine hx _ _ ?_
   rw [show ((0:Nat):Int) - 1=(Q:Int)+((Q+1:Nat):Int) * (-1) by omega,Int.add_mul_emod_self_left]
theorem al_shift {P Q:Nat} (hQ:P=Q+1) {x:Int→UInt8} (hx:∀ r s:Int,r % (P:Int)=s % (P:Int)→x r=x s) (a:Int):al P (fun r=>x (r - a))=al P x:=by
 have key:∀ m:Nat,al P (fun r=>x (r - (m:Int)))=al P x:=by
  intro m
  induction m with
  | zero=>simp
  | succ m ih =>
    rw [←ih,←al_one hQ (x:=fun r=>x (r - (m:Int))) (fun r s e=>hx _ _ (mod_sub e _))]
    congr 1
    funext r
    show x _=x _
    rw [show r - 1 - (m:Int)=r - ((m+1:Nat):Int) by omega]
 rw [←key (a % (P:Int)).toNat]
 congr 1
 funext r
 refine hx _ _ ?_
 have h2:=Int.emod_nonneg a (show (P:Int)≠0 by omega)
 rw [Int.toNat_of_nonneg h2,Int.sub_emod,Int.sub_emod r (a % (P:Int)),Int.emod_emod_of_dvd _ (Int.dvd_refl _)]
theorem al_const {P Q:Nat} (hQ:P=Q+1) (hp:(P:Int)∈prm) (c:UInt8):al P (fun _=>c)=c:=by
 have h:=prm_odd hQ hp
 unfold al
 rw [List.map_const',List.length_range]
 have key:∀ m:Nat,xa (List.replicate m c)=if m % 2=0 then 0 else c:=by
  intro m
  induction m with
  | zero=>rfl
  | succ m ih =>
    rw [List.replicate_succ,xa_cons,ih]
    rcases Nat.mod_two_eq_zero_or_one m with h2 | h2
    · rw [if_pos h2,if_neg (by omega),UInt8.xor_zero]
    · rw [if_neg (by omega),if_pos (by omega),UInt8.xor_self]
 rw [key,if_neg (by omega)]
theorem al_tu {P Q:Nat} (hQ:P=Q+1) (hp:(P:Int)∈prm) {x:Int→UInt8} (hx:Per P x) (a:Int):al P (tu a x)=al P x ^^^ x (-1 - a):=by
 have e:tu a x=fun r=>(fun r=>x (r - a)) r ^^^ (fun _=>x (-1 - a)) r:=rfl
 rw [e,al_add,al_const hQ hp,al_shift hQ hx.1]
section
variable {P Q:Nat} {A B R D:Int→UInt8} {a b:Int}
theorem adj_is (hQ:P=Q+1) (hp:(P:Int)∈prm) (hA:Per P A) (hB:Per P B) (hR:∀ r,R r=A r ^^^ B r) (hD:∀ r,D r=tu a A r ^^^ tu b B r):al P R ^^^ al P D=A (-1 - a) ^^^ B (-1 - b):=by
 rw [show R=fun r=>A r ^^^ B r from funext hR,show D=fun r=>tu a A r ^^^ tu b B r from funext hD,al_add,al_add,al_tu hQ hp hA,al_tu hQ hp hB]
 simp only [UInt8.xor_assoc,UInt8.xor_comm,xlc,xx,UInt8.xor_self,UInt8.xor_zero,UInt8.zero_xor]
theorem second_is (hB:Per P B) (hR0:Per P R) (hD0:Per P D) (h:∀ r,st (b - a) B r=tu (-a) (fun r=>D r ^^^ tu a R r) r) (r:Int):D r=tu a (fun r=>R r ^^^ B r) r ^^^ tu b B r:=by
 have e:∀ r,tu a (st (b - a) B) r=tu a (tu (-a) (fun r=>D r ^^^ tu a R r)) r:=fun r=>by
  show (st (b - a) B) (r - a) ^^^ (st (b - a) B) (-1 - a)=(tu (-a) (fun r=>D r ^^^ tu a R r)) (r - a) ^^^ (tu (-a) (fun r=>D r ^^^ tu a R r)) (-1 - a)
  rw [h,h]
 have e2:=e r
 rw [tu_tu (P:=P),show -a+a=0 by omega,tu_zero (by show D (-1) ^^^ tu a R (-1)=0;rw [hD0.2,(hR0.tu a).2];rfl)] at e2
 have e3:tu a (st (b - a) B) r=tu a B r ^^^ tu b B r:=by
  show tu a (fun r=>B r ^^^ tu (b - a) B r) r = _
  rw [tu_add,show tu a (fun r=>tu (b - a) B r) r=tu a (tu (b - a) B) r from rfl,tu_tu (P:=P),show b - a+a=b by omega]
 rw [e3] at e2
 rw [tu_add]
 have e4:D r ^^^ tu a R r=tu a B r ^^^ tu b B r:=e2.symm
 apply x_of
 have e5:(D r ^^^ tu a R r) ^^^ (tu a B r ^^^ tu b B r)=0:=by rw [e4];exact UInt8.xor_self
 rw [←e5]
 simp only [UInt8.xor_assoc,UInt8.xor_comm,xlc,xx,UInt8.xor_self,UInt8.xor_zero,UInt8.zero_xor]
end
/- The columns that EVENODD makes,byte by byte. -/
section
variable {P Q n:Nat} {css:List (List (List UInt8))}
end
/- Two columns put upon one another. -/
section
variable {P Q n:Nat} {c e:List (List UInt8)}
end
end Go.Proofs.YtcchjofjpflbhaaGreatDoor.Ch

namespace Go.Proofs.YtcchjofjpflbhaaGreatDoor.Ch
open Go.RowKit Go.Shelf Go.Proofs.YtcchjofjpflbhaaGreatDoor.C Go.Proofs.YtcchjofjpflbhaaGreatDoor.E Go.Proofs.YtcchjofjpflbhaaGreatDoor.Rg Go.Proofs.YtcchjofjpflbhaaGreatDoor.T

section
variable {P Q n:Nat} {R D A B:List (List UInt8)} {a b:Int}
theorem whole_app (hQ:P=Q+1) (hR:GoodC Q n R):(List.range P).map (wholeF Q n R)=R ++ [List.replicate n 0]:=by
 refine List.ext_getElem? fun i=>?_
 rcases Nat.lt_or_ge i P with hi | hi
 · rw [List.getElem?_map,List.getElem?_range hi]
   show some (wholeF Q n R i) = _
   unfold wholeF
   rcases Nat.lt_or_ge i Q with h | h
   · rw [if_pos h,List.getElem?_append_left (by rw [hR.1];exact h),List.getElem?_eq_getElem (by rw [hR.1];exact h)]
     rfl
   · rw [if_neg (by omega),List.getElem?_append_right (by rw [hR.1];exact h),hR.1,show i - Q=0 by omega]
     rfl
 · rw [List.getElem?_eq_none (by simp;exact hi),List.getElem?_eq_none (by rw [List.length_append,hR.1];simp;omega)]
theorem al_list (hQ:P=Q+1) (hR:GoodC Q n R) (j:Nat):xa (R.map (at_ · j))=al P (Bt P Q n R j):=by
 have h:=al_whole hQ hR j
 rw [whole_app hQ hR,at_xorOf (n:=n) (by simp) (fun l hl=>by
  rcases List.mem_append.1 hl with h | h
  · obtain ⟨i,hi,rfl⟩:=List.getElem_of_mem h
    have:=(hR.2 i (by rw [←hR.1];exact hi)).2
    rwa [List.getElem?_eq_getElem hi] at this
  · rw [List.mem_singleton.1 h];simp),List.map_append,xa_append] at h
 rw [←h]
 simp [xa_cons,xa_nil,at_nought]
end
end Go.Proofs.YtcchjofjpflbhaaGreatDoor.Ch
