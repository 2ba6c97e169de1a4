/- -/
import Derived.Test.YtkllhjhkcipkoaaGreatDoorTHG9
set_option linter.unusedVariables false
set_option linter.unusedSimpArgs false
set_option maxRecDepth 100000
set_option maxHeartbeats 1000000
namespace Go.Proofs.YtkllhjhkcipkoaaGreatDoor.Ch
open Go.RowKit Go.Shelf Go.Proofs.YtkllhjhkcipkoaaGreatDoor.C Go.Proofs.YtkllhjhkcipkoaaGreatDoor.E

def idxI (ls:List Int) (x:Int):Int:=if x∈ls then (ls.idxOf x:Int) else -1
theorem index_any (b off cap:Nat) (ls:List Int) (x:Int) (hls:ls.length≤1000) (w:World) (hcell:∀ j,j<ls.length→w.cell? ⟨b,off+j,none⟩=some (.int .i64 (ls[j]?.getD 0))) :
 Calls Tryz.prog 111 #[.slice (some ⟨b,off,none⟩) ls.length cap,.int .i64 x] w fun e w'=>e = .returned (.int .i64 (idxI ls x))∧w'=w:=by
 have HCE:=Lib.hid hcell
 clear hcell
 obtain ⟨r,hr⟩:∃ r,idxI ls x=r:=⟨_,rfl⟩
 have HR:=Lib.hid hr
 rw [hr]
 clear hr
 go_enter Tryz.func111,Tryz.ntmps111
 go_wp2_with fail
 go_loop [8] (fun i=>∃ k:Nat,k≤ls.length∧i = .int .i64 k∧Hid (x∉ls.take k)) (fun i=>ls.length - (intOf i).toNat)
 case atStart=>exact ⟨0,Nat.zero_le _,rfl,Lib.hid (by simp)⟩
 case round =>
  obtain ⟨k,hk,rfl,HN⟩:=hrel
  by_cases hlt:k<ls.length
  · have hdec:decide ((k:Int)<(ls.length:Int))=true:=by simp;omega
    have i1:(0:Int)≤(k:Int):=by omega
    have i2:(k:Int)<(ls.length:Int):=by omega
    have hc:=HCE.out k hlt
    have hg:ls[k]?.getD 0=ls[k]:=by rw [List.getElem?_eq_getElem hlt];rfl
    have HT:Hid (ls.take (k+1)=ls.take k ++ [ls[k]]):=List.take_succ_eq_append_getElem hlt
    rw [hg] at hc
    by_cases hx:x=ls[k]
    · have HE:Hid (r=(k:Int)):=by
       unfold Hid
       rw [←HR.out]
       unfold idxI
       rw [if_pos (by rw [hx];exact List.getElem_mem hlt)]
       have e:ls.idxOf x=k:=by
        have e1:ls=ls.take k ++ ls[k] :: ls.drop (k+1):=by rw [List.getElem_cons_drop hlt,List.take_append_drop]
        rw [e1,List.idxOf_append,if_neg HN.out,←hx,List.idxOf_cons_self,List.length_take]
        omega
       rw [e]
      generalize ls[k]=y at hc hx
      subst hx
      have hd:(x == x)=true:=by simp
      clear HT hg
      go_wp2
      go_ret
      exact ⟨by rw [HE.out];rfl,rfl⟩
    · have hd:(x == ls[k])=false:=by simpa using hx
      have HN2:Hid (x∉ls.take (k+1)):=by
       unfold Hid
       rw [HT.out]
       intro h
       rcases List.mem_append.1 h with h | h
       · exact HN.out h
       · exact hx (List.mem_singleton.1 h)
      have HX:=Lib.hid hx
      generalize ls[k]=y at hc hd
      clear HT hg hx HX
      go_wp2
      go_round
      case rel=>exact ⟨k+1,by omega,by go_num,HN2⟩
      case measure=>simp [intOf];omega
  · obtain rfl:k=ls.length:=by omega
    have e1:decide ((ls.length:Int)<(ls.length:Int))=false:=by simp
    have HE:Hid (r = -1):=by
     unfold Hid
     rw [←HR.out]
     unfold idxI
     have:=HN.out
     rw [List.take_length] at this
     rw [if_neg this]
    go_wp2
    go_ret
    exact ⟨by rw [HE.out];rfl,rfl⟩
theorem contains_any (b off cap:Nat) (ls:List Int) (x:Int) (hls:ls.length≤1000) (w:World) (hcell:∀ j,j<ls.length→w.cell? ⟨b,off+j,none⟩=some (.int .i64 (ls[j]?.getD 0))) :
 Calls Tryz.prog 94 #[.slice (some ⟨b,off,none⟩) ls.length cap,.int .i64 x] w fun e w'=>e = .returned (.bool (decide (x∈ls)))∧w'=w:=by
 have HI:=Lib.hid (index_any b off cap ls x hls w hcell)
 have hd:decide (idxI ls x ≥ 0)=decide (x∈ls):=by
  unfold idxI
  by_cases h:x∈ls
  · rw [if_pos h];simp [h]
  · rw [if_neg h];simp [h]
 have hd2:decide (0≤idxI ls x)=decide (x∈ls):=hd
 generalize idxI ls x=r at *
 generalize decide (x∈ls)=d at *
 clear hcell
 generalize ls.length=n at *
 go_enter Tryz.func94,Tryz.ntmps94
 go_wp2_with (go_at_call 111;refine HI.out.mono ?_;rintro e w1 ⟨rfl,rfl⟩)
 go_ret
 exact ⟨rfl,rfl⟩
end Go.Proofs.YtkllhjhkcipkoaaGreatDoor.Ch

namespace Go.Proofs.YtkllhjhkcipkoaaGreatDoor.Rg
open Go.RowKit Go.Shelf Go.Maps Go.Proofs.YtkllhjhkcipkoaaGreatDoor.C Go.Proofs.YtkllhjhkcipkoaaGreatDoor.E
attribute [local go_sem] Oper.semAt_some

theorem RowG.own_lt {α:Type} {r:Rep α} {t:TypeId} {d:α} {Q:Nat→Prop} {W:World} {base:Nat} {v:Value} {xs:List α} (h:RowG r t d Q W base v xs) (k:Nat) (e:v.ownBlock=some k):k<W.heap.size:=by
 obtain ⟨us,ho,_⟩:=h
 exact (World.ownsRow.lt ho k e).2
theorem map_next {α β:Type} (g:α→β) (d:α) (xs:List α) {k:Nat} (hk:k<xs.length):(xs.map g).take (k+1)=(xs.map g).take k ++ [g (xs[k]?.getD d)]:=by
 rw [List.take_succ_eq_append_getElem (by rw [List.length_map];exact hk),List.getElem_map,List.getElem?_eq_getElem hk]
 rfl
section
variable {Q:Nat→Prop} {base:Nat} {v:Value}
theorem opIn_pushM {F:Fence} {nF:Nat} {T:TypeId} (w:World) {o:Oper} {a:Act} {K:Act→World→Prop} {QQ:Exit→Act→World→Prop} (s x:Operand)
 (ho:o.op = .call { callee:=.builtin .append,args:=#[s,x],argTypes:=#[T,T] }) (hT:Tryz.prog.underlying T=some (.slice 60)) (ls:List (List UInt8)) (hs:a.eval s=v) (h:RowM Q w base v ls)
 (g:Nat) (tg:TypeId) (u:Value) (l:List UInt8) (hx:a.eval x = .slice (some ⟨g,0,none⟩) 1 1) (hg:Blk w g tg #[u]) (hu:BytesP (fun b=>b<w.heap.size∧some b≠v.ownBlock∧Q b) w u l) (hlen:ls.length≤100000) (hbase:base≤w.heap.size)
 (hK:∀ v' w',RowM Q w' base v' (ls ++ [l])→w.grownBy w' v.ownBlock→(v'.ownBlock=v.ownBlock∨v'.ownBlock=some w.heap.size)→K (a.put o.dst v') w'):Oper.wpIn F nF Tryz.prog o a w K QQ:=by
 obtain ⟨i,hi,hz0,hz1,hz2⟩:=info_parts Tryz.infoSlcE
 obtain ⟨v',w',hrun,h1,h2,h3⟩:=RowG.push i hi hz0 hz1 hz2 T o.type hT h g tg u l hg hu hlen hbase
 unfold Oper.wpIn
 refine ⟨by simp [Oper.about,ho,resolve,Target.leads,Sem.run_pure],?_⟩
 rw [Oper.semAt_plain F _ _ (by rw [ho];intro c hc';cases hc')]
 simp [execOp,ho,resolve,invoke,builtin,hs,hx,hrun,Result.andThen,Oper.uponIn]
 exact hK v' w' h1 h2 h3
end
theorem RowM.many_ {Q:Nat→Prop} {W:World} {base:Nat} {v:Value} {ls:List (List UInt8)} (h:RowM Q W base v ls):Many W.heap.size W v ls:=manyR_iff.1 (RowM.many h fun b hb _=>hb)
end Go.Proofs.YtkllhjhkcipkoaaGreatDoor.Rg

namespace Go.Proofs.YtkllhjhkcipkoaaGreatDoor.Rg
open Go.RowKit Go.Shelf Go.Proofs.YtkllhjhkcipkoaaGreatDoor.C Go.Proofs.YtkllhjhkcipkoaaGreatDoor.E

theorem xx (a b:UInt8):a ^^^ (a ^^^ b)=b:=by rw [←UInt8.xor_assoc,UInt8.xor_self,UInt8.zero_xor]
theorem xlc (a b c:UInt8):a ^^^ (b ^^^ c)=b ^^^ (a ^^^ c):=by rw [←UInt8.xor_assoc,UInt8.xor_comm a b,UInt8.xor_assoc]
theorem x_of {a b:UInt8} (h:a ^^^ b=0):a=b:=by
 have:=congrArg (· ^^^ b) h
 simpa [UInt8.xor_assoc] using this
def Per (P:Nat) (x:Int→UInt8):Prop:=(∀ r s:Int,r % (P:Int)=s % (P:Int)→x r=x s)∧x (-1)=0
def tu (a:Int) (x:Int→UInt8) (r:Int):UInt8:=x (r - a) ^^^ x (-1 - a)
def st (a:Int) (x:Int→UInt8) (r:Int):UInt8:=x r ^^^ tu a x r
theorem mod_sub {P:Nat} {r s:Int} (h:r % (P:Int)=s % (P:Int)) (a:Int):(r - a) % (P:Int)=(s - a) % (P:Int):=by
 rw [Int.sub_emod,h,←Int.sub_emod]
theorem Per.tu {P:Nat} {x:Int→UInt8} (h:Per P x) (a:Int):Per P (tu a x) :=
 ⟨fun r s e=>by unfold Rg.tu;rw [h.1 _ _ (mod_sub e a)],by unfold Rg.tu;exact UInt8.xor_self⟩
theorem Per.add {P:Nat} {x y:Int→UInt8} (h:Per P x) (h':Per P y):Per P (fun r=>x r ^^^ y r) :=
 ⟨fun r s e=>by show x r ^^^ y r=x s ^^^ y s;rw [h.1 _ _ e,h'.1 _ _ e],by show x (-1) ^^^ y (-1)=0;rw [h.2,h'.2];rfl⟩
theorem Per.st {P:Nat} {x:Int→UInt8} (h:Per P x) (a:Int):Per P (st a x):=h.add (h.tu a)
theorem reach {P:Nat} (hp:(P:Int)∈prm) {a:Int} (ha:a % (P:Int)≠0) (r:Int):∃ m:Nat,r % (P:Int)=(-1+(m:Int) * a) % (P:Int):=by
 have hb:=prm_bounds hp
 have h0:=Int.emod_nonneg a (show (P:Int)≠0 by omega)
 have h1:=Int.emod_lt_of_pos a (show (0:Int)<P by omega)
 obtain ⟨i,_,_,hi⟩:=inv_ex (P:Int) hp (a % (P:Int)) h0 h1 ha
 have h2:=Int.emod_nonneg r (show (P:Int)≠0 by omega)
 have h3:=Int.emod_lt_of_pos r (show (0:Int)<P by omega)
 refine ⟨((r % (P:Int) - -1) % (P:Int) * i % (P:Int)).toNat,(walk_comes P (by omega) (-1) (r % (P:Int)) (a % (P:Int)) i hi h2 h3).symm.trans ?_⟩
 generalize ((r % (P:Int) - -1) % (P:Int) * i % (P:Int)).toNat=m
 unfold walkAt
 rw [Int.add_emod,Int.mul_emod,Int.emod_emod_of_dvd _ (Int.dvd_refl _),←Int.mul_emod,←Int.add_emod]
theorem prm_odd {P Q:Nat} (hQ:P=Q+1) (hp:(P:Int)∈prm):Q % 2=0:=by
 have h:∀ p∈prm,(p - 1) % 2=0:=by decide
 have:=h _ hp
 omega
theorem st_inj {P Q:Nat} (hQ:P=Q+1) (hp:(P:Int)∈prm) {a:Int} (ha:a % (P:Int)≠0) {x y:Int→UInt8} (hx:Per P x) (hy:Per P y) (h:∀ r,st a x r=st a y r) (r:Int):x r=y r:=by
 obtain ⟨E,hE⟩:∃ E:Int→UInt8,E=fun r=>x r ^^^ y r:=⟨_,rfl⟩
 have pE:Per P E:=by rw [hE];exact hx.add hy
 have e1:∀ r,E r=E (r - a) ^^^ E (-1 - a):=fun r=>by
  have:=h r
  unfold st tu at this
  apply x_of
  rw [hE]
  show (x r ^^^ y r) ^^^ ((x (r - a) ^^^ y (r - a)) ^^^ (x (-1 - a) ^^^ y (-1 - a)))=0
  have e:(x r ^^^ (x (r - a) ^^^ x (-1 - a))) ^^^ (y r ^^^ (y (r - a) ^^^ y (-1 - a)))=0:=by rw [this];exact UInt8.xor_self
  rw [←e]
  simp only [UInt8.xor_assoc,UInt8.xor_comm,xlc,xx,UInt8.xor_self,UInt8.xor_zero,UInt8.zero_xor]
 have e2:∀ m:Nat,E (-1+(m:Int) * a)=if m % 2=0 then 0 else E (-1 - a):=by
  intro m
  induction m with
  | zero=>rw [if_pos rfl];simpa using pE.2
  | succ m ih =>
    rw [e1,show -1+((m+1:Nat):Int) * a - a = -1+(m:Int) * a by rw [Int.natCast_add,Int.add_mul];omega,ih]
    rcases Nat.mod_two_eq_zero_or_one m with h2 | h2
    · rw [if_pos h2,if_neg (by omega),UInt8.zero_xor]
    · rw [if_neg (by omega),if_pos (by omega),UInt8.xor_self]
 have e3:E (-1 - a)=0:=by
  have:=e2 Q
  rw [if_pos (prm_odd hQ hp)] at this
  rw [←this]
  refine pE.1 _ _ ?_
  have hPz:(Q:Int)=(P:Int) - 1:=by omega
  rw [hPz,show -1+((P:Int) - 1) * a = -1 - a+(P:Int) * a by rw [Int.sub_mul];omega,Int.add_mul_emod_self_left]
 obtain ⟨m,hm⟩:=reach hp ha r
 have e4:E r=0:=by rw [pE.1 _ _ hm,e2,e3];split <;> rfl
 rw [hE] at e4
 exact x_of e4
def al (P:Nat) (x:Int→UInt8):UInt8:=xa ((List.range P).map fun i:Nat=>x (i:Int))
theorem st_slack {P:Nat} {x k:Int→UInt8} {b:Int} (hx:Per P x) (hk:Per P k) (h:∀ r,k r ^^^ k (r - b)=x r ^^^ al P x) (r:Int):st b k r=x r:=by
 have h1:=h (-1)
 rw [hk.2,hx.2,UInt8.zero_xor,UInt8.zero_xor] at h1
 unfold st tu
 rw [h1,←UInt8.xor_assoc,h,UInt8.xor_assoc,UInt8.xor_self,UInt8.xor_zero]
theorem tu_tu {P:Nat} {x:Int→UInt8} (a b:Int) (r:Int):tu b (tu a x) r=tu (a+b) x r:=by
 unfold tu
 rw [show r - b - a=r - (a+b) by omega,show -1 - b - a = -1 - (a+b) by omega]
 simp only [UInt8.xor_assoc,UInt8.xor_comm,xlc,xx,UInt8.xor_self,UInt8.xor_zero,UInt8.zero_xor]
theorem tu_add {x y:Int→UInt8} (a:Int) (r:Int):tu a (fun r=>x r ^^^ y r) r=tu a x r ^^^ tu a y r:=by
 unfold tu
 simp only [UInt8.xor_assoc,UInt8.xor_comm,xlc,xx,UInt8.xor_self,UInt8.xor_zero,UInt8.zero_xor]
def Bt (P Q n:Nat) (c:List (List UInt8)) (j:Nat) (r:Int):UInt8:=at_ (wholeF Q n c (r % (P:Int)).toNat) j
theorem at_nought (n j:Nat):at_ (List.replicate n 0) j=0:=by
 unfold at_
 rw [List.getElem?_replicate]
 split <;> rfl
theorem last_mod {P Q:Nat} (hQ:P=Q+1):(-1:Int) % (P:Int)=(Q:Int):=by
 rw [show (-1:Int)=(Q:Int)+(P:Int) * (-1) by omega,Int.add_mul_emod_self_left,Int.emod_eq_of_lt (by omega) (by omega)]
theorem Bt.per {P Q n:Nat} (hQ:P=Q+1) (c:List (List UInt8)) (j:Nat):Per P (Bt P Q n c j) :=
 ⟨fun r s e=>by unfold Bt;rw [e],by unfold Bt wholeF;rw [last_mod hQ,Int.toNat_natCast,if_neg (Nat.lt_irrefl _)];exact at_nought n j⟩
theorem row_lt {P Q:Nat} (hQ:P=Q+1) (r:Int):(∃ i:Nat,i<Q∧r % (P:Int)=(i:Int))∨r % (P:Int)=(-1) % (P:Int):=by
 have h2:=Int.emod_nonneg r (show (P:Int)≠0 by omega)
 have h3:=Int.emod_lt_of_pos r (show (0:Int)<P by omega)
 rw [last_mod hQ]
 by_cases h:r % (P:Int)=(Q:Int)
 · exact .inr h
 · exact .inl ⟨(r % (P:Int)).toNat,by omega,by omega⟩
theorem row_get (Q:Nat) (F:Nat→List UInt8) {i:Nat} (hi:i<Q):(((List.range Q).map F)[i]?).getD []=F i:=by
 rw [List.getElem?_map,List.getElem?_range hi]
 rfl
theorem made_good {Q n:Nat} (h1:1≤n) (h64:n≤64) (F:Nat→List UInt8) (hF:∀ i,i<Q→(F i).length=n):GoodC Q n ((List.range Q).map F) :=
 ⟨by simp,fun r hr=>by rw [row_get Q F hr];exact ⟨by unfold Cell;rw [hF r hr];exact ⟨h1,h64⟩,hF r hr⟩⟩
theorem bt_at {P Q n:Nat} (hQ:P=Q+1) (c:List (List UInt8)) (j:Nat) {i:Nat} (hi:i<Q) {r:Int} (hr:r % (P:Int)=(i:Int)):Bt P Q n c j r=at_ (c[i]?.getD []) j:=by
 unfold Bt wholeF
 rw [hr,Int.toNat_natCast,if_pos hi]
theorem bt_made {P Q n:Nat} (hQ:P=Q+1) (F:Nat→List UInt8) (j:Nat) (G:Int→UInt8) (hG:Per P G) (h:∀ i,i<Q→at_ (F i) j=G (i:Int)) (r:Int):Bt P Q n ((List.range Q).map F) j r=G r:=by
 rcases row_lt hQ r with ⟨i,hi,e⟩ | e
 · rw [bt_at hQ _ j hi e,row_get Q F hi,h i hi]
   exact hG.1 _ _ (by rw [e,Int.emod_eq_of_lt (by omega) (by omega)])
 · rw [(Bt.per hQ _ j).1 _ _ e,(Bt.per hQ _ j).2,hG.1 _ _ e,hG.2]
theorem col_ext {P Q n:Nat} (hQ:P=Q+1) {c d:List (List UInt8)} (hc:GoodC Q n c) (hd:GoodC Q n d) (h:∀ j r,Bt P Q n c j r=Bt P Q n d j r):c=d:=by
 refine List.ext_getElem? fun i=>?_
 by_cases hi:i<Q
 · have h1:(c[i]?.getD [])=(d[i]?.getD []):=ext_at ((hc.2 i hi).2.trans (hd.2 i hi).2.symm) fun j=>by
    have:=h j (i:Int)
    rwa [bt_at hQ c j hi (Int.emod_eq_of_lt (by omega) (by omega)),bt_at hQ d j hi (Int.emod_eq_of_lt (by omega) (by omega))] at this
   obtain ⟨u,hu⟩:∃ u,c[i]?=some u:=⟨_,List.getElem?_eq_getElem (by rw [hc.1];exact hi)⟩
   obtain ⟨v,hv⟩:∃ v,d[i]?=some v:=⟨_,List.getElem?_eq_getElem (by rw [hd.1];exact hi)⟩
   rw [hu,hv] at h1 ⊢
   exact congrArg some h1
 · rw [List.getElem?_eq_none (by rw [hc.1];omega),List.getElem?_eq_none (by rw [hd.1];omega)]
theorem whole_len {Q n:Nat} {c:List (List UInt8)} (hc:GoodC Q n c) (r:Nat):(wholeF Q n c r).length=n:=by
 unfold wholeF
 split
 · exact (hc.2 r ‹_›).2
 · simp
theorem mv_len {P Q n:Nat} {c:List (List UInt8)} (hc:GoodC Q n c) (b:Int) (r:Nat):(mvF P b (wholeF Q n c) r).length=n:=whole_len hc _
theorem at_mv {P Q n:Nat} (c:List (List UInt8)) (b:Int) (r j:Nat):at_ (mvF P b (wholeF Q n c) r) j=Bt P Q n c j ((r:Int) - b):=rfl
theorem at_two {n:Nat} {a b:List UInt8} (ha:a.length=n) (hb:b.length=n) (j:Nat):at_ (xorOf [a,b]) j=at_ a j ^^^ at_ b j:=by
 rw [at_xorOf (n:=n) (by simp) (by intro l hl;simp only [List.mem_cons,List.not_mem_nil,or_false] at hl;rcases hl with rfl | rfl <;> assumption)]
 simp [xa]
theorem len_two {n:Nat} {a b:List UInt8} (ha:a.length=n) (hb:b.length=n):(xorOf [a,b]).length=n :=
 xorOf_len_of (by simp) (by intro l hl;simp only [List.mem_cons,List.not_mem_nil,or_false] at hl;rcases hl with rfl | rfl <;> assumption)
theorem xorOf_one (a:List UInt8):xorOf [a]=a:=by
 refine ext_at (xorOf_len_of (by simp) (by simp)) fun j=>?_
 rw [at_xorOf (n:=a.length) (by simp) (by simp)]
 simp [xa]
def turnC (P Q n:Nat) (c:List (List UInt8)) (b:Int):List (List UInt8):=(List.range Q).map fun r=>xorOf [mvF P b (wholeF Q n c) r,mvF P b (wholeF Q n c) Q]
theorem turn_row (P Q n:Nat) (c:List (List UInt8)) (b:Int):rowK 1 Q (fun _ r=>xorOf [mvF P b (wholeF Q n c) r,mvF P b (wholeF Q n c) Q])=turnC P Q n c b:=by
 unfold rowK turnC
 refine List.map_congr_left fun r _=>?_
 exact xorOf_one _
theorem turn_good {P Q n:Nat} (h1:1≤n) (h64:n≤64) {c:List (List UInt8)} (hc:GoodC Q n c) (b:Int):GoodC Q n (turnC P Q n c b) :=
 made_good h1 h64 _ fun i _=>len_two (mv_len hc b i) (mv_len hc b Q)
theorem bt_turn {P Q n:Nat} (hQ:P=Q+1) {c:List (List UInt8)} (hc:GoodC Q n c) (b:Int) (j:Nat) (r:Int):Bt P Q n (turnC P Q n c b) j r=tu b (Bt P Q n c j) r:=by
 refine bt_made hQ _ j _ ((Bt.per hQ c j).tu b) (fun i hi=>?_) r
 rw [at_two (mv_len hc b i) (mv_len hc b Q),at_mv,at_mv]
 unfold tu
 rw [(Bt.per hQ c j).1 ((Q:Int) - b) (-1 - b) (mod_sub (by rw [last_mod hQ,Int.emod_eq_of_lt (by omega) (by omega)]) b)]
def strC (P Q n:Nat) (c:List (List UInt8)) (b:Int):List (List UInt8):=rowK 2 Q (fun i r=>if i=0 then xorOf [wholeF Q n c r,wholeF Q n c Q] else xorOf [mvF P b (wholeF Q n c) r,mvF P b (wholeF Q n c) Q])
theorem str_good {P Q n:Nat} (h1:1≤n) (h64:n≤64) {c:List (List UInt8)} (hc:GoodC Q n c) (b:Int):GoodC Q n (strC P Q n c b) :=
 made_good h1 h64 _ fun i _=>len_two (len_two (whole_len hc i) (whole_len hc Q)) (len_two (mv_len hc b i) (mv_len hc b Q))
theorem bt_str {P Q n:Nat} (hQ:P=Q+1) {c:List (List UInt8)} (hc:GoodC Q n c) (b:Int) (j:Nat) (r:Int):Bt P Q n (strC P Q n c b) j r=st b (Bt P Q n c j) r:=by
 refine bt_made hQ _ j _ ((Bt.per hQ c j).st b) (fun i hi=>?_) r
 show at_ (xorOf [xorOf [wholeF Q n c i,wholeF Q n c Q],xorOf [mvF P b (wholeF Q n c) i,mvF P b (wholeF Q n c) Q]]) j = _
 rw [at_two (len_two (whole_len hc i) (whole_len hc Q)) (len_two (mv_len hc b i) (mv_len hc b Q)),at_two (whole_len hc i) (whole_len hc Q),at_two (mv_len hc b i) (mv_len hc b Q),at_mv,at_mv]
 unfold st tu
 rw [(Bt.per hQ c j).1 ((Q:Int) - b) (-1 - b) (mod_sub (by rw [last_mod hQ,Int.emod_eq_of_lt (by omega) (by omega)]) b)]
 have e1:at_ (wholeF Q n c i) j=Bt P Q n c j (i:Int):=by unfold Bt;rw [Int.emod_eq_of_lt (by omega) (by omega),Int.toNat_natCast]
 have e2:at_ (wholeF Q n c Q) j=0:=by unfold wholeF;rw [if_neg (Nat.lt_irrefl _)];exact at_nought n j
 rw [e1,e2,UInt8.xor_zero]
theorem sum_good {Q n:Nat} (h1:1≤n) (h64:n≤64) {css:List (List (List UInt8))} (h0:0<css.length) (hc:∀ c∈css,GoodC Q n c):GoodC Q n (rowK css.length Q (fun i r=>(css[i]?.getD [])[r]?.getD [])):=by
 refine made_good h1 h64 _ fun r hr=>xorOf_len_of (by simpa using h0) fun l hl=>?_
 obtain ⟨i,hi,rfl⟩:=List.mem_map.1 hl
 have hi2:=List.mem_range.1 hi
 show ((css[i]?.getD [])[r]?.getD []).length=n
 rw [List.getElem?_eq_getElem hi2]
 exact ((hc _ (List.getElem_mem hi2)).2 r hr).2
theorem get_map {α β:Type} (l:List α) (d:α) (g:α→β):(List.range l.length).map (fun i=>g (l[i]?.getD d))=l.map g:=by
 refine List.ext_getElem? fun i=>?_
 rw [List.getElem?_map,List.getElem?_map]
 by_cases hi:i<l.length
 · rw [List.getElem?_range hi,List.getElem?_eq_getElem hi];simp [List.getElem?_eq_getElem hi]
 · rw [List.getElem?_eq_none (by simpa using Nat.le_of_not_lt hi),List.getElem?_eq_none (Nat.le_of_not_lt hi)];rfl
theorem xa_zero:∀ k:Nat,xa (List.replicate k 0)=0:=by
 intro k
 induction k with
 | zero=>rfl
 | succ k ih=>rw [List.replicate_succ,xa_cons,ih];rfl
theorem per_sum {P:Nat} {α:Type} (l:List α) (x:α→Int→UInt8) (h:∀ a∈l,Per P (x a)):Per P (fun r=>xa (l.map fun a=>x a r)):=by
 refine ⟨fun r s e=>?_,?_⟩
 · show xa _=xa _
   congr 1
   exact List.map_congr_left fun a ha=>(h a ha).1 _ _ e
 · show xa _=0
   rw [List.map_congr_left (g:=fun _=>(0:UInt8)) fun a ha=>(h a ha).2]
   rw [List.map_const']
   exact xa_zero _
theorem bt_sum {P Q n:Nat} (hQ:P=Q+1) {css:List (List (List UInt8))} (h0:0<css.length) (hc:∀ c∈css,GoodC Q n c) (j:Nat) (r:Int):Bt P Q n (rowK css.length Q (fun i r=>(css[i]?.getD [])[r]?.getD [])) j r=xa (css.map fun c=>Bt P Q n c j r):=by
 refine bt_made hQ _ j _ (per_sum css (fun c=>Bt P Q n c j) fun c _=>Bt.per hQ c j) (fun i hi=>?_) r
 rw [at_xorOf (n:=n) (by simpa using h0) (fun l hl=>by
  obtain ⟨k,hk,rfl⟩:=List.mem_map.1 hl
  have hi2:=List.mem_range.1 hk
  show ((css[k]?.getD [])[i]?.getD []).length=n
  rw [List.getElem?_eq_getElem hi2]
  exact ((hc _ (List.getElem_mem hi2)).2 i hi).2),List.map_map]
 congr 1
 rw [←get_map css [] (fun c=>Bt P Q n c j (i:Int))]
 refine List.map_congr_left fun k _=>?_
 exact (bt_at hQ _ j hi (Int.emod_eq_of_lt (by omega) (by omega))).symm
theorem rows_fin:∀ p∈prm,∀ s∈List.range 17,(s:Int)<p→s≠0→rowsF p (walkL p.toNat (p - 1) (s:Int))=(List.range (p - 1).toNat).map (fun k:Nat=>(p - 1+((k:Int)+1) * (s:Int)) % p):=by decide +kernel
theorem mul_mod (P:Nat) (x m b:Int):(x+m * (b % (P:Int))) % (P:Int)=(x+m * b) % (P:Int):=by
 rw [Int.add_emod,Int.mul_emod,Int.emod_emod_of_dvd _ (Int.dvd_refl _),←Int.mul_emod,←Int.add_emod]
theorem rows_are {P Q:Nat} (hQ:P=Q+1) (hp:(P:Int)∈prm) {b:Int} (hb:b % (P:Int)≠0):rowsF P (walkN P ((P:Int) - 1) b)=(List.range Q).map (fun k:Nat=>((P:Int) - 1+((k:Int)+1) * b) % (P:Int)):=by
 have hpb:=prm_bounds hp
 have h0:=Int.emod_nonneg b (show (P:Int)≠0 by omega)
 have h1:=Int.emod_lt_of_pos b (show (0:Int)<P by omega)
 obtain ⟨s,hs⟩:∃ s:Nat,b % (P:Int)=(s:Int):=⟨(b % (P:Int)).toNat,by omega⟩
 have h:=rows_fin _ hp s (List.mem_range.2 (by omega)) (by omega) (by omega)
 rw [walkN_yes (fine_one.2 ⟨hp,by omega,by omega⟩),hs,h,show ((P:Int) - 1).toNat=Q by omega]
 refine List.map_congr_left fun k _=>?_
 rw [←hs,mul_mod]
def sofar (P:Nat) (x:Int→UInt8) (b:Int) (m:Nat):UInt8:=xa ((List.range m).map fun k:Nat=>x (-1+((k:Int)+1) * b) ^^^ al P x)
theorem sofar_next (P:Nat) (x:Int→UInt8) (b:Int) (m:Nat):sofar P x b (m+1)=sofar P x b m ^^^ (x (-1+((m:Int)+1) * b) ^^^ al P x):=by
 unfold sofar
 rw [List.range_succ,List.map_append,xa_append]
 simp [xa]
theorem xa_xorc (l:List UInt8) (a:UInt8):xa (l.map fun x=>x ^^^ a)=xa l ^^^ (if l.length % 2=0 then 0 else a):=by
 induction l with
 | nil=>simp [xa]
 | cons y l ih =>
   rw [List.map_cons,xa_cons,xa_cons,ih,List.length_cons]
   rcases Nat.mod_two_eq_zero_or_one l.length with h2 | h2
   · rw [if_pos h2,if_neg (by omega)];simp only [UInt8.xor_assoc,UInt8.xor_comm,xlc,xx,UInt8.xor_self,UInt8.xor_zero,UInt8.zero_xor]
   · rw [if_neg (by omega),if_pos (by omega)];simp only [UInt8.xor_assoc,UInt8.xor_comm,xlc,xx,UInt8.xor_self,UInt8.xor_zero,UInt8.zero_xor]
theorem perm_fin:∀ p∈prm,∀ s∈List.range 17,(s:Int)<p→s≠0→((List.range p.toNat).map (fun k:Nat=>(-1+(k:Int) * (s:Int)) % p)).isPerm ((List.range p.toNat).map fun k:Nat=>(k:Int))=true:=by decide +kernel
theorem all_steps {P:Nat} (hp:(P:Int)∈prm) {b:Int} (hb:b % (P:Int)≠0) {x:Int→UInt8} (hx:Per P x):xa ((List.range P).map fun k:Nat=>x (-1+(k:Int) * b))=al P x:=by
 have hpb:=prm_bounds hp
 have h0:=Int.emod_nonneg b (show (P:Int)≠0 by omega)
 have h1:=Int.emod_lt_of_pos b (show (0:Int)<P by omega)
 obtain ⟨s,hs⟩:∃ s:Nat,b % (P:Int)=(s:Int):=⟨(b % (P:Int)).toNat,by omega⟩
 have h:=xa_perm ((List.isPerm_iff.1 (perm_fin _ hp s (List.mem_range.2 (by omega)) (by omega) (by omega))).map x)
 rw [Int.toNat_natCast,List.map_map,List.map_map] at h
 unfold al
 refine Eq.trans ?_ h
 congr 1
 refine List.map_congr_left fun k _=>?_
 refine hx.1 _ _ ?_
 rw [←hs,Int.emod_emod_of_dvd _ (Int.dvd_refl _),mul_mod]
theorem sofar_all {P Q:Nat} (hQ:P=Q+1) (hp:(P:Int)∈prm) {b:Int} (hb:b % (P:Int)≠0) {x:Int→UInt8} (hx:Per P x):sofar P x b Q=al P x:=by
 have h:=all_steps hp hb hx
 have hr:List.range P=0 :: (List.range Q).map Nat.succ:=by rw [hQ,List.range_succ_eq_map]
 rw [hr,List.map_cons,xa_cons,List.map_map] at h
 have e0:x (-1+((0:Nat):Int) * b)=0:=by rw [show -1+((0:Nat):Int) * b = -1 by simp];exact hx.2
 rw [e0,UInt8.zero_xor] at h
 unfold sofar
 have e:=xa_xorc ((List.range Q).map fun k:Nat=>x (-1+((k:Int)+1) * b)) (al P x)
 rw [List.map_map,List.length_map,List.length_range,if_pos (prm_odd hQ hp),UInt8.xor_zero] at e
 refine Eq.trans e (Eq.trans ?_ h)
 congr 1
theorem slack_steps {P Q:Nat} (hQ:P=Q+1) (hp:(P:Int)∈prm) {b:Int} (hb:b % (P:Int)≠0) {x k:Int→UInt8} (hx:Per P x) (hk:Per P k) (h:∀ m,m≤Q→k (-1+(m:Int) * b)=sofar P x b m) (r:Int):k r ^^^ k (r - b)=x r ^^^ al P x:=by
 obtain ⟨m0,hm0⟩:=reach hp hb r
 obtain ⟨m,hm,hmQ⟩:∃ m:Nat,r % (P:Int)=(-1+(m:Int) * b) % (P:Int)∧m≤Q:=by
  refine ⟨m0 % P,hm0.trans ?_,by have:=Nat.mod_lt m0 (show 0<P by omega);omega⟩
  have e:(m0:Int)=((m0 % P:Nat):Int)+(P:Int) * ((m0 / P:Nat):Int):=by rw [←Int.natCast_mul,←Int.natCast_add,Nat.mod_add_div]
  rw [e,Int.add_mul,←Int.add_assoc,Int.mul_assoc,Int.add_mul_emod_self_left]
 rw [hk.1 _ _ hm,hk.1 _ _ (mod_sub hm b),hx.1 _ _ hm]
 rcases m with _ | m
 · rw [show -1+((0:Nat):Int) * b - b = -1 - b by simp,show -1+((0:Nat):Int) * b = -1 by simp,hk.2,hx.2]
   have e:k (-1 - b)=sofar P x b Q:=by
    rw [←h Q (Nat.le_refl _)]
    refine hk.1 _ _ ?_
    rw [show (-1:Int)+(Q:Int) * b = -1 - b+(P:Int) * b by rw [hQ,Int.natCast_add,Int.add_mul];omega,Int.add_mul_emod_self_left]
   rw [e,sofar_all hQ hp hb hx]
 · rw [show -1+((m+1:Nat):Int) * b - b = -1+(m:Int) * b by rw [Int.natCast_add,Int.add_mul];omega,h _ hmQ,h _ (by omega),sofar_next,show ((m+1:Nat):Int)=(m:Int)+1 by omega]
   simp only [UInt8.xor_assoc,UInt8.xor_comm,xlc,xx,UInt8.xor_self,UInt8.xor_zero,UInt8.zero_xor]
theorem al_whole {P Q n:Nat} (hQ:P=Q+1) {c:List (List UInt8)} (hc:GoodC Q n c) (j:Nat):at_ (xorOf ((List.range P).map (wholeF Q n c))) j=al P (Bt P Q n c j):=by
 rw [at_xorOf (n:=n) (by simp;omega) (fun l hl=>by obtain ⟨i,_,rfl⟩:=List.mem_map.1 hl;exact whole_len hc i),List.map_map]
 unfold al
 congr 1
 refine List.map_congr_left fun i hi=>?_
 have:=List.mem_range.1 hi
 show at_ (wholeF Q n c i) j = _
 unfold Bt
 rw [Int.emod_eq_of_lt (by omega) (by omega),Int.toNat_natCast]
theorem whole_all_len {P Q n:Nat} (hQ:P=Q+1) {c:List (List UInt8)} (hc:GoodC Q n c):(xorOf ((List.range P).map (wholeF Q n c))).length=n :=
 xorOf_len_of (by simp;omega) (fun l hl=>by obtain ⟨i,_,rfl⟩:=List.mem_map.1 hl;exact whole_len hc i)
theorem hld_at {P Q n:Nat} (hQ:P=Q+1) {c:List (List UInt8)} (hc:GoodC Q n c) (b:Int) (j:Nat):∀ m:Nat,at_ (hld (wholeF Q n c) (wholeF Q n c Q) (xorOf ((List.range P).map (wholeF Q n c))) ((List.range m).map (fun k:Nat=>((P:Int) - 1+((k:Int)+1) * b) % (P:Int)))) j=sofar P (Bt P Q n c j) b m:=by
 intro m
 induction m with
 | zero=>show at_ (wholeF Q n c Q) j = _;unfold wholeF;rw [if_neg (Nat.lt_irrefl _)];exact at_nought n j
 | succ m ih =>
   rw [List.range_succ,List.map_append,List.map_cons,List.map_nil,hld_snoc,at_two (hld_len (whole_len hc Q) _) (len_two (whole_len hc _) (whole_all_len hQ hc)),at_two (whole_len hc _) (whole_all_len hQ hc),ih,sofar_next,al_whole hQ hc]
   congr 2
   show Bt P Q n c j ((P:Int) - 1+((m:Int)+1) * b) = _
   refine (Bt.per hQ c j).1 _ _ ?_
   rw [show (P:Int) - 1+((m:Int)+1) * b=(-1+((m:Int)+1) * b)+(P:Int) * 1 by omega,Int.add_mul_emod_self_left]
theorem slack_good {P Q n:Nat} (hQ:P=Q+1) (h1:1≤n) (h64:n≤64) {c:List (List UInt8)} (hc:GoodC Q n c) (b:Int):GoodC Q n (slackL P Q (wholeF Q n c) b) :=
 made_good h1 h64 _ fun i _=>hld_len (whole_len hc Q) _
theorem idx_map {α:Type} [BEq α] [LawfulBEq α]:∀ (l:List α),l.Nodup→∀ m (hm:m<l.length),l.idxOf l[m]=m:=by
 intro l
 induction l with
 | nil=>intro _ m hm;simp at hm
 | cons a l ih =>
   intro hn m hm
   rw [List.nodup_cons] at hn
   rcases m with _ | m
   · simp
   · rw [List.idxOf_cons]
     have:(a == (a :: l)[m+1])=false:=by
      rw [beq_eq_false_iff_ne]
      intro e
      exact hn.1 (by rw [e];simp)
     rw [this]
     simp only [List.getElem_cons_succ,cond_false]
     rw [ih hn.2 m (by simpa using hm)]
theorem bt_slack {P Q n:Nat} (hQ:P=Q+1) (hp:(P:Int)∈prm) {c:List (List UInt8)} (hc:GoodC Q n c) {b:Int} (hb:b % (P:Int)≠0) (j:Nat) (r:Int) :
 Bt P Q n (slackL P Q (wholeF Q n c) b) j r ^^^ Bt P Q n (slackL P Q (wholeF Q n c) b) j (r - b)=Bt P Q n c j r ^^^ al P (Bt P Q n c j):=by
 obtain ⟨h1,h2,h3⟩:=slack_rows P Q hQ hp b hb
 refine slack_steps hQ hp hb (Bt.per hQ c j) (Bt.per hQ _ j) (fun m hm=>?_) r
 rcases m with _ | m
 · rw [show -1+((0:Nat):Int) * b = -1 by simp,(Bt.per hQ _ j).2];rfl
 · rw [rows_are hQ hp hb] at h1 h3
   have hl:m<((List.range Q).map (fun k:Nat=>((P:Int) - 1+((k:Int)+1) * b) % (P:Int))).length:=by simp;omega
   have hg:((List.range Q).map (fun k:Nat=>((P:Int) - 1+((k:Int)+1) * b) % (P:Int)))[m]=((P:Int) - 1+((m:Int)+1) * b) % (P:Int):=by simp
   have hi:=idx_map _ h1 m hl
   rw [hg] at hi
   have h4:=h3 (((P:Int) - 1+((m:Int)+1) * b) % (P:Int)) (by rw [←hg];exact List.getElem_mem hl)
   obtain ⟨i,hiQ⟩:∃ i:Nat,((P:Int) - 1+((m:Int)+1) * b) % (P:Int)=(i:Int):=⟨(((P:Int) - 1+((m:Int)+1) * b) % (P:Int)).toNat,by omega⟩
   have hi3:i<Q:=by omega
   have e:(-1+((m+1:Nat):Int) * b) % (P:Int)=(i:Int):=by
    rw [←hiQ,show (P:Int) - 1+((m:Int)+1) * b=(-1+((m+1:Nat):Int) * b)+(P:Int) * 1 by rw [show ((m+1:Nat):Int)=(m:Int)+1 by omega];omega,Int.add_mul_emod_self_left]
   rw [bt_at hQ _ j hi3 e]
   unfold slackL
   rw [row_get Q _ hi3,rows_are hQ hp hb,←hiQ,hi,←List.map_take,List.take_range,Nat.min_eq_left (by omega)]
   exact hld_at hQ hc b j (m+1)
theorem str_slack {P Q n:Nat} (hQ:P=Q+1) (hp:(P:Int)∈prm) (h1:1≤n) (h64:n≤64) {c:List (List UInt8)} (hc:GoodC Q n c) {b:Int} (hb:b % (P:Int)≠0):strC P Q n (slackL P Q (wholeF Q n c) b) b=c:=by
 have hg:=slack_good hQ h1 h64 hc b
 refine col_ext hQ (str_good h1 h64 hg b) hc fun j r=>?_
 rw [bt_str hQ hg]
 exact st_slack (Bt.per hQ c j) (Bt.per hQ _ j) (fun r=>bt_slack hQ hp hc hb j r) r
def sumC (Q:Nat) (css:List (List (List UInt8))):List (List UInt8):=rowK css.length Q (fun i r=>(css[i]?.getD [])[r]?.getD [])
end Go.Proofs.YtkllhjhkcipkoaaGreatDoor.Rg

namespace Go.Proofs.YtkllhjhkcipkoaaGreatDoor.Rg
open Go.RowKit Go.Shelf Go.Proofs.YtkllhjhkcipkoaaGreatDoor.C Go.Proofs.YtkllhjhkcipkoaaGreatDoor.E
attribute [local go_sem] Oper.semAt_some

theorem cols_one {W:World} {B g:Nat} {va:Value} {a:List (List UInt8)} (h:Blk W g 41 #[va]) (h1:Many B W va a) (hg:g<B):Cols B W (.slice (some ⟨g,0,none⟩) 1 1) [a]:=by
 obtain ⟨A,cap,rfl,_,_⟩:=id h1
 exact ⟨some ⟨g,0,none⟩,1,rfl,Nat.le_refl _,fun _=>⟨g,0,rfl,hg,fun j hj=>by
  obtain rfl:j=0:=(by have:j<1:=hj;omega)
  exact ⟨_,h.cell 0,h1⟩⟩⟩
theorem cols_two {W:World} {B g:Nat} {va vb:Value} {a b:List (List UInt8)} (h:Blk W g 41 #[va,vb]) (h1:Many B W va a) (h2:Many B W vb b) (hg:g<B):Cols B W (.slice (some ⟨g,0,none⟩) 2 2) [a,b]:=by
 obtain ⟨A,cap,rfl,_,_⟩:=id h1
 obtain ⟨A',cap',rfl,_,_⟩:=id h2
 exact ⟨some ⟨g,0,none⟩,2,rfl,Nat.le_refl _,fun _=>⟨g,0,rfl,hg,fun j hj=>by
  have hj2:j=0∨j=1:=(by have:j<2:=hj;omega)
  rcases hj2 with rfl | rfl
  · exact ⟨_,h.cell 0,h1⟩
  · exact ⟨_,h.cell 1,h2⟩⟩⟩
theorem right_yes {p:Int} {css:List (List (List UInt8))} (h:RightD p css) (h0:0<css.length):∃ P Q n:Nat,p=(P:Int)∧P=Q+1∧(P:Int)∈prm∧1≤n∧n≤64∧(firstC css).length=n∧∀ j,j<css.length→GoodC Q n (css[j]?.getD []):=by
 have hb:=prm_bounds h.1
 have hg:=(rightD_iff h.1 h0).1 h
 obtain ⟨P,rfl⟩:∃ P:Nat,p=(P:Int):=⟨p.toNat,by omega⟩
 have h1:=((hg 0 h0).2 0 (by omega))
 refine ⟨P,P - 1,_,rfl,by omega,h.1,?_,?_,rfl,fun j hj=>?_⟩
 · rw [←h1.2];exact h1.1.1
 · rw [←h1.2];exact h1.1.2
 · have:=hg j hj
   rwa [show ((P:Int) - 1).toNat=P - 1 by omega] at this
theorem right_of_good {P Q n:Nat} (hQ:P=Q+1) (hp:(P:Int)∈prm) {css:List (List (List UInt8))} (h0:0<css.length) (hg:∀ j,j<css.length→GoodC Q n (css[j]?.getD [])):RightD (P:Int) css∧(firstC css).length=n:=by
 have hb:=prm_bounds hp
 have hf:(firstC css).length=n:=by
  have:=((hg 0 h0).2 0 (by omega)).2
  unfold firstC
  exact this
 refine ⟨(rightD_iff hp h0).2 fun j hj=>?_,hf⟩
 rw [hf,show ((P:Int) - 1).toNat=Q by omega]
 exact hg j hj
theorem ok_of {P Q n:Nat} (hQ:P=Q+1) (hp:(P:Int)∈prm) (h1:1≤n) (h64:n≤64) {c:List (List UInt8)} (hc:GoodC Q n c):ColOk P n c:=⟨hp,by rw [show P - 1=Q by omega];exact hc,h1,h64⟩
structure Dims (P Q n:Nat):Prop where
 hQ:P=Q+1
 hp:(P:Int)∈prm
 h1:1≤n
 h64:n≤64
variable {P Q n:Nat}
theorem sameY (d:Dims P Q n) (c e:List (List UInt8)) (hc:GoodC Q n c) (he:c=e) (u v:Value) (w:World) (h1:Many w.heap.size w u c) (h2:Many w.heap.size w v e) :
 Calls Tryz.prog 21 #[u,v] w fun e w'=>e = .returned (.bool true)∧Below w.heap.size w w':=by
 have hl:Q≤100000:=by have:=prm_bounds d.hp;have:=d.hQ;omega
 have h:=sameCol_any u v c e w h1 h2 (by rw [hc.1];exact hl) (by rw [←he,hc.1];exact hl)
 rwa [show decide (c=e)=true by simpa using he] at h
end Go.Proofs.YtkllhjhkcipkoaaGreatDoor.Rg

namespace Go.Proofs.YtkllhjhkcipkoaaGreatDoor.Ch
open Go.RowKit Go.Shelf Go.Proofs.YtkllhjhkcipkoaaGreatDoor.C Go.Proofs.YtkllhjhkcipkoaaGreatDoor.E Go.Proofs.YtkllhjhkcipkoaaGreatDoor.Rg

theorem xa_add {α:Type} (l:List α) (f g:α→UInt8):xa (l.map fun x=>f x ^^^ g x)=xa (l.map f) ^^^ xa (l.map g):=by
 induction l with
 | nil=>simp [xa_nil]
 | cons a l ih =>
   rw [List.map_cons,List.map_cons,List.map_cons,xa_cons,xa_cons,xa_cons,ih]
   simp only [UInt8.xor_assoc,UInt8.xor_comm,xlc,xx,UInt8.xor_self,UInt8.xor_zero,UInt8.zero_xor]
theorem xa_filter {α:Type} (l:List α) (q:α→Bool) (f:α→UInt8):xa ((l.filter q).map f)=xa (l.map fun x=>if q x then f x else 0):=by
 induction l with
 | nil=>rfl
 | cons a l ih =>
   rw [List.filter_cons,List.map_cons,xa_cons]
   by_cases h:q a=true
   · rw [if_pos h,List.map_cons,xa_cons,ih,if_pos h]
   · rw [if_neg h,if_neg h,ih,UInt8.zero_xor]
section
variable {P Q:Nat} {A B R D:Int→UInt8} {a b:Int}
theorem tu_zero {X:Int→UInt8} (hX:X (-1)=0) (r:Int):tu 0 X r=X r:=by
 unfold tu
 rw [Int.sub_zero,Int.sub_zero,hX,UInt8.xor_zero]
end
/- The columns that EVENODD makes,byte by byte. -/
section
variable {P Q n:Nat} {css:List (List (List UInt8))}
theorem good_of (d:Dims P Q n) (hok:DataOk (P:Int) css) (hn:(firstC css).length=n) (c:Nat) (hc:c<P):GoodC Q n (css[c]?.getD []):=by
 have hQ:=d.hQ
 have hl:=(dataOk_n hok).1
 have h0:0<css.length:=by omega
 have hr:RightD (P:Int) css:=⟨d.hp,hok.2.2⟩
 have:=(rightD_iff d.hp h0).1 hr c (by omega)
 rwa [hn,show ((P:Int) - 1).toNat=Q by omega] at this
theorem by_bt (d:Dims P Q n) (c r j:Nat) (hr:r<Q):by_ css j c r=Bt P Q n (css[c]?.getD []) j (r:Int):=by
 have hQ:=d.hQ
 rw [bt_at hQ _ j hr (Int.emod_eq_of_lt (by omega) (by omega))]
 rfl
theorem bt_rows (d:Dims P Q n) (hok:DataOk (P:Int) css) (hn:(firstC css).length=n) (j:Nat) (r:Int):Bt P Q n (rowsMade Q css) j r=xa ((List.range P).map fun c:Nat=>Bt P Q n (css[c]?.getD []) j r):=by
 have hQ:=d.hQ
 refine bt_made hQ _ j _ (per_sum _ (fun c:Nat=>Bt P Q n (css[c]?.getD []) j) fun c _=>Bt.per hQ _ j) (fun i hi=>?_) r
 rw [at_row hok (by omega)]
 rw [show (P:Int).toNat=P from Int.toNat_natCast P]
 congr 1
 exact List.map_congr_left fun c _=>by_bt d c i j hi
theorem dg_bt (d:Dims P Q n) (j:Nat) (k:Int):dg_ (P:Int) css j k=xa ((List.range P).map fun c:Nat=>Bt P Q n (css[c]?.getD []) j (k - (c:Int))):=by
 have hQ:=d.hQ
 unfold dg_ diagAt
 rw [List.map_map,xa_filter,show (P:Int).toNat=P from Int.toNat_natCast P]
 congr 1
 refine List.map_congr_left fun c _=>?_
 show (if decide ((k - (c:Int)) % (P:Int)<(P:Int) - 1) then by_ css j c ((k - (c:Int)) % (P:Int)).toNat else 0) = _
 rcases row_lt hQ (k - (c:Int)) with ⟨i,hi,e⟩ | e
 · rw [e,if_pos (by simp;omega),Int.toNat_natCast,by_bt d c i j hi]
   exact (Bt.per hQ _ j).1 _ _ (by rw [e,Int.emod_eq_of_lt (by omega) (by omega)])
 · rw [(Bt.per hQ _ j).1 _ _ e,(Bt.per hQ _ j).2,e,last_mod hQ,if_neg (by simp;omega)]
theorem bt_diags (d:Dims P Q n) (hok:DataOk (P:Int) css) (hn:(firstC css).length=n) (j:Nat) (r:Int):Bt P Q n (diagsMade (P:Int) Q css) j r=xa ((List.range P).map fun c:Nat=>tu (c:Int) (Bt P Q n (css[c]?.getD []) j) r):=by
 have hQ:=d.hQ
 refine bt_made hQ _ j _ (per_sum _ (fun c:Nat=>tu (c:Int) (Bt P Q n (css[c]?.getD []) j)) fun c _=>(Bt.per hQ _ j).tu _) (fun i hi=>?_) r
 rw [at_diagMade hok (by omega),dg_bt d,dg_bt d,←xa_add]
 congr 1
 refine List.map_congr_left fun c _=>?_
 unfold tu
 rw [UInt8.xor_comm]
 congr 1
 exact (Bt.per hQ _ j).1 _ _ (mod_sub (by rw [last_mod hQ,show (P:Int) - 1=(Q:Int) by omega,Int.emod_eq_of_lt (by omega) (by omega)]) _)
theorem rowsMade_good (d:Dims P Q n) (hok:DataOk (P:Int) css) (hn:(firstC css).length=n):GoodC Q n (rowsMade Q css) :=
 made_good d.h1 d.h64 _ fun i hi=>by have hQ:=d.hQ;rw [row_len hok (by omega),hn]
theorem diagsMade_good (d:Dims P Q n) (hok:DataOk (P:Int) css) (hn:(firstC css).length=n):GoodC Q n (diagsMade (P:Int) Q css) :=
 made_good d.h1 d.h64 _ fun i hi=>by have hQ:=d.hQ;rw [diag_len hok (by omega),hn]
end
/- Two columns put upon one another. -/
section
variable {P Q n:Nat} {c e:List (List UInt8)}
theorem sum2_good (d:Dims P Q n) (hc:GoodC Q n c) (he:GoodC Q n e):GoodC Q n (sumC Q [c,e]) :=
 sum_good d.h1 d.h64 (by simp) (by intro x hx;simp only [List.mem_cons,List.not_mem_nil,or_false] at hx;rcases hx with rfl | rfl <;> assumption)
theorem bt_sum2 (d:Dims P Q n) (hc:GoodC Q n c) (he:GoodC Q n e) (j:Nat) (r:Int):Bt P Q n (sumC Q [c,e]) j r=Bt P Q n c j r ^^^ Bt P Q n e j r:=by
 refine (bt_sum d.hQ (css:=[c,e]) (by simp) (by intro x hx;simp only [List.mem_cons,List.not_mem_nil,or_false] at hx;rcases hx with rfl | rfl <;> assumption) j r).trans ?_
 simp only [List.map_cons,List.map_nil,xa_cons,xa_nil,UInt8.xor_zero]
end
def noC (Q n:Nat):List (List UInt8):=List.replicate Q (List.replicate n 0)
theorem noC_good {Q n:Nat} (h1:1≤n) (h64:n≤64):GoodC Q n (noC Q n):=by
 refine ⟨by unfold noC;simp,fun r hr=>?_⟩
 unfold noC
 rw [List.getElem?_replicate,if_pos hr]
 exact ⟨by unfold Cell;simp;exact ⟨h1,h64⟩,by simp⟩
theorem bt_noC {P Q n:Nat} (hQ:P=Q+1) (j:Nat) (r:Int):Bt P Q n (noC Q n) j r=0:=by
 unfold Bt wholeF noC
 split
 · rw [List.getElem?_replicate]
   split <;> exact at_nought _ _
 · exact at_nought _ _
end Go.Proofs.YtkllhjhkcipkoaaGreatDoor.Ch

namespace Go.Proofs.YtkllhjhkcipkoaaGreatDoor.Ch
open Go.RowKit Go.Shelf Go.Proofs.YtkllhjhkcipkoaaGreatDoor.C Go.Proofs.YtkllhjhkcipkoaaGreatDoor.E
attribute [local go_sem] Oper.semAt_some

def kept (L:List Int) (css:List (List (List UInt8))) (k:Nat):List (List (List UInt8)):=((List.range k).filter fun i:Nat=>decide ¬((i:Int)∈L)).map fun i=>css[i]?.getD []
theorem kept_len (L:List Int) (css:List (List (List UInt8))) (k:Nat):(kept L css k).length≤k:=by
 unfold kept
 rw [List.length_map]
 refine Nat.le_trans (List.length_filter_le _ _) ?_
 simp
def lostC (L:List Int) (Q n:Nat) (css:List (List (List UInt8))):List (List (List UInt8)):=(List.range css.length).map fun i:Nat=>if (i:Int)∈L then noC Q n else css[i]?.getD []
theorem lostC_len (L:List Int) (Q n:Nat) (css:List (List (List UInt8))):(lostC L Q n css).length=css.length:=by unfold lostC;simp
theorem lostC_at (L:List Int) (Q n:Nat) (css:List (List (List UInt8))) {i:Nat} (hi:i<css.length):(lostC L Q n css)[i]?.getD []=if (i:Int)∈L then noC Q n else css[i]?.getD []:=by
 unfold lostC
 rw [List.getElem?_map,List.getElem?_range hi]
 rfl
end Go.Proofs.YtkllhjhkcipkoaaGreatDoor.Ch

namespace Go.Proofs.YtkllhjhkcipkoaaGreatDoor.Ch
open Go.RowKit Go.Shelf Go.Proofs.YtkllhjhkcipkoaaGreatDoor.C Go.Proofs.YtkllhjhkcipkoaaGreatDoor.E
attribute [local go_sem] Oper.semAt_some

theorem many2 {W:World} {B g:Nat} {t:TypeId} {ua ub:Value} {la lb:List UInt8} (h:Blk W g t #[ua,ub]) (ha:Bytes B W ua la) (hb:Bytes B W ub lb) (hg:g<B):Many B W (.slice (some ⟨g,0,none⟩) 2 2) [la,lb] :=
 ⟨_,2,rfl,Nat.le_refl _,fun _=>⟨g,0,rfl,hg,fun j hj=>by
  have hj2:j=0∨j=1:=by simp at hj;omega
  rcases hj2 with rfl | rfl
  · exact ⟨ua,h.cell 0,ha⟩
  · exact ⟨ub,h.cell 1,hb⟩⟩⟩
def rsF (P Q:Nat) (css:List (List (List UInt8))):List (List UInt8):=Rg.sumC Q [css[P]?.getD [],rowsMade Q (css.take P)]
def dsF (P Q:Nat) (css:List (List (List UInt8))):List (List UInt8):=Rg.sumC Q [css[P+1]?.getD [],diagsMade (P:Int) Q (css.take P)]
theorem take_ok {P Q n N:Nat} (d:Rg.Dims P Q n) {css:List (List (List UInt8))} (hN:N=P+2) (hcl:css.length=N) (hg:∀ c,c<N→GoodC Q n (css[c]?.getD [])):DataOk (P:Int) (css.take P)∧(firstC (css.take P)).length=n:=by
 have hQ:=d.hQ
 have hpb:=prm_bounds d.hp
 have hdl:(css.take P).length=P:=by rw [List.length_take];omega
 have hget:∀ c,c<P→(css.take P)[c]?.getD []=css[c]?.getD []:=fun c hc=>by rw [List.getElem?_take,if_pos hc]
 have hgd:∀ c,c<(css.take P).length→GoodC Q n ((css.take P)[c]?.getD []):=fun c hc=>by rw [hget c (by omega)];exact hg c (by omega)
 obtain ⟨hRD,hfn⟩:=Rg.right_of_good d.hQ d.hp (by omega) hgd
 exact ⟨⟨rightC1 d.hp,by rw [hdl],hRD.2⟩,hfn⟩
theorem rd_good {P Q n N:Nat} (d:Rg.Dims P Q n) {css:List (List (List UInt8))} (hN:N=P+2) (hcl:css.length=N) (hg:∀ c,c<N→GoodC Q n (css[c]?.getD [])):GoodC Q n (rsF P Q css)∧GoodC Q n (dsF P Q css) :=
 have h:=take_ok d hN hcl hg
 ⟨sum2_good d (hg P (by omega)) (rowsMade_good d h.1 h.2),sum2_good d (hg (P+1) (by omega)) (diagsMade_good d h.1 h.2)⟩
theorem whole_len {Q n:Nat} {D:List (List UInt8)} (hD:GoodC Q n D) (z:Nat):(Rg.wholeF Q n D z).length=n:=by
 unfold Rg.wholeF
 split
 · exact (hD.2 z (by assumption)).2
 · simp
end Go.Proofs.YtkllhjhkcipkoaaGreatDoor.Ch

namespace Go.Proofs.YtkllhjhkcipkoaaGreatDoor.Ch
open Go.RowKit Go.Shelf Go.Proofs.YtkllhjhkcipkoaaGreatDoor.C Go.Proofs.YtkllhjhkcipkoaaGreatDoor.E Go.Proofs.YtkllhjhkcipkoaaGreatDoor.T
attribute [local go_sem] Oper.semAt_some

def Closed (md:Region.Mode) (ops:Array Oper) (listed:Array Bool):Prop:=∀ (j:Nat) (oj:Oper),ops[j]?=some oj→listed.getD j false=true→∀ e∈oj.after,Region.binds md e=true→listed.getD e.on false=true
theorem Closed.set_ {md:Region.Mode} {ops:Array Oper} {listed:Array Bool} (hc:Closed md ops listed) {j:Nat} (hr:j∈Region.ready md ops listed):Closed md ops (listed.setIfInBounds j true):=by
 obtain ⟨hjun,oj,hoj,hall⟩:=mem_ready.1 hr
 have key:∀ x,listed.getD x false=true→(listed.setIfInBounds j true).getD x false=true:=fun x hx=>by
  by_cases hjx:j=x
  · subst hjx
    rcases Nat.lt_or_ge j listed.size with h' | h'
    · simp [h']
    · simp [Array.getElem?_eq_none h'] at hx
  · rw [getD_set_ne false hjx];exact hx
 intro x ox hox hx e he hb
 by_cases hjx:j=x
 · subst hjx
   rw [hoj] at hox
   injection hox with hox
   subst hox
   exact key _ (hall e he hb)
 · rw [getD_set_ne false hjx] at hx
   exact key _ (hc x ox hox hx e he hb)
section
variable {F:Fence} {n:Nat} {P:Program} {md:Region.Mode} {ops:Array Oper} {Q:Exit→Act→World→Prop} {S:World→Prop} {m:Nat}
end
end Go.Proofs.YtkllhjhkcipkoaaGreatDoor.Ch

namespace Go.Proofs.YtkllhjhkcipkoaaGreatDoor.T
open Go.RowKit Go.Shelf Go.Maps Go.Proofs.YtkllhjhkcipkoaaGreatDoor.C Go.Proofs.YtkllhjhkcipkoaaGreatDoor.E Go.Proofs.YtkllhjhkcipkoaaGreatDoor.Ch
attribute [local go_sem] Oper.semAt_some

theorem cells_of {w:World} {p:Addr} {v:Value} (h:w.cell? p=some v):∃ cs t fr,w.heap[p.block]?=some (.cells cs t fr):=by
 unfold World.cell? at h
 split at h
 · rename_i c t fr he
   exact ⟨c,t,fr,he⟩
 · cases h
end Go.Proofs.YtkllhjhkcipkoaaGreatDoor.T

namespace Go.Proofs.YtkllhjhkcipkoaaGreatDoor.T
open Go.RowKit Go.Shelf Go.Maps Go.Proofs.YtkllhjhkcipkoaaGreatDoor.C Go.Proofs.YtkllhjhkcipkoaaGreatDoor.E Go.Proofs.YtkllhjhkcipkoaaGreatDoor.Ch
attribute [local go_sem] Oper.semAt_some

theorem RowG.impR {α:Type} {r:Rep α} {t:TypeId} {d:α} {Q Q2:Nat→Prop} {W:World} {base:Nat} {v:Value} {xs:List α} (h:RowG r t d Q W base v xs) (hq:∀ b,Q b→Q2 b):RowG r t d Q2 W base v xs:=by
 obtain ⟨us,ho,hn,hr⟩:=h
 exact ⟨us,ho,hn,fun j u hu=>r.imp (hr j u hu) fun b hb=>⟨hb.1,hb.2.1,hq b hb.2.2⟩⟩
theorem RowG.formR {α:Type} {r:Rep α} {t:TypeId} {d:α} {Q:Nat→Prop} {W:World} {base:Nat} {v:Value} {xs:List α} (h:RowG r t d Q W base v xs):∃ A n c,v = .slice A n c:=by
 obtain ⟨us,ho,_⟩:=h
 rcases ho.2 with ⟨h1,_⟩ | ⟨g,cap,cur,h1,_⟩
 · exact ⟨_,_,_,h1⟩
 · exact ⟨_,_,_,h1⟩
theorem RowG.ownCells {α:Type} {r:Rep α} {t:TypeId} {d:α} {Q:Nat→Prop} {W:World} {base:Nat} {v:Value} {xs:List α} (h:RowG r t d Q W base v xs) {b:Nat} (hb:v.ownBlock=some b):∃ cs t fr,W.heap[b]?=some (.cells cs t fr):=by
 obtain ⟨us,ho,_⟩:=h
 rcases ho.2 with ⟨rfl,_⟩ | ⟨g,cap,cur,rfl,_,hg,_⟩
 · cases hb
 · injection hb with hb
   have e':g=b:=hb
   subst e'
   exact ⟨_,_,_,hg⟩
theorem RowG.farR {α:Type} {r:Rep α} {t:TypeId} {d:α} {Q:Nat→Prop} {W:World} {base:Nat} {v:Value} {xs:List α} (h:RowG r t d Q W base v xs) {p:Addr} (hp:some p.block≠v.ownBlock) (hq:∀ b,Q b→b≠p.block) (u:Value):RowG r t d Q (W.setCell p u) base v xs:=by
 obtain ⟨us,ho,hn,hr⟩:=h
 refine ⟨us,⟨ho.1,?_⟩,hn,fun j y hy=>?_⟩
 · rcases ho.2 with h1 | ⟨g,cap,cur,e,h2,hg,rest⟩
   · exact .inl h1
   · exact .inr ⟨g,cap,cur,e,h2,(Below.heap_setCell W p u g (fun e2=>hp (by rw [e,←e2];rfl))).trans hg,rest⟩
 · exact r.imp (r.keep (hr j y hy) fun b hb=>Below.heap_setCell W p u b (hq b hb.2.2)) fun b hb=>⟨by simpa using hb.1,hb.2⟩
theorem RowG.moved {α:Type} {r:Rep α} {t:TypeId} {d:α} {Q:Nat→Prop} {W W':World} {base:Nat} {v:Value} {xs:List α} (h:RowG r t d Q W base v xs) (hs:W.heap.size≤W'.heap.size) (hk:∀ b,b<W.heap.size→(v.ownBlock=some b∨Q b)→W'.heap[b]?=W.heap[b]?):RowG r t d Q W' base v xs:=by
 obtain ⟨us,ho,hn,hr⟩:=h
 refine ⟨us,⟨ho.1,?_⟩,hn,fun j y hy=>?_⟩
 · rcases ho.2 with h1 | ⟨g,cap,cur,e,h2,hg,rest⟩
   · exact .inl h1
   · exact .inr ⟨g,cap,cur,e,h2,(hk g (Array.getElem?_eq_some_iff.1 hg).1 (.inl (by rw [e];rfl))).trans hg,rest⟩
 · exact r.imp (r.keep (hr j y hy) fun b hb=>hk b hb.1 (.inr hb.2.2)) fun b hb=>⟨Nat.lt_of_lt_of_le hb.1 hs,hb.2⟩
end Go.Proofs.YtkllhjhkcipkoaaGreatDoor.T

namespace Go.Proofs.YtkllhjhkcipkoaaGreatDoor.T
open Go.RowKit Go.Shelf Go.Maps Go.Proofs.YtkllhjhkcipkoaaGreatDoor.C Go.Proofs.YtkllhjhkcipkoaaGreatDoor.E Go.Proofs.YtkllhjhkcipkoaaGreatDoor.Ch
attribute [local go_sem] Oper.semAt_some

theorem made_rep (n:Nat):madeCells (Value.slice none 0 0).cells n=Array.replicate n (.slice none 0 0):=Array.ext (by simp [madeCells]) fun k h1 h2=>by simp [madeCells,Value.cells,Nat.mod_one]
theorem mk2_any:∀ W:World,(Instr.makeSlice 22 (.int .i64 2) (.int .i64 2)).run Tryz.prog W = .ok (.slice (some ⟨W.heap.size,0,none⟩) 2 2) (W.alloc (.cells #[.slice none 0 0,.slice none 0 0] 41)):=fun W=>by
 obtain ⟨i,hi,hz0,hz1,hz2⟩:=info_parts Tryz.infoCol
 have hrun:=run_make (P:=Tryz.prog) W 22 41 i (.slice none 0 0) Tryz.underlying22 hi hz0 .i64 .i64 2 2 (by omega) (Int.le_refl _) (by rw [hz2];omega) (by omega)
 rw [hrun,hz1,show Int.toNat 2 * 1=2 from rfl,made_rep 2]
 rfl
end Go.Proofs.YtkllhjhkcipkoaaGreatDoor.T

namespace Go.Proofs.YtkllhjhkcipkoaaGreatDoor.Ch
open Go.RowKit Go.Shelf Go.Proofs.YtkllhjhkcipkoaaGreatDoor.C Go.Proofs.YtkllhjhkcipkoaaGreatDoor.E Go.Proofs.YtkllhjhkcipkoaaGreatDoor.Rg Go.Proofs.YtkllhjhkcipkoaaGreatDoor.T

section
variable {P Q n:Nat} {R D A B:List (List UInt8)} {a b:Int}
structure Solves (P Q n:Nat) (R D A B:List (List UInt8)) (a b:Int):Prop where
 gA:GoodC Q n A
 gB:GoodC Q n B
 hR:∀ j r,Bt P Q n R j r=Bt P Q n A j r ^^^ Bt P Q n B j r
 hD:∀ j r,Bt P Q n D j r=tu a (Bt P Q n A j) r ^^^ tu b (Bt P Q n B j) r
end
end Go.Proofs.YtkllhjhkcipkoaaGreatDoor.Ch
