/- -/
import Derived.Laws.CopyOwn
import Derived.ArgAppend
import Derived.Test.YtcchjofjpflbhaaGreatDoorPAG7m4
import Derived.Test.YtcchjofjpflbhaaGreatDoorPAG9m6
import Derived.Test.YtcchjofjpflbhaaGreatDoorPAG9m12
set_option linter.unusedVariables false
set_option linter.unusedSimpArgs false
set_option maxRecDepth 100000
set_option maxHeartbeats 400000
namespace Go.Proofs.YtcchjofjpflbhaaGreatDoor.Rg
open Go.RowKit Go.Shelf Go.Proofs.YtcchjofjpflbhaaGreatDoor.C Go.Proofs.YtcchjofjpflbhaaGreatDoor.E

theorem st_inj {P Q:Nat} (hQ:P=Q+1) (hp:(P:Int)∈prm) {a:Int} (ha:a % (P:Int)≠0) {x y:Int→UInt8} (hx:Per P x) (hy:Per P y) (h:∀ r,st a x r=st a y r) (r:Int):x r=y r:=by
 obtain ⟨E,hE⟩:∃ E:Int→UInt8,E=fun r=>x r ^^^ y r:=⟨_,rfl⟩
 have pE:Per P E:=by rw [hE];exact hx.add hy
 have e1:∀ r,E r=E (r - a) ^^^ E (-1 - a):=fun r=>by
  have:=h r
  unfold st tu at this
  apply x_of
  rw [hE]
  show (x r ^^^ y r) ^^^ ((x (r - a) ^^^ y (r - a)) ^^^ (x (-1 - a) ^^^ y (-1 - a)))=0
  have e:(x r ^^^ (x (r - a) ^^^ x (-1 - a))) ^^^ (y r ^^^ (y (r - a) ^^^ y (-1 - a)))=0:=by rw [this];exact UInt8.xor_self
  rw [←e]
  simp only [UInt8.xor_assoc,UInt8.xor_comm,xlc,xx,UInt8.xor_self,UInt8.xor_zero,UInt8.zero_xor]
 have e2:∀ m:Nat,E (-1+(m:Int) * a)=if m % 2=0 then 0 else E (-1 - a):=by
  intro m
  induction m with
  | zero=>rw [if_pos rfl];simpa using pE.2
  | succ m ih =>
    rw [e1,show -1+((m+1:Nat):Int) * a - a = -1+(m:Int) * a by rw [Int.natCast_add,Int.add_mul];omega,ih]
    rcases Nat.mod_two_eq_zero_or_one m with h2 | h2
    · rw [if_pos h2,if_neg (by omega),UInt8.zero_xor]
    · rw [if_neg (by omega),if_pos (by omega),UInt8.xor_self]
 have e3:E (-1 - a)=0:=by
  have:=e2 Q
  rw [if_pos (prm_odd hQ hp)] at this
  rw [←this]
  refine pE.1 _ _ ?_
  have hPz:(Q:Int)=(P:Int) - 1:=by omega
  rw [hPz,show -1+((P:Int) - 1) * a = -1 - a+(P:Int) * a by rw [Int.sub_mul];omega,Int.add_mul_emod_self_left]
 obtain ⟨m,hm⟩:=reach hp ha r
 have e4:E r=0:=by rw [pE.1 _ _ hm,e2,e3];split <;> rfl
 rw [hE] at e4
 exact x_of e4
theorem str_inj {P Q n:Nat} (hQ:P=Q+1) (hp:(P:Int)∈prm) {c d:List (List UInt8)} (hc:GoodC Q n c) (hd:GoodC Q n d) {b:Int} (hb:b % (P:Int)≠0) (h:strC P Q n c b=strC P Q n d b):c=d:=by
 refine col_ext hQ hc hd fun j r=>?_
 refine st_inj hQ hp hb (Bt.per hQ c j) (Bt.per hQ d j) (fun r=>?_) r
 rw [←bt_str hQ hc,←bt_str hQ hd,h]
end Go.Proofs.YtcchjofjpflbhaaGreatDoor.Rg
