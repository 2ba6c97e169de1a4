/- -/
import Derived.BigFrame
import Derived.Deep.Matrix
import Derived.ShutString
import Derived.ChangeOld
import Derived.Laws.CopyOwn
import Derived.Laws.Tables
import Derived.Deep.WholeRow
import Derived.Test.YtcchjofjpflbhaaGreatDoorPAG4m14
set_option linter.unusedVariables false
set_option linter.unusedSimpArgs false
set_option maxRecDepth 100000
set_option maxHeartbeats 400000
namespace Go.Proofs.YtcchjofjpflbhaaGreatDoor.E
open Go.RowKit Go.Shelf Go.Proofs.YtcchjofjpflbhaaGreatDoor.C

theorem xa_perm {a b:List UInt8} (h:a.Perm b):xa a=xa b:=by
 induction h with
 | nil=>rfl
 | cons x _ ih=>rw [xa_cons,xa_cons,ih]
 | swap x y l=>rw [xa_cons,xa_cons,xa_cons,xa_cons,←UInt8.xor_assoc,←UInt8.xor_assoc,UInt8.xor_comm x y]
 | trans _ _ h1 h2=>exact h1.trans h2
section
variable {p:Int} {css:List (List (List UInt8))}
end
end Go.Proofs.YtcchjofjpflbhaaGreatDoor.E

namespace Go.Proofs.YtcchjofjpflbhaaGreatDoor.Rg
open Go.RowKit Go.Shelf Go.Proofs.YtcchjofjpflbhaaGreatDoor.C Go.Proofs.YtcchjofjpflbhaaGreatDoor.E

theorem mul_in (p a b:Int):a % p * b % p=a * b % p:=by
 rw [Int.mul_emod,Int.emod_emod_of_dvd _ (Int.dvd_refl p),←Int.mul_emod]
theorem add_in (p a b:Int):(a+b % p) % p=(a+b) % p:=by
 rw [Int.add_emod,Int.emod_emod_of_dvd _ (Int.dvd_refl p),←Int.add_emod]
theorem mul_back (p s i a:Int) (h:s * i % p=1):a * s % p * i % p=a % p:=by
 rw [mul_in,Int.mul_assoc,Int.mul_comm,←mul_in,h,Int.one_mul]
theorem mul_back' (p s i a:Int) (h:s * i % p=1):a * i % p * s % p=a % p:=mul_back p i s a (by rw [Int.mul_comm];exact h)

theorem walk_inj (p:Nat) (x s i:Int) (h:s * i % (p:Int)=1) {k k':Nat} (hk:k<p) (hk':k'<p) (e:walkAt p x s k=walkAt p x s k'):k=k':=by
 unfold walkAt at e
 have e2:((k:Int) * s) % (p:Int)=((k':Int) * s) % (p:Int):=by
  rw [Int.emod_eq_emod_iff_emod_sub_eq_zero] at e ⊢
  rw [show x+(k:Int) * s - (x+(k':Int) * s)=(k:Int) * s - (k':Int) * s by omega] at e
  exact e
 have e3:=congrArg (fun z=>z * i % (p:Int)) e2
 simp only [mul_back _ _ _ _ h] at e3
 rw [Int.emod_eq_of_lt (by omega) (by omega),Int.emod_eq_of_lt (by omega) (by omega)] at e3
 omega
theorem walk_nodup (p:Nat) (x s i:Int) (h:s * i % (p:Int)=1):(walkL p x s).Nodup:=by
 unfold walkL List.Nodup
 rw [List.pairwise_map]
 refine List.Pairwise.imp_of_mem ?_ (List.pairwise_lt_range (n:=p))
 intro a b ha hb hlt e
 have:=walk_inj p x s i h (List.mem_range.1 ha) (List.mem_range.1 hb) e
 omega
theorem walk_in (p:Nat) (hp:0<p) (x s:Int):∀ z∈walkL p x s,0≤z∧z<p:=by
 intro z hz
 unfold walkL at hz
 obtain ⟨k,_,rfl⟩:=List.mem_map.1 hz
 exact walkAt_lt p hp x s k

theorem walk_comes (p:Nat) (hp:0<p) (x y s i:Int) (h:s * i % (p:Int)=1) (y0:0≤y) (y1:y<p):walkAt p x s ((y - x) % (p:Int) * i % (p:Int)).toNat=y:=by
 have h0:=Int.emod_nonneg ((y - x) % (p:Int) * i) (show (p:Int)≠0 by omega)
 unfold walkAt
 rw [Int.toNat_of_nonneg h0,←add_in,mul_back' _ _ _ _ h,add_in,add_in,show x+(y - x)=y by omega,Int.emod_eq_of_lt y0 y1]

theorem inv_fact:∀ p∈prm,∀ m∈List.range 17,(m:Int)<p→m≠0→∃ i∈List.range 17,(i:Int)<p∧(m:Int) * (i:Int) % p=1:=by decide +kernel
theorem inv_ex (p:Int) (hp:p∈prm) (m:Int) (h0:0≤m) (hm:m<p) (hne:m≠0):∃ i:Int,0≤i∧i<p∧m * i % p=1:=by
 have hb:=prm_bounds hp
 obtain ⟨n,rfl⟩:∃ n:Nat,m=(n:Int):=⟨m.toNat,by omega⟩
 obtain ⟨i,_,h1,h2⟩:=inv_fact p hp n (List.mem_range.2 (by omega)) hm (by omega)
 exact ⟨i,by omega,h1,h2⟩
end Go.Proofs.YtcchjofjpflbhaaGreatDoor.Rg
