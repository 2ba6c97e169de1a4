/- -/
import Derived.Laws.CopyOwn
import Derived.ArgAppend
import Derived.Test.YtcchjofjpflbhaaGreatDoorPAG8
set_option linter.unusedVariables false
set_option linter.unusedSimpArgs false
set_option maxRecDepth 100000
set_option maxHeartbeats 4000000
namespace Go.Proofs.YtcchjofjpflbhaaGreatDoor.Ch
open Go.RowKit Go.Shelf Go.Proofs.YtcchjofjpflbhaaGreatDoor.C Go.Proofs.YtcchjofjpflbhaaGreatDoor.E
attribute [local go_sem] Oper.semAt_some

theorem mul_any (q:Nat) (h:q∈[2,4,6,10,12,16]) (w:World):Calls Tryz.prog 218 #[.int .u64 1,.int .u64 (q:Int)] w fun e w'=>e = .returned (.tuple #[.int .u64 0,.int .u64 (q:Int)])∧w'=w:=by
 simp only [List.mem_cons,List.not_mem_nil,or_false] at h
 rcases h with rfl | rfl | rfl | rfl | rfl | rfl
 all_goals go_enter Tryz.func218,Tryz.ntmps218
 all_goals go_wp2
 all_goals go_ret2
 all_goals exact ⟨rfl,rfl⟩
def repV (q m:Nat) (nv:Value):List Value:=List.replicate m nv ++ List.replicate (q - m) (.slice none 0 0)
theorem repV_len (q m:Nat) (nv:Value) (h:m≤q):(repV q m nv).length=q:=by unfold repV;simp;omega
theorem repV_splice (q m:Nat) (nv:Value) (k:Nat) (h:m+k≤q):splice (repV q m nv) m (List.replicate k nv)=repV q (m+k) nv:=by
 unfold splice repV
 rw [List.length_replicate,List.take_append_of_le_length (by simp),List.take_of_length_le (by simp),List.drop_append,List.drop_eq_nil_of_le (by simp),List.nil_append,List.length_replicate,List.drop_replicate,←List.append_assoc,List.replicate_append_replicate]
 congr 2
 omega
theorem repV_at (q m:Nat) (nv:Value) {j:Nat} (hj:j<m):(repV q m nv)[j]?=some nv:=by
 unfold repV
 rw [List.getElem?_append_left (by simpa using hj),List.getElem?_replicate,if_pos hj]
theorem repeat_any (g:Nat) (nv:Value) (h1:nv.oneCell'=true) (q:Nat) (hq:q∈[2,4,6,10,12,16]) (w:World) (hc:w.cell? ⟨g,0,none⟩=some nv) (hgw:g<w.heap.size) :
 Calls Tryz.prog 162 #[.slice (some ⟨g,0,none⟩) 1 1,.int .i64 (q:Int)] w fun e w'=>∃ g',e = .returned (.slice (some ⟨g',0,none⟩) q q)∧w.heap.size≤g'∧Blk w' g' 64 (List.replicate q nv).toArray∧Below w.heap.size w w':=by
 have hqb:2≤q∧q≤16:=by simp only [List.mem_cons,List.not_mem_nil,or_false] at hq;omega
 have HM:=Lib.hid (fun U=>mul_any q hq U)
 obtain ⟨i0,hi0,hz0,hz1,hz2⟩:=info_parts Tryz.infoSlcE
 have hmk:=fun W:World=>run_make (P:=Tryz.prog) W 50 64 i0 (.slice none 0 0) Tryz.underlying50 hi0 hz0 .i64 .i64 (q:Int) (q:Int) (by omega) (by omega) (by rw [hz2];omega) (by omega)
 simp only [hz1,Nat.mul_one,Int.toNat_natCast,show (Value.slice none 0 0).cells=#[.slice none 0 0] from rfl] at hmk
 clear hz0 hz1 hz2 hi0
 have d1:decide ((q:Int)<0)=false:=by simp
 have u1:IntKind.u64.wrap (q:Int)=(q:Int):=(by decide:∀ z∈[2,4,6,10,12,16],IntKind.u64.wrap ((z:Nat):Int)=((z:Nat):Int)) q hq
 have u2:IntKind.i64.wrap (q:Int)=(q:Int):=IntWalk.i64_in _ (by omega)
 have d2:decide ((9223372036854775807:Int)<(q:Int))=false:=by simp;omega
 clear hq
 refine (callsIn_wide (n:=9)).1 ?_
 refine callsIn_of_wp_marks Tryz.func162 rfl trivial ?_ rfl
 simp only [Tryz.ntmps162,List.size_toArray,List.length_cons,List.length_nil,Nat.reduceAdd,Nat.reduceSub,Array.replicate_succ,Array.replicate_zero,List.push_toArray,List.append_toArray,List.nil_append,List.cons_append]
 gi_wp2_with fail
 refine ⟨trivial,(callsIn_wide.2 (HM.out _)).mono ?_⟩
 rintro e w1 ⟨rfl,rfl⟩
 gi_wp2_with fail
 obtain ⟨w2,hw2⟩:∃ x,w1.alloc (.cells (madeCells #[.slice none 0 0] q) 64)=x:=⟨_,rfl⟩
 have hB2:Below w1.heap.size w1 w2:=by rw [←hw2];exact below_one w1 _
 have b2:Blk w2 w1.heap.size 64 (repV q 0 nv).toArray:=by
  rw [←hw2]
  have e:madeCells #[.slice none 0 0] q=(repV q 0 nv).toArray:=by
   apply Array.toList_inj.1
   rw [toList_madeCells_one]
   rfl
  rw [e]
  exact Blk.new w1 _ _
 rw [hw2]
 have hcp:=run_copy_row (P:=Tryz.prog) w2 50 50 3 64 w1.heap.size 0 q q ⟨g,0,none⟩ 1 1 (repV q 0 nv).toArray 64 [nv] Tryz.underlying50 (by kernel_rfl) b2 (show 1=min 1 q by omega) (fun j v hv=>by
  have:j=0:=by
   by_cases h:j=0
   · exact h
   · rw [List.getElem?_eq_none (by simp;omega)] at hv;cases hv
  subst this
  cases hv
  rw [addr_add]
  exact (hB2.cell (p:=⟨g,0,none⟩) hgw).trans hc) (by simp [repV_len];omega) (by intro v hv;rw [List.mem_singleton.1 hv];exact h1)
 rw [show ((repV q 0 nv).toArray.toList.take 0 ++ [nv] ++ (repV q 0 nv).toArray.toList.drop (0+[nv].length))=repV q 1 nv from repV_splice q 0 nv 1 (by omega)] at hcp
 obtain ⟨w3,hw3⟩:∃ x,w2.setRow w1.heap.size (repV q 1 nv).toArray=x:=⟨_,rfl⟩
 rw [hw3] at hcp
 have hB3:Below w1.heap.size w1 w3:=by rw [←hw3];exact C.below_setRow hB2 (Nat.le_refl _) _
 have b3:Blk w3 w1.heap.size 64 (repV q 1 nv).toArray:=by rw [←hw3];exact b2.setRow _
 rw [hcp]
 clear hw2 b2 hB2 hw3 hmk hcp
 gi_wp2_with fail
 gi_loopw [8] (fun v wr=>∃ m:Nat,1≤m∧m≤q∧v = .int .i64 (m:Int)∧Blk wr w1.heap.size 64 (repV q m nv).toArray∧Below w1.heap.size w1 wr) (fun v _=>q - (intOf v).toNat)
 case atStart=>exact ⟨1,by omega,by omega,rfl,b3,hB3⟩
 case round =>
  obtain ⟨m,hm1,hm2,rfl,hb,hBr⟩:=hrel
  by_cases hlt:m<q
  · have hdec:decide ((m:Int)<(q:Int))=true:=by simp;omega
    obtain ⟨wd,hwd⟩:∃ x,wr.drew=x:=⟨_,rfl⟩
    have hBd:Below w1.heap.size w1 wd:=by rw [←hwd];exact hBr.drew
    have hbd:Blk wd w1.heap.size 64 (repV q m nv).toArray:=by rw [←hwd];exact hb
    obtain ⟨k,hk⟩:∃ k,min m (q - m)=k:=⟨_,rfl⟩
    have hk2:m+k≤q∧1≤k∧k≤m:=by omega
    have hcp:=fun ty=>run_copy_row (P:=Tryz.prog) wd 50 50 ty 64 w1.heap.size m (q - m) (q - m) ⟨w1.heap.size,0,none⟩ m q (repV q m nv).toArray 64 (List.replicate k nv) Tryz.underlying50 (by kernel_rfl) hbd (by rw [List.length_replicate];exact hk.symm) (fun j v hv=>by
     have hj:j<k:=by
      rcases Nat.lt_or_ge j k with h | h
      · exact h
      · rw [List.getElem?_eq_none (by simp;omega)] at hv;cases hv
     rw [List.getElem?_replicate,if_pos hj] at hv
     cases hv
     rw [addr_add,Nat.zero_add,hbd.cell j,List.getElem?_toArray]
     exact repV_at q m nv (by omega)) (by simp [repV_len _ _ _ hm2];omega) (by intro v hv;rw [(List.mem_replicate.1 hv).2];exact h1)
    have e:List.take m (repV q m nv) ++ List.replicate k nv ++ List.drop (m+k) (repV q m nv)=repV q (m+k) nv:=by
     have:=repV_splice q m nv k hk2.1
     unfold splice at this
     rw [List.length_replicate] at this
     rw [List.append_assoc]
     exact this
    simp only [List.length_replicate,e] at hcp
    obtain ⟨w3',hw3'⟩:∃ x,wd.setRow w1.heap.size (repV q (m+k) nv).toArray=x:=⟨_,rfl⟩
    rw [hw3'] at hcp
    have hB3':Below w1.heap.size w1 w3':=by rw [←hw3'];exact C.below_setRow hBd (Nat.le_refl _) _
    have b3':Blk w3' w1.heap.size 64 (repV q (m+k) nv).toArray:=by rw [←hw3'];exact hbd.setRow _
    have hqm:¬ q=m:=by omega
    have i1:(0:Int)≤(m:Int):=by omega
    have i2:(m:Int)≤(q:Int):=by omega
    have hsum:IntKind.i64.wrap ((m:Int)+(k:Int))=((m+k:Nat):Int):=by rw [←Int.natCast_add];exact IntWalk.i64_in _ (by omega)
    have HB:=Lib.hid (And.intro b3' hB3')
    clear hw3' hb hBr b3' hB3' hbd hBd
    gi_wp2_with fail
    refine wpIn_mono (region_HF (Q:=NoPanic _) (S:=fun _=>True) (by kernel_rfl) ?_) NoPanic.imp
    refine anyHF_take (i:=0) (d:=38) (v:=.int .i64 (m:Int)) (by kernel_rfl) rfl (by kernel_rfl) (by kernel_rfl) (by kernel_rfl) rfl (fun _ _ _ h=>h) ⟨Or.inl ⟨by rfl,fun w hS=>by go_simp⟩,fun _=>rfl⟩ trivial ?_
    simp only [ud9]
    refine anyHF_take (i:=1) (d:=39) (v:=.slice (some ⟨w1.heap.size,0,none⟩) q q) (by kernel_rfl) rfl (by kernel_rfl) (by kernel_rfl) (by kernel_rfl) rfl (fun _ _ _ h=>h) ⟨Or.inl ⟨by rfl,fun w hS=>by go_simp⟩,fun _=>rfl⟩ trivial ?_
    simp only [ud9]
    refine anyHF_take (i:=2) (d:=40) (v:=.int .i64 (m:Int)) (by kernel_rfl) rfl (by kernel_rfl) (by kernel_rfl) (by kernel_rfl) rfl (fun _ _ _ h=>h) ⟨Or.inl ⟨by rfl,fun w hS=>by go_simp⟩,fun _=>rfl⟩ trivial ?_
    simp only [ud9]
    refine anyHF_take (i:=3) (d:=41) (v:=.slice (some ⟨w1.heap.size,m,none⟩) (q - m) (q - m)) (by kernel_rfl) rfl (by kernel_rfl) (by kernel_rfl) (by kernel_rfl) rfl (fun _ _ _ h=>h) ⟨Or.inl ⟨by rfl,fun w hS=>by go_simp⟩,fun _=>rfl⟩ trivial ?_
    simp only [ud9]
    refine anyHF_take (i:=4) (d:=42) (v:=.slice (some ⟨w1.heap.size,0,none⟩) q q) (by kernel_rfl) rfl (by kernel_rfl) (by kernel_rfl) (by kernel_rfl) rfl (fun _ _ _ h=>h) ⟨Or.inl ⟨by rfl,fun w hS=>by go_simp⟩,fun _=>rfl⟩ trivial ?_
    simp only [ud9]
    refine anyHF_take (i:=5) (d:=43) (v:=.int .i64 (m:Int)) (by kernel_rfl) rfl (by kernel_rfl) (by kernel_rfl) (by kernel_rfl) rfl (fun _ _ _ h=>h) ⟨Or.inl ⟨by rfl,fun w hS=>by go_simp⟩,fun _=>rfl⟩ trivial ?_
    simp only [ud9]
    refine anyHF_take (i:=6) (d:=44) (v:=.slice (some ⟨w1.heap.size,0,none⟩) m q) (by kernel_rfl) rfl (by kernel_rfl) (by kernel_rfl) (by kernel_rfl) rfl (fun _ _ _ h=>h) ⟨Or.inl ⟨by rfl,fun w hS=>by go_simp⟩,fun _=>rfl⟩ trivial ?_
    simp only [ud9]
    refine oneF (i:=7) (c:=?_)
    gi_wp2_with fail
    try (refine ⟨trivial,?_⟩)
    refine anyHF_take (i:=8) (d:=46) (v:=.int .i64 ((m+k:Nat):Int)) (by kernel_rfl) rfl (by kernel_rfl) (by kernel_rfl) (by kernel_rfl) rfl (fun _ _ _ h=>h) ⟨Or.inl ⟨by rfl,fun w hS=>by go_simp⟩,fun _=>rfl⟩ trivial ?_
    simp only [ud9]
    refine oneF (i:=9) (c:=?_)
    gi_wp2
    refine anyHF_done (by kernel_rfl) ?_ _
    refine NoPanic.normal ?_
    gi_wp2_with fail
    go_roundw
    case rel=>exact ⟨m+k,by omega,by omega,rfl,HB.out.1,HB.out.2⟩
    case measure=>simp [intOf];omega
  · obtain rfl:m=q:=by omega
    have hdec:decide ((m:Int)<(m:Int))=false:=by simp
    gi_wp2_with fail
    have HE:Hid (Blk wr w1.heap.size 64 (List.replicate m nv).toArray):=by unfold repV at hb;rwa [Nat.sub_self,List.replicate_zero,List.append_nil] at hb
    exact ⟨_,by simp [results,Tryz.results162,go_sem],_,rfl,Nat.le_refl _,HE.out,hBr⟩
end Go.Proofs.YtcchjofjpflbhaaGreatDoor.Ch

namespace Go.Proofs.YtcchjofjpflbhaaGreatDoor.Rg
open Go.RowKit Go.Shelf Go.Maps Go.Proofs.YtcchjofjpflbhaaGreatDoor.C Go.Proofs.YtcchjofjpflbhaaGreatDoor.E
attribute [local go_sem] Oper.semAt_some

section
variable {Q:Nat→Prop} {base:Nat} {v:Value}
theorem opIn_pushM {F:Fence} {nF:Nat} {T:TypeId} (w:World) {o:Oper} {a:Act} {K:Act→World→Prop} {QQ:Exit→Act→World→Prop} (s x:Operand)
 (ho:o.op = .call { callee:=.builtin .append,args:=#[s,x],argTypes:=#[T,T] }) (hT:Tryz.prog.underlying T=some (.slice 64)) (ls:List (List UInt8)) (hs:a.eval s=v) (h:RowM Q w base v ls)
 (g:Nat) (tg:TypeId) (u:Value) (l:List UInt8) (hx:a.eval x = .slice (some ⟨g,0,none⟩) 1 1) (hg:Blk w g tg #[u]) (hu:BytesP (fun b=>b<w.heap.size∧some b≠v.ownBlock∧Q b) w u l) (hlen:ls.length≤100000) (hbase:base≤w.heap.size)
 (hK:∀ v' w',RowM Q w' base v' (ls ++ [l])→w.grownBy w' v.ownBlock→(v'.ownBlock=v.ownBlock∨v'.ownBlock=some w.heap.size)→K (a.put o.dst v') w'):Oper.wpIn F nF Tryz.prog o a w K QQ:=by
 obtain ⟨i,hi,hz0,hz1,hz2⟩:=info_parts Tryz.infoSlcE
 obtain ⟨v',w',hrun,h1,h2,h3⟩:=RowG.push i hi hz0 hz1 hz2 T o.type hT h g tg u l hg hu hlen hbase
 unfold Oper.wpIn
 refine ⟨by simp [Oper.about,ho,resolve,Target.leads,Sem.run_pure],?_⟩
 rw [Oper.semAt_plain F _ _ (by rw [ho];intro c hc';cases hc')]
 simp [execOp,ho,resolve,invoke,builtin,hs,hx,hrun,Result.andThen,Oper.uponIn]
 exact hK v' w' h1 h2 h3
end
end Go.Proofs.YtcchjofjpflbhaaGreatDoor.Rg

namespace Go.Proofs.YtcchjofjpflbhaaGreatDoor.Rg
open Go.RowKit Go.Shelf Go.Proofs.YtcchjofjpflbhaaGreatDoor.C Go.Proofs.YtcchjofjpflbhaaGreatDoor.E

theorem xx (a b:UInt8):a ^^^ (a ^^^ b)=b:=by rw [←UInt8.xor_assoc,UInt8.xor_self,UInt8.zero_xor]
theorem xlc (a b c:UInt8):a ^^^ (b ^^^ c)=b ^^^ (a ^^^ c):=by rw [←UInt8.xor_assoc,UInt8.xor_comm a b,UInt8.xor_assoc]
def Per (P:Nat) (x:Int→UInt8):Prop:=(∀ r s:Int,r % (P:Int)=s % (P:Int)→x r=x s)∧x (-1)=0
def tu (a:Int) (x:Int→UInt8) (r:Int):UInt8:=x (r - a) ^^^ x (-1 - a)
def st (a:Int) (x:Int→UInt8) (r:Int):UInt8:=x r ^^^ tu a x r
theorem mod_sub {P:Nat} {r s:Int} (h:r % (P:Int)=s % (P:Int)) (a:Int):(r - a) % (P:Int)=(s - a) % (P:Int):=by
 rw [Int.sub_emod,h,←Int.sub_emod]
theorem Per.tu {P:Nat} {x:Int→UInt8} (h:Per P x) (a:Int):Per P (tu a x) :=
 ⟨fun r s e=>by unfold Rg.tu;rw [h.1 _ _ (mod_sub e a)],by unfold Rg.tu;exact UInt8.xor_self⟩
theorem Per.add {P:Nat} {x y:Int→UInt8} (h:Per P x) (h':Per P y):Per P (fun r=>x r ^^^ y r) :=
 ⟨fun r s e=>by show x r ^^^ y r=x s ^^^ y s;rw [h.1 _ _ e,h'.1 _ _ e],by show x (-1) ^^^ y (-1)=0;rw [h.2,h'.2];rfl⟩
theorem Per.st {P:Nat} {x:Int→UInt8} (h:Per P x) (a:Int):Per P (st a x):=h.add (h.tu a)
def al (P:Nat) (x:Int→UInt8):UInt8:=xa ((List.range P).map fun i:Nat=>x (i:Int))
theorem tu_tu {P:Nat} {x:Int→UInt8} (a b:Int) (r:Int):tu b (tu a x) r=tu (a+b) x r:=by
 unfold tu
 rw [show r - b - a=r - (a+b) by omega,show -1 - b - a = -1 - (a+b) by omega]
 simp only [UInt8.xor_assoc,UInt8.xor_comm,xlc,xx,UInt8.xor_self,UInt8.xor_zero,UInt8.zero_xor]
def Bt (P Q n:Nat) (c:List (List UInt8)) (j:Nat) (r:Int):UInt8:=at_ (wholeF Q n c (r % (P:Int)).toNat) j
theorem at_nought (n j:Nat):at_ (List.replicate n 0) j=0:=by
 unfold at_
 rw [List.getElem?_replicate]
 split <;> rfl
theorem last_mod {P Q:Nat} (hQ:P=Q+1):(-1:Int) % (P:Int)=(Q:Int):=by
 rw [show (-1:Int)=(Q:Int)+(P:Int) * (-1) by omega,Int.add_mul_emod_self_left,Int.emod_eq_of_lt (by omega) (by omega)]
theorem Bt.per {P Q n:Nat} (hQ:P=Q+1) (c:List (List UInt8)) (j:Nat):Per P (Bt P Q n c j) :=
 ⟨fun r s e=>by unfold Bt;rw [e],by unfold Bt wholeF;rw [last_mod hQ,Int.toNat_natCast,if_neg (Nat.lt_irrefl _)];exact at_nought n j⟩
theorem row_lt {P Q:Nat} (hQ:P=Q+1) (r:Int):(∃ i:Nat,i<Q∧r % (P:Int)=(i:Int))∨r % (P:Int)=(-1) % (P:Int):=by
 have h2:=Int.emod_nonneg r (show (P:Int)≠0 by omega)
 have h3:=Int.emod_lt_of_pos r (show (0:Int)<P by omega)
 rw [last_mod hQ]
 by_cases h:r % (P:Int)=(Q:Int)
 · exact .inr h
 · exact .inl ⟨(r % (P:Int)).toNat,by omega,by omega⟩
theorem row_get (Q:Nat) (F:Nat→List UInt8) {i:Nat} (hi:i<Q):(((List.range Q).map F)[i]?).getD []=F i:=by
 rw [List.getElem?_map,List.getElem?_range hi]
 rfl
theorem made_good {Q n:Nat} (h1:1≤n) (h64:n≤64) (F:Nat→List UInt8) (hF:∀ i,i<Q→(F i).length=n):GoodC Q n ((List.range Q).map F) :=
 ⟨by simp,fun r hr=>by rw [row_get Q F hr];exact ⟨by unfold Cell;rw [hF r hr];exact ⟨h1,h64⟩,hF r hr⟩⟩
theorem bt_at {P Q n:Nat} (hQ:P=Q+1) (c:List (List UInt8)) (j:Nat) {i:Nat} (hi:i<Q) {r:Int} (hr:r % (P:Int)=(i:Int)):Bt P Q n c j r=at_ (c[i]?.getD []) j:=by
 unfold Bt wholeF
 rw [hr,Int.toNat_natCast,if_pos hi]
theorem bt_made {P Q n:Nat} (hQ:P=Q+1) (F:Nat→List UInt8) (j:Nat) (G:Int→UInt8) (hG:Per P G) (h:∀ i,i<Q→at_ (F i) j=G (i:Int)) (r:Int):Bt P Q n ((List.range Q).map F) j r=G r:=by
 rcases row_lt hQ r with ⟨i,hi,e⟩ | e
 · rw [bt_at hQ _ j hi e,row_get Q F hi,h i hi]
   exact hG.1 _ _ (by rw [e,Int.emod_eq_of_lt (by omega) (by omega)])
 · rw [(Bt.per hQ _ j).1 _ _ e,(Bt.per hQ _ j).2,hG.1 _ _ e,hG.2]
theorem col_ext {P Q n:Nat} (hQ:P=Q+1) {c d:List (List UInt8)} (hc:GoodC Q n c) (hd:GoodC Q n d) (h:∀ j r,Bt P Q n c j r=Bt P Q n d j r):c=d:=by
 refine List.ext_getElem? fun i=>?_
 by_cases hi:i<Q
 · have h1:(c[i]?.getD [])=(d[i]?.getD []):=ext_at ((hc.2 i hi).2.trans (hd.2 i hi).2.symm) fun j=>by
    have:=h j (i:Int)
    rwa [bt_at hQ c j hi (Int.emod_eq_of_lt (by omega) (by omega)),bt_at hQ d j hi (Int.emod_eq_of_lt (by omega) (by omega))] at this
   obtain ⟨u,hu⟩:∃ u,c[i]?=some u:=⟨_,List.getElem?_eq_getElem (by rw [hc.1];exact hi)⟩
   obtain ⟨v,hv⟩:∃ v,d[i]?=some v:=⟨_,List.getElem?_eq_getElem (by rw [hd.1];exact hi)⟩
   rw [hu,hv] at h1 ⊢
   exact congrArg some h1
 · rw [List.getElem?_eq_none (by rw [hc.1];omega),List.getElem?_eq_none (by rw [hd.1];omega)]
theorem whole_len {Q n:Nat} {c:List (List UInt8)} (hc:GoodC Q n c) (r:Nat):(wholeF Q n c r).length=n:=by
 unfold wholeF
 split
 · exact (hc.2 r ‹_›).2
 · simp
theorem mv_len {P Q n:Nat} {c:List (List UInt8)} (hc:GoodC Q n c) (b:Int) (r:Nat):(mvF P b (wholeF Q n c) r).length=n:=whole_len hc _
theorem at_mv {P Q n:Nat} (c:List (List UInt8)) (b:Int) (r j:Nat):at_ (mvF P b (wholeF Q n c) r) j=Bt P Q n c j ((r:Int) - b):=rfl
theorem at_two {n:Nat} {a b:List UInt8} (ha:a.length=n) (hb:b.length=n) (j:Nat):at_ (xorOf [a,b]) j=at_ a j ^^^ at_ b j:=by
 rw [at_xorOf (n:=n) (by simp) (by intro l hl;simp only [List.mem_cons,List.not_mem_nil,or_false] at hl;rcases hl with rfl | rfl <;> assumption)]
 simp [xa]
theorem len_two {n:Nat} {a b:List UInt8} (ha:a.length=n) (hb:b.length=n):(xorOf [a,b]).length=n :=
 xorOf_len_of (by simp) (by intro l hl;simp only [List.mem_cons,List.not_mem_nil,or_false] at hl;rcases hl with rfl | rfl <;> assumption)
def turnC (P Q n:Nat) (c:List (List UInt8)) (b:Int):List (List UInt8):=(List.range Q).map fun r=>xorOf [mvF P b (wholeF Q n c) r,mvF P b (wholeF Q n c) Q]
theorem turn_good {P Q n:Nat} (h1:1≤n) (h64:n≤64) {c:List (List UInt8)} (hc:GoodC Q n c) (b:Int):GoodC Q n (turnC P Q n c b) :=
 made_good h1 h64 _ fun i _=>len_two (mv_len hc b i) (mv_len hc b Q)
theorem bt_turn {P Q n:Nat} (hQ:P=Q+1) {c:List (List UInt8)} (hc:GoodC Q n c) (b:Int) (j:Nat) (r:Int):Bt P Q n (turnC P Q n c b) j r=tu b (Bt P Q n c j) r:=by
 refine bt_made hQ _ j _ ((Bt.per hQ c j).tu b) (fun i hi=>?_) r
 rw [at_two (mv_len hc b i) (mv_len hc b Q),at_mv,at_mv]
 unfold tu
 rw [(Bt.per hQ c j).1 ((Q:Int) - b) (-1 - b) (mod_sub (by rw [last_mod hQ,Int.emod_eq_of_lt (by omega) (by omega)]) b)]
theorem sum_good {Q n:Nat} (h1:1≤n) (h64:n≤64) {css:List (List (List UInt8))} (h0:0<css.length) (hc:∀ c∈css,GoodC Q n c):GoodC Q n (rowK css.length Q (fun i r=>(css[i]?.getD [])[r]?.getD [])):=by
 refine made_good h1 h64 _ fun r hr=>xorOf_len_of (by simpa using h0) fun l hl=>?_
 obtain ⟨i,hi,rfl⟩:=List.mem_map.1 hl
 have hi2:=List.mem_range.1 hi
 show ((css[i]?.getD [])[r]?.getD []).length=n
 rw [List.getElem?_eq_getElem hi2]
 exact ((hc _ (List.getElem_mem hi2)).2 r hr).2
theorem get_map {α β:Type} (l:List α) (d:α) (g:α→β):(List.range l.length).map (fun i=>g (l[i]?.getD d))=l.map g:=by
 refine List.ext_getElem? fun i=>?_
 rw [List.getElem?_map,List.getElem?_map]
 by_cases hi:i<l.length
 · rw [List.getElem?_range hi,List.getElem?_eq_getElem hi];simp [List.getElem?_eq_getElem hi]
 · rw [List.getElem?_eq_none (by simpa using Nat.le_of_not_lt hi),List.getElem?_eq_none (Nat.le_of_not_lt hi)];rfl
theorem xa_zero:∀ k:Nat,xa (List.replicate k 0)=0:=by
 intro k
 induction k with
 | zero=>rfl
 | succ k ih=>rw [List.replicate_succ,xa_cons,ih];rfl
theorem per_sum {P:Nat} {α:Type} (l:List α) (x:α→Int→UInt8) (h:∀ a∈l,Per P (x a)):Per P (fun r=>xa (l.map fun a=>x a r)):=by
 refine ⟨fun r s e=>?_,?_⟩
 · show xa _=xa _
   congr 1
   exact List.map_congr_left fun a ha=>(h a ha).1 _ _ e
 · show xa _=0
   rw [List.map_congr_left (g:=fun _=>(0:UInt8)) fun a ha=>(h a ha).2]
   rw [List.map_const']
   exact xa_zero _
theorem bt_sum {P Q n:Nat} (hQ:P=Q+1) {css:List (List (List UInt8))} (h0:0<css.length) (hc:∀ c∈css,GoodC Q n c) (j:Nat) (r:Int):Bt P Q n (rowK css.length Q (fun i r=>(css[i]?.getD [])[r]?.getD [])) j r=xa (css.map fun c=>Bt P Q n c j r):=by
 refine bt_made hQ _ j _ (per_sum css (fun c=>Bt P Q n c j) fun c _=>Bt.per hQ c j) (fun i hi=>?_) r
 rw [at_xorOf (n:=n) (by simpa using h0) (fun l hl=>by
  obtain ⟨k,hk,rfl⟩:=List.mem_map.1 hl
  have hi2:=List.mem_range.1 hk
  show ((css[k]?.getD [])[i]?.getD []).length=n
  rw [List.getElem?_eq_getElem hi2]
  exact ((hc _ (List.getElem_mem hi2)).2 i hi).2),List.map_map]
 congr 1
 rw [←get_map css [] (fun c=>Bt P Q n c j (i:Int))]
 refine List.map_congr_left fun k _=>?_
 exact (bt_at hQ _ j hi (Int.emod_eq_of_lt (by omega) (by omega))).symm
theorem rows_fin:∀ p∈prm,∀ s∈List.range 17,(s:Int)<p→s≠0→rowsF p (walkL p.toNat (p - 1) (s:Int))=(List.range (p - 1).toNat).map (fun k:Nat=>(p - 1+((k:Int)+1) * (s:Int)) % p):=by decide +kernel
theorem mul_mod (P:Nat) (x m b:Int):(x+m * (b % (P:Int))) % (P:Int)=(x+m * b) % (P:Int):=by
 rw [Int.add_emod,Int.mul_emod,Int.emod_emod_of_dvd _ (Int.dvd_refl _),←Int.mul_emod,←Int.add_emod]
theorem rows_are {P Q:Nat} (hQ:P=Q+1) (hp:(P:Int)∈prm) {b:Int} (hb:b % (P:Int)≠0):rowsF P (walkN P ((P:Int) - 1) b)=(List.range Q).map (fun k:Nat=>((P:Int) - 1+((k:Int)+1) * b) % (P:Int)):=by
 have hpb:=prm_bounds hp
 have h0:=Int.emod_nonneg b (show (P:Int)≠0 by omega)
 have h1:=Int.emod_lt_of_pos b (show (0:Int)<P by omega)
 obtain ⟨s,hs⟩:∃ s:Nat,b % (P:Int)=(s:Int):=⟨(b % (P:Int)).toNat,by omega⟩
 have h:=rows_fin _ hp s (List.mem_range.2 (by omega)) (by omega) (by omega)
 rw [walkN_yes (fine_one.2 ⟨hp,by omega,by omega⟩),hs,h,show ((P:Int) - 1).toNat=Q by omega]
 refine List.map_congr_left fun k _=>?_
 rw [←hs,mul_mod]
def sumC (Q:Nat) (css:List (List (List UInt8))):List (List UInt8):=rowK css.length Q (fun i r=>(css[i]?.getD [])[r]?.getD [])
end Go.Proofs.YtcchjofjpflbhaaGreatDoor.Rg

namespace Go.Proofs.YtcchjofjpflbhaaGreatDoor.Rg
open Go.RowKit Go.Shelf Go.Proofs.YtcchjofjpflbhaaGreatDoor.C Go.Proofs.YtcchjofjpflbhaaGreatDoor.E
attribute [local go_sem] Oper.semAt_some

theorem cols_two {W:World} {B g:Nat} {va vb:Value} {a b:List (List UInt8)} (h:Blk W g 50 #[va,vb]) (h1:Many B W va a) (h2:Many B W vb b) (hg:g<B):Cols B W (.slice (some ⟨g,0,none⟩) 2 2) [a,b]:=by
 obtain ⟨A,cap,rfl,_,_⟩:=id h1
 obtain ⟨A',cap',rfl,_,_⟩:=id h2
 exact ⟨some ⟨g,0,none⟩,2,rfl,Nat.le_refl _,fun _=>⟨g,0,rfl,hg,fun j hj=>by
  have hj2:j=0∨j=1:=(by have:j<2:=hj;omega)
  rcases hj2 with rfl | rfl
  · exact ⟨_,h.cell 0,h1⟩
  · exact ⟨_,h.cell 1,h2⟩⟩⟩
theorem right_yes {p:Int} {css:List (List (List UInt8))} (h:RightD p css) (h0:0<css.length):∃ P Q n:Nat,p=(P:Int)∧P=Q+1∧(P:Int)∈prm∧1≤n∧n≤64∧(firstC css).length=n∧∀ j,j<css.length→GoodC Q n (css[j]?.getD []):=by
 have hb:=prm_bounds h.1
 have hg:=(rightD_iff h.1 h0).1 h
 obtain ⟨P,rfl⟩:∃ P:Nat,p=(P:Int):=⟨p.toNat,by omega⟩
 have h1:=((hg 0 h0).2 0 (by omega))
 refine ⟨P,P - 1,_,rfl,by omega,h.1,?_,?_,rfl,fun j hj=>?_⟩
 · rw [←h1.2];exact h1.1.1
 · rw [←h1.2];exact h1.1.2
 · have:=hg j hj
   rwa [show ((P:Int) - 1).toNat=P - 1 by omega] at this
theorem right_of_good {P Q n:Nat} (hQ:P=Q+1) (hp:(P:Int)∈prm) {css:List (List (List UInt8))} (h0:0<css.length) (hg:∀ j,j<css.length→GoodC Q n (css[j]?.getD [])):RightD (P:Int) css∧(firstC css).length=n:=by
 have hb:=prm_bounds hp
 have hf:(firstC css).length=n:=by
  have:=((hg 0 h0).2 0 (by omega)).2
  unfold firstC
  exact this
 refine ⟨(rightD_iff hp h0).2 fun j hj=>?_,hf⟩
 rw [hf,show ((P:Int) - 1).toNat=Q by omega]
 exact hg j hj
structure Dims (P Q n:Nat):Prop where
 hQ:P=Q+1
 hp:(P:Int)∈prm
 h1:1≤n
 h64:n≤64
variable {P Q n:Nat}
end Go.Proofs.YtcchjofjpflbhaaGreatDoor.Rg

namespace Go.Proofs.YtcchjofjpflbhaaGreatDoor.Ch
open Go.RowKit Go.Shelf Go.Proofs.YtcchjofjpflbhaaGreatDoor.C Go.Proofs.YtcchjofjpflbhaaGreatDoor.E Go.Proofs.YtcchjofjpflbhaaGreatDoor.Rg

theorem xa_add {α:Type} (l:List α) (f g:α→UInt8):xa (l.map fun x=>f x ^^^ g x)=xa (l.map f) ^^^ xa (l.map g):=by
 induction l with
 | nil=>simp [xa_nil]
 | cons a l ih =>
   rw [List.map_cons,List.map_cons,List.map_cons,xa_cons,xa_cons,xa_cons,ih]
   simp only [UInt8.xor_assoc,UInt8.xor_comm,xlc,xx,UInt8.xor_self,UInt8.xor_zero,UInt8.zero_xor]
theorem xa_filter {α:Type} (l:List α) (q:α→Bool) (f:α→UInt8):xa ((l.filter q).map f)=xa (l.map fun x=>if q x then f x else 0):=by
 induction l with
 | nil=>rfl
 | cons a l ih =>
   rw [List.filter_cons,List.map_cons,xa_cons]
   by_cases h:q a=true
   · rw [if_pos h,List.map_cons,xa_cons,ih,if_pos h]
   · rw [if_neg h,if_neg h,ih,UInt8.zero_xor]
section
variable {P Q:Nat} {A B R D:Int→UInt8} {a b:Int}
theorem tu_zero {X:Int→UInt8} (hX:X (-1)=0) (r:Int):tu 0 X r=X r:=by
 unfold tu
 rw [Int.sub_zero,Int.sub_zero,hX,UInt8.xor_zero]
end
/- The columns that EVENODD makes,byte by byte. -/
section
variable {P Q n:Nat} {css:List (List (List UInt8))}
theorem good_of (d:Dims P Q n) (hok:DataOk (P:Int) css) (hn:(firstC css).length=n) (c:Nat) (hc:c<P):GoodC Q n (css[c]?.getD []):=by
 have hQ:=d.hQ
 have hl:=(dataOk_n hok).1
 have h0:0<css.length:=by omega
 have hr:RightD (P:Int) css:=⟨d.hp,hok.2.2⟩
 have:=(rightD_iff d.hp h0).1 hr c (by omega)
 rwa [hn,show ((P:Int) - 1).toNat=Q by omega] at this
theorem by_bt (d:Dims P Q n) (c r j:Nat) (hr:r<Q):by_ css j c r=Bt P Q n (css[c]?.getD []) j (r:Int):=by
 have hQ:=d.hQ
 rw [bt_at hQ _ j hr (Int.emod_eq_of_lt (by omega) (by omega))]
 rfl
theorem bt_rows (d:Dims P Q n) (hok:DataOk (P:Int) css) (hn:(firstC css).length=n) (j:Nat) (r:Int):Bt P Q n (rowsMade Q css) j r=xa ((List.range P).map fun c:Nat=>Bt P Q n (css[c]?.getD []) j r):=by
 have hQ:=d.hQ
 refine bt_made hQ _ j _ (per_sum _ (fun c:Nat=>Bt P Q n (css[c]?.getD []) j) fun c _=>Bt.per hQ _ j) (fun i hi=>?_) r
 rw [at_row hok (by omega)]
 rw [show (P:Int).toNat=P from Int.toNat_natCast P]
 congr 1
 exact List.map_congr_left fun c _=>by_bt d c i j hi
theorem dg_bt (d:Dims P Q n) (j:Nat) (k:Int):dg_ (P:Int) css j k=xa ((List.range P).map fun c:Nat=>Bt P Q n (css[c]?.getD []) j (k - (c:Int))):=by
 have hQ:=d.hQ
 unfold dg_ diagAt
 rw [List.map_map,xa_filter,show (P:Int).toNat=P from Int.toNat_natCast P]
 congr 1
 refine List.map_congr_left fun c _=>?_
 show (if decide ((k - (c:Int)) % (P:Int)<(P:Int) - 1) then by_ css j c ((k - (c:Int)) % (P:Int)).toNat else 0) = _
 rcases row_lt hQ (k - (c:Int)) with ⟨i,hi,e⟩ | e
 · rw [e,if_pos (by simp;omega),Int.toNat_natCast,by_bt d c i j hi]
   exact (Bt.per hQ _ j).1 _ _ (by rw [e,Int.emod_eq_of_lt (by omega) (by omega)])
 · rw [(Bt.per hQ _ j).1 _ _ e,(Bt.per hQ _ j).2,e,last_mod hQ,if_neg (by simp;omega)]
theorem bt_diags (d:Dims P Q n) (hok:DataOk (P:Int) css) (hn:(firstC css).length=n) (j:Nat) (r:Int):Bt P Q n (diagsMade (P:Int) Q css) j r=xa ((List.range P).map fun c:Nat=>tu (c:Int) (Bt P Q n (css[c]?.getD []) j) r):=by
 have hQ:=d.hQ
 refine bt_made hQ _ j _ (per_sum _ (fun c:Nat=>tu (c:Int) (Bt P Q n (css[c]?.getD []) j)) fun c _=>(Bt.per hQ _ j).tu _) (fun i hi=>?_) r
 rw [at_diagMade hok (by omega),dg_bt d,dg_bt d,←xa_add]
 congr 1
 refine List.map_congr_left fun c _=>?_
 unfold tu
 rw [UInt8.xor_comm]
 congr 1
 exact (Bt.per hQ _ j).1 _ _ (mod_sub (by rw [last_mod hQ,show (P:Int) - 1=(Q:Int) by omega,Int.emod_eq_of_lt (by omega) (by omega)]) _)
theorem rowsMade_good (d:Dims P Q n) (hok:DataOk (P:Int) css) (hn:(firstC css).length=n):GoodC Q n (rowsMade Q css) :=
 made_good d.h1 d.h64 _ fun i hi=>by have hQ:=d.hQ;rw [row_len hok (by omega),hn]
theorem diagsMade_good (d:Dims P Q n) (hok:DataOk (P:Int) css) (hn:(firstC css).length=n):GoodC Q n (diagsMade (P:Int) Q css) :=
 made_good d.h1 d.h64 _ fun i hi=>by have hQ:=d.hQ;rw [diag_len hok (by omega),hn]
end
/- Two columns put upon one another. -/
section
variable {P Q n:Nat} {c e:List (List UInt8)}
theorem sum2_good (d:Dims P Q n) (hc:GoodC Q n c) (he:GoodC Q n e):GoodC Q n (sumC Q [c,e]) :=
 sum_good d.h1 d.h64 (by simp) (by intro x hx;simp only [List.mem_cons,List.not_mem_nil,or_false] at hx;rcases hx with rfl | rfl <;> assumption)
theorem bt_sum2 (d:Dims P Q n) (hc:GoodC Q n c) (he:GoodC Q n e) (j:Nat) (r:Int):Bt P Q n (sumC Q [c,e]) j r=Bt P Q n c j r ^^^ Bt P Q n e j r:=by
 refine (bt_sum d.hQ (css:=[c,e]) (by simp) (by intro x hx;simp only [List.mem_cons,List.not_mem_nil,or_false] at hx;rcases hx with rfl | rfl <;> assumption) j r).trans ?_
 simp only [List.map_cons,List.map_nil,xa_cons,xa_nil,UInt8.xor_zero]
end
def noC (Q n:Nat):List (List UInt8):=List.replicate Q (List.replicate n 0)
theorem noC_good {Q n:Nat} (h1:1≤n) (h64:n≤64):GoodC Q n (noC Q n):=by
 refine ⟨by unfold noC;simp,fun r hr=>?_⟩
 unfold noC
 rw [List.getElem?_replicate,if_pos hr]
 exact ⟨by unfold Cell;simp;exact ⟨h1,h64⟩,by simp⟩
theorem bt_noC {P Q n:Nat} (hQ:P=Q+1) (j:Nat) (r:Int):Bt P Q n (noC Q n) j r=0:=by
 unfold Bt wholeF noC
 split
 · rw [List.getElem?_replicate]
   split <;> exact at_nought _ _
 · exact at_nought _ _
end Go.Proofs.YtcchjofjpflbhaaGreatDoor.Ch

namespace Go.Proofs.YtcchjofjpflbhaaGreatDoor.Ch
open Go.RowKit Go.Shelf Go.Proofs.YtcchjofjpflbhaaGreatDoor.C Go.Proofs.YtcchjofjpflbhaaGreatDoor.E
attribute [local go_sem] Oper.semAt_some

def kept (L:List Int) (css:List (List (List UInt8))) (k:Nat):List (List (List UInt8)):=((List.range k).filter fun i:Nat=>decide ¬((i:Int)∈L)).map fun i=>css[i]?.getD []
theorem kept_in {L:List Int} {css:List (List (List UInt8))} {k:Nat} (h:(k:Int)∈L):kept L css (k+1)=kept L css k:=by
 unfold kept
 rw [List.range_succ,List.filter_append,List.filter_cons_of_neg (by simpa using h),List.filter_nil,List.append_nil]
theorem kept_out {L:List Int} {css:List (List (List UInt8))} {k:Nat} (h:(k:Int)∉L):kept L css (k+1)=kept L css k ++ [css[k]?.getD []]:=by
 unfold kept
 rw [List.range_succ,List.filter_append,List.filter_cons_of_pos (by simpa using h),List.filter_nil,List.map_append]
 rfl
theorem kept_len (L:List Int) (css:List (List (List UInt8))) (k:Nat):(kept L css k).length≤k:=by
 unfold kept
 rw [List.length_map]
 refine Nat.le_trans (List.length_filter_le _ _) ?_
 simp
theorem kept_mem {L:List Int} {css:List (List (List UInt8))} {k:Nat} {c:List (List UInt8)}:c∈kept L css k↔∃ i,i<k∧(i:Int)∉L∧c=css[i]?.getD []:=by
 unfold kept
 simp only [List.mem_map,List.mem_filter,List.mem_range,decide_eq_true_eq]
 constructor
 · rintro ⟨i,⟨h1,h2⟩,rfl⟩;exact ⟨i,h1,h2,rfl⟩
 · rintro ⟨i,h1,h2,rfl⟩;exact ⟨i,⟨h1,h2⟩,rfl⟩
theorem kept_pos {L:List Int} {css:List (List (List UInt8))} {k i:Nat} (hi:i<k) (h:(i:Int)∉L):0<(kept L css k).length:=List.length_pos_of_mem (kept_mem.2 ⟨i,hi,h,rfl⟩)
def lostC (L:List Int) (Q n:Nat) (css:List (List (List UInt8))):List (List (List UInt8)):=(List.range css.length).map fun i:Nat=>if (i:Int)∈L then noC Q n else css[i]?.getD []
theorem lostC_len (L:List Int) (Q n:Nat) (css:List (List (List UInt8))):(lostC L Q n css).length=css.length:=by unfold lostC;simp
theorem lostC_at (L:List Int) (Q n:Nat) (css:List (List (List UInt8))) {i:Nat} (hi:i<css.length):(lostC L Q n css)[i]?.getD []=if (i:Int)∈L then noC Q n else css[i]?.getD []:=by
 unfold lostC
 rw [List.getElem?_map,List.getElem?_range hi]
 rfl
theorem rowC_blk {B base:Nat} {W:World} {v:Value} {css:List (List (List UInt8))} (h:RowC (·<B) W base v css) (h0:0<css.length) :
 ∃ g cap cur,v = .slice (some ⟨g,0,none⟩) css.length cap∧css.length≤cap∧base≤g∧Blk W g 50 cur∧css.length≤cur.size∧∀ j,j<css.length→∃ u,cur[j]?=some u∧Many B W u (css[j]?.getD []):=by
 obtain ⟨us,ho,hn,hr⟩:=h
 rcases ho.2 with ⟨_,h1⟩ | ⟨g,cap,cur,e,hb,hg,hc,_,hs,ht⟩
 · omega
 · rw [hn] at e hc
   refine ⟨g,cap,cur,e,hc,hb,hg,by omega,fun j hj=>?_⟩
   have hj2:j<us.length:=by omega
   have e2:cur[j]?=us[j]?:=by
    rw [←ht,List.getElem?_take,if_pos (by omega),Array.getElem?_toList]
   refine ⟨us[j],by rw [e2,List.getElem?_eq_getElem hj2],?_⟩
   exact manyR.imp (hr j us[j] (List.getElem?_eq_getElem hj2)) fun b hb=>hb.2.2
theorem own_ints {W:World} {base:Nat} {v:Value} {L:List Int} (h:OwnN W base v (L.map (Value.int .i64))) (h0:0<L.length) :
 ∃ g cap,v = .slice (some ⟨g,0,none⟩) L.length cap∧base≤g∧g<W.heap.size∧∀ j,j<L.length→W.cell? ⟨g,j,none⟩=some (.int .i64 (L[j]?.getD 0)):=by
 have hl:(L.map (Value.int .i64)).length=L.length:=List.length_map _
 unfold OwnN at h
 rw [hl] at h
 obtain ⟨g,cap,e,hg,hg1⟩:=World.ownsRow.form h h0
 refine ⟨g,cap,e,hg,hg1,fun j hj=>?_⟩
 subst e
 rw [World.ownsRow.cellAt h j (by omega),List.getElem?_map,List.getElem?_eq_getElem hj]
 rfl
theorem no_manyP {P:Nat→Prop} {W:World} {g Q n:Nat} {nv:Value} (hb:Blk W g 64 (List.replicate Q nv).toArray) (hg:P g) (hn:BytesP P W nv (List.replicate n 0)):manyR.R P W (.slice (some ⟨g,0,none⟩) Q Q) (noC Q n):=by
 have hl:(noC Q n).length=Q:=by unfold noC;simp
 refine ⟨some ⟨g,0,none⟩,Q,by rw [hl],by rw [hl];exact Nat.le_refl _,fun _=>⟨g,0,rfl,hg,fun j hj=>?_⟩⟩
 rw [hl] at hj
 refine ⟨nv,?_,?_⟩
 · rw [Nat.zero_add,hb.cell j,List.getElem?_toArray,List.getElem?_replicate,if_pos hj]
 · unfold noC
   rw [List.getElem?_replicate,if_pos hj]
   exact hn
theorem q_mem {P Q:Nat} (hQ:P=Q+1) (hp:(P:Int)∈prm):Q∈[2,4,6,10,12,16]:=by
 have h:∀ p∈prm,(p - 1).toNat∈[2,4,6,10,12,16]:=by decide
 have:=h _ hp
 rwa [show ((P:Int) - 1).toNat=Q by omega] at this
end Go.Proofs.YtcchjofjpflbhaaGreatDoor.Ch

namespace Go.Proofs.YtcchjofjpflbhaaGreatDoor.Ch
open Go.RowKit Go.Shelf Go.Proofs.YtcchjofjpflbhaaGreatDoor.C Go.Proofs.YtcchjofjpflbhaaGreatDoor.E
attribute [local go_sem] Oper.semAt_some

theorem cols_take {B N M:Nat} {W:World} {A:Option Addr} {cap:Nat} {css:List (List (List UInt8))} (h:Cols B W (.slice A N cap) css) (hM:M≤N) (hN:css.length=N):Cols B W (.slice A M cap) (css.take M):=by
 obtain ⟨A',c,e,hc,hA⟩:=h
 injection e with e1 e2 e3
 subst e1;subst e3
 refine ⟨A,cap,by rw [List.length_take];congr 1;omega,by rw [List.length_take];omega,fun hp=>?_⟩
 rw [List.length_take] at hp
 obtain ⟨b,off,e,hb,hcell⟩:=hA (by omega)
 refine ⟨b,off,e,hb,fun j hj=>?_⟩
 rw [List.length_take] at hj
 obtain ⟨u,h1,h2⟩:=hcell j (by omega)
 exact ⟨u,h1,by rw [List.getElem?_take,if_pos (by omega)];exact h2⟩
section
variable {P Q n:Nat}
end
section
variable {P Q n:Nat}
theorem encZ (d:Rg.Dims P Q n) (css:List (List (List UInt8))) (hok:DataOk (P:Int) css) (v:Value) (w:World) (hL:Laid w) (hC:Cols w.heap.size w v css) :
 Calls Tryz.prog 114 #[.int .i64 (P:Int),v] w fun e w'=>∃ gm mo mc a2 c2 a3 c3,e = .returned (.tuple #[.slice (some ⟨gm,mo,none⟩) 2 mc,.int .i64 0])∧gm<w'.heap.size∧w'.cell? ⟨gm,mo,none⟩=some (.slice a2 Q c2)∧w'.cell? ⟨gm,mo+1,none⟩=some (.slice a3 Q c3)∧Many w'.heap.size w' (.slice a2 Q c2) (rowsMade Q css)∧Many w'.heap.size w' (.slice a3 Q c3) (diagsMade (P:Int) Q css)∧2≤mc∧Below w.heap.size w w':=by
 refine (encode_yes (B:=w.heap.size) (P:Int) v css hok w hL (Nat.le_refl _) hC).mono ?_
 rintro e w' ⟨u,rfl,hu,hB⟩
 have hq:((P:Int) - 1).toNat=Q:=by have:=d.hQ;omega
 obtain ⟨gm,mo,mc,hu2,hmc,hgm,hrow⟩:=hu.at_ (show 0<2 by omega)
 have he:(encOf (P:Int) css).length=2:=rfl
 rw [he] at hu2 hmc hrow
 subst hu2
 obtain ⟨u0,h0,m0⟩:=hrow 0 (by omega)
 obtain ⟨u1,h1,m1⟩:=hrow 1 (by omega)
 have e0:(encOf (P:Int) css)[0]?.getD []=rowsMade Q css:=by unfold encOf;rw [hq];rfl
 have e1:(encOf (P:Int) css)[1]?.getD []=diagsMade (P:Int) Q css:=by unfold encOf;rw [hq];rfl
 rw [e0] at m0
 rw [e1] at m1
 obtain ⟨a2,c2,rfl,_⟩:=id m0
 obtain ⟨a3,c3,rfl,_⟩:=id m1
 rw [rowsMade_len] at h0 m0
 rw [diagsMade_len] at h1 m1
 exact ⟨gm,mo,mc,a2,c2,a3,c3,rfl,hgm,h0,h1,m0,m1,hmc,hB⟩
end
end Go.Proofs.YtcchjofjpflbhaaGreatDoor.Ch

namespace Go.Proofs.YtcchjofjpflbhaaGreatDoor.Ch
open Go.RowKit Go.Shelf Go.Proofs.YtcchjofjpflbhaaGreatDoor.C Go.Proofs.YtcchjofjpflbhaaGreatDoor.E
attribute [local go_sem] Oper.semAt_some

theorem many2 {W:World} {B g:Nat} {t:TypeId} {ua ub:Value} {la lb:List UInt8} (h:Blk W g t #[ua,ub]) (ha:Bytes B W ua la) (hb:Bytes B W ub lb) (hg:g<B):Many B W (.slice (some ⟨g,0,none⟩) 2 2) [la,lb] :=
 ⟨_,2,rfl,Nat.le_refl _,fun _=>⟨g,0,rfl,hg,fun j hj=>by
  have hj2:j=0∨j=1:=by simp at hj;omega
  rcases hj2 with rfl | rfl
  · exact ⟨ua,h.cell 0,ha⟩
  · exact ⟨ub,h.cell 1,hb⟩⟩⟩
def rsF (P Q:Nat) (css:List (List (List UInt8))):List (List UInt8):=Rg.sumC Q [css[P]?.getD [],rowsMade Q (css.take P)]
def dsF (P Q:Nat) (css:List (List (List UInt8))):List (List UInt8):=Rg.sumC Q [css[P+1]?.getD [],diagsMade (P:Int) Q (css.take P)]
theorem take_ok {P Q n N:Nat} (d:Rg.Dims P Q n) {css:List (List (List UInt8))} (hN:N=P+2) (hcl:css.length=N) (hg:∀ c,c<N→GoodC Q n (css[c]?.getD [])):DataOk (P:Int) (css.take P)∧(firstC (css.take P)).length=n:=by
 have hQ:=d.hQ
 have hpb:=prm_bounds d.hp
 have hdl:(css.take P).length=P:=by rw [List.length_take];omega
 have hget:∀ c,c<P→(css.take P)[c]?.getD []=css[c]?.getD []:=fun c hc=>by rw [List.getElem?_take,if_pos hc]
 have hgd:∀ c,c<(css.take P).length→GoodC Q n ((css.take P)[c]?.getD []):=fun c hc=>by rw [hget c (by omega)];exact hg c (by omega)
 obtain ⟨hRD,hfn⟩:=Rg.right_of_good d.hQ d.hp (by omega) hgd
 exact ⟨⟨rightC1 d.hp,by rw [hdl],hRD.2⟩,hfn⟩
theorem rd_good {P Q n N:Nat} (d:Rg.Dims P Q n) {css:List (List (List UInt8))} (hN:N=P+2) (hcl:css.length=N) (hg:∀ c,c<N→GoodC Q n (css[c]?.getD [])):GoodC Q n (rsF P Q css)∧GoodC Q n (dsF P Q css) :=
 have h:=take_ok d hN hcl hg
 ⟨sum2_good d (hg P (by omega)) (rowsMade_good d h.1 h.2),sum2_good d (hg (P+1) (by omega)) (diagsMade_good d h.1 h.2)⟩
theorem xor_two {n:Nat} {la lb:List UInt8} (h1:1≤n) (h64:n≤64) (ha:la.length=n) (hb:lb.length=n):XorOk [la,lb]:=by
 refine ⟨by simp,⟨?_,?_⟩,fun j hj=>?_⟩
 · show 1≤la.length;omega
 · show la.length≤64;omega
 · have hj2:j=0∨j=1:=by simp at hj;omega
   rcases hj2 with rfl | rfl
   · rfl
   · show lb.length=la.length;omega
theorem whole_len {Q n:Nat} {D:List (List UInt8)} (hD:GoodC Q n D) (z:Nat):(Rg.wholeF Q n D z).length=n:=by
 unfold Rg.wholeF
 split
 · exact (hD.2 z (by assumption)).2
 · simp
end Go.Proofs.YtcchjofjpflbhaaGreatDoor.Ch

namespace Go.Proofs.YtcchjofjpflbhaaGreatDoor.Ch
open Go.RowKit Go.Shelf Go.Proofs.YtcchjofjpflbhaaGreatDoor.C Go.Proofs.YtcchjofjpflbhaaGreatDoor.E Go.Proofs.YtcchjofjpflbhaaGreatDoor.T
attribute [local go_sem] Oper.semAt_some

def Closed (md:Region.Mode) (ops:Array Oper) (listed:Array Bool):Prop:=∀ (j:Nat) (oj:Oper),ops[j]?=some oj→listed.getD j false=true→∀ e∈oj.after,Region.binds md e=true→listed.getD e.on false=true
theorem Closed.set_ {md:Region.Mode} {ops:Array Oper} {listed:Array Bool} (hc:Closed md ops listed) {j:Nat} (hr:j∈Region.ready md ops listed):Closed md ops (listed.setIfInBounds j true):=by
 obtain ⟨hjun,oj,hoj,hall⟩:=mem_ready.1 hr
 have key:∀ x,listed.getD x false=true→(listed.setIfInBounds j true).getD x false=true:=fun x hx=>by
  by_cases hjx:j=x
  · subst hjx
    rcases Nat.lt_or_ge j listed.size with h' | h'
    · simp [h']
    · simp [Array.getElem?_eq_none h'] at hx
  · rw [getD_set_ne false hjx];exact hx
 intro x ox hox hx e he hb
 by_cases hjx:j=x
 · subst hjx
   rw [hoj] at hox
   injection hox with hox
   subst hox
   exact key _ (hall e he hb)
 · rw [getD_set_ne false hjx] at hx
   exact key _ (hc x ox hox hx e he hb)
section
variable {F:Fence} {n:Nat} {P:Program} {md:Region.Mode} {ops:Array Oper} {Q:Exit→Act→World→Prop} {S:World→Prop} {m:Nat}
end
end Go.Proofs.YtcchjofjpflbhaaGreatDoor.Ch

namespace Go.Proofs.YtcchjofjpflbhaaGreatDoor.T
open Go.RowKit Go.Shelf Go.Maps Go.Proofs.YtcchjofjpflbhaaGreatDoor.C Go.Proofs.YtcchjofjpflbhaaGreatDoor.E Go.Proofs.YtcchjofjpflbhaaGreatDoor.Ch
attribute [local go_sem] Oper.semAt_some

theorem cells_of {w:World} {p:Addr} {v:Value} (h:w.cell? p=some v):∃ cs t fr,w.heap[p.block]?=some (.cells cs t fr):=by
 unfold World.cell? at h
 split at h
 · rename_i c t fr he
   exact ⟨c,t,fr,he⟩
 · cases h
end Go.Proofs.YtcchjofjpflbhaaGreatDoor.T

namespace Go.Proofs.YtcchjofjpflbhaaGreatDoor.T
open Go.RowKit Go.Shelf Go.Maps Go.Proofs.YtcchjofjpflbhaaGreatDoor.C Go.Proofs.YtcchjofjpflbhaaGreatDoor.E Go.Proofs.YtcchjofjpflbhaaGreatDoor.Ch
attribute [local go_sem] Oper.semAt_some

theorem RowG.impR {α:Type} {r:Rep α} {t:TypeId} {d:α} {Q Q2:Nat→Prop} {W:World} {base:Nat} {v:Value} {xs:List α} (h:RowG r t d Q W base v xs) (hq:∀ b,Q b→Q2 b):RowG r t d Q2 W base v xs:=by
 obtain ⟨us,ho,hn,hr⟩:=h
 exact ⟨us,ho,hn,fun j u hu=>r.imp (hr j u hu) fun b hb=>⟨hb.1,hb.2.1,hq b hb.2.2⟩⟩
theorem RowG.formR {α:Type} {r:Rep α} {t:TypeId} {d:α} {Q:Nat→Prop} {W:World} {base:Nat} {v:Value} {xs:List α} (h:RowG r t d Q W base v xs):∃ A n c,v = .slice A n c:=by
 obtain ⟨us,ho,_⟩:=h
 rcases ho.2 with ⟨h1,_⟩ | ⟨g,cap,cur,h1,_⟩
 · exact ⟨_,_,_,h1⟩
 · exact ⟨_,_,_,h1⟩
theorem RowG.ownCells {α:Type} {r:Rep α} {t:TypeId} {d:α} {Q:Nat→Prop} {W:World} {base:Nat} {v:Value} {xs:List α} (h:RowG r t d Q W base v xs) {b:Nat} (hb:v.ownBlock=some b):∃ cs t fr,W.heap[b]?=some (.cells cs t fr):=by
 obtain ⟨us,ho,_⟩:=h
 rcases ho.2 with ⟨rfl,_⟩ | ⟨g,cap,cur,rfl,_,hg,_⟩
 · cases hb
 · injection hb with hb
   have e':g=b:=hb
   subst e'
   exact ⟨_,_,_,hg⟩
theorem RowG.farR {α:Type} {r:Rep α} {t:TypeId} {d:α} {Q:Nat→Prop} {W:World} {base:Nat} {v:Value} {xs:List α} (h:RowG r t d Q W base v xs) {p:Addr} (hp:some p.block≠v.ownBlock) (hq:∀ b,Q b→b≠p.block) (u:Value):RowG r t d Q (W.setCell p u) base v xs:=by
 obtain ⟨us,ho,hn,hr⟩:=h
 refine ⟨us,⟨ho.1,?_⟩,hn,fun j y hy=>?_⟩
 · rcases ho.2 with h1 | ⟨g,cap,cur,e,h2,hg,rest⟩
   · exact .inl h1
   · exact .inr ⟨g,cap,cur,e,h2,(Below.heap_setCell W p u g (fun e2=>hp (by rw [e,←e2];rfl))).trans hg,rest⟩
 · exact r.imp (r.keep (hr j y hy) fun b hb=>Below.heap_setCell W p u b (hq b hb.2.2)) fun b hb=>⟨by simpa using hb.1,hb.2⟩
theorem RowG.moved {α:Type} {r:Rep α} {t:TypeId} {d:α} {Q:Nat→Prop} {W W':World} {base:Nat} {v:Value} {xs:List α} (h:RowG r t d Q W base v xs) (hs:W.heap.size≤W'.heap.size) (hk:∀ b,b<W.heap.size→(v.ownBlock=some b∨Q b)→W'.heap[b]?=W.heap[b]?):RowG r t d Q W' base v xs:=by
 obtain ⟨us,ho,hn,hr⟩:=h
 refine ⟨us,⟨ho.1,?_⟩,hn,fun j y hy=>?_⟩
 · rcases ho.2 with h1 | ⟨g,cap,cur,e,h2,hg,rest⟩
   · exact .inl h1
   · exact .inr ⟨g,cap,cur,e,h2,(hk g (Array.getElem?_eq_some_iff.1 hg).1 (.inl (by rw [e];rfl))).trans hg,rest⟩
 · exact r.imp (r.keep (hr j y hy) fun b hb=>hk b hb.1 (.inr hb.2.2)) fun b hb=>⟨Nat.lt_of_lt_of_le hb.1 hs,hb.2⟩
theorem fresh_block {base n:Nat} {W:World} {A:Option Addr} {c:Nat} {l:List UInt8} (h:Fresh base W (.slice A n c) l) (hl:l.length=n) (h1:1≤n):∃ b off,A=some ⟨b,off,none⟩∧base≤b∧b<W.heap.size∧(∃ cs t fr,W.heap[b]?=some (.cells cs t fr)):=by
 obtain ⟨A2,cap,e,hc,hA⟩:=h
 injection e with e1 e2 e3
 subst e1
 obtain ⟨b,off,e2,hb1,hb2,hcell⟩:=hA (by omega)
 exact ⟨b,off,e2,hb1,hb2,cells_of (hcell 0 (by omega))⟩
end Go.Proofs.YtcchjofjpflbhaaGreatDoor.T

namespace Go.Proofs.YtcchjofjpflbhaaGreatDoor.T
open Go.RowKit Go.Shelf Go.Maps Go.Proofs.YtcchjofjpflbhaaGreatDoor.C Go.Proofs.YtcchjofjpflbhaaGreatDoor.E Go.Proofs.YtcchjofjpflbhaaGreatDoor.Ch
attribute [local go_sem] Oper.semAt_some

theorem made_rep (n:Nat):madeCells (Value.slice none 0 0).cells n=Array.replicate n (.slice none 0 0):=Array.ext (by simp [madeCells]) fun k h1 h2=>by simp [madeCells,Value.cells,Nat.mod_one]
theorem opIn_make {F:Fence} {nF:Nat} (w:World) {o:Oper} {a:Act} {K:Act→World→Prop} {QQ:Exit→Act→World→Prop} (l c:Operand)
 (ho:o.op = .makeSlice 50 l c) (n:Nat) (hl:a.eval l = .int .i64 (n:Int)) (hc:a.eval c = .int .i64 (n:Int)) (hn:n≤1000)
 (hK:∀ w',Blk w' w.heap.size 64 (Array.replicate n (.slice none 0 0))→Below w.heap.size w w'→K (a.put o.dst (.slice (some ⟨w.heap.size,0,none⟩) n n)) w'):Oper.wpIn F nF Tryz.prog o a w K QQ:=by
 obtain ⟨i,hi,hz0,hz1,hz2⟩:=info_parts Tryz.infoSlcE
 have hrun:=run_make (P:=Tryz.prog) w 50 64 i (.slice none 0 0) Tryz.underlying50 hi hz0 .i64 .i64 (n:Int) (n:Int) (by omega) (Int.le_refl _) (by rw [hz2];omega) (by omega)
 unfold Oper.wpIn
 refine ⟨by simp [Oper.about,ho],?_⟩
 rw [Oper.semAt_plain F _ _ (by rw [ho];intro c hc';cases hc')]
 simp [execOp,ho,hl,hc,hrun,Result.andThen,Oper.uponIn]
 have e:madeCells (Value.slice none 0 0).cells (n * i.size)=Array.replicate n (.slice none 0 0):=by
  rw [hz1,Nat.mul_one]
  exact made_rep n
 rw [e]
 exact hK _ (Blk.new w _ _) (below_one w _)
end Go.Proofs.YtcchjofjpflbhaaGreatDoor.T

namespace Go.Proofs.YtcchjofjpflbhaaGreatDoor.Ch
open Go.RowKit Go.Shelf Go.Proofs.YtcchjofjpflbhaaGreatDoor.C Go.Proofs.YtcchjofjpflbhaaGreatDoor.E Go.Proofs.YtcchjofjpflbhaaGreatDoor.Rg Go.Proofs.YtcchjofjpflbhaaGreatDoor.T

theorem list_at {n:Nat} {a b:List UInt8} (ha:a.length=n) (hb:b.length=n) (h:∀ j,at_ a j=at_ b j):a=b:=by
 refine List.ext_getElem (by omega) fun j h1 h2=>?_
 have:=h j
 unfold at_ at this
 rwa [List.getElem?_eq_getElem h1,List.getElem?_eq_getElem h2] at this
section
variable {P Q n:Nat} {R D A B:List (List UInt8)} {a b:Int}
structure Solves (P Q n:Nat) (R D A B:List (List UInt8)) (a b:Int):Prop where
 gA:GoodC Q n A
 gB:GoodC Q n B
 hR:∀ j r,Bt P Q n R j r=Bt P Q n A j r ^^^ Bt P Q n B j r
 hD:∀ j r,Bt P Q n D j r=tu a (Bt P Q n A j) r ^^^ tu b (Bt P Q n B j) r
end
end Go.Proofs.YtcchjofjpflbhaaGreatDoor.Ch

namespace Go.Proofs.YtcchjofjpflbhaaGreatDoor.T
open Go.RowKit Go.Shelf Go.Maps Go.Proofs.YtcchjofjpflbhaaGreatDoor.C Go.Proofs.YtcchjofjpflbhaaGreatDoor.E Go.Proofs.YtcchjofjpflbhaaGreatDoor.Ch
attribute [local go_sem] Oper.semAt_some

def StayT (w0 W0:World) (E:Nat→Prop) (V:World):Prop:=Below w0.heap.size w0 V∧W0.heap.size≤V.heap.size∧∀ b,b<W0.heap.size→¬ E b→V.heap[b]?=W0.heap[b]?
theorem StayT.one {w0 W0:World} {E:Nat→Prop} {X Y:World} (h:StayT w0 W0 E X) (hB:Below X.heap.size X Y):StayT w0 W0 E Y :=
 ⟨below_in h.1 hB,Nat.le_trans h.2.1 hB.size,fun b h1 h2=>(hB.block b (Nat.lt_of_lt_of_le h1 h.2.1)).trans (h.2.2 b h1 h2)⟩
theorem StayT.two {w0 W0:World} {E:Nat→Prop} {X Y:World} {row:Option Nat} {lo:Nat} (h:StayT w0 W0 E X) (hg:X.grownBy Y row) (hr:∀ r,row=some r→lo≤r) (h0:w0.heap.size≤lo) (h1:W0.heap.size≤lo):StayT w0 W0 E Y :=
 ⟨below_grown h.1 hg h.1.size (fun r e=>Nat.le_trans h0 (hr r e)),Nat.le_trans h.2.1 hg.size,fun b h2 h3=>(hg.block b (Nat.lt_of_lt_of_le h2 h.2.1) (fun e=>by have:=hr b e.symm;omega)).trans (h.2.2 b h2 h3)⟩
end Go.Proofs.YtcchjofjpflbhaaGreatDoor.T
