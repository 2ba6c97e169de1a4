/- -/
import Derived.Test.YtcchjofjpflbhaaGreatDoorPAG16m6
import Derived.Test.YtcchjofjpflbhaaGreatDoorPAG20
import Derived.Test.YtcchjofjpflbhaaGreatDoorPAG12m2
import Derived.Test.YtcchjofjpflbhaaGreatDoorCards
import Derived.Test.YtcchjofjpflbhaaGreatDoorTie
import Derived.SevenTiedAt
set_option linter.unusedVariables false
set_option linter.unusedSimpArgs false
set_option maxRecDepth 100000
set_option maxHeartbeats 4000000
namespace Go.Proofs.YtcchjofjpflbhaaGreatDoor.Ch
open Go.RowKit Go.Shelf Go.Maps Go.Proofs.YtcchjofjpflbhaaGreatDoor.C Go.Proofs.YtcchjofjpflbhaaGreatDoor.E Go.Proofs.YtcchjofjpflbhaaGreatDoor.Rg
attribute [local go_sem] Oper.semAt_some

theorem among_any (b off cap:Nat) (ls:List Int) (x:Int) (hls:ls.length≤1000) (w:World) (hcell:∀ j,j<ls.length→w.cell? ⟨b,off+j,none⟩=some (.int .i64 (ls[j]?.getD 0))) :
 Calls Tryz.prog 64 #[.slice (some ⟨b,off,none⟩) ls.length cap,.int .i64 x] w fun e w'=>e = .returned (.bool (decide (x∈ls)))∧w'=w:=by
 have HCE:=Lib.hid hcell
 clear hcell
 obtain ⟨r,hr⟩:∃ r,decide (x∈ls)=r:=⟨_,rfl⟩
 have HR:=Lib.hid hr
 rw [hr]
 clear hr
 go_enter Tryz.func64,Tryz.ntmps64
 go_wp2_with fail
 go_loop [5] (fun i=>∃ k:Nat,k≤ls.length∧i = .int .i64 k∧Hid (x∉ls.take k)) (fun i=>ls.length - (intOf i).toNat)
 case atStart=>exact ⟨0,Nat.zero_le _,rfl,Lib.hid (by simp)⟩
 case round =>
  obtain ⟨k,hk,rfl,HN⟩:=hrel
  by_cases hlt:k<ls.length
  · have hdec:decide ((k:Int)<(ls.length:Int))=true:=by simp;omega
    have i1:(0:Int)≤(k:Int):=by omega
    have i2:(k:Int)<(ls.length:Int):=by omega
    have hc:=HCE.out k hlt
    have hg:ls[k]?.getD 0=ls[k]:=by rw [List.getElem?_eq_getElem hlt];rfl
    have HT:Hid (ls.take (k+1)=ls.take k ++ [ls[k]]):=List.take_succ_eq_append_getElem hlt
    rw [hg] at hc
    by_cases hx:x=ls[k]
    · have HE:Hid (r=true):=by
       unfold Hid
       rw [←HR.out]
       exact decide_eq_true (by rw [hx];exact List.getElem_mem hlt)
      generalize ls[k]=y at hc hx
      subst hx
      have hd:(x == x)=true:=by simp
      clear HT hg
      go_wp2
      go_ret
      exact ⟨by rw [HE.out];rfl,rfl⟩
    · have hd:(ls[k] == x)=false:=by rw [beq_eq_false_iff_ne];exact fun h=>hx h.symm
      have HN2:Hid (x∉ls.take (k+1)):=by
       unfold Hid
       rw [HT.out]
       intro h
       rcases List.mem_append.1 h with h | h
       · exact HN.out h
       · exact hx (List.mem_singleton.1 h)
      have HX:=Lib.hid hx
      generalize ls[k]=y at hc hd
      clear HT hg hx HX
      go_wp2
      go_round
      case rel=>exact ⟨k+1,by omega,by go_num,HN2⟩
      case measure=>simp [intOf];omega
  · obtain rfl:k=ls.length:=by omega
    have e1:decide ((ls.length:Int)<(ls.length:Int))=false:=by simp
    have HE:Hid (r=false):=by
     unfold Hid
     rw [←HR.out]
     have:=HN.out
     rw [List.take_length] at this
     exact decide_eq_false this
    go_wp2
    go_ret
    exact ⟨by rw [HE.out];rfl,rfl⟩
theorem right11_any {B:Nat} (p many:Int) (hp:p∈prm) (g cap:Nat) (L:List Int) (hLl:L.length≤1000) (css:List (List (List UInt8))) (hN:(css.length:Int)=many) (hN0:0<css.length) (hNl:css.length≤100) (v:Value) (w:World) (hB:B≤w.heap.size) (hg:g<w.heap.size) (hcell:∀ j,j<L.length→w.cell? ⟨g,j,none⟩=some (.int .i64 (L[j]?.getD 0))) (hC:Cols B w v css) (b:Bool) (hb:b=true↔RightD p (kept L css css.length)) :
 Calls Tryz.prog 26 #[.int .i64 p,v,.int .i64 many,.slice (some ⟨g,0,none⟩) L.length cap] w fun e w'=>e = .returned (.bool b)∧Below w.heap.size w w':=by
 have HR:=Lib.hid (Go.Proofs.YtcchjofjpflbhaaGreatDoor.right_any p w)
 rw [decide_eq_true hp] at HR
 obtain ⟨gl,go,vc,rfl,hcapN,hgl,hrow⟩:=hC.at_ hN0
 have HROW:=Lib.hid hrow
 have HR6:=Lib.hid (fun (V:World) (kv:Value) (hk:Cols V.heap.size V kv (kept L css css.length))=>right6_any (B:=V.heap.size) p kv _ V (Nat.le_refl _) hk (Nat.le_trans (kept_len _ _ _) (by omega)) b hb)
 have HCNT:=Lib.hid (fun (x:Int) (V:World) (h:∀ j,j<L.length→V.cell? ⟨g,j,none⟩=some (.int .i64 (L[j]?.getD 0)))=>among_any g 0 cap L x hLl V (fun j hj=>by rw [Nat.zero_add];exact h j hj))
 have HCE:=Lib.hid hcell
 obtain ⟨N,hNe⟩:∃ N,css.length=N:=⟨_,rfl⟩
 rw [hNe] at hN hN0 hNl hcapN HROW HR6 ⊢
 subst hN
 have e0:((N:Int) != (N:Int))=false:=by simp
 obtain ⟨M,hM⟩:∃ M,L.length=M:=⟨_,rfl⟩
 rw [hM] at HCNT HCE ⊢
 clear hC hrow hNe hp hcell hM hb hLl
 go_enter Tryz.func26,Tryz.ntmps26
 go_wp2_with fail
 refine HR.out.mono ?_
 rintro e w1 ⟨rfl,hB1⟩
 clear HR
 go_wp2_with fail
 clear e0
 go_loopw [9,10] (fun v i wr=>∃ k:Nat,k≤N∧i = .int .i64 k∧RowC (·<B) wr w1.heap.size v (kept L css k)∧Below w1.heap.size w1 wr) (fun _ i _=>N - (intOf i).toNat)
 case atStart=>exact ⟨0,Nat.zero_le _,rfl,RowG.nil _ _ _ _ _ _,Below.refl _ _⟩
 case round =>
  obtain ⟨k,hk,rfl,hrw,hBr⟩:=hrel
  have hs1:=hB1.size
  by_cases hlt:k<N
  · have hdec:decide ((k:Int)<(N:Int))=true:=by simp;omega
    obtain ⟨u1,hc1,hm1⟩:=HROW.out k hlt
    obtain ⟨A4,cap4,rfl,_,_⟩:=id hm1
    have hc2:=((below_in hB1 hBr).cell (p:=⟨gl,go+k,none⟩) (Nat.lt_of_lt_of_le hgl hB)).trans hc1
    have hm2:Many B wr _ _:=hm1.below ((below_in hB1 hBr).mono hB)
    have HCN:=Lib.hid (HCNT.out (k:Int) wr (fun j hj=>((below_in hB1 hBr).cell (p:=⟨g,j,none⟩) hg).trans (HCE.out j hj)))
    have i1:(0:Int)≤(k:Int):=by omega
    have i2:(k:Int)<(N:Int):=by omega
    have hszr:=hBr.size
    by_cases hmem:(k:Int)∈L
    · have hnx:=kept_in (css:=css) hmem
      rw [decide_eq_true hmem] at HCN
      have HNX:=Lib.hid (And.intro hnx hrw)
      clear hc1 hm1 hm2 hnx hmem hrw
      generalize (css[k]?.getD []).length=n7 at *
      go_wp2_with (go_at_call 64;refine HCN.out.mono ?_;rintro e w2 ⟨rfl,rfl⟩)
      go_roundw
      case rel=>exact ⟨k+1,by omega,by go_num,by rw [HNX.out.1];exact HNX.out.2,hBr⟩
      case measure=>simp [intOf];omega
    · have hnx:=kept_out (css:=css) hmem
      rw [decide_eq_false hmem] at HCN
      have HVLE:=Lib.hid (fun b e=>RowG.own_le hrw b e)
      have hpl:(kept L css k).length≤100:=by have:=kept_len L css k;omega
      clear hc1 hm1
      generalize css[k]?.getD []=xs at *
      generalize kept L css k=pre at *
      have HNX:=Lib.hid hnx
      clear hnx hmem
      generalize xs.length=n7 at *
      have hcells:Below wr.heap.size wr (wr.alloc (.cells #[.slice A4 n7 cap4] 50)):=below_one wr _
      have HROWC:=Lib.hid (RowG.below hrw hcells)
      have HBLK:=Lib.hid (Blk.new wr 50 #[.slice A4 n7 cap4])
      have HCP:Hid (manyR.R (fun b=>b<(wr.alloc (.cells #[.slice A4 n7 cap4] 50)).heap.size∧some b≠u9.ownBlock∧b<B) (wr.alloc (.cells #[.slice A4 n7 cap4] 50)) (.slice A4 n7 cap4) xs) :=
       SliceP.imp (hm2.below (hcells.mono (by omega))) fun b hb=>⟨by have hb':b<B:=hb;simp;omega,fun e=>by have:=HVLE.out b e.symm;have hb':b<B:=hb;omega,hb⟩
      clear hrw hm2
      go_wp2_with (first
       | (go_at_call 64;refine HCN.out.mono ?_;rintro e w2 ⟨rfl,rfl⟩)
       | (at_builtin;refine wpList_pushC (T:=40) _ rfl _ _ rfl Tryz.underlying40 pre rfl HROWC.out w2.heap.size 50 _ xs rfl HBLK.out HCP.out (by omega) (by simp;omega) ?_;intro v' w3 hrow4 hgrow hown))
      go_roundw
      case rel=>exact ⟨k+1,by omega,by go_num,by rw [HNX.out];exact hrow4,below_grown (below_in hBr hcells) hgrow (by simp;omega) (fun g e=>by have:=HVLE.out g e;omega)⟩
      case measure=>simp [intOf];omega
  · obtain rfl:k=N:=by omega
    have e1:decide ((k:Int)<(k:Int))=false:=by simp
    have hcc:=RowC.cols hrw
    have HKV:=Lib.hid (HR6.out _ _ hcc)
    have hBq:=below_in hB1 hBr
    obtain ⟨kA,kc,hkv,_,_⟩:=id hcc
    subst hkv
    generalize (kept L css k).length=K at *
    clear hcc hrw
    go_wp2_with fail
    refine HKV.out.mono ?_
    rintro e w5 ⟨rfl,hB5⟩
    go_wp2
    go_ret
    exact ⟨rfl,below_in hBq hB5⟩
theorem sums11_any {B P Q n:Nat} (d:Dims P Q n) (g cap:Nat) (L:List Int) (hLl:L.length≤1000) (fc:Int) (hf:0≤fc∧fc≤1) (css:List (List (List UInt8))) (N:Nat) (hcl:css.length=N) (hN:P≤N) (hgood:∀ c:Nat,c<P→(c:Int)∉L→GoodC Q n (css[c]?.getD [])) (fr:List (List UInt8)) (gf:GoodC Q n fr) (fv:Value) (vA:Option Addr) (vc:Nat) (w:World) (hB:B≤w.heap.size) (hg:g<w.heap.size) (hcell:∀ j,j<L.length→w.cell? ⟨g,j,none⟩=some (.int .i64 (L[j]?.getD 0))) (hC:Cols B w (.slice vA N vc) css) (hF:Many w.heap.size w fv fr) :
 Calls Tryz.prog 65 #[.int .i64 (P:Int),.slice vA N vc,fv,.int .i64 (P:Int),.slice (some ⟨g,0,none⟩) L.length cap,.int .i64 fc] w fun e w'=>∃ u,e = .returned u∧Many w'.heap.size w' u (sumsD P Q n css fr L fc P)∧Below w.heap.size w w':=by
 have hpb:=prm_bounds d.hp
 obtain ⟨gl,go,vc',hve,hcapN,hgl,hrow⟩:=hC.at_ (by omega)
 injection hve with e1 e2 e3
 subst e1 e3
 clear e2
 have HROW:=Lib.hid hrow
 have HCNT:=Lib.hid (fun (x:Int) (V:World) (h:∀ j,j<L.length→V.cell? ⟨g,j,none⟩=some (.int .i64 (L[j]?.getD 0)))=>among_any g 0 cap L x hLl V (fun j hj=>by rw [Nat.zero_add];exact h j hj))
 have HCE:=Lib.hid hcell
 have HG:=Lib.hid (fun m=>sumsD_good (css:=css) (L:=L) (f:=fc) d gf m)
 have HGD:=Lib.hid hgood
 have HCL:=Lib.hid hcl
 obtain ⟨M,hM⟩:∃ M,L.length=M:=⟨_,rfl⟩
 rw [hM] at HCNT HCE ⊢
 have HIN:Hid (∀ k,(k:Nat)<P→((k:Int)∈L)→sumsD P Q n css fr L fc (k+1)=sumsD P Q n css fr L fc k):=fun k hk h=>by
  show (if (k:Int)∈L then _ else _) = _
  rw [if_pos h]
 have HOUT:Hid (∀ k,(k:Nat)<P→((k:Int)∉L)→sumsD P Q n css fr L fc (k+1)=putC (sumsD P Q n css fr L fc k) (turnC P Q n (css[k]?.getD []) ((k:Int) * fc))):=fun k hk h=>by
  show (if (k:Int)∈L then _ else _) = _
  rw [if_neg h]
 have hF0:Many w.heap.size w fv (sumsD P Q n css fr L fc 0):=hF
 clear hC hrow hcell hM hLl hgood gf hcl hF hcapN
 go_enter Tryz.func65,Tryz.ntmps65
 go_wp2_with fail
 go_loopw [13,14] (fun v i wr=>∃ k:Nat,k≤P∧i = .int .i64 k∧Many wr.heap.size wr v (sumsD P Q n css fr L fc k)∧Below w.heap.size w wr) (fun _ i _=>P - (intOf i).toNat)
 case atStart=>exact ⟨0,Nat.zero_le _,rfl,hF0,Below.refl _ _⟩
 case round =>
  clear hF0
  obtain ⟨k,hk,rfl,hrw,hBr⟩:=hrel
  by_cases hlt:k<P
  · have hdec:decide ((k:Int)<(P:Int))=true:=by simp;omega
    obtain ⟨u1,hc1,hm1⟩:=HROW.out k (by have:=HCL.out;omega)
    obtain ⟨A4,cap4,rfl,_,_⟩:=id hm1
    have hc2:=(hBr.cell (p:=⟨gl,go+k,none⟩) (Nat.lt_of_lt_of_le hgl hB)).trans hc1
    have hm2:=(hm1.below (hBr.mono hB)).more (Nat.le_trans hB hBr.size)
    have HCN:=Lib.hid (HCNT.out (k:Int) wr (fun j hj=>(hBr.cell (p:=⟨g,j,none⟩) hg).trans (HCE.out j hj)))
    have i1:(0:Int)≤(k:Int):=by omega
    have i2:(k:Int)<(N:Int):=by omega
    have hszr:=hBr.size
    by_cases hmem:(k:Int)∈L
    · rw [decide_eq_true hmem] at HCN
      have HNX:=Lib.hid (And.intro (HIN.out k hlt hmem) hrw)
      clear hc1 hm1 hm2 hmem hrw
      generalize (css[k]?.getD []).length=n7 at *
      go_wp2_with (go_at_call 64;refine HCN.out.mono ?_;rintro e w2 ⟨rfl,rfl⟩)
      go_roundw
      case rel=>exact ⟨k+1,by omega,by go_num,by rw [HNX.out.1];exact HNX.out.2,hBr⟩
      case measure=>simp [intOf];omega
    · rw [decide_eq_false hmem] at HCN
      have HNX:=Lib.hid (HOUT.out k hlt hmem)
      have gk:=HGD.out k hlt hmem
      have hkf:0≤(k:Int) * fc∧(k:Int) * fc≤(k:Int):=by
       rcases (by omega:fc=0∨fc=1) with h | h
       · rw [h,Int.mul_zero];omega
       · rw [h,Int.mul_one];omega
      have hwm:IntKind.i64.wrap ((k:Int) * fc)=(k:Int) * fc:=IntWalk.i64_in _ (by omega)
      rw [gk.1] at hc2 hm2
      have HTU:=Lib.hid (turnD_any d ((k:Int) * fc) (by omega) (by omega) _ gk (.slice A4 Q cap4) wr hm2)
      have HPU:=Lib.hid (fun (V:World) (u v:Value) (h1:Many V.heap.size V u (sumsD P Q n css fr L fc k)) (h2:Many V.heap.size V v (turnC P Q n (css[k]?.getD []) ((k:Int) * fc)))=>putY d _ _ (HG.out k) (turn_good d.h1 d.h64 gk _) u v V h1 h2)
      have HRW:=Lib.hid hrw
      clear hc1 hm1 hm2 hmem gk hkf hrw
      go_wp2_with (go_at_call 64;refine HCN.out.mono ?_;rintro e w2 ⟨rfl,rfl⟩)
      refine HTU.out.mono ?_
      rintro e w3 ⟨u3,rfl,hu3,hB3⟩
      go_wp2_with fail
      refine (HPU.out w3 _ _ ((HRW.out.below hB3).more hB3.size) hu3).mono ?_
      rintro e w4 ⟨u4,rfl,hu4,hB4⟩
      go_wp2
      go_roundw
      case rel=>exact ⟨k+1,by omega,by go_num,by rw [HNX.out];exact hu4,below_in hBr (below_in hB3 hB4)⟩
      case measure=>simp [intOf];omega
  · obtain rfl:k=P:=by omega
    have e1:decide ((k:Int)<(k:Int))=false:=by simp
    go_wp2
    go_ret
    exact ⟨_,rfl,hrw,hBr⟩
theorem two_cell {V:World} {g:Nat} {a b:Int} (h:Blk V g 3 #[.int .i64 a,.int .i64 b]):∀ j,j < [a,b].length→V.cell? ⟨g,j,none⟩=some (.int .i64 ([a,b][j]?.getD 0)):=by
 intro j hj
 have hj2:j=0∨j=1:=by simp at hj;omega
 rcases hj2 with rfl | rfl
 · exact h.cell 0
 · exact h.cell 1
end Go.Proofs.YtcchjofjpflbhaaGreatDoor.Ch

namespace Go.Proofs.YtcchjofjpflbhaaGreatDoor.Ch
open Go.RowKit Go.Shelf Go.Proofs.YtcchjofjpflbhaaGreatDoor.C Go.Proofs.YtcchjofjpflbhaaGreatDoor.E Go.Proofs.YtcchjofjpflbhaaGreatDoor.T

theorem few_len {s:List (List (List UInt8))} (h:Few6 s):s.length≤1000∧(∀ j i:Nat,(s[j]?.getD []).length≤1000∧((s[j]?.getD [])[i]?.getD []).length≤1000):=by
 refine ⟨by have:=h.1;omega,fun j i=>?_⟩
 rcases Nat.lt_or_ge j s.length with hj | hj
 · have h2:=h.2 j hj
   refine ⟨by have:=h2.1;omega,?_⟩
   rcases Nat.lt_or_ge i (s[j]?.getD []).length with hi | hi
   · have:=h2.2 i hi;omega
   · rw [List.getElem?_eq_none hi];exact Nat.zero_le _
 · rw [List.getElem?_eq_none hj]
   exact ⟨Nat.zero_le _,by simp⟩
theorem kept_good {Q n:Nat} {L:List Int} {css:List (List (List UInt8))} (h:∀ j,j<(kept L css css.length).length→GoodC Q n ((kept L css css.length)[j]?.getD [])):∀ i,i<css.length→(i:Int)∉L→GoodC Q n (css[i]?.getD []):=fun i hi hm=>by
 have hm2:css[i]?.getD []∈kept L css css.length:=kept_mem.2 ⟨i,hi,hm,rfl⟩
 obtain ⟨j,hj,e⟩:=List.mem_iff_getElem.1 hm2
 have h2:=h j hj
 rw [List.getElem?_eq_getElem hj] at h2
 have h3:GoodC Q n (kept L css css.length)[j]:=h2
 rwa [e] at h3
section
variable {P Q n:Nat} {x y:List (List (List UInt8))} {L:List Int}
end
end Go.Proofs.YtcchjofjpflbhaaGreatDoor.Ch

namespace Go.Proofs.YtcchjofjpflbhaaGreatDoor.T
open Go.RowKit Go.Shelf Go.Maps Go.Proofs.YtcchjofjpflbhaaGreatDoor.C Go.Proofs.YtcchjofjpflbhaaGreatDoor.E Go.Proofs.YtcchjofjpflbhaaGreatDoor.Ch Go.Proofs.YtcchjofjpflbhaaGreatDoor.Rg
attribute [local go_sem] Oper.semAt_some

theorem noughtF_any (n:Nat) (hn:n≤1000) (w:World):Calls Tryz.prog 89 #[.int .i64 (n:Int)] w fun e w'=>∃ A c,e = .returned (.slice A n c)∧Fresh w.heap.size w' (.slice A n c) (List.replicate n 0)∧Below w.heap.size w w':=by
 obtain ⟨i0,hi,hz0,hz1,hz2⟩:=info_parts Tryz.infoByte
 have hmk:=fun W:World=>run_make (P:=Tryz.prog) W 64 5 i0 (.int .u8 0) Tryz.underlying64 hi hz0 .i64 .i64 (n:Int) (n:Int) (by omega) (by omega) (by rw [hz2];omega) (by omega)
 simp only [hz1,Nat.mul_one,Int.toNat_natCast] at hmk
 have hR:=Row.made w n
 have hBz:=below_one w (.cells (madeCells #[.int .u8 0] n) 5)
 go_enter Tryz.func89,Tryz.ntmps89
 go_wp2
 go_ret
 refine ⟨_,_,rfl,?_,hBz⟩
 exact ⟨_,n,by rw [List.length_replicate],by rw [List.length_replicate];exact Nat.le_refl _,fun hp=>⟨w.heap.size,0,rfl,Nat.le_refl _,hR.lt,fun j hj=>by rw [Nat.zero_add];exact hR.cell hj⟩⟩
theorem no_take {Q n m:Nat} (hm:m<Q):(noC Q n).take (m+1)=(noC Q n).take m ++ [List.replicate n 0]:=by
 unfold noC
 rw [List.take_replicate,List.take_replicate,show min (m+1) Q=m+1 by omega,show min m Q=m by omega,List.replicate_succ']
theorem nought12_any {P Q n:Nat} (hQ:P=Q+1) (hP:P≤100) (hn:n≤1000) (w:World) :
 Calls Tryz.prog 66 #[.int .i64 (P:Int),.int .i64 (n:Int)] w fun e w'=>∃ u,e = .returned u∧Many w'.heap.size w' u (noC Q n)∧Below w.heap.size w w':=by
 have HNO:=Lib.hid (fun V=>noughtF_any n hn V)
 have hw1:IntKind.i64.wrap ((P:Int) - 1)=(Q:Int):=by rw [show (P:Int) - 1=(Q:Int) by omega];exact IntWalk.i64_in _ (by omega)
 have HL0:Hid ((noC Q n).length=Q):=by unfold Hid noC;simp
 have hQ100:Q≤100:=by omega
 clear hQ hP
 go_enter Tryz.func66,Tryz.ntmps66
 go_wp2_with fail
 go_loopw [5,6] (fun v i wr=>∃ m:Nat,m≤Q∧i = .int .i64 m∧RowM (fun _=>True) wr w.heap.size v ((noC Q n).take m)∧Below w.heap.size w wr) (fun _ i _=>Q - (intOf i).toNat)
 case atStart=>exact ⟨0,Nat.zero_le _,rfl,RowG.nil _ _ _ _ _ _,Below.refl _ _⟩
 case round =>
  obtain ⟨m,hm,rfl,hrw,hBr⟩:=hrel
  by_cases hlt:m<Q
  · have hdec:decide ((m:Int)<(Q:Int))=true:=by simp;omega
    have HNX:=Lib.hid (no_take (n:=n) hlt)
    have HPL:Hid (((noC Q n).take m).length≤1000):=by unfold Hid;rw [List.length_take,HL0.out];omega
    have HVLE:=Lib.hid (fun b e=>RowG.own_le hrw b e)
    have HVLT:=Lib.hid (fun b e=>E.RowG.own_lt hrw b e)
    have HRW:=Lib.hid hrw
    clear hrw
    generalize (noC Q n).take m=pre at *
    go_wp2_with fail
    refine (HNO.out _).mono ?_
    rintro e w1 ⟨uA,uc,rfl,hF,hB1⟩
    have hcells:Below w1.heap.size w1 (w1.alloc (.cells #[.slice uA n uc] 64)):=below_one w1 _
    have HROWC:=Lib.hid (RowG.below (RowG.below HRW.out hB1) hcells)
    have HBLK:=Lib.hid (Blk.new w1 64 #[.slice uA n uc])
    have HCP:Hid (BytesP (fun b=>b<(w1.alloc (.cells #[.slice uA n uc] 64)).heap.size∧some b≠u5.ownBlock∧True) (w1.alloc (.cells #[.slice uA n uc] 64)) (.slice uA n uc) (List.replicate n 0)) :=
     bytesR.imp (bytesR.keep (Fresh.toP2 (B:=0) hF) fun b hb=>hcells.block b hb.2) fun b hb=>⟨by have:=hb.2;simp;omega,fun e=>by have:=HVLT.out b e.symm;have:=hb.1;omega,trivial⟩
    have hBw1:=below_in hBr hB1
    have hz1:=hB1.size
    clear hF hB1
    go_wp2_with (at_builtin;refine wpList_pushM (T:=50) _ rfl _ _ rfl Tryz.underlying50 pre rfl HROWC.out w1.heap.size 64 _ (List.replicate n 0) rfl HBLK.out HCP.out (by have:=HPL.out;omega) (by have:=hBw1.size;simp;omega) ?_;intro v' w3 hrow4 hgrow hown)
    go_roundw
    case rel=>exact ⟨m+1,by omega,by go_num,by rw [HNX.out];exact hrow4,below_grown (below_in hBw1 hcells) hgrow (by have:=hBw1.size;simp;omega) (fun g e=>by have:=HVLE.out g e;omega)⟩
    case measure=>simp [intOf];omega
  · obtain rfl:m=Q:=by omega
    have hdec:decide ((m:Int)<(m:Int))=false:=by simp
    rw [List.take_of_length_le (by rw [HL0.out];exact Nat.le_refl _)] at hrw
    have HFM:=Lib.hid (Rg.RowM.many_ hrw)
    clear hrw
    go_wp2_with fail
    go_ret
    exact ⟨_,rfl,HFM.out,hBr⟩
end Go.Proofs.YtcchjofjpflbhaaGreatDoor.T

set_option linter.unusedVariables false
set_option linter.unusedSimpArgs false
set_option maxRecDepth 100000
set_option maxHeartbeats 8000000
namespace Go.Proofs.YtcchjofjpflbhaaGreatDoor.Ch
open Go.RowKit Go.Shelf Go.Maps Go.Proofs.YtcchjofjpflbhaaGreatDoor.C Go.Proofs.YtcchjofjpflbhaaGreatDoor.E Go.Proofs.YtcchjofjpflbhaaGreatDoor.Rg
attribute [local go_sem] Oper.semAt_some

theorem one_cell1 {V:World} {g:Nat} {a:Int} (h:Blk V g 3 #[.int .i64 a]):∀ j,j < [a].length→V.cell? ⟨g,j,none⟩=some (.int .i64 ([a][j]?.getD 0)):=by
 intro j hj
 obtain rfl:j=0:=by simp at hj;omega
 exact h.cell 0
end Go.Proofs.YtcchjofjpflbhaaGreatDoor.Ch

namespace Go.Proofs.YtcchjofjpflbhaaGreatDoor.T
open Go.RowKit Go.Shelf Go.Maps Go.Proofs.YtcchjofjpflbhaaGreatDoor.C Go.Proofs.YtcchjofjpflbhaaGreatDoor.E Go.Proofs.YtcchjofjpflbhaaGreatDoor.Ch
attribute [local go_sem] Oper.semAt_some

theorem enter_pRow1:∀ args W,(callFunc 71 args).run Tryz.prog W = .ok (.enter 71 args) W:=enters_of Tryz.func71 (by kernel_rfl) rfl
theorem pgood_one {p a:Int} (ha:0≤a) (hb:a<p):∀ i,i < [a].length→Pr.GoodL p [a] i:=by
 intro i hi
 obtain rfl:i=0:=by simp at hi;omega
 exact ⟨⟨ha,hb⟩,.inl rfl⟩
theorem pbad_one {p a:Int} (h:¬ (0≤a∧a<p)):¬ Pr.GoodL p [a] 0:=fun h2=>h h2.1
theorem pone_cell {V:World} {g:Nat} {a:Int} (h:Blk V g 3 #[.int .i64 a]):∀ j,j < [a].length→V.cell? ⟨g,j,none⟩=some (.int .i64 ([a][j]?.getD 0)):=by
 intro j hj
 obtain rfl:j=0:=by simp at hj;omega
 exact h.cell 0
theorem pone_vals {V:World} {g:Nat} {a:Int} (h:Blk V g 3 #[.int .i64 a]):Vals V.heap.size V (.slice (some ⟨g,0,none⟩) 1 1) ([a].map (Value.int .i64)):=.inr ⟨g,0,1,rfl,by simp,h.lt,fun j u hu=>by
 rcases j with _ | j
 · simp at hu;subst hu;exact h.cell 0
 · simp at hu⟩
theorem pRow_yes {B P Q n:Nat} (d:Rg.Dims P Q n) (a:Int) (ha:0≤a) (haP:a<(P:Int)) (css:List (List (List UInt8))) (N:Nat) (hcl:css.length=N) (hN:N=P+1) (hgood:∀ i,i<css.length→(i:Int)∉[a,(P:Int)]→GoodC Q n (css[i]?.getD [])) (vA:Option Addr) (vc:Nat) (w:World) (hL:Laid w) (hB:B≤w.heap.size) (hC:Cols B w (.slice vA N vc) css) :
 Calls Tryz.prog 29 #[.int .i64 (P:Int),.slice vA N vc,.int .i64 a] w fun e w'=>∃ u,e = .returned (.tuple #[u,.int .i64 0])∧Many w'.heap.size w' u (rsP P Q (lostC [a,(P:Int)] Q n css))∧Below w.heap.size w w':=by
 have hQ:=d.hQ
 have hpb:=prm_bounds d.hp
 obtain ⟨W2,hW2⟩:∃ x,((w.alloc (.cells #[.int .i64 (P:Int)] 3)).alloc (.cells #[.slice vA N vc] 40)).alloc (.cells #[.int .i64 a] 3)=x:=⟨_,rfl⟩
 have b0:Blk W2 (w.heap.size) 3 #[.int .i64 (P:Int)]:=by rw [←hW2];exact ((Blk.new w _ _).alloc _).alloc _
 have b1:Blk W2 (w.heap.size+1) 40 #[.slice vA N vc]:=by rw [←hW2];exact (Blk.second w _ _ _).alloc _
 have b2:Blk W2 (w.heap.size+1+1) 3 #[.int .i64 a]:=by rw [←hW2];exact Rg.Blk.at_ (Blk.new _ _ _) (by simp)
 have hBW:Below w.heap.size w W2:=by rw [←hW2];exact ((below_two w _ _)).alloc (by simp;omega) _
 obtain ⟨W2b,hW2b⟩:∃ x,w.heap.size=x:=⟨_,rfl⟩
 obtain ⟨W2c,hW2c⟩:∃ x,w.heap.size+1=x:=⟨_,rfl⟩
 obtain ⟨W2d,hW2d⟩:∃ x,w.heap.size+1+1=x:=⟨_,rfl⟩
 have HA:=Lib.hid (Pr.ans_C_yes 71 #[.pointer (some ⟨w.heap.size,0,none⟩),.pointer (some ⟨w.heap.size+1,0,none⟩),.pointer (some ⟨w.heap.size+1+1,0,none⟩)] W2 (fun u W=>∃ x y z,u = .slice x y z∧Many W.heap.size W u (rsP P Q (lostC [a,(P:Int)] Q n css))) (enter_pRow1 _) (fun U hU bU=>by
  have hBU:=below_in hBW hU
  have HAS:=Lib.hid (fun (V:World) (g:Nat) (hV:Below U.heap.size U V) (bE:Blk V g 3 #[.int .i64 a])=>Pr.asked_yes (P:Int) d.hp vA N vc (by omega) g [a] (by simp) (pgood_one ha haP) V (hL.next (below_in hBU hV)) bE.lt (pone_cell bE))
  obtain ⟨i0,hi0,hm0⟩:∃ i:Nat,i<P∧(i:Int)≠a:=by
   by_cases h:a=0
   · exact ⟨1,by omega,by omega⟩
   · exact ⟨0,by omega,by omega⟩
  have hk0:0<(kept ([a] ++ [(P:Int)]) css css.length).length:=kept_pos (i:=i0) (by omega) (by simp;omega)
  have hrg:∀ x∈[a] ++ [(P:Int)],0≤x∧x<(css.length:Int):=by intro x hx;simp at hx;rcases hx with rfl | rfl <;> omega
  have HOF:=Lib.hid (fun (V:World) (gl gE:Nat) (hV:Below U.heap.size U V) (bL:Blk V gl 3 #[.int .i64 a]) (bE:Blk V gE 3 #[.int .i64 (P:Int)])=>(by
   have h:=pOf_yes (B:=B) P Q d.hQ d.hp [a] [(P:Int)] ⟨by simp,by simp⟩ (by simp) gl css N hcl (by omega) (by omega) vA vc (some ⟨gE,0,none⟩) 1 V (hL.next (below_in hBU hV)) (Nat.le_trans hB (below_in hBU hV).size) bL.lt (pone_cell bL) (pone_vals bE) (hC.below ((below_in hBU hV).mono hB)) n d hN (by rw [←hcl];exact hrg) hk0 (fun i hi hm=>hgood i hi hm)
   exact h:Calls Tryz.prog 62 #[.agg #[.int .i64 2,.int .i64 (P:Int),.slice (some ⟨gl,0,none⟩) 1 1],.slice vA N vc,.slice (some ⟨gE,0,none⟩) 1 1] V fun e w'=>∃ A1 k1 A2 k2 nA nc,e = .returned (.agg #[.int .i64 2,.int .i64 (P:Int),.slice (some ⟨gl,0,none⟩) 1 1,.slice A1 Q k1,.slice A2 Q k2,.slice nA n nc])∧Many w'.heap.size w' (.slice A1 Q k1) (rsP P Q (lostC [a,(P:Int)] Q n css))∧Many w'.heap.size w' (.slice A2 Q k2) (dsP P Q (lostC [a,(P:Int)] Q n css))∧Bytes w'.heap.size w' (.slice nA n nc) (List.replicate n 0)∧Below V.heap.size V w'))
  have b0x:=b0.below hU b0.lt
  have b1x:=b1.below hU b1.lt
  have b2x:=b2.below hU b2.lt
  rw [hW2b] at b0x
  rw [hW2c] at b1x
  rw [hW2d] at b2x
  have j0:=b0x.one
  have j1:=b1x.one
  have j2:=b2x.one
  rw [hW2d,hW2c,hW2b]
  have HBU:=Lib.hid hBU
  clear b0 b1 b2 hW2 hL hW2d hW2c hW2b bU ha haP hcl hN hgood hC hB hk0 hrg hi0 hm0 d hQ hpb hBU
  refine (callsIn_wide (n:=9)).1 ?_
  refine callsIn_of_wp_marks Tryz.func71 rfl trivial ?_ rfl
  simp only [Tryz.ntmps71,List.size_toArray,List.length_cons,List.length_nil,Nat.reduceAdd,Nat.reduceSub,Array.replicate_succ,Array.replicate_zero,List.push_toArray,List.append_toArray,List.nil_append,List.cons_append]
  gi_wp2_with fail
  have hBe:=below_one U (.cells #[.int .i64 a] 3)
  have bL:=Blk.new U 3 #[.int .i64 a]
  obtain ⟨wl,hwl⟩:∃ x,U.alloc (.cells #[.int .i64 a] 3)=x:=⟨_,rfl⟩
  obtain ⟨gl,hgl⟩:∃ x,U.heap.size=x:=⟨_,rfl⟩
  rw [hwl] at hBe bL ⊢
  rw [hgl] at bL ⊢
  refine ⟨trivial,(callsIn_wide.2 (HAS.out wl gl hBe bL)).mono ?_⟩
  rintro e w5 ⟨rfl,hB5⟩
  have hBu5:=below_in hBe hB5
  replace bL:=bL.below hB5 bL.lt
  gi_wp2_with fail
  have hB6:=below_one w5 (.cells #[.int .i64 2,.int .i64 (P:Int),.slice (some ⟨gl,0,none⟩) 1 1] 90)
  have b6:=Blk.new w5 90 #[.int .i64 2,.int .i64 (P:Int),.slice (some ⟨gl,0,none⟩) 1 1]
  obtain ⟨w6,hw6⟩:∃ x,w5.alloc (.cells #[.int .i64 2,.int .i64 (P:Int),.slice (some ⟨gl,0,none⟩) 1 1] 90)=x:=⟨_,rfl⟩
  obtain ⟨g6,hg6⟩:∃ x,w5.heap.size=x:=⟨_,rfl⟩
  rw [hw6] at hB6 b6 ⊢
  rw [hg6] at b6 ⊢
  have hBx6:=below_in hBu5 hB6
  replace bL:=bL.below hB6 bL.lt
  replace b1x:=b1x.below hBx6 b1x.lt
  have hbl:=b1x.lt
  have HSS:Hid (∀ V,Below w6.heap.size w6 V→(fun U:World=>U.cell? ⟨W2c,0,none⟩=some (.slice vA N vc)∧U.cell? ⟨g6,0,none⟩=some (.int .i64 2)∧U.cell? ⟨g6,1,none⟩=some (.int .i64 (P:Int))∧U.cell? ⟨g6,2,none⟩=some (.slice (some ⟨gl,0,none⟩) 1 1)) V):=fun V hV=>by
   have h6:=b6.below hV b6.lt
   exact ⟨(b1x.below hV b1x.lt).one,h6.cell 0,h6.cell 1,h6.cell 2⟩
  have hBx:=(Below.refl w6.heap.size w6).drew
  replace bL:=bL.below hBx bL.lt
  have hS:=HSS.out _ hBx
  clear b1x b6 hB6 hBu5 hB5 hBe j0 j1 j2 hw6 hg6 hwl hgl b0x b2x
  (try gi_wp2_with fail)
  refine wpIn_mono (region_HF (Q:=NoPanic _) (S:=(fun U:World=>U.cell? ⟨W2c,0,none⟩=some (.slice vA N vc)∧U.cell? ⟨g6,0,none⟩=some (.int .i64 2)∧U.cell? ⟨g6,1,none⟩=some (.int .i64 (P:Int))∧U.cell? ⟨g6,2,none⟩=some (.slice (some ⟨gl,0,none⟩) 1 1))) (by kernel_rfl) ?_) NoPanic.imp
  refine tkF (i:=0) (d:=10) (v:=.agg #[.int .i64 2,.int .i64 (P:Int),.slice (some ⟨gl,0,none⟩) 1 1]) (s:=hS) (c:=?_)
  simp only [ud9]
  refine tkF (i:=1) (d:=11) (v:=.slice vA N vc) (s:=hS) (c:=?_)
  simp only [ud9]
  refine tkF (i:=2) (d:=12) (v:=.agg #[.int .i64 2,.int .i64 (P:Int),.slice (some ⟨gl,0,none⟩) 1 1]) (s:=hS) (c:=?_)
  simp only [ud9]
  refine oneF (i:=3) (c:=?_)
  gi_wp2_with fail
  refine ⟨trivial,(callsIn_wide.2 (Pr.diagonalsAt_any (P:Int) (some ⟨gl,0,none⟩) 1 1 _)).mono ?_⟩
  rintro e v1 ⟨rfl,hB⟩
  replace bL:=bL.below hB bL.lt
  replace hBx:=below_in hBx hB
  clear hS
  have hS:(fun U:World=>U.cell? ⟨W2c,0,none⟩=some (.slice vA N vc)∧U.cell? ⟨g6,0,none⟩=some (.int .i64 2)∧U.cell? ⟨g6,1,none⟩=some (.int .i64 (P:Int))∧U.cell? ⟨g6,2,none⟩=some (.slice (some ⟨gl,0,none⟩) 1 1)) v1:=HSS.out _ hBx
  clear hB
  gi_wp2
  try (refine ⟨hS,?_⟩)
  refine oneF (i:=4) (c:=?_)
  have hgl_g3:=hBx.size
  have hB:Below v1.heap.size v1 (v1.alloc (.cells #[.int .i64 (P:Int)] 3)):=below_one v1 _
  have bE:Blk (v1.alloc (.cells #[.int .i64 (P:Int)] 3)) v1.heap.size 3 #[.int .i64 (P:Int)]:=Blk.new v1 _ _
  obtain ⟨v2,he_v2⟩:∃ x,(v1.alloc (.cells #[.int .i64 (P:Int)] 3))=x:=⟨_,rfl⟩
  obtain ⟨g3,hg_g3⟩:∃ x,v1.heap.size=x:=⟨_,rfl⟩
  rw [he_v2] at hB bE
  rw [hg_g3] at bE
  replace bL:=bL.below hB bL.lt
  replace hBx:=below_in hBx hB
  clear hS
  have hS:(fun U:World=>U.cell? ⟨W2c,0,none⟩=some (.slice vA N vc)∧U.cell? ⟨g6,0,none⟩=some (.int .i64 2)∧U.cell? ⟨g6,1,none⟩=some (.int .i64 (P:Int))∧U.cell? ⟨g6,2,none⟩=some (.slice (some ⟨gl,0,none⟩) 1 1)) v2:=HSS.out _ hBx
  gi_wp2
  (try rw [hg_g3]);(try rw [he_v2])
  try (refine ⟨hS,?_⟩)
  clear hB he_v2 hg_g3
  refine oneF (i:=5) (c:=?_)
  gi_wp2_with fail
  refine ⟨trivial,(callsIn_wide.2 (HOF.out _ gl g3 (below_in hBx6 hBx) bL bE)).mono ?_⟩
  rintro e v4 ⟨A1,k1,A2,k2,nA,nc,rfl,hCl,hCl2,hNo,hB⟩
  clear hCl2 hNo
  replace bL:=bL.below hB bL.lt
  replace bE:=bE.below hB bE.lt
  replace hBx:=below_in hBx hB
  clear hS
  have hS:(fun U:World=>U.cell? ⟨W2c,0,none⟩=some (.slice vA N vc)∧U.cell? ⟨g6,0,none⟩=some (.int .i64 2)∧U.cell? ⟨g6,1,none⟩=some (.int .i64 (P:Int))∧U.cell? ⟨g6,2,none⟩=some (.slice (some ⟨gl,0,none⟩) 1 1)) v4:=HSS.out _ hBx
  clear hB
  gi_wp2
  try (refine ⟨hS,?_⟩)
  refine oneF (i:=6) (c:=?_)
  gi_wp2_with fail
  refine ⟨trivial,(callsIn_wide.2 (pAlone_any (.slice A1 Q k1) (.slice A2 Q k2) (.slice nA n nc) (P:Int) (some ⟨gl,0,none⟩) 1 1 rfl _)).mono ?_⟩
  rintro e v5 ⟨rfl,hB⟩
  replace bL:=bL.below hB bL.lt
  replace bE:=bE.below hB bE.lt
  replace hCl:=(hCl.below hB).more hB.size
  replace hBx:=below_in hBx hB
  clear hS
  have hS:(fun U:World=>U.cell? ⟨W2c,0,none⟩=some (.slice vA N vc)∧U.cell? ⟨g6,0,none⟩=some (.int .i64 2)∧U.cell? ⟨g6,1,none⟩=some (.int .i64 (P:Int))∧U.cell? ⟨g6,2,none⟩=some (.slice (some ⟨gl,0,none⟩) 1 1)) v5:=HSS.out _ hBx
  clear hB
  gi_wp2
  try (refine ⟨hS,?_⟩)
  refine oneF (i:=7) (c:=?_)
  gi_wp2
  refine anyHF_done (by kernel_rfl) ?_ _
  refine NoPanic.normal ?_
  clear hS
  gi_wp2_with fail
  exact ⟨_,by simp [results,Tryz.results71,go_sem],_,rfl,⟨_,_,_,rfl,hCl⟩,below_in hBx6 hBx⟩))
 clear b0 b1 b2 hL hW2d hW2c hW2b ha haP hcl hN hgood hC hB d hQ hpb
 go_enter Tryz.func29,Tryz.ntmps29
 have hmf:∀ (fn:Fn) (first cap:Array Value) (w:World),(Instr.makeFunc fn first cap).run Tryz.prog w = .ok (.func fn first cap) w:=fun _ _ _ _=>rfl
 go_wp2_with (go_at_call 70;refine HA.out.mono ?_;rintro e w1 ⟨u,W,rfl,⟨uA,un,uc,rfl,hu⟩,bE,rfl,hB1⟩)
 go_ret2
 exact ⟨_,rfl,(many_num hu bE).more (by simp),below_in hBW hB1⟩
end Go.Proofs.YtcchjofjpflbhaaGreatDoor.T

namespace Go.Proofs.YtcchjofjpflbhaaGreatDoor.T
open Go.RowKit Go.Shelf Go.Maps Go.Proofs.YtcchjofjpflbhaaGreatDoor.C Go.Proofs.YtcchjofjpflbhaaGreatDoor.E Go.Proofs.YtcchjofjpflbhaaGreatDoor.Ch
attribute [local go_sem] Oper.semAt_some

theorem pRow_no2 (p a:Int) (vA:Option Addr) (N vc:Nat) (hno:¬ (p∈prm∧(N:Int)=p+1)) (w:World) (hL:Laid w) :
 Calls Tryz.prog 29 #[.int .i64 p,.slice vA N vc,.int .i64 a] w fun e w'=>e = .returned (.tuple #[.slice none 0 0,.int .i64 2])∧Below w.heap.size w w':=by
 obtain ⟨W2,hW2⟩:∃ x,((w.alloc (.cells #[.int .i64 p] 3)).alloc (.cells #[.slice vA N vc] 40)).alloc (.cells #[.int .i64 a] 3)=x:=⟨_,rfl⟩
 have b0:Blk W2 (w.heap.size) 3 #[.int .i64 p]:=by rw [←hW2];exact ((Blk.new w _ _).alloc _).alloc _
 have b1:Blk W2 (w.heap.size+1) 40 #[.slice vA N vc]:=by rw [←hW2];exact (Blk.second w _ _ _).alloc _
 have b2:Blk W2 (w.heap.size+1+1) 3 #[.int .i64 a]:=by rw [←hW2];exact Rg.Blk.at_ (Blk.new _ _ _) (by simp)
 have hBW:Below w.heap.size w W2:=by rw [←hW2];exact ((below_two w _ _)).alloc (by simp;omega) _
 obtain ⟨W2b,hW2b⟩:∃ x,w.heap.size=x:=⟨_,rfl⟩
 obtain ⟨W2c,hW2c⟩:∃ x,w.heap.size+1=x:=⟨_,rfl⟩
 obtain ⟨W2d,hW2d⟩:∃ x,w.heap.size+1+1=x:=⟨_,rfl⟩
 have HA:=Lib.hid (Pr.ans_C_no 2 71 #[.pointer (some ⟨w.heap.size,0,none⟩),.pointer (some ⟨w.heap.size+1,0,none⟩),.pointer (some ⟨w.heap.size+1+1,0,none⟩)] W2 (enter_pRow1 _) (fun U hU hltU=>by
  have hBU:=below_in hBW hU
  have HAS:=Lib.hid (fun (V:World) (g:Nat) (hV:Below U.heap.size U V) (bE:Blk V g 3 #[.int .i64 a])=>Pr.asked_no2 p vA (some ⟨g,0,none⟩) N vc 1 1 hno V (hL.next (below_in hBU hV)))
  have b0x:=b0.below hU b0.lt
  have b1x:=b1.below hU b1.lt
  have b2x:=b2.below hU b2.lt
  rw [hW2b] at b0x
  rw [hW2c] at b1x
  rw [hW2d] at b2x
  have j0:=b0x.one
  have j1:=b1x.one
  have j2:=b2x.one
  rw [hW2d,hW2c,hW2b]
  clear b0 b1 b2 hW2 hL hW2d hW2c hW2b hBU hno
  refine (callsIn_wide (n:=9)).1 ?_
  refine callsIn_of_wp_marks Tryz.func71 rfl trivial ?_ rfl
  simp only [Tryz.ntmps71,List.size_toArray,List.length_cons,List.length_nil,Nat.reduceAdd,Nat.reduceSub,Array.replicate_succ,Array.replicate_zero,List.push_toArray,List.append_toArray,List.nil_append,List.cons_append]
  gi_wp2_with fail
  have hBe:=below_one U (.cells #[.int .i64 a] 3)
  have bL:=Blk.new U 3 #[.int .i64 a]
  obtain ⟨wl,hwl⟩:∃ x,U.alloc (.cells #[.int .i64 a] 3)=x:=⟨_,rfl⟩
  obtain ⟨gl,hgl⟩:∃ x,U.heap.size=x:=⟨_,rfl⟩
  rw [hwl] at hBe bL ⊢
  rw [hgl] at bL ⊢
  refine ⟨trivial,(callsIn_wide.2 (HAS.out wl gl hBe bL)).mono ?_⟩
  rintro e w5 ⟨rfl,hB5⟩
  exact ⟨rfl,below_in hBe hB5⟩))
 clear b0 b1 b2 hL hW2d hW2c hW2b hno
 go_enter Tryz.func29,Tryz.ntmps29
 have hmf:∀ (fn:Fn) (first cap:Array Value) (w:World),(Instr.makeFunc fn first cap).run Tryz.prog w = .ok (.func fn first cap) w:=fun _ _ _ _=>rfl
 go_wp2_with (go_at_call 70;refine HA.out.mono ?_;rintro e w1 ⟨rfl,hB1⟩)
 go_ret2
 exact ⟨rfl,below_in hBW hB1⟩
theorem pRow_no4 (p a:Int) (hp:p∈prm) (vA:Option Addr) (N vc:Nat) (hN:(N:Int)=p+1) (hno:¬ (0≤a∧a<p)) (w:World) (hL:Laid w) :
 Calls Tryz.prog 29 #[.int .i64 p,.slice vA N vc,.int .i64 a] w fun e w'=>e = .returned (.tuple #[.slice none 0 0,.int .i64 4])∧Below w.heap.size w w':=by
 obtain ⟨W2,hW2⟩:∃ x,((w.alloc (.cells #[.int .i64 p] 3)).alloc (.cells #[.slice vA N vc] 40)).alloc (.cells #[.int .i64 a] 3)=x:=⟨_,rfl⟩
 have b0:Blk W2 (w.heap.size) 3 #[.int .i64 p]:=by rw [←hW2];exact ((Blk.new w _ _).alloc _).alloc _
 have b1:Blk W2 (w.heap.size+1) 40 #[.slice vA N vc]:=by rw [←hW2];exact (Blk.second w _ _ _).alloc _
 have b2:Blk W2 (w.heap.size+1+1) 3 #[.int .i64 a]:=by rw [←hW2];exact Rg.Blk.at_ (Blk.new _ _ _) (by simp)
 have hBW:Below w.heap.size w W2:=by rw [←hW2];exact ((below_two w _ _)).alloc (by simp;omega) _
 obtain ⟨W2b,hW2b⟩:∃ x,w.heap.size=x:=⟨_,rfl⟩
 obtain ⟨W2c,hW2c⟩:∃ x,w.heap.size+1=x:=⟨_,rfl⟩
 obtain ⟨W2d,hW2d⟩:∃ x,w.heap.size+1+1=x:=⟨_,rfl⟩
 have HA:=Lib.hid (Pr.ans_C_no 4 71 #[.pointer (some ⟨w.heap.size,0,none⟩),.pointer (some ⟨w.heap.size+1,0,none⟩),.pointer (some ⟨w.heap.size+1+1,0,none⟩)] W2 (enter_pRow1 _) (fun U hU hltU=>by
  have hBU:=below_in hBW hU
  have HAS:=Lib.hid (fun (V:World) (g:Nat) (hV:Below U.heap.size U V) (bE:Blk V g 3 #[.int .i64 a])=>Pr.asked_no4 p hp vA N vc hN g [a] (by simp) 0 (by simp) (fun i hi=>absurd hi (by omega)) (pbad_one hno) V (hL.next (below_in hBU hV)) bE.lt (pone_cell bE))
  have b0x:=b0.below hU b0.lt
  have b1x:=b1.below hU b1.lt
  have b2x:=b2.below hU b2.lt
  rw [hW2b] at b0x
  rw [hW2c] at b1x
  rw [hW2d] at b2x
  have j0:=b0x.one
  have j1:=b1x.one
  have j2:=b2x.one
  rw [hW2d,hW2c,hW2b]
  clear b0 b1 b2 hW2 hL hW2d hW2c hW2b hBU hno hp hN
  refine (callsIn_wide (n:=9)).1 ?_
  refine callsIn_of_wp_marks Tryz.func71 rfl trivial ?_ rfl
  simp only [Tryz.ntmps71,List.size_toArray,List.length_cons,List.length_nil,Nat.reduceAdd,Nat.reduceSub,Array.replicate_succ,Array.replicate_zero,List.push_toArray,List.append_toArray,List.nil_append,List.cons_append]
  gi_wp2_with fail
  have hBe:=below_one U (.cells #[.int .i64 a] 3)
  have bL:=Blk.new U 3 #[.int .i64 a]
  obtain ⟨wl,hwl⟩:∃ x,U.alloc (.cells #[.int .i64 a] 3)=x:=⟨_,rfl⟩
  obtain ⟨gl,hgl⟩:∃ x,U.heap.size=x:=⟨_,rfl⟩
  rw [hwl] at hBe bL ⊢
  rw [hgl] at bL ⊢
  refine ⟨trivial,(callsIn_wide.2 (HAS.out wl gl hBe bL)).mono ?_⟩
  rintro e w5 ⟨rfl,hB5⟩
  exact ⟨rfl,below_in hBe hB5⟩))
 clear b0 b1 b2 hL hW2d hW2c hW2b hno hp hN
 go_enter Tryz.func29,Tryz.ntmps29
 have hmf:∀ (fn:Fn) (first cap:Array Value) (w:World),(Instr.makeFunc fn first cap).run Tryz.prog w = .ok (.func fn first cap) w:=fun _ _ _ _=>rfl
 go_wp2_with (go_at_call 70;refine HA.out.mono ?_;rintro e w1 ⟨rfl,hB1⟩)
 go_ret2
 exact ⟨rfl,below_in hBW hB1⟩
theorem pRow_noK {B:Nat} (P Q:Nat) (hQ:P=Q+1) (a:Int) (hp:(P:Int)∈prm) (ha:0≤a) (haP:a<(P:Int)) (css:List (List (List UInt8))) (N:Nat) (hcl:css.length=N) (vA:Option Addr) (vc:Nat) (hN:N=P+1) (hsm:∀ j,j<css.length→(css[j]?.getD []).length≤1000) (hno:¬ RightD (P:Int) (kept [a,(P:Int)] css css.length)) (w:World) (hL:Laid w) (hB:B≤w.heap.size) (hC:Cols B w (.slice vA N vc) css) :
 Calls Tryz.prog 29 #[.int .i64 (P:Int),.slice vA N vc,.int .i64 a] w fun e w'=>e = .returned (.tuple #[.slice none 0 0,.int .i64 2])∧Below w.heap.size w w':=by
 have hpb:=prm_bounds hp
 obtain ⟨W2,hW2⟩:∃ x,((w.alloc (.cells #[.int .i64 (P:Int)] 3)).alloc (.cells #[.slice vA N vc] 40)).alloc (.cells #[.int .i64 a] 3)=x:=⟨_,rfl⟩
 have b0:Blk W2 (w.heap.size) 3 #[.int .i64 (P:Int)]:=by rw [←hW2];exact ((Blk.new w _ _).alloc _).alloc _
 have b1:Blk W2 (w.heap.size+1) 40 #[.slice vA N vc]:=by rw [←hW2];exact (Blk.second w _ _ _).alloc _
 have b2:Blk W2 (w.heap.size+1+1) 3 #[.int .i64 a]:=by rw [←hW2];exact Rg.Blk.at_ (Blk.new _ _ _) (by simp)
 have hBW:Below w.heap.size w W2:=by rw [←hW2];exact ((below_two w _ _)).alloc (by simp;omega) _
 obtain ⟨W2b,hW2b⟩:∃ x,w.heap.size=x:=⟨_,rfl⟩
 obtain ⟨W2c,hW2c⟩:∃ x,w.heap.size+1=x:=⟨_,rfl⟩
 obtain ⟨W2d,hW2d⟩:∃ x,w.heap.size+1+1=x:=⟨_,rfl⟩
 have HA:=Lib.hid (Pr.ans_C_no 2 71 #[.pointer (some ⟨w.heap.size,0,none⟩),.pointer (some ⟨w.heap.size+1,0,none⟩),.pointer (some ⟨w.heap.size+1+1,0,none⟩)] W2 (enter_pRow1 _) (fun U hU hltU=>by
  have hBU:=below_in hBW hU
  have HAS:=Lib.hid (fun (V:World) (g:Nat) (hV:Below U.heap.size U V) (bE:Blk V g 3 #[.int .i64 a])=>Pr.asked_yes (P:Int) hp vA N vc (by omega) g [a] (by simp) (pgood_one ha haP) V (hL.next (below_in hBU hV)) bE.lt (pone_cell bE))
  have HOF:=Lib.hid (fun (V:World) (gl gE:Nat) (hV:Below U.heap.size U V) (bL:Blk V gl 3 #[.int .i64 a]) (bE:Blk V gE 3 #[.int .i64 (P:Int)])=>(by
   have h:=pOf_no (B:=B) P Q hQ hp [a] [(P:Int)] ⟨by simp,by simp⟩ (by simp) gl css N hcl (by omega) (by omega) vA vc (some ⟨gE,0,none⟩) 1 V (hL.next (below_in hBU hV)) (Nat.le_trans hB (below_in hBU hV).size) bL.lt (pone_cell bL) (pone_vals bE) (hC.below ((below_in hBU hV).mono hB)) hsm hno
   exact h:Calls Tryz.prog 62 #[.agg #[.int .i64 2,.int .i64 (P:Int),.slice (some ⟨gl,0,none⟩) 1 1],.slice vA N vc,.slice (some ⟨gE,0,none⟩) 1 1] V fun e w'=>e = .panicked (Pr.gave 2)∧Below V.heap.size V w'))
  have b0x:=b0.below hU b0.lt
  have b1x:=b1.below hU b1.lt
  have b2x:=b2.below hU b2.lt
  rw [hW2b] at b0x
  rw [hW2c] at b1x
  rw [hW2d] at b2x
  have j0:=b0x.one
  have j1:=b1x.one
  have j2:=b2x.one
  rw [hW2d,hW2c,hW2b]
  have HBU:=Lib.hid hBU
  clear b0 b1 b2 hW2 hL hW2d hW2c hW2b hBU hno hp ha haP hcl hN hsm hC hB hpb hQ
  refine (callsIn_wide (n:=9)).1 ?_
  refine callsIn_of_wp_marks Tryz.func71 rfl trivial ?_ rfl
  simp only [Tryz.ntmps71,List.size_toArray,List.length_cons,List.length_nil,Nat.reduceAdd,Nat.reduceSub,Array.replicate_succ,Array.replicate_zero,List.push_toArray,List.append_toArray,List.nil_append,List.cons_append]
  gi_wp2_with fail
  have hBe:=below_one U (.cells #[.int .i64 a] 3)
  have bL:=Blk.new U 3 #[.int .i64 a]
  obtain ⟨wl,hwl⟩:∃ x,U.alloc (.cells #[.int .i64 a] 3)=x:=⟨_,rfl⟩
  obtain ⟨gl,hgl⟩:∃ x,U.heap.size=x:=⟨_,rfl⟩
  rw [hwl] at hBe bL ⊢
  rw [hgl] at bL ⊢
  refine ⟨trivial,(callsIn_wide.2 (HAS.out wl gl hBe bL)).mono ?_⟩
  rintro e w5 ⟨rfl,hB5⟩
  have hBu5:=below_in hBe hB5
  replace bL:=bL.below hB5 bL.lt
  gi_wp2_with fail
  have hB6:=below_one w5 (.cells #[.int .i64 2,.int .i64 (P:Int),.slice (some ⟨gl,0,none⟩) 1 1] 90)
  have b6:=Blk.new w5 90 #[.int .i64 2,.int .i64 (P:Int),.slice (some ⟨gl,0,none⟩) 1 1]
  obtain ⟨w6,hw6⟩:∃ x,w5.alloc (.cells #[.int .i64 2,.int .i64 (P:Int),.slice (some ⟨gl,0,none⟩) 1 1] 90)=x:=⟨_,rfl⟩
  obtain ⟨g6,hg6⟩:∃ x,w5.heap.size=x:=⟨_,rfl⟩
  rw [hw6] at hB6 b6 ⊢
  rw [hg6] at b6 ⊢
  have hBx6:=below_in hBu5 hB6
  replace bL:=bL.below hB6 bL.lt
  replace b1x:=b1x.below hBx6 b1x.lt
  have hbl:=b1x.lt
  have HSS:Hid (∀ V,Below w6.heap.size w6 V→(fun U:World=>U.cell? ⟨W2c,0,none⟩=some (.slice vA N vc)∧U.cell? ⟨g6,0,none⟩=some (.int .i64 2)∧U.cell? ⟨g6,1,none⟩=some (.int .i64 (P:Int))∧U.cell? ⟨g6,2,none⟩=some (.slice (some ⟨gl,0,none⟩) 1 1)) V):=fun V hV=>by
   have h6:=b6.below hV b6.lt
   exact ⟨(b1x.below hV b1x.lt).one,h6.cell 0,h6.cell 1,h6.cell 2⟩
  have hBx:=(Below.refl w6.heap.size w6).drew
  replace bL:=bL.below hBx bL.lt
  have hS:=HSS.out _ hBx
  clear b1x b6 hB6 hBu5 hB5 hBe j0 j1 j2 hw6 hg6 hwl hgl b0x b2x
  (try gi_wp2_with fail)
  refine wpIn_mono (region_HF (Q:=GaveP 2 U) (S:=(fun U:World=>U.cell? ⟨W2c,0,none⟩=some (.slice vA N vc)∧U.cell? ⟨g6,0,none⟩=some (.int .i64 2)∧U.cell? ⟨g6,1,none⟩=some (.int .i64 (P:Int))∧U.cell? ⟨g6,2,none⟩=some (.slice (some ⟨gl,0,none⟩) 1 1))) (by kernel_rfl) ?_) (fun e a w' h=>by obtain ⟨rfl,hd,hB⟩:=h;obtain ⟨tm,df⟩:=a;have hd':df = []:=hd;subst hd';exact ⟨rfl,hB⟩)
  refine tkF (i:=0) (d:=10) (v:=.agg #[.int .i64 2,.int .i64 (P:Int),.slice (some ⟨gl,0,none⟩) 1 1]) (s:=hS) (c:=?_)
  simp only [ud9]
  refine tkF (i:=1) (d:=11) (v:=.slice vA N vc) (s:=hS) (c:=?_)
  simp only [ud9]
  refine tkF (i:=2) (d:=12) (v:=.agg #[.int .i64 2,.int .i64 (P:Int),.slice (some ⟨gl,0,none⟩) 1 1]) (s:=hS) (c:=?_)
  simp only [ud9]
  refine oneF (i:=3) (c:=?_)
  gi_wp2_with fail
  refine ⟨trivial,(callsIn_wide.2 (Pr.diagonalsAt_any (P:Int) (some ⟨gl,0,none⟩) 1 1 _)).mono ?_⟩
  rintro e v1 ⟨rfl,hB⟩
  replace bL:=bL.below hB bL.lt
  replace hBx:=below_in hBx hB
  clear hS
  have hS:(fun U:World=>U.cell? ⟨W2c,0,none⟩=some (.slice vA N vc)∧U.cell? ⟨g6,0,none⟩=some (.int .i64 2)∧U.cell? ⟨g6,1,none⟩=some (.int .i64 (P:Int))∧U.cell? ⟨g6,2,none⟩=some (.slice (some ⟨gl,0,none⟩) 1 1)) v1:=HSS.out _ hBx
  clear hB
  gi_wp2
  try (refine ⟨hS,?_⟩)
  refine oneF (i:=4) (c:=?_)
  have hgl_g3:=hBx.size
  have hB:Below v1.heap.size v1 (v1.alloc (.cells #[.int .i64 (P:Int)] 3)):=below_one v1 _
  have bE:Blk (v1.alloc (.cells #[.int .i64 (P:Int)] 3)) v1.heap.size 3 #[.int .i64 (P:Int)]:=Blk.new v1 _ _
  obtain ⟨v2,he_v2⟩:∃ x,(v1.alloc (.cells #[.int .i64 (P:Int)] 3))=x:=⟨_,rfl⟩
  obtain ⟨g3,hg_g3⟩:∃ x,v1.heap.size=x:=⟨_,rfl⟩
  rw [he_v2] at hB bE
  rw [hg_g3] at bE
  replace bL:=bL.below hB bL.lt
  replace hBx:=below_in hBx hB
  clear hS
  have hS:(fun U:World=>U.cell? ⟨W2c,0,none⟩=some (.slice vA N vc)∧U.cell? ⟨g6,0,none⟩=some (.int .i64 2)∧U.cell? ⟨g6,1,none⟩=some (.int .i64 (P:Int))∧U.cell? ⟨g6,2,none⟩=some (.slice (some ⟨gl,0,none⟩) 1 1)) v2:=HSS.out _ hBx
  gi_wp2
  (try rw [hg_g3]);(try rw [he_v2])
  try (refine ⟨hS,?_⟩)
  clear hB he_v2 hg_g3
  refine oneF (i:=5) (c:=?_)
  gi_wp2_with fail
  refine ⟨trivial,(callsIn_wide.2 (HOF.out _ gl g3 (below_in hBx6 hBx) bL bE)).mono ?_⟩
  rintro e wp ⟨rfl,hB1⟩
  exact ⟨rfl,rfl,below_in (below_in hBx6 hBx) hB1⟩))
 clear b0 b1 b2 hL hW2d hW2c hW2b hno hp ha haP hcl hN hsm hC hB hpb hQ
 go_enter Tryz.func29,Tryz.ntmps29
 have hmf:∀ (fn:Fn) (first cap:Array Value) (w:World),(Instr.makeFunc fn first cap).run Tryz.prog w = .ok (.func fn first cap) w:=fun _ _ _ _=>rfl
 go_wp2_with (go_at_call 70;refine HA.out.mono ?_;rintro e w1 ⟨rfl,hB1⟩)
 go_ret2
 exact ⟨rfl,below_in hBW hB1⟩
end Go.Proofs.YtcchjofjpflbhaaGreatDoor.T

namespace Go.Proofs.YtcchjofjpflbhaaGreatDoor.T
open Go.RowKit Go.Shelf Go.Maps Go.Proofs.YtcchjofjpflbhaaGreatDoor.C Go.Proofs.YtcchjofjpflbhaaGreatDoor.E Go.Proofs.YtcchjofjpflbhaaGreatDoor.Ch Go.Proofs.YtcchjofjpflbhaaGreatDoor.Rg
attribute [local go_sem] Oper.semAt_some

theorem sumsD_congr (P Q n:Nat) (css:List (List (List UInt8))) (fr:List (List UInt8)) (L L2:List Int) (fc:Int):∀ m:Nat,(∀ c:Nat,c<m→((c:Int)∈L↔(c:Int)∈L2))→sumsD P Q n css fr L fc m=sumsD P Q n css fr L2 fc m
 | 0,_=>rfl
 | m+1,h=>by
   unfold sumsD
   rw [sumsD_congr P Q n css fr L L2 fc m (fun c hc=>h c (by omega))]
   by_cases hm:(m:Int)∈L
   · rw [if_pos hm,if_pos ((h m (by omega)).1 hm)]
   · rw [if_neg hm,if_neg (fun h2=>hm ((h m (by omega)).2 h2))]
theorem row12_any {B P Q n:Nat} (d:Dims P Q n) (a:Int) (ha:0≤a) (haP:a<(P:Int)) (css:List (List (List UInt8))) (N:Nat) (hcl:css.length=N) (hN:N=P+1) (hgood:∀ i,i<css.length→(i:Int)∉[a,(P:Int)]→GoodC Q n (css[i]?.getD [])) (vA:Option Addr) (vc:Nat) (w:World) (hB:B≤w.heap.size) (hC:Cols B w (.slice vA N vc) css)
 (R:List (List UInt8)) (hR:sumsD P Q n css (noC Q n) [a] 0 P=R) :
 Calls Tryz.prog 31 #[.int .i64 (P:Int),.slice vA N vc,.int .i64 a] w fun e w'=>∃ u,e = .returned u∧Many w'.heap.size w' u R∧Below w.heap.size w w':=by
 have hpb:=prm_bounds d.hp
 have hQP:=d.hQ
 obtain ⟨x,hx⟩:∃ x:Nat,(a+1) % (P:Int)=(x:Int):=⟨((a+1) % (P:Int)).toNat,by have:=Int.emod_nonneg (a+1) (show (P:Int)≠0 by omega);omega⟩
 have hxP:x<P:=by have:=Int.emod_lt_of_pos (a+1) (show (0:Int)<(P:Int) by omega);omega
 have hxa:(x:Int)≠a:=by
  rw [←hx]
  by_cases h:a+1=(P:Int)
  · rw [h,Int.emod_self];omega
  · rw [Int.emod_eq_of_lt (by omega) (by omega)];omega
 have gX:=hgood x (by omega) (by simp;omega)
 have gN:=noC_good (Q:=Q) d.h1 d.h64
 obtain ⟨gl,go,vc',hve,hcapN,hgl,hrow⟩:=hC.at_ (by omega)
 injection hve with e1 e2 e3
 subst e1 e3
 clear e2
 obtain ⟨uP,hcP,hmP⟩:=hrow x (by omega)
 obtain ⟨AP,kP,rfl,_,_⟩:=id hmP
 obtain ⟨gp,opp,rfl,hgp,hrp⟩:=many_at hmP (by rw [gX.1];omega)
 obtain ⟨A0,c0,hc0,_⟩:=hrp 0 (by rw [gX.1];omega)
 rw [(gX.2 0 (by omega)).2,Nat.add_zero] at hc0
 rw [gX.1] at hcP
 have hcP':=hcP
 have HN0:=Lib.hid (fun (V:World)=>nought12_any (P:=P) (Q:=Q) (n:=n) hQP (by omega) (by have:=d.h64;omega) V)
 have HSR:=Lib.hid (fun (V:World) (g:Nat) (fv:Value) (hV:Below w.heap.size w V) (bE:Blk V g 3 #[.int .i64 a]) (hF:Many V.heap.size V fv (noC Q n))=>sums11_any (B:=B) d g 1 [a] (by simp) 0 (by omega) css N hcl (by omega) (fun c hc hm=>hgood c (by omega) (by simp at hm ⊢;omega)) (noC Q n) gN fv (some ⟨gl,go,none⟩) vc V (Nat.le_trans hB hV.size) bE.lt (one_cell1 bE) (hC.below (hV.mono hB)) hF)
 rw [hR] at HSR
 have i1:(0:Int)≤(x:Int):=by omega
 have i2:(x:Int)<(N:Int):=by omega
 have iQ:(0:Int)<(Q:Int):=by omega
 have w1e:IntKind.i64.wrap (a+1)=a+1:=IntWalk.i64_in _ (by omega)
 have hrem:Int.tmod (a+1) (P:Int)=(x:Int):=by rw [Int.tmod_eq_emod_of_nonneg (by omega)];exact hx
 have hP0:((P:Int) == 0)=false:=by simp;omega
 have hP1:(P:Int)≠0:=by omega
 clear hC hrow hmP hcl hN hgood gX gN hR hcapN ha haP hpb hQP hrp hcP' hx hxa hxP
 go_enter Tryz.func31,Tryz.ntmps31
 go_wp2_with fail
 refine (HN0.out _).mono ?_
 rintro e w0 ⟨u0,rfl,hu0,hB0⟩
 have hBl:=below_one w0 (.cells #[.int .i64 a] 3)
 have bL:=Blk.new w0 3 #[.int .i64 a]
 have hB1:=below_in hB0 hBl
 have hu0':=(hu0.below hBl).more hBl.size
 have HS1:=Lib.hid (HSR.out _ _ _ hB1 bL hu0')
 clear hcP hc0 hBl bL hu0 hu0'
 go_wp2_with fail
 refine HS1.out.mono ?_
 rintro e w1 ⟨u1,rfl,hu1,hB2⟩
 have hBw1:=below_in hB1 hB2
 go_wp2
 go_ret
 exact ⟨_,rfl,hu1,hBw1⟩
end Go.Proofs.YtcchjofjpflbhaaGreatDoor.T

namespace Go.Proofs.YtcchjofjpflbhaaGreatDoor.pairRows
open Go.ChangeShapes Go.WideShapes Go.ChangeAt Go.RowKit Go.Shelf
set_option linter.unusedVariables false
set_option linter.unusedSimpArgs false
attribute [local go_sem] Oper.semAt_some

open Go.Proofs.YtcchjofjpflbhaaGreatDoor.E Go.Proofs.YtcchjofjpflbhaaGreatDoor.C Go.Proofs.YtcchjofjpflbhaaGreatDoor.T Go.Proofs.YtcchjofjpflbhaaGreatDoor.Ch in
set_option maxRecDepth 100000 in
set_option maxHeartbeats 4000000 in
theorem nf (p : Int) (v : Value) (css : List (List (List UInt8))) (a : Int) (w : World) (hL : Laid w) (wp : -9223372036854775808 ≤ p ∧ p ≤ 9223372036854775807) (hC : Cols w.heap.size w v css) (wa : -9223372036854775808 ≤ a ∧ a ≤ 9223372036854775807) (hfew : ¬ Few6 css) :
    Calls Tryz.prog 6 #[.int .i64 p, v, .int .i64 a] w fun e w' => e = .returned (.bool true) ∧ Below w.heap.size w w' := by
  have HF := Lib.hid (few6_any _ _ w hC false (by simp [hfew]))
  have HLW := Lib.hid (fun (U : World) (hU : Below w.heap.size w U) => hL.next hU)
  obtain ⟨A, cap, rfl, hcap0, _⟩ := id hC
  have hBw := Below.refl w.heap.size w
  clear hC hL
  go_enter Tryz.func6, Tryz.ntmps6
  go_wp2_with fail
  refine (HF.out).mono ?_
  rintro e y0 ⟨rfl, rfl⟩
  go_wp2_with fail
  refine (works12_any _ (HLW.out _ hBw)).mono ?_
  rintro e wz ⟨rfl, hBz⟩
  go_wp2
  go_ret
  exact ⟨rfl, below_in hBw hBz⟩
open Go.Proofs.YtcchjofjpflbhaaGreatDoor.E Go.Proofs.YtcchjofjpflbhaaGreatDoor.C Go.Proofs.YtcchjofjpflbhaaGreatDoor.T Go.Proofs.YtcchjofjpflbhaaGreatDoor.Ch in
set_option maxRecDepth 100000 in
set_option maxHeartbeats 4000000 in
theorem c2a_in (p : Int) (v : Value) (css : List (List (List UInt8))) (a : Int) (w : World) (hL : Laid w) (wp : -9223372036854775808 ≤ p ∧ p ≤ 9223372036854775807) (hC : Cols w.heap.size w v css) (wa : -9223372036854775808 ≤ a ∧ a ≤ 9223372036854775807) (hfew : Few6 css) (hp : p ∉ prm) (hno : ¬ (p ∈ prm ∧ (css.length : Int) = p + 1)) (hth : 0 ≤ a ∧ a < p) :
    Calls Tryz.prog 6 #[.int .i64 p, v, .int .i64 a] w fun e w' => e = .returned (.bool true) ∧ Below w.heap.size w w' := by
  have HF := Lib.hid (few6_any _ _ w hC true (by simp [hfew]))
  have HLW := Lib.hid (fun (U : World) (hU : Below w.heap.size w U) => hL.next hU)
  obtain ⟨A, cap, rfl, hcap0, _⟩ := id hC
  have HRC := Lib.hid (pRow_no2 p a A css.length cap hno w hL)
  have HR := Lib.hid (fun W => right_any p W)
  have e1 : decide (0 ≤ a) = true := decide_eq_true hth.1
  have e2 : decide (a < p) = true := decide_eq_true hth.2
  rw [decide_eq_false hp] at HR
  clear hC hL hno hfew hp hth
  generalize css.length = N at *
  go_enter Tryz.func6, Tryz.ntmps6
  go_wp2_with fail
  refine (HF.out).mono ?_
  rintro e y0 ⟨rfl, rfl⟩
  go_wp2_with fail
  refine (HRC.out).mono ?_
  rintro e y1 ⟨rfl, hB⟩
  have hBw := hB
  clear hB
  go_wp2_with fail
  refine (HR.out y1).mono ?_
  rintro e y2 ⟨rfl, hB⟩
  replace hBw := below_in hBw hB
  clear hB
  go_wp2_with fail
  refine (num12_any _ _).mono ?_
  rintro e y3 ⟨rfl, rfl⟩
  go_wp2_with fail
  refine (works12_any _ (HLW.out _ hBw)).mono ?_
  rintro e wz ⟨rfl, hBz⟩
  go_wp2
  go_ret
  exact ⟨rfl, below_in hBw hBz⟩
open Go.Proofs.YtcchjofjpflbhaaGreatDoor.E Go.Proofs.YtcchjofjpflbhaaGreatDoor.C Go.Proofs.YtcchjofjpflbhaaGreatDoor.T Go.Proofs.YtcchjofjpflbhaaGreatDoor.Ch in
set_option maxRecDepth 100000 in
set_option maxHeartbeats 4000000 in
theorem c2b_in (p : Int) (v : Value) (css : List (List (List UInt8))) (a : Int) (w : World) (hL : Laid w) (wp : -9223372036854775808 ≤ p ∧ p ≤ 9223372036854775807) (hC : Cols w.heap.size w v css) (wa : -9223372036854775808 ≤ a ∧ a ≤ 9223372036854775807) (hfew : Few6 css) (hp : p ∈ prm) (hno : ¬ (p ∈ prm ∧ (css.length : Int) = p + 1)) (hth : 0 ≤ a ∧ a < p) :
    Calls Tryz.prog 6 #[.int .i64 p, v, .int .i64 a] w fun e w' => e = .returned (.bool true) ∧ Below w.heap.size w w' := by
  have HF := Lib.hid (few6_any _ _ w hC true (by simp [hfew]))
  have HLW := Lib.hid (fun (U : World) (hU : Below w.heap.size w U) => hL.next hU)
  obtain ⟨A, cap, rfl, hcap0, _⟩ := id hC
  have HRC := Lib.hid (pRow_no2 p a A css.length cap hno w hL)
  have HR := Lib.hid (fun W => right_any p W)
  have e1 : decide (0 ≤ a) = true := decide_eq_true hth.1
  have e2 : decide (a < p) = true := decide_eq_true hth.2
  have hpb := prm_bounds hp
  rw [decide_eq_true hp] at HR
  have hw2 : IntKind.i64.wrap (p + 1) = p + 1 := IntWalk.i64_in _ (by omega)
  have hne : ((css.length : Int) != p + 1) = true := bne_iff_ne.2 (fun h => hno ⟨hp, h⟩)
  clear hC hL hno hfew hp hpb hth
  generalize css.length = N at *
  go_enter Tryz.func6, Tryz.ntmps6
  go_wp2_with fail
  refine (HF.out).mono ?_
  rintro e y0 ⟨rfl, rfl⟩
  go_wp2_with fail
  refine (HRC.out).mono ?_
  rintro e y1 ⟨rfl, hB⟩
  have hBw := hB
  clear hB
  go_wp2_with fail
  refine (HR.out y1).mono ?_
  rintro e y2 ⟨rfl, hB⟩
  replace hBw := below_in hBw hB
  clear hB
  go_wp2_with fail
  refine (num12_any _ _).mono ?_
  rintro e y3 ⟨rfl, rfl⟩
  go_wp2_with fail
  refine (works12_any _ (HLW.out _ hBw)).mono ?_
  rintro e wz ⟨rfl, hBz⟩
  go_wp2
  go_ret
  exact ⟨rfl, below_in hBw hBz⟩
open Go.Proofs.YtcchjofjpflbhaaGreatDoor.E Go.Proofs.YtcchjofjpflbhaaGreatDoor.C Go.Proofs.YtcchjofjpflbhaaGreatDoor.T Go.Proofs.YtcchjofjpflbhaaGreatDoor.Ch in
set_option maxRecDepth 100000 in
set_option maxHeartbeats 4000000 in
theorem c2a_neg (p : Int) (v : Value) (css : List (List (List UInt8))) (a : Int) (w : World) (hL : Laid w) (wp : -9223372036854775808 ≤ p ∧ p ≤ 9223372036854775807) (hC : Cols w.heap.size w v css) (wa : -9223372036854775808 ≤ a ∧ a ≤ 9223372036854775807) (hfew : Few6 css) (hp : p ∉ prm) (hno : ¬ (p ∈ prm ∧ (css.length : Int) = p + 1)) (hx : ¬ 0 ≤ a) :
    Calls Tryz.prog 6 #[.int .i64 p, v, .int .i64 a] w fun e w' => e = .returned (.bool true) ∧ Below w.heap.size w w' := by
  have HF := Lib.hid (few6_any _ _ w hC true (by simp [hfew]))
  have HLW := Lib.hid (fun (U : World) (hU : Below w.heap.size w U) => hL.next hU)
  obtain ⟨A, cap, rfl, hcap0, _⟩ := id hC
  have HRC := Lib.hid (pRow_no2 p a A css.length cap hno w hL)
  have HR := Lib.hid (fun W => right_any p W)
  have e1 : decide (0 ≤ a) = false := decide_eq_false hx
  rw [decide_eq_false hp] at HR
  clear hC hL hno hfew hp hx
  generalize css.length = N at *
  go_enter Tryz.func6, Tryz.ntmps6
  go_wp2_with fail
  refine (HF.out).mono ?_
  rintro e y0 ⟨rfl, rfl⟩
  go_wp2_with fail
  refine (HRC.out).mono ?_
  rintro e y1 ⟨rfl, hB⟩
  have hBw := hB
  clear hB
  go_wp2_with fail
  refine (HR.out y1).mono ?_
  rintro e y2 ⟨rfl, hB⟩
  replace hBw := below_in hBw hB
  clear hB
  go_wp2_with fail
  refine (num12_any _ _).mono ?_
  rintro e y3 ⟨rfl, rfl⟩
  go_wp2_with fail
  refine (works12_any _ (HLW.out _ hBw)).mono ?_
  rintro e wz ⟨rfl, hBz⟩
  go_wp2
  go_ret
  exact ⟨rfl, below_in hBw hBz⟩
open Go.Proofs.YtcchjofjpflbhaaGreatDoor.E Go.Proofs.YtcchjofjpflbhaaGreatDoor.C Go.Proofs.YtcchjofjpflbhaaGreatDoor.T Go.Proofs.YtcchjofjpflbhaaGreatDoor.Ch in
set_option maxRecDepth 100000 in
set_option maxHeartbeats 4000000 in
theorem c2b_neg (p : Int) (v : Value) (css : List (List (List UInt8))) (a : Int) (w : World) (hL : Laid w) (wp : -9223372036854775808 ≤ p ∧ p ≤ 9223372036854775807) (hC : Cols w.heap.size w v css) (wa : -9223372036854775808 ≤ a ∧ a ≤ 9223372036854775807) (hfew : Few6 css) (hp : p ∈ prm) (hno : ¬ (p ∈ prm ∧ (css.length : Int) = p + 1)) (hx : ¬ 0 ≤ a) :
    Calls Tryz.prog 6 #[.int .i64 p, v, .int .i64 a] w fun e w' => e = .returned (.bool true) ∧ Below w.heap.size w w' := by
  have HF := Lib.hid (few6_any _ _ w hC true (by simp [hfew]))
  have HLW := Lib.hid (fun (U : World) (hU : Below w.heap.size w U) => hL.next hU)
  obtain ⟨A, cap, rfl, hcap0, _⟩ := id hC
  have HRC := Lib.hid (pRow_no2 p a A css.length cap hno w hL)
  have HR := Lib.hid (fun W => right_any p W)
  have e1 : decide (0 ≤ a) = false := decide_eq_false hx
  have hpb := prm_bounds hp
  rw [decide_eq_true hp] at HR
  have hw2 : IntKind.i64.wrap (p + 1) = p + 1 := IntWalk.i64_in _ (by omega)
  have hne : ((css.length : Int) != p + 1) = true := bne_iff_ne.2 (fun h => hno ⟨hp, h⟩)
  clear hC hL hno hfew hp hpb hx
  generalize css.length = N at *
  go_enter Tryz.func6, Tryz.ntmps6
  go_wp2_with fail
  refine (HF.out).mono ?_
  rintro e y0 ⟨rfl, rfl⟩
  go_wp2_with fail
  refine (HRC.out).mono ?_
  rintro e y1 ⟨rfl, hB⟩
  have hBw := hB
  clear hB
  go_wp2_with fail
  refine (HR.out y1).mono ?_
  rintro e y2 ⟨rfl, hB⟩
  replace hBw := below_in hBw hB
  clear hB
  go_wp2_with fail
  refine (num12_any _ _).mono ?_
  rintro e y3 ⟨rfl, rfl⟩
  go_wp2_with fail
  refine (works12_any _ (HLW.out _ hBw)).mono ?_
  rintro e wz ⟨rfl, hBz⟩
  go_wp2
  go_ret
  exact ⟨rfl, below_in hBw hBz⟩
open Go.Proofs.YtcchjofjpflbhaaGreatDoor.E Go.Proofs.YtcchjofjpflbhaaGreatDoor.C Go.Proofs.YtcchjofjpflbhaaGreatDoor.T Go.Proofs.YtcchjofjpflbhaaGreatDoor.Ch in
set_option maxRecDepth 100000 in
set_option maxHeartbeats 4000000 in
theorem c2a_far (p : Int) (v : Value) (css : List (List (List UInt8))) (a : Int) (w : World) (hL : Laid w) (wp : -9223372036854775808 ≤ p ∧ p ≤ 9223372036854775807) (hC : Cols w.heap.size w v css) (wa : -9223372036854775808 ≤ a ∧ a ≤ 9223372036854775807) (hfew : Few6 css) (hp : p ∉ prm) (hno : ¬ (p ∈ prm ∧ (css.length : Int) = p + 1)) (hx : 0 ≤ a ∧ ¬ a < p) :
    Calls Tryz.prog 6 #[.int .i64 p, v, .int .i64 a] w fun e w' => e = .returned (.bool true) ∧ Below w.heap.size w w' := by
  have HF := Lib.hid (few6_any _ _ w hC true (by simp [hfew]))
  have HLW := Lib.hid (fun (U : World) (hU : Below w.heap.size w U) => hL.next hU)
  obtain ⟨A, cap, rfl, hcap0, _⟩ := id hC
  have HRC := Lib.hid (pRow_no2 p a A css.length cap hno w hL)
  have HR := Lib.hid (fun W => right_any p W)
  have e1 : decide (0 ≤ a) = true := decide_eq_true hx.1
  have e2 : decide (a < p) = false := decide_eq_false hx.2
  rw [decide_eq_false hp] at HR
  clear hC hL hno hfew hp hx
  generalize css.length = N at *
  go_enter Tryz.func6, Tryz.ntmps6
  go_wp2_with fail
  refine (HF.out).mono ?_
  rintro e y0 ⟨rfl, rfl⟩
  go_wp2_with fail
  refine (HRC.out).mono ?_
  rintro e y1 ⟨rfl, hB⟩
  have hBw := hB
  clear hB
  go_wp2_with fail
  refine (HR.out y1).mono ?_
  rintro e y2 ⟨rfl, hB⟩
  replace hBw := below_in hBw hB
  clear hB
  go_wp2_with fail
  refine (num12_any _ _).mono ?_
  rintro e y3 ⟨rfl, rfl⟩
  go_wp2_with fail
  refine (works12_any _ (HLW.out _ hBw)).mono ?_
  rintro e wz ⟨rfl, hBz⟩
  go_wp2
  go_ret
  exact ⟨rfl, below_in hBw hBz⟩
open Go.Proofs.YtcchjofjpflbhaaGreatDoor.E Go.Proofs.YtcchjofjpflbhaaGreatDoor.C Go.Proofs.YtcchjofjpflbhaaGreatDoor.T Go.Proofs.YtcchjofjpflbhaaGreatDoor.Ch in
set_option maxRecDepth 100000 in
set_option maxHeartbeats 4000000 in
theorem c2b_far (p : Int) (v : Value) (css : List (List (List UInt8))) (a : Int) (w : World) (hL : Laid w) (wp : -9223372036854775808 ≤ p ∧ p ≤ 9223372036854775807) (hC : Cols w.heap.size w v css) (wa : -9223372036854775808 ≤ a ∧ a ≤ 9223372036854775807) (hfew : Few6 css) (hp : p ∈ prm) (hno : ¬ (p ∈ prm ∧ (css.length : Int) = p + 1)) (hx : 0 ≤ a ∧ ¬ a < p) :
    Calls Tryz.prog 6 #[.int .i64 p, v, .int .i64 a] w fun e w' => e = .returned (.bool true) ∧ Below w.heap.size w w' := by
  have HF := Lib.hid (few6_any _ _ w hC true (by simp [hfew]))
  have HLW := Lib.hid (fun (U : World) (hU : Below w.heap.size w U) => hL.next hU)
  obtain ⟨A, cap, rfl, hcap0, _⟩ := id hC
  have HRC := Lib.hid (pRow_no2 p a A css.length cap hno w hL)
  have HR := Lib.hid (fun W => right_any p W)
  have e1 : decide (0 ≤ a) = true := decide_eq_true hx.1
  have e2 : decide (a < p) = false := decide_eq_false hx.2
  have hpb := prm_bounds hp
  rw [decide_eq_true hp] at HR
  have hw2 : IntKind.i64.wrap (p + 1) = p + 1 := IntWalk.i64_in _ (by omega)
  have hne : ((css.length : Int) != p + 1) = true := bne_iff_ne.2 (fun h => hno ⟨hp, h⟩)
  clear hC hL hno hfew hp hpb hx
  generalize css.length = N at *
  go_enter Tryz.func6, Tryz.ntmps6
  go_wp2_with fail
  refine (HF.out).mono ?_
  rintro e y0 ⟨rfl, rfl⟩
  go_wp2_with fail
  refine (HRC.out).mono ?_
  rintro e y1 ⟨rfl, hB⟩
  have hBw := hB
  clear hB
  go_wp2_with fail
  refine (HR.out y1).mono ?_
  rintro e y2 ⟨rfl, hB⟩
  replace hBw := below_in hBw hB
  clear hB
  go_wp2_with fail
  refine (num12_any _ _).mono ?_
  rintro e y3 ⟨rfl, rfl⟩
  go_wp2_with fail
  refine (works12_any _ (HLW.out _ hBw)).mono ?_
  rintro e wz ⟨rfl, hBz⟩
  go_wp2
  go_ret
  exact ⟨rfl, below_in hBw hBz⟩
open Go.Proofs.YtcchjofjpflbhaaGreatDoor.E Go.Proofs.YtcchjofjpflbhaaGreatDoor.C Go.Proofs.YtcchjofjpflbhaaGreatDoor.T Go.Proofs.YtcchjofjpflbhaaGreatDoor.Ch in
set_option maxRecDepth 100000 in
set_option maxHeartbeats 4000000 in
theorem c4_neg (p : Int) (v : Value) (css : List (List (List UInt8))) (a : Int) (w : World) (hL : Laid w) (wp : -9223372036854775808 ≤ p ∧ p ≤ 9223372036854775807) (hC : Cols w.heap.size w v css) (wa : -9223372036854775808 ≤ a ∧ a ≤ 9223372036854775807) (hfew : Few6 css) (hp : p ∈ prm) (hN : (css.length : Int) = p + 1) (hx : ¬ 0 ≤ a) :
    Calls Tryz.prog 6 #[.int .i64 p, v, .int .i64 a] w fun e w' => e = .returned (.bool true) ∧ Below w.heap.size w w' := by
  have HF := Lib.hid (few6_any _ _ w hC true (by simp [hfew]))
  have HLW := Lib.hid (fun (U : World) (hU : Below w.heap.size w U) => hL.next hU)
  obtain ⟨A, cap, rfl, hcap0, _⟩ := id hC
  have HRC := Lib.hid (pRow_no4 p a hp A css.length cap hN (fun h => hx h.1) w hL)
  have hpb := prm_bounds hp
  have HR := Lib.hid (fun W => right_any p W)
  rw [decide_eq_true hp] at HR
  have hw2 : IntKind.i64.wrap (p + 1) = p + 1 := IntWalk.i64_in _ (by omega)
  have hne : ((css.length : Int) != p + 1) = false := by rw [hN]; simp
  have e1 : decide (0 ≤ a) = false := decide_eq_false hx
  clear hC hL hfew hp hpb hx hN
  generalize css.length = N at *
  go_enter Tryz.func6, Tryz.ntmps6
  go_wp2_with fail
  refine (HF.out).mono ?_
  rintro e y0 ⟨rfl, rfl⟩
  go_wp2_with fail
  refine (HRC.out).mono ?_
  rintro e y1 ⟨rfl, hB⟩
  have hBw := hB
  clear hB
  go_wp2_with fail
  refine (HR.out y1).mono ?_
  rintro e y2 ⟨rfl, hB⟩
  replace hBw := below_in hBw hB
  clear hB
  go_wp2_with fail
  refine (num12_any _ _).mono ?_
  rintro e y3 ⟨rfl, rfl⟩
  go_wp2_with fail
  refine (works12_any _ (HLW.out _ hBw)).mono ?_
  rintro e wz ⟨rfl, hBz⟩
  go_wp2
  go_ret
  exact ⟨rfl, below_in hBw hBz⟩
open Go.Proofs.YtcchjofjpflbhaaGreatDoor.E Go.Proofs.YtcchjofjpflbhaaGreatDoor.C Go.Proofs.YtcchjofjpflbhaaGreatDoor.T Go.Proofs.YtcchjofjpflbhaaGreatDoor.Ch in
set_option maxRecDepth 100000 in
set_option maxHeartbeats 4000000 in
theorem c4_far (p : Int) (v : Value) (css : List (List (List UInt8))) (a : Int) (w : World) (hL : Laid w) (wp : -9223372036854775808 ≤ p ∧ p ≤ 9223372036854775807) (hC : Cols w.heap.size w v css) (wa : -9223372036854775808 ≤ a ∧ a ≤ 9223372036854775807) (hfew : Few6 css) (hp : p ∈ prm) (hN : (css.length : Int) = p + 1) (hx : 0 ≤ a ∧ ¬ a < p) :
    Calls Tryz.prog 6 #[.int .i64 p, v, .int .i64 a] w fun e w' => e = .returned (.bool true) ∧ Below w.heap.size w w' := by
  have HF := Lib.hid (few6_any _ _ w hC true (by simp [hfew]))
  have HLW := Lib.hid (fun (U : World) (hU : Below w.heap.size w U) => hL.next hU)
  obtain ⟨A, cap, rfl, hcap0, _⟩ := id hC
  have HRC := Lib.hid (pRow_no4 p a hp A css.length cap hN (fun h => hx.2 h.2) w hL)
  have hpb := prm_bounds hp
  have HR := Lib.hid (fun W => right_any p W)
  rw [decide_eq_true hp] at HR
  have hw2 : IntKind.i64.wrap (p + 1) = p + 1 := IntWalk.i64_in _ (by omega)
  have hne : ((css.length : Int) != p + 1) = false := by rw [hN]; simp
  have e1 : decide (0 ≤ a) = true := decide_eq_true hx.1
  have e2 : decide (a < p) = false := decide_eq_false hx.2
  clear hC hL hfew hp hpb hx hN
  generalize css.length = N at *
  go_enter Tryz.func6, Tryz.ntmps6
  go_wp2_with fail
  refine (HF.out).mono ?_
  rintro e y0 ⟨rfl, rfl⟩
  go_wp2_with fail
  refine (HRC.out).mono ?_
  rintro e y1 ⟨rfl, hB⟩
  have hBw := hB
  clear hB
  go_wp2_with fail
  refine (HR.out y1).mono ?_
  rintro e y2 ⟨rfl, hB⟩
  replace hBw := below_in hBw hB
  clear hB
  go_wp2_with fail
  refine (num12_any _ _).mono ?_
  rintro e y3 ⟨rfl, rfl⟩
  go_wp2_with fail
  refine (works12_any _ (HLW.out _ hBw)).mono ?_
  rintro e wz ⟨rfl, hBz⟩
  go_wp2
  go_ret
  exact ⟨rfl, below_in hBw hBz⟩
open Go.Proofs.YtcchjofjpflbhaaGreatDoor.E Go.Proofs.YtcchjofjpflbhaaGreatDoor.C Go.Proofs.YtcchjofjpflbhaaGreatDoor.T Go.Proofs.YtcchjofjpflbhaaGreatDoor.Ch in
set_option maxRecDepth 100000 in
set_option maxHeartbeats 4000000 in
theorem cK (p : Int) (v : Value) (css : List (List (List UInt8))) (a : Int) (w : World) (hL : Laid w) (wp : -9223372036854775808 ≤ p ∧ p ≤ 9223372036854775807) (hC : Cols w.heap.size w v css) (wa : -9223372036854775808 ≤ a ∧ a ≤ 9223372036854775807) (hfew : Few6 css) (hp : p ∈ prm) (hN : (css.length : Int) = p + 1) (hth : 0 ≤ a ∧ a < p) (hrt : ¬ RightD p (kept [a, p] css css.length)) :
    Calls Tryz.prog 6 #[.int .i64 p, v, .int .i64 a] w fun e w' => e = .returned (.bool true) ∧ Below w.heap.size w w' := by
  have HF := Lib.hid (few6_any _ _ w hC true (by simp [hfew]))
  have HLW := Lib.hid (fun (U : World) (hU : Below w.heap.size w U) => hL.next hU)
  obtain ⟨A, cap, rfl, hcap0, _⟩ := id hC
  have HRC : Hid (Calls Tryz.prog 29 #[.int .i64 p, .slice A css.length cap, .int .i64 a] w fun e w' => e = .returned (.tuple #[.slice none 0 0, .int .i64 2]) ∧ Below w.heap.size w w') := by
    obtain ⟨P, rfl⟩ : ∃ P : Nat, p = (P : Int) := ⟨p.toNat, by have := prm_bounds hp; omega⟩
    exact Lib.hid (pRow_noK (B := w.heap.size) P (P - 1) (by have := prm_bounds hp; omega) a hp hth.1 hth.2 css css.length rfl A cap (by omega) (fun j hj => ((few_len hfew).2 j 0).1) hrt w hL (Nat.le_refl _) hC)
  have hpb := prm_bounds hp
  have HR := Lib.hid (fun W => right_any p W)
  rw [decide_eq_true hp] at HR
  have hw2 : IntKind.i64.wrap (p + 1) = p + 1 := IntWalk.i64_in _ (by omega)
  have hne : ((css.length : Int) != p + 1) = false := by rw [hN]; simp
  have e1 : decide (0 ≤ a) = true := decide_eq_true hth.1
  have e2 : decide (a < p) = true := decide_eq_true hth.2
  have HRT := Lib.hid (fun (V : World) (g : Nat) (hV : Below w.heap.size w V) (bE : Blk V g 3 #[.int .i64 a, .int .i64 p]) => right11_any (B := w.heap.size) p (p + 1) hp g 2 [a, p] (by simp) css hN (by omega) (by have := hfew.1; omega) (.slice A css.length cap) V hV.size bE.lt (two_cell bE) (hC.below hV) false (by simp [hrt]))
  clear hC hL hfew hp hpb hth hN hrt
  generalize css.length = N at *
  go_enter Tryz.func6, Tryz.ntmps6
  go_wp2_with fail
  refine (HF.out).mono ?_
  rintro e y0 ⟨rfl, rfl⟩
  go_wp2_with fail
  refine (HRC.out).mono ?_
  rintro e y1 ⟨rfl, hB⟩
  have hBw := hB
  clear hB
  go_wp2_with fail
  refine (HR.out y1).mono ?_
  rintro e y2 ⟨rfl, hB⟩
  replace hBw := below_in hBw hB
  clear hB
  have hA3 := below_one y2 (.cells #[.int .i64 a, .int .i64 p] 3)
  have bA3 := Blk.new y2 3 #[.int .i64 a, .int .i64 p]
  replace hBw := below_in hBw hA3
  clear hA3
  go_wp2_with fail
  refine (HRT.out _ _ hBw bA3).mono ?_
  rintro e y4 ⟨rfl, hB⟩
  replace hBw := below_in hBw hB
  clear hB
  go_wp2_with fail
  refine (num12_any _ _).mono ?_
  rintro e y5 ⟨rfl, rfl⟩
  go_wp2_with fail
  refine (works12_any _ (HLW.out _ hBw)).mono ?_
  rintro e wz ⟨rfl, hBz⟩
  go_wp2
  go_ret
  exact ⟨rfl, below_in hBw hBz⟩
open Go.Proofs.YtcchjofjpflbhaaGreatDoor.E Go.Proofs.YtcchjofjpflbhaaGreatDoor.C Go.Proofs.YtcchjofjpflbhaaGreatDoor.T Go.Proofs.YtcchjofjpflbhaaGreatDoor.Ch in
set_option maxRecDepth 100000 in
set_option maxHeartbeats 4000000 in
theorem yes (p : Int) (v : Value) (css : List (List (List UInt8))) (a : Int) (w : World) (hL : Laid w) (wp : -9223372036854775808 ≤ p ∧ p ≤ 9223372036854775807) (hC : Cols w.heap.size w v css) (wa : -9223372036854775808 ≤ a ∧ a ≤ 9223372036854775807) (hfew : Few6 css) (hp : p ∈ prm) (hN : (css.length : Int) = p + 1) (hth : 0 ≤ a ∧ a < p) (hrt : RightD p (kept [a, p] css css.length)) :
    Calls Tryz.prog 6 #[.int .i64 p, v, .int .i64 a] w fun e w' => e = .returned (.bool true) ∧ Below w.heap.size w w' := by
  have HF := Lib.hid (few6_any _ _ w hC true (by simp [hfew]))
  have HLW := Lib.hid (fun (U : World) (hU : Below w.heap.size w U) => hL.next hU)
  obtain ⟨A, cap, rfl, hcap0, _⟩ := id hC
  have hpb := prm_bounds hp
  have HR := Lib.hid (fun W => right_any p W)
  rw [decide_eq_true hp] at HR
  have hw2 : IntKind.i64.wrap (p + 1) = p + 1 := IntWalk.i64_in _ (by omega)
  have hne : ((css.length : Int) != p + 1) = false := by rw [hN]; simp
  have e1 : decide (0 ≤ a) = true := decide_eq_true hth.1
  have e2 : decide (a < p) = true := decide_eq_true hth.2
  have HRT := Lib.hid (fun (V : World) (g : Nat) (hV : Below w.heap.size w V) (bE : Blk V g 3 #[.int .i64 a, .int .i64 p]) => right11_any (B := w.heap.size) p (p + 1) hp g 2 [a, p] (by simp) css hN (by omega) (by have := hfew.1; omega) (.slice A css.length cap) V hV.size bE.lt (two_cell bE) (hC.below hV) true (by simp [hrt]))
  obtain ⟨P, Q, n, rfl, hQ, _, h1, h64, _, hg⟩ := Go.Proofs.YtcchjofjpflbhaaGreatDoor.Rg.right_yes hrt hrt.2.1
  have d : Go.Proofs.YtcchjofjpflbhaaGreatDoor.Rg.Dims P Q n := ⟨hQ, hp, h1, h64⟩
  have hgood := kept_good hg
  have hNP : css.length = P + 1 := by omega
  have gN := noC_good (Q := Q) d.h1 d.h64
  have eD : sumsD P Q n css (noC Q n) [a] 0 P = rsP P Q (lostC [a, (P : Int)] Q n css) := by rw [rsP_is d hNP hgood]; exact sumsD_congr P Q n css (noC Q n) [a] [a, (P : Int)] 0 P (fun c hc => by simp; omega)
  have gD : GoodC Q n (rsP P Q (lostC [a, (P : Int)] Q n css)) := by rw [← eD]; exact sumsD_good d gN P
  have HRC := Lib.hid (pRow_yes (B := w.heap.size) d a hth.1 hth.2 css css.length rfl hNP hgood A cap w hL (Nat.le_refl _) hC)
  have HRD := Lib.hid (fun (V : World) (hV : Below w.heap.size w V) => row12_any (B := w.heap.size) d a hth.1 hth.2 css css.length rfl hNP hgood A cap V hV.size (hC.below hV) _ eD)
  have HSM := Lib.hid (fun (u v : Value) (V : World) (h1 : Many V.heap.size V u _) (h2 : Many V.heap.size V v _) => Go.Proofs.YtcchjofjpflbhaaGreatDoor.Rg.sameY d _ _ gD rfl u v V h1 h2)
  generalize rsP P Q (lostC [a, (P : Int)] Q n css) = Ac at *
  clear hC hL hfew hp hpb hth hN hrt gD eD gN hNP hgood d hg h1 h64 hQ
  generalize css.length = N at *
  go_enter Tryz.func6, Tryz.ntmps6
  go_wp2_with fail
  refine (HF.out).mono ?_
  rintro e y0 ⟨rfl, rfl⟩
  go_wp2_with fail
  refine (HRC.out).mono ?_
  rintro e y1 ⟨u, rfl, hu, hB⟩
  obtain ⟨Au, ku, eu, _⟩ := id hu
  generalize Ac.length = lq at eu
  subst eu
  have hBw := hB
  clear hB
  go_wp2_with fail
  refine (HR.out y1).mono ?_
  rintro e y2 ⟨rfl, hB⟩
  replace hu := (hu.below hB).more hB.size
  replace hBw := below_in hBw hB
  clear hB
  have hA3 := below_one y2 (.cells #[.int .i64 a, .int .i64 (P : Int)] 3)
  have bA3 := Blk.new y2 3 #[.int .i64 a, .int .i64 (P : Int)]
  replace hu := (hu.below hA3).more hA3.size
  replace hBw := below_in hBw hA3
  clear hA3
  go_wp2_with fail
  refine (HRT.out _ _ hBw bA3).mono ?_
  rintro e y4 ⟨rfl, hB⟩
  clear bA3
  replace hu := (hu.below hB).more hB.size
  replace hBw := below_in hBw hB
  clear hB
  go_wp2_with fail
  refine (num12_any _ _).mono ?_
  rintro e y5 ⟨rfl, rfl⟩
  go_wp2_with fail
  refine (HRD.out _ hBw).mono ?_
  rintro e y6 ⟨g, rfl, hv, hB⟩
  replace hu := (hu.below hB).more hB.size
  replace hBw := below_in hBw hB
  clear hB
  go_wp2_with fail
  refine (HSM.out _ _ _ hu hv).mono ?_
  rintro e y7 ⟨rfl, hB⟩
  clear hv
  replace hu := (hu.below hB).more hB.size
  replace hBw := below_in hBw hB
  clear hB
  go_wp2_with fail
  refine (works12_any _ (HLW.out _ hBw)).mono ?_
  rintro e wz ⟨rfl, hBz⟩
  go_wp2
  go_ret
  exact ⟨rfl, below_in hBw hBz⟩
open Go.Proofs.YtcchjofjpflbhaaGreatDoor.E Go.Proofs.YtcchjofjpflbhaaGreatDoor.C Go.Proofs.YtcchjofjpflbhaaGreatDoor.T Go.Proofs.YtcchjofjpflbhaaGreatDoor.Ch in
set_option maxRecDepth 100000 in
set_option maxHeartbeats 4000000 in
theorem walk (p : Int) (v : Value) (css : List (List (List UInt8))) (a : Int) (w : World) (hL : Laid w) (wp : -9223372036854775808 ≤ p ∧ p ≤ 9223372036854775807) (hC : Cols w.heap.size w v css) (wa : -9223372036854775808 ≤ a ∧ a ≤ 9223372036854775807) :
    Calls Tryz.prog 6 #[.int .i64 p, v, .int .i64 a] w fun e w' => e = .returned (.bool true) ∧ Below w.heap.size w w' := by
  by_cases hfew : ¬ Few6 css
  · exact nf p v css a w hL wp hC wa hfew
  replace hfew := Classical.not_not.1 hfew
  by_cases hp : p ∈ prm
  · by_cases hN : (css.length : Int) = p + 1
    · by_cases h0 : 0 ≤ a
      · by_cases h1 : a < p
        · by_cases hrt : RightD p (kept [a, p] css css.length)
          · exact yes p v css a w hL wp hC wa hfew hp hN ⟨h0, h1⟩ hrt
          · exact cK p v css a w hL wp hC wa hfew hp hN ⟨h0, h1⟩ hrt
        · exact c4_far p v css a w hL wp hC wa hfew hp hN ⟨h0, h1⟩
      · exact c4_neg p v css a w hL wp hC wa hfew hp hN h0
    · by_cases h0 : 0 ≤ a
      · by_cases h1 : a < p
        · exact c2b_in p v css a w hL wp hC wa hfew hp (fun h => hN h.2) ⟨h0, h1⟩
        · exact c2b_far p v css a w hL wp hC wa hfew hp (fun h => hN h.2) ⟨h0, h1⟩
      · exact c2b_neg p v css a w hL wp hC wa hfew hp (fun h => hN h.2) h0
  · by_cases h0 : 0 ≤ a
    · by_cases h1 : a < p
      · exact c2a_in p v css a w hL wp hC wa hfew hp (fun h => hp h.1) ⟨h0, h1⟩
      · exact c2a_far p v css a w hL wp hC wa hfew hp (fun h => hp h.1) ⟨h0, h1⟩
    · exact c2a_neg p v css a w hL wp hC wa hfew hp (fun h => hp h.1) h0

end Go.Proofs.YtcchjofjpflbhaaGreatDoor.pairRows

namespace Go.Proofs.YtcchjofjpflbhaaGreatDoor.pairRows
open Go.ChangeShapes Go.WideShapes Go.ChangeAt Go.RowKit Go.Shelf
set_option linter.unusedVariables false
set_option linter.unusedSimpArgs false
attribute [local go_sem] Oper.semAt_some

set_option maxRecDepth 100000 in
theorem lifted (os : Os) (started : os.Started) (H : Type) (enc : TypeId × Value → H) :
    ReturnsInHanded {} Tryz.checked os 6 .any (fun w args => (Rows.pairRowsSpec.pre enc Tryz.prog Tryz.f6 [] false w args ∧ laidMetH Tryz.prog laidL w) ∧ sizedMet enc Tryz.prog Tryz.f6 (OpenSpec.ofChange Rows.pairRowsSpec) false w args)
      (Rows.pairRowsSpec.post enc Tryz.prog Tryz.f6 false true false false) := by
  refine returnsInHanded_of_change_and (C := Tryz.checked) (X := fun w _ => laidMetH Tryz.prog laidL w) (fun _ _ _ hh h => h.of_heap hh) own started (by kernel_rfl) Tryz.func6
    (ChangeSpec.witness_shaped (enc := enc) (C := Tryz.checked) (os := os) (X := fun w _ => laidMetH Tryz.prog laidL w) false (World.doorLaid Tryz.prog 200 os) #[.int .i64 0, .slice none 0 0, .int .i64 0] 8 rfl (World.shaped_of_RefB (by kernel_rfl) (by kernel_rfl)) (by kernel_rfl) (by kernel_rfl) (by kernel_rfl) (door_met os _)) ?_
  intro W base args ds gs before hval0 hW _ _ hL0 _
  have hL := laid_of hL0
  have hval : ∀ (j : Nat) t v, Tryz.f6.params[j]? = some t → args[j]? = some v → Value.okWide Tryz.prog W .any base t v := hval0
  have hW' := hW
  obtain ⟨p, q, hA0, hV, rfl, hfz, hnd⟩ := hW
  have hA : DataW.TrodAll enc Tryz.prog W 0 (fun _ => true) true Tryz.f6.params.toList args.toList ds p := hA0
  rw [Tryz.params6] at hA hval
  obtain ⟨v0, vs0, d0, ds0, p0, q0, hargs, rfl, rfl, h0, r0⟩ := trodAll_cons hA
  obtain ⟨v1, vs1, d1, ds1, p1, q1, rfl, rfl, rfl, h1, r1⟩ := trodAll_cons r0
  obtain ⟨v2, vs2, d2, ds2, p2, q2, rfl, rfl, rfl, h2, r2⟩ := trodAll_cons r1
  obtain ⟨rfl, rfl, rfl⟩ := trodAll_nil r2
  obtain rfl : args = #[v0, v1, v2] := by cases args; simp_all
  obtain ⟨rfl, rfl⟩ := trodVars_none hV
  obtain ⟨a0, rfl, rfl, rfl, w0⟩ := open_int Tryz.underlying3 (hval 0 3 v0 rfl rfl) h0
  have k1 := h1
  have lt1 : ∀ x ∈ p1, x.block < W.heap.size := by obtain ⟨m, hm⟩ := k1; exact DataW.trod_lt m _ _ _ hm
  obtain ⟨a1, len1, cap1, rfl⟩ := okWide_slice Tryz.underlying40 (hval 1 40 v1 rfl rfl)
  obtain ⟨l1, w1⟩ : ∃ css, E.Cols W.heap.size W (.slice a1 len1 cap1) css := by obtain ⟨fuel, hf⟩ := h1; exact E.open_cols hf
  obtain ⟨a2, rfl, rfl, rfl, w2⟩ := open_int Tryz.underlying3 (hval 2 3 v2 rfl rfl) h2
  clear hA0 hval0
  simp only [List.append_nil] at hW'
  refine (walk a0 _ l1 a2 W hL (E.wf_i64 w0) w1 (E.wf_i64 w2)).mono fun e W' ⟨he, bel⟩ => ?_
  subst he
  exact ⟨_, rfl, _, _, _, [], _, [], hW', trodAll_mk1 (shut_bool Tryz.underlying4 _), (trodAll_cons_mk (shut_int Tryz.underlying3 w0) (trodAll_cons_mk (Below.trod laidOut (by kernel_rfl) (of_decide_eq_true (by kernel_rfl)) k1 bel lt1) (trodAll_cons_mk (shut_int Tryz.underlying3 w2) trodAll_mk0))), rfl, bel.frame _, fun h => by cases h⟩

end Go.Proofs.YtcchjofjpflbhaaGreatDoor.pairRows

