/- -/
import Derived.Laws.CopyOwn
import Derived.ArgAppend
import Derived.Test.YtcchjofjpflbhaaGreatDoorPAG8m6
import Derived.Test.YtcchjofjpflbhaaGreatDoorPAG9m14
set_option linter.unusedVariables false
set_option linter.unusedSimpArgs false
set_option maxRecDepth 100000
set_option maxHeartbeats 4000000
namespace Go.Proofs.YtcchjofjpflbhaaGreatDoor.Rg
open Go.RowKit Go.Shelf Go.Maps Go.Proofs.YtcchjofjpflbhaaGreatDoor.C Go.Proofs.YtcchjofjpflbhaaGreatDoor.E
attribute [local go_sem] Oper.semAt_some

section
variable {Q:Nat→Prop} {base:Nat} {v:Value}
end
theorem putC_next (xs ys:List (List UInt8)) {k:Nat} (hk:k<xs.length):(putC xs ys).take (k+1)=(putC xs ys).take k ++ [xorB (xs[k]?.getD []) (ys[k]?.getD [])]:=by
 unfold putC
 rw [map_next _ 0 _ (by rw [List.length_range];exact hk),List.getElem?_range hk]
 rfl
theorem RowM.many_ {Q:Nat→Prop} {W:World} {base:Nat} {v:Value} {ls:List (List UInt8)} (h:RowM Q W base v ls):Many W.heap.size W v ls:=manyR_iff.1 (RowM.many h fun b hb _=>hb)
theorem putD_any {B:Nat} (v1 v2:Value) (a b:List (List UInt8)) (k n:Nat) (w:World) (hB:B≤w.heap.size) (hA:Many B w v1 a) (hD:Many B w v2 b) (ha:a.length=k) (hb:b.length=k) (hk:k≤1000) (hla:∀ i,i<k→(a[i]?.getD []).length=n) (hlb:∀ i,i<k→(b[i]?.getD []).length=n) (hn:n≤1000) :
 Calls Tryz.prog 69 #[v1,v2] w fun e w'=>∃ u,e = .returned u∧Many w'.heap.size w' u (putC a b)∧Below w.heap.size w w':=by
 obtain ⟨A,cap,rfl,_,_⟩:=id hA
 obtain ⟨A',cap',rfl,_,_⟩:=id hD
 have HA:=Lib.hid hA
 have HD:=Lib.hid hD
 have HLA0:=Lib.hid hla
 have HLB0:=Lib.hid hlb
 have HKA:=Lib.hid ha
 have HKB:=Lib.hid hb
 have HPN:Hid (∀ m,m<k→(putC a b).take (m+1)=(putC a b).take m ++ [xorB (a[m]?.getD []) (b[m]?.getD [])]):=fun m hm=>putC_next a b (by rw [ha];exact hm)
 have HPL0:Hid ((putC a b).length=k):=by unfold Hid putC;rw [List.length_map,List.length_range,ha]
 rw [ha,hb]
 clear ha hb hA hD hla hlb
 go_enter Tryz.func69,Tryz.ntmps69
 go_wp2
 go_loopw [5,6] (fun v i wr=>∃ m:Nat,m≤k∧i = .int .i64 m∧RowM (fun _=>True) wr w.heap.size v ((putC a b).take m)∧Below w.heap.size w wr) (fun _ i _=>k - (intOf i).toNat)
 case atStart=>exact ⟨0,Nat.zero_le _,rfl,RowG.nil _ _ _ _ _ _,Below.refl _ _⟩
 case round =>
  obtain ⟨m,hm,rfl,hrow,hBs⟩:=hrel
  by_cases hlt:m<k
  · have hdec:decide ((m:Int)<(k:Int))=true:=by simp;omega
    have hA0:=HA.out
    have hD0:=HD.out
    obtain ⟨b1,off1,e1,hb1,hrow1⟩:=many_at hA0 (by have:=HKA.out;omega)
    obtain ⟨d1,off2,e2,hd1,hrow2⟩:=many_at hD0 (by have:=HKB.out;omega)
    subst e1 e2
    obtain ⟨Aa,ca,hc1,hy1⟩:=hrow1 m (by have:=HKA.out;omega)
    obtain ⟨Ab,cb,hc2,hy2⟩:=hrow2 m (by have:=HKB.out;omega)
    have HLA:=Lib.hid (HLA0.out m hlt)
    have HLB:=Lib.hid (HLB0.out m hlt)
    rw [HLA.out] at hc1 hy1
    rw [HLB.out] at hc2 hy2
    have HNX:=Lib.hid (HPN.out m hlt)
    have HPL:Hid (((putC a b).take m).length≤1000):=by unfold Hid;rw [List.length_take];omega
    have HXA:=Lib.hid (fun (V:World) (hV:Below w.heap.size w V)=>hy1.below (hV.mono hB))
    have HXB:=Lib.hid (fun (V:World) (hV:Below w.heap.size w V)=>hy2.below (hV.mono hB))
    have HSS:Hid (∀ V,Below w.heap.size w V→(fun U:World=>U.cell? ⟨b1,off1+m,none⟩=some (.slice Aa n ca)∧U.cell? ⟨d1,off2+m,none⟩=some (.slice Ab n cb)) V):=fun V hV=>⟨(hV.cell (p:=⟨b1,off1+m,none⟩) (Nat.lt_of_lt_of_le hb1 hB)).trans hc1,(hV.cell (p:=⟨d1,off2+m,none⟩) (Nat.lt_of_lt_of_le hd1 hB)).trans hc2⟩
    clear hrow1 hrow2 hA0 hD0 hc1 hc2 hy1 hy2
    generalize a[m]?.getD []=xa1 at *
    generalize b[m]?.getD []=xb1 at *
    generalize (putC a b).take m=pre at *
    have HLX:Hid ((xorB xa1 xb1).length=n):=by unfold Hid;rw [xorB_len];exact HLA.out
    have i1:(0:Int)≤(m:Int):=by omega
    have i2:(m:Int)<(k:Int):=by omega
    have HVLT:=Lib.hid (fun b e=>RowG.own_lt hrow b e)
    have HVLE:=Lib.hid (fun b e=>RowG.own_le hrow b e)
    go_wp2_with fail
    have hS:(fun U:World=>U.cell? ⟨b1,off1+m,none⟩=some (.slice Aa n ca)∧U.cell? ⟨d1,off2+m,none⟩=some (.slice Ab n cb)) wr.drew:=HSS.out _ hBs.drew
    refine (wpIn_wide (n:=12)).1 (wpIn_mono (region_HF (Q:=NoPanic _) (S:=(fun U:World=>U.cell? ⟨b1,off1+m,none⟩=some (.slice Aa n ca)∧U.cell? ⟨d1,off2+m,none⟩=some (.slice Ab n cb))) (by kernel_rfl) ?_) NoPanic.imp)
    refine tkF (i:=0) (d:=13) (v:=u5) (s:=hS) (c:=?_)
    simp only [ud9]
    refine tkF (i:=1) (d:=14) (v:=.slice (some ⟨b1,off1,none⟩) k cap) (s:=hS) (c:=?_)
    simp only [ud9]
    refine tkF (i:=2) (d:=15) (v:=.int .i64 (m:Int)) (s:=hS) (c:=?_)
    simp only [ud9]
    refine tkF (i:=3) (d:=16) (v:=.pointer (some ⟨b1,off1+m,none⟩)) (s:=hS) (c:=?_)
    simp only [ud9]
    refine tkF (i:=4) (d:=17) (v:=.slice Aa n ca) (s:=hS) (c:=?_)
    simp only [ud9]
    refine tkF (i:=5) (d:=18) (v:=.slice (some ⟨d1,off2,none⟩) k cap') (s:=hS) (c:=?_)
    simp only [ud9]
    refine tkF (i:=6) (d:=19) (v:=.int .i64 (m:Int)) (s:=hS) (c:=?_)
    simp only [ud9]
    refine tkF (i:=7) (d:=20) (v:=.pointer (some ⟨d1,off2+m,none⟩)) (s:=hS) (c:=?_)
    simp only [ud9]
    refine tkF (i:=8) (d:=21) (v:=.slice Ab n cb) (s:=hS) (c:=?_)
    simp only [ud9]
    refine oneF (i:=9) (c:=?_)
    gi_wp2_with fail
    refine ⟨trivial,(callsIn_wide.2 (rput_any _ _ xa1 xb1 _ ((HXA.out _ (hBs.drew)).more (by have:=hBs.size;simp;omega)) ((HXB.out _ (hBs.drew)).more (by have:=hBs.size;simp;omega)) (by rw [HLA.out,HLB.out];exact Nat.le_refl _) (by rw [HLA.out];omega))).mono ?_⟩
    rintro e wn ⟨v',rfl,hown,hBn⟩
    replace hBn:=below_undrew hBn
    have hfr:=hown.fresh
    obtain ⟨Ax,cx,hxe,_,_⟩:=id hfr
    rw [HLX.out] at hxe
    subst hxe
    clear hown
    clear hS
    have hS:(fun U:World=>U.cell? ⟨b1,off1+m,none⟩=some (.slice Aa n ca)∧U.cell? ⟨d1,off2+m,none⟩=some (.slice Ab n cb)) wn:=HSS.out _ (below_in hBs hBn)
    gi_wp2
    try (refine ⟨hS,?_⟩)
    refine oneF (i:=10) (c:=?_)
    have hcells:Below wn.heap.size wn (wn.alloc (.cells #[.slice Ax n cx] 64)):=below_one wn _
    have hBc:=below_in hBn hcells
    have HROWM:=Lib.hid (RowG.below hrow hBc)
    have HBLK:=Lib.hid (Blk.new wn 64 #[.slice Ax n cx])
    have hss:=hBs.size
    have hdr:wr.drew.heap.size=wr.heap.size:=rfl
    have hbn:=hBn.size
    have hcs:=hcells.size
    have HBY:Hid (BytesP (fun b=>b<(wn.alloc (.cells #[.slice Ax n cx] 64)).heap.size∧some b≠u5.ownBlock∧True) (wn.alloc (.cells #[.slice Ax n cx] 64)) (.slice Ax n cx) (xorB xa1 xb1)):=by
     obtain ⟨A8,cp8,e8,h8,hA8⟩:=hfr.below hcells
     refine ⟨A8,cp8,by rw [←HLX.out] at e8 ⊢;exact e8,h8,fun hp=>?_⟩
     obtain ⟨b,off,q1,q2,q3,q4⟩:=hA8 hp
     exact ⟨b,off,q1,⟨q3,fun e=>(by have:=HVLT.out b e.symm;omega),trivial⟩,q4⟩
    clear hfr hS
    have hS:(fun U:World=>U.cell? ⟨b1,off1+m,none⟩=some (.slice Aa n ca)∧U.cell? ⟨d1,off2+m,none⟩=some (.slice Ab n cb)) (wn.alloc (.cells #[.slice Ax n cx] 64)):=HSS.out _ (below_in hBs hBc)
    gi_wp2
    try (refine ⟨hS,?_⟩)
    refine oneF (i:=11) (c:=?_)
    refine opIn_pushM (T:=50) (v:=u5) _ (.tmp 13) (.tmp 23) rfl Tryz.underlying50 pre rfl HROWM.out wn.heap.size 64 _ (xorB xa1 xb1) rfl HBLK.out HBY.out (by have:=HPL.out;omega) (by omega) ?_
    intro v' w4 hrow4 hgrow4 hown4
    clear hS
    have hB4:Below w.heap.size w w4:=below_grown (below_in hBs hBc) hgrow4 (by omega) (fun g e=>HVLE.out g e)
    have hS:(fun U:World=>U.cell? ⟨b1,off1+m,none⟩=some (.slice Aa n ca)∧U.cell? ⟨d1,off2+m,none⟩=some (.slice Ab n cb)) w4:=HSS.out _ hB4
    gi_wp2_with fail
    try (refine ⟨hS,?_⟩)
    refine oneF (i:=12) (c:=?_)
    gi_wp2
    refine anyHF_done (by kernel_rfl) ?_ _
    refine NoPanic.normal ?_
    clear hS
    gi_wp2_with fail
    go_wp2
    go_roundw
    case rel=>exact ⟨m+1,by omega,by go_num,by rw [HNX.out];exact hrow4,hB4⟩
    case measure=>simp [intOf];omega
  · obtain rfl:m=k:=by omega
    have e1:decide ((m:Int)<(m:Int))=false:=by simp
    have HE:Hid ((putC a b).take m=putC a b):=by unfold Hid;rw [List.take_of_length_le];rw [HPL0.out];exact Nat.le_refl _
    rw [HE.out] at hrow
    go_wp2
    go_ret
    exact ⟨_,rfl,RowM.many_ hrow,hBs⟩
end Go.Proofs.YtcchjofjpflbhaaGreatDoor.Rg
