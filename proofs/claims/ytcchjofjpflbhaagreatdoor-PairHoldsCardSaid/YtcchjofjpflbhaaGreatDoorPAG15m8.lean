/- -/
import Derived.Maps.OwnSet
import Derived.Maps.OwnIn
import Derived.Laws.EntriesVeiled
import Derived.Deep.AppendLies
import Derived.RangeFuncNested
import Derived.Shelf.RegionOpen
import Derived.Laws.OwnMore
import Derived.Test.YtcchjofjpflbhaaGreatDoorPAG13m8
import Derived.Test.YtcchjofjpflbhaaGreatDoorPAG15m14
set_option linter.unusedVariables false
set_option linter.unusedSimpArgs false
set_option maxRecDepth 100000
set_option maxHeartbeats 1000000
namespace Go.Proofs.YtcchjofjpflbhaaGreatDoor.E
open Go.RowKit Go.Shelf Go.Proofs.YtcchjofjpflbhaaGreatDoor.C

def putCol (xs ys:List (List UInt8)):List (List UInt8):=(List.range xs.length).map fun k=>xorB (xs[k]?.getD []) (ys[k]?.getD [])
def putOf (a b:List (List (List UInt8))):List (List (List UInt8)):=(List.range a.length).map fun i=>putCol (a[i]?.getD []) (b[i]?.getD [])
theorem putCol_next (xs ys:List (List UInt8)) {k:Nat} (hk:k<xs.length):(putCol xs ys).take (k+1)=(putCol xs ys).take k ++ [xorB (xs[k]?.getD []) (ys[k]?.getD [])]:=by
 unfold putCol
 rw [map_next _ 0 _ (by rw [List.length_range];exact hk),List.getElem?_range hk]
 rfl
theorem putOf_next (a b:List (List (List UInt8))) {k:Nat} (hk:k<a.length):(putOf a b).take (k+1)=(putOf a b).take k ++ [putCol (a[k]?.getD []) (b[k]?.getD [])]:=by
 unfold putOf
 rw [map_next _ 0 _ (by rw [List.length_range];exact hk),List.getElem?_range hk]
 rfl
section
variable {Q:Nat→Prop} {base:Nat} {v:Value}
end
theorem puts_any {B:Nat} (v1 v2:Value) (a b:List (List (List UInt8))) (w:World) (hB:B≤w.heap.size) (hC:Cols B w v1 a) (hD:Cols B w v2 b) (hl1:a.length≤1000) (hlb:a.length≤b.length)
 (hall:∀ j,j<a.length→(a[j]?.getD []).length≤1000∧(a[j]?.getD []).length≤(b[j]?.getD []).length∧∀ i,i<(a[j]?.getD []).length→((a[j]?.getD [])[i]?.getD []).length=((b[j]?.getD [])[i]?.getD []).length∧((a[j]?.getD [])[i]?.getD []).length≤1000) :
 Calls Tryz.prog 35 #[v1,v2] w fun e w'=>∃ u,e = .returned u∧Cols w'.heap.size w' u (putOf a b)∧Below w.heap.size w w':=by
 obtain ⟨A,cap,rfl,_,_⟩:=id hC
 obtain ⟨A',cap',rfl,_,_⟩:=id hD
 have HALL:=Lib.hid hall
 clear hall
 obtain ⟨n0,hn0⟩:∃ n0,a.length=n0:=⟨_,rfl⟩
 obtain ⟨N0,hN0⟩:∃ N0,b.length=N0:=⟨_,rfl⟩
 have HN0:=Lib.hid hn0
 have HNB:=Lib.hid hN0
 have HCC:=Lib.hid hC
 have HDD:=Lib.hid hD
 have HPN:Hid (∀ k,k<n0→(putOf a b).take (k+1)=(putOf a b).take k ++ [putCol (a[k]?.getD []) (b[k]?.getD [])]):=fun k hk=>putOf_next a b (by rw [hn0];exact hk)
 have HPL0:Hid ((putOf a b).length=n0):=by unfold Hid putOf;rw [List.length_map,List.length_range,hn0]
 rw [hn0,hN0] at hlb
 rw [hn0] at hl1 ⊢
 rw [hN0]
 clear hn0 hN0 hC hD
 go_enter Tryz.func35,Tryz.ntmps35
 go_wp2
 go_loopw [5,6] (fun v i wr=>∃ m:Nat,m≤n0∧i = .int .i64 m∧RowC (fun _=>True) wr w.heap.size v ((putOf a b).take m)∧Below w.heap.size w wr) (fun _ i _=>n0 - (intOf i).toNat)
 case atStart=>exact ⟨0,Nat.zero_le _,rfl,RowG.nil _ _ _ _ _ _,Below.refl _ _⟩
 case round =>
  obtain ⟨m,hm,rfl,hrow,hBr⟩:=hrel
  by_cases hlt:m<n0
  · have hdec:decide ((m:Int)<(n0:Int))=true:=by simp;omega
    obtain ⟨b1,off1,cq1,e1,hcq,hb1,hrow1⟩:=HCC.out.at_ (by have:=HN0.out;omega)
    obtain ⟨d1,off2,cq2,e2,hcq2,hd1,hrowd⟩:=HDD.out.at_ (by have:=HNB.out;omega)
    rw [HN0.out] at e1 hcq
    rw [HNB.out] at e2 hcq2
    injection e1 with e1 _ e1c
    subst e1 e1c
    injection e2 with e2 _ e2c
    subst e2 e2c
    obtain ⟨u1,hc1,hm1⟩:=hrow1 m (by have:=HN0.out;omega)
    obtain ⟨ud,hcd,hmd⟩:=hrowd m (by have:=HNB.out;omega)
    obtain ⟨A3,cap3,rfl,_,_⟩:=id hm1
    obtain ⟨A4,cap4,rfl,_,_⟩:=id hmd
    obtain ⟨hcl,hcb,hck⟩:=HALL.out m (by have:=HN0.out;omega)
    have HNX:=Lib.hid (HPN.out m hlt)
    have HPL:Hid (((putOf a b).take m).length≤1000):=by unfold Hid;rw [List.length_take];omega
    have HC1:=Lib.hid hc1
    have HM1:=Lib.hid hm1
    have HCD:=Lib.hid hcd
    have HMD:=Lib.hid hmd
    have HCK:=Lib.hid hck
    clear hrow1 hc1 hm1 hck hcd hmd hrowd
    generalize a[m]?.getD []=xs at *
    generalize b[m]?.getD []=ys at *
    generalize (putOf a b).take m=pre at *
    obtain ⟨n1,hn1⟩:∃ n1,xs.length=n1:=⟨_,rfl⟩
    obtain ⟨N1,hN1⟩:∃ N1,ys.length=N1:=⟨_,rfl⟩
    have HN1:=Lib.hid hn1
    have HNY:=Lib.hid hN1
    rw [hn1,hN1] at hcb
    rw [hn1] at hcl HC1 HM1
    rw [hN1] at HCD HMD
    have hc1:=(hBr.cell (p:=⟨b1,off1+m,none⟩) (Nat.lt_of_lt_of_le hb1 hB)).trans HC1.out
    have hcd:=(hBr.cell (p:=⟨d1,off2+m,none⟩) (Nat.lt_of_lt_of_le hd1 hB)).trans HCD.out
    clear hn1 hN1
    have i1:(0:Int)≤(m:Int):=by omega
    have i2:(m:Int)<(n0:Int):=by omega
    have i3:(m:Int)<(N0:Int):=by omega
    have HROW:=Lib.hid hrow
    have hvlt:=fun b e=>RowG.own_lt hrow b e
    have HVLT:=Lib.hid hvlt
    have HVLE:=Lib.hid (fun b e=>RowG.own_le hrow b e)
    obtain ⟨wq,hwq⟩:∃ x,x=wr:=⟨_,rfl⟩
    subst hwq
    clear hrow hvlt
    go_wp2
    go_loopw [7,8] (fun v2 i wr=>∃ r:Nat,r≤n1∧i = .int .i64 r∧RowM (fun b=>some b≠u5.ownBlock) wr wq.heap.size v2 ((putCol xs ys).take r)∧Below wq.heap.size wq wr) (fun _ i _=>n1 - (intOf i).toNat)
    case atStart=>exact ⟨0,Nat.zero_le _,rfl,RowG.nil _ _ _ _ _ _,Below.refl _ _⟩
    case round =>
     obtain ⟨r,hr,rfl,hrow2,hBs⟩:=hrel
     have hBws:=below_in hBr hBs
     have hc2:=(hBs.cell (p:=⟨b1,off1+m,none⟩) (Nat.lt_of_lt_of_le hb1 (Nat.le_trans hB hBr.size))).trans hc1
     by_cases hlt2:r<n1
     · have hdec2:decide ((r:Int)<(n1:Int))=true:=by simp;omega
       obtain ⟨b2,off3,rfl,hb2,hrow3⟩:=many_at (by rw [HN1.out];exact HM1.out:Many B w (.slice A3 xs.length cap3) xs) (by have:=HN1.out;omega)
       obtain ⟨d2,off4,rfl,hd2,hrow4⟩:=many_at (by rw [HNY.out];exact HMD.out:Many B w (.slice A4 ys.length cap4) ys) (by have:=HNY.out;omega)
       obtain ⟨Aa,ca,hc3,hby⟩:=hrow3 r (by have:=HN1.out;omega)
       obtain ⟨Ab,cb,hc4,hbyd⟩:=hrow4 r (by have:=HNY.out;omega)
       obtain ⟨hll,hln⟩:=HCK.out r (by have:=HN1.out;omega)
       have HNX2:=Lib.hid (putCol_next xs ys (k:=r) (by have:=HN1.out;omega))
       have HPL2:Hid (((putCol xs ys).take r).length≤1000):=by unfold Hid;rw [List.length_take];omega
       clear hrow3 hrow4
       have HXL:=Lib.hid hll
       have HXN:=Lib.hid hln
       generalize xs[r]?.getD []=xa1 at *
       generalize ys[r]?.getD []=xb1 at *
       generalize (putCol xs ys).take r=pre2 at *
       obtain ⟨na,hna⟩:∃ na,xa1.length=na:=⟨_,rfl⟩
       obtain ⟨nb,hnb⟩:∃ nb,xb1.length=nb:=⟨_,rfl⟩
       have HLX:Hid ((xorB xa1 xb1).length=na):=by unfold Hid;rw [xorB_len];exact hna
       rw [hna] at hc3 hby
       rw [hnb] at hc4 hbyd
       clear hna hnb hll hln
       have HXA:=Lib.hid (fun (V:World) (hV:Below wq.heap.size wq V)=>hby.below ((below_in hBr hV).mono hB))
       have HXB:=Lib.hid (fun (V:World) (hV:Below wq.heap.size wq V)=>hbyd.below ((below_in hBr hV).mono hB))
       have hbwq:=hBr.size
       have HS4:=Lib.hid (fun (V:World) (hV:Below wq.heap.size wq V)=>(⟨(hV.cell (p:=⟨b1,off1+m,none⟩) (Nat.lt_of_lt_of_le hb1 (Nat.le_trans hB hbwq))).trans hc1,((below_in hBr hV).cell (p:=⟨b2,off3+r,none⟩) (Nat.lt_of_lt_of_le hb2 hB)).trans hc3,(hV.cell (p:=⟨d1,off2+m,none⟩) (Nat.lt_of_lt_of_le hd1 (Nat.le_trans hB hbwq))).trans hcd,((below_in hBr hV).cell (p:=⟨d2,off4+r,none⟩) (Nat.lt_of_lt_of_le hd2 hB)).trans hc4⟩:(fun V:World=>V.cell? ⟨b1,off1+m,none⟩=some (.slice (some ⟨b2,off3,none⟩) n1 cap3)∧V.cell? ⟨b2,off3+r,none⟩=some (.slice Aa na ca)∧V.cell? ⟨d1,off2+m,none⟩=some (.slice (some ⟨d2,off4,none⟩) N1 cap4)∧V.cell? ⟨d2,off4+r,none⟩=some (.slice Ab nb cb)) V))
       have HSS:=HS4
       have j1:(0:Int)≤(r:Int):=by omega
       have j2:(r:Int)<(n1:Int):=by omega
       have j3:(r:Int)<(N1:Int):=by omega
       have HVLT2:=Lib.hid (fun b e=>RowG.own_lt hrow2 b e)
       have HVLE2:=Lib.hid (fun b e=>RowG.own_le hrow2 b e)
       clear hby hbyd hc3 hc4
       go_wp2_with fail
       have hS:(fun V:World=>V.cell? ⟨b1,off1+m,none⟩=some (.slice (some ⟨b2,off3,none⟩) n1 cap3)∧V.cell? ⟨b2,off3+r,none⟩=some (.slice Aa na ca)∧V.cell? ⟨d1,off2+m,none⟩=some (.slice (some ⟨d2,off4,none⟩) N1 cap4)∧V.cell? ⟨d2,off4+r,none⟩=some (.slice Ab nb cb)) wr.drew:=HS4.out _ hBs.drew
       refine (wpIn_wide (n:=12)).1 (wpIn_mono (region_HF (Q:=NoPanic _) (S:=(fun V:World=>V.cell? ⟨b1,off1+m,none⟩=some (.slice (some ⟨b2,off3,none⟩) n1 cap3)∧V.cell? ⟨b2,off3+r,none⟩=some (.slice Aa na ca)∧V.cell? ⟨d1,off2+m,none⟩=some (.slice (some ⟨d2,off4,none⟩) N1 cap4)∧V.cell? ⟨d2,off4+r,none⟩=some (.slice Ab nb cb))) (by kernel_rfl) ?_) NoPanic.imp)
       refine tkF (i:=0) (d:=24) (v:=u7) (s:=hS) (c:=?_)
       simp only [ud9]
       refine tkF (i:=1) (d:=25) (v:=.slice (some ⟨b1,off1,none⟩) n0 cap) (s:=hS) (c:=?_)
       simp only [ud9]
       refine tkF (i:=2) (d:=26) (v:=.int .i64 (m:Int)) (s:=hS) (c:=?_)
       simp only [ud9]
       refine tkF (i:=3) (d:=27) (v:=.pointer (some ⟨b1,off1+m,none⟩)) (s:=hS) (c:=?_)
       simp only [ud9]
       refine tkF (i:=4) (d:=28) (v:=.slice (some ⟨b2,off3,none⟩) n1 cap3) (s:=hS) (c:=?_)
       simp only [ud9]
       refine tkF (i:=5) (d:=29) (v:=.int .i64 (r:Int)) (s:=hS) (c:=?_)
       simp only [ud9]
       refine tkF (i:=6) (d:=30) (v:=.pointer (some ⟨b2,off3+r,none⟩)) (s:=hS) (c:=?_)
       simp only [ud9]
       refine tkF (i:=7) (d:=31) (v:=.slice Aa na ca) (s:=hS) (c:=?_)
       simp only [ud9]
       refine tkF (i:=8) (d:=32) (v:=.slice (some ⟨d1,off2,none⟩) N0 cap') (s:=hS) (c:=?_)
       simp only [ud9]
       refine tkF (i:=9) (d:=33) (v:=.int .i64 (m:Int)) (s:=hS) (c:=?_)
       simp only [ud9]
       refine tkF (i:=10) (d:=34) (v:=.pointer (some ⟨d1,off2+m,none⟩)) (s:=hS) (c:=?_)
       simp only [ud9]
       refine tkF (i:=11) (d:=35) (v:=.slice (some ⟨d2,off4,none⟩) N1 cap4) (s:=hS) (c:=?_)
       simp only [ud9]
       refine tkF (i:=12) (d:=36) (v:=.int .i64 (r:Int)) (s:=hS) (c:=?_)
       simp only [ud9]
       refine tkF (i:=13) (d:=37) (v:=.pointer (some ⟨d2,off4+r,none⟩)) (s:=hS) (c:=?_)
       simp only [ud9]
       refine tkF (i:=14) (d:=38) (v:=.slice Ab nb cb) (s:=hS) (c:=?_)
       simp only [ud9]
       refine oneF (i:=15) (c:=?_)
       gi_wp2_with fail
       refine ⟨trivial,(callsIn_wide.2 (rput_any _ _ xa1 xb1 _ ((HXA.out _ (hBs.drew)).more (by have:=hBs.size;simp;omega)) ((HXB.out _ (hBs.drew)).more (by have:=hBs.size;simp;omega)) (Nat.le_of_eq HXL.out) (by have:=HXN.out;omega))).mono ?_⟩
       rintro e wn ⟨v',rfl,hown,hBn⟩
       replace hBn:=below_undrew hBn
       have hfr:=hown.fresh
       obtain ⟨Ax,cx,hxe,_,_⟩:=id hfr
       rw [HLX.out] at hxe
       subst hxe
       clear hown
       clear hS
       have hS:(fun V:World=>V.cell? ⟨b1,off1+m,none⟩=some (.slice (some ⟨b2,off3,none⟩) n1 cap3)∧V.cell? ⟨b2,off3+r,none⟩=some (.slice Aa na ca)∧V.cell? ⟨d1,off2+m,none⟩=some (.slice (some ⟨d2,off4,none⟩) N1 cap4)∧V.cell? ⟨d2,off4+r,none⟩=some (.slice Ab nb cb)) wn:=HSS.out _ (below_in hBs hBn)
       gi_wp2
       try (refine ⟨hS,?_⟩)
       refine oneF (i:=16) (c:=?_)
       have hcells:Below wn.heap.size wn (wn.alloc (.cells #[.slice Ax na cx] 64)):=below_one wn _
       have hBc:=below_in hBn hcells
       have HROWM:=Lib.hid (RowG.below hrow2 hBc)
       have HBLK:=Lib.hid (Blk.new wn 64 #[.slice Ax na cx])
       have hss:=hBs.size
       have hdr:wr.drew.heap.size=wr.heap.size:=rfl
       have hbn:=hBn.size
       have hcs:=hcells.size
       have hwq:=hBr.size
       have HBY:Hid (BytesP (fun b=>b<(wn.alloc (.cells #[.slice Ax na cx] 64)).heap.size∧some b≠u7.ownBlock∧some b≠u5.ownBlock) (wn.alloc (.cells #[.slice Ax na cx] 64)) (.slice Ax na cx) (xorB xa1 xb1)):=by
        obtain ⟨A8,cp8,e8,h8,hA8⟩:=hfr.below hcells
        refine ⟨A8,cp8,by rw [←HLX.out] at e8 ⊢;exact e8,h8,fun hp=>?_⟩
        obtain ⟨b,off,q1,q2,q3,q4⟩:=hA8 hp
        exact ⟨b,off,q1,⟨q3,fun e=>by have:=HVLT2.out b e.symm;omega,fun e=>by have:=HVLT.out b e.symm;omega⟩,q4⟩
       clear hfr hS
       have hS:(fun V:World=>V.cell? ⟨b1,off1+m,none⟩=some (.slice (some ⟨b2,off3,none⟩) n1 cap3)∧V.cell? ⟨b2,off3+r,none⟩=some (.slice Aa na ca)∧V.cell? ⟨d1,off2+m,none⟩=some (.slice (some ⟨d2,off4,none⟩) N1 cap4)∧V.cell? ⟨d2,off4+r,none⟩=some (.slice Ab nb cb)) (wn.alloc (.cells #[.slice Ax na cx] 64)):=HSS.out _ (below_in hBs hBc)
       gi_wp2
       try (refine ⟨hS,?_⟩)
       refine oneF (i:=17) (c:=?_)
       refine opIn_pushM (T:=50) (v:=u7) _ (.tmp 24) (.tmp 40) rfl Tryz.underlying50 pre2 rfl HROWM.out wn.heap.size 64 _ (xorB xa1 xb1) rfl HBLK.out HBY.out (by have:=HPL2.out;omega) (by omega) ?_
       intro v' w4 hrow4 hgrow4 hown4
       clear hS
       have hB4:Below wq.heap.size wq w4:=below_grown (below_in hBs hBc) hgrow4 (by omega) (fun g e=>HVLE2.out g e)
       have hS:(fun V:World=>V.cell? ⟨b1,off1+m,none⟩=some (.slice (some ⟨b2,off3,none⟩) n1 cap3)∧V.cell? ⟨b2,off3+r,none⟩=some (.slice Aa na ca)∧V.cell? ⟨d1,off2+m,none⟩=some (.slice (some ⟨d2,off4,none⟩) N1 cap4)∧V.cell? ⟨d2,off4+r,none⟩=some (.slice Ab nb cb)) w4:=HS4.out _ hB4
       gi_wp2_with fail
       try (refine ⟨hS,?_⟩)
       refine oneF (i:=18) (c:=?_)
       gi_wp2
       refine anyHF_done (by kernel_rfl) ?_ _
       refine NoPanic.normal ?_
       clear hS
       gi_wp2_with fail
       go_wp2
       go_roundw
       case rel=>exact ⟨r+1,by omega,by go_num,by rw [HNX2.out];exact hrow4,hB4⟩
       case measure=>simp [intOf];omega
     · obtain rfl:r=n1:=by omega
       have e1:decide ((r:Int)<(r:Int))=false:=by simp
       have HTK:Hid ((putCol xs ys).take r=putCol xs ys):=by unfold Hid;rw [List.take_of_length_le];unfold putCol;rw [List.length_map,List.length_range,HN1.out];exact Nat.le_refl _
       rw [HTK.out] at hrow2
       obtain ⟨A7,cp7,hu7,_,_⟩:=id (RowM.many hrow2 (S:=fun _=>True) (fun _ _ _=>trivial))
       subst hu7
       generalize (putCol xs ys).length=n7 at *
       have hcells:Below wr.heap.size wr (wr.alloc (.cells #[.slice A7 n7 cp7] 50)):=below_one wr _
       have HROWC:=Lib.hid (RowG.below HROW.out (below_in hBs hcells))
       have HBLK:=Lib.hid (Blk.new wr 50 #[.slice A7 n7 cp7])
       have HCP:Hid (manyR.R (fun b=>b<(wr.alloc (.cells #[.slice A7 n7 cp7] 50)).heap.size∧some b≠u5.ownBlock∧True) (wr.alloc (.cells #[.slice A7 n7 cp7] 50)) (.slice A7 n7 cp7) (putCol xs ys)) :=
        RowM.many (RowG.below hrow2 hcells) fun b hb hq=>⟨hb,by
         rcases hq with h | h
         · exact h
         · exact fun e=>by have:=HVLT.out b e.symm;omega,trivial⟩
       have hbs:=hBs.size
       have hcs:=hcells.size
       have hwq:=hBr.size
       clear hrow2
       go_wp2_with (at_builtin;refine wpList_pushC (T:=40) _ rfl _ _ rfl Tryz.underlying40 pre rfl HROWC.out wr.heap.size 50 _ (putCol xs ys) rfl HBLK.out HCP.out (by have:=HPL.out;omega) (by omega) ?_;intro v' w2 hrow4 hgrow hown)
       go_roundw
       case rel=>exact ⟨m+1,by omega,by go_num,by rw [HNX.out];exact hrow4,below_grown (below_in hBr (below_in hBs hcells)) hgrow (by omega) (fun g e=>HVLE.out g e)⟩
       case measure=>simp [intOf];omega
  · obtain rfl:m=n0:=by omega
    have e1:decide ((m:Int)<(m:Int))=false:=by simp
    have HE:Hid ((putOf a b).take m=putOf a b):=by unfold Hid;rw [List.take_of_length_le];rw [HPL0.out];exact Nat.le_refl _
    rw [HE.out] at hrow
    go_wp2
    go_ret
    exact ⟨_,rfl,RowC.cols hrow,hBr⟩
end Go.Proofs.YtcchjofjpflbhaaGreatDoor.E

namespace Go.Proofs.YtcchjofjpflbhaaGreatDoor.E
open Go.RowKit Go.Shelf Go.Proofs.YtcchjofjpflbhaaGreatDoor.C

section
variable {p:Int} {a b css:List (List (List UInt8))}
theorem putOf_len:(putOf a b).length=a.length:=by unfold putOf;rw [List.length_map,List.length_range]
theorem putOf_col {c:Nat} (hc:c<a.length):(putOf a b)[c]?.getD []=putCol (a[c]?.getD []) (b[c]?.getD []):=by
 unfold putOf
 rw [List.getElem?_map,List.getElem?_range hc]
 rfl
end
end Go.Proofs.YtcchjofjpflbhaaGreatDoor.E
