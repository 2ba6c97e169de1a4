/- The document's Put: columns of one shape,put upon one another. The mathematics of EVENODD: what is made is linear;all cells made,put upon one another,are the adjuster. chain: small things for the  -/
import Derived.Laws.StructEq
import Derived.Maps.OwnIn
import Derived.Maps.OwnSet
import Derived.Laws.EntriesVeiled
import Derived.Deep.AppendLies
import Derived.RangeFuncNested
import Derived.Shelf.RegionOpen
import Derived.Laws.OwnMore
import Derived.Test.YtfihlelhpmjpaaaGreatDoorCRG19m4
import Derived.Test.YtfihlelhpmjpaaaGreatDoorCRG21m5
import Derived.Test.YtfihlelhpmjpaaaGreatDoorCRG21m12
namespace Go.Proofs.YtfihlelhpmjpaaaGreatDoor.E
open Go.RowKit Go.Shelf Go.Proofs.YtfihlelhpmjpaaaGreatDoor.C
set_option linter.unusedSimpArgs false
set_option linter.unusedVariables false

def putCol (xs ys:List (List UInt8)):List (List UInt8):=(List.range xs.length).map fun k=>xorB (xs[k]?.getD []) (ys[k]?.getD [])
def putOf (a b:List (List (List UInt8))):List (List (List UInt8)):=(List.range a.length).map fun i=>putCol (a[i]?.getD []) (b[i]?.getD [])
theorem putCol_next (xs ys:List (List UInt8)) {k:Nat} (hk:k<xs.length):(putCol xs ys).take (k+1)=(putCol xs ys).take k ++ [xorB (xs[k]?.getD []) (ys[k]?.getD [])]:=by
  unfold putCol
  rw [map_next _ 0 _ (by rw [List.length_range];exact hk),List.getElem?_range hk]
  rfl
theorem putOf_next (a b:List (List (List UInt8))) {k:Nat} (hk:k<a.length):(putOf a b).take (k+1)=(putOf a b).take k ++ [putCol (a[k]?.getD []) (b[k]?.getD [])]:=by
  unfold putOf
  rw [map_next _ 0 _ (by rw [List.length_range];exact hk),List.getElem?_range hk]
  rfl
section
variable {Q:Nat→Prop} {base:Nat} {v:Value}
end
set_option maxRecDepth 100000 in
set_option maxHeartbeats 1000000 in
theorem puts_any {B:Nat} (v1 v2:Value) (a b:List (List (List UInt8))) (w:World) (hB:B≤w.heap.size) (hC:Cols B w v1 a) (hD:Cols B w v2 b) (hl1:a.length≤1000) (hlb:a.length≤b.length)
    (hall:∀ j,j<a.length→(a[j]?.getD []).length≤1000∧(a[j]?.getD []).length≤(b[j]?.getD []).length∧∀ i,i<(a[j]?.getD []).length→((a[j]?.getD [])[i]?.getD []).length=((b[j]?.getD [])[i]?.getD []).length∧((a[j]?.getD [])[i]?.getD []).length≤1000) :
    Calls Tryz.prog 28 #[v1,v2] w fun e w'=>∃ u,e = .returned u∧Cols w'.heap.size w' u (putOf a b)∧Below w.heap.size w w':=by
  obtain ⟨A,cap,rfl,_,_⟩:=id hC
  obtain ⟨A',cap',rfl,_,_⟩:=id hD
  have HALL:=Lib.hid hall
  clear hall
  obtain ⟨n0,hn0⟩:∃ n0,a.length=n0:=⟨_,rfl⟩
  obtain ⟨N0,hN0⟩:∃ N0,b.length=N0:=⟨_,rfl⟩
  have HN0:=Lib.hid hn0
  have HNB:=Lib.hid hN0
  have HCC:=Lib.hid hC
  have HDD:=Lib.hid hD
  have HPN:Hid (∀ k,k<n0→(putOf a b).take (k+1)=(putOf a b).take k ++ [putCol (a[k]?.getD []) (b[k]?.getD [])]):=fun k hk=>putOf_next a b (by rw [hn0];exact hk)
  have HPL0:Hid ((putOf a b).length=n0):=by unfold Hid putOf;rw [List.length_map,List.length_range,hn0]
  rw [hn0,hN0] at hlb
  rw [hn0] at hl1 ⊢
  rw [hN0]
  clear hn0 hN0 hC hD
  go_enter Tryz.func28,Tryz.ntmps28
  go_wp2
  go_loopw [5,6] (fun v i wr=>∃ m:Nat,m≤n0∧i = .int .i64 m∧RowC (fun _=>True) wr w.heap.size v ((putOf a b).take m)∧Below w.heap.size w wr) (fun _ i _=>n0 - (intOf i).toNat)
  case atStart=>exact ⟨0,Nat.zero_le _,rfl,RowG.nil _ _ _ _ _ _,Below.refl _ _⟩
  case round =>
    obtain ⟨m,hm,rfl,hrow,hBr⟩:=hrel
    by_cases hlt:m<n0
    · have hdec:decide ((m:Int)<(n0:Int))=true:=by simp;omega
      obtain ⟨b1,off1,cq1,e1,hcq,hb1,hrow1⟩:=HCC.out.at_ (by have:=HN0.out;omega)
      obtain ⟨d1,off2,cq2,e2,hcq2,hd1,hrowd⟩:=HDD.out.at_ (by have:=HNB.out;omega)
      rw [HN0.out] at e1 hcq
      rw [HNB.out] at e2 hcq2
      injection e1 with e1 _ e1c
      subst e1 e1c
      injection e2 with e2 _ e2c
      subst e2 e2c
      obtain ⟨u1,hc1,hm1⟩:=hrow1 m (by have:=HN0.out;omega)
      obtain ⟨ud,hcd,hmd⟩:=hrowd m (by have:=HNB.out;omega)
      obtain ⟨A3,cap3,rfl,_,_⟩:=id hm1
      obtain ⟨A4,cap4,rfl,_,_⟩:=id hmd
      obtain ⟨hcl,hcb,hck⟩:=HALL.out m (by have:=HN0.out;omega)
      have HNX:=Lib.hid (HPN.out m hlt)
      have HPL:Hid (((putOf a b).take m).length≤1000):=by unfold Hid;rw [List.length_take];omega
      have HC1:=Lib.hid hc1
      have HM1:=Lib.hid hm1
      have HCD:=Lib.hid hcd
      have HMD:=Lib.hid hmd
      have HCK:=Lib.hid hck
      clear hrow1 hc1 hm1 hck hcd hmd hrowd
      generalize a[m]?.getD []=xs at *
      generalize b[m]?.getD []=ys at *
      generalize (putOf a b).take m=pre at *
      obtain ⟨n1,hn1⟩:∃ n1,xs.length=n1:=⟨_,rfl⟩
      obtain ⟨N1,hN1⟩:∃ N1,ys.length=N1:=⟨_,rfl⟩
      have HN1:=Lib.hid hn1
      have HNY:=Lib.hid hN1
      rw [hn1,hN1] at hcb
      rw [hn1] at hcl HC1 HM1
      rw [hN1] at HCD HMD
      have hc1:=(hBr.cell (p:=⟨b1,off1+m,none⟩) (Nat.lt_of_lt_of_le hb1 hB)).trans HC1.out
      have hcd:=(hBr.cell (p:=⟨d1,off2+m,none⟩) (Nat.lt_of_lt_of_le hd1 hB)).trans HCD.out
      clear hn1 hN1
      have i1:(0:Int)≤(m:Int):=by omega
      have i2:(m:Int)<(n0:Int):=by omega
      have i3:(m:Int)<(N0:Int):=by omega
      have HROW:=Lib.hid hrow
      have hvlt:=fun b e=>RowG.own_lt hrow b e
      have HVLT:=Lib.hid hvlt
      have HVLE:=Lib.hid (fun b e=>RowG.own_le hrow b e)
      obtain ⟨wq,hwq⟩:∃ x,x=wr:=⟨_,rfl⟩
      subst hwq
      clear hrow hvlt
      go_wp2
      go_loopw [7,8] (fun v2 i wr=>∃ r:Nat,r≤n1∧i = .int .i64 r∧RowM (fun b=>some b≠u5.ownBlock) wr wq.heap.size v2 ((putCol xs ys).take r)∧Below wq.heap.size wq wr) (fun _ i _=>n1 - (intOf i).toNat)
      case atStart=>exact ⟨0,Nat.zero_le _,rfl,RowG.nil _ _ _ _ _ _,Below.refl _ _⟩
      case round =>
        obtain ⟨r,hr,rfl,hrow2,hBs⟩:=hrel
        have hBws:=below_in hBr hBs
        have hc2:=(hBs.cell (p:=⟨b1,off1+m,none⟩) (Nat.lt_of_lt_of_le hb1 (Nat.le_trans hB hBr.size))).trans hc1
        by_cases hlt2:r<n1
        · have hdec2:decide ((r:Int)<(n1:Int))=true:=by simp;omega
          obtain ⟨b2,off3,rfl,hb2,hrow3⟩:=many_at (by rw [HN1.out];exact HM1.out:Many B w (.slice A3 xs.length cap3) xs) (by have:=HN1.out;omega)
          obtain ⟨d2,off4,rfl,hd2,hrow4⟩:=many_at (by rw [HNY.out];exact HMD.out:Many B w (.slice A4 ys.length cap4) ys) (by have:=HNY.out;omega)
          obtain ⟨Aa,ca,hc3,hby⟩:=hrow3 r (by have:=HN1.out;omega)
          obtain ⟨Ab,cb,hc4,hbyd⟩:=hrow4 r (by have:=HNY.out;omega)
          obtain ⟨hll,hln⟩:=HCK.out r (by have:=HN1.out;omega)
          have HNX2:=Lib.hid (putCol_next xs ys (k:=r) (by have:=HN1.out;omega))
          have HPL2:Hid (((putCol xs ys).take r).length≤1000):=by unfold Hid;rw [List.length_take];omega
          clear hrow3 hrow4
          have HXL:=Lib.hid hll
          have HXN:=Lib.hid hln
          generalize xs[r]?.getD []=xa1 at *
          generalize ys[r]?.getD []=xb1 at *
          generalize (putCol xs ys).take r=pre2 at *
          obtain ⟨na,hna⟩:∃ na,xa1.length=na:=⟨_,rfl⟩
          obtain ⟨nb,hnb⟩:∃ nb,xb1.length=nb:=⟨_,rfl⟩
          have HLX:Hid ((xorB xa1 xb1).length=na):=by unfold Hid;rw [xorB_len];exact hna
          rw [hna] at hc3 hby
          rw [hnb] at hc4 hbyd
          clear hna hnb hll hln
          have HXA:=Lib.hid (fun (V:World) (hV:Below wq.heap.size wq V)=>hby.below ((below_in hBr hV).mono hB))
          have HXB:=Lib.hid (fun (V:World) (hV:Below wq.heap.size wq V)=>hbyd.below ((below_in hBr hV).mono hB))
          have hbwq:=hBr.size
          have HS4:=Lib.hid (fun (V:World) (hV:Below wq.heap.size wq V)=>(⟨(hV.cell (p:=⟨b1,off1+m,none⟩) (Nat.lt_of_lt_of_le hb1 (Nat.le_trans hB hbwq))).trans hc1,((below_in hBr hV).cell (p:=⟨b2,off3+r,none⟩) (Nat.lt_of_lt_of_le hb2 hB)).trans hc3,(hV.cell (p:=⟨d1,off2+m,none⟩) (Nat.lt_of_lt_of_le hd1 (Nat.le_trans hB hbwq))).trans hcd,((below_in hBr hV).cell (p:=⟨d2,off4+r,none⟩) (Nat.lt_of_lt_of_le hd2 hB)).trans hc4⟩:(fun V:World=>V.cell? ⟨b1,off1+m,none⟩=some (.slice (some ⟨b2,off3,none⟩) n1 cap3)∧V.cell? ⟨b2,off3+r,none⟩=some (.slice Aa na ca)∧V.cell? ⟨d1,off2+m,none⟩=some (.slice (some ⟨d2,off4,none⟩) N1 cap4)∧V.cell? ⟨d2,off4+r,none⟩=some (.slice Ab nb cb)) V))
          have HSS:=HS4
          have j1:(0:Int)≤(r:Int):=by omega
          have j2:(r:Int)<(n1:Int):=by omega
          have j3:(r:Int)<(N1:Int):=by omega
          have HVLT2:=Lib.hid (fun b e=>RowG.own_lt hrow2 b e)
          have HVLE2:=Lib.hid (fun b e=>RowG.own_le hrow2 b e)
          clear hby hbyd hc3 hc4
          go_wp2_with fail
          have hS:(fun V:World=>V.cell? ⟨b1,off1+m,none⟩=some (.slice (some ⟨b2,off3,none⟩) n1 cap3)∧V.cell? ⟨b2,off3+r,none⟩=some (.slice Aa na ca)∧V.cell? ⟨d1,off2+m,none⟩=some (.slice (some ⟨d2,off4,none⟩) N1 cap4)∧V.cell? ⟨d2,off4+r,none⟩=some (.slice Ab nb cb)) wr.drew:=HS4.out _ hBs.drew
          refine (wpIn_wide (n:=12)).1 (wpIn_mono (region_HF (Q:=NoPanic _) (S:=(fun V:World=>V.cell? ⟨b1,off1+m,none⟩=some (.slice (some ⟨b2,off3,none⟩) n1 cap3)∧V.cell? ⟨b2,off3+r,none⟩=some (.slice Aa na ca)∧V.cell? ⟨d1,off2+m,none⟩=some (.slice (some ⟨d2,off4,none⟩) N1 cap4)∧V.cell? ⟨d2,off4+r,none⟩=some (.slice Ab nb cb))) (by kernel_rfl) ?_) NoPanic.imp)
          refine anyHF_take (i:=0) (d:=24) (v:=u7) (by kernel_rfl) rfl (by kernel_rfl) (by kernel_rfl) (by kernel_rfl) rfl (fun _ _ _ h=>h) ⟨Or.inl ⟨by rfl,fun w hS=>by obtain ⟨h0,h1,h2,h3⟩:=hS;go_simp⟩,fun _=>rfl⟩ hS ?_
          simp only [List.setIfInBounds_toArray,List.set_cons_zero,List.set_cons_succ]
          refine anyHF_take (i:=1) (d:=25) (v:=.slice (some ⟨b1,off1,none⟩) n0 cap) (by kernel_rfl) rfl (by kernel_rfl) (by kernel_rfl) (by kernel_rfl) rfl (fun _ _ _ h=>h) ⟨Or.inl ⟨by rfl,fun w hS=>by obtain ⟨h0,h1,h2,h3⟩:=hS;go_simp⟩,fun _=>rfl⟩ hS ?_
          simp only [List.setIfInBounds_toArray,List.set_cons_zero,List.set_cons_succ]
          refine anyHF_take (i:=2) (d:=26) (v:=.int .i64 (m:Int)) (by kernel_rfl) rfl (by kernel_rfl) (by kernel_rfl) (by kernel_rfl) rfl (fun _ _ _ h=>h) ⟨Or.inl ⟨by rfl,fun w hS=>by obtain ⟨h0,h1,h2,h3⟩:=hS;go_simp⟩,fun _=>rfl⟩ hS ?_
          simp only [List.setIfInBounds_toArray,List.set_cons_zero,List.set_cons_succ]
          refine anyHF_take (i:=3) (d:=27) (v:=.pointer (some ⟨b1,off1+m,none⟩)) (by kernel_rfl) rfl (by kernel_rfl) (by kernel_rfl) (by kernel_rfl) rfl (fun _ _ _ h=>h) ⟨Or.inl ⟨by rfl,fun w hS=>by obtain ⟨h0,h1,h2,h3⟩:=hS;go_simp⟩,fun _=>rfl⟩ hS ?_
          simp only [List.setIfInBounds_toArray,List.set_cons_zero,List.set_cons_succ]
          refine anyHF_take (i:=4) (d:=28) (v:=.slice (some ⟨b2,off3,none⟩) n1 cap3) (by kernel_rfl) rfl (by kernel_rfl) (by kernel_rfl) (by kernel_rfl) rfl (fun _ _ _ h=>h) ⟨Or.inl ⟨by rfl,fun w hS=>by obtain ⟨h0,h1,h2,h3⟩:=hS;go_simp⟩,fun _=>rfl⟩ hS ?_
          simp only [List.setIfInBounds_toArray,List.set_cons_zero,List.set_cons_succ]
          refine anyHF_take (i:=5) (d:=29) (v:=.int .i64 (r:Int)) (by kernel_rfl) rfl (by kernel_rfl) (by kernel_rfl) (by kernel_rfl) rfl (fun _ _ _ h=>h) ⟨Or.inl ⟨by rfl,fun w hS=>by obtain ⟨h0,h1,h2,h3⟩:=hS;go_simp⟩,fun _=>rfl⟩ hS ?_
          simp only [List.setIfInBounds_toArray,List.set_cons_zero,List.set_cons_succ]
          refine anyHF_take (i:=6) (d:=30) (v:=.pointer (some ⟨b2,off3+r,none⟩)) (by kernel_rfl) rfl (by kernel_rfl) (by kernel_rfl) (by kernel_rfl) rfl (fun _ _ _ h=>h) ⟨Or.inl ⟨by rfl,fun w hS=>by obtain ⟨h0,h1,h2,h3⟩:=hS;go_simp⟩,fun _=>rfl⟩ hS ?_
          simp only [List.setIfInBounds_toArray,List.set_cons_zero,List.set_cons_succ]
          refine anyHF_take (i:=7) (d:=31) (v:=.slice Aa na ca) (by kernel_rfl) rfl (by kernel_rfl) (by kernel_rfl) (by kernel_rfl) rfl (fun _ _ _ h=>h) ⟨Or.inl ⟨by rfl,fun w hS=>by obtain ⟨h0,h1,h2,h3⟩:=hS;go_simp⟩,fun _=>rfl⟩ hS ?_
          simp only [List.setIfInBounds_toArray,List.set_cons_zero,List.set_cons_succ]
          refine anyHF_take (i:=8) (d:=32) (v:=.slice (some ⟨d1,off2,none⟩) N0 cap') (by kernel_rfl) rfl (by kernel_rfl) (by kernel_rfl) (by kernel_rfl) rfl (fun _ _ _ h=>h) ⟨Or.inl ⟨by rfl,fun w hS=>by obtain ⟨h0,h1,h2,h3⟩:=hS;go_simp⟩,fun _=>rfl⟩ hS ?_
          simp only [List.setIfInBounds_toArray,List.set_cons_zero,List.set_cons_succ]
          refine anyHF_take (i:=9) (d:=33) (v:=.int .i64 (m:Int)) (by kernel_rfl) rfl (by kernel_rfl) (by kernel_rfl) (by kernel_rfl) rfl (fun _ _ _ h=>h) ⟨Or.inl ⟨by rfl,fun w hS=>by obtain ⟨h0,h1,h2,h3⟩:=hS;go_simp⟩,fun _=>rfl⟩ hS ?_
          simp only [List.setIfInBounds_toArray,List.set_cons_zero,List.set_cons_succ]
          refine anyHF_take (i:=10) (d:=34) (v:=.pointer (some ⟨d1,off2+m,none⟩)) (by kernel_rfl) rfl (by kernel_rfl) (by kernel_rfl) (by kernel_rfl) rfl (fun _ _ _ h=>h) ⟨Or.inl ⟨by rfl,fun w hS=>by obtain ⟨h0,h1,h2,h3⟩:=hS;go_simp⟩,fun _=>rfl⟩ hS ?_
          simp only [List.setIfInBounds_toArray,List.set_cons_zero,List.set_cons_succ]
          refine anyHF_take (i:=11) (d:=35) (v:=.slice (some ⟨d2,off4,none⟩) N1 cap4) (by kernel_rfl) rfl (by kernel_rfl) (by kernel_rfl) (by kernel_rfl) rfl (fun _ _ _ h=>h) ⟨Or.inl ⟨by rfl,fun w hS=>by obtain ⟨h0,h1,h2,h3⟩:=hS;go_simp⟩,fun _=>rfl⟩ hS ?_
          simp only [List.setIfInBounds_toArray,List.set_cons_zero,List.set_cons_succ]
          refine anyHF_take (i:=12) (d:=36) (v:=.int .i64 (r:Int)) (by kernel_rfl) rfl (by kernel_rfl) (by kernel_rfl) (by kernel_rfl) rfl (fun _ _ _ h=>h) ⟨Or.inl ⟨by rfl,fun w hS=>by obtain ⟨h0,h1,h2,h3⟩:=hS;go_simp⟩,fun _=>rfl⟩ hS ?_
          simp only [List.setIfInBounds_toArray,List.set_cons_zero,List.set_cons_succ]
          refine anyHF_take (i:=13) (d:=37) (v:=.pointer (some ⟨d2,off4+r,none⟩)) (by kernel_rfl) rfl (by kernel_rfl) (by kernel_rfl) (by kernel_rfl) rfl (fun _ _ _ h=>h) ⟨Or.inl ⟨by rfl,fun w hS=>by obtain ⟨h0,h1,h2,h3⟩:=hS;go_simp⟩,fun _=>rfl⟩ hS ?_
          simp only [List.setIfInBounds_toArray,List.set_cons_zero,List.set_cons_succ]
          refine anyHF_take (i:=14) (d:=38) (v:=.slice Ab nb cb) (by kernel_rfl) rfl (by kernel_rfl) (by kernel_rfl) (by kernel_rfl) rfl (fun _ _ _ h=>h) ⟨Or.inl ⟨by rfl,fun w hS=>by obtain ⟨h0,h1,h2,h3⟩:=hS;go_simp⟩,fun _=>rfl⟩ hS ?_
          simp only [List.setIfInBounds_toArray,List.set_cons_zero,List.set_cons_succ]
          refine anyHF_one (i:=15) (by kernel_rfl) rfl (by kernel_rfl) (by rfl) ?_
          gi_wp2_with fail
          refine ⟨trivial,(callsIn_wide.2 (rput_any _ _ xa1 xb1 _ ((HXA.out _ (hBs.drew)).more (by have:=hBs.size;simp;omega)) ((HXB.out _ (hBs.drew)).more (by have:=hBs.size;simp;omega)) (Nat.le_of_eq HXL.out) (by have:=HXN.out;omega))).mono ?_⟩
          rintro e wn ⟨v',rfl,hown,hBn⟩
          replace hBn:=below_undrew hBn
          have hfr:=hown.fresh
          obtain ⟨Ax,cx,hxe,_,_⟩:=id hfr
          rw [HLX.out] at hxe
          subst hxe
          clear hown
          clear hS
          have hS:(fun V:World=>V.cell? ⟨b1,off1+m,none⟩=some (.slice (some ⟨b2,off3,none⟩) n1 cap3)∧V.cell? ⟨b2,off3+r,none⟩=some (.slice Aa na ca)∧V.cell? ⟨d1,off2+m,none⟩=some (.slice (some ⟨d2,off4,none⟩) N1 cap4)∧V.cell? ⟨d2,off4+r,none⟩=some (.slice Ab nb cb)) wn:=HSS.out _ (below_in hBs hBn)
          gi_wp2
          try (refine ⟨hS,?_⟩)
          refine anyHF_one (i:=16) (by kernel_rfl) rfl (by kernel_rfl) (by rfl) ?_
          have hcells:Below wn.heap.size wn (wn.alloc (.cells #[.slice Ax na cx] 57)):=below_one wn _
          have hBc:=below_in hBn hcells
          have HROWM:=Lib.hid (RowG.below hrow2 hBc)
          have HBLK:=Lib.hid (Blk.new wn 57 #[.slice Ax na cx])
          have hss:=hBs.size
          have hdr:wr.drew.heap.size=wr.heap.size:=rfl
          have hbn:=hBn.size
          have hcs:=hcells.size
          have hwq:=hBr.size
          have HBY:Hid (BytesP (fun b=>b<(wn.alloc (.cells #[.slice Ax na cx] 57)).heap.size∧some b≠u7.ownBlock∧some b≠u5.ownBlock) (wn.alloc (.cells #[.slice Ax na cx] 57)) (.slice Ax na cx) (xorB xa1 xb1)):=by
            obtain ⟨A8,cp8,e8,h8,hA8⟩:=hfr.below hcells
            refine ⟨A8,cp8,by rw [←HLX.out] at e8 ⊢;exact e8,h8,fun hp=>?_⟩
            obtain ⟨b,off,q1,q2,q3,q4⟩:=hA8 hp
            exact ⟨b,off,q1,⟨q3,fun e=>by have:=HVLT2.out b e.symm;omega,fun e=>by have:=HVLT.out b e.symm;omega⟩,q4⟩
          clear hfr hS
          have hS:(fun V:World=>V.cell? ⟨b1,off1+m,none⟩=some (.slice (some ⟨b2,off3,none⟩) n1 cap3)∧V.cell? ⟨b2,off3+r,none⟩=some (.slice Aa na ca)∧V.cell? ⟨d1,off2+m,none⟩=some (.slice (some ⟨d2,off4,none⟩) N1 cap4)∧V.cell? ⟨d2,off4+r,none⟩=some (.slice Ab nb cb)) (wn.alloc (.cells #[.slice Ax na cx] 57)):=HSS.out _ (below_in hBs hBc)
          gi_wp2
          try (refine ⟨hS,?_⟩)
          refine anyHF_one (i:=17) (by kernel_rfl) rfl (by kernel_rfl) (by rfl) ?_
          refine opIn_pushM (T:=37) (v:=u7) _ (.tmp 24) (.tmp 40) rfl Tryz.underlying37 pre2 rfl HROWM.out wn.heap.size 57 _ (xorB xa1 xb1) rfl HBLK.out HBY.out (by have:=HPL2.out;omega) (by omega) ?_
          intro v' w4 hrow4 hgrow4 hown4
          clear hS
          have hB4:Below wq.heap.size wq w4:=below_grown (below_in hBs hBc) hgrow4 (by omega) (fun g e=>HVLE2.out g e)
          have hS:(fun V:World=>V.cell? ⟨b1,off1+m,none⟩=some (.slice (some ⟨b2,off3,none⟩) n1 cap3)∧V.cell? ⟨b2,off3+r,none⟩=some (.slice Aa na ca)∧V.cell? ⟨d1,off2+m,none⟩=some (.slice (some ⟨d2,off4,none⟩) N1 cap4)∧V.cell? ⟨d2,off4+r,none⟩=some (.slice Ab nb cb)) w4:=HS4.out _ hB4
          gi_wp2_with fail
          try (refine ⟨hS,?_⟩)
          refine anyHF_one (i:=18) (by kernel_rfl) rfl (by kernel_rfl) (by rfl) ?_
          gi_wp2
          refine anyHF_done (by kernel_rfl) ?_ _
          refine NoPanic.normal ?_
          clear hS
          gi_wp2_with fail
          go_wp2
          go_roundw
          case rel=>exact ⟨r+1,by omega,by go_num,by rw [HNX2.out];exact hrow4,hB4⟩
          case measure=>simp [intOf];omega
        · obtain rfl:r=n1:=by omega
          have e1:decide ((r:Int)<(r:Int))=false:=by simp
          have HTK:Hid ((putCol xs ys).take r=putCol xs ys):=by unfold Hid;rw [List.take_of_length_le];unfold putCol;rw [List.length_map,List.length_range,HN1.out];exact Nat.le_refl _
          rw [HTK.out] at hrow2
          obtain ⟨A7,cp7,hu7,_,_⟩:=id (RowM.many hrow2 (S:=fun _=>True) (fun _ _ _=>trivial))
          subst hu7
          generalize (putCol xs ys).length=n7 at *
          have hcells:Below wr.heap.size wr (wr.alloc (.cells #[.slice A7 n7 cp7] 37)):=below_one wr _
          have HROWC:=Lib.hid (RowG.below HROW.out (below_in hBs hcells))
          have HBLK:=Lib.hid (Blk.new wr 37 #[.slice A7 n7 cp7])
          have HCP:Hid (manyR.R (fun b=>b<(wr.alloc (.cells #[.slice A7 n7 cp7] 37)).heap.size∧some b≠u5.ownBlock∧True) (wr.alloc (.cells #[.slice A7 n7 cp7] 37)) (.slice A7 n7 cp7) (putCol xs ys)) :=
            RowM.many (RowG.below hrow2 hcells) fun b hb hq=>⟨hb,by
              rcases hq with h | h
              · exact h
              · exact fun e=>by have:=HVLT.out b e.symm;omega,trivial⟩
          have hbs:=hBs.size
          have hcs:=hcells.size
          have hwq:=hBr.size
          clear hrow2
          go_wp2_with (at_builtin;refine wpList_pushC (T:=22) _ rfl _ _ rfl Tryz.underlying22 pre rfl HROWC.out wr.heap.size 37 _ (putCol xs ys) rfl HBLK.out HCP.out (by have:=HPL.out;omega) (by omega) ?_;intro v' w2 hrow4 hgrow hown)
          go_roundw
          case rel=>exact ⟨m+1,by omega,by go_num,by rw [HNX.out];exact hrow4,below_grown (below_in hBr (below_in hBs hcells)) hgrow (by omega) (fun g e=>HVLE.out g e)⟩
          case measure=>simp [intOf];omega
    · obtain rfl:m=n0:=by omega
      have e1:decide ((m:Int)<(m:Int))=false:=by simp
      have HE:Hid ((putOf a b).take m=putOf a b):=by unfold Hid;rw [List.take_of_length_le];rw [HPL0.out];exact Nat.le_refl _
      rw [HE.out] at hrow
      go_wp2
      go_ret
      exact ⟨_,rfl,RowC.cols hrow,hBr⟩
end Go.Proofs.YtfihlelhpmjpaaaGreatDoor.E

namespace Go.Proofs.YtfihlelhpmjpaaaGreatDoor.E
open Go.RowKit Go.Shelf Go.Proofs.YtfihlelhpmjpaaaGreatDoor.C
set_option linter.unusedSimpArgs false
set_option linter.unusedVariables false

section
variable {p:Int} {a b css:List (List (List UInt8))}
theorem putOf_len:(putOf a b).length=a.length:=by unfold putOf;rw [List.length_map,List.length_range]
theorem putOf_col {c:Nat} (hc:c<a.length):(putOf a b)[c]?.getD []=putCol (a[c]?.getD []) (b[c]?.getD []):=by
  unfold putOf
  rw [List.getElem?_map,List.getElem?_range hc]
  rfl
end
end Go.Proofs.YtfihlelhpmjpaaaGreatDoor.E

namespace Go.Proofs.YtfihlelhpmjpaaaGreatDoor.Ch
open Go.RowKit Go.Shelf Go.Proofs.YtfihlelhpmjpaaaGreatDoor.C Go.Proofs.YtfihlelhpmjpaaaGreatDoor.E Go.Proofs.YtfihlelhpmjpaaaGreatDoor.T
set_option linter.unusedSimpArgs false
set_option linter.unusedVariables false

section
variable {P Q n:Nat} {x y:List (List (List UInt8))} {L:List Int}
theorem put_goods (d:Rg.Dims P Q n) (gx:∀ c,c<x.length→GoodC Q n (x[c]?.getD [])):∀ c,c<(putOf x y).length→GoodC Q n ((putOf x y)[c]?.getD []):=fun c hc=>by
  rw [putOf_len] at hc
  rw [putOf_col hc]
  exact Rg.put_good d.h1 d.h64 (gx c hc)
theorem rs_add (d:Rg.Dims P Q n) (hlx:x.length=P+2) (hly:y.length=P+2) (gx:∀ c,c<x.length→GoodC Q n (x[c]?.getD [])) (gy:∀ c,c<y.length→GoodC Q n (y[c]?.getD [])) (hP:(P:Int)∉L) (j:Nat) (r:Int) :
    Rg.Bt P Q n (rsF P Q (lostC L Q n (putOf x y))) j r=Rg.Bt P Q n (rsF P Q (lostC L Q n x)) j r ^^^ Rg.Bt P Q n (rsF P Q (lostC L Q n y)) j r:=by
  have hlp:(putOf x y).length=P+2:=putOf_len.trans hlx
  have gp:=put_goods (y:=y) d gx
  have g1:=lostC_goods (L:=L) d (fun i hi _=>gx i hi)
  have g2:=lostC_goods (L:=L) d (fun i hi _=>gy i hi)
  have g3:=lostC_goods (L:=L) d (fun i hi _=>gp i hi)
  rw [bt_rs d rfl (by rw [lostC_len,hlp]) (fun c hc=>g3 c (by omega)),bt_rs d rfl (by rw [lostC_len,hlx]) (fun c hc=>g1 c (by omega)),bt_rs d rfl (by rw [lostC_len,hly]) (fun c hc=>g2 c (by omega)),bt_lost d (by omega),bt_lost d (by omega),bt_lost d (by omega),if_neg hP,if_neg hP,if_neg hP,putOf_col (by omega)]
  have e0:Rg.Bt P Q n (putCol (x[P]?.getD []) (y[P]?.getD [])) j r=Rg.Bt P Q n (x[P]?.getD []) j r ^^^ Rg.Bt P Q n (y[P]?.getD []) j r:=Rg.bt_put d.hQ (gx P (by omega)) (gy P (by omega)) j r
  have e:xa ((List.range P).map fun c:Nat=>Rg.Bt P Q n ((lostC L Q n (putOf x y))[c]?.getD []) j r)=xa ((List.range P).map fun c:Nat=>Rg.Bt P Q n ((lostC L Q n x)[c]?.getD []) j r) ^^^ xa ((List.range P).map fun c:Nat=>Rg.Bt P Q n ((lostC L Q n y)[c]?.getD []) j r):=by
    rw [←xa_add]
    congr 1
    refine List.map_congr_left fun c hc=>?_
    have hc':=List.mem_range.1 hc
    rw [bt_lost d (by omega),bt_lost d (by omega),bt_lost d (by omega)]
    split
    · rfl
    · rw [putOf_col (by omega)]
      exact Rg.bt_put d.hQ (gx c (by omega)) (gy c (by omega)) j r
  rw [e,e0]
  simp only [UInt8.xor_assoc,UInt8.xor_comm,Rg.xlc]
theorem ds_add (d:Rg.Dims P Q n) (hlx:x.length=P+2) (hly:y.length=P+2) (gx:∀ c,c<x.length→GoodC Q n (x[c]?.getD [])) (gy:∀ c,c<y.length→GoodC Q n (y[c]?.getD [])) (hP:((P+1:Nat):Int)∉L) (j:Nat) (r:Int) :
    Rg.Bt P Q n (dsF P Q (lostC L Q n (putOf x y))) j r=Rg.Bt P Q n (dsF P Q (lostC L Q n x)) j r ^^^ Rg.Bt P Q n (dsF P Q (lostC L Q n y)) j r:=by
  have hlp:(putOf x y).length=P+2:=putOf_len.trans hlx
  have gp:=put_goods (y:=y) d gx
  have g1:=lostC_goods (L:=L) d (fun i hi _=>gx i hi)
  have g2:=lostC_goods (L:=L) d (fun i hi _=>gy i hi)
  have g3:=lostC_goods (L:=L) d (fun i hi _=>gp i hi)
  rw [bt_ds d rfl (by rw [lostC_len,hlp]) (fun c hc=>g3 c (by omega)),bt_ds d rfl (by rw [lostC_len,hlx]) (fun c hc=>g1 c (by omega)),bt_ds d rfl (by rw [lostC_len,hly]) (fun c hc=>g2 c (by omega)),bt_lost d (by omega),bt_lost d (by omega),bt_lost d (by omega),if_neg hP,if_neg hP,if_neg hP,putOf_col (by omega)]
  have e0:Rg.Bt P Q n (putCol (x[P+1]?.getD []) (y[P+1]?.getD [])) j r=Rg.Bt P Q n (x[P+1]?.getD []) j r ^^^ Rg.Bt P Q n (y[P+1]?.getD []) j r:=Rg.bt_put d.hQ (gx (P+1) (by omega)) (gy (P+1) (by omega)) j r
  have e:xa ((List.range P).map fun c:Nat=>Rg.tu (c:Int) (Rg.Bt P Q n ((lostC L Q n (putOf x y))[c]?.getD []) j) r)=xa ((List.range P).map fun c:Nat=>Rg.tu (c:Int) (Rg.Bt P Q n ((lostC L Q n x)[c]?.getD []) j) r) ^^^ xa ((List.range P).map fun c:Nat=>Rg.tu (c:Int) (Rg.Bt P Q n ((lostC L Q n y)[c]?.getD []) j) r):=by
    rw [←xa_add]
    congr 1
    refine List.map_congr_left fun c hc=>?_
    have hc':=List.mem_range.1 hc
    rw [tu_noC d (by omega),tu_noC d (by omega),tu_noC d (by omega)]
    split
    · rfl
    · rw [putOf_col (by omega),show Rg.Bt P Q n (putCol (x[c]?.getD []) (y[c]?.getD [])) j=fun s=>Rg.Bt P Q n (x[c]?.getD []) j s ^^^ Rg.Bt P Q n (y[c]?.getD []) j s from funext fun s=>Rg.bt_put d.hQ (gx c (by omega)) (gy c (by omega)) j s,Rg.tu_add]
  rw [e,e0]
  simp only [UInt8.xor_assoc,UInt8.xor_comm,Rg.xlc]
end
theorem putsY {P Q n:Nat} (d:Rg.Dims P Q n) {a b:List (List (List UInt8))} (hl:a.length≤1000) (hlb:a.length=b.length) (ga:∀ c,c<a.length→GoodC Q n (a[c]?.getD [])) (gb:∀ c,c<b.length→GoodC Q n (b[c]?.getD [])) (u v:Value) (W:World) {B:Nat} (hB:B≤W.heap.size) (h1:Cols B W u a) (h2:Cols B W v b) :
    Calls Tryz.prog 28 #[u,v] W fun e w'=>∃ z,e = .returned z∧Cols w'.heap.size w' z (putOf a b)∧Below W.heap.size W w':=by
  have hpb:=prm_bounds d.hp
  have hQ:=d.hQ
  have h64:=d.h64
  exact puts_any u v a b W hB h1 h2 hl (by omega) fun j hj=>by
    have h1:=ga j hj
    have h2:=gb j (by omega)
    refine ⟨by rw [h1.1];omega,by rw [h1.1,h2.1];exact Nat.le_refl _,fun i hi=>?_⟩
    rw [h1.1] at hi
    rw [(h1.2 i hi).2,(h2.2 i hi).2]
    exact ⟨rfl,by omega⟩
theorem two_goods {Q n:Nat} {A B:List (List UInt8)} (gA:GoodC Q n A) (gB:GoodC Q n B):∀ c,c < [A,B].length→GoodC Q n ([A,B][c]?.getD []):=fun c hc=>by
  have h2:c=0∨c=1:=by simp at hc;omega
  rcases h2 with rfl | rfl
  · exact gA
  · exact gB
theorem five_goods {Q n:Nat} {X A B A' B':List (List UInt8)} (gX:GoodC Q n X) (gA:GoodC Q n A) (gB:GoodC Q n B) (gA':GoodC Q n A') (gB':GoodC Q n B'):∀ j,j<([X] ++ [A,B] ++ [A',B']).length→GoodC Q n (([X] ++ [A,B] ++ [A',B'])[j]?.getD []):=fun j hj=>by
  have h5:j=0∨j=1∨j=2∨j=3∨j=4:=by simp at hj;omega
  rcases h5 with rfl | rfl | rfl | rfl | rfl
  · exact gX
  · exact gA
  · exact gB
  · exact gA'
  · exact gB'
end Go.Proofs.YtfihlelhpmjpaaaGreatDoor.Ch

