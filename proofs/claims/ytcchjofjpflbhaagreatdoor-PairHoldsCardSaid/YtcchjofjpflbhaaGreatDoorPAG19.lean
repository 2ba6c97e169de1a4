/- -/
import Derived.Test.YtcchjofjpflbhaaGreatDoorPAG18
set_option linter.unusedVariables false
set_option linter.unusedSimpArgs false
set_option maxRecDepth 100000
set_option maxHeartbeats 8000000
namespace Go.Proofs.YtcchjofjpflbhaaGreatDoor.T
open Go.RowKit Go.Shelf Go.Maps Go.Proofs.YtcchjofjpflbhaaGreatDoor.C Go.Proofs.YtcchjofjpflbhaaGreatDoor.E Go.Proofs.YtcchjofjpflbhaaGreatDoor.Ch
attribute [local go_sem] Oper.semAt_some

theorem enter_OD:∀ args W,(callFunc 122 args).run Tryz.prog W = .ok (.enter 122 args) W:=enters_of Tryz.func122 (by kernel_rfl) rfl
theorem enter_IR:∀ args W,(callFunc 123 args).run Tryz.prog W = .ok (.enter 123 args) W:=enters_of Tryz.func123 (by kernel_rfl) rfl
theorem pRecovered_any {P Q n:Nat} (d:Rg.Dims P Q n) (a b:Int) (ha:0≤a) (hab:a<b) (hb:b<(P:Int)) (gl:Nat) (R D A Bc:List (List UInt8)) (gR:GoodC Q n R) (gD:GoodC Q n D) (hsol:SolvesP P Q n R D A Bc a b) (A1 A2 nA:Option Addr) (k1 k2 nc:Nat) (w:World) (hL:Laid w) (hgl:gl<w.heap.size) (cA:w.cell? ⟨gl,0,none⟩=some (.int .i64 a)) (cB:w.cell? ⟨gl,1,none⟩=some (.int .i64 b)) (hR:Many w.heap.size w (.slice A1 Q k1) R) (hD:Many w.heap.size w (.slice A2 Q k2) D) (hno:Bytes w.heap.size w (.slice nA n nc) (List.replicate n 0)) :
 Calls Tryz.prog 63 #[.agg #[.int .i64 2,.int .i64 (P:Int),.slice (some ⟨gl,0,none⟩) 2 2,.slice A1 Q k1,.slice A2 Q k2,.slice nA n nc]] w fun e w'=>∃ gC kk,e = .returned (.slice (some ⟨gC,0,none⟩) 2 kk)∧Cols w'.heap.size w' (.slice (some ⟨gC,0,none⟩) 2 kk) [A,Bc]∧Below w.heap.size w w':=by
 have hpb:=prm_bounds d.hp
 have hQ:=d.hQ
 have hQ2:2≤Q:=by omega
 have hR':Many w.heap.size w (.slice A1 R.length k1) R:=by rw [gR.1];exact hR
 have hD':Many w.heap.size w (.slice A2 D.length k2) D:=by rw [gD.1];exact hD
 obtain ⟨gr,orr,rfl,hgr,hrR⟩:=many_at hR' (by rw [gR.1];omega)
 obtain ⟨gd,od,rfl,hgd,hrD⟩:=many_at hD' (by rw [gD.1];omega)
 obtain ⟨w0,hw0⟩:∃ x,w.alloc (.cells #[.int .i64 2,.int .i64 (P:Int),.slice (some ⟨gl,0,none⟩) 2 2,.slice (some ⟨gr,orr,none⟩) Q k1,.slice (some ⟨gd,od,none⟩) Q k2,.slice nA n nc] 99)=x:=⟨_,rfl⟩
 obtain ⟨g1,hg1⟩:∃ x,w.heap.size=x:=⟨_,rfl⟩
 have b1:Blk w0 g1 99 #[.int .i64 2,.int .i64 (P:Int),.slice (some ⟨gl,0,none⟩) 2 2,.slice (some ⟨gr,orr,none⟩) Q k1,.slice (some ⟨gd,od,none⟩) Q k2,.slice nA n nc]:=by rw [←hw0,←hg1];exact Blk.new w _ _
 have hB0:Below w.heap.size w w0:=by rw [←hw0];exact below_one w _
 have HDC:Hid (∀ i,i<Q→∃ uA uc,gd<w0.heap.size∧w0.cell? ⟨gd,od+i,none⟩=some (.slice uA n uc)∧Bytes w0.heap.size w0 (.slice uA n uc) (D[i]?.getD [])):=fun i hi=>by
  obtain ⟨uA,uc,h1,h2⟩:=hrD i (by rw [gD.1];exact hi)
  rw [(gD.2 i hi).2] at h1 h2
  exact ⟨uA,uc,Nat.lt_of_lt_of_le hgd hB0.size,(hB0.cell (p:=⟨gd,od+i,none⟩) hgd).trans h1,(h2.below hB0).more hB0.size⟩
 have HRC:Hid (∀ i,i<Q→∃ uA uc,gr<w0.heap.size∧w0.cell? ⟨gr,orr+i,none⟩=some (.slice uA n uc)∧Bytes w0.heap.size w0 (.slice uA n uc) (R[i]?.getD [])):=fun i hi=>by
  obtain ⟨uA,uc,h1,h2⟩:=hrR i (by rw [gR.1];exact hi)
  rw [(gR.2 i hi).2] at h1 h2
  exact ⟨uA,uc,Nat.lt_of_lt_of_le hgr hB0.size,(hB0.cell (p:=⟨gr,orr+i,none⟩) hgr).trans h1,(h2.below hB0).more hB0.size⟩
 have HNO:=Lib.hid ((hno.below hB0).more hB0.size)
 have HSS:Hid (∀ V,Below w0.heap.size w0 V→(fun U:World=>U.cell? ⟨g1,0,none⟩=some (.int .i64 2)∧U.cell? ⟨g1,1,none⟩=some (.int .i64 (P:Int))∧U.cell? ⟨g1,2,none⟩=some (.slice (some ⟨gl,0,none⟩) 2 2)∧U.cell? ⟨g1,3,none⟩=some (.slice (some ⟨gr,orr,none⟩) Q k1)∧U.cell? ⟨g1,4,none⟩=some (.slice (some ⟨gd,od,none⟩) Q k2)∧U.cell? ⟨g1,5,none⟩=some (.slice nA n nc)) V):=fun V hV=>⟨(b1.below hV b1.lt).cell 0,(b1.below hV b1.lt).cell 1,(b1.below hV b1.lt).cell 2,(b1.below hV b1.lt).cell 3,(b1.below hV b1.lt).cell 4,(b1.below hV b1.lt).cell 5⟩
 have HLAID:=Lib.hid (fun (V:World) (hV:Below w0.heap.size w0 V)=>hL.next (below_in hB0 hV))
 have HGL:=Lib.hid (And.intro (Nat.lt_of_lt_of_le hgl hB0.size) (And.intro ((hB0.cell (p:=⟨gl,0,none⟩) hgl).trans cA) ((hB0.cell (p:=⟨gl,1,none⟩) hgl).trans cB)))
 have HCO:=Lib.hid (fun (V:World) (hV:Below w0.heap.size w0 V)=>pColumns_any P Q hQ d.hp a b (by omega) gl V (Nat.lt_of_lt_of_le HGL.out.1 hV.size) ((hV.cell (p:=⟨gl,0,none⟩) HGL.out.1).trans HGL.out.2.1) ((hV.cell (p:=⟨gl,1,none⟩) HGL.out.1).trans HGL.out.2.2))
 have HAR:=Lib.hid (fun (V:World) (hV:Below w0.heap.size w0 V)=>arms_any (P:Int) a b d.hp ⟨ha,by omega⟩ ⟨by omega,hb⟩ gl V (HLAID.out V hV) (Nat.lt_of_lt_of_le HGL.out.1 hV.size) ((hV.cell (p:=⟨gl,0,none⟩) HGL.out.1).trans HGL.out.2.1) ((hV.cell (p:=⟨gl,1,none⟩) HGL.out.1).trans HGL.out.2.2))
 have HT0:Hid (∀ j,j<(armP (P:Int) a b).length→∀ e,(armP (P:Int) a b)[j]?=some e→((e.1=a∨e.1=b)∧0≤e.2∧e.2<(P:Int) - 1∧(j % 2=0→(e.1+e.2) % (P:Int)<(P:Int) - 1))∧(shareF P Q n R D j e).length=n∧(aheadP n a A Bc (armP (P:Int) a b) j).length=n∧xorOf [aheadP n a A Bc (armP (P:Int) a b) j,shareF P Q n R D j e]=cellF a A Bc e):=fun j hj e he=>arm_told d gR gD hsol ⟨ha,by omega⟩ ⟨by omega,hb⟩ (by omega) hj he
 have HT1:Hid (∀ j,j<(armP (P:Int) b a).length→∀ e,(armP (P:Int) b a)[j]?=some e→((e.1=b∨e.1=a)∧0≤e.2∧e.2<(P:Int) - 1∧(j % 2=0→(e.1+e.2) % (P:Int)<(P:Int) - 1))∧(shareF P Q n R D j e).length=n∧(aheadP n b Bc A (armP (P:Int) b a) j).length=n∧xorOf [aheadP n b Bc A (armP (P:Int) b a) j,shareF P Q n R D j e]=cellF b Bc A e):=fun j hj e he=>arm_told d gR gD hsol.swap ⟨by omega,hb⟩ ⟨ha,by omega⟩ (by omega) hj he
 have HCV:Hid (∀ r:Nat,r<Q→(a,(r:Int))∈armP (P:Int) a b ++ armP (P:Int) b a∧(b,(r:Int))∈armP (P:Int) a b ++ armP (P:Int) b a):=fun r hr=>by
  have h1:=cover_a d.hp (a:=a) (b:=b) ⟨ha,by omega⟩ ⟨by omega,hb⟩ (by omega) (r:=r) (by omega)
  have h2:=cover_a d.hp (a:=b) (b:=a) ⟨by omega,hb⟩ ⟨ha,by omega⟩ (by omega) (r:=r) (by omega)
  exact ⟨h1,(List.mem_append.1 h2).elim (fun h=>List.mem_append_right _ h) (fun h=>List.mem_append_left _ h)⟩
 have HL100:Hid ((armP (P:Int) a b).length≤100∧(armP (P:Int) b a).length≤100):=⟨armP_len d.hp,armP_len d.hp⟩
 have HAB0:a≠b:=by omega
 have HAB:=Lib.hid HAB0
 have HN1:=Lib.hid (And.intro d.h1 d.h64)
 have HQP:Hid (P=Q+1∧(3≤P∧P≤17∧2≤Q)∧(P:Int)∈prm):=⟨hQ,by omega,d.hp⟩
 have HQP2:=Lib.hid (And.intro hsol.gA.1 hsol.gB.1)
 have HB0:=Lib.hid hB0
 have HW0:=Lib.hid (And.intro hw0 hg1)
 have HCB:Hid (0≤a∧a<(P:Int)∧0≤b∧b<(P:Int)):=⟨ha,by omega,by omega,hb⟩
 obtain ⟨La,hLa⟩:∃ l,armP (P:Int) a b=l:=⟨_,rfl⟩
 obtain ⟨Lb,hLb⟩:∃ l,armP (P:Int) b a=l:=⟨_,rfl⟩
 rw [hLa] at HAR HT0 HCV HL100
 rw [hLb] at HAR HT1 HCV HL100
 obtain ⟨KK1,hKK1⟩:∃ K:Exit→Act→World→Prop,K=(fun e aa Z=>e=Exit.normal∧∃ x10 x11 x12 x13 x14 x15 x16 x17 g3 gm ga gb g4,aa=({ tmps:=#[.agg #[.int .i64 2,.int .i64 (P:Int),.slice (some ⟨gl,0,none⟩) 2 2,.slice (some ⟨gr,orr,none⟩) Q k1,.slice (some ⟨gd,od,none⟩) Q k2,.slice nA n nc],.pointer (some ⟨g1,0,none⟩),.slice none 0 0,.func (.func 178) #[] #[.pointer (some ⟨g3,0,none⟩)],.pointer (some ⟨g4,0,none⟩),undef,undef,undef,undef,undef,x10,x11,x12,x13,x14,x15,x16,x17,undef,undef,undef,undef,undef,undef,undef,undef,undef,undef,undef,undef,undef,undef,undef,undef,undef,undef,undef,undef,undef,undef,undef,undef,undef,undef,undef,undef,undef,undef,undef,undef,undef,undef,undef,undef,undef,undef,undef,undef],defers:=[] }:Act)∧Blk Z g4 162 #[.func (.func 122) #[.agg #[.int .i64 2,.int .i64 (P:Int),.slice (some ⟨gl,0,none⟩) 2 2,.slice (some ⟨gr,orr,none⟩) Q k1,.slice (some ⟨gd,od,none⟩) Q k2,.slice nA n nc]] #[],.func (.func 123) #[.agg #[.int .i64 2,.int .i64 (P:Int),.slice (some ⟨gl,0,none⟩) 2 2,.slice (some ⟨gr,orr,none⟩) Q k1,.slice (some ⟨gd,od,none⟩) Q k2,.slice nA n nc]] #[]]∧Blk Z g3 221 #[.map (some gm)]∧IntMap Z gm [(a,.slice (some ⟨ga,0,none⟩) Q Q),(b,.slice (some ⟨gb,0,none⟩) Q Q)]∧Blk Z ga 64 (Array.replicate Q (.slice none 0 0))∧Blk Z gb 64 (Array.replicate Q (.slice none 0 0))∧Below w0.heap.size w0 Z∧((g4≠g3∧g4≠gm∧g4≠ga∧g4≠gb)∧w0.heap.size≤g4∧w0.heap.size≤g3∧w0.heap.size≤gm∧w0.heap.size≤ga∧w0.heap.size≤gb∧ga≠gb)∧g3≠ga∧g3≠gb∧gm≠ga∧gm≠gb):=⟨_,rfl⟩
 have HKC1:=Lib.hid hKK1
 clear hKK1 hLa hLb HAB0 hw0 hg1 hB0 b1 hL hgl cA cB hR hD hno hR' hD' hgr hgd hrR hrD hsol gR gD d hpb hQ hQ2 ha hab hb
 go_enter Tryz.func63,Tryz.ntmps63
 go_wp2_with fail
 (try rw [HW0.out.2]);(try rw [HW0.out.1])
 have hBx:=(Below.refl w0.heap.size w0).drew
 have hS:=HSS.out _ hBx
 refine (wpIn_wide (n:=9)).1 ?_
 refine wpIn_mono (Q:=KK1) (wpIn_mono (region_HF (Q:=NoPanic KK1) (S:=(fun U:World=>U.cell? ⟨g1,0,none⟩=some (.int .i64 2)∧U.cell? ⟨g1,1,none⟩=some (.int .i64 (P:Int))∧U.cell? ⟨g1,2,none⟩=some (.slice (some ⟨gl,0,none⟩) 2 2)∧U.cell? ⟨g1,3,none⟩=some (.slice (some ⟨gr,orr,none⟩) Q k1)∧U.cell? ⟨g1,4,none⟩=some (.slice (some ⟨gd,od,none⟩) Q k2)∧U.cell? ⟨g1,5,none⟩=some (.slice nA n nc))) (by kernel_rfl) ?reg1) NoPanic.imp) ?cont1
 case reg1 =>
  refine tkF (i:=0) (d:=10) (v:=.pointer (some ⟨g1,0,none⟩)) (s:=hS) (c:=?_)
  simp only [ud9]
  refine tkF (i:=1) (d:=11) (v:=.agg #[.int .i64 2,.int .i64 (P:Int),.slice (some ⟨gl,0,none⟩) 2 2]) (s:=hS) (c:=?_)
  simp only [ud9]
  refine tkF (i:=3) (d:=13) (v:=.agg #[.int .i64 2,.int .i64 (P:Int),.slice (some ⟨gl,0,none⟩) 2 2,.slice (some ⟨gr,orr,none⟩) Q k1,.slice (some ⟨gd,od,none⟩) Q k2,.slice nA n nc]) (s:=hS) (c:=?_)
  simp only [ud9]
  refine tkF (i:=4) (d:=14) (v:=.func (.func 122) #[.agg #[.int .i64 2,.int .i64 (P:Int),.slice (some ⟨gl,0,none⟩) 2 2,.slice (some ⟨gr,orr,none⟩) Q k1,.slice (some ⟨gd,od,none⟩) Q k2,.slice nA n nc]] #[]) (s:=hS) (c:=?_)
  simp only [ud9]
  refine tkF (i:=5) (d:=15) (v:=.agg #[.int .i64 2,.int .i64 (P:Int),.slice (some ⟨gl,0,none⟩) 2 2,.slice (some ⟨gr,orr,none⟩) Q k1,.slice (some ⟨gd,od,none⟩) Q k2,.slice nA n nc]) (s:=hS) (c:=?_)
  simp only [ud9]
  refine tkF (i:=6) (d:=16) (v:=.func (.func 123) #[.agg #[.int .i64 2,.int .i64 (P:Int),.slice (some ⟨gl,0,none⟩) 2 2,.slice (some ⟨gr,orr,none⟩) Q k1,.slice (some ⟨gd,od,none⟩) Q k2,.slice nA n nc]] #[]) (s:=hS) (c:=?_)
  simp only [ud9]
  refine tkF (i:=7) (d:=17) (v:=.agg #[.func (.func 122) #[.agg #[.int .i64 2,.int .i64 (P:Int),.slice (some ⟨gl,0,none⟩) 2 2,.slice (some ⟨gr,orr,none⟩) Q k1,.slice (some ⟨gd,od,none⟩) Q k2,.slice nA n nc]] #[],.func (.func 123) #[.agg #[.int .i64 2,.int .i64 (P:Int),.slice (some ⟨gl,0,none⟩) 2 2,.slice (some ⟨gr,orr,none⟩) Q k1,.slice (some ⟨gd,od,none⟩) Q k2,.slice nA n nc]] #[]]) (s:=hS) (c:=?_)
  simp only [ud9]
  refine Rg.anyHF_both (i:=2) (j:=8) (by kernel_rfl) rfl rfl (by rfl) (by rfl) ?c1a ?c1b
  case c1a =>
   have hszB:=hBx.size
   (try have hszc:=hBA.size)
   gi_wp2_with fail
   refine ⟨trivial,(callsIn_wide.2 (HCO.out _ hBx)).mono ?_⟩
   rintro e v2 ⟨g3,gm,ga,gb,rfl,q3,qM,qa,qb,hord,hB⟩
   replace hBx:=below_in hBx hB
   clear hS
   have hS:(fun U:World=>U.cell? ⟨g1,0,none⟩=some (.int .i64 2)∧U.cell? ⟨g1,1,none⟩=some (.int .i64 (P:Int))∧U.cell? ⟨g1,2,none⟩=some (.slice (some ⟨gl,0,none⟩) 2 2)∧U.cell? ⟨g1,3,none⟩=some (.slice (some ⟨gr,orr,none⟩) Q k1)∧U.cell? ⟨g1,4,none⟩=some (.slice (some ⟨gd,od,none⟩) Q k2)∧U.cell? ⟨g1,5,none⟩=some (.slice nA n nc)) v2:=HSS.out _ hBx
   clear hB
   gi_wp2
   try (refine ⟨hS,?_⟩)
   refine oneF (i:=8) (c:=?_)
   have hge4:=hBx.size
   (try have hszG:=qb.lt)
   have hB:Below v2.heap.size v2 (v2.alloc (.cells #[.nilFunc,.nilFunc] 162)):=below_one v2 _
   have q4:Blk (v2.alloc (.cells #[.nilFunc,.nilFunc] 162)) v2.heap.size 162 #[.nilFunc,.nilFunc]:=Blk.new v2 _ _
   obtain ⟨a3,he⟩:∃ x,(v2.alloc (.cells #[.nilFunc,.nilFunc] 162))=x:=⟨_,rfl⟩
   obtain ⟨g4,hg⟩:∃ x,v2.heap.size=x:=⟨_,rfl⟩
   have hsz:a3.heap.size=g4+1:=by rw [←he,←hg];simp
   rw [he] at hB q4
   rw [hg] at q4
   have H4:=Lib.hid (And.intro hg hsz)
   have hBA:=Below.refl a3.heap.size a3
   clear hsz
   replace q3:=q3.below hB q3.lt
   replace qM:=qM.below hB qM.lt
   replace qa:=qa.below hB qa.lt
   replace qb:=qb.below hB qb.lt
   replace hBx:=below_in hBx hB
   clear hS
   have hS:(fun U:World=>U.cell? ⟨g1,0,none⟩=some (.int .i64 2)∧U.cell? ⟨g1,1,none⟩=some (.int .i64 (P:Int))∧U.cell? ⟨g1,2,none⟩=some (.slice (some ⟨gl,0,none⟩) 2 2)∧U.cell? ⟨g1,3,none⟩=some (.slice (some ⟨gr,orr,none⟩) Q k1)∧U.cell? ⟨g1,4,none⟩=some (.slice (some ⟨gd,od,none⟩) Q k2)∧U.cell? ⟨g1,5,none⟩=some (.slice nA n nc)) a3:=HSS.out _ hBx
   gi_wp2
   (try rw [hg]);(try rw [he])
   try (refine ⟨hS,?_⟩)
   clear hB he hg
   refine oneF (i:=9) (c:=?_)
   gi_wp2
   refine oneF (i:=10) (c:=?_)
   have kk0:a3.cell? ⟨g4,0,none⟩=some .nilFunc:=q4.cell 0
   have kk1:a3.cell? ⟨g4,1,none⟩=some .nilFunc:=q4.cell 1
   have f0:=q4.frozen 0
   have f1:=q4.frozen 1
   have hne4:(g4≠g3∧g4≠gm∧g4≠ga∧g4≠gb)∧w0.heap.size≤g4∧w0.heap.size≤g3∧w0.heap.size≤gm∧w0.heap.size≤ga∧w0.heap.size≤gb∧ga≠gb:=by have:=H4.out;omega
   obtain ⟨Z,hZ⟩:∃ z,(a3.setCell ⟨g4,0,none⟩ (.func (.func 122) #[.agg #[.int .i64 2,.int .i64 (P:Int),.slice (some ⟨gl,0,none⟩) 2 2,.slice (some ⟨gr,orr,none⟩) Q k1,.slice (some ⟨gd,od,none⟩) Q k2,.slice nA n nc]] #[])).setCell ⟨g4,1,none⟩ (.func (.func 123) #[.agg #[.int .i64 2,.int .i64 (P:Int),.slice (some ⟨gl,0,none⟩) 2 2,.slice (some ⟨gr,orr,none⟩) Q k1,.slice (some ⟨gd,od,none⟩) Q k2,.slice nA n nc]] #[])=z:=⟨_,rfl⟩
   have hkZ:∀ b,b≠g4→Z.heap[b]?=a3.heap[b]?:=fun b hb=>by rw [←hZ];exact (Below.heap_setCell _ ⟨g4,1,none⟩ _ b hb).trans (Below.heap_setCell _ ⟨g4,0,none⟩ _ b hb)
   have y4:Blk Z g4 162 #[.func (.func 122) #[.agg #[.int .i64 2,.int .i64 (P:Int),.slice (some ⟨gl,0,none⟩) 2 2,.slice (some ⟨gr,orr,none⟩) Q k1,.slice (some ⟨gd,od,none⟩) Q k2,.slice nA n nc]] #[],.func (.func 123) #[.agg #[.int .i64 2,.int .i64 (P:Int),.slice (some ⟨gl,0,none⟩) 2 2,.slice (some ⟨gr,orr,none⟩) Q k1,.slice (some ⟨gd,od,none⟩) Q k2,.slice nA n nc]] #[]]:=by rw [←hZ];exact (q4.set_ 0 _).set_ 1 _
   have y3:Blk Z g3 221 #[.map (some gm)]:=(hkZ g3 (fun e=>hne4.1.1 e.symm)).trans q3
   have yM:IntMap Z gm [(a,.slice (some ⟨ga,0,none⟩) Q Q),(b,.slice (some ⟨gb,0,none⟩) Q Q)]:=qM.keep (hkZ gm (fun e=>hne4.1.2.1 e.symm))
   have ya:Blk Z ga 64 (Array.replicate Q (.slice none 0 0)):=(hkZ ga (fun e=>hne4.1.2.2.1 e.symm)).trans qa
   have yb:Blk Z gb 64 (Array.replicate Q (.slice none 0 0)):=(hkZ gb (fun e=>hne4.1.2.2.2 e.symm)).trans qb
   have hBZ:Below w0.heap.size w0 Z:=by rw [←hZ];exact (hBx.setCell (by show w0.heap.size≤g4;omega) _).setCell (by show w0.heap.size≤g4;omega) _
   clear hkZ q3 qM qa qb q4
   gi_wp2
   (try rw [hZ])
   clear hS kk0 kk1 f0 f1
   replace hBx:=hBZ
   have hS:(fun U:World=>U.cell? ⟨g1,0,none⟩=some (.int .i64 2)∧U.cell? ⟨g1,1,none⟩=some (.int .i64 (P:Int))∧U.cell? ⟨g1,2,none⟩=some (.slice (some ⟨gl,0,none⟩) 2 2)∧U.cell? ⟨g1,3,none⟩=some (.slice (some ⟨gr,orr,none⟩) Q k1)∧U.cell? ⟨g1,4,none⟩=some (.slice (some ⟨gd,od,none⟩) Q k2)∧U.cell? ⟨g1,5,none⟩=some (.slice nA n nc)) Z:=HSS.out _ hBZ
   try (refine ⟨hS,?_⟩)
   clear hZ
   refine anyHF_done (by kernel_rfl) ?_ _
   refine NoPanic.normal ?_
   rw [HKC1.out]
   exact ⟨rfl,_,_,_,_,_,_,_,_,g3,gm,ga,gb,g4,rfl,y4,y3,yM,ya,yb,hBZ,hne4,by omega,by omega,by omega,by omega⟩
  case c1b =>
   have hge4:=hBx.size
   (try have hszG:=qb.lt)
   have hB:Below w0.drew.heap.size w0.drew (w0.drew.alloc (.cells #[.nilFunc,.nilFunc] 162)):=below_one w0.drew _
   have q4:Blk (w0.drew.alloc (.cells #[.nilFunc,.nilFunc] 162)) w0.drew.heap.size 162 #[.nilFunc,.nilFunc]:=Blk.new w0.drew _ _
   obtain ⟨a4,he⟩:∃ x,(w0.drew.alloc (.cells #[.nilFunc,.nilFunc] 162))=x:=⟨_,rfl⟩
   obtain ⟨g4,hg⟩:∃ x,w0.drew.heap.size=x:=⟨_,rfl⟩
   have hsz:a4.heap.size=g4+1:=by rw [←he,←hg];simp
   rw [he] at hB q4
   rw [hg] at q4
   have H4:=Lib.hid (And.intro hg hsz)
   have hBA:=Below.refl a4.heap.size a4
   clear hsz
   replace hBx:=below_in hBx hB
   clear hS
   have hS:(fun U:World=>U.cell? ⟨g1,0,none⟩=some (.int .i64 2)∧U.cell? ⟨g1,1,none⟩=some (.int .i64 (P:Int))∧U.cell? ⟨g1,2,none⟩=some (.slice (some ⟨gl,0,none⟩) 2 2)∧U.cell? ⟨g1,3,none⟩=some (.slice (some ⟨gr,orr,none⟩) Q k1)∧U.cell? ⟨g1,4,none⟩=some (.slice (some ⟨gd,od,none⟩) Q k2)∧U.cell? ⟨g1,5,none⟩=some (.slice nA n nc)) a4:=HSS.out _ hBx
   gi_wp2
   (try rw [hg]);(try rw [he])
   try (refine ⟨hS,?_⟩)
   clear hB he hg
   refine oneF (i:=2) (c:=?_)
   have hszB:=hBx.size
   (try have hszc:=hBA.size)
   gi_wp2_with fail
   refine ⟨trivial,(callsIn_wide.2 (HCO.out _ hBx)).mono ?_⟩
   rintro e v5 ⟨g3,gm,ga,gb,rfl,q3,qM,qa,qb,hord,hB⟩
   replace q4:=q4.below hB q4.lt
   replace hBA:=below_in hBA hB
   replace hBx:=below_in hBx hB
   clear hS
   have hS:(fun U:World=>U.cell? ⟨g1,0,none⟩=some (.int .i64 2)∧U.cell? ⟨g1,1,none⟩=some (.int .i64 (P:Int))∧U.cell? ⟨g1,2,none⟩=some (.slice (some ⟨gl,0,none⟩) 2 2)∧U.cell? ⟨g1,3,none⟩=some (.slice (some ⟨gr,orr,none⟩) Q k1)∧U.cell? ⟨g1,4,none⟩=some (.slice (some ⟨gd,od,none⟩) Q k2)∧U.cell? ⟨g1,5,none⟩=some (.slice nA n nc)) v5:=HSS.out _ hBx
   clear hB
   gi_wp2
   try (refine ⟨hS,?_⟩)
   refine oneF (i:=9) (c:=?_)
   gi_wp2
   refine oneF (i:=10) (c:=?_)
   have kk0:v5.cell? ⟨g4,0,none⟩=some .nilFunc:=q4.cell 0
   have kk1:v5.cell? ⟨g4,1,none⟩=some .nilFunc:=q4.cell 1
   have f0:=q4.frozen 0
   have f1:=q4.frozen 1
   have hne4:(g4≠g3∧g4≠gm∧g4≠ga∧g4≠gb)∧w0.heap.size≤g4∧w0.heap.size≤g3∧w0.heap.size≤gm∧w0.heap.size≤ga∧w0.heap.size≤gb∧ga≠gb:=by have:=H4.out;omega
   obtain ⟨Z,hZ⟩:∃ z,(v5.setCell ⟨g4,0,none⟩ (.func (.func 122) #[.agg #[.int .i64 2,.int .i64 (P:Int),.slice (some ⟨gl,0,none⟩) 2 2,.slice (some ⟨gr,orr,none⟩) Q k1,.slice (some ⟨gd,od,none⟩) Q k2,.slice nA n nc]] #[])).setCell ⟨g4,1,none⟩ (.func (.func 123) #[.agg #[.int .i64 2,.int .i64 (P:Int),.slice (some ⟨gl,0,none⟩) 2 2,.slice (some ⟨gr,orr,none⟩) Q k1,.slice (some ⟨gd,od,none⟩) Q k2,.slice nA n nc]] #[])=z:=⟨_,rfl⟩
   have hkZ:∀ b,b≠g4→Z.heap[b]?=v5.heap[b]?:=fun b hb=>by rw [←hZ];exact (Below.heap_setCell _ ⟨g4,1,none⟩ _ b hb).trans (Below.heap_setCell _ ⟨g4,0,none⟩ _ b hb)
   have y4:Blk Z g4 162 #[.func (.func 122) #[.agg #[.int .i64 2,.int .i64 (P:Int),.slice (some ⟨gl,0,none⟩) 2 2,.slice (some ⟨gr,orr,none⟩) Q k1,.slice (some ⟨gd,od,none⟩) Q k2,.slice nA n nc]] #[],.func (.func 123) #[.agg #[.int .i64 2,.int .i64 (P:Int),.slice (some ⟨gl,0,none⟩) 2 2,.slice (some ⟨gr,orr,none⟩) Q k1,.slice (some ⟨gd,od,none⟩) Q k2,.slice nA n nc]] #[]]:=by rw [←hZ];exact (q4.set_ 0 _).set_ 1 _
   have y3:Blk Z g3 221 #[.map (some gm)]:=(hkZ g3 (fun e=>hne4.1.1 e.symm)).trans q3
   have yM:IntMap Z gm [(a,.slice (some ⟨ga,0,none⟩) Q Q),(b,.slice (some ⟨gb,0,none⟩) Q Q)]:=qM.keep (hkZ gm (fun e=>hne4.1.2.1 e.symm))
   have ya:Blk Z ga 64 (Array.replicate Q (.slice none 0 0)):=(hkZ ga (fun e=>hne4.1.2.2.1 e.symm)).trans qa
   have yb:Blk Z gb 64 (Array.replicate Q (.slice none 0 0)):=(hkZ gb (fun e=>hne4.1.2.2.2 e.symm)).trans qb
   have hBZ:Below w0.heap.size w0 Z:=by rw [←hZ];exact (hBx.setCell (by show w0.heap.size≤g4;omega) _).setCell (by show w0.heap.size≤g4;omega) _
   clear hkZ q3 qM qa qb q4
   gi_wp2
   (try rw [hZ])
   clear hS kk0 kk1 f0 f1
   replace hBx:=hBZ
   have hS:(fun U:World=>U.cell? ⟨g1,0,none⟩=some (.int .i64 2)∧U.cell? ⟨g1,1,none⟩=some (.int .i64 (P:Int))∧U.cell? ⟨g1,2,none⟩=some (.slice (some ⟨gl,0,none⟩) 2 2)∧U.cell? ⟨g1,3,none⟩=some (.slice (some ⟨gr,orr,none⟩) Q k1)∧U.cell? ⟨g1,4,none⟩=some (.slice (some ⟨gd,od,none⟩) Q k2)∧U.cell? ⟨g1,5,none⟩=some (.slice nA n nc)) Z:=HSS.out _ hBZ
   try (refine ⟨hS,?_⟩)
   clear hZ
   refine anyHF_done (by kernel_rfl) ?_ _
   refine NoPanic.normal ?_
   rw [HKC1.out]
   exact ⟨rfl,_,_,_,_,_,_,_,_,g3,gm,ga,gb,g4,rfl,y4,y3,yM,ya,yb,hBZ,hne4,by omega,by omega,by omega,by omega⟩
 case cont1 =>
  clear hS hBx HCO
  rw [HKC1.out]
  rintro e aa Z ⟨rfl,x10,x11,x12,x13,x14,x15,x16,x17,g3,gm,ga,gb,g4,rfl,y4,y3,yM,ya,yb,hBZ,hne4,hx1,hx2,hx3,hx4⟩
  have hS:=HSS.out _ hBZ
  obtain ⟨h0,h1,h2,h3,h4,h5⟩:=hS
  clear HKC1
  go_wp2_with fail
  refine (HAR.out _ hBZ).mono ?_
  rintro e W2 ⟨B1,n1,m1,B2,n2,m2,rfl,hu1,hu2,hB2⟩
  have HLN0:Hid (La.length=n1):=by unfold Hid;obtain ⟨_,_,e,_⟩:=OwnA.reads hu1;injection e with _ e2 _;exact e2.symm
  have HLN1:Hid (Lb.length=n2):=by unfold Hid;obtain ⟨_,_,e,_⟩:=OwnA.reads hu2;injection e with _ e2 _;exact e2.symm
  have HOW0:=Lib.hid hu1
  have HOW1:=Lib.hid hu2
  have hlg:=y4.lt
  have hl3:=y3.lt
  have hla:=ya.lt
  have hlb:=yb.lt
  have hlm:=yM.lt
  have hz2:=hB2.size
  have HG4:Hid (Blk W2 g4 162 #[.func (.func 122) #[.agg #[.int .i64 2,.int .i64 (P:Int),.slice (some ⟨gl,0,none⟩) 2 2,.slice (some ⟨gr,orr,none⟩) Q k1,.slice (some ⟨gd,od,none⟩) Q k2,.slice nA n nc]] #[],.func (.func 123) #[.agg #[.int .i64 2,.int .i64 (P:Int),.slice (some ⟨gl,0,none⟩) 2 2,.slice (some ⟨gr,orr,none⟩) Q k1,.slice (some ⟨gd,od,none⟩) Q k2,.slice nA n nc]] #[]]∧g4<W2.heap.size∧g4≠ga∧g4≠gb):=⟨y4.below hB2 y4.lt,by omega,hne4.1.2.2.1,hne4.1.2.2.2⟩
  have HG7:Hid (ga≠gb∧ga<W2.heap.size∧gb<W2.heap.size):=⟨hne4.2.2.2.2.2.2,by omega,by omega⟩
  have HG0W:Hid (w0.heap.size≤ga∧w0.heap.size≤gb):=⟨hne4.2.2.2.2.1,hne4.2.2.2.2.2.1⟩
  have HZS:Hid (ga<Z.heap.size∧gb<Z.heap.size):=⟨hla,hlb⟩
  have HM3:Hid (∀ V,KeepF W2 ga gb V→Blk V g3 221 #[.map (some gm)]∧IntMap V gm [(a,.slice (some ⟨ga,0,none⟩) Q Q),(b,.slice (some ⟨gb,0,none⟩) Q Q)]):=fun V hV=>⟨(hV.2 g3 (by omega) hx1 hx2).trans (y3.below hB2 y3.lt),(yM.below hB2 yM.lt).keep (hV.2 gm (by omega) hx3 hx4)⟩
  have HEL:Hid (∀ (c:Int) (gq:Nat),(c=a∧gq=ga)∨(c=b∧gq=gb)→∀ V,KeepF W2 ga gb V→Calls Tryz.prog 178 #[.int .i64 c,.pointer (some ⟨g3,0,none⟩)] V fun e w'=>e = .returned (.slice (some ⟨gq,0,none⟩) Q Q)∧w'=V):=fun c gq hq V hV=>by
   obtain ⟨m3,mM⟩:=HM3.out V hV
   refine held_any g3 gm _ c (some ⟨gq,0,none⟩) Q Q ?_ V m3 mM
   rcases hq with ⟨rfl,rfl⟩ | ⟨rfl,rfl⟩
   · simp
   · rw [List.find?_cons_of_neg (by simp;exact HAB.out)];simp
  have HCR:Hid (∀ (c:Int) (gq:Nat),(c=a∧gq=ga)∨(c=b∧gq=gb)→0≤c∧c<(P:Int)):=fun c gq hq=>by
   have h:=HCB.out
   rcases hq with ⟨rfl,_⟩ | ⟨rfl,_⟩ <;> omega
  have hfl0:FillG Q a b A Bc ga gb W2.heap.size (dn La Lb 0) W2:=FillG.nil (ya.below hB2 ya.lt) (yb.below hB2 yb.lt)
  have hbw0:Below w0.heap.size w0 W2:=below_in hBZ hB2
  have HN100:Hid (n1≤100∧n2≤100):=by have h:=HL100.out;rw [HLN0.out,HLN1.out] at h;exact h
  clear y4 y3 yM ya yb hBZ hne4 hx1 hx2 hx3 hx4 hu1 hu2 hB2 hlg hl3 hla hlb hlm hz2 h0 h1 h2 h3 h4 h5 HAR
  go_wp2_with fail
  have hix0:∀ W:World,(Instr.index 142 (.agg #[.slice B1 n1 m1,.slice B2 n2 m2]) (.int .i64 0)).run Tryz.prog W = .ok (.slice B1 n1 m1) W:=fun _=>by kernel_rfl
  have hix1:∀ W:World,(Instr.index 142 (.agg #[.slice B1 n1 m1,.slice B2 n2 m2]) (.int .i64 1)).run Tryz.prog W = .ok (.slice B2 n2 m2) W:=fun _=>by kernel_rfl
  go_loopw [21] (fun i wr=>∃ k:Nat,((k=0∧i = .int .i64 0)∨(k=1∧i = .int .i64 1)∨(k=2∧i = .int .i64 2))∧FillG Q a b A Bc ga gb W2.heap.size (dn La Lb k) wr∧KeepF W2 ga gb wr∧Below w0.heap.size w0 wr) (fun i _=>2 - (intOf i).toNat)
  case atStart=>exact ⟨0,.inl ⟨rfl,rfl⟩,hfl0,⟨Nat.le_refl _,fun _ _ _ _=>rfl⟩,hbw0⟩
  case round =>
   clear hfl0 hbw0
   obtain ⟨k,hk3,hfl,hkp,hbw⟩:=hrel
   rcases hk3 with ⟨rfl,rfl⟩ | ⟨rfl,rfl⟩ | ⟨rfl,rfl⟩
   · have hS:=HSS.out _ hbw
     obtain ⟨h0,h1,h2,h3,h4,h5⟩:=hS
     obtain ⟨wz,hwz⟩:∃ x,x=wr:=⟨_,rfl⟩
     subst hwz
     go_wp2_with fail
     go_loopw [7,28] (fun v i wx=>∃ j:Nat,j≤n1∧i = .int .i64 j∧(∃ tA tc,v = .slice tA n tc∧BytesP (fun q=>(q<w0.heap.size∨W2.heap.size≤q)∧q<wx.heap.size) wx v (aheadP n a A Bc La j))∧FillG Q a b A Bc ga gb W2.heap.size ([] ++ La.take j) wx∧KeepF W2 ga gb wx∧Below w0.heap.size w0 wx) (fun _ i _=>n1 - (intOf i).toNat)
     case atStart =>
      refine ⟨0,Nat.zero_le _,rfl,⟨nA,nc,rfl,?_⟩,by rw [List.take_zero,List.append_nil];exact hfl,hkp,hbw⟩
      exact bytesR.imp (show BytesP (·<w0.heap.size) wz _ _ from HNO.out.below hbw) fun q hq=>⟨.inl hq,by have hq':q<w0.heap.size:=hq;have:=hbw.size;omega⟩
     case round =>
      clear hfl hkp hbw
      obtain ⟨j,hj,rfl,⟨tA,tc,rfl,hbt⟩,hfl,hkp,hbw⟩:=hrel
      by_cases hlj:j<n1
      · have hdec:decide ((j:Int)<(n1:Int))=true:=by simp;omega
        obtain ⟨⟨c,r⟩,he⟩:∃ e,La[j]?=some e:=⟨_,List.getElem?_eq_getElem (by rw [HLN0.out];exact hlj)⟩
        have hLe:La.length=n1:=HLN0.out
        obtain ⟨⟨hcx,hr0,hr1,hev⟩,hsl,hal,hxo⟩:=HT0.out j (by rw [hLe];exact hlj) (c,r) he
        obtain ⟨rn,rfl⟩:∃ m:Nat,r=(m:Int):=⟨r.toNat,by have:(0:Int)≤r:=hr0;omega⟩
        have hrQ:rn<Q:=by have h1:(rn:Int)<(P:Int) - 1:=hr1;have:=HQP.out;omega
        obtain ⟨q0,q1⟩:=cc_at _ _ _ he
        obtain ⟨gq,hgq⟩:∃ gq,(c=a∧gq=ga)∨(c=b∧gq=gb):=by
         have hcx':c=a∨c=b:=hcx
         rcases hcx' with e | e
         · exact ⟨ga,by simp [e]⟩
         · exact ⟨gb,by simp [e]⟩
        have hq01:gq=ga∨gq=gb:=hgq.imp And.right And.right
        obtain ⟨gA0,hAe,hgA01,hgA02,hce⟩:=own_cells HOW0.out (by rw [hLe];omega)
        subst hAe
        have hgA0a:gA0≠ga∧gA0≠gb:=by have:=HZS.out;omega
        have p0:=(World.cell?_of_block (a:=⟨gA0,j * 2,none⟩) (hkp.2 gA0 hgA02 hgA0a.1 hgA0a.2)).trans (hce _ _ q0)
        have p1:=(World.cell?_of_block (a:=⟨gA0,j * 2+1,none⟩) (hkp.2 gA0 hgA02 hgA0a.1 hgA0a.2)).trans (hce _ _ q1)
        have HNX:Hid ([] ++ La.take (j+1) = [] ++ La.take j ++ [(c,(rn:Int))]):=by
         unfold Hid
         rw [List.take_succ_eq_append_getElem (by rw [hLe];exact hlj),List.append_assoc]
         congr 2
         rw [List.getElem?_eq_getElem (by rw [hLe];exact hlj)] at he
         injection he with he
         rw [he]
        have HAH:Hid (aheadP n a A Bc La (j+1)=cellF a A Bc (c,(rn:Int))):=by
         show cellF a A Bc (La[j]?.getD (0,0)) = _
         rw [he]
         exact rfl
        replace hxo:=hxo.trans (show cellF a A Bc (c,(rn:Int))=cellF a A Bc (c,(rn:Int)) from rfl)
        obtain ⟨W8,hW8⟩:∃ z,wr.alloc (.cells #[.int .i64 c,.int .i64 (rn:Int)] 31)=z:=⟨_,rfl⟩
        obtain ⟨g9,hg9⟩:∃ z,wr.heap.size=z:=⟨_,rfl⟩
        have b9:Blk W8 g9 31 #[.int .i64 c,.int .i64 (rn:Int)]:=by rw [←hW8,←hg9];exact Blk.new wr _ _
        have hB8:Below wr.heap.size wr W8:=by rw [←hW8];exact below_one wr _
        have i0:(0:Int)≤(j:Int):=by omega
        have i1:(j:Int)<(n1:Int):=by omega
        have i2:(0:Int)≤(rn:Int):=by omega
        have i3:(rn:Int)<(Q:Int):=by omega
        have i4:n1≤100:=HN100.out.1
        have HST:=Lib.hid (And.intro hfl (And.intro hkp (And.intro hbw (And.intro hbt (And.intro hgq (And.intro hq01 hrQ))))))
        have HX8:=Lib.hid (And.intro hsl (And.intro hal (And.intro hxo (And.intro hev hB8))))
        have H9:=Lib.hid hg9
        clear hfl hkp hbw hbt hgq hq01 hcx hr0 hr1 q0 q1 he hsl hal hxo hev hrQ hLe
        go_wp2_with fail
        (try rw [H9.out]);(try rw [hW8])
        clear p0 p1 hg9 hW8 hce hgA01 hgA02 hgA0a
        have hBx0:=Below.refl W8.heap.size W8
        rcases Nat.mod_two_eq_zero_or_one j with hpar | hpar
        · have hrem:Int.tmod (j:Int) 2=0:=by rw [Int.tmod_eq_emod_of_nonneg (by omega)];omega
          have hdl:=HX8.out.2.2.2.1 hpar
          obtain ⟨dgn,hdgn⟩:∃ d:Nat,(c+(rn:Int)) % (P:Int)=(d:Int):=⟨((c+(rn:Int)) % (P:Int)).toNat,by have:=Int.emod_nonneg (c+(rn:Int)) (show (P:Int)≠0 by have:=HQP.out;omega);omega⟩
          have hdQ:dgn<Q:=by have h1:(c+(rn:Int)) % (P:Int)<(P:Int) - 1:=hdl;have:=HQP.out;omega
          have hsf:shareF P Q n R D j (c,(rn:Int))=D[dgn]?.getD []:=by unfold shareF;rw [if_pos hpar];show D[((c+(rn:Int)) % (P:Int)).toNat]?.getD [] = _;rw [hdgn,Int.toNat_natCast]
          obtain ⟨uA,uc,hgd,hud,hmu⟩:=HDC.out dgn hdQ
          have HSH:=Lib.hid (fun (V:World) (hV:Below W8.heap.size W8 V)=>onDiagonal_any (.slice (some ⟨gr,orr,none⟩) Q k1) (.slice nA n nc) P HQP.out.2.2 (some ⟨gl,0,none⟩) 2 2 gd od Q k2 c (rn:Int) (by have:=HCR.out c gq HST.out.2.2.2.2.1;have:=HQP.out;have:=HST.out.2.2.2.2.2.2;omega) dgn hdgn hdQ (by have:=HQP.out;omega) V (HLAID.out V (below_in HST.out.2.2.1 (below_in HX8.out.2.2.2.2 hV))) (by have h1:=(below_in HST.out.2.2.1 (below_in HX8.out.2.2.2.2 hV)).size;omega) uA n uc ((below_in HST.out.2.2.1 (below_in HX8.out.2.2.2.2 hV)).cell (p:=⟨gd,od+dgn,none⟩) hgd |>.trans hud))
          have hent:=enter_OD
          rw [hsf] at HX8
          have HJL:Hid ((xorOf [aheadP n a A Bc La j,D[dgn]?.getD []]).length=n):=by unfold Hid;rw [xorOf_len];exact HX8.out.2.1
          have hbt8:Bytes W8.heap.size W8 (.slice tA n tc) (aheadP n a A Bc La j):=bytesR.imp (bytesR.keep HST.out.2.2.2.1 fun q hq=>HX8.out.2.2.2.2.block q hq.2) fun q hq=>(show q<W8.heap.size by have:=HX8.out.2.2.2.2.size;have:=hq.2;omega)
          have hus8:Bytes W8.heap.size W8 (.slice uA n uc) (D[dgn]?.getD []):=(hmu.below (below_in HST.out.2.2.1 HX8.out.2.2.2.2)).more (by have:=(below_in HST.out.2.2.1 HX8.out.2.2.2.2).size;exact this)
          have HUP:=Lib.hid (fun (g:Nat) (V:World) (hV:Below W8.heap.size W8 V) (bE:Blk V g 64 #[.slice tA n tc,.slice uA n uc])=>pUpon_any (B:=V.heap.size) (.slice (some ⟨g,0,none⟩) 2 2) [aheadP n a A Bc La j,D[dgn]?.getD []] V (Nat.le_refl _) (many2 bE ((hbt8.below hV).more hV.size) ((hus8.below hV).more hV.size) bE.lt) (by simp) (xor_two HN1.out.1 HN1.out.2 HX8.out.2.1 HX8.out.1))
          have HSS:Hid (∀ V,Below W8.heap.size W8 V→(fun U:World=>U.cell? ⟨g4,0,none⟩=some (.func (.func 122) #[.agg #[.int .i64 2,.int .i64 (P:Int),.slice (some ⟨gl,0,none⟩) 2 2,.slice (some ⟨gr,orr,none⟩) Q k1,.slice (some ⟨gd,od,none⟩) Q k2,.slice nA n nc]] #[])∧U.cell? ⟨g9,0,none⟩=some (.int .i64 c)∧U.cell? ⟨g9,1,none⟩=some (.int .i64 (rn:Int))) V):=fun V hV=>by
           have hV2:=below_in HX8.out.2.2.2.2 hV
           have hk4:V.heap[g4]?=W2.heap[g4]?:=(hV2.block g4 (by have:=HST.out.2.1.1;have:=HG4.out.2.1;omega)).trans (HST.out.2.1.2 g4 HG4.out.2.1 HG4.out.2.2.1 HG4.out.2.2.2)
           have b4:Blk V g4 162 #[.func (.func 122) #[.agg #[.int .i64 2,.int .i64 (P:Int),.slice (some ⟨gl,0,none⟩) 2 2,.slice (some ⟨gr,orr,none⟩) Q k1,.slice (some ⟨gd,od,none⟩) Q k2,.slice nA n nc]] #[],.func (.func 123) #[.agg #[.int .i64 2,.int .i64 (P:Int),.slice (some ⟨gl,0,none⟩) 2 2,.slice (some ⟨gr,orr,none⟩) Q k1,.slice (some ⟨gd,od,none⟩) Q k2,.slice nA n nc]] #[]]:=hk4.trans HG4.out.1
           exact ⟨b4.cell 0,(b9.below hV b9.lt).cell 0,(b9.below hV b9.lt).cell 1⟩
          have hBx:=hBx0.drew
          have hS:(fun U:World=>U.cell? ⟨g4,0,none⟩=some (.func (.func 122) #[.agg #[.int .i64 2,.int .i64 (P:Int),.slice (some ⟨gl,0,none⟩) 2 2,.slice (some ⟨gr,orr,none⟩) Q k1,.slice (some ⟨gd,od,none⟩) Q k2,.slice nA n nc]] #[])∧U.cell? ⟨g9,0,none⟩=some (.int .i64 c)∧U.cell? ⟨g9,1,none⟩=some (.int .i64 (rn:Int))) W8.drew:=HSS.out _ hBx
          clear hbt8 hus8 hmu hud hgd hsf hBx0
          refine (wpIn_wide (n:=9)).1 ?_
          refine wpIn_mono (region_HF (Q:=NoPanic _) (S:=(fun U:World=>U.cell? ⟨g4,0,none⟩=some (.func (.func 122) #[.agg #[.int .i64 2,.int .i64 (P:Int),.slice (some ⟨gl,0,none⟩) 2 2,.slice (some ⟨gr,orr,none⟩) Q k1,.slice (some ⟨gd,od,none⟩) Q k2,.slice nA n nc]] #[])∧U.cell? ⟨g9,0,none⟩=some (.int .i64 c)∧U.cell? ⟨g9,1,none⟩=some (.int .i64 (rn:Int)))) (by kernel_rfl) ?_) NoPanic.imp
          refine tkF (i:=0) (d:=33) (v:=.slice tA n tc) (s:=hS) (c:=?_)
          simp only [ud9]
          refine tkF (i:=1) (d:=34) (v:=.int .i64 (j:Int)) (s:=hS) (c:=?_)
          simp only [ud9]
          refine tkF (i:=2) (d:=35) (v:=.int .i64 0) (s:=hS) (c:=?_)
          simp only [ud9]
          refine tkF (i:=3) (d:=36) (v:=.pointer (some ⟨g4,0,none⟩)) (s:=hS) (c:=?_)
          simp only [ud9]
          refine tkF (i:=4) (d:=37) (v:=.func (.func 122) #[.agg #[.int .i64 2,.int .i64 (P:Int),.slice (some ⟨gl,0,none⟩) 2 2,.slice (some ⟨gr,orr,none⟩) Q k1,.slice (some ⟨gd,od,none⟩) Q k2,.slice nA n nc]] #[]) (s:=hS) (c:=?_)
          simp only [ud9]
          refine tkF (i:=5) (d:=38) (v:=.agg #[.int .i64 c,.int .i64 (rn:Int)]) (s:=hS) (c:=?_)
          simp only [ud9]
          refine oneF (i:=6) (c:=?_)
          gi_wp2_with fail
          refine ⟨trivial,(callsIn_wide.2 (HSH.out _ hBx)).mono ?_⟩
          rintro e v21 ⟨rfl,hB⟩
          replace hBx:=below_in hBx hB
          clear hS
          have hS:(fun U:World=>U.cell? ⟨g4,0,none⟩=some (.func (.func 122) #[.agg #[.int .i64 2,.int .i64 (P:Int),.slice (some ⟨gl,0,none⟩) 2 2,.slice (some ⟨gr,orr,none⟩) Q k1,.slice (some ⟨gd,od,none⟩) Q k2,.slice nA n nc]] #[])∧U.cell? ⟨g9,0,none⟩=some (.int .i64 c)∧U.cell? ⟨g9,1,none⟩=some (.int .i64 (rn:Int))) v21:=HSS.out _ hBx
          clear hB
          gi_wp2
          try (refine ⟨hS,?_⟩)
          refine oneF (i:=7) (c:=?_)
          have hgl_g23:=hBx.size
          have hB:Below v21.heap.size v21 (v21.alloc (.cells #[.slice tA n tc,.slice uA n uc] 64)):=below_one v21 _
          have bE:Blk (v21.alloc (.cells #[.slice tA n tc,.slice uA n uc] 64)) v21.heap.size 64 #[.slice tA n tc,.slice uA n uc]:=Blk.new v21 _ _
          obtain ⟨v22,he_v22⟩:∃ x,(v21.alloc (.cells #[.slice tA n tc,.slice uA n uc] 64))=x:=⟨_,rfl⟩
          obtain ⟨g23,hg_g23⟩:∃ x,v21.heap.size=x:=⟨_,rfl⟩
          rw [he_v22] at hB bE
          rw [hg_g23] at bE
          replace hBx:=below_in hBx hB
          clear hS
          have hS:(fun U:World=>U.cell? ⟨g4,0,none⟩=some (.func (.func 122) #[.agg #[.int .i64 2,.int .i64 (P:Int),.slice (some ⟨gl,0,none⟩) 2 2,.slice (some ⟨gr,orr,none⟩) Q k1,.slice (some ⟨gd,od,none⟩) Q k2,.slice nA n nc]] #[])∧U.cell? ⟨g9,0,none⟩=some (.int .i64 c)∧U.cell? ⟨g9,1,none⟩=some (.int .i64 (rn:Int))) v22:=HSS.out _ hBx
          gi_wp2
          (try rw [hg_g23]);(try rw [he_v22])
          try (refine ⟨hS,?_⟩)
          clear hB he_v22 hg_g23
          refine oneF (i:=8) (c:=?_)
          have HZE:=Lib.hid hBx.size
          gi_wp2_with fail
          refine ⟨trivial,(callsIn_wide.2 (HUP.out g23 _ hBx bE)).mono ?_⟩
          rintro e v24 ⟨uj,rfl,hFu,hB⟩
          obtain ⟨aJ,cJ,rfl,_⟩:=id hFu
          rw [HJL.out] at hFu ⊢
          replace bE:=bE.below hB bE.lt
          replace hBx:=below_in hBx hB
          clear hS
          have hS:(fun U:World=>U.cell? ⟨g4,0,none⟩=some (.func (.func 122) #[.agg #[.int .i64 2,.int .i64 (P:Int),.slice (some ⟨gl,0,none⟩) 2 2,.slice (some ⟨gr,orr,none⟩) Q k1,.slice (some ⟨gd,od,none⟩) Q k2,.slice nA n nc]] #[])∧U.cell? ⟨g9,0,none⟩=some (.int .i64 c)∧U.cell? ⟨g9,1,none⟩=some (.int .i64 (rn:Int))) v24:=HSS.out _ hBx
          clear hB
          gi_wp2
          try (refine ⟨hS,?_⟩)
          refine oneF (i:=9) (c:=?_)
          gi_wp2
          refine anyHF_done (by kernel_rfl) ?_ _
          refine NoPanic.normal ?_
          clear hS
          have hBw:=below_in HX8.out.2.2.2.2 hBx
          have hflV:=HST.out.1.below hBw
          have hkpV:=HST.out.2.1.below hBw
          have hbwV:=below_in HST.out.2.2.1 hBw
          obtain ⟨⟨old,hold⟩,hfz⟩:=hflV.old HST.out.2.2.2.2.2.1 HST.out.2.2.2.2.2.2
          have z9:=b9.below hBx b9.lt
          have hFb:BytesP (fun q=>W2.heap.size≤q∧q<v24.heap.size) v24 (.slice aJ n cJ) (cellF a A Bc (c,(rn:Int))):=by
           have h1:=Fresh.toP2 (B:=0) hFu
           rw [HX8.out.2.2.1] at h1
           exact bytesR.imp h1 fun q hq=>⟨by have:=hq.1;have:=HST.out.2.1.1;have:=HX8.out.2.2.2.2.size;have:=HZE.out;omega,hq.2⟩
          have HHE:=Lib.hid (fun (V:World) (hV:Below v24.heap.size v24 V)=>HEL.out c gq HST.out.2.2.2.2.1 V (hkpV.below hV))
          have hent2:=enter_held
          have hBy:=Below.refl v24.heap.size v24
          have hS:(fun U:World=>U.cell? ⟨g9,0,none⟩=some (.int .i64 c)∧U.cell? ⟨g9,1,none⟩=some (.int .i64 (rn:Int))) v24.drew:=⟨(z9.below hBy.drew z9.lt).cell 0,(z9.below hBy.drew z9.lt).cell 1⟩
          have HFL:=Lib.hid (And.intro hflV (And.intro hkpV (And.intro hbwV hFb)))
          clear hflV hkpV hbwV hFb hBx hBw z9 hFu
          go_wp2_with fail
          refine (wpIn_wide (n:=9)).1 ?_
          refine wpIn_mono (region_HG (Q:=NoPanic _) (S:=(fun U:World=>U.cell? ⟨g9,0,none⟩=some (.int .i64 c)∧U.cell? ⟨g9,1,none⟩=some (.int .i64 (rn:Int)))) (m:=8) (by kernel_rfl) ?_) NoPanic.imp
          refine anyHG_take (i:=0) (d:=42) (v:=.func (.func 178) #[] #[.pointer (some ⟨g3,0,none⟩)]) (by kernel_rfl) rfl (by kernel_rfl) (by kernel_rfl) (by kernel_rfl) rfl (by kernel_rfl) (fun _ _ _ h=>h) ⟨Or.inl ⟨by rfl,fun w hS=>by obtain ⟨h0,h1⟩:=hS;go_simp⟩,fun _=>rfl⟩ hS ?_
          simp only [ud9]
          refine anyHG_take (i:=1) (d:=43) (v:=.pointer (some ⟨g9,0,none⟩)) (by kernel_rfl) rfl (by kernel_rfl) (by kernel_rfl) (by kernel_rfl) rfl (by kernel_rfl) (fun _ _ _ h=>h) ⟨Or.inl ⟨by rfl,fun w hS=>by obtain ⟨h0,h1⟩:=hS;go_simp⟩,fun _=>rfl⟩ hS ?_
          simp only [ud9]
          refine anyHG_take (i:=2) (d:=44) (v:=.int .i64 c) (by kernel_rfl) rfl (by kernel_rfl) (by kernel_rfl) (by kernel_rfl) rfl (by kernel_rfl) (fun _ _ _ h=>h) ⟨Or.inl ⟨by rfl,fun w hS=>by obtain ⟨h0,h1⟩:=hS;go_simp⟩,fun _=>rfl⟩ hS ?_
          simp only [ud9]
          refine anyHG_take (i:=4) (d:=46) (v:=.pointer (some ⟨g9,1,none⟩)) (by kernel_rfl) rfl (by kernel_rfl) (by kernel_rfl) (by kernel_rfl) rfl (by kernel_rfl) (fun _ _ _ h=>h) ⟨Or.inl ⟨by rfl,fun w hS=>by obtain ⟨h0,h1⟩:=hS;go_simp⟩,fun _=>rfl⟩ hS ?_
          simp only [ud9]
          refine anyHG_take (i:=5) (d:=47) (v:=.int .i64 (rn:Int)) (by kernel_rfl) rfl (by kernel_rfl) (by kernel_rfl) (by kernel_rfl) rfl (by kernel_rfl) (fun _ _ _ h=>h) ⟨Or.inl ⟨by rfl,fun w hS=>by obtain ⟨h0,h1⟩:=hS;go_simp⟩,fun _=>rfl⟩ hS ?_
          simp only [ud9]
          refine anyHG_take (i:=6) (d:=48) (v:=.slice aJ n cJ) (by kernel_rfl) rfl (by kernel_rfl) (by kernel_rfl) (by kernel_rfl) rfl (by kernel_rfl) (fun _ _ _ h=>h) ⟨Or.inl ⟨by rfl,fun w hS=>by obtain ⟨h0,h1⟩:=hS;go_simp⟩,fun _=>rfl⟩ hS ?_
          simp only [ud9]
          refine anyHG_one (i:=3) (by kernel_rfl) rfl (by kernel_rfl) (by rfl) ?_
          gi_wp2_with fail
          refine ⟨trivial,(callsIn_wide.2 (HHE.out _ hBy.drew)).mono ?_⟩
          rintro e w7' ⟨rfl,rfl⟩
          gi_wp2
          try (refine ⟨.inr hS,?_⟩)
          refine anyHG_take (i:=7) (d:=49) (v:=.pointer (some ⟨gq,rn,none⟩)) (by kernel_rfl) rfl (by kernel_rfl) (by kernel_rfl) (by kernel_rfl) rfl (by kernel_rfl) (fun _ _ _ h=>h) ⟨Or.inl ⟨by rfl,fun w hS=>by obtain ⟨h0,h1⟩:=hS;go_simp⟩,fun _=>rfl⟩ hS ?_
          simp only [ud9]
          refine anyHG_one (i:=8) (by kernel_rfl) rfl (by kernel_rfl) (by rfl) ?_
          obtain ⟨h0,h1⟩:=hS
          gi_wp2
          refine anyHG_done (by kernel_rfl) ?_ _
          refine NoPanic.normal ?_
          clear h0 h1
          go_wp2_with fail
          go_roundw
          case rel =>
           have hP:=FillG.put HFL.out.1 HAB.out HG7.out.1 HG7.out.2.1 HG7.out.2.2 HST.out.2.2.2.2.1 HST.out.2.2.2.2.2.2 HFL.out.2.2.2
           have hqW:gq<W2.heap.size:=by have h1:=HG7.out.2;rcases HST.out.2.2.2.2.2.1 with e | e <;> omega
           have hqw0:w0.heap.size≤gq:=by have h1:=HG0W.out;rcases HST.out.2.2.2.2.2.1 with e | e <;> omega
           have hDr:=(Below.refl (v24.setCell ⟨gq,rn,none⟩ (.slice aJ n cJ)).heap.size (v24.setCell ⟨gq,rn,none⟩ (.slice aJ n cJ))).drew
           refine ⟨j+1,by omega,by go_num,⟨aJ,cJ,rfl,?_⟩,by rw [HNX.out];exact hP.below hDr,(HFL.out.2.1.put HST.out.2.2.2.2.2.1).below hDr,(HFL.out.2.2.1.setCell (p:=⟨gq,rn,none⟩) hqw0 _).drew⟩
           rw [HAH.out]
           exact bytesR.imp (bytesR.keep HFL.out.2.2.2 fun q hq=>Below.heap_setCell v24 ⟨gq,rn,none⟩ _ q (by show q≠gq;have:=hq.1;omega)) fun q hq=>⟨.inr hq.1,by simpa using hq.2⟩
          case measure=>simp [intOf];omega
        · have hrem:Int.tmod (j:Int) 2=1:=by rw [Int.tmod_eq_emod_of_nonneg (by omega)];omega
          have hsf:shareF P Q n R D j (c,(rn:Int))=R[rn]?.getD []:=by unfold shareF;rw [if_neg (by omega)];simp
          obtain ⟨uA,uc,hgd,hud,hmu⟩:=HRC.out rn HST.out.2.2.2.2.2.2
          have HSH:=Lib.hid (fun (V:World) (hV:Below W8.heap.size W8 V)=>inRow_any (.slice (some ⟨gd,od,none⟩) Q k2) (.slice nA n nc) (P:Int) (some ⟨gl,0,none⟩) 2 2 gr orr Q k1 c rn HST.out.2.2.2.2.2.2 (by have:=HQP.out;omega) V (by have h1:=(below_in HST.out.2.2.1 (below_in HX8.out.2.2.2.2 hV)).size;omega) uA n uc ((below_in HST.out.2.2.1 (below_in HX8.out.2.2.2.2 hV)).cell (p:=⟨gr,orr+rn,none⟩) hgd |>.trans hud))
          have hent:=enter_IR
          rw [hsf] at HX8
          have HJL:Hid ((xorOf [aheadP n a A Bc La j,R[rn]?.getD []]).length=n):=by unfold Hid;rw [xorOf_len];exact HX8.out.2.1
          have hbt8:Bytes W8.heap.size W8 (.slice tA n tc) (aheadP n a A Bc La j):=bytesR.imp (bytesR.keep HST.out.2.2.2.1 fun q hq=>HX8.out.2.2.2.2.block q hq.2) fun q hq=>(show q<W8.heap.size by have:=HX8.out.2.2.2.2.size;have:=hq.2;omega)
          have hus8:Bytes W8.heap.size W8 (.slice uA n uc) (R[rn]?.getD []):=(hmu.below (below_in HST.out.2.2.1 HX8.out.2.2.2.2)).more (by have:=(below_in HST.out.2.2.1 HX8.out.2.2.2.2).size;exact this)
          have HUP:=Lib.hid (fun (g:Nat) (V:World) (hV:Below W8.heap.size W8 V) (bE:Blk V g 64 #[.slice tA n tc,.slice uA n uc])=>pUpon_any (B:=V.heap.size) (.slice (some ⟨g,0,none⟩) 2 2) [aheadP n a A Bc La j,R[rn]?.getD []] V (Nat.le_refl _) (many2 bE ((hbt8.below hV).more hV.size) ((hus8.below hV).more hV.size) bE.lt) (by simp) (xor_two HN1.out.1 HN1.out.2 HX8.out.2.1 HX8.out.1))
          have HSS:Hid (∀ V,Below W8.heap.size W8 V→(fun U:World=>U.cell? ⟨g4,1,none⟩=some (.func (.func 123) #[.agg #[.int .i64 2,.int .i64 (P:Int),.slice (some ⟨gl,0,none⟩) 2 2,.slice (some ⟨gr,orr,none⟩) Q k1,.slice (some ⟨gd,od,none⟩) Q k2,.slice nA n nc]] #[])∧U.cell? ⟨g9,0,none⟩=some (.int .i64 c)∧U.cell? ⟨g9,1,none⟩=some (.int .i64 (rn:Int))) V):=fun V hV=>by
           have hV2:=below_in HX8.out.2.2.2.2 hV
           have hk4:V.heap[g4]?=W2.heap[g4]?:=(hV2.block g4 (by have:=HST.out.2.1.1;have:=HG4.out.2.1;omega)).trans (HST.out.2.1.2 g4 HG4.out.2.1 HG4.out.2.2.1 HG4.out.2.2.2)
           have b4:Blk V g4 162 #[.func (.func 122) #[.agg #[.int .i64 2,.int .i64 (P:Int),.slice (some ⟨gl,0,none⟩) 2 2,.slice (some ⟨gr,orr,none⟩) Q k1,.slice (some ⟨gd,od,none⟩) Q k2,.slice nA n nc]] #[],.func (.func 123) #[.agg #[.int .i64 2,.int .i64 (P:Int),.slice (some ⟨gl,0,none⟩) 2 2,.slice (some ⟨gr,orr,none⟩) Q k1,.slice (some ⟨gd,od,none⟩) Q k2,.slice nA n nc]] #[]]:=hk4.trans HG4.out.1
           exact ⟨b4.cell 1,(b9.below hV b9.lt).cell 0,(b9.below hV b9.lt).cell 1⟩
          have hBx:=hBx0.drew
          have hS:(fun U:World=>U.cell? ⟨g4,1,none⟩=some (.func (.func 123) #[.agg #[.int .i64 2,.int .i64 (P:Int),.slice (some ⟨gl,0,none⟩) 2 2,.slice (some ⟨gr,orr,none⟩) Q k1,.slice (some ⟨gd,od,none⟩) Q k2,.slice nA n nc]] #[])∧U.cell? ⟨g9,0,none⟩=some (.int .i64 c)∧U.cell? ⟨g9,1,none⟩=some (.int .i64 (rn:Int))) W8.drew:=HSS.out _ hBx
          clear hbt8 hus8 hmu hud hgd hsf hBx0
          refine (wpIn_wide (n:=9)).1 ?_
          refine wpIn_mono (region_HF (Q:=NoPanic _) (S:=(fun U:World=>U.cell? ⟨g4,1,none⟩=some (.func (.func 123) #[.agg #[.int .i64 2,.int .i64 (P:Int),.slice (some ⟨gl,0,none⟩) 2 2,.slice (some ⟨gr,orr,none⟩) Q k1,.slice (some ⟨gd,od,none⟩) Q k2,.slice nA n nc]] #[])∧U.cell? ⟨g9,0,none⟩=some (.int .i64 c)∧U.cell? ⟨g9,1,none⟩=some (.int .i64 (rn:Int)))) (by kernel_rfl) ?_) NoPanic.imp
          refine tkF (i:=0) (d:=33) (v:=.slice tA n tc) (s:=hS) (c:=?_)
          simp only [ud9]
          refine tkF (i:=1) (d:=34) (v:=.int .i64 (j:Int)) (s:=hS) (c:=?_)
          simp only [ud9]
          refine tkF (i:=2) (d:=35) (v:=.int .i64 1) (s:=hS) (c:=?_)
          simp only [ud9]
          refine tkF (i:=3) (d:=36) (v:=.pointer (some ⟨g4,1,none⟩)) (s:=hS) (c:=?_)
          simp only [ud9]
          refine tkF (i:=4) (d:=37) (v:=.func (.func 123) #[.agg #[.int .i64 2,.int .i64 (P:Int),.slice (some ⟨gl,0,none⟩) 2 2,.slice (some ⟨gr,orr,none⟩) Q k1,.slice (some ⟨gd,od,none⟩) Q k2,.slice nA n nc]] #[]) (s:=hS) (c:=?_)
          simp only [ud9]
          refine tkF (i:=5) (d:=38) (v:=.agg #[.int .i64 c,.int .i64 (rn:Int)]) (s:=hS) (c:=?_)
          simp only [ud9]
          refine oneF (i:=6) (c:=?_)
          gi_wp2_with fail
          refine ⟨trivial,(callsIn_wide.2 (HSH.out _ hBx)).mono ?_⟩
          rintro e v21 ⟨rfl,hB⟩
          replace hBx:=below_in hBx hB
          clear hS
          have hS:(fun U:World=>U.cell? ⟨g4,1,none⟩=some (.func (.func 123) #[.agg #[.int .i64 2,.int .i64 (P:Int),.slice (some ⟨gl,0,none⟩) 2 2,.slice (some ⟨gr,orr,none⟩) Q k1,.slice (some ⟨gd,od,none⟩) Q k2,.slice nA n nc]] #[])∧U.cell? ⟨g9,0,none⟩=some (.int .i64 c)∧U.cell? ⟨g9,1,none⟩=some (.int .i64 (rn:Int))) v21:=HSS.out _ hBx
          clear hB
          gi_wp2
          try (refine ⟨hS,?_⟩)
          refine oneF (i:=7) (c:=?_)
          have hgl_g23:=hBx.size
          have hB:Below v21.heap.size v21 (v21.alloc (.cells #[.slice tA n tc,.slice uA n uc] 64)):=below_one v21 _
          have bE:Blk (v21.alloc (.cells #[.slice tA n tc,.slice uA n uc] 64)) v21.heap.size 64 #[.slice tA n tc,.slice uA n uc]:=Blk.new v21 _ _
          obtain ⟨v22,he_v22⟩:∃ x,(v21.alloc (.cells #[.slice tA n tc,.slice uA n uc] 64))=x:=⟨_,rfl⟩
          obtain ⟨g23,hg_g23⟩:∃ x,v21.heap.size=x:=⟨_,rfl⟩
          rw [he_v22] at hB bE
          rw [hg_g23] at bE
          replace hBx:=below_in hBx hB
          clear hS
          have hS:(fun U:World=>U.cell? ⟨g4,1,none⟩=some (.func (.func 123) #[.agg #[.int .i64 2,.int .i64 (P:Int),.slice (some ⟨gl,0,none⟩) 2 2,.slice (some ⟨gr,orr,none⟩) Q k1,.slice (some ⟨gd,od,none⟩) Q k2,.slice nA n nc]] #[])∧U.cell? ⟨g9,0,none⟩=some (.int .i64 c)∧U.cell? ⟨g9,1,none⟩=some (.int .i64 (rn:Int))) v22:=HSS.out _ hBx
          gi_wp2
          (try rw [hg_g23]);(try rw [he_v22])
          try (refine ⟨hS,?_⟩)
          clear hB he_v22 hg_g23
          refine oneF (i:=8) (c:=?_)
          have HZE:=Lib.hid hBx.size
          gi_wp2_with fail
          refine ⟨trivial,(callsIn_wide.2 (HUP.out g23 _ hBx bE)).mono ?_⟩
          rintro e v24 ⟨uj,rfl,hFu,hB⟩
          obtain ⟨aJ,cJ,rfl,_⟩:=id hFu
          rw [HJL.out] at hFu ⊢
          replace bE:=bE.below hB bE.lt
          replace hBx:=below_in hBx hB
          clear hS
          have hS:(fun U:World=>U.cell? ⟨g4,1,none⟩=some (.func (.func 123) #[.agg #[.int .i64 2,.int .i64 (P:Int),.slice (some ⟨gl,0,none⟩) 2 2,.slice (some ⟨gr,orr,none⟩) Q k1,.slice (some ⟨gd,od,none⟩) Q k2,.slice nA n nc]] #[])∧U.cell? ⟨g9,0,none⟩=some (.int .i64 c)∧U.cell? ⟨g9,1,none⟩=some (.int .i64 (rn:Int))) v24:=HSS.out _ hBx
          clear hB
          gi_wp2
          try (refine ⟨hS,?_⟩)
          refine oneF (i:=9) (c:=?_)
          gi_wp2
          refine anyHF_done (by kernel_rfl) ?_ _
          refine NoPanic.normal ?_
          clear hS
          have hBw:=below_in HX8.out.2.2.2.2 hBx
          have hflV:=HST.out.1.below hBw
          have hkpV:=HST.out.2.1.below hBw
          have hbwV:=below_in HST.out.2.2.1 hBw
          obtain ⟨⟨old,hold⟩,hfz⟩:=hflV.old HST.out.2.2.2.2.2.1 HST.out.2.2.2.2.2.2
          have z9:=b9.below hBx b9.lt
          have hFb:BytesP (fun q=>W2.heap.size≤q∧q<v24.heap.size) v24 (.slice aJ n cJ) (cellF a A Bc (c,(rn:Int))):=by
           have h1:=Fresh.toP2 (B:=0) hFu
           rw [HX8.out.2.2.1] at h1
           exact bytesR.imp h1 fun q hq=>⟨by have:=hq.1;have:=HST.out.2.1.1;have:=HX8.out.2.2.2.2.size;have:=HZE.out;omega,hq.2⟩
          have HHE:=Lib.hid (fun (V:World) (hV:Below v24.heap.size v24 V)=>HEL.out c gq HST.out.2.2.2.2.1 V (hkpV.below hV))
          have hent2:=enter_held
          have hBy:=Below.refl v24.heap.size v24
          have hS:(fun U:World=>U.cell? ⟨g9,0,none⟩=some (.int .i64 c)∧U.cell? ⟨g9,1,none⟩=some (.int .i64 (rn:Int))) v24.drew:=⟨(z9.below hBy.drew z9.lt).cell 0,(z9.below hBy.drew z9.lt).cell 1⟩
          have HFL:=Lib.hid (And.intro hflV (And.intro hkpV (And.intro hbwV hFb)))
          clear hflV hkpV hbwV hFb hBx hBw z9 hFu
          go_wp2_with fail
          refine (wpIn_wide (n:=9)).1 ?_
          refine wpIn_mono (region_HG (Q:=NoPanic _) (S:=(fun U:World=>U.cell? ⟨g9,0,none⟩=some (.int .i64 c)∧U.cell? ⟨g9,1,none⟩=some (.int .i64 (rn:Int)))) (m:=8) (by kernel_rfl) ?_) NoPanic.imp
          refine anyHG_take (i:=0) (d:=42) (v:=.func (.func 178) #[] #[.pointer (some ⟨g3,0,none⟩)]) (by kernel_rfl) rfl (by kernel_rfl) (by kernel_rfl) (by kernel_rfl) rfl (by kernel_rfl) (fun _ _ _ h=>h) ⟨Or.inl ⟨by rfl,fun w hS=>by obtain ⟨h0,h1⟩:=hS;go_simp⟩,fun _=>rfl⟩ hS ?_
          simp only [ud9]
          refine anyHG_take (i:=1) (d:=43) (v:=.pointer (some ⟨g9,0,none⟩)) (by kernel_rfl) rfl (by kernel_rfl) (by kernel_rfl) (by kernel_rfl) rfl (by kernel_rfl) (fun _ _ _ h=>h) ⟨Or.inl ⟨by rfl,fun w hS=>by obtain ⟨h0,h1⟩:=hS;go_simp⟩,fun _=>rfl⟩ hS ?_
          simp only [ud9]
          refine anyHG_take (i:=2) (d:=44) (v:=.int .i64 c) (by kernel_rfl) rfl (by kernel_rfl) (by kernel_rfl) (by kernel_rfl) rfl (by kernel_rfl) (fun _ _ _ h=>h) ⟨Or.inl ⟨by rfl,fun w hS=>by obtain ⟨h0,h1⟩:=hS;go_simp⟩,fun _=>rfl⟩ hS ?_
          simp only [ud9]
          refine anyHG_take (i:=4) (d:=46) (v:=.pointer (some ⟨g9,1,none⟩)) (by kernel_rfl) rfl (by kernel_rfl) (by kernel_rfl) (by kernel_rfl) rfl (by kernel_rfl) (fun _ _ _ h=>h) ⟨Or.inl ⟨by rfl,fun w hS=>by obtain ⟨h0,h1⟩:=hS;go_simp⟩,fun _=>rfl⟩ hS ?_
          simp only [ud9]
          refine anyHG_take (i:=5) (d:=47) (v:=.int .i64 (rn:Int)) (by kernel_rfl) rfl (by kernel_rfl) (by kernel_rfl) (by kernel_rfl) rfl (by kernel_rfl) (fun _ _ _ h=>h) ⟨Or.inl ⟨by rfl,fun w hS=>by obtain ⟨h0,h1⟩:=hS;go_simp⟩,fun _=>rfl⟩ hS ?_
          simp only [ud9]
          refine anyHG_take (i:=6) (d:=48) (v:=.slice aJ n cJ) (by kernel_rfl) rfl (by kernel_rfl) (by kernel_rfl) (by kernel_rfl) rfl (by kernel_rfl) (fun _ _ _ h=>h) ⟨Or.inl ⟨by rfl,fun w hS=>by obtain ⟨h0,h1⟩:=hS;go_simp⟩,fun _=>rfl⟩ hS ?_
          simp only [ud9]
          refine anyHG_one (i:=3) (by kernel_rfl) rfl (by kernel_rfl) (by rfl) ?_
          gi_wp2_with fail
          refine ⟨trivial,(callsIn_wide.2 (HHE.out _ hBy.drew)).mono ?_⟩
          rintro e w7' ⟨rfl,rfl⟩
          gi_wp2
          try (refine ⟨.inr hS,?_⟩)
          refine anyHG_take (i:=7) (d:=49) (v:=.pointer (some ⟨gq,rn,none⟩)) (by kernel_rfl) rfl (by kernel_rfl) (by kernel_rfl) (by kernel_rfl) rfl (by kernel_rfl) (fun _ _ _ h=>h) ⟨Or.inl ⟨by rfl,fun w hS=>by obtain ⟨h0,h1⟩:=hS;go_simp⟩,fun _=>rfl⟩ hS ?_
          simp only [ud9]
          refine anyHG_one (i:=8) (by kernel_rfl) rfl (by kernel_rfl) (by rfl) ?_
          obtain ⟨h0,h1⟩:=hS
          gi_wp2
          refine anyHG_done (by kernel_rfl) ?_ _
          refine NoPanic.normal ?_
          clear h0 h1
          go_wp2_with fail
          go_roundw
          case rel =>
           have hP:=FillG.put HFL.out.1 HAB.out HG7.out.1 HG7.out.2.1 HG7.out.2.2 HST.out.2.2.2.2.1 HST.out.2.2.2.2.2.2 HFL.out.2.2.2
           have hqW:gq<W2.heap.size:=by have h1:=HG7.out.2;rcases HST.out.2.2.2.2.2.1 with e | e <;> omega
           have hqw0:w0.heap.size≤gq:=by have h1:=HG0W.out;rcases HST.out.2.2.2.2.2.1 with e | e <;> omega
           have hDr:=(Below.refl (v24.setCell ⟨gq,rn,none⟩ (.slice aJ n cJ)).heap.size (v24.setCell ⟨gq,rn,none⟩ (.slice aJ n cJ))).drew
           refine ⟨j+1,by omega,by go_num,⟨aJ,cJ,rfl,?_⟩,by rw [HNX.out];exact hP.below hDr,(HFL.out.2.1.put HST.out.2.2.2.2.2.1).below hDr,(HFL.out.2.2.1.setCell (p:=⟨gq,rn,none⟩) hqw0 _).drew⟩
           rw [HAH.out]
           exact bytesR.imp (bytesR.keep HFL.out.2.2.2 fun q hq=>Below.heap_setCell v24 ⟨gq,rn,none⟩ _ q (by show q≠gq;have:=hq.1;omega)) fun q hq=>⟨.inr hq.1,by simpa using hq.2⟩
          case measure=>simp [intOf];omega
      · obtain rfl:j=n1:=by omega
        have hdec:decide ((j:Int)<(j:Int))=false:=by simp
        rw [show La.take j=La from List.take_of_length_le (by rw [HLN0.out];exact Nat.le_refl _)] at hfl
        clear hbt
        go_wp2_with fail
        go_roundw
        case rel=>exact ⟨1,.inr (.inl ⟨rfl,by go_num⟩),by exact hfl,hkp,hbw⟩
        case measure=>simp [intOf]
   · have hS:=HSS.out _ hbw
     obtain ⟨h0,h1,h2,h3,h4,h5⟩:=hS
     obtain ⟨wz,hwz⟩:∃ x,x=wr:=⟨_,rfl⟩
     subst hwz
     go_wp2_with fail
     go_loopw [7,28] (fun v i wx=>∃ j:Nat,j≤n2∧i = .int .i64 j∧(∃ tA tc,v = .slice tA n tc∧BytesP (fun q=>(q<w0.heap.size∨W2.heap.size≤q)∧q<wx.heap.size) wx v (aheadP n b Bc A Lb j))∧FillG Q a b A Bc ga gb W2.heap.size (La ++ Lb.take j) wx∧KeepF W2 ga gb wx∧Below w0.heap.size w0 wx) (fun _ i _=>n2 - (intOf i).toNat)
     case atStart =>
      refine ⟨0,Nat.zero_le _,rfl,⟨nA,nc,rfl,?_⟩,by rw [List.take_zero,List.append_nil];exact hfl,hkp,hbw⟩
      exact bytesR.imp (show BytesP (·<w0.heap.size) wz _ _ from HNO.out.below hbw) fun q hq=>⟨.inl hq,by have hq':q<w0.heap.size:=hq;have:=hbw.size;omega⟩
     case round =>
      clear hfl hkp hbw
      obtain ⟨j,hj,rfl,⟨tA,tc,rfl,hbt⟩,hfl,hkp,hbw⟩:=hrel
      by_cases hlj:j<n2
      · have hdec:decide ((j:Int)<(n2:Int))=true:=by simp;omega
        obtain ⟨⟨c,r⟩,he⟩:∃ e,Lb[j]?=some e:=⟨_,List.getElem?_eq_getElem (by rw [HLN1.out];exact hlj)⟩
        have hLe:Lb.length=n2:=HLN1.out
        obtain ⟨⟨hcx,hr0,hr1,hev⟩,hsl,hal,hxo⟩:=HT1.out j (by rw [hLe];exact hlj) (c,r) he
        obtain ⟨rn,rfl⟩:∃ m:Nat,r=(m:Int):=⟨r.toNat,by have:(0:Int)≤r:=hr0;omega⟩
        have hrQ:rn<Q:=by have h1:(rn:Int)<(P:Int) - 1:=hr1;have:=HQP.out;omega
        obtain ⟨q0,q1⟩:=cc_at _ _ _ he
        obtain ⟨gq,hgq⟩:∃ gq,(c=a∧gq=ga)∨(c=b∧gq=gb):=by
         have hcx':c=b∨c=a:=hcx
         rcases hcx' with e | e
         · exact ⟨gb,by simp [e]⟩
         · exact ⟨ga,by simp [e]⟩
        have hq01:gq=ga∨gq=gb:=hgq.imp And.right And.right
        obtain ⟨gA1,hAe,hgA11,hgA12,hce⟩:=own_cells HOW1.out (by rw [hLe];omega)
        subst hAe
        have hgA1a:gA1≠ga∧gA1≠gb:=by have:=HZS.out;omega
        have p0:=(World.cell?_of_block (a:=⟨gA1,j * 2,none⟩) (hkp.2 gA1 hgA12 hgA1a.1 hgA1a.2)).trans (hce _ _ q0)
        have p1:=(World.cell?_of_block (a:=⟨gA1,j * 2+1,none⟩) (hkp.2 gA1 hgA12 hgA1a.1 hgA1a.2)).trans (hce _ _ q1)
        have HNX:Hid (La ++ Lb.take (j+1)=La ++ Lb.take j ++ [(c,(rn:Int))]):=by
         unfold Hid
         rw [List.take_succ_eq_append_getElem (by rw [hLe];exact hlj),List.append_assoc]
         congr 2
         rw [List.getElem?_eq_getElem (by rw [hLe];exact hlj)] at he
         injection he with he
         rw [he]
        have HAH:Hid (aheadP n b Bc A Lb (j+1)=cellF a A Bc (c,(rn:Int))):=by
         show cellF b Bc A (Lb[j]?.getD (0,0)) = _
         rw [he]
         exact cellF_swap HAB.out A Bc (c,(rn:Int)) (by have h:c=b∨c=a:=hcx;exact h)
        replace hxo:=hxo.trans (show cellF b Bc A (c,(rn:Int))=cellF a A Bc (c,(rn:Int)) from cellF_swap HAB.out A Bc (c,(rn:Int)) (by have h:c=b∨c=a:=hcx;exact h))
        obtain ⟨W8,hW8⟩:∃ z,wr.alloc (.cells #[.int .i64 c,.int .i64 (rn:Int)] 31)=z:=⟨_,rfl⟩
        obtain ⟨g9,hg9⟩:∃ z,wr.heap.size=z:=⟨_,rfl⟩
        have b9:Blk W8 g9 31 #[.int .i64 c,.int .i64 (rn:Int)]:=by rw [←hW8,←hg9];exact Blk.new wr _ _
        have hB8:Below wr.heap.size wr W8:=by rw [←hW8];exact below_one wr _
        have i0:(0:Int)≤(j:Int):=by omega
        have i1:(j:Int)<(n2:Int):=by omega
        have i2:(0:Int)≤(rn:Int):=by omega
        have i3:(rn:Int)<(Q:Int):=by omega
        have i4:n2≤100:=HN100.out.2
        have HST:=Lib.hid (And.intro hfl (And.intro hkp (And.intro hbw (And.intro hbt (And.intro hgq (And.intro hq01 hrQ))))))
        have HX8:=Lib.hid (And.intro hsl (And.intro hal (And.intro hxo (And.intro hev hB8))))
        have H9:=Lib.hid hg9
        clear hfl hkp hbw hbt hgq hq01 hcx hr0 hr1 q0 q1 he hsl hal hxo hev hrQ hLe
        go_wp2_with fail
        (try rw [H9.out]);(try rw [hW8])
        clear p0 p1 hg9 hW8 hce hgA11 hgA12 hgA1a
        have hBx0:=Below.refl W8.heap.size W8
        rcases Nat.mod_two_eq_zero_or_one j with hpar | hpar
        · have hrem:Int.tmod (j:Int) 2=0:=by rw [Int.tmod_eq_emod_of_nonneg (by omega)];omega
          have hdl:=HX8.out.2.2.2.1 hpar
          obtain ⟨dgn,hdgn⟩:∃ d:Nat,(c+(rn:Int)) % (P:Int)=(d:Int):=⟨((c+(rn:Int)) % (P:Int)).toNat,by have:=Int.emod_nonneg (c+(rn:Int)) (show (P:Int)≠0 by have:=HQP.out;omega);omega⟩
          have hdQ:dgn<Q:=by have h1:(c+(rn:Int)) % (P:Int)<(P:Int) - 1:=hdl;have:=HQP.out;omega
          have hsf:shareF P Q n R D j (c,(rn:Int))=D[dgn]?.getD []:=by unfold shareF;rw [if_pos hpar];show D[((c+(rn:Int)) % (P:Int)).toNat]?.getD [] = _;rw [hdgn,Int.toNat_natCast]
          obtain ⟨uA,uc,hgd,hud,hmu⟩:=HDC.out dgn hdQ
          have HSH:=Lib.hid (fun (V:World) (hV:Below W8.heap.size W8 V)=>onDiagonal_any (.slice (some ⟨gr,orr,none⟩) Q k1) (.slice nA n nc) P HQP.out.2.2 (some ⟨gl,0,none⟩) 2 2 gd od Q k2 c (rn:Int) (by have:=HCR.out c gq HST.out.2.2.2.2.1;have:=HQP.out;have:=HST.out.2.2.2.2.2.2;omega) dgn hdgn hdQ (by have:=HQP.out;omega) V (HLAID.out V (below_in HST.out.2.2.1 (below_in HX8.out.2.2.2.2 hV))) (by have h1:=(below_in HST.out.2.2.1 (below_in HX8.out.2.2.2.2 hV)).size;omega) uA n uc ((below_in HST.out.2.2.1 (below_in HX8.out.2.2.2.2 hV)).cell (p:=⟨gd,od+dgn,none⟩) hgd |>.trans hud))
          have hent:=enter_OD
          rw [hsf] at HX8
          have HJL:Hid ((xorOf [aheadP n b Bc A Lb j,D[dgn]?.getD []]).length=n):=by unfold Hid;rw [xorOf_len];exact HX8.out.2.1
          have hbt8:Bytes W8.heap.size W8 (.slice tA n tc) (aheadP n b Bc A Lb j):=bytesR.imp (bytesR.keep HST.out.2.2.2.1 fun q hq=>HX8.out.2.2.2.2.block q hq.2) fun q hq=>(show q<W8.heap.size by have:=HX8.out.2.2.2.2.size;have:=hq.2;omega)
          have hus8:Bytes W8.heap.size W8 (.slice uA n uc) (D[dgn]?.getD []):=(hmu.below (below_in HST.out.2.2.1 HX8.out.2.2.2.2)).more (by have:=(below_in HST.out.2.2.1 HX8.out.2.2.2.2).size;exact this)
          have HUP:=Lib.hid (fun (g:Nat) (V:World) (hV:Below W8.heap.size W8 V) (bE:Blk V g 64 #[.slice tA n tc,.slice uA n uc])=>pUpon_any (B:=V.heap.size) (.slice (some ⟨g,0,none⟩) 2 2) [aheadP n b Bc A Lb j,D[dgn]?.getD []] V (Nat.le_refl _) (many2 bE ((hbt8.below hV).more hV.size) ((hus8.below hV).more hV.size) bE.lt) (by simp) (xor_two HN1.out.1 HN1.out.2 HX8.out.2.1 HX8.out.1))
          have HSS:Hid (∀ V,Below W8.heap.size W8 V→(fun U:World=>U.cell? ⟨g4,0,none⟩=some (.func (.func 122) #[.agg #[.int .i64 2,.int .i64 (P:Int),.slice (some ⟨gl,0,none⟩) 2 2,.slice (some ⟨gr,orr,none⟩) Q k1,.slice (some ⟨gd,od,none⟩) Q k2,.slice nA n nc]] #[])∧U.cell? ⟨g9,0,none⟩=some (.int .i64 c)∧U.cell? ⟨g9,1,none⟩=some (.int .i64 (rn:Int))) V):=fun V hV=>by
           have hV2:=below_in HX8.out.2.2.2.2 hV
           have hk4:V.heap[g4]?=W2.heap[g4]?:=(hV2.block g4 (by have:=HST.out.2.1.1;have:=HG4.out.2.1;omega)).trans (HST.out.2.1.2 g4 HG4.out.2.1 HG4.out.2.2.1 HG4.out.2.2.2)
           have b4:Blk V g4 162 #[.func (.func 122) #[.agg #[.int .i64 2,.int .i64 (P:Int),.slice (some ⟨gl,0,none⟩) 2 2,.slice (some ⟨gr,orr,none⟩) Q k1,.slice (some ⟨gd,od,none⟩) Q k2,.slice nA n nc]] #[],.func (.func 123) #[.agg #[.int .i64 2,.int .i64 (P:Int),.slice (some ⟨gl,0,none⟩) 2 2,.slice (some ⟨gr,orr,none⟩) Q k1,.slice (some ⟨gd,od,none⟩) Q k2,.slice nA n nc]] #[]]:=hk4.trans HG4.out.1
           exact ⟨b4.cell 0,(b9.below hV b9.lt).cell 0,(b9.below hV b9.lt).cell 1⟩
          have hBx:=hBx0.drew
          have hS:(fun U:World=>U.cell? ⟨g4,0,none⟩=some (.func (.func 122) #[.agg #[.int .i64 2,.int .i64 (P:Int),.slice (some ⟨gl,0,none⟩) 2 2,.slice (some ⟨gr,orr,none⟩) Q k1,.slice (some ⟨gd,od,none⟩) Q k2,.slice nA n nc]] #[])∧U.cell? ⟨g9,0,none⟩=some (.int .i64 c)∧U.cell? ⟨g9,1,none⟩=some (.int .i64 (rn:Int))) W8.drew:=HSS.out _ hBx
          clear hbt8 hus8 hmu hud hgd hsf hBx0
          refine (wpIn_wide (n:=9)).1 ?_
          refine wpIn_mono (region_HF (Q:=NoPanic _) (S:=(fun U:World=>U.cell? ⟨g4,0,none⟩=some (.func (.func 122) #[.agg #[.int .i64 2,.int .i64 (P:Int),.slice (some ⟨gl,0,none⟩) 2 2,.slice (some ⟨gr,orr,none⟩) Q k1,.slice (some ⟨gd,od,none⟩) Q k2,.slice nA n nc]] #[])∧U.cell? ⟨g9,0,none⟩=some (.int .i64 c)∧U.cell? ⟨g9,1,none⟩=some (.int .i64 (rn:Int)))) (by kernel_rfl) ?_) NoPanic.imp
          refine tkF (i:=0) (d:=33) (v:=.slice tA n tc) (s:=hS) (c:=?_)
          simp only [ud9]
          refine tkF (i:=1) (d:=34) (v:=.int .i64 (j:Int)) (s:=hS) (c:=?_)
          simp only [ud9]
          refine tkF (i:=2) (d:=35) (v:=.int .i64 0) (s:=hS) (c:=?_)
          simp only [ud9]
          refine tkF (i:=3) (d:=36) (v:=.pointer (some ⟨g4,0,none⟩)) (s:=hS) (c:=?_)
          simp only [ud9]
          refine tkF (i:=4) (d:=37) (v:=.func (.func 122) #[.agg #[.int .i64 2,.int .i64 (P:Int),.slice (some ⟨gl,0,none⟩) 2 2,.slice (some ⟨gr,orr,none⟩) Q k1,.slice (some ⟨gd,od,none⟩) Q k2,.slice nA n nc]] #[]) (s:=hS) (c:=?_)
          simp only [ud9]
          refine tkF (i:=5) (d:=38) (v:=.agg #[.int .i64 c,.int .i64 (rn:Int)]) (s:=hS) (c:=?_)
          simp only [ud9]
          refine oneF (i:=6) (c:=?_)
          gi_wp2_with fail
          refine ⟨trivial,(callsIn_wide.2 (HSH.out _ hBx)).mono ?_⟩
          rintro e v21 ⟨rfl,hB⟩
          replace hBx:=below_in hBx hB
          clear hS
          have hS:(fun U:World=>U.cell? ⟨g4,0,none⟩=some (.func (.func 122) #[.agg #[.int .i64 2,.int .i64 (P:Int),.slice (some ⟨gl,0,none⟩) 2 2,.slice (some ⟨gr,orr,none⟩) Q k1,.slice (some ⟨gd,od,none⟩) Q k2,.slice nA n nc]] #[])∧U.cell? ⟨g9,0,none⟩=some (.int .i64 c)∧U.cell? ⟨g9,1,none⟩=some (.int .i64 (rn:Int))) v21:=HSS.out _ hBx
          clear hB
          gi_wp2
          try (refine ⟨hS,?_⟩)
          refine oneF (i:=7) (c:=?_)
          have hgl_g23:=hBx.size
          have hB:Below v21.heap.size v21 (v21.alloc (.cells #[.slice tA n tc,.slice uA n uc] 64)):=below_one v21 _
          have bE:Blk (v21.alloc (.cells #[.slice tA n tc,.slice uA n uc] 64)) v21.heap.size 64 #[.slice tA n tc,.slice uA n uc]:=Blk.new v21 _ _
          obtain ⟨v22,he_v22⟩:∃ x,(v21.alloc (.cells #[.slice tA n tc,.slice uA n uc] 64))=x:=⟨_,rfl⟩
          obtain ⟨g23,hg_g23⟩:∃ x,v21.heap.size=x:=⟨_,rfl⟩
          rw [he_v22] at hB bE
          rw [hg_g23] at bE
          replace hBx:=below_in hBx hB
          clear hS
          have hS:(fun U:World=>U.cell? ⟨g4,0,none⟩=some (.func (.func 122) #[.agg #[.int .i64 2,.int .i64 (P:Int),.slice (some ⟨gl,0,none⟩) 2 2,.slice (some ⟨gr,orr,none⟩) Q k1,.slice (some ⟨gd,od,none⟩) Q k2,.slice nA n nc]] #[])∧U.cell? ⟨g9,0,none⟩=some (.int .i64 c)∧U.cell? ⟨g9,1,none⟩=some (.int .i64 (rn:Int))) v22:=HSS.out _ hBx
          gi_wp2
          (try rw [hg_g23]);(try rw [he_v22])
          try (refine ⟨hS,?_⟩)
          clear hB he_v22 hg_g23
          refine oneF (i:=8) (c:=?_)
          have HZE:=Lib.hid hBx.size
          gi_wp2_with fail
          refine ⟨trivial,(callsIn_wide.2 (HUP.out g23 _ hBx bE)).mono ?_⟩
          rintro e v24 ⟨uj,rfl,hFu,hB⟩
          obtain ⟨aJ,cJ,rfl,_⟩:=id hFu
          rw [HJL.out] at hFu ⊢
          replace bE:=bE.below hB bE.lt
          replace hBx:=below_in hBx hB
          clear hS
          have hS:(fun U:World=>U.cell? ⟨g4,0,none⟩=some (.func (.func 122) #[.agg #[.int .i64 2,.int .i64 (P:Int),.slice (some ⟨gl,0,none⟩) 2 2,.slice (some ⟨gr,orr,none⟩) Q k1,.slice (some ⟨gd,od,none⟩) Q k2,.slice nA n nc]] #[])∧U.cell? ⟨g9,0,none⟩=some (.int .i64 c)∧U.cell? ⟨g9,1,none⟩=some (.int .i64 (rn:Int))) v24:=HSS.out _ hBx
          clear hB
          gi_wp2
          try (refine ⟨hS,?_⟩)
          refine oneF (i:=9) (c:=?_)
          gi_wp2
          refine anyHF_done (by kernel_rfl) ?_ _
          refine NoPanic.normal ?_
          clear hS
          have hBw:=below_in HX8.out.2.2.2.2 hBx
          have hflV:=HST.out.1.below hBw
          have hkpV:=HST.out.2.1.below hBw
          have hbwV:=below_in HST.out.2.2.1 hBw
          obtain ⟨⟨old,hold⟩,hfz⟩:=hflV.old HST.out.2.2.2.2.2.1 HST.out.2.2.2.2.2.2
          have z9:=b9.below hBx b9.lt
          have hFb:BytesP (fun q=>W2.heap.size≤q∧q<v24.heap.size) v24 (.slice aJ n cJ) (cellF a A Bc (c,(rn:Int))):=by
           have h1:=Fresh.toP2 (B:=0) hFu
           rw [HX8.out.2.2.1] at h1
           exact bytesR.imp h1 fun q hq=>⟨by have:=hq.1;have:=HST.out.2.1.1;have:=HX8.out.2.2.2.2.size;have:=HZE.out;omega,hq.2⟩
          have HHE:=Lib.hid (fun (V:World) (hV:Below v24.heap.size v24 V)=>HEL.out c gq HST.out.2.2.2.2.1 V (hkpV.below hV))
          have hent2:=enter_held
          have hBy:=Below.refl v24.heap.size v24
          have hS:(fun U:World=>U.cell? ⟨g9,0,none⟩=some (.int .i64 c)∧U.cell? ⟨g9,1,none⟩=some (.int .i64 (rn:Int))) v24.drew:=⟨(z9.below hBy.drew z9.lt).cell 0,(z9.below hBy.drew z9.lt).cell 1⟩
          have HFL:=Lib.hid (And.intro hflV (And.intro hkpV (And.intro hbwV hFb)))
          clear hflV hkpV hbwV hFb hBx hBw z9 hFu
          go_wp2_with fail
          refine (wpIn_wide (n:=9)).1 ?_
          refine wpIn_mono (region_HG (Q:=NoPanic _) (S:=(fun U:World=>U.cell? ⟨g9,0,none⟩=some (.int .i64 c)∧U.cell? ⟨g9,1,none⟩=some (.int .i64 (rn:Int)))) (m:=8) (by kernel_rfl) ?_) NoPanic.imp
          refine anyHG_take (i:=0) (d:=42) (v:=.func (.func 178) #[] #[.pointer (some ⟨g3,0,none⟩)]) (by kernel_rfl) rfl (by kernel_rfl) (by kernel_rfl) (by kernel_rfl) rfl (by kernel_rfl) (fun _ _ _ h=>h) ⟨Or.inl ⟨by rfl,fun w hS=>by obtain ⟨h0,h1⟩:=hS;go_simp⟩,fun _=>rfl⟩ hS ?_
          simp only [ud9]
          refine anyHG_take (i:=1) (d:=43) (v:=.pointer (some ⟨g9,0,none⟩)) (by kernel_rfl) rfl (by kernel_rfl) (by kernel_rfl) (by kernel_rfl) rfl (by kernel_rfl) (fun _ _ _ h=>h) ⟨Or.inl ⟨by rfl,fun w hS=>by obtain ⟨h0,h1⟩:=hS;go_simp⟩,fun _=>rfl⟩ hS ?_
          simp only [ud9]
          refine anyHG_take (i:=2) (d:=44) (v:=.int .i64 c) (by kernel_rfl) rfl (by kernel_rfl) (by kernel_rfl) (by kernel_rfl) rfl (by kernel_rfl) (fun _ _ _ h=>h) ⟨Or.inl ⟨by rfl,fun w hS=>by obtain ⟨h0,h1⟩:=hS;go_simp⟩,fun _=>rfl⟩ hS ?_
          simp only [ud9]
          refine anyHG_take (i:=4) (d:=46) (v:=.pointer (some ⟨g9,1,none⟩)) (by kernel_rfl) rfl (by kernel_rfl) (by kernel_rfl) (by kernel_rfl) rfl (by kernel_rfl) (fun _ _ _ h=>h) ⟨Or.inl ⟨by rfl,fun w hS=>by obtain ⟨h0,h1⟩:=hS;go_simp⟩,fun _=>rfl⟩ hS ?_
          simp only [ud9]
          refine anyHG_take (i:=5) (d:=47) (v:=.int .i64 (rn:Int)) (by kernel_rfl) rfl (by kernel_rfl) (by kernel_rfl) (by kernel_rfl) rfl (by kernel_rfl) (fun _ _ _ h=>h) ⟨Or.inl ⟨by rfl,fun w hS=>by obtain ⟨h0,h1⟩:=hS;go_simp⟩,fun _=>rfl⟩ hS ?_
          simp only [ud9]
          refine anyHG_take (i:=6) (d:=48) (v:=.slice aJ n cJ) (by kernel_rfl) rfl (by kernel_rfl) (by kernel_rfl) (by kernel_rfl) rfl (by kernel_rfl) (fun _ _ _ h=>h) ⟨Or.inl ⟨by rfl,fun w hS=>by obtain ⟨h0,h1⟩:=hS;go_simp⟩,fun _=>rfl⟩ hS ?_
          simp only [ud9]
          refine anyHG_one (i:=3) (by kernel_rfl) rfl (by kernel_rfl) (by rfl) ?_
          gi_wp2_with fail
          refine ⟨trivial,(callsIn_wide.2 (HHE.out _ hBy.drew)).mono ?_⟩
          rintro e w7' ⟨rfl,rfl⟩
          gi_wp2
          try (refine ⟨.inr hS,?_⟩)
          refine anyHG_take (i:=7) (d:=49) (v:=.pointer (some ⟨gq,rn,none⟩)) (by kernel_rfl) rfl (by kernel_rfl) (by kernel_rfl) (by kernel_rfl) rfl (by kernel_rfl) (fun _ _ _ h=>h) ⟨Or.inl ⟨by rfl,fun w hS=>by obtain ⟨h0,h1⟩:=hS;go_simp⟩,fun _=>rfl⟩ hS ?_
          simp only [ud9]
          refine anyHG_one (i:=8) (by kernel_rfl) rfl (by kernel_rfl) (by rfl) ?_
          obtain ⟨h0,h1⟩:=hS
          gi_wp2
          refine anyHG_done (by kernel_rfl) ?_ _
          refine NoPanic.normal ?_
          clear h0 h1
          go_wp2_with fail
          go_roundw
          case rel =>
           have hP:=FillG.put HFL.out.1 HAB.out HG7.out.1 HG7.out.2.1 HG7.out.2.2 HST.out.2.2.2.2.1 HST.out.2.2.2.2.2.2 HFL.out.2.2.2
           have hqW:gq<W2.heap.size:=by have h1:=HG7.out.2;rcases HST.out.2.2.2.2.2.1 with e | e <;> omega
           have hqw0:w0.heap.size≤gq:=by have h1:=HG0W.out;rcases HST.out.2.2.2.2.2.1 with e | e <;> omega
           have hDr:=(Below.refl (v24.setCell ⟨gq,rn,none⟩ (.slice aJ n cJ)).heap.size (v24.setCell ⟨gq,rn,none⟩ (.slice aJ n cJ))).drew
           refine ⟨j+1,by omega,by go_num,⟨aJ,cJ,rfl,?_⟩,by rw [HNX.out];exact hP.below hDr,(HFL.out.2.1.put HST.out.2.2.2.2.2.1).below hDr,(HFL.out.2.2.1.setCell (p:=⟨gq,rn,none⟩) hqw0 _).drew⟩
           rw [HAH.out]
           exact bytesR.imp (bytesR.keep HFL.out.2.2.2 fun q hq=>Below.heap_setCell v24 ⟨gq,rn,none⟩ _ q (by show q≠gq;have:=hq.1;omega)) fun q hq=>⟨.inr hq.1,by simpa using hq.2⟩
          case measure=>simp [intOf];omega
        · have hrem:Int.tmod (j:Int) 2=1:=by rw [Int.tmod_eq_emod_of_nonneg (by omega)];omega
          have hsf:shareF P Q n R D j (c,(rn:Int))=R[rn]?.getD []:=by unfold shareF;rw [if_neg (by omega)];simp
          obtain ⟨uA,uc,hgd,hud,hmu⟩:=HRC.out rn HST.out.2.2.2.2.2.2
          have HSH:=Lib.hid (fun (V:World) (hV:Below W8.heap.size W8 V)=>inRow_any (.slice (some ⟨gd,od,none⟩) Q k2) (.slice nA n nc) (P:Int) (some ⟨gl,0,none⟩) 2 2 gr orr Q k1 c rn HST.out.2.2.2.2.2.2 (by have:=HQP.out;omega) V (by have h1:=(below_in HST.out.2.2.1 (below_in HX8.out.2.2.2.2 hV)).size;omega) uA n uc ((below_in HST.out.2.2.1 (below_in HX8.out.2.2.2.2 hV)).cell (p:=⟨gr,orr+rn,none⟩) hgd |>.trans hud))
          have hent:=enter_IR
          rw [hsf] at HX8
          have HJL:Hid ((xorOf [aheadP n b Bc A Lb j,R[rn]?.getD []]).length=n):=by unfold Hid;rw [xorOf_len];exact HX8.out.2.1
          have hbt8:Bytes W8.heap.size W8 (.slice tA n tc) (aheadP n b Bc A Lb j):=bytesR.imp (bytesR.keep HST.out.2.2.2.1 fun q hq=>HX8.out.2.2.2.2.block q hq.2) fun q hq=>(show q<W8.heap.size by have:=HX8.out.2.2.2.2.size;have:=hq.2;omega)
          have hus8:Bytes W8.heap.size W8 (.slice uA n uc) (R[rn]?.getD []):=(hmu.below (below_in HST.out.2.2.1 HX8.out.2.2.2.2)).more (by have:=(below_in HST.out.2.2.1 HX8.out.2.2.2.2).size;exact this)
          have HUP:=Lib.hid (fun (g:Nat) (V:World) (hV:Below W8.heap.size W8 V) (bE:Blk V g 64 #[.slice tA n tc,.slice uA n uc])=>pUpon_any (B:=V.heap.size) (.slice (some ⟨g,0,none⟩) 2 2) [aheadP n b Bc A Lb j,R[rn]?.getD []] V (Nat.le_refl _) (many2 bE ((hbt8.below hV).more hV.size) ((hus8.below hV).more hV.size) bE.lt) (by simp) (xor_two HN1.out.1 HN1.out.2 HX8.out.2.1 HX8.out.1))
          have HSS:Hid (∀ V,Below W8.heap.size W8 V→(fun U:World=>U.cell? ⟨g4,1,none⟩=some (.func (.func 123) #[.agg #[.int .i64 2,.int .i64 (P:Int),.slice (some ⟨gl,0,none⟩) 2 2,.slice (some ⟨gr,orr,none⟩) Q k1,.slice (some ⟨gd,od,none⟩) Q k2,.slice nA n nc]] #[])∧U.cell? ⟨g9,0,none⟩=some (.int .i64 c)∧U.cell? ⟨g9,1,none⟩=some (.int .i64 (rn:Int))) V):=fun V hV=>by
           have hV2:=below_in HX8.out.2.2.2.2 hV
           have hk4:V.heap[g4]?=W2.heap[g4]?:=(hV2.block g4 (by have:=HST.out.2.1.1;have:=HG4.out.2.1;omega)).trans (HST.out.2.1.2 g4 HG4.out.2.1 HG4.out.2.2.1 HG4.out.2.2.2)
           have b4:Blk V g4 162 #[.func (.func 122) #[.agg #[.int .i64 2,.int .i64 (P:Int),.slice (some ⟨gl,0,none⟩) 2 2,.slice (some ⟨gr,orr,none⟩) Q k1,.slice (some ⟨gd,od,none⟩) Q k2,.slice nA n nc]] #[],.func (.func 123) #[.agg #[.int .i64 2,.int .i64 (P:Int),.slice (some ⟨gl,0,none⟩) 2 2,.slice (some ⟨gr,orr,none⟩) Q k1,.slice (some ⟨gd,od,none⟩) Q k2,.slice nA n nc]] #[]]:=hk4.trans HG4.out.1
           exact ⟨b4.cell 1,(b9.below hV b9.lt).cell 0,(b9.below hV b9.lt).cell 1⟩
          have hBx:=hBx0.drew
          have hS:(fun U:World=>U.cell? ⟨g4,1,none⟩=some (.func (.func 123) #[.agg #[.int .i64 2,.int .i64 (P:Int),.slice (some ⟨gl,0,none⟩) 2 2,.slice (some ⟨gr,orr,none⟩) Q k1,.slice (some ⟨gd,od,none⟩) Q k2,.slice nA n nc]] #[])∧U.cell? ⟨g9,0,none⟩=some (.int .i64 c)∧U.cell? ⟨g9,1,none⟩=some (.int .i64 (rn:Int))) W8.drew:=HSS.out _ hBx
          clear hbt8 hus8 hmu hud hgd hsf hBx0
          refine (wpIn_wide (n:=9)).1 ?_
          refine wpIn_mono (region_HF (Q:=NoPanic _) (S:=(fun U:World=>U.cell? ⟨g4,1,none⟩=some (.func (.func 123) #[.agg #[.int .i64 2,.int .i64 (P:Int),.slice (some ⟨gl,0,none⟩) 2 2,.slice (some ⟨gr,orr,none⟩) Q k1,.slice (some ⟨gd,od,none⟩) Q k2,.slice nA n nc]] #[])∧U.cell? ⟨g9,0,none⟩=some (.int .i64 c)∧U.cell? ⟨g9,1,none⟩=some (.int .i64 (rn:Int)))) (by kernel_rfl) ?_) NoPanic.imp
          refine tkF (i:=0) (d:=33) (v:=.slice tA n tc) (s:=hS) (c:=?_)
          simp only [ud9]
          refine tkF (i:=1) (d:=34) (v:=.int .i64 (j:Int)) (s:=hS) (c:=?_)
          simp only [ud9]
          refine tkF (i:=2) (d:=35) (v:=.int .i64 1) (s:=hS) (c:=?_)
          simp only [ud9]
          refine tkF (i:=3) (d:=36) (v:=.pointer (some ⟨g4,1,none⟩)) (s:=hS) (c:=?_)
          simp only [ud9]
          refine tkF (i:=4) (d:=37) (v:=.func (.func 123) #[.agg #[.int .i64 2,.int .i64 (P:Int),.slice (some ⟨gl,0,none⟩) 2 2,.slice (some ⟨gr,orr,none⟩) Q k1,.slice (some ⟨gd,od,none⟩) Q k2,.slice nA n nc]] #[]) (s:=hS) (c:=?_)
          simp only [ud9]
          refine tkF (i:=5) (d:=38) (v:=.agg #[.int .i64 c,.int .i64 (rn:Int)]) (s:=hS) (c:=?_)
          simp only [ud9]
          refine oneF (i:=6) (c:=?_)
          gi_wp2_with fail
          refine ⟨trivial,(callsIn_wide.2 (HSH.out _ hBx)).mono ?_⟩
          rintro e v21 ⟨rfl,hB⟩
          replace hBx:=below_in hBx hB
          clear hS
          have hS:(fun U:World=>U.cell? ⟨g4,1,none⟩=some (.func (.func 123) #[.agg #[.int .i64 2,.int .i64 (P:Int),.slice (some ⟨gl,0,none⟩) 2 2,.slice (some ⟨gr,orr,none⟩) Q k1,.slice (some ⟨gd,od,none⟩) Q k2,.slice nA n nc]] #[])∧U.cell? ⟨g9,0,none⟩=some (.int .i64 c)∧U.cell? ⟨g9,1,none⟩=some (.int .i64 (rn:Int))) v21:=HSS.out _ hBx
          clear hB
          gi_wp2
          try (refine ⟨hS,?_⟩)
          refine oneF (i:=7) (c:=?_)
          have hgl_g23:=hBx.size
          have hB:Below v21.heap.size v21 (v21.alloc (.cells #[.slice tA n tc,.slice uA n uc] 64)):=below_one v21 _
          have bE:Blk (v21.alloc (.cells #[.slice tA n tc,.slice uA n uc] 64)) v21.heap.size 64 #[.slice tA n tc,.slice uA n uc]:=Blk.new v21 _ _
          obtain ⟨v22,he_v22⟩:∃ x,(v21.alloc (.cells #[.slice tA n tc,.slice uA n uc] 64))=x:=⟨_,rfl⟩
          obtain ⟨g23,hg_g23⟩:∃ x,v21.heap.size=x:=⟨_,rfl⟩
          rw [he_v22] at hB bE
          rw [hg_g23] at bE
          replace hBx:=below_in hBx hB
          clear hS
          have hS:(fun U:World=>U.cell? ⟨g4,1,none⟩=some (.func (.func 123) #[.agg #[.int .i64 2,.int .i64 (P:Int),.slice (some ⟨gl,0,none⟩) 2 2,.slice (some ⟨gr,orr,none⟩) Q k1,.slice (some ⟨gd,od,none⟩) Q k2,.slice nA n nc]] #[])∧U.cell? ⟨g9,0,none⟩=some (.int .i64 c)∧U.cell? ⟨g9,1,none⟩=some (.int .i64 (rn:Int))) v22:=HSS.out _ hBx
          gi_wp2
          (try rw [hg_g23]);(try rw [he_v22])
          try (refine ⟨hS,?_⟩)
          clear hB he_v22 hg_g23
          refine oneF (i:=8) (c:=?_)
          have HZE:=Lib.hid hBx.size
          gi_wp2_with fail
          refine ⟨trivial,(callsIn_wide.2 (HUP.out g23 _ hBx bE)).mono ?_⟩
          rintro e v24 ⟨uj,rfl,hFu,hB⟩
          obtain ⟨aJ,cJ,rfl,_⟩:=id hFu
          rw [HJL.out] at hFu ⊢
          replace bE:=bE.below hB bE.lt
          replace hBx:=below_in hBx hB
          clear hS
          have hS:(fun U:World=>U.cell? ⟨g4,1,none⟩=some (.func (.func 123) #[.agg #[.int .i64 2,.int .i64 (P:Int),.slice (some ⟨gl,0,none⟩) 2 2,.slice (some ⟨gr,orr,none⟩) Q k1,.slice (some ⟨gd,od,none⟩) Q k2,.slice nA n nc]] #[])∧U.cell? ⟨g9,0,none⟩=some (.int .i64 c)∧U.cell? ⟨g9,1,none⟩=some (.int .i64 (rn:Int))) v24:=HSS.out _ hBx
          clear hB
          gi_wp2
          try (refine ⟨hS,?_⟩)
          refine oneF (i:=9) (c:=?_)
          gi_wp2
          refine anyHF_done (by kernel_rfl) ?_ _
          refine NoPanic.normal ?_
          clear hS
          have hBw:=below_in HX8.out.2.2.2.2 hBx
          have hflV:=HST.out.1.below hBw
          have hkpV:=HST.out.2.1.below hBw
          have hbwV:=below_in HST.out.2.2.1 hBw
          obtain ⟨⟨old,hold⟩,hfz⟩:=hflV.old HST.out.2.2.2.2.2.1 HST.out.2.2.2.2.2.2
          have z9:=b9.below hBx b9.lt
          have hFb:BytesP (fun q=>W2.heap.size≤q∧q<v24.heap.size) v24 (.slice aJ n cJ) (cellF a A Bc (c,(rn:Int))):=by
           have h1:=Fresh.toP2 (B:=0) hFu
           rw [HX8.out.2.2.1] at h1
           exact bytesR.imp h1 fun q hq=>⟨by have:=hq.1;have:=HST.out.2.1.1;have:=HX8.out.2.2.2.2.size;have:=HZE.out;omega,hq.2⟩
          have HHE:=Lib.hid (fun (V:World) (hV:Below v24.heap.size v24 V)=>HEL.out c gq HST.out.2.2.2.2.1 V (hkpV.below hV))
          have hent2:=enter_held
          have hBy:=Below.refl v24.heap.size v24
          have hS:(fun U:World=>U.cell? ⟨g9,0,none⟩=some (.int .i64 c)∧U.cell? ⟨g9,1,none⟩=some (.int .i64 (rn:Int))) v24.drew:=⟨(z9.below hBy.drew z9.lt).cell 0,(z9.below hBy.drew z9.lt).cell 1⟩
          have HFL:=Lib.hid (And.intro hflV (And.intro hkpV (And.intro hbwV hFb)))
          clear hflV hkpV hbwV hFb hBx hBw z9 hFu
          go_wp2_with fail
          refine (wpIn_wide (n:=9)).1 ?_
          refine wpIn_mono (region_HG (Q:=NoPanic _) (S:=(fun U:World=>U.cell? ⟨g9,0,none⟩=some (.int .i64 c)∧U.cell? ⟨g9,1,none⟩=some (.int .i64 (rn:Int)))) (m:=8) (by kernel_rfl) ?_) NoPanic.imp
          refine anyHG_take (i:=0) (d:=42) (v:=.func (.func 178) #[] #[.pointer (some ⟨g3,0,none⟩)]) (by kernel_rfl) rfl (by kernel_rfl) (by kernel_rfl) (by kernel_rfl) rfl (by kernel_rfl) (fun _ _ _ h=>h) ⟨Or.inl ⟨by rfl,fun w hS=>by obtain ⟨h0,h1⟩:=hS;go_simp⟩,fun _=>rfl⟩ hS ?_
          simp only [ud9]
          refine anyHG_take (i:=1) (d:=43) (v:=.pointer (some ⟨g9,0,none⟩)) (by kernel_rfl) rfl (by kernel_rfl) (by kernel_rfl) (by kernel_rfl) rfl (by kernel_rfl) (fun _ _ _ h=>h) ⟨Or.inl ⟨by rfl,fun w hS=>by obtain ⟨h0,h1⟩:=hS;go_simp⟩,fun _=>rfl⟩ hS ?_
          simp only [ud9]
          refine anyHG_take (i:=2) (d:=44) (v:=.int .i64 c) (by kernel_rfl) rfl (by kernel_rfl) (by kernel_rfl) (by kernel_rfl) rfl (by kernel_rfl) (fun _ _ _ h=>h) ⟨Or.inl ⟨by rfl,fun w hS=>by obtain ⟨h0,h1⟩:=hS;go_simp⟩,fun _=>rfl⟩ hS ?_
          simp only [ud9]
          refine anyHG_take (i:=4) (d:=46) (v:=.pointer (some ⟨g9,1,none⟩)) (by kernel_rfl) rfl (by kernel_rfl) (by kernel_rfl) (by kernel_rfl) rfl (by kernel_rfl) (fun _ _ _ h=>h) ⟨Or.inl ⟨by rfl,fun w hS=>by obtain ⟨h0,h1⟩:=hS;go_simp⟩,fun _=>rfl⟩ hS ?_
          simp only [ud9]
          refine anyHG_take (i:=5) (d:=47) (v:=.int .i64 (rn:Int)) (by kernel_rfl) rfl (by kernel_rfl) (by kernel_rfl) (by kernel_rfl) rfl (by kernel_rfl) (fun _ _ _ h=>h) ⟨Or.inl ⟨by rfl,fun w hS=>by obtain ⟨h0,h1⟩:=hS;go_simp⟩,fun _=>rfl⟩ hS ?_
          simp only [ud9]
          refine anyHG_take (i:=6) (d:=48) (v:=.slice aJ n cJ) (by kernel_rfl) rfl (by kernel_rfl) (by kernel_rfl) (by kernel_rfl) rfl (by kernel_rfl) (fun _ _ _ h=>h) ⟨Or.inl ⟨by rfl,fun w hS=>by obtain ⟨h0,h1⟩:=hS;go_simp⟩,fun _=>rfl⟩ hS ?_
          simp only [ud9]
          refine anyHG_one (i:=3) (by kernel_rfl) rfl (by kernel_rfl) (by rfl) ?_
          gi_wp2_with fail
          refine ⟨trivial,(callsIn_wide.2 (HHE.out _ hBy.drew)).mono ?_⟩
          rintro e w7' ⟨rfl,rfl⟩
          gi_wp2
          try (refine ⟨.inr hS,?_⟩)
          refine anyHG_take (i:=7) (d:=49) (v:=.pointer (some ⟨gq,rn,none⟩)) (by kernel_rfl) rfl (by kernel_rfl) (by kernel_rfl) (by kernel_rfl) rfl (by kernel_rfl) (fun _ _ _ h=>h) ⟨Or.inl ⟨by rfl,fun w hS=>by obtain ⟨h0,h1⟩:=hS;go_simp⟩,fun _=>rfl⟩ hS ?_
          simp only [ud9]
          refine anyHG_one (i:=8) (by kernel_rfl) rfl (by kernel_rfl) (by rfl) ?_
          obtain ⟨h0,h1⟩:=hS
          gi_wp2
          refine anyHG_done (by kernel_rfl) ?_ _
          refine NoPanic.normal ?_
          clear h0 h1
          go_wp2_with fail
          go_roundw
          case rel =>
           have hP:=FillG.put HFL.out.1 HAB.out HG7.out.1 HG7.out.2.1 HG7.out.2.2 HST.out.2.2.2.2.1 HST.out.2.2.2.2.2.2 HFL.out.2.2.2
           have hqW:gq<W2.heap.size:=by have h1:=HG7.out.2;rcases HST.out.2.2.2.2.2.1 with e | e <;> omega
           have hqw0:w0.heap.size≤gq:=by have h1:=HG0W.out;rcases HST.out.2.2.2.2.2.1 with e | e <;> omega
           have hDr:=(Below.refl (v24.setCell ⟨gq,rn,none⟩ (.slice aJ n cJ)).heap.size (v24.setCell ⟨gq,rn,none⟩ (.slice aJ n cJ))).drew
           refine ⟨j+1,by omega,by go_num,⟨aJ,cJ,rfl,?_⟩,by rw [HNX.out];exact hP.below hDr,(HFL.out.2.1.put HST.out.2.2.2.2.2.1).below hDr,(HFL.out.2.2.1.setCell (p:=⟨gq,rn,none⟩) hqw0 _).drew⟩
           rw [HAH.out]
           exact bytesR.imp (bytesR.keep HFL.out.2.2.2 fun q hq=>Below.heap_setCell v24 ⟨gq,rn,none⟩ _ q (by show q≠gq;have:=hq.1;omega)) fun q hq=>⟨.inr hq.1,by simpa using hq.2⟩
          case measure=>simp [intOf];omega
      · obtain rfl:j=n2:=by omega
        have hdec:decide ((j:Int)<(j:Int))=false:=by simp
        rw [show Lb.take j=Lb from List.take_of_length_le (by rw [HLN1.out];exact Nat.le_refl _)] at hfl
        clear hbt
        go_wp2_with fail
        go_roundw
        case rel=>exact ⟨2,.inr (.inr ⟨rfl,by go_num⟩),by exact hfl,hkp,hbw⟩
        case measure=>simp [intOf]
   · have hS:=HSS.out _ hbw
     obtain ⟨h0,h1,h2,h3,h4,h5⟩:=hS
     have hmm:=hfl.many HQP2.out.1 HQP2.out.2 (fun r hr=>HCV.out r hr)
     have hm3:=HM3.out wr hkp
     go_wp2_with fail
     refine (values_any _ _ _ _).mono ?_
     rintro e w5 ⟨rfl,hw5⟩
     have hB5:Below wr.heap.size wr w5:=by rw [←hw5];exact below_one wr _
     have b5:Blk w5 wr.heap.size 45 #[.slice (some ⟨gl,0,none⟩) 2 2]:=by rw [←hw5];exact Blk.new wr _ _
     have hbw5:=below_in hbw hB5
     have HGI:=Lib.hid (pGatherI_any (Q:=Q) a b HAB.out wr.heap.size gl g3 gm ga gb A Bc w5 b5.lt (Nat.lt_of_lt_of_le HGL.out.1 hbw5.size) b5.one ((hbw5.cell (p:=⟨gl,0,none⟩) HGL.out.1).trans HGL.out.2.1) ((hbw5.cell (p:=⟨gl,1,none⟩) HGL.out.1).trans HGL.out.2.2) (hm3.1.below hB5 hm3.1.lt) (hm3.2.below hB5 hm3.2.lt) ((hmm.1.below hB5).more hB5.size) ((hmm.2.below hB5).more hB5.size))
     have HB5:=Lib.hid (below_in HB0.out hbw5)
     clear hmm hm3 hB5 hbw5 b5 hw5 hfl hkp hbw
     go_wp2_with fail
     refine HGI.out.mono ?_
     rintro e w6 ⟨gC,kk,rfl,hcols,hB6⟩
     go_wp2_with fail
     go_ret
     exact ⟨gC,kk,rfl,hcols,below_in HB5.out hB6⟩
end Go.Proofs.YtcchjofjpflbhaaGreatDoor.T
