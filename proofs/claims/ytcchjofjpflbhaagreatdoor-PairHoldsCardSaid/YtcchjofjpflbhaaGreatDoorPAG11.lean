/- -/
import Derived.Deep.Upon
import Derived.Test.YtcchjofjpflbhaaGreatDoorPAG10
set_option linter.unusedVariables false
set_option linter.unusedSimpArgs false
set_option maxRecDepth 100000
set_option maxHeartbeats 8000000
namespace Go.Proofs.YtcchjofjpflbhaaGreatDoor.T
open Go.RowKit Go.Shelf Go.Maps Go.Proofs.YtcchjofjpflbhaaGreatDoor.C Go.Proofs.YtcchjofjpflbhaaGreatDoor.E Go.Proofs.YtcchjofjpflbhaaGreatDoor.Pr
attribute [local go_sem] Oper.semAt_some

def PlacesT (lo:Nat) (L:List (Int×Int)) (v:Value) (w:World):Prop :=
 ∃ gf lb,v = .func (.func gf) #[] lb∧(∀ args W,(callFunc gf args).run Tryz.prog W = .ok (.enter gf args) W)∧(∀ W,(binOp .eql 28 v .nilFunc).run Tryz.prog W = .ok (.bool false) W) ∧
  ∀ n,6≤n→SeqT Fence.wide n Tryz.prog gf lb encA (fun pre e _=>pre ++ [e] <+: L) (KeepG lo (w.heap.size - lo)) (fun ys=>ys=L) (fun pre=>pre <+: L) 200 w
def ArmV (lo:Nat) (p x y:Int) (A:Option Addr) (k c:Nat) (v:Value) (w:World):Prop :=
 ∃ gl ga gb,v = .func (.func 101) #[] #[.pointer (some ⟨gl,0,none⟩),.pointer (some ⟨ga,0,none⟩),.pointer (some ⟨gb,0,none⟩)]∧(lo≤gl∧lo≤ga∧lo≤gb)∧Blk w gl 90 #[.int .i64 2,.int .i64 p,.slice A k c]∧Blk w ga 3 #[.int .i64 x]∧Blk w gb 3 #[.int .i64 y]
def armP (p x y:Int):List (Int×Int):=armL p x y (walkN p (p - 1) (x - y))
theorem armP_len {p x y:Int} (hp:p∈prm):(armP p x y).length≤100:=by
 have hpb:=prm_bounds hp
 have h1:=armOut_len (p - 1) x y (armTo p x (walkN p (p - 1) (x - y)))
 have h2:=List.IsPrefix.length_le (armTo_is p x (walkN p (p - 1) (x - y)))
 rw [walkN_yes (fine_one.2 ⟨hp,by omega,by omega⟩),walkL_len] at h2
 unfold armP armL
 rw [walkN_yes (fine_one.2 ⟨hp,by omega,by omega⟩)] at h1 ⊢
 omega
theorem ArmV.places {lo:Nat} {p x y:Int} {A:Option Addr} {k c:Nat} {v:Value} {w:World} (h:ArmV lo p x y A k c v w) (hp:p∈prm) (hx:0≤x∧x<p) (hy:0≤y∧y<p) (hL:Laid w):PlacesT lo (armP p x y) v w:=by
 obtain ⟨gl,ga,gb,rfl,⟨h1,h2,h3⟩,bl,ba,bb⟩:=h
 have hpb:=prm_bounds hp
 obtain ⟨P,rfl⟩:∃ P:Nat,p=(P:Int):=⟨p.toNat,by omega⟩
 refine ⟨_,_,rfl,enter_arm1,fun _=>by kernel_rfl,fun n hn l J Jx W o₀ hW ho₀ hJ hJx hr1 hr2 hY h0=>?_⟩
 exact arm1_in n hn l gl ga gb lo w.heap.size P (P - 1) x y A k c (by omega) hp hx hy W (hL.next hW) ⟨h1,bl.lt⟩ ⟨h2,ba.lt⟩ ⟨h3,bb.lt⟩ hW.size J Jx o₀ ho₀ hJ hJx hr1 hr2
  (fun pre e o W1 hj hok hs=>hY pre e o W1 hj hok.2 (by have h4:=List.IsPrefix.length_le hok.2;have h5:=armP_len (x:=x) (y:=y) hp;unfold armP at h5;rw [List.length_append] at h4;simp only [List.length_cons,List.length_nil] at h4;omega) hs) (bl.below hW bl.lt) (ba.below hW ba.lt) (bb.below hW bb.lt) h0
theorem ArmV.far {lo:Nat} {p x y:Int} {A:Option Addr} {k c:Nat} {v:Value} {w:World} (h:ArmV lo p x y A k c v w) {q:Addr} (hq:q.block<lo) (u:Value):ArmV lo p x y A k c v (w.setCell q u):=by
 obtain ⟨gl,ga,gb,rfl,⟨h1,h2,h3⟩,bl,ba,bb⟩:=h
 exact ⟨gl,ga,gb,rfl,⟨h1,h2,h3⟩,Blk.far bl (by omega) _,Blk.far ba (by omega) _,Blk.far bb (by omega) _⟩
theorem ArmV.less {lo lo':Nat} {p x y:Int} {A:Option Addr} {k c:Nat} {v:Value} {w:World} (h:ArmV lo p x y A k c v w) (hq:lo'≤lo):ArmV lo' p x y A k c v w:=by
 obtain ⟨gl,ga,gb,rfl,⟨h1,h2,h3⟩,bl,ba,bb⟩:=h
 exact ⟨gl,ga,gb,rfl,⟨by omega,by omega,by omega⟩,bl,ba,bb⟩
theorem enter_Arm1:∀ args W,(callFunc 52 args).run Tryz.prog W = .ok (.enter 52 args) W:=enters_of Tryz.func52 (by kernel_rfl) rfl
theorem arm_any (p x y:Int) (A:Option Addr) (k c:Nat) (w:World) :
 Calls Tryz.prog 54 #[.agg #[.int .i64 2,.int .i64 p,.slice A k c],.int .i64 x,.int .i64 y] w fun e w'=>∃ v,e = .returned v∧ArmV w.heap.size p x y A k c v w'∧Below w.heap.size w w':=by
 obtain ⟨W2,hW2⟩:∃ z,((w.alloc (.cells #[.int .i64 2,.int .i64 p,.slice A k c] 90)).alloc (.cells #[.int .i64 x] 3)).alloc (.cells #[.int .i64 y] 3)=z:=⟨_,rfl⟩
 have hV:Below w.heap.size w W2∧Blk W2 w.heap.size 90 #[.int .i64 2,.int .i64 p,.slice A k c]∧Blk W2 (w.heap.size+1) 3 #[.int .i64 x]∧Blk W2 (w.heap.size+1+1) 3 #[.int .i64 y]:=by
  rw [←hW2]
  exact ⟨(below_two w _ _).alloc (by simp;omega) _,((Blk.new w _ _).alloc _).alloc _,(Blk.second w _ _ _).alloc _,Rg.Blk.at_ (Blk.new _ _ _) (by simp)⟩
 have hmf:∀ (fn:Fn) (first cap:Array Value) (w:World),(Instr.makeFunc fn first cap).run Tryz.prog w = .ok (.func fn first cap) w:=fun _ _ _ _=>rfl
 go_enter Tryz.func54,Tryz.ntmps54
 go_wp2
 (try rw [hW2])
 go_ret
 exact ⟨_,rfl,⟨_,_,_,rfl,⟨by omega,by omega,by omega⟩,hV.2.1,hV.2.2.1,hV.2.2.2⟩,hV.1⟩
theorem good_mm {p x y:Int} (hx:0≤x∧x<p) (hy:0≤y∧y<p) (hxy:x≠y):∀ i,i < [min x y,max x y].length→Pr.GoodL p [min x y,max x y] i:=by
 intro i hi
 have hi2:i=0∨i=1:=by simp at hi;omega
 rcases hi2 with rfl | rfl
 · exact ⟨by show 0≤min x y∧min x y<p;omega,.inl rfl⟩
 · exact ⟨by show 0≤max x y∧max x y<p;omega,.inr (by show min x y<max x y;omega)⟩
theorem Arm_yes (p x y:Int) (hp:p∈prm) (hxy:x≠y) (hx:0≤x∧x<p) (hy:0≤y∧y<p) (w:World) (hL:Laid w) :
 Calls Tryz.prog 17 #[.int .i64 p,.int .i64 x,.int .i64 y] w fun e w'=>∃ v,e = .returned v∧PlacesT w.heap.size (armP p x y) v w'∧Below w.heap.size w w':=by
 obtain ⟨W2,hW2⟩:∃ zz,((w.alloc (.cells #[.int .i64 p] 3)).alloc (.cells #[.int .i64 x] 3)).alloc (.cells #[.int .i64 y] 3)=zz:=⟨_,rfl⟩
 have b0:Blk W2 (w.heap.size) 3 #[.int .i64 p]:=by rw [←hW2];exact ((Blk.new w _ _).alloc _).alloc _
 have b1:Blk W2 (w.heap.size+1) 3 #[.int .i64 x]:=by rw [←hW2];exact (Blk.second w _ _ _).alloc _
 have b2:Blk W2 (w.heap.size+1+1) 3 #[.int .i64 y]:=by rw [←hW2];exact Rg.Blk.at_ (Blk.new _ _ _) (by simp)
 have hBW:Below w.heap.size w W2:=by rw [←hW2];exact ((below_two w _ _)).alloc (by simp;omega) _
 obtain ⟨W2b,hW2b⟩:∃ zz,w.heap.size=zz:=⟨_,rfl⟩
 obtain ⟨W2c,hW2c⟩:∃ zz,w.heap.size+1=zz:=⟨_,rfl⟩
 obtain ⟨W2d,hW2d⟩:∃ zz,w.heap.size+1+1=zz:=⟨_,rfl⟩
 have HA:=Lib.hid (ans_Q_yes 52 #[.pointer (some ⟨w.heap.size,0,none⟩),.pointer (some ⟨w.heap.size+1,0,none⟩),.pointer (some ⟨w.heap.size+1+1,0,none⟩)] W2 (fun u W=>∃ A k c,ArmV (W2.heap.size+1) p x y A k c u W) (enter_Arm1 _) (fun U hU bU=>by
  have hBU:=below_in hBW hU
  have hszU:W2.heap.size+1≤U.heap.size:=bU.lt
  have HLO:=Lib.hid (fun (V:World) (g:Nat) (hV:Below U.heap.size U V) (bE:Blk V g 3 #[.int .i64 (min x y),.int .i64 (max x y)])=>losing_yes p hp g [min x y,max x y] (by simp) (good_mm hx hy hxy) V (hL.next (below_in hBU hV)) bE.lt (two_cells bE))
  have HSS:Hid (∀ V,Below U.heap.size U V→(fun U:World=>U.cell? ⟨W2b,0,none⟩=some (.int .i64 p)∧U.cell? ⟨W2c,0,none⟩=some (.int .i64 x)∧U.cell? ⟨W2d,0,none⟩=some (.int .i64 y)) V):=by
   rw [←hW2b,←hW2c,←hW2d]
   exact fun V hV=>⟨((b0.below hU b0.lt).below hV (Nat.lt_of_lt_of_le b0.lt hU.size)).one,((b1.below hU b1.lt).below hV (Nat.lt_of_lt_of_le b1.lt hU.size)).one,((b2.below hU b2.lt).below hV (Nat.lt_of_lt_of_le b2.lt hU.size)).one⟩
  have hBx:=(Below.refl U.heap.size U).drew
  rw [hW2d,hW2c,hW2b]
  clear b0 b1 b2 hW2 hL hW2d hW2c hW2b bU hp hx hy hxy
  refine (callsIn_wide (n:=9)).1 ?_
  refine callsIn_of_wp_marks Tryz.func52 rfl trivial ?_ rfl
  simp only [Tryz.ntmps52,List.size_toArray,List.length_cons,List.length_nil,Nat.reduceAdd,Nat.reduceSub,Array.replicate_succ,Array.replicate_zero,List.push_toArray,List.append_toArray,List.nil_append,List.cons_append]
  gi_wp2_with fail
  have hS:(fun U:World=>U.cell? ⟨W2b,0,none⟩=some (.int .i64 p)∧U.cell? ⟨W2c,0,none⟩=some (.int .i64 x)∧U.cell? ⟨W2d,0,none⟩=some (.int .i64 y)) U.drew:=HSS.out _ hBx
  refine wpIn_mono (region_HF (Q:=NoPanic _) (S:=(fun U:World=>U.cell? ⟨W2b,0,none⟩=some (.int .i64 p)∧U.cell? ⟨W2c,0,none⟩=some (.int .i64 x)∧U.cell? ⟨W2d,0,none⟩=some (.int .i64 y))) (by kernel_rfl) ?_) NoPanic.imp
  refine tkF (i:=0) (d:=4) (v:=.int .i64 p) (s:=hS) (c:=?_)
  simp only [ud9]
  refine tkF (i:=1) (d:=5) (v:=.int .i64 x) (s:=hS) (c:=?_)
  simp only [ud9]
  refine tkF (i:=2) (d:=6) (v:=.int .i64 y) (s:=hS) (c:=?_)
  simp only [ud9]
  refine tkF (i:=4) (d:=8) (v:=.int .i64 x) (s:=hS) (c:=?_)
  simp only [ud9]
  refine tkF (i:=5) (d:=9) (v:=.int .i64 y) (s:=hS) (c:=?_)
  simp only [ud9]
  refine tkF (i:=9) (d:=13) (v:=.int .i64 x) (s:=hS) (c:=?_)
  simp only [ud9]
  refine tkF (i:=10) (d:=14) (v:=.int .i64 y) (s:=hS) (c:=?_)
  simp only [ud9]
  refine Rg.anyHF_both (i:=3) (j:=6) (by kernel_rfl) rfl rfl (by rfl) (by rfl) ?c1a ?c1b
  case c1a =>
   gi_wp2
   try (refine ⟨hS,?_⟩)
   refine oneF (i:=6) (c:=?_)
   gi_wp2
   try (refine ⟨hS,?_⟩)
   refine oneF (i:=7) (c:=?_)
   have hgl_g3:=hBx.size
   have hB:Below U.drew.heap.size U.drew (U.drew.alloc (.cells #[.int .i64 (min x y),.int .i64 (max x y)] 3)):=below_one U.drew _
   have bE:Blk (U.drew.alloc (.cells #[.int .i64 (min x y),.int .i64 (max x y)] 3)) U.drew.heap.size 3 #[.int .i64 (min x y),.int .i64 (max x y)]:=Blk.new U.drew _ _
   obtain ⟨v2,he_v2⟩:∃ zz,(U.drew.alloc (.cells #[.int .i64 (min x y),.int .i64 (max x y)] 3))=zz:=⟨_,rfl⟩
   obtain ⟨g3,hg_g3⟩:∃ zz,U.drew.heap.size=zz:=⟨_,rfl⟩
   rw [he_v2] at hB bE
   rw [hg_g3] at bE
   replace hBx:=below_in hBx hB
   clear hS
   have hS:(fun U:World=>U.cell? ⟨W2b,0,none⟩=some (.int .i64 p)∧U.cell? ⟨W2c,0,none⟩=some (.int .i64 x)∧U.cell? ⟨W2d,0,none⟩=some (.int .i64 y)) v2:=HSS.out _ hBx
   gi_wp2
   (try rw [hg_g3]);(try rw [he_v2])
   try (refine ⟨hS,?_⟩)
   clear hB he_v2 hg_g3
   refine oneF (i:=8) (c:=?_)
   gi_wp2_with fail
   refine ⟨trivial,(callsIn_wide.2 (HLO.out _ _ hBx bE)).mono ?_⟩
   rintro e v4 ⟨rfl,hB⟩
   replace bE:=bE.below hB bE.lt
   replace hBx:=below_in hBx hB
   clear hS
   have hS:(fun U:World=>U.cell? ⟨W2b,0,none⟩=some (.int .i64 p)∧U.cell? ⟨W2c,0,none⟩=some (.int .i64 x)∧U.cell? ⟨W2d,0,none⟩=some (.int .i64 y)) v4:=HSS.out _ hBx
   clear hB
   gi_wp2
   try (refine ⟨hS,?_⟩)
   refine oneF (i:=11) (c:=?_)
   gi_wp2_with fail
   refine ⟨trivial,(callsIn_wide.2 (arm_any p x y _ _ _ _)).mono ?_⟩
   rintro e v5 ⟨v,rfl,hAV,hB⟩
   have hge:=hBx.size
   obtain ⟨al,aa,ab,rfl,_⟩:=id hAV
   replace bE:=bE.below hB bE.lt
   replace hBx:=below_in hBx hB
   clear hS
   have hS:(fun U:World=>U.cell? ⟨W2b,0,none⟩=some (.int .i64 p)∧U.cell? ⟨W2c,0,none⟩=some (.int .i64 x)∧U.cell? ⟨W2d,0,none⟩=some (.int .i64 y)) v5:=HSS.out _ hBx
   clear hB
   gi_wp2
   try (refine ⟨hS,?_⟩)
   refine oneF (i:=12) (c:=?_)
   gi_wp2
   refine anyHF_done (by kernel_rfl) ?_ _
   refine NoPanic.normal ?_
   clear hS
   gi_wp2_with fail
   exact ⟨.func (.func 101) #[] #[.pointer (some ⟨al,0,none⟩),.pointer (some ⟨aa,0,none⟩),.pointer (some ⟨ab,0,none⟩)],by simp [results,Tryz.results52,go_sem],_,rfl,⟨_,_,_,hAV.less (Nat.le_trans hszU hge)⟩,hBx⟩
  case c1b =>
   gi_wp2
   try (refine ⟨hS,?_⟩)
   refine oneF (i:=3) (c:=?_)
   gi_wp2
   try (refine ⟨hS,?_⟩)
   refine oneF (i:=7) (c:=?_)
   have hgl_g7:=hBx.size
   have hB:Below U.drew.heap.size U.drew (U.drew.alloc (.cells #[.int .i64 (min x y),.int .i64 (max x y)] 3)):=below_one U.drew _
   have bE:Blk (U.drew.alloc (.cells #[.int .i64 (min x y),.int .i64 (max x y)] 3)) U.drew.heap.size 3 #[.int .i64 (min x y),.int .i64 (max x y)]:=Blk.new U.drew _ _
   obtain ⟨v6,he_v6⟩:∃ zz,(U.drew.alloc (.cells #[.int .i64 (min x y),.int .i64 (max x y)] 3))=zz:=⟨_,rfl⟩
   obtain ⟨g7,hg_g7⟩:∃ zz,U.drew.heap.size=zz:=⟨_,rfl⟩
   rw [he_v6] at hB bE
   rw [hg_g7] at bE
   replace hBx:=below_in hBx hB
   clear hS
   have hS:(fun U:World=>U.cell? ⟨W2b,0,none⟩=some (.int .i64 p)∧U.cell? ⟨W2c,0,none⟩=some (.int .i64 x)∧U.cell? ⟨W2d,0,none⟩=some (.int .i64 y)) v6:=HSS.out _ hBx
   gi_wp2
   (try rw [hg_g7]);(try rw [he_v6])
   try (refine ⟨hS,?_⟩)
   clear hB he_v6 hg_g7
   refine oneF (i:=8) (c:=?_)
   gi_wp2_with fail
   refine ⟨trivial,(callsIn_wide.2 (HLO.out _ _ hBx bE)).mono ?_⟩
   rintro e v8 ⟨rfl,hB⟩
   replace bE:=bE.below hB bE.lt
   replace hBx:=below_in hBx hB
   clear hS
   have hS:(fun U:World=>U.cell? ⟨W2b,0,none⟩=some (.int .i64 p)∧U.cell? ⟨W2c,0,none⟩=some (.int .i64 x)∧U.cell? ⟨W2d,0,none⟩=some (.int .i64 y)) v8:=HSS.out _ hBx
   clear hB
   gi_wp2
   try (refine ⟨hS,?_⟩)
   refine oneF (i:=11) (c:=?_)
   gi_wp2_with fail
   refine ⟨trivial,(callsIn_wide.2 (arm_any p x y _ _ _ _)).mono ?_⟩
   rintro e v9 ⟨v,rfl,hAV,hB⟩
   have hge:=hBx.size
   obtain ⟨al,aa,ab,rfl,_⟩:=id hAV
   replace bE:=bE.below hB bE.lt
   replace hBx:=below_in hBx hB
   clear hS
   have hS:(fun U:World=>U.cell? ⟨W2b,0,none⟩=some (.int .i64 p)∧U.cell? ⟨W2c,0,none⟩=some (.int .i64 x)∧U.cell? ⟨W2d,0,none⟩=some (.int .i64 y)) v9:=HSS.out _ hBx
   clear hB
   gi_wp2
   try (refine ⟨hS,?_⟩)
   refine oneF (i:=12) (c:=?_)
   gi_wp2
   refine anyHF_done (by kernel_rfl) ?_ _
   refine NoPanic.normal ?_
   clear hS
   gi_wp2_with fail
   exact ⟨.func (.func 101) #[] #[.pointer (some ⟨al,0,none⟩),.pointer (some ⟨aa,0,none⟩),.pointer (some ⟨ab,0,none⟩)],by simp [results,Tryz.results52,go_sem],_,rfl,⟨_,_,_,hAV.less (Nat.le_trans hszU hge)⟩,hBx⟩))
 clear b0 b1 b2 hW2d hW2c hW2b
 have HPX:=Lib.hid (And.intro hp (And.intro hx hy))
 have HLW:=Lib.hid (fun (U:World) (hU:Below w.heap.size w U)=>hL.next hU)
 clear hp hx hy hxy hL
 go_enter Tryz.func17,Tryz.ntmps17
 have hmf:∀ (fn:Fn) (first cap:Array Value) (w:World),(Instr.makeFunc fn first cap).run Tryz.prog w = .ok (.func fn first cap) w:=fun _ _ _ _=>rfl
 go_wp2_with (go_at_call 51;refine HA.out.mono ?_;rintro e w1 ⟨u,W,rfl,⟨A,k,c,hAV⟩,bE,rfl,hB1⟩;obtain ⟨al,aa,ab,rfl,_⟩:=id hAV)
 go_ret
 have hBq:=below_in hBW hB1
 exact ⟨_,rfl,((hAV.far (q:=⟨W2.heap.size,0,none⟩) (by show W2.heap.size<W2.heap.size+1;omega) _).less (by have:=hBW.size;omega)).places HPX.out.1 HPX.out.2.1 HPX.out.2.2 (HLW.out _ hBq),hBq⟩
end Go.Proofs.YtcchjofjpflbhaaGreatDoor.T

namespace Go.Proofs.YtcchjofjpflbhaaGreatDoor.T
open Go.RowKit Go.Shelf Go.Maps Go.Proofs.YtcchjofjpflbhaaGreatDoor.C Go.Proofs.YtcchjofjpflbhaaGreatDoor.E Go.Proofs.YtcchjofjpflbhaaGreatDoor.Ch
attribute [local go_sem] Oper.semAt_some

theorem num_off {W:World} {g b o:Nat} {t:TypeId} {y:Int} {u:Value} (hb:Blk W g t #[.int .i64 y]) (h:W.cell? ⟨b,o,none⟩=some u) (hu:u≠.int .i64 y):b≠g:=fun e=>by
 subst e
 rw [hb.cell o] at h
 rcases o with _ | o
 · simp at h;exact hu h.symm
 · simp at h
theorem bytes_num {B:Nat} {W:World} {g:Nat} {t:TypeId} {y:Int} {v x:Value} {l:List UInt8} (h:Bytes B W v l) (hb:Blk W g t #[.int .i64 y]):Bytes B (W.setCell ⟨g,0,none⟩ x) v l:=by
 obtain ⟨A,cap,e,hc,hA⟩:=h
 refine ⟨A,cap,e,hc,fun hp=>?_⟩
 obtain ⟨b,off,e2,hb1,hcell⟩:=hA hp
 have hne:=num_off hb (hcell 0 hp) (by intro e;injection e with e;cases e)
 exact ⟨b,off,e2,hb1,fun j hj=>(World.cell?_of_block (Below.heap_setCell W ⟨g,0,none⟩ x b hne)).trans (hcell j hj)⟩
theorem many_num {B:Nat} {W:World} {g:Nat} {t:TypeId} {y:Int} {v x:Value} {ls:List (List UInt8)} (h:Many B W v ls) (hb:Blk W g t #[.int .i64 y]):Many B (W.setCell ⟨g,0,none⟩ x) v ls:=by
 obtain ⟨A,cap,e,hc,hA⟩:=h
 refine ⟨A,cap,e,hc,fun hp=>?_⟩
 obtain ⟨b,off,e2,hb1,hcell⟩:=hA hp
 obtain ⟨u0,h0,m0⟩:=hcell 0 hp
 have hne:=num_off hb h0 (by obtain ⟨_,_,e,_⟩:=m0;rw [e];intro e;cases e)
 refine ⟨b,off,e2,hb1,fun j hj=>?_⟩
 obtain ⟨u,h1,h2⟩:=hcell j hj
 exact ⟨u,(World.cell?_of_block (Below.heap_setCell W ⟨g,0,none⟩ x b hne)).trans h1,bytes_num h2 hb⟩
theorem cols_num {B:Nat} {W:World} {g:Nat} {t:TypeId} {y:Int} {v x:Value} {css:List (List (List UInt8))} (h:Cols B W v css) (hb:Blk W g t #[.int .i64 y]):Cols B (W.setCell ⟨g,0,none⟩ x) v css:=by
 obtain ⟨A,cap,e,hc,hA⟩:=h
 refine ⟨A,cap,e,hc,fun hp=>?_⟩
 obtain ⟨b,off,e2,hb1,hcell⟩:=hA hp
 obtain ⟨u0,h0,m0⟩:=hcell 0 hp
 have hne:=num_off hb h0 (by obtain ⟨_,_,e,_⟩:=m0;rw [e];intro e;cases e)
 refine ⟨b,off,e2,hb1,fun j hj=>?_⟩
 obtain ⟨u,h1,h2⟩:=hcell j hj
 exact ⟨u,(World.cell?_of_block (Below.heap_setCell W ⟨g,0,none⟩ x b hne)).trans h1,many_num h2 hb⟩
theorem lost_good {P Q n:Nat} (d:Rg.Dims P Q n) {L:List Int} {css:List (List (List UInt8))} (hgood:∀ i,i<css.length→(i:Int)∉L→GoodC Q n (css[i]?.getD [])):∀ c,c<css.length→GoodC Q n ((lostC L Q n css)[c]?.getD []):=fun c hc=>by
 rw [lostC_at L Q n css hc]
 split
 · exact noC_good d.h1 d.h64
 · rename_i h
   exact hgood c hc h
end Go.Proofs.YtcchjofjpflbhaaGreatDoor.T

namespace Go.Proofs.YtcchjofjpflbhaaGreatDoor.T
open Go.RowKit Go.Shelf Go.Maps Go.Proofs.YtcchjofjpflbhaaGreatDoor.C Go.Proofs.YtcchjofjpflbhaaGreatDoor.E Go.Proofs.YtcchjofjpflbhaaGreatDoor.Ch
attribute [local go_sem] Oper.semAt_some

theorem dimsW:Rg.Dims 3 2 1:=⟨rfl,by decide,by decide,by decide⟩
theorem good_W (x y:UInt8):GoodC 2 1 [[x],[y]]:=⟨rfl,fun k hk=>(by
 have hk2:k=0∨k=1:=by omega
 rcases hk2 with rfl | rfl <;> exact ⟨⟨by show 1≤1;omega,by show 1≤64;omega⟩,rfl⟩)⟩
theorem byte_W {W:World} {g:Nat} {x:UInt8} (h:Blk W g 5 #[.int .u8 (x.toNat:Int)]):Bytes W.heap.size W (.slice (some ⟨g,0,none⟩) 1 1) [x] :=
 ⟨_,1,rfl,Nat.le_refl _,fun _=>⟨g,0,rfl,h.lt,fun j hj=>by obtain rfl:j=0:=(by have:j<1:=hj;omega);exact h.cell _⟩⟩
theorem many_W {W:World} {g ga gb:Nat} {x y:UInt8} (h:Blk W g 64 #[.slice (some ⟨ga,0,none⟩) 1 1,.slice (some ⟨gb,0,none⟩) 1 1]) (ha:Blk W ga 5 #[.int .u8 (x.toNat:Int)]) (hb:Blk W gb 5 #[.int .u8 (y.toNat:Int)]):Many W.heap.size W (.slice (some ⟨g,0,none⟩) 2 2) [[x],[y]]:=many2 h (byte_W ha) (byte_W hb) h.lt
end Go.Proofs.YtcchjofjpflbhaaGreatDoor.T

namespace Go.Proofs.YtcchjofjpflbhaaGreatDoor.T
open Go.RowKit Go.Shelf Go.Maps Go.Proofs.YtcchjofjpflbhaaGreatDoor.C Go.Proofs.YtcchjofjpflbhaaGreatDoor.E Go.Proofs.YtcchjofjpflbhaaGreatDoor.Ch
attribute [local go_sem] Oper.semAt_some

def xk (P:Nat) (c:Int) (k:Nat):Int:=((P:Int) - 1+((k:Int)+1) * c) % (P:Int)
theorem xk_rows {P Q:Nat} (hQ:P=Q+1) (hp:(P:Int)∈prm) {a b:Int} (hab:(a - b) % (P:Int)≠0):Rg.rowsF (P:Int) (walkN (P:Int) ((P:Int) - 1) (a - b))=(List.range Q).map (xk P (a - b)):=Rg.rows_are hQ hp hab
theorem xk_in {P Q:Nat} (hQ:P=Q+1) (hp:(P:Int)∈prm) {a b:Int} (hab:(a - b) % (P:Int)≠0) {k:Nat} (hk:k<Q):0≤xk P (a - b) k∧xk P (a - b) k<(P:Int) - 1:=by
 have hpb:=prm_bounds hp
 have hm:xk P (a - b) k∈Rg.rowsF (P:Int) (walkN (P:Int) ((P:Int) - 1) (a - b)):=by rw [xk_rows hQ hp hab];exact List.mem_map.2 ⟨k,List.mem_range.2 hk,rfl⟩
 unfold Rg.rowsF at hm
 have hne2:xk P (a - b) k≠(P:Int) - 1:=by simpa using (List.mem_filter.1 hm).2
 have h0:0≤xk P (a - b) k:=Int.emod_nonneg _ (by omega)
 have h1:xk P (a - b) k<(P:Int):=Int.emod_lt_of_pos _ (by omega)
 omega
end Go.Proofs.YtcchjofjpflbhaaGreatDoor.T

namespace Go.Proofs.YtcchjofjpflbhaaGreatDoor.T
open Go.RowKit Go.Shelf Go.Maps Go.Proofs.YtcchjofjpflbhaaGreatDoor.C Go.Proofs.YtcchjofjpflbhaaGreatDoor.E Go.Proofs.YtcchjofjpflbhaaGreatDoor.Ch
attribute [local go_sem] Oper.semAt_some

def zk (P:Nat) (c:Int) (k:Nat):Int:=((P:Int) - 1+(k:Int) * c) % (P:Int)
theorem zk_zero {P Q:Nat} (hQ:P=Q+1) (c:Int):zk P c 0=(P:Int) - 1:=by
 unfold zk
 rw [show ((0:Nat):Int) * c=0 by simp,Int.add_zero]
 exact Int.emod_eq_of_lt (by omega) (by omega)
theorem zk_succ (P:Nat) (c:Int) (k:Nat):zk P c (k+1)=xk P c k:=by unfold zk xk;rw [show ((k+1:Nat):Int)=(k:Int)+1 by omega]
theorem zk_next (P:Nat) (x y:Int) (k:Nat):((x+zk P (x - y) k) % (P:Int) - y) % (P:Int)=zk P (x - y) (k+1):=by
 unfold zk
 rw [Int.sub_emod,Int.emod_emod,←Int.sub_emod,Int.sub_emod,Int.add_emod x,Int.emod_emod,←Int.add_emod,←Int.sub_emod]
 congr 1
 rw [show ((k+1:Nat):Int)=(k:Int)+1 by omega,Int.add_mul,Int.one_mul]
 omega
theorem zk_rows {P Q:Nat} (hQ:P=Q+1) (hp:(P:Int)∈prm) (c:Int):walkN (P:Int) ((P:Int) - 1) c=(List.range P).map (zk P c):=by
 have hpb:=prm_bounds hp
 rw [walkN_yes (fine_one.2 ⟨hp,by omega,by omega⟩)]
 unfold walkL
 rw [Int.toNat_natCast]
 refine List.map_congr_left fun k _=>?_
 unfold walkAt zk
 exact Rg.mul_mod P _ _ _
def ak (P:Nat) (x y:Int) (k:Nat):List (Int×Int):=armOut ((P:Int) - 1) x y ((List.range (k+1)).map (zk P (x - y)))
theorem ak_zero {P Q:Nat} (hQ:P=Q+1) (x y:Int):ak P x y 0 = []:=by
 unfold ak
 rw [show List.range (0+1) = [0] from rfl,List.map_cons,List.map_nil,zk_zero hQ]
 unfold armOut armTwo
 simp
theorem ak_next {P Q:Nat} (hQ:P=Q+1) (hp:(P:Int)∈prm) {x y:Int} (hab:(x - y) % (P:Int)≠0) {k:Nat} (hk:k<Q):ak P x y (k+1)=ak P x y k ++ [(y,zk P (x - y) (k+1)),(x,zk P (x - y) (k+1))]:=by
 unfold ak
 rw [List.range_succ,List.map_append,List.map_cons,List.map_nil,armOut_snoc]
 congr 1
 have h:=xk_in hQ hp hab hk
 unfold armTwo
 rw [if_neg (by rw [zk_succ];omega)]
theorem ak_stop {P Q:Nat} (hQ:P=Q+1) (hp:(P:Int)∈prm) {x y:Int} {k:Nat} (hk:k≤Q) (hne:∀ j,j<k→(x+zk P (x - y) j) % (P:Int)≠(P:Int) - 1) (hz:(x+zk P (x - y) k) % (P:Int)=(P:Int) - 1):ak P x y k=armP (P:Int) x y:=by
 unfold ak armP armL
 rw [zk_rows hQ hp,armTo_stop (pre:=(List.range k).map (zk P (x - y))) (r:=zk P (x - y) k) (P:Int) x (fun r hr=>by obtain ⟨j,hj,rfl⟩:=List.mem_map.1 hr;exact hne j (List.mem_range.1 hj)) hz ?_]
 · rw [List.range_succ,List.map_append,List.map_cons,List.map_nil]
 · rw [show (List.range k).map (zk P (x - y)) ++ [zk P (x - y) k]=(List.range (k+1)).map (zk P (x - y)) by rw [List.range_succ,List.map_append,List.map_cons,List.map_nil]]
   obtain ⟨t,ht⟩:∃ t,P=(k+1)+t:=⟨P - (k+1),by omega⟩
   rw [show List.range P=List.range (k+1) ++ (List.range t).map (fun z=>k+1+z) by rw [ht];exact List.range_add ..,List.map_append]
   exact List.prefix_append _ _
theorem ak_all {P Q:Nat} (hQ:P=Q+1) (hp:(P:Int)∈prm) {x y:Int} (hne:∀ j,j<Q+1→(x+zk P (x - y) j) % (P:Int)≠(P:Int) - 1):ak P x y Q=armP (P:Int) x y:=by
 unfold ak armP armL
 rw [zk_rows hQ hp,armTo_all _ _ _ (fun r hr=>by obtain ⟨j,hj,rfl⟩:=List.mem_map.1 hr;exact hne j (by have:=List.mem_range.1 hj;omega)),hQ]
end Go.Proofs.YtcchjofjpflbhaaGreatDoor.T

namespace Go.Proofs.YtcchjofjpflbhaaGreatDoor.T
open Go.RowKit Go.Shelf Go.Maps Go.Proofs.YtcchjofjpflbhaaGreatDoor.C Go.Proofs.YtcchjofjpflbhaaGreatDoor.E Go.Proofs.YtcchjofjpflbhaaGreatDoor.Ch
attribute [local go_sem] Oper.semAt_some

theorem laid_put {W0 X:World} {l:Nat} (hL:Laid W0) (hl:W0.heap.size≤l) (ob:Obj) (h:Laid X):Laid (X.putObj l ob) :=
 laid_grownG hL h (grownBy_putObj' X l ob) (fun r e=>by injection e with e;omega)
theorem wpListIn_pushA {F:Fence} {nF:Nat} (w:World) {ops:Array Oper} {rest:List Oper} {o:Oper} {a:Act} {QQ:Exit→Act→World→Prop} (hgd:o.guard=none) (s x:Operand)
 (ho:o.op = .call { callee:=.builtin .append,args:=#[s,x],argTypes:=#[23,23] })
 (base:Nat) (v:Value) (l:List (Int×Int)) (hs:a.eval s=v) (hown:OwnA w base v l) (g:Nat) (p1 p2:Int) (hx:a.eval x = .slice (some ⟨g,0,none⟩) 1 1) (hu:Blk w g 31 #[.int .i64 p1,.int .i64 p2])
 (hlen:l.length≤1000000) (hbase:base≤w.heap.size)
 (hK:∀ v' w',OwnA w' base v' (l ++ [(p1,p2)])→w.grownBy w' v.ownBlock→(v'.ownBlock=v.ownBlock∨v'.ownBlock=some w.heap.size)→wpListIn F nF Tryz.prog ops QQ rest (a.put o.dst v') w'):wpListIn F nF Tryz.prog ops QQ (o :: rest) a w :=
 wpListIn_plain hgd fun K hK2=>opIn_pushA w s x ho base v l hs hown g p1 p2 hx hu hlen hbase fun v' w' h1 h2 h3=>hK2 _ _ (hK v' w' h1 h2 h3)
theorem append_any (lo:Nat) (L:List (Int×Int)) (hl:L.length≤1000) (v:Value) (W:World) (hL:Laid W) (hlo:lo≤W.heap.size) (hv:PlacesT lo L v W) :
 Calls Tryz.prog 208 #[.slice none 0 0,v] W fun e w'=>∃ u,e = .returned u∧OwnA w' W.heap.size u L∧Below W.heap.size W w':=by
 obtain ⟨gf,lb,rfl,eg,_,hgo⟩:=hv
 obtain ⟨w7,hw7⟩:∃ z,W.alloc (.cells #[.slice none 0 0] 23)=z:=⟨_,rfl⟩
 obtain ⟨g1,hg1⟩:∃ z,W.heap.size=z:=⟨_,rfl⟩
 have b1:Blk w7 g1 23 #[.slice none 0 0]:=by rw [←hw7,←hg1];exact Blk.new W _ _
 have hB7:Below W.heap.size W w7:=by rw [←hw7];exact below_one W _
 have s7:w7.heap.size=W.heap.size+1:=by rw [←hw7];simp
 have hLe:=Lib.hid hl
 have S7:=Lib.hid s7
 have HG1:=Lib.hid hg1
 have HLW:=Lib.hid hL
 clear hl s7 hL
 refine (callsIn_wide (n:=9)).1 ?_
 refine callsIn_of_wp_marks Tryz.func208 rfl trivial ?_ rfl
 simp only [Tryz.ntmps208,List.size_toArray,List.length_cons,List.length_nil,Nat.reduceAdd,Nat.reduceSub,Array.replicate_succ,Array.replicate_zero,List.push_toArray,List.append_toArray,List.nil_append,List.cons_append]
 gi_wp2_with fail
 (try rw [hg1]);(try rw [hw7])
 refine wpIn_rangeBoxT rfl (by omega) (gf:=gf) (lb:=lb) rfl trivial eg (hgo _ (by omega)) (fun h h'=>h.trans h') (fun X l o hl _ _=>⟨Keep.putFar X (by have:=S7.out;omega) o,laid_put HLW.out (by have:=S7.out;omega) o⟩) hB7 (fun _=>rfl)
  (fun pre oX X=>∃ v,Blk X g1 23 #[v]∧OwnA X (W.heap.size+1) v pre∧(oX=fun b=>v.ownBlock=some b)∧Below W.heap.size W X∧w7.heap.size≤X.heap.size)
  (fun _ _ _ _=>False) ?hI (fun c s o X Y row hs _ _=>hs) (fun b=>(Value.slice none 0 0).ownBlock=some b) (fun b e=>by cases e) ⟨_,b1,ownA_nil _ _,rfl,hB7,Nat.le_refl _⟩
  (fun _=>True) (fun _ _ _ _=>trivial) 31 (fun x:Int×Int=>#[.int .i64 x.1,.int .i64 x.2]) (fun x Bx=>{ tmps:=#[.slice none 0 0,.func (.func gf) #[] lb,.pointer (some ⟨g1,0,none⟩),undef,.slice none 0 0,.pointer (some ⟨Bx,0,none⟩),.func (.func gf) #[] lb,.agg #[.int .i64 x.1,.int .i64 x.2],undef,undef,undef,undef,undef],defers:=[] })
  ?assign (fun pre o X h=>by obtain ⟨v,_,ho,rfl,_⟩:=h;exact ho.rowT) (fun c pre o X h=>h.elim) ?body ?done (fun D c pre o X _ _ _ h=>h.elim)
 case hI =>
  rintro s o X Y row ⟨v,hb1,ho,rfl,hBX,hsz⟩ hgr hr
  have s7:=S7.out
  have hg:=HG1.out
  have hne:∀ g,g<w7.heap.size→some g≠row:=fun g hg e=>by have:=(hr g e.symm).1;omega
  refine ⟨v,hb1.grown hgr (hne _ (by omega)),ho.kept hgr ?_,rfl,hBX.grown hgr hBX.size (fun r e=>by have:=(hr r e).1;omega),Nat.le_trans hsz hgr.size⟩
  cases hrow:row with
  | none=>exact (Option.eq_none_or_eq_some v.ownBlock).imp id (fun ⟨x,hx⟩=>by rw [hx];simp)
  | some r=>exact .inr (fun e=>(hr r hrow).2 e)
 case assign =>
  rintro l' pre x o X KK hsz hol ⟨v,hb1,ho,rfl,hBX,hge⟩ _ hKK
  simp only [encA]
  gi_wp2
  have hbx:=Blk.new X 31 #[.int .i64 x.1,.int .i64 x.2]
  have hBz:=below_one X (.cells #[.int .i64 x.1,.int .i64 x.2] 31)
  have hne:¬ v.ownBlock=some X.heap.size:=fun e=>by have:=hol _ e;omega
  have hKe:KeepG lo (W.heap.size - lo) X (X.alloc (.cells #[.int .i64 x.1,.int .i64 x.2] 31)):=⟨Keep.alloc (by have:=hBX.size;omega) _,fun h=>h.next hBz⟩
  have hI2:∃ v',Blk (X.alloc (.cells #[.int .i64 x.1,.int .i64 x.2] 31)) g1 23 #[v']∧OwnA (X.alloc (.cells #[.int .i64 x.1,.int .i64 x.2] 31)) (W.heap.size+1) v' pre∧((fun b=>v.ownBlock=some b)=fun b=>v'.ownBlock=some b)∧Below W.heap.size W (X.alloc (.cells #[.int .i64 x.1,.int .i64 x.2] 31))∧w7.heap.size≤(X.alloc (.cells #[.int .i64 x.1,.int .i64 x.2] 31)).heap.size :=
   ⟨v,hb1.below hBz hb1.lt,ho.below hBz,rfl,below_in hBX hBz,Nat.le_trans hge hBz.size⟩
  exact hKK X.heap.size _ (SinceO.below hBz) hKe hI2 hbx hne hsz
 case body =>
  rintro l' pre x o Bx X hsz ⟨v,hb1,ho,rfl,hBX,hge⟩ hbx hnBx hle _ hlz
  obtain ⟨vA,vn,vc,rfl⟩:=ho.form
  have s7:=S7.out
  have hg:=HG1.out
  have hvn:∀ g,g<w7.heap.size→(Value.slice vA vn vc).ownBlock≠some g:=fun g hgl e=>by have:=ho.own_le g e;omega
  have k1:=hb1.one
  have k2:=hbx.cell 0
  have k3:=hbx.cell 1
  have f1:=hb1.frozen 0
  simp only [gz9] at k2 k3
  have hBz:=below_one X (.cells #[.int .i64 x.1,.int .i64 x.2] 31)
  have bz:=Blk.new X 31 #[.int .i64 x.1,.int .i64 x.2]
  have hoz:=Lib.hid (ho.below hBz)
  have hb1z:=hb1.below hBz hb1.lt
  have HK:=Lib.hid (And.intro (And.intro hb1 hb1z) (And.intro hBX (And.intro hBz bz)))
  have HVN:=Lib.hid hvn
  have HOL:=Lib.hid (fun k e=>ho.own_le k e)
  have HLEN:Hid (pre.length≤1000000):=by unfold Hid;omega
  have hlt1:=hb1.lt
  have hltx:=hbx.lt
  clear hb1 hb1z hBX hBz bz ho hvn
  gi_wp2_with (gi_at_builtin;refine wpListIn_pushA _ rfl _ _ rfl (W.heap.size+1) (.slice vA vn vc) _ rfl hoz.out X.heap.size x.1 x.2 rfl HK.out.2.2.2 HLEN.out (by simp;omega) ?_;intro v' wb hrow hgr hor;obtain ⟨vA2,vn2,vc2,rfl⟩:=hrow.form;have h1b:=HK.out.1.2.grown hgr (fun e=>HVN.out g1 (by omega) e.symm);have k1:=h1b.one;have f1:=h1b.frozen 0)
  have hBz:=HK.out.2.2.1
  have hBX:=HK.out.2.1
  have hvn:=HVN.out
  have hsz':=hgr.size
  have hsz2:=hBz.size
  have hBV':Below W.heap.size W wb:=below_grown (below_in hBX hBz) hgr (by have:=hBX.size;omega) (fun k e=>by have:=HOL.out k e;omega)
  have hBq0:=hBV'.setCell (p:=⟨g1,0,none⟩) (by show W.heap.size≤g1;omega) (.slice vA2 vn2 vc2)
  have hBq:Below g1 W (wb.setCell ⟨g1,0,none⟩ (.slice vA2 vn2 vc2)):=by rw [hg] at hBq0;exact hBq0
  refine ⟨fun b=>(Value.slice vA2 vn2 vc2).ownBlock=some b,fun b e=>?_,⟨by simp;omega,fun b h2 h3 h4=>?_⟩,⟨⟨by simp;omega,fun b h2 h3=>?_⟩,fun hLX=>?_⟩,_,h1b.set_ 0 _,?_,rfl,hBq,by simp;omega⟩
  · rcases hor with hu | hu
    · exact .inl (by rw [←hu];exact e)
    · rw [hu] at e;injection e with e;exact .inr (by have:(X.alloc (.cells #[.int .i64 x.1,.int .i64 x.2] 31)).heap.size=X.heap.size+1:=(by simp);omega)
  · rw [Below.heap_setCell wb _ _ b (by show b≠g1;omega),hgr.block b (by omega) (fun e=>h4 e.symm),hBz.block b h3]
  · rw [Below.heap_setCell wb _ _ b (by show b≠g1;omega),hgr.block b (by omega) (fun e=>by have:=HOL.out b e.symm;omega),hBz.block b (by omega)]
  · exact laid_grownG HLW.out (laid_grownG HLW.out (hLX.next hBz) hgr (fun r e=>by have:=HOL.out r e;omega)) (grownBy_setCell' _ _ _) (fun r e=>by injection e with e;subst e;show W.heap.size≤g1;omega)
  · have hq:=hrow.far (p:=⟨g1,0,none⟩) (by
     show some g1≠(Value.slice vA2 vn2 vc2).ownBlock
     rcases hor with hu | hu
     · rw [hu];exact fun e=>hvn g1 (by omega) e.symm
     · rw [hu];intro e;injection e with e;have:(X.alloc (.cells #[.int .i64 x.1,.int .i64 x.2] 31)).heap.size=X.heap.size+1:=(by simp);omega) (.slice vA2 vn2 vc2)
    first | exact hq | (rw [hg] at hq;exact hq)
 case done =>
  rintro D xs oX X hD _ rfl ⟨v,hb1,ho,rfl,hBX,hge⟩ hKD hne
  obtain ⟨vA,vn,vc,rfl⟩:=ho.form
  have c1:=hb1.one
  have s7:=S7.out
  have HO:=Lib.hid (And.intro ho hBX)
  have HN:=Lib.hid hne
  clear ho hBX hb1
  gi_wp2_with fail
  (try rw [Exit.noGoto_normal])
  refine ⟨by simp,.inl ⟨_,_,rfl,run_takeDeferred hKD,?_⟩⟩
  refine ⟨.slice vA vn vc,by simp [results,Tryz.results208,go_sem],_,rfl,?_,?_⟩
  · refine World.ownsRow.kept (HO.out.1.less (by omega)) (grownBy_putObj' X D _) (.inr ?_)
    exact fun e=>HN.out e
  · have hg:=HG1.out
    have h2:=HO.out.2.grown (grownBy_putObj' X D (Obj.deferred none)) HO.out.2.size (fun r e=>by injection e with e;omega)
    first | exact h2 | (rw [hg] at h2;exact h2)
theorem collect_any (lo:Nat) (L:List (Int×Int)) (hl:L.length≤1000) (v:Value) (W:World) (hL:Laid W) (hlo:lo≤W.heap.size) (hv:PlacesT lo L v W) :
 Calls Tryz.prog 154 #[v] W fun e w'=>∃ u,e = .returned u∧OwnA w' W.heap.size u L∧Below W.heap.size W w':=by
 obtain ⟨gf,lb,hvv,_⟩:=id hv
 subst hvv
 have HA:=Lib.hid (append_any lo L hl _ W hL hlo hv)
 clear hl hL hlo hv
 go_enter Tryz.func154,Tryz.ntmps154
 go_wp2_with (go_at_call 208;refine HA.out.mono ?_;rintro e w1 ⟨u,rfl,hu,hB1⟩;obtain ⟨uA,un,uc,rfl⟩:=hu.form)
 go_ret
 exact ⟨_,rfl,hu,hB1⟩
end Go.Proofs.YtcchjofjpflbhaaGreatDoor.T

namespace Go.Proofs.YtcchjofjpflbhaaGreatDoor.T
open Go.RowKit Go.Shelf Go.Maps Go.Proofs.YtcchjofjpflbhaaGreatDoor.C Go.Proofs.YtcchjofjpflbhaaGreatDoor.E Go.Proofs.YtcchjofjpflbhaaGreatDoor.Ch
attribute [local go_sem] Oper.semAt_some

def SegA (W:World) (v:Value) (l:List (Int×Int)):Prop :=
 ∃ p:Option Addr,v = .slice p l.length l.length∧(l≠[]→∃ g off,p=some ⟨g,off,none⟩∧g<W.heap.size∧∀ j u,(codeCells l)[j]?=some u→W.cell? ⟨g,off+j,none⟩=some u)
theorem step_some (g N cap n f t:Nat) (hN:N≤1000) (hn:n≤1000) (hc:N≤cap) (hcm:(cap:Int)≤9223372036854775807) (hf:f=min n N) (ht:t=min (n+2) N) (W:World) :
 Calls Tryz.prog 155 #[.slice (some ⟨g,0,none⟩) N cap,.int .i64 (n:Int)] W fun e w'=>∃ p,e = .returned (.slice p (t - f) (t - f))∧(t≠f→p=some ⟨g,f * 2,none⟩)∧w'=W:=by
 have hm1:min (n:Int) (N:Int)=(f:Int):=by omega
 have hw:IntKind.i64.wrap ((n:Int)+2)=(n:Int)+2:=IntWalk.i64_in _ (by omega)
 have hm2:min ((n:Int)+2) (N:Int)=(t:Int):=by omega
 have hft:f≤t:=by omega
 have htc:t≤cap:=by omega
 clear hf ht
 by_cases hz:t=f
 · subst hz
   go_enter Tryz.func155,Tryz.ntmps155
   go_wp2
   go_ret
   exact ⟨some ⟨g,0,none⟩,by simp,fun h=>absurd rfl h,rfl⟩
 · have hz2:¬ f=t:=fun e=>hz e.symm
   go_enter Tryz.func155,Tryz.ntmps155
   go_wp2
   go_ret
   exact ⟨_,rfl,fun _=>rfl,rfl⟩
theorem step_nil (n:Nat) (hn:n≤1000) (W:World) :
 Calls Tryz.prog 155 #[.slice none 0 0,.int .i64 (n:Int)] W fun e w'=>∃ p,e = .returned (.slice p 0 0)∧w'=W:=by
 have hm1:min (n:Int) 0=0:=by omega
 have hw:IntKind.i64.wrap ((n:Int)+2)=(n:Int)+2:=IntWalk.i64_in _ (by omega)
 have hm2:min ((n:Int)+2) 0=0:=by omega
 go_enter Tryz.func155,Tryz.ntmps155
 go_wp2
 go_ret
 exact ⟨_,rfl,rfl⟩
theorem codeCells_cut (l:List (Int×Int)) (n j:Nat) (u:Value) (h:(codeCells ((l.drop n).take 2))[j]?=some u):(codeCells l)[n * 2+j]?=some u:=by
 have e1:∀ (a b:List (Int×Int)),codeCells (a ++ b)=codeCells a ++ codeCells b:=fun a b=>by unfold codeCells;rw [List.flatMap_append]
 have e2:∀ (a:List (Int×Int)),(codeCells a).length=a.length * 2:=fun a=>by
  unfold codeCells
  induction a with
  | nil=>rfl
  | cons x a ih =>
    rw [List.flatMap_cons,List.length_append,ih,List.length_cons]
    simp only [List.length_cons,List.length_nil]
    omega
 have hlt:=(List.getElem?_eq_some_iff.1 h).1
 have hn:n≤l.length:=by
  rw [e2,List.length_take,List.length_drop] at hlt
  omega
 conv=>lhs;rw [show l=l.take n ++ ((l.drop n).take 2 ++ (l.drop n).drop 2) by rw [List.take_append_drop,List.take_append_drop]]
 rw [e1,e1,List.getElem?_append_right (by rw [e2,List.length_take];omega),e2,List.length_take,show n * 2+j - min n l.length * 2=j by rw [Nat.min_eq_left hn];omega,List.getElem?_append_left hlt]
 exact h
theorem step_any (l:List (Int×Int)) (hl:l.length≤1000) (n:Nat) (hn:n≤1000) (v:Value) (base:Nat) (W:World) (h:OwnA W base v l) :
 Calls Tryz.prog 155 #[v,.int .i64 (n:Int)] W fun e w'=>∃ u,e = .returned u∧SegA W u ((l.drop n).take 2)∧w'=W:=by
 obtain ⟨h1,h2⟩:=h
 rcases h2 with ⟨rfl,h0⟩ | ⟨g,cap,cur,rfl,hb,hh,hc,hcm,hcs,ht⟩
 · have hl0:l = []:=List.length_eq_zero_iff.1 h0
   subst hl0
   refine (step_nil n hn W).mono ?_
   rintro e w' ⟨p,rfl,rfl⟩
   exact ⟨_,rfl,⟨p,by simp,fun h=>absurd (by simp) h⟩,rfl⟩
 · refine (step_some g l.length cap n (min n l.length) (min (n+2) l.length) hl hn hc (by unfold maxLen at hcm;omega) rfl rfl W).mono ?_
   rintro e w' ⟨p,rfl,hp,rfl⟩
   have hlen:((l.drop n).take 2).length=min (n+2) l.length - min n l.length:=by rw [List.length_take,List.length_drop];omega
   refine ⟨_,rfl,⟨p,by rw [hlen],fun hne=>?_⟩,rfl⟩
   have hne2:0<((l.drop n).take 2).length:=List.length_pos_iff.2 hne
   have hnl:n<l.length:=by omega
   refine ⟨g,min n l.length * 2,hp (by omega),(Array.getElem?_eq_some_iff.1 hh).1,fun j u hj=>?_⟩
   have hk:=codeCells_cut l n j u hj
   rw [←ht,List.getElem?_take] at hk
   split at hk
   · rw [Nat.min_eq_left (by omega)]
     simp only [World.cell?,hh]
     rw [←hk]
     simp
   · cases hk
end Go.Proofs.YtcchjofjpflbhaaGreatDoor.T

namespace Go.Proofs.YtcchjofjpflbhaaGreatDoor.T
open Go.RowKit Go.Shelf Go.Maps Go.Proofs.YtcchjofjpflbhaaGreatDoor.C Go.Proofs.YtcchjofjpflbhaaGreatDoor.E Go.Proofs.YtcchjofjpflbhaaGreatDoor.Ch
attribute [local go_sem] Oper.semAt_some

def ReadsA (W:World) (v:Value) (l:List (Int×Int)):Prop :=
 ∃ (p:Option Addr) (c:Nat),v = .slice p l.length c∧(l≠[]→∃ g off,p=some ⟨g,off,none⟩∧g<W.heap.size∧∀ j u,(codeCells l)[j]?=some u→W.cell? ⟨g,off+j,none⟩=some u)
theorem cc_app (a b:List (Int×Int)):codeCells (a ++ b)=codeCells a ++ codeCells b:=by unfold codeCells;rw [List.flatMap_append]
theorem cc_len (a:List (Int×Int)):(codeCells a).length=a.length * 2:=by
 unfold codeCells
 induction a with
 | nil=>rfl
 | cons x a ih =>
   rw [List.flatMap_cons,List.length_append,ih,List.length_cons]
   simp only [List.length_cons,List.length_nil]
   omega
theorem cc_one (a:List (Int×Int)):∀ u∈codeCells a,u.oneCell'=true:=by
 intro u hu
 unfold codeCells at hu
 obtain ⟨x,_,hx⟩:=List.mem_flatMap.1 hu
 simp only [List.mem_cons,List.not_mem_nil,or_false] at hx
 rcases hx with rfl | rfl <;> rfl
theorem OwnA.reads {W:World} {base:Nat} {v:Value} {l:List (Int×Int)} (h:OwnA W base v l):ReadsA W v l:=by
 obtain ⟨h1,h2⟩:=h
 rcases h2 with ⟨rfl,h0⟩ | ⟨g,cap,cur,rfl,hb,hh,hc,hcm,hcs,ht⟩
 · have hl0:l = []:=List.length_eq_zero_iff.1 h0
   subst hl0
   exact ⟨none,0,rfl,fun h=>absurd rfl h⟩
 · refine ⟨_,cap,rfl,fun _=>⟨g,0,rfl,(Array.getElem?_eq_some_iff.1 hh).1,fun j u hj=>?_⟩⟩
   rw [←ht,List.getElem?_take] at hj
   split at hj
   · simp only [World.cell?,hh]
     rw [←hj]
     simp
   · cases hj
theorem SegA.reads {W:World} {v:Value} {l:List (Int×Int)} (h:SegA W v l):ReadsA W v l:=by
 obtain ⟨p,e,h⟩:=h
 exact ⟨p,_,e,h⟩
theorem SegA.next {W W':World} {v:Value} {l:List (Int×Int)} (h:SegA W v l) (hb:Below W.heap.size W W'):SegA W' v l:=by
 obtain ⟨p,e,h⟩:=h
 refine ⟨p,e,fun hne=>?_⟩
 obtain ⟨g,off,h1,h2,h3⟩:=h hne
 exact ⟨g,off,h1,Nat.lt_of_lt_of_le h2 hb.size,fun j u hj=>nextc (h3 j u hj) hb⟩
theorem run_app2 (w:World) (ty:TypeId) (l1 l2:List (Int×Int)) (s x:Value) (h1:SegA w s l1) (h2:SegA w x l2) (hl1:l1.length≤1000) (hl2:l2.length≤1000) :
 ∃ v' w',(Builtin.append_ #[23,23] ty #[s,x]).run Tryz.prog w = .ok v' w'∧ReadsA w' v' (l1 ++ l2)∧Below w.heap.size w w':=by
 obtain ⟨i,hi,hz0,hz1,hz2⟩:=info_parts Tryz.infoAt
 have hu:=Tryz.underlying23
 obtain ⟨p,rfl,hp⟩:=id h1
 obtain ⟨q,rfl,hq⟩:=h2
 by_cases h0:l2 = []
 · subst h0
   refine ⟨_,_,run_append_nothing w 23 23 ty 31 i hu hi p l1.length l1.length (Nat.le_refl _) _ ?_,by rw [List.append_nil];exact h1.reads,Below.refl _ _⟩
   cases q with
   | none=>exact Src.ofNil (size:=i.size) w hu 0
   | some a=>exact Src.ofSlice (size:=i.size) w hu a 0 0 [] (by simp) (by simp) (by simp)
 · obtain ⟨g,off,rfl,hg,hc⟩:=hq h0
   have hown:∃ v' w',(Builtin.append_ #[23,23] ty #[.slice p l1.length l1.length,.slice (some ⟨g,off,none⟩) l2.length l2.length]).run Tryz.prog w = .ok v' w'∧w'.ownsRow w.heap.size 31 2 v' (l1.length+l2.length) (codeCells l1 ++ codeCells l2)∧w.grownBy w' none:=by
    have hnews:∀ j u,(codeCells l2)[j]?=some u→w.cell? ((⟨g,off,none⟩:Addr).add j)=some u:=fun j u hj=>by rw [addr_add];exact hc j u hj
    cases p with
    | none =>
      have hl0:l1 = []:=Classical.byContradiction fun hne=>by obtain ⟨_,_,e,_⟩:=hp hne;cases e
      subst hl0
      obtain ⟨v',w',hrun,r1,r2,_,_⟩:=run_append_own_at (P:=Tryz.prog) w w.heap.size 23 ty 31 i (.agg #[.int .i64 0,.int .i64 0]) 2 16 hu hi hz0 hz1 hz2 rfl (by omega) (.slice none 0 0) 0 [] (World.ownsRow_nil w w.heap.size _ 2) ⟨g,off,none⟩ l2.length l2.length (codeCells l2) (cc_len l2) hnews (cc_one l2) (by unfold maxLen;omega) (by omega) (Nat.le_refl _)
      exact ⟨v',w',hrun,r1,r2⟩
    | some b =>
      refine run_append_arg_grows (P:=Tryz.prog) w 23 ty 31 i (.agg #[.int .i64 0,.int .i64 0]) 2 16 hu hi hz0 hz1 hz2 rfl (by omega) b l1.length l1.length (codeCells l1) (cc_len l1) ?_ ⟨g,off,none⟩ l2.length l2.length (codeCells l2) (cc_len l2) hnews (by have:=List.length_pos_iff.2 h0;omega) (by unfold maxLen;omega) (by omega)
      intro j u hj
      have hne:l1≠[]:=fun e=>by subst e;exact absurd hj (by simp [codeCells])
      obtain ⟨g1,o1,e1,hg1,hc1⟩:=hp hne
      have hb:b=⟨g1,o1,none⟩:=Option.some.inj e1
      have h5:=hc1 j u hj
      rw [←addr_add,←hb] at h5
      exact h5
   obtain ⟨v',w',hrun,r1,r2⟩:=hown
   refine ⟨v',w',hrun,OwnA.reads (base:=w.heap.size) ?_,below_grown (Below.refl _ _) r2 (Nat.le_refl _) (fun r e=>by cases e)⟩
   unfold OwnA
   rw [cc_app,List.length_append]
   exact r1
theorem wpList_app2 (w:World) {ops:Array Oper} {rest:List Oper} {o:Oper} {a:Act} {QQ:Exit→Act→World→Prop} (hgd:o.guard=none) (s x:Operand)
 (ho:o.op = .call { callee:=.builtin .append,args:=#[s,x],argTypes:=#[23,23] })
 (l1 l2:List (Int×Int)) (vs vx:Value) (hs:a.eval s=vs) (hx:a.eval x=vx) (h1:SegA w vs l1) (h2:SegA w vx l2) (hl1:l1.length≤1000) (hl2:l2.length≤1000)
 (hK:∀ v' w',ReadsA w' v' (l1 ++ l2)→Below w.heap.size w w'→wpList Tryz.prog ops QQ rest (a.put o.dst v') w'):wpList Tryz.prog ops QQ (o :: rest) a w :=
 wpList_plain hgd fun K hK2=>by
  obtain ⟨v',w',hrun,r1,r2⟩:=run_app2 w o.type l1 l2 vs vx h1 h2 hl1 hl2
  unfold Oper.wp execOp
  simp only [ho,resolve,invoke,builtin,Sem.run_bind,Sem.run_pure,Result.andThen_ok,List.map_toArray,List.map_cons,List.map_nil,hs,hx,hrun]
  exact hK2 _ _ (hK v' w' r1 r2)
theorem wpList_appA (w:World) {ops:Array Oper} {rest:List Oper} {o:Oper} {a:Act} {QQ:Exit→Act→World→Prop} (hgd:o.guard=none) (s x:Operand)
 (ho:o.op = .call { callee:=.builtin .append,args:=#[s,x],argTypes:=#[23,23] })
 (base:Nat) (l l2:List (Int×Int)) (v vx:Value) (hs:a.eval s=v) (hx:a.eval x=vx) (h1:OwnA w base v l) (h2:ReadsA w vx l2) (hne:l2≠[]) (hl1:l.length≤1000000) (hl2:l2.length≤1000) (hb:base≤w.heap.size)
 (hK:∀ v' w',OwnA w' base v' (l ++ l2)→w.grownBy w' v.ownBlock→wpList Tryz.prog ops QQ rest (a.put o.dst v') w'):wpList Tryz.prog ops QQ (o :: rest) a w :=
 wpList_plain hgd fun K hK2=>by
  obtain ⟨i,hi,hz0,hz1,hz2⟩:=info_parts Tryz.infoAt
  obtain ⟨q,c,rfl,hq⟩:=h2
  obtain ⟨g,off,rfl,hg,hc⟩:=hq hne
  obtain ⟨v',w',hrun,r1,r2,_,_⟩:=run_append_own_at (P:=Tryz.prog) w base 23 o.type 31 i (.agg #[.int .i64 0,.int .i64 0]) 2 16 Tryz.underlying23 hi hz0 hz1 hz2 rfl (by omega) v l.length (codeCells l) h1 ⟨g,off,none⟩ l2.length c (codeCells l2) (cc_len l2) (fun j u hj=>by rw [addr_add];exact hc j u hj) (cc_one l2) (by unfold maxLen;omega) (by omega) hb
  unfold Oper.wp execOp
  simp only [ho,resolve,invoke,builtin,Sem.run_bind,Sem.run_pure,Result.andThen_ok,List.map_toArray,List.map_cons,List.map_nil,hs,hx,hrun]
  refine hK2 _ _ (hK v' w' ?_ r2)
  unfold OwnA
  rw [cc_app,List.length_append]
  exact r1
def sbs (l m:List (Int×Int)) (k:Nat):List (Int×Int):=(List.range k).flatMap fun i=>(l.drop (2 * i)).take 2 ++ (m.drop (2 * i)).take 2
theorem sbs_next (l m:List (Int×Int)) (k:Nat):sbs l m (k+1)=sbs l m k ++ ((l.drop (2 * k)).take 2 ++ (m.drop (2 * k)).take 2):=by
 unfold sbs
 rw [List.range_succ,List.flatMap_append]
 simp
theorem sbs_len (l m:List (Int×Int)) (k:Nat):(sbs l m k).length≤4 * k:=by
 induction k with
 | zero=>simp [sbs]
 | succ k ih=>rw [sbs_next,List.length_append,List.length_append,List.length_take,List.length_take];omega
def sideL (l m:List (Int×Int)):List (Int×Int):=sbs l m ((max l.length m.length+1) / 2)
theorem side_any (l m:List (Int×Int)) (hl:l.length≤400) (hm:m.length≤400) (lA mA:Option Addr) (lc mc:Nat) (b1 b2:Nat) (w:World) (h1:OwnA w b1 (.slice lA l.length lc) l) (h2:OwnA w b2 (.slice mA m.length mc) m) :
 Calls Tryz.prog 107 #[.slice lA l.length lc,.slice mA m.length mc] w fun e w'=>∃ u,e = .returned u∧OwnA w' w.heap.size u (sideL l m)∧Below w.heap.size w w':=by
 have HS1:=Lib.hid (fun (n:Nat) (hn:n≤1000) (W:World) (hW:Below w.heap.size w W)=>step_any l (by omega) n hn _ b1 W (h1.below hW))
 have HS2:=Lib.hid (fun (n:Nat) (hn:n≤1000) (W:World) (hW:Below w.heap.size w W)=>step_any m (by omega) n hn _ b2 W (h2.below hW))
 have HNX:=Lib.hid (fun k=>sbs_next l m k)
 have HSL:=Lib.hid (fun k=>sbs_len l m k)
 have HB:=Lib.hid (And.intro hl hm)
 clear h1 h2 hl hm
 go_enter Tryz.func107,Tryz.ntmps107
 go_wp2
 go_loopw [5,6] (fun v i wr=>∃ k:Nat,2 * k≤max l.length m.length+1∧i = .int .i64 ((2 * k:Nat):Int)∧OwnA wr w.heap.size v (sbs l m k)∧Below w.heap.size w wr) (fun _ i _=>max l.length m.length+2 - (intOf i).toNat)
 case atStart=>exact ⟨0,by omega,rfl,ownA_nil _ _,Below.refl _ _⟩
 case round =>
  obtain ⟨k,hk,rfl,hown,hBr⟩:=hrel
  have hBB:=HB.out
  by_cases hlt:2 * k<max l.length m.length
  · have hd:decide (((2 * k:Nat):Int)<max (l.length:Int) (m.length:Int))=true:=decide_eq_true (by omega)
    have hwk:IntKind.i64.wrap (((2 * k:Nat):Int)+2)=((2 * (k+1):Nat):Int):=by rw [IntWalk.i64_in _ (by omega)];omega
    obtain ⟨vA,vn,vc,rfl⟩:=hown.form
    have HSA:=Lib.hid (HS1.out (2 * k) (by omega) wr hBr)
    have HSB:=Lib.hid (HS2.out (2 * k) (by omega) wr hBr)
    have HNE:Hid ((l.drop (2 * k)).take 2 ++ (m.drop (2 * k)).take 2≠[]):=fun e=>by
     have h:=congrArg List.length e
     rw [List.length_append,List.length_take,List.length_take,List.length_drop,List.length_drop,List.length_nil] at h
     omega
    have HQ:Hid ((sbs l m k).length≤1000000):=by unfold Hid;have:=HSL.out k;omega
    have HN:=Lib.hid (HNX.out k)
    have HOW:=Lib.hid (And.intro hown hBr)
    have HLT:=Lib.hid hlt
    have HLE:Hid (∀ g,(Value.slice vA vn vc).ownBlock=some g→w.heap.size≤g):=fun g e=>hown.own_le g e
    obtain ⟨A,hA⟩:∃ A,(l.drop (2 * k)).take 2=A:=⟨_,rfl⟩
    obtain ⟨B,hB⟩:∃ B,(m.drop (2 * k)).take 2=B:=⟨_,rfl⟩
    have HAB:Hid (A.length≤1000∧B.length≤1000∧(A ++ B).length≤1000):=by
     unfold Hid
     rw [List.length_append,←hA,←hB,List.length_take,List.length_take]
     omega
    rw [hA] at HSA
    rw [hB] at HSB
    rw [hA,hB] at HNE HN
    clear hA hB
    obtain ⟨n2,hn2⟩:∃ n2,((2 * k:Nat):Int)=n2:=⟨_,rfl⟩
    have HN2:=Lib.hid hn2
    rw [hn2] at hd hwk HSA HSB ⊢
    clear hown hBr hBB hn2 hlt hk
    go_wp2_with fail
    refine HSA.out.mono ?_
    rintro e w1 ⟨u1,rfl,hs1,rfl⟩
    obtain ⟨p1,rfl,_⟩:=id hs1
    go_wp2_with fail
    refine HSB.out.mono ?_
    rintro e w1 ⟨u2,rfl,hs2,rfl⟩
    obtain ⟨p2,rfl,_⟩:=id hs2
    go_wp2_with (at_builtin;first
     | (refine wpList_app2 _ rfl _ _ rfl A B _ _ rfl rfl hs1 hs2 HAB.out.1 HAB.out.2.1 ?_;intro v' wa hra hBa;obtain ⟨q,qc,rfl,_⟩:=id hra;have hoa:=HOW.out.1.below hBa)
     | (refine wpList_appA _ rfl _ _ rfl w.heap.size (sbs l m k) (A ++ B) (.slice vA vn vc) _ rfl rfl hoa hra HNE.out HQ.out HAB.out.2.2 (Nat.le_trans HOW.out.2.size hBa.size) ?_;intro v' wb hob hgr;obtain ⟨vA2,vn2,vc2,rfl⟩:=hob.form))
    go_roundw
    case rel=>exact ⟨k+1,by have:=HLT.out;omega,rfl,by rw [HN.out];exact hob,below_grown (below_in HOW.out.2 hBa) hgr (Nat.le_trans HOW.out.2.size hBa.size) (fun g e=>HLE.out g e)⟩
    case measure=>have:=HN2.out;have:=HLT.out;simp [intOf];omega
  · have hd:decide (((2 * k:Nat):Int)<max (l.length:Int) (m.length:Int))=false:=decide_eq_false (by omega)
    have HE:Hid (k=(max l.length m.length+1) / 2):=by unfold Hid;omega
    obtain ⟨vA,vn,vc,rfl⟩:=hown.form
    have HOW:=Lib.hid (And.intro hown hBr)
    obtain ⟨n2,hn2⟩:∃ n2,((2 * k:Nat):Int)=n2:=⟨_,rfl⟩
    rw [hn2] at hd ⊢
    clear hown hBr hBB hn2 hlt hk
    go_wp2
    go_ret
    exact ⟨_,rfl,by unfold sideL;rw [←HE.out];exact HOW.out.1,HOW.out.2⟩
end Go.Proofs.YtcchjofjpflbhaaGreatDoor.T
