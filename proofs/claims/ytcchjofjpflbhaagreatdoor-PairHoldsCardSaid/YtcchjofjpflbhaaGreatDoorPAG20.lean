/- -/
import Derived.Test.YtcchjofjpflbhaaGreatDoorPAG19
set_option linter.unusedVariables false
set_option linter.unusedSimpArgs false
set_option maxRecDepth 100000
set_option maxHeartbeats 8000000
namespace Go.Proofs.YtcchjofjpflbhaaGreatDoor.T
open Go.RowKit Go.Shelf Go.Maps Go.Proofs.YtcchjofjpflbhaaGreatDoor.C Go.Proofs.YtcchjofjpflbhaaGreatDoor.E Go.Proofs.YtcchjofjpflbhaaGreatDoor.Ch
attribute [local go_sem] Oper.semAt_some

theorem enter_pRecover1:∀ args W,(callFunc 60 args).run Tryz.prog W = .ok (.enter 60 args) W:=enters_of Tryz.func60 (by kernel_rfl) rfl
theorem ptwo {V:World} {g:Nat} {a b:Int} (h:Blk V g 3 #[.int .i64 a,.int .i64 b]):∀ j,j < [a,b].length→V.cell? ⟨g,j,none⟩=some (.int .i64 ([a,b][j]?.getD 0)):=by
 intro j hj
 have hj2:j=0∨j=1:=by simp at hj;omega
 rcases hj2 with rfl | rfl
 · exact h.cell 0
 · exact h.cell 1
theorem pRecover_yes {B P Q n:Nat} (d:Rg.Dims P Q n) (a b:Int) (ha:0≤a) (hab:a<b) (hb:b<(P:Int)) (css:List (List (List UInt8))) (N:Nat) (hcl:css.length=N) (hN:N=P+1) (hgood:∀ i,i<css.length→(i:Int)∉[a,b]→GoodC Q n (css[i]?.getD [])) (vA:Option Addr) (vc:Nat) (A Bc:List (List UInt8)) (hsol:SolvesP P Q n (rsP P Q (lostC [a,b] Q n css)) (dsP P Q (lostC [a,b] Q n css)) A Bc a b) (w:World) (hL:Laid w) (hB:B≤w.heap.size) (hC:Cols B w (.slice vA N vc) css) :
 Calls Tryz.prog 25 #[.int .i64 (P:Int),.slice vA N vc,.int .i64 a,.int .i64 b] w fun e w'=>∃ u,e = .returned (.tuple #[u,.int .i64 0])∧Cols w'.heap.size w' u [A,Bc]∧Below w.heap.size w w':=by
 have hQ:=d.hQ
 have hpb:=prm_bounds d.hp
 obtain ⟨W2,hW2⟩:∃ x,(((w.alloc (.cells #[.int .i64 (P:Int)] 3)).alloc (.cells #[.slice vA N vc] 40)).alloc (.cells #[.int .i64 a] 3)).alloc (.cells #[.int .i64 b] 3)=x:=⟨_,rfl⟩
 have b0:Blk W2 (w.heap.size) 3 #[.int .i64 (P:Int)]:=by rw [←hW2];exact (((Blk.new w _ _).alloc _).alloc _).alloc _
 have b1:Blk W2 (w.heap.size+1) 40 #[.slice vA N vc]:=by rw [←hW2];exact ((Blk.second w _ _ _).alloc _).alloc _
 have b2:Blk W2 (w.heap.size+1+1) 3 #[.int .i64 a]:=by rw [←hW2];exact (Rg.Blk.at_ (Blk.new _ _ _) (by simp)).alloc _
 have b3:Blk W2 (w.heap.size+1+1+1) 3 #[.int .i64 b]:=by rw [←hW2];exact Rg.Blk.at_ (Blk.new _ _ _) (by simp)
 have hBW:Below w.heap.size w W2:=by rw [←hW2];exact (((below_two w _ _)).alloc (by simp;omega) _).alloc (by simp;omega) _
 obtain ⟨W2b,hW2b⟩:∃ x,w.heap.size=x:=⟨_,rfl⟩
 obtain ⟨W2c,hW2c⟩:∃ x,w.heap.size+1=x:=⟨_,rfl⟩
 obtain ⟨W2d,hW2d⟩:∃ x,w.heap.size+1+1=x:=⟨_,rfl⟩
 obtain ⟨W2e,hW2e⟩:∃ x,w.heap.size+1+1+1=x:=⟨_,rfl⟩
 have HA:=Lib.hid (Pr.ans_S_yes 60 #[.pointer (some ⟨w.heap.size,0,none⟩),.pointer (some ⟨w.heap.size+1,0,none⟩),.pointer (some ⟨w.heap.size+1+1,0,none⟩),.pointer (some ⟨w.heap.size+1+1+1,0,none⟩)] W2 (fun u W=>∃ x y z,u = .slice x y z∧Cols W.heap.size W u [A,Bc]) (enter_pRecover1 _) (fun U hU bU=>by
  have hBU:=below_in hBW hU
  have hltU:=bU.lt
  have HAS:=Lib.hid (fun (V:World) (g:Nat) (hV:Below U.heap.size U V) (bE:Blk V g 3 #[.int .i64 a,.int .i64 b])=>Pr.asked_yes (P:Int) d.hp vA N vc (by omega) g [a,b] (by simp) (good_pr ha hab hb) V (hL.next (below_in hBU hV)) bE.lt (ptwo bE))
  have hnP:((P:Nat):Int)∉[a,b]:=by simp;omega
  have hk0:0<(kept ([a,b] ++ []) css css.length).length:=kept_pos (i:=P) (by omega) (by rw [List.append_nil];exact hnP)
  have hrg:∀ x∈[a,b] ++ [],0≤x∧x<(css.length:Int):=by intro x hx;simp at hx;rcases hx with rfl | rfl <;> omega
  have HOF:=Lib.hid (fun (V:World) (g:Nat) (hV:Below U.heap.size U V) (bE:Blk V g 3 #[.int .i64 a,.int .i64 b])=>(by
   have h:=pOf_yes (B:=B) P Q d.hQ d.hp [a,b] [] ⟨by simp,by simp⟩ (by simp) g css N hcl (by omega) (by omega) vA vc none 0 V (hL.next (below_in hBU hV)) (Nat.le_trans hB (below_in hBU hV).size) bE.lt (ptwo bE) (.inl ⟨rfl,rfl⟩) (hC.below ((below_in hBU hV).mono hB)) n d hN (by rw [←hcl];exact hrg) hk0 (fun i hi hm=>hgood i hi (by rw [List.append_nil] at hm;exact hm))
   rw [List.append_nil] at h
   exact h:Calls Tryz.prog 62 #[.agg #[.int .i64 2,.int .i64 (P:Int),.slice (some ⟨g,0,none⟩) 2 2],.slice vA N vc,.slice none 0 0] V fun e w'=>∃ A1 k1 A2 k2 nA nc,e = .returned (.agg #[.int .i64 2,.int .i64 (P:Int),.slice (some ⟨g,0,none⟩) 2 2,.slice A1 Q k1,.slice A2 Q k2,.slice nA n nc])∧Many w'.heap.size w' (.slice A1 Q k1) (rsP P Q (lostC [a,b] Q n css))∧Many w'.heap.size w' (.slice A2 Q k2) (dsP P Q (lostC [a,b] Q n css))∧Bytes w'.heap.size w' (.slice nA n nc) (List.replicate n 0)∧Below V.heap.size V w'))
  have hgl:∀ c,c<P+1→GoodC Q n ((lostC [a,b] Q n css)[c]?.getD []):=fun c hc=>lost_good d hgood c (by omega)
  have hll:(lostC [a,b] Q n css).length=P+1:=by rw [lostC_len,hcl,hN]
  have HRE:=Lib.hid (fun (V:World) (g:Nat) (A1 A2 nA:Option Addr) (k1 k2 nc:Nat) (hV:Below U.heap.size U V) (bE:Blk V g 3 #[.int .i64 a,.int .i64 b]) (h1:Many V.heap.size V (.slice A1 Q k1) (rsP P Q (lostC [a,b] Q n css))) (h2:Many V.heap.size V (.slice A2 Q k2) (dsP P Q (lostC [a,b] Q n css))) (h3:Bytes V.heap.size V (.slice nA n nc) (List.replicate n 0))=>pRecovered_any d a b ha hab hb g _ _ A Bc (rsP_good d hll hgl) (dsP_good d hll hgl) hsol A1 A2 nA k1 k2 nc V (hL.next (below_in hBU hV)) bE.lt (bE.cell 0) (bE.cell 1) h1 h2 h3)
  have HSS:Hid (∀ V,Below U.heap.size U V→(fun U:World=>U.cell? ⟨W2b,0,none⟩=some (.int .i64 (P:Int))∧U.cell? ⟨W2c,0,none⟩=some (.slice vA N vc)∧U.cell? ⟨W2d,0,none⟩=some (.int .i64 a)∧U.cell? ⟨W2e,0,none⟩=some (.int .i64 b)) V):=by
   rw [←hW2b,←hW2c,←hW2d,←hW2e]
   exact fun V hV=>⟨((b0.below hU b0.lt).below hV (Nat.lt_of_lt_of_le b0.lt hU.size)).one,((b1.below hU b1.lt).below hV (Nat.lt_of_lt_of_le b1.lt hU.size)).one,((b2.below hU b2.lt).below hV (Nat.lt_of_lt_of_le b2.lt hU.size)).one,((b3.below hU b3.lt).below hV (Nat.lt_of_lt_of_le b3.lt hU.size)).one⟩
  have hBx:=(Below.refl U.heap.size U).drew
  rw [hW2e,hW2d,hW2c,hW2b]
  clear hgl hll b0 b1 b2 b3 hW2 hL hW2e hW2d hW2c hW2b bU ha hab hb hcl hN hgood hsol hC hB hk0 hrg hnP d hQ hpb
  refine (callsIn_wide (n:=9)).1 ?_
  refine callsIn_of_wp_marks Tryz.func60 rfl trivial ?_ rfl
  simp only [Tryz.ntmps60,List.size_toArray,List.length_cons,List.length_nil,Nat.reduceAdd,Nat.reduceSub,Array.replicate_succ,Array.replicate_zero,List.push_toArray,List.append_toArray,List.nil_append,List.cons_append]
  gi_wp2_with fail
  have hS:(fun U:World=>U.cell? ⟨W2b,0,none⟩=some (.int .i64 (P:Int))∧U.cell? ⟨W2c,0,none⟩=some (.slice vA N vc)∧U.cell? ⟨W2d,0,none⟩=some (.int .i64 a)∧U.cell? ⟨W2e,0,none⟩=some (.int .i64 b)) U.drew:=HSS.out _ hBx
  refine wpIn_mono (region_HF (Q:=NoPanic _) (S:=(fun U:World=>U.cell? ⟨W2b,0,none⟩=some (.int .i64 (P:Int))∧U.cell? ⟨W2c,0,none⟩=some (.slice vA N vc)∧U.cell? ⟨W2d,0,none⟩=some (.int .i64 a)∧U.cell? ⟨W2e,0,none⟩=some (.int .i64 b))) (by kernel_rfl) ?_) NoPanic.imp
  refine tkF (i:=0) (d:=5) (v:=.int .i64 (P:Int)) (s:=hS) (c:=?_)
  simp only [ud9]
  refine tkF (i:=1) (d:=6) (v:=.slice vA N vc) (s:=hS) (c:=?_)
  simp only [ud9]
  refine tkF (i:=2) (d:=7) (v:=.int .i64 a) (s:=hS) (c:=?_)
  simp only [ud9]
  refine tkF (i:=3) (d:=8) (v:=.int .i64 b) (s:=hS) (c:=?_)
  simp only [ud9]
  refine tkF (i:=6) (d:=11) (v:=.slice vA N vc) (s:=hS) (c:=?_)
  simp only [ud9]
  refine oneF (i:=4) (c:=?_)
  have hgl_g2:=hBx.size
  have hB:Below U.drew.heap.size U.drew (U.drew.alloc (.cells #[.int .i64 a,.int .i64 b] 3)):=below_one U.drew _
  have bE:Blk (U.drew.alloc (.cells #[.int .i64 a,.int .i64 b] 3)) U.drew.heap.size 3 #[.int .i64 a,.int .i64 b]:=Blk.new U.drew _ _
  obtain ⟨v1,he_v1⟩:∃ x,(U.drew.alloc (.cells #[.int .i64 a,.int .i64 b] 3))=x:=⟨_,rfl⟩
  obtain ⟨g2,hg_g2⟩:∃ x,U.drew.heap.size=x:=⟨_,rfl⟩
  rw [he_v1] at hB bE
  rw [hg_g2] at bE
  replace hBx:=below_in hBx hB
  clear hS
  have hS:(fun U:World=>U.cell? ⟨W2b,0,none⟩=some (.int .i64 (P:Int))∧U.cell? ⟨W2c,0,none⟩=some (.slice vA N vc)∧U.cell? ⟨W2d,0,none⟩=some (.int .i64 a)∧U.cell? ⟨W2e,0,none⟩=some (.int .i64 b)) v1:=HSS.out _ hBx
  gi_wp2
  (try rw [hg_g2]);(try rw [he_v1])
  try (refine ⟨hS,?_⟩)
  clear hB he_v1 hg_g2
  refine oneF (i:=5) (c:=?_)
  gi_wp2_with fail
  refine ⟨trivial,(callsIn_wide.2 (HAS.out _ g2 hBx bE)).mono ?_⟩
  rintro e v3 ⟨rfl,hB⟩
  replace bE:=bE.below hB bE.lt
  replace hBx:=below_in hBx hB
  clear hS
  have hS:(fun U:World=>U.cell? ⟨W2b,0,none⟩=some (.int .i64 (P:Int))∧U.cell? ⟨W2c,0,none⟩=some (.slice vA N vc)∧U.cell? ⟨W2d,0,none⟩=some (.int .i64 a)∧U.cell? ⟨W2e,0,none⟩=some (.int .i64 b)) v3:=HSS.out _ hBx
  clear hB
  gi_wp2
  try (refine ⟨hS,?_⟩)
  refine oneF (i:=7) (c:=?_)
  gi_wp2_with fail
  refine ⟨trivial,(callsIn_wide.2 (HOF.out _ g2 hBx bE)).mono ?_⟩
  rintro e v4 ⟨A1,k1,A2,k2,nA,nc,rfl,hCl,hCl2,hNo,hB⟩
  have HCL:=Lib.hid (And.intro hCl (And.intro hCl2 hNo))
  clear hCl hCl2 hNo
  replace bE:=bE.below hB bE.lt
  replace hBx:=below_in hBx hB
  clear hS
  have hS:(fun U:World=>U.cell? ⟨W2b,0,none⟩=some (.int .i64 (P:Int))∧U.cell? ⟨W2c,0,none⟩=some (.slice vA N vc)∧U.cell? ⟨W2d,0,none⟩=some (.int .i64 a)∧U.cell? ⟨W2e,0,none⟩=some (.int .i64 b)) v4:=HSS.out _ hBx
  clear hB
  gi_wp2
  try (refine ⟨hS,?_⟩)
  refine oneF (i:=8) (c:=?_)
  gi_wp2_with fail
  refine ⟨trivial,(callsIn_wide.2 (HRE.out _ g2 A1 A2 nA k1 k2 nc hBx bE HCL.out.1 HCL.out.2.1 HCL.out.2.2)).mono ?_⟩
  rintro e v5 ⟨gR,kR,rfl,hRES,hB⟩
  replace bE:=bE.below hB bE.lt
  replace hBx:=below_in hBx hB
  clear hS
  have hS:(fun U:World=>U.cell? ⟨W2b,0,none⟩=some (.int .i64 (P:Int))∧U.cell? ⟨W2c,0,none⟩=some (.slice vA N vc)∧U.cell? ⟨W2d,0,none⟩=some (.int .i64 a)∧U.cell? ⟨W2e,0,none⟩=some (.int .i64 b)) v5:=HSS.out _ hBx
  clear hB
  gi_wp2
  try (refine ⟨hS,?_⟩)
  refine oneF (i:=9) (c:=?_)
  gi_wp2
  refine anyHF_done (by kernel_rfl) ?_ _
  refine NoPanic.normal ?_
  clear hS
  gi_wp2_with fail
  exact ⟨_,by simp [results,Tryz.results60,go_sem],_,rfl,⟨_,_,_,rfl,hRES⟩,hBx⟩))
 clear b0 b1 b2 b3 hL hW2e hW2d hW2c hW2b ha hab hb hcl hN hgood hsol hC hB d hQ hpb
 go_enter Tryz.func25,Tryz.ntmps25
 have hmf:∀ (fn:Fn) (first cap:Array Value) (w:World),(Instr.makeFunc fn first cap).run Tryz.prog w = .ok (.func fn first cap) w:=fun _ _ _ _=>rfl
 go_wp2_with (go_at_call 59;refine HA.out.mono ?_;rintro e w1 ⟨u,W,rfl,⟨uA,un,uc,rfl,hu⟩,bE,rfl,hB1⟩)
 go_ret2
 exact ⟨_,rfl,(cols_num hu bE).more (by simp),below_in hBW hB1⟩
end Go.Proofs.YtcchjofjpflbhaaGreatDoor.T

namespace Go.Proofs.YtcchjofjpflbhaaGreatDoor.T
open Go.RowKit Go.Shelf Go.Maps Go.Proofs.YtcchjofjpflbhaaGreatDoor.C Go.Proofs.YtcchjofjpflbhaaGreatDoor.E Go.Proofs.YtcchjofjpflbhaaGreatDoor.Ch Go.Proofs.YtcchjofjpflbhaaGreatDoor.Rg
attribute [local go_sem] Oper.semAt_some

theorem solvesP_rows {P Q n:Nat} (d:Dims P Q n) {R D A B:List (List UInt8)} {a b:Int} (gA:GoodC Q n A) (gB:GoodC Q n B) (hR:R=sumC Q [A,B]) (hD:∀ i,i<Q→D[i]?.getD []=xorOf [wholeF Q n A (((i:Int) - a) % (P:Int)).toNat,wholeF Q n B (((i:Int) - b) % (P:Int)).toNat]):SolvesP P Q n R D A B a b :=
 ⟨gA,gB,fun j r=>by rw [hR];exact bt_sum2 d gA gB j r,fun j r hr=>by
  have hQ:=d.hQ
  rcases row_lt hQ r with ⟨i,hi,e⟩ | e
  · have e2:r % (P:Int)=((i:Int)) % (P:Int):=by rw [e,Int.emod_eq_of_lt (by omega) (by omega)]
    rw [bt_at hQ D j hi e,hD i hi,at_two (Rg.whole_len gA _) (Rg.whole_len gB _)]
    show Bt P Q n A j ((i:Int) - a) ^^^ Bt P Q n B j ((i:Int) - b) = _
    rw [(Bt.per hQ A j).1 _ _ (mod_sub e2.symm a),(Bt.per hQ B j).1 _ _ (mod_sub e2.symm b)]
  · exact absurd (by rw [e,last_mod hQ]) hr⟩
def cssP:List (List (List UInt8)):=[[],[[4],[8]],[[7]],[[11],[6]]]
theorem solves_P:SolvesP 3 2 1 (rsP 3 2 (lostC [0,2] 2 1 cssP)) (dsP 3 2 (lostC [0,2] 2 1 cssP)) [[1],[2]] [[5],[10]] 0 2 :=
 solvesP_rows dimsW (good_W 1 2) (good_W 5 10) (by decide +kernel) (by
  intro i hi
  rcases i with _ | _ | i
  · decide +kernel
  · decide +kernel
  · omega)
theorem goods_P:∀ i,i<cssP.length→(i:Int)∉[(0:Int),2]→GoodC 2 1 (cssP[i]?.getD []):=by
 intro i hi hm
 have h5:i<4:=hi
 rcases i with _ | _ | _ | _ | i
 · exact absurd (by simp) hm
 · exact good_W 4 8
 · exact absurd (by simp) hm
 · exact good_W 11 6
 · omega
theorem order_P:orderP 3 1 2 = [(2,1),(1,1),(1,0),(2,0)]:=by decide +kernel
theorem arm_P0:armP 3 0 1 = []:=by decide +kernel
theorem arm_P1:armP 3 1 0 = [(0,0),(1,0),(0,1),(1,1)]:=by decide +kernel
def osP (w:World):List Obj:=[.cells #[.int .u8 4] 5,.cells #[.int .u8 8] 5,.cells #[.slice (some ⟨w.heap.size+0,0,none⟩) 1 1,.slice (some ⟨w.heap.size+1,0,none⟩) 1 1] 64,
 .cells #[.int .u8 7] 5,.cells #[.slice (some ⟨w.heap.size+3,0,none⟩) 1 1] 64,
 .cells #[.int .u8 11] 5,.cells #[.int .u8 6] 5,.cells #[.slice (some ⟨w.heap.size+5,0,none⟩) 1 1,.slice (some ⟨w.heap.size+6,0,none⟩) 1 1] 64,
 .cells #[.slice none 0 0,.slice (some ⟨w.heap.size+2,0,none⟩) 2 2,.slice (some ⟨w.heap.size+4,0,none⟩) 1 1,.slice (some ⟨w.heap.size+7,0,none⟩) 2 2] 50]
theorem cols_P (w:World):Cols (allocs w (osP w)).heap.size (allocs w (osP w)) (.slice (some ⟨w.heap.size+8,0,none⟩) 4 4) cssP:=by
 have k:∀ (k:Nat) (t:TypeId) (cs:Array Value),(osP w)[k]?=some (.cells cs t)→Blk (allocs w (osP w)) (w.heap.size+k) t cs:=fun k t cs h=>allocs_blk w (osP w) k t cs h
 refine ⟨_,4,rfl,Nat.le_refl _,fun _=>⟨_,0,rfl,(k 8 _ _ rfl).lt,fun j hj=>?_⟩⟩
 have h5:j<4:=hj
 rcases j with _ | _ | _ | _ | j
 · exact ⟨_,(k 8 _ _ rfl).cell 0,Many.nil_ _ _ _ _⟩
 · exact ⟨_,(k 8 _ _ rfl).cell 1,many_W (x:=4) (y:=8) (k 2 _ _ rfl) (k 0 _ _ rfl) (k 1 _ _ rfl)⟩
 · refine ⟨_,(k 8 _ _ rfl).cell 2,⟨_,1,rfl,Nat.le_refl _,fun _=>⟨_,0,rfl,(k 4 _ _ rfl).lt,fun i hi=>?_⟩⟩⟩
   obtain rfl:i=0:=(by have:i<1:=hi;omega)
   exact ⟨_,(k 4 _ _ rfl).cell 0,byte_W (x:=7) (k 3 _ _ rfl)⟩
 · exact ⟨_,(k 8 _ _ rfl).cell 3,many_W (x:=11) (y:=6) (k 7 _ _ rfl) (k 5 _ _ rfl) (k 6 _ _ rfl)⟩
 · omega
theorem readA_four {W:World} {g:Nat} {a b c d:Int×Int} (h:Blk W g 31 #[.int .i64 a.1,.int .i64 a.2,.int .i64 b.1,.int .i64 b.2,.int .i64 c.1,.int .i64 c.2,.int .i64 d.1,.int .i64 d.2]):ReadA W (.slice (some ⟨g,0,none⟩) 4 4) [a,b,c,d] :=
 ⟨_,4,rfl,fun j hj=>⟨g,rfl,h.lt,by
  have h4:j<4:=hj
  rcases j with _ | _ | _ | _ | j
  · exact ⟨h.cell 0,h.cell 1⟩
  · exact ⟨h.cell 2,h.cell 3⟩
  · exact ⟨h.cell 4,h.cell 5⟩
  · exact ⟨h.cell 6,h.cell 7⟩
  · omega⟩⟩
def osQ (w:World):List Obj:=[.cells #[.int .u8 1] 5,.cells #[.int .u8 2] 5,.cells #[.slice (some ⟨w.heap.size+0,0,none⟩) 1 1,.slice (some ⟨w.heap.size+1,0,none⟩) 1 1] 64,
 .cells #[.int .u8 5] 5,.cells #[.int .u8 10] 5,.cells #[.slice (some ⟨w.heap.size+3,0,none⟩) 1 1,.slice (some ⟨w.heap.size+4,0,none⟩) 1 1] 64,
 .cells #[.slice (some ⟨w.heap.size+2,0,none⟩) 2 2,.slice (some ⟨w.heap.size+5,0,none⟩) 2 2] 50]
theorem cols_Q (w:World):Cols (allocs w (osQ w)).heap.size (allocs w (osQ w)) (.slice (some ⟨w.heap.size+6,0,none⟩) 2 2) [[[1],[2]],[[5],[10]]]:=by
 have k:∀ (k:Nat) (t:TypeId) (cs:Array Value),(osQ w)[k]?=some (.cells cs t)→Blk (allocs w (osQ w)) (w.heap.size+k) t cs:=fun k t cs h=>allocs_blk w (osQ w) k t cs h
 exact Rg.cols_two (k 6 _ _ rfl) (many_W (x:=1) (y:=2) (k 2 _ _ rfl) (k 0 _ _ rfl) (k 1 _ _ rfl)) (many_W (x:=5) (y:=10) (k 5 _ _ rfl) (k 3 _ _ rfl) (k 4 _ _ rfl)) (k 6 _ _ rfl).lt
theorem small_Q:∀ j:Nat,(([[[(1:UInt8)],[2]],[[5],[10]]]:List (List (List UInt8)))[j]?.getD []).length≤1000:=by
 intro j
 rcases j with _ | _ | j
 · show 2≤1000;omega
 · show 2≤1000;omega
 · simp
theorem works12_any (w:World) (hL:Laid w):Calls Tryz.prog 18 #[] w fun e w'=>e = .returned (.bool true)∧Below w.heap.size w w':=by
 have HO1:=Lib.hid (by have h:=pOrder_yes 3 1 2 (by decide) (by decide) (by decide) (by decide) w hL;rw [order_P] at h;exact h)
 have HRE:=Lib.hid (fun (U:World) (hU:Below w.heap.size w U) (v:Value) (hv:v = .slice (some ⟨U.heap.size+8,0,none⟩) 4 4)=>(by
  have h:=pRecover_yes (B:=(allocs U (osP U)).heap.size) dimsW 0 2 (by decide) (by decide) (by decide) cssP 4 rfl rfl goods_P (some ⟨U.heap.size+8,0,none⟩) 4 [[1],[2]] [[5],[10]] solves_P (allocs U (osP U)) (hL.next (below_in hU (allocs_below U (osP U)))) (Nat.le_refl _) (cols_P U)
  rw [show ((3:Nat):Int)=3 from rfl] at h
  exact h))
 have HA0:=Lib.hid (fun (U:World) (hU:Below w.heap.size w U)=>lawArm_any 3 0 1 [] (by simp) U (hL.next hU) (Lib.hid fun V hV=>by have h:=Arm_yes 3 0 1 (by decide) (by decide) (by decide) (by decide) V hV;rw [arm_P0] at h;exact h))
 have HA1:=Lib.hid (fun (U:World) (hU:Below w.heap.size w U)=>lawArm_any 3 1 0 [(0,0),(1,0),(0,1),(1,1)] (by simp) U (hL.next hU) (Lib.hid fun V hV=>by have h:=Arm_yes 3 1 0 (by decide) (by decide) (by decide) (by decide) V hV;rw [arm_P1] at h;exact h))
 clear hL
 go_enter Tryz.func18,Tryz.ntmps18
 go_wp2_with fail
 refine HO1.out.mono ?_
 rintro e w1 ⟨u1,rfl,hu1,hB1⟩
 obtain ⟨A1,n1,c1,rfl⟩:=hu1.form
 go_wp2_with fail
 have hB3a:=allocs_below w1 (osP w1)
 refine (HRE.out w1 hB1 _ rfl).mono ?_
 rintro e w3 ⟨u3,rfl,hC3,hB3⟩
 have hB23:=below_in hB3a hB3
 have hr:=hu1.readA.next hB23
 have hBw:=below_in hB1 hB23
 obtain ⟨A3,c3,e3,_⟩:=id hC3
 have e3':u3 = .slice A3 2 c3:=e3
 subst e3'
 clear hu1 HO1 HRE hB1 hB3 hB3a hB23 e3
 go_wp2_with (go_at_call 20;refine (num12_any _ _).mono ?_;rintro e w' ⟨rfl,rfl⟩)
 refine (HA0.out w3 hBw).mono ?_
 rintro e w4 ⟨u4,rfl,hu4,hB4⟩
 obtain ⟨A4,n4,c4,rfl⟩:=hu4.form
 obtain rfl:n4=0:=by obtain ⟨_,_,e,_⟩:=OwnA.reads hu4;injection e
 have hBw4:=below_in hBw hB4
 replace hr:=hr.next hB4
 replace hC3:=(hC3.below hB4).more hB4.size
 clear hu4 hB4 hBw HA0
 go_wp2_with fail
 refine (HA1.out w4 hBw4).mono ?_
 rintro e w5 ⟨u5,rfl,hu5,hB5⟩
 obtain ⟨A5,n5,c5,rfl⟩:=hu5.form
 have hBw5:=below_in hBw4 hB5
 replace hr:=hr.next hB5
 replace hC3:=(hC3.below hB5).more hB5.size
 have hr5:=hu5.readA
 clear hu5 hB5 hBw4 HA1
 go_wp2_with fail
 have hBa:=below_one w5 (.cells #[.int .i64 0,.int .i64 0,.int .i64 1,.int .i64 0,.int .i64 0,.int .i64 1,.int .i64 1,.int .i64 1] 31)
 refine (same_yes _ _ _ (by simp) _ (hr5.next hBa) (readA_four (a:=(0,0)) (b:=(1,0)) (c:=(0,1)) (d:=(1,1)) (Blk.new w5 _ _))).mono ?_
 rintro e w6 ⟨rfl,hB6⟩
 have hB56:=below_in hBa hB6
 have hBw6:=below_in hBw5 hB56
 replace hr:=hr.next hB56
 replace hC3:=(hC3.below hB56).more hB56.size
 clear hr5 hBa hB6 hB56 hBw5
 go_wp2_with fail
 have hBa:=below_one w6 (.cells #[.int .i64 2,.int .i64 1,.int .i64 1,.int .i64 1,.int .i64 1,.int .i64 0,.int .i64 2,.int .i64 0] 31)
 refine (same_yes _ _ _ (by simp) _ (hr.next hBa) (readA_four (a:=(2,1)) (b:=(1,1)) (c:=(1,0)) (d:=(2,0)) (Blk.new w6 _ _))).mono ?_
 rintro e w7 ⟨rfl,hB7⟩
 have hB67:=below_in hBa hB7
 have hBw7:=below_in hBw6 hB67
 have hC7:=(hC3.below hB67).more hB67.size
 clear hr hC3 hBa hB7 hB67 hBw6
 go_wp2_with fail
 have hB8:=allocs_below w7 (osQ w7)
 have hS:=same6_any (B:=w7.heap.size) (.slice A3 2 c3) (.slice (some ⟨w7.heap.size+6,0,none⟩) 2 2) [[[1],[2]],[[5],[10]]] [[[1],[2]],[[5],[10]]] (allocs w7 (osQ w7)) (hC7.below hB8) (cols_Q w7) hB8.size (Nat.le_refl _) small_Q small_Q (by simp) (by simp)
 rw [show decide ([[[(1:UInt8)],[2]],[[5],[10]]] = [[[1],[2]],[[5],[10]]])=true from rfl] at hS
 refine hS.mono ?_
 rintro e w9 ⟨rfl,hB9⟩
 have hBw9:=below_in (below_in hBw7 hB8) hB9
 clear hS hB8 hC7 hBw7 hB9
 go_wp2_with fail
 go_ret
 exact ⟨rfl,hBw9⟩
end Go.Proofs.YtcchjofjpflbhaaGreatDoor.T
