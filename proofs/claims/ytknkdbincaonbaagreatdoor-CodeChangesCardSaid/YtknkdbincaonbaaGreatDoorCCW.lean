/- -/
import Derived.Test.YtknkdbincaonbaaGreatDoorCCSA
import Derived.Test.YtknkdbincaonbaaGreatDoorCards
import Derived.Test.YtknkdbincaonbaaGreatDoorTie
import Derived.SevenTiedAt
import Derived.Test.YtknkdbincaonbaaGreatDoorCCG26
set_option linter.unusedVariables false
set_option linter.unusedSimpArgs false
set_option maxRecDepth 100000
set_option maxHeartbeats 20000000
namespace Go.Proofs.YtknkdbincaonbaaGreatDoor.codeChanges
open Go.ChangeShapes Go.WideShapes Go.ChangeAt Go.RowKit Go.Shelf
attribute [local go_sem] Oper.semAt_some

open Go.Proofs.YtknkdbincaonbaaGreatDoor.E Go.Proofs.YtknkdbincaonbaaGreatDoor.C Go.Proofs.YtknkdbincaonbaaGreatDoor.Q Go.Proofs.YtknkdbincaonbaaGreatDoor.Cd in
theorem walk (k p:Int) (v:Value) (css:List (List (List UInt8))) (x y:Int) (vc:Value) (c:List UInt8) (w:World) (hL:Laid w) (wk:-9223372036854775808≤k∧k≤9223372036854775807) (wp:-9223372036854775808≤p∧p≤9223372036854775807) (hC:Cols w.heap.size w v css) (wx:-9223372036854775808≤x∧x≤9223372036854775807) (wy:-9223372036854775808≤y∧y≤9223372036854775807) (hb:Bytes w.heap.size w vc c) :
 Calls Tryz.prog 5 #[.agg #[.int .i64 k,.int .i64 p],v,.agg #[.int .i64 x,.int .i64 y],vc] w fun e w'=>e = .returned (.bool true)∧Below w.heap.size w w':=by
 obtain ⟨A,cap,rfl,_,_⟩:=id hC
 obtain ⟨Ac,capc,rfl,_,_⟩:=id hb
 obtain ⟨g6,hg6⟩:∃ g,w.heap.size+1=g:=⟨_,rfl⟩
 obtain ⟨wb,hwb⟩:∃ wb,(w.alloc (.cells #[.int .i64 k,.int .i64 p] 24)).alloc (.cells #[.int .i64 x,.int .i64 y] 53)=wb:=⟨_,rfl⟩
 have hBz:Below w.heap.size w wb:=by rw [←hwb];exact below_two w _ _
 have bk:Blk wb w.heap.size 24 #[.int .i64 k,.int .i64 p]:=by rw [←hwb];exact (Blk.new w _ _).alloc _
 have ba:Blk wb g6 53 #[.int .i64 x,.int .i64 y]:=by rw [←hwb,←hg6];exact Blk.at_size (Blk.new _ _ _) (by simp)
 have c0:=bk.cell 0
 have c1:=bk.cell 1
 have c2:=ba.cell 0
 have c3:=ba.cell 1
 simp only [gz9] at c0 c1 c2 c3
 have hCU:∀ U,Below w.heap.size w U→Cols w.heap.size U (.slice A css.length cap) css:=fun U hU=>hC.below hU
 have hbU:∀ U,Below w.heap.size w U→Bytes w.heap.size U (.slice Ac c.length capc) c:=fun U hU=>hb.below hU
 by_cases hf:Few6 css
 case neg =>
  have HF:=Lib.hid (few6_any _ css wb (hCU _ hBz) false (by simp [hf]))
  clear hf hC hCU hb hbU
  generalize css.length=N at *
  generalize c.length=nc at *
  go_enter Tryz.func5,Tryz.ntmps5
  go_wp2_with fail
  try rw [hwb]
  try simp only [hg6]
  go_wp2_with (first
   | (go_at_call 8;refine HF.out.mono ?_;rintro e w' ⟨rfl,rfl⟩)
   | (go_at_call 9;refine (works_any _ (hL.next hBz)).mono ?_;rintro e w9 ⟨rfl,hB9⟩))
  go_ret
  exact ⟨rfl,below_in hBz hB9⟩
 have HF:=Lib.hid (few6_any _ css wb (hCU _ hBz) true (by simp [hf]))
 obtain ⟨hl1000,hjj⟩:=few_len hf
 have hcl:∀ j,j<css.length→(css[j]?.getD []).length≤1000:=fun j _=>(hjj j 0).1
 by_cases h70:70<c.length
 case pos =>
  have d1:decide ((70:Int)<(c.length:Int))=true:=decide_eq_true (by omega)
  clear hf hC hCU hb hbU hjj hcl hl1000
  generalize css.length=N at *
  generalize c.length=nc at *
  go_enter Tryz.func5,Tryz.ntmps5
  go_wp2_with fail
  try rw [hwb]
  try simp only [hg6]
  go_wp2_with (first
   | (go_at_call 8;refine HF.out.mono ?_;rintro e w' ⟨rfl,rfl⟩)
   | (go_at_call 9;refine (works_any _ (hL.next hBz)).mono ?_;rintro e w9 ⟨rfl,hB9⟩))
  go_ret
  exact ⟨rfl,below_in hBz hB9⟩
 have d1:decide ((70:Int)<(c.length:Int))=false:=decide_eq_false (by omega)
 by_cases hp11:11<p
 case pos =>
  have dp:decide (11<p)=true:=decide_eq_true hp11
  clear hf hC hCU hb hbU hjj hcl hl1000
  generalize css.length=N at *
  generalize c.length=nc at *
  go_enter Tryz.func5,Tryz.ntmps5
  go_wp2_with fail
  try rw [hwb]
  try simp only [hg6]
  go_wp2_with (first
   | (go_at_call 8;refine HF.out.mono ?_;rintro e w' ⟨rfl,rfl⟩)
   | (go_at_call 9;refine (works_any _ (hL.next hBz)).mono ?_;rintro e w9 ⟨rfl,hB9⟩))
  go_ret
  exact ⟨rfl,below_in hBz hB9⟩
 have dp:decide (11<p)=false:=decide_eq_false hp11
 by_cases hok:AllK k p css
 case neg =>
  have HCH:=Lib.hid (fun U (hU:Below w.heap.size w U)=>change_no1 (B:=w.heap.size) k p _ css x y c _ hl1000 hcl hok U (hL.next hU) hU.size (hCU U hU) (hbU U hU))
  have HR9:=Lib.hid (fun U (hU:Below w.heap.size w U)=>ref9Right_any (B:=w.heap.size) k p _ css U hU.size (hCU U hU) hl1000 false (by simp [hok]))
  clear hf hC hCU hb hbU hjj hcl hl1000 hok
  generalize css.length=N at *
  generalize c.length=nc at *
  go_enter Tryz.func5,Tryz.ntmps5
  go_wp2_with fail
  try rw [hwb]
  try simp only [hg6]
  go_wp2_with (first
   | (go_at_call 8;refine HF.out.mono ?_;rintro e w' ⟨rfl,rfl⟩)
   | (go_at_call 24;refine (HCH.out _ hBz).mono ?_;rintro e w1 ⟨rfl,hB1⟩;have hW1:=below_in hBz hB1;replace bk:=bk.below hB1 bk.lt;replace ba:=ba.below hB1 ba.lt;clear c0 c1 c2 c3;have c0:=bk.cell 0;have c1:=bk.cell 1;have c2:=ba.cell 0;have c3:=ba.cell 1;simp only [gz9] at c0 c1 c2 c3)
   | (go_at_call 14;refine (HR9.out _ hW1).mono ?_;rintro e w2 ⟨rfl,hB2⟩;have hW2:=below_in hW1 hB2;replace bk:=bk.below hB2 bk.lt;replace ba:=ba.below hB2 ba.lt;clear c0 c1 c2 c3;have c0:=bk.cell 0;have c1:=bk.cell 1;have c2:=ba.cell 0;have c3:=ba.cell 1;simp only [gz9] at c0 c1 c2 c3)
   | (go_at_call 12;refine (num_any _ _).mono ?_;rintro e w' ⟨rfl,rfl⟩)
   | (go_at_call 9;refine (works_any _ (hL.next hW2)).mono ?_;rintro e w9 ⟨rfl,hB9⟩))
  go_ret
  exact ⟨rfl,below_in hW2 hB9⟩
 have HR9:=Lib.hid (fun U (hU:Below w.heap.size w U)=>ref9Right_any (B:=w.heap.size) k p _ css U hU.size (hCU U hU) hl1000 true (by simp [hok]))
 have hR:=hok.1.1
 have hpp:=prm_bounds hR.2
 have hdn:=datN_eq hR
 have hal:=all_len hok
 have hgr:=right_grid hok.2
 have hst:=all_stripe hok
 obtain ⟨b1,off1,cq,e1,_,hb1,hrow⟩:=hC.at_ (by omega)
 injection e1 with e1 _ e1c
 subst e1
 subst e1c
 obtain ⟨u9,hu9,hm9⟩:=hrow 0 (by omega)
 have hcl0:(css[0]?.getD []).length=(p - 1).toNat:=(hgr 0 (by omega)).1
 obtain ⟨A9,cap9,rfl,_,_⟩:=id hm9
 have hR0:0<(css[0]?.getD []).length:=by rw [hcl0];omega
 obtain ⟨b9,off9,rfl,hb9,hrow9⟩:=many_at hm9 hR0
 obtain ⟨D0,cd0,hc9,hby9⟩:=hrow9 0 hR0
 rw [Nat.add_zero] at hu9 hc9
 have HU9:=Lib.hid hu9
 have HC9:Hid (w.cell? ⟨b9,off9,none⟩=some (.slice D0 (firstC css).length cd0)):=hc9
 have hR02:(0:Int)<((css[0]?.getD []).length:Int):=by omega
 have hN02:(0:Int)<(css.length:Int):=by omega
 have q6:¬ css.length=0:=by omega
 have q7:¬ (css[0]?.getD []).length=0:=by omega
 clear hrow hrow9 hu9 hc9 hby9 hm9 hcl0
 by_cases hcn:c.length=(firstC css).length
 case neg =>
  have HCH:=Lib.hid (fun U (hU:Below w.heap.size w U)=>change_no2 (B:=w.heap.size) k p _ css x y c _ hok hcn U (hL.next hU) hU.size (hCU U hU) (hbU U hU))
  have e0:((c.length:Int) != ((firstC css).length:Int))=true:=bne_iff_ne.2 (by omega)
  clear hf hC hCU hb hbU hjj hcl hl1000 hok hgr hst hcn hal
  generalize (firstC css).length=n at *
  generalize (css[0]?.getD []).length=R9 at *
  generalize css.length=N at *
  generalize c.length=nc at *
  go_enter Tryz.func5,Tryz.ntmps5
  go_wp2_with fail
  try rw [hwb]
  try simp only [hg6]
  go_wp2_with (first
   | (go_at_call 8;refine HF.out.mono ?_;rintro e w' ⟨rfl,rfl⟩)
   | (go_at_call 24;refine (HCH.out _ hBz).mono ?_;rintro e w1 ⟨rfl,hB1⟩;have hW1:=below_in hBz hB1;replace bk:=bk.below hB1 bk.lt;replace ba:=ba.below hB1 ba.lt;clear c0 c1 c2 c3;have c0:=bk.cell 0;have c1:=bk.cell 1;have c2:=ba.cell 0;have c3:=ba.cell 1;simp only [gz9] at c0 c1 c2 c3)
   | (go_at_call 14;refine (HR9.out _ hW1).mono ?_;rintro e w2 ⟨rfl,hB2⟩;have hW2:=below_in hW1 hB2;replace bk:=bk.below hB2 bk.lt;replace ba:=ba.below hB2 ba.lt;clear c0 c1 c2 c3;have c0:=bk.cell 0;have c1:=bk.cell 1;have c2:=ba.cell 0;have c3:=ba.cell 1;simp only [gz9] at c0 c1 c2 c3;have c4:=(hW2.cell (p:=⟨b1,off1,none⟩) hb1).trans HU9.out;have c5:=(hW2.cell (p:=⟨b9,off9,none⟩) hb9).trans HC9.out)
   | (go_at_call 12;refine (num_any _ _).mono ?_;rintro e w' ⟨rfl,rfl⟩)
   | (go_at_call 9;refine (works_any _ (hL.next hW2)).mono ?_;rintro e w9 ⟨rfl,hB9⟩))
  go_ret
  exact ⟨rfl,below_in hW2 hB9⟩
 have e0:((c.length:Int) != ((firstC css).length:Int))=false:=by rw [hcn];simp
 have HDA:=Lib.hid (fun (U:World)=>refData_any k p hR U)
 rw [hdn.1] at HDA
 have HTHQ:=Lib.hid (fun (U:World)=>refThere_any k p x y hR U)
 have hdnn:=hdn.1
 by_cases hh:HasCell k p x y
 case neg =>
  have HCH:=Lib.hid (fun U (hU:Below w.heap.size w U)=>change_no4 (B:=w.heap.size) k p _ css x y c _ hok hcn (fun h=>hh h.1) U (hL.next hU) hU.size (hCU U hU) (hbU U hU))
  have HTH:=Lib.hid (fun (U:World)=>(HTHQ.out U).mono fun e w' h=>(⟨h.2.1 hh,h.2.2⟩:e = .returned (.bool false)∧Below U.heap.size U w'))
  clear hf hC hCU hb hbU hjj hcl hl1000 hok hgr hst hcn hal hh HTHQ hdnn hdn
  generalize (firstC css).length=n at *
  generalize (css[0]?.getD []).length=R9 at *
  generalize datN k p=d at *
  generalize css.length=N at *
  generalize c.length=nc at *
  go_enter Tryz.func5,Tryz.ntmps5
  go_wp2_with fail
  try rw [hwb]
  try simp only [hg6]
  go_wp2_with (first
   | (go_at_call 8;refine HF.out.mono ?_;rintro e w' ⟨rfl,rfl⟩)
   | (go_at_call 24;refine (HCH.out _ hBz).mono ?_;rintro e w1 ⟨rfl,hB1⟩;have hW1:=below_in hBz hB1;replace bk:=bk.below hB1 bk.lt;replace ba:=ba.below hB1 ba.lt;clear c0 c1 c2 c3;have c0:=bk.cell 0;have c1:=bk.cell 1;have c2:=ba.cell 0;have c3:=ba.cell 1;simp only [gz9] at c0 c1 c2 c3)
   | (go_at_call 14;refine (HR9.out _ hW1).mono ?_;rintro e w2 ⟨rfl,hB2⟩;have hW2:=below_in hW1 hB2;replace bk:=bk.below hB2 bk.lt;replace ba:=ba.below hB2 ba.lt;clear c0 c1 c2 c3;have c0:=bk.cell 0;have c1:=bk.cell 1;have c2:=ba.cell 0;have c3:=ba.cell 1;simp only [gz9] at c0 c1 c2 c3;have c4:=(hW2.cell (p:=⟨b1,off1,none⟩) hb1).trans HU9.out;have c5:=(hW2.cell (p:=⟨b9,off9,none⟩) hb9).trans HC9.out))
  have HSS:Hid (∀ U,Below w2.heap.size w2 U→(fun U:World=>U.cell? ⟨w.heap.size,0,none⟩=some (.int .i64 k)∧U.cell? ⟨w.heap.size,1,none⟩=some (.int .i64 p)∧U.cell? ⟨g6,0,none⟩=some (.int .i64 x)∧U.cell? ⟨g6,1,none⟩=some (.int .i64 y)) U):=fun U hU=>⟨(bk.below hU bk.lt).cell 0,(bk.below hU bk.lt).cell 1,(ba.below hU ba.lt).cell 0,(ba.below hU ba.lt).cell 1⟩
  have hBx:Below w2.heap.size w2 w2.drew:=(Below.refl _ _).drew
  have hS:=HSS.out _ hBx
  clear c0 c1 c2 c3
  refine (wpIn_wide (n:=12)).1 (wpIn_mono (region_HF (Q:=NoPanic _) (S:=(fun U:World=>U.cell? ⟨w.heap.size,0,none⟩=some (.int .i64 k)∧U.cell? ⟨w.heap.size,1,none⟩=some (.int .i64 p)∧U.cell? ⟨g6,0,none⟩=some (.int .i64 x)∧U.cell? ⟨g6,1,none⟩=some (.int .i64 y))) (by kernel_rfl) ?_) NoPanic.imp)
  refine tkF (i:=0) (d:=55) (v:=.agg #[.int .i64 k,.int .i64 p]) (s:=hS) (c:=?_)
  simp only [ud9]
  refine tkF (i:=1) (d:=56) (v:=.agg #[.int .i64 x,.int .i64 y]) (s:=hS) (c:=?_)
  simp only [ud9]
  refine oneF (i:=2) (c:=?_)
  gi_wp2_with fail
  refine ⟨trivial,(callsIn_wide.2 (HTH.out _)).mono ?_⟩
  rintro e wn ⟨rfl,hB1⟩
  replace hBx:=below_in hBx hB1
  clear hS
  have hS:=HSS.out _ hBx
  gi_wp2
  try (refine ⟨hS,?_⟩)
  refine tkF (i:=3) (d:=58) (v:=.bool true) (s:=hS) (c:=?_)
  simp only [ud9]
  refine tkF (i:=4) (d:=59) (v:=.bool true) (s:=hS) (c:=?_)
  simp only [ud9]
  refine tkF (i:=5) (d:=60) (v:=undef) (q8:=⟨Or.inr ⟨by rfl,rfl⟩,fun _=>rfl⟩) (s:=hS) (c:=?_)
  simp only [ud9]
  refine tkF (i:=6) (d:=61) (v:=undef) (q8:=⟨Or.inr ⟨by rfl,rfl⟩,fun _=>rfl⟩) (s:=hS) (c:=?_)
  simp only [ud9]
  refine tkF (i:=7) (d:=62) (v:=undef) (q8:=⟨Or.inr ⟨by rfl,rfl⟩,fun _=>rfl⟩) (s:=hS) (c:=?_)
  simp only [ud9]
  refine anyHF_skip (i:=8) (d:=63) (by kernel_rfl) rfl (by rfl) rfl wide_fn hS ?_
  simp only [ud9]
  refine tkF (i:=9) (d:=64) (v:=undef) (q8:=⟨Or.inr ⟨by rfl,rfl⟩,fun _=>rfl⟩) (s:=hS) (c:=?_)
  simp only [ud9]
  refine tkF (i:=10) (d:=65) (v:=.bool true) (s:=hS) (c:=?_)
  simp only [ud9]
  refine oneF (i:=11) (c:=?_)
  gi_wp2
  refine anyHF_done (by kernel_rfl) ?_ _
  refine NoPanic.normal ?_
  have hW3:=below_in hW2 hBx
  clear hS HSS
  go_wp2_with (first
   | (go_at_call 12;refine (num_any _ _).mono ?_;rintro e w' ⟨rfl,rfl⟩)
   | (go_at_call 9;refine (works_any _ (hL.next hW3)).mono ?_;rintro e w9 ⟨rfl,hB9⟩))
  go_ret
  exact ⟨rfl,below_in hW3 hB9⟩
 have HTH:=Lib.hid (fun (U:World)=>(HTHQ.out U).mono fun e w' h=>(⟨h.1 hh,h.2.2⟩:e = .returned (.bool true)∧Below U.heap.size U w'))
 by_cases hxd:x<p - shortN k
 case neg =>
  have HCH:=Lib.hid (fun U (hU:Below w.heap.size w U)=>change_no4 (B:=w.heap.size) k p _ css x y c _ hok hcn (fun h=>hxd h.2) U (hL.next hU) hU.size (hCU U hU) (hbU U hU))
  have dx:decide (((datN k p:Nat):Int)≤x)=true:=decide_eq_true (by omega)
  clear hf hC hCU hb hbU hjj hcl hl1000 hok hgr hst hcn hal hh HTHQ hdnn hdn hxd
  generalize (firstC css).length=n at *
  generalize (css[0]?.getD []).length=R9 at *
  generalize datN k p=d at *
  generalize css.length=N at *
  generalize c.length=nc at *
  go_enter Tryz.func5,Tryz.ntmps5
  go_wp2_with fail
  try rw [hwb]
  try simp only [hg6]
  go_wp2_with (first
   | (go_at_call 8;refine HF.out.mono ?_;rintro e w' ⟨rfl,rfl⟩)
   | (go_at_call 24;refine (HCH.out _ hBz).mono ?_;rintro e w1 ⟨rfl,hB1⟩;have hW1:=below_in hBz hB1;replace bk:=bk.below hB1 bk.lt;replace ba:=ba.below hB1 ba.lt;clear c0 c1 c2 c3;have c0:=bk.cell 0;have c1:=bk.cell 1;have c2:=ba.cell 0;have c3:=ba.cell 1;simp only [gz9] at c0 c1 c2 c3)
   | (go_at_call 14;refine (HR9.out _ hW1).mono ?_;rintro e w2 ⟨rfl,hB2⟩;have hW2:=below_in hW1 hB2;replace bk:=bk.below hB2 bk.lt;replace ba:=ba.below hB2 ba.lt;clear c0 c1 c2 c3;have c0:=bk.cell 0;have c1:=bk.cell 1;have c2:=ba.cell 0;have c3:=ba.cell 1;simp only [gz9] at c0 c1 c2 c3;have c4:=(hW2.cell (p:=⟨b1,off1,none⟩) hb1).trans HU9.out;have c5:=(hW2.cell (p:=⟨b9,off9,none⟩) hb9).trans HC9.out))
  have HSS:Hid (∀ U,Below w2.heap.size w2 U→(fun U:World=>U.cell? ⟨w.heap.size,0,none⟩=some (.int .i64 k)∧U.cell? ⟨w.heap.size,1,none⟩=some (.int .i64 p)∧U.cell? ⟨g6,0,none⟩=some (.int .i64 x)∧U.cell? ⟨g6,1,none⟩=some (.int .i64 y)) U):=fun U hU=>⟨(bk.below hU bk.lt).cell 0,(bk.below hU bk.lt).cell 1,(ba.below hU ba.lt).cell 0,(ba.below hU ba.lt).cell 1⟩
  have hBx:Below w2.heap.size w2 w2.drew:=(Below.refl _ _).drew
  have hS:=HSS.out _ hBx
  clear c0 c1 c2 c3
  refine (wpIn_wide (n:=12)).1 (wpIn_mono (region_HF (Q:=NoPanic _) (S:=(fun U:World=>U.cell? ⟨w.heap.size,0,none⟩=some (.int .i64 k)∧U.cell? ⟨w.heap.size,1,none⟩=some (.int .i64 p)∧U.cell? ⟨g6,0,none⟩=some (.int .i64 x)∧U.cell? ⟨g6,1,none⟩=some (.int .i64 y))) (by kernel_rfl) ?_) NoPanic.imp)
  refine tkF (i:=0) (d:=55) (v:=.agg #[.int .i64 k,.int .i64 p]) (s:=hS) (c:=?_)
  simp only [ud9]
  refine tkF (i:=1) (d:=56) (v:=.agg #[.int .i64 x,.int .i64 y]) (s:=hS) (c:=?_)
  simp only [ud9]
  refine oneF (i:=2) (c:=?_)
  gi_wp2_with fail
  refine ⟨trivial,(callsIn_wide.2 (HTH.out _)).mono ?_⟩
  rintro e wn ⟨rfl,hB1⟩
  replace hBx:=below_in hBx hB1
  clear hS
  have hS:=HSS.out _ hBx
  gi_wp2
  try (refine ⟨hS,?_⟩)
  refine tkF (i:=3) (d:=58) (v:=.bool false) (s:=hS) (c:=?_)
  simp only [ud9]
  refine tkF (i:=4) (d:=59) (v:=.bool false) (s:=hS) (c:=?_)
  simp only [ud9]
  refine tkF (i:=5) (d:=60) (v:=.pointer (some ⟨g6,0,none⟩)) (s:=hS) (c:=?_)
  simp only [ud9]
  refine tkF (i:=6) (d:=61) (v:=.int .i64 x) (s:=hS) (c:=?_)
  simp only [ud9]
  refine tkF (i:=7) (d:=62) (v:=.agg #[.int .i64 k,.int .i64 p]) (s:=hS) (c:=?_)
  simp only [ud9]
  refine oneF (i:=8) (c:=?_)
  gi_wp2_with fail
  refine ⟨trivial,(callsIn_wide.2 (HDA.out _)).mono ?_⟩
  rintro e wm ⟨rfl,hB1⟩
  replace hBx:=below_in hBx hB1
  clear hS
  have hS:=HSS.out _ hBx
  gi_wp2
  try (refine ⟨hS,?_⟩)
  refine tkF (i:=9) (d:=64) (v:=.bool true) (s:=hS) (c:=?_)
  simp only [ud9]
  refine tkF (i:=10) (d:=65) (v:=.bool true) (s:=hS) (c:=?_)
  simp only [ud9]
  refine oneF (i:=11) (c:=?_)
  gi_wp2
  refine anyHF_done (by kernel_rfl) ?_ _
  refine NoPanic.normal ?_
  have hW3:=below_in hW2 hBx
  clear hS HSS
  go_wp2_with (first
   | (go_at_call 12;refine (num_any _ _).mono ?_;rintro e w' ⟨rfl,rfl⟩)
   | (go_at_call 9;refine (works_any _ (hL.next hW3)).mono ?_;rintro e w9 ⟨rfl,hB9⟩))
  go_ret
  exact ⟨rfl,below_in hW3 hB9⟩
 have dx:decide (((datN k p:Nat):Int)≤x)=false:=decide_eq_false (by omega)
 obtain ⟨X,rfl⟩:∃ X:Nat,x=(X:Int):=⟨x.toNat,by have:=hh.1.1;omega⟩
 obtain ⟨Y,rfl⟩:∃ Y:Nat,y=(Y:Int):=⟨y.toNat,by have:=hh.2.1;omega⟩
 have HCH:=Lib.hid (fun U (hU:Below w.heap.size w U)=>change_yes (B:=w.heap.size) k p _ css (X:Int) (Y:Int) c _ hok hcn ⟨hh.1.1,hxd⟩ hh.2 U (hL.next hU) hU.size (hCU U hU) (hbU U hU))
 have HRC:=Lib.hid (fun U (hU:Below w.heap.size w U)=>refChange_yes (B:=w.heap.size) k p _ css X Y c _ hok hcn (by omega) (by have:=hh.2.2;omega) U hU.size (hCU U hU) (hbU U hU))
 have hsc:=stripe_all (chgK_ok (x:=(X:Int)) (y:=(Y:Int)) (c:=c) hst ⟨hh.1.1,hxd⟩ hh.2 hcn)
 have hlc:=all_len hsc.1
 have hws:∀ j:Nat,((chgK k p css (X:Int) (Y:Int) c)[j]?.getD []).length≤1000:=fun j=>(small_right hsc.1.2 j 0).1
 have HSA:=Lib.hid (fun (U:World) (x y:Value) (hx:Cols U.heap.size U x (chgK k p css (X:Int) (Y:Int) c)) (hy:Cols U.heap.size U y (chgK k p css (X:Int) (Y:Int) c))=>same6_any x y _ _ U hx hy (Nat.le_refl _) (Nat.le_refl _) hws hws (by omega) (by omega))
 simp only [decide_true] at HSA
 have htl:=tou_len2 (x:=(X:Int)) (y:=(Y:Int)) hR
 have hXd:X<datN k p:=by omega
 have HSP:=Lib.hid (fun (U:World) (v1 v2:Value) (h1:ReadA U v1 (touL k p (X:Int) (Y:Int))) (h2:ReadA U v2 (touL k p (X:Int) (Y:Int)))=>same_yes v1 v2 _ (by omega) U h1 h2)
 clear hf hC hCU hb hbU hjj hcl hl1000 hok hgr hst hcn hal hh HTHQ hdnn hdn hxd hsc hlc hws htl
 generalize chgK k p css (X:Int) (Y:Int) c=cj at *
 generalize touL k p (X:Int) (Y:Int)=tl at *
 generalize (firstC css).length=n at *
 generalize (css[0]?.getD []).length=R9 at *
 generalize datN k p=d at *
 generalize css.length=N at *
 generalize c.length=nc at *
 go_enter Tryz.func5,Tryz.ntmps5
 go_wp2_with fail
 try rw [hwb]
 try simp only [hg6]
 go_wp2_with (first
  | (go_at_call 8;refine HF.out.mono ?_;rintro e w' ⟨rfl,rfl⟩)
  | (go_at_call 24;refine (HCH.out _ hBz).mono ?_;rintro e w1 ⟨oA,on,oc,oA2,on2,oc2,rfl,hso,hro,hB1⟩;have hW1:=below_in hBz hB1;have ho1:Cols w1.heap.size w1 (.slice oA on oc) cj:=colsR_iff.1 (colsR.imp (sepC_cols hso) fun q hq=>hq.2);clear hso;have hr1:=ReadP.readA hro;clear hro;replace bk:=bk.below hB1 bk.lt;replace ba:=ba.below hB1 ba.lt;clear c0 c1 c2 c3;have c0:=bk.cell 0;have c1:=bk.cell 1;have c2:=ba.cell 0;have c3:=ba.cell 1;simp only [gz9] at c0 c1 c2 c3)
  | (go_at_call 14;refine (HR9.out _ hW1).mono ?_;rintro e w2 ⟨rfl,hB2⟩;have hW2:=below_in hW1 hB2;replace bk:=bk.below hB2 bk.lt;replace ba:=ba.below hB2 ba.lt;clear c0 c1 c2 c3;have c0:=bk.cell 0;have c1:=bk.cell 1;have c2:=ba.cell 0;have c3:=ba.cell 1;simp only [gz9] at c0 c1 c2 c3;have c4:=(hW2.cell (p:=⟨b1,off1,none⟩) hb1).trans HU9.out;have c5:=(hW2.cell (p:=⟨b9,off9,none⟩) hb9).trans HC9.out))
 have HSS:Hid (∀ U,Below w2.heap.size w2 U→(fun U:World=>U.cell? ⟨w.heap.size,0,none⟩=some (.int .i64 k)∧U.cell? ⟨w.heap.size,1,none⟩=some (.int .i64 p)∧U.cell? ⟨g6,0,none⟩=some (.int .i64 (X:Int))∧U.cell? ⟨g6,1,none⟩=some (.int .i64 (Y:Int))) U):=fun U hU=>⟨(bk.below hU bk.lt).cell 0,(bk.below hU bk.lt).cell 1,(ba.below hU ba.lt).cell 0,(ba.below hU ba.lt).cell 1⟩
 have hBx:Below w2.heap.size w2 w2.drew:=(Below.refl _ _).drew
 have hS:=HSS.out _ hBx
 clear c0 c1 c2 c3
 refine (wpIn_wide (n:=12)).1 (wpIn_mono (region_HF (Q:=NoPanic _) (S:=(fun U:World=>U.cell? ⟨w.heap.size,0,none⟩=some (.int .i64 k)∧U.cell? ⟨w.heap.size,1,none⟩=some (.int .i64 p)∧U.cell? ⟨g6,0,none⟩=some (.int .i64 (X:Int))∧U.cell? ⟨g6,1,none⟩=some (.int .i64 (Y:Int)))) (by kernel_rfl) ?_) NoPanic.imp)
 refine tkF (i:=0) (d:=55) (v:=.agg #[.int .i64 k,.int .i64 p]) (s:=hS) (c:=?_)
 simp only [ud9]
 refine tkF (i:=1) (d:=56) (v:=.agg #[.int .i64 (X:Int),.int .i64 (Y:Int)]) (s:=hS) (c:=?_)
 simp only [ud9]
 refine oneF (i:=2) (c:=?_)
 gi_wp2_with fail
 refine ⟨trivial,(callsIn_wide.2 (HTH.out _)).mono ?_⟩
 rintro e wn ⟨rfl,hB1⟩
 replace hBx:=below_in hBx hB1
 clear hS
 have hS:=HSS.out _ hBx
 gi_wp2
 try (refine ⟨hS,?_⟩)
 refine tkF (i:=3) (d:=58) (v:=.bool false) (s:=hS) (c:=?_)
 simp only [ud9]
 refine tkF (i:=4) (d:=59) (v:=.bool false) (s:=hS) (c:=?_)
 simp only [ud9]
 refine tkF (i:=5) (d:=60) (v:=.pointer (some ⟨g6,0,none⟩)) (s:=hS) (c:=?_)
 simp only [ud9]
 refine tkF (i:=6) (d:=61) (v:=.int .i64 (X:Int)) (s:=hS) (c:=?_)
 simp only [ud9]
 refine tkF (i:=7) (d:=62) (v:=.agg #[.int .i64 k,.int .i64 p]) (s:=hS) (c:=?_)
 simp only [ud9]
 refine oneF (i:=8) (c:=?_)
 gi_wp2_with fail
 refine ⟨trivial,(callsIn_wide.2 (HDA.out _)).mono ?_⟩
 rintro e wm ⟨rfl,hB1⟩
 replace hBx:=below_in hBx hB1
 clear hS
 have hS:=HSS.out _ hBx
 gi_wp2
 try (refine ⟨hS,?_⟩)
 refine tkF (i:=9) (d:=64) (v:=.bool false) (s:=hS) (c:=?_)
 simp only [ud9]
 refine tkF (i:=10) (d:=65) (v:=.bool false) (s:=hS) (c:=?_)
 simp only [ud9]
 refine oneF (i:=11) (c:=?_)
 gi_wp2
 refine anyHF_done (by kernel_rfl) ?_ _
 refine NoPanic.normal ?_
 have hW3:=below_in hW2 hBx
 clear hS HSS
 replace bk:=bk.below hBx bk.lt
 replace ba:=ba.below hBx ba.lt
 have c0:=bk.cell 0
 have c1:=bk.cell 1
 have c2:=ba.cell 0
 have c3:=ba.cell 1
 simp only [gz9] at c0 c1 c2 c3
 have hB13:=below_in hB2 hBx
 go_wp2_with (first
  | (go_at_call 26;refine (HRC.out _ hW3).mono ?_;rintro e w5 ⟨qA,qn,qc,u2,rfl,hq5,hr5,hB5⟩;have hW5:=below_in hW3 hB5;have hB15:=below_in hB13 hB5;have ho5:=Cols.more (ho1.below hB15) hB15.size;have hr15:=hr1.next hB15;obtain ⟨uq,ucap,rfl,_⟩:=id hr5)
  | (go_at_call 19;refine (HSA.out _ _ _ ho5 hq5).mono ?_;rintro e w6 ⟨rfl,hB6⟩;have hW6:=below_in hW5 hB6;have hr6:=hr15.next hB6;have hr56:=hr5.next hB6)
  | (go_at_call 27;refine (HSP.out _ _ _ hr6 hr56).mono ?_;rintro e w7 ⟨rfl,hB7⟩;have hW7:=below_in hW6 hB7)
  | (go_at_call 12;refine (num_any _ _).mono ?_;rintro e w' ⟨rfl,rfl⟩)
  | (go_at_call 9;refine (works_any _ (hL.next hW7)).mono ?_;rintro e w9 ⟨rfl,hB9⟩))
 go_ret
 exact ⟨rfl,below_in hW7 hB9⟩

end Go.Proofs.YtknkdbincaonbaaGreatDoor.codeChanges
