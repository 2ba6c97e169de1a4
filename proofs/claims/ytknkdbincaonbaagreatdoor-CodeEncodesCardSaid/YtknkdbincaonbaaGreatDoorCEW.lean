/- -/
import Derived.Test.YtknkdbincaonbaaGreatDoorCESA
import Derived.Test.YtknkdbincaonbaaGreatDoorCards
import Derived.Test.YtknkdbincaonbaaGreatDoorTie
import Derived.SevenTiedAt
import Derived.Test.YtknkdbincaonbaaGreatDoorCEG26
import Derived.Test.YtknkdbincaonbaaGreatDoorCEG13
import Derived.Test.YtknkdbincaonbaaGreatDoorCEG27
set_option linter.unusedVariables false
set_option linter.unusedSimpArgs false
set_option maxRecDepth 100000
set_option maxHeartbeats 20000000
namespace Go.Proofs.YtknkdbincaonbaaGreatDoor.codeEncodes
open Go.ChangeShapes Go.WideShapes Go.ChangeAt Go.RowKit Go.Shelf
attribute [local go_sem] Oper.semAt_some

open Go.Proofs.YtknkdbincaonbaaGreatDoor.E Go.Proofs.YtknkdbincaonbaaGreatDoor.C Go.Proofs.YtknkdbincaonbaaGreatDoor.Q Go.Proofs.YtknkdbincaonbaaGreatDoor.Cd in
theorem walk (k p:Int) (v:Value) (css:List (List (List UInt8))) (w:World) (hL:Laid w) (wk:-9223372036854775808≤k∧k≤9223372036854775807) (wp:-9223372036854775808≤p∧p≤9223372036854775807) (hC:Cols w.heap.size w v css) :
 Calls Tryz.prog 3 #[.agg #[.int .i64 k,.int .i64 p],v] w fun e w'=>e = .returned (.bool true)∧Below w.heap.size w w':=by
 obtain ⟨A,cap,rfl,_,_⟩:=id hC
 have hBz:=below_one w (.cells #[.int .i64 k,.int .i64 p] 24)
 have bz:=Blk.new w 24 #[.int .i64 k,.int .i64 p]
 obtain ⟨wb,hwb⟩:∃ wb,w.alloc (.cells #[.int .i64 k,.int .i64 p] 24)=wb:=⟨_,rfl⟩
 rw [hwb] at hBz bz
 have c0:=bz.cell 0
 have c1:=bz.cell 1
 simp only [gz9] at c0 c1
 have hCb:=hC.below hBz
 have hLb:=hL.next hBz
 by_cases hf:Few6 css
 case neg =>
  have HF:=Lib.hid (few6_any _ css wb hCb false (by simp [hf]))
  clear hf hC hCb
  go_enter Tryz.func3,Tryz.ntmps3
  go_wp2_with (first
   | (go_at_call 8;refine HF.out.mono ?_;rintro e w' ⟨rfl,rfl⟩)
   | (go_at_call 9;refine (works_any _ (hL.next hBz)).mono ?_;rintro e w9 ⟨rfl,hB9⟩))
  go_ret
  exact ⟨rfl,below_in hBz hB9⟩
 have HF:=Lib.hid (few6_any _ css wb hCb true (by simp [hf]))
 obtain ⟨hl1000,hjj⟩:=few_len hf
 have hcl:∀ j,j<css.length→(css[j]?.getD []).length≤1000:=fun j _=>(hjj j 0).1
 have HRT:=Lib.hid (fun (U:World)=>refRight_any k p U)
 have hCU:∀ U,Below w.heap.size w U→Cols w.heap.size U (.slice A css.length cap) css:=fun U hU=>hC.below hU
 by_cases hok:AllK k p css
 case pos =>
  have hR:=hok.1.1
  obtain ⟨u1,u2,u3,u4,u5,u6⟩:=hR.und
  have hne:(css.length:Int)≠p - shortN k:=by have:=hok.1.2;omega
  have hno:¬ DataK k p css:=fun h=>hne h.1.2
  have hnn:((css.length:Int) != p - shortN k)=true:=bne_iff_ne.2 hne
  have HEN:=Lib.hid (fun U (hU:Below w.heap.size w U)=>encode_no (B:=w.heap.size) k p _ css U (hL.next hU) hU.size (hCU U hU) hl1000 hcl hno)
  have HDT:=Lib.hid (fun U (hU:Below w.heap.size w U)=>data_yes (B:=w.heap.size) k p _ css hok U (hL.next hU) hU.size (hCU U hU))
  have HRI:=Lib.hid (fun U (hU:Below w.heap.size w U)=>right_yes (B:=w.heap.size) k p _ css U (hL.next hU) hU.size (hCU U hU) hl1000 hok)
  have HR9:=Lib.hid (fun U (hU:Below w.heap.size w U)=>ref9Right_any (B:=w.heap.size) k p _ css U hU.size (hCU U hU) hl1000 true (by simp [hok]))
  have HD9:=Lib.hid (fun U (hU:Below w.heap.size w U)=>refData9_any (B:=w.heap.size) k p _ css hok U hU.size (hCU U hU))
  have HDA:=Lib.hid (fun (U:World)=>refData_any k p hR U)
  clear hf hC hCb hok hno hjj hcl hne hCU
  generalize dataL (datN k p) (p - 1).toNat css=bl at *
  generalize css.length=N at *
  go_enter Tryz.func3,Tryz.ntmps3
  go_wp2_with (first
   | (go_at_call 8;refine HF.out.mono ?_;rintro e w' ⟨rfl,rfl⟩)
   | (go_at_call 10;refine (HEN.out _ hBz).mono ?_;rintro e w1 ⟨rfl,hB1⟩;have hW1:=below_in hBz hB1;replace bz:=bz.below hB1 bz.lt;clear c0 c1;have c0:=bz.cell 0;have c1:=bz.cell 1;simp only [gz9] at c0 c1)
   | (go_at_call 11;refine (HDT.out _ hW1).mono ?_;rintro e w2 ⟨u2,rfl,hfr,hB2⟩;have hW2:=below_in hW1 hB2;replace bz:=bz.below hB2 bz.lt;clear c0 c1;have c0:=bz.cell 0;have c1:=bz.cell 1;simp only [gz9] at c0 c1;have hbb:=Fresh.bytes hfr;clear hfr;obtain ⟨Au,cu,hue,_,_⟩:=id hbb;obtain ⟨nu,hnu⟩:∃ nu,bl.length=nu:=⟨_,rfl⟩;rw [hnu] at hue;have HNU:=Lib.hid hnu;clear hnu;subst hue))
  have HSS:Hid (∀ U,Below w2.heap.size w2 U→(fun U:World=>U.cell? ⟨w.heap.size,0,none⟩=some (.int .i64 k)∧U.cell? ⟨w.heap.size,1,none⟩=some (.int .i64 p)) U):=fun U hU=>⟨((bz.below hU bz.lt)).cell 0,((bz.below hU bz.lt)).cell 1⟩
  have hBx:Below w2.heap.size w2 w2.drew:=(Below.refl _ _).drew
  have hS:=HSS.out _ hBx
  refine (wpIn_wide (n:=12)).1 (wpIn_mono (region_HF (Q:=NoPanic _) (S:=(fun U:World=>U.cell? ⟨w.heap.size,0,none⟩=some (.int .i64 k)∧U.cell? ⟨w.heap.size,1,none⟩=some (.int .i64 p))) (by kernel_rfl) ?_) NoPanic.imp)
  refine tkF (i:=0) (d:=25) (v:=.agg #[.int .i64 k,.int .i64 p]) (s:=hS) (c:=?_)
  simp only [ud9]
  refine tkF (i:=1) (d:=26) (v:=.slice A N cap) (s:=hS) (c:=?_)
  simp only [ud9]
  refine tkF (i:=5) (d:=30) (v:=.agg #[.int .i64 k,.int .i64 p]) (s:=hS) (c:=?_)
  simp only [ud9]
  refine tkF (i:=6) (d:=31) (v:=.slice A N cap) (s:=hS) (c:=?_)
  simp only [ud9]
  refine oneF (i:=2) (c:=?_)
  gi_wp2_with fail
  refine ⟨trivial,(callsIn_wide.2 (HRI.out _ (below_in hW2 hBx))).mono ?_⟩
  rintro e wn ⟨rfl,hBq⟩
  replace hBx:=below_in hBx hBq
  clear hS
  have hS:=HSS.out _ hBx
  gi_wp2
  try (refine ⟨hS,?_⟩)
  refine oneF (i:=3) (c:=?_)
  gi_wp2_with fail
  refine ⟨trivial,(callsIn_wide.2 (num_any _ _)).mono ?_⟩
  rintro e wz ⟨rfl,rfl⟩
  gi_wp2
  try (refine ⟨hS,?_⟩)
  refine tkF (i:=4) (d:=29) (v:=.bool true) (s:=hS) (c:=?_)
  simp only [ud9]
  refine oneF (i:=7) (c:=?_)
  gi_wp2_with fail
  refine ⟨trivial,(callsIn_wide.2 (HR9.out _ (below_in hW2 hBx))).mono ?_⟩
  rintro e wm ⟨rfl,hBq⟩
  replace hBx:=below_in hBx hBq
  clear hS
  have hS:=HSS.out _ hBx
  gi_wp2
  try (refine ⟨hS,?_⟩)
  refine tkF (i:=8) (d:=33) (v:=.bool false) (s:=hS) (c:=?_)
  simp only [ud9]
  refine tkF (i:=9) (d:=34) (v:=.bool false) (s:=hS) (c:=?_)
  simp only [ud9]
  refine tkF (i:=10) (d:=35) (v:=.agg #[.int .i64 k,.int .i64 p]) (s:=hS) (c:=?_)
  simp only [ud9]
  refine tkF (i:=11) (d:=36) (v:=.slice A N cap) (s:=hS) (c:=?_)
  simp only [ud9]
  refine oneF (i:=12) (c:=?_)
  gi_wp2_with fail
  refine ⟨trivial,(callsIn_wide.2 (HR9.out _ (below_in hW2 hBx))).mono ?_⟩
  rintro e wm ⟨rfl,hBq⟩
  replace hBx:=below_in hBx hBq
  clear hS
  have hS:=HSS.out _ hBx
  gi_wp2
  try (refine ⟨hS,?_⟩)
  refine tkF (i:=13) (d:=38) (v:=.bool false) (s:=hS) (c:=?_)
  simp only [ud9]
  refine tkF (i:=14) (d:=39) (v:=.bool false) (s:=hS) (c:=?_)
  simp only [ud9]
  refine tkF (i:=15) (d:=40) (v:=undef) (q8:=⟨Or.inr ⟨by rfl,rfl⟩,fun _=>rfl⟩) (s:=hS) (c:=?_)
  simp only [ud9]
  refine tkF (i:=16) (d:=41) (v:=undef) (q8:=⟨Or.inr ⟨by rfl,rfl⟩,fun _=>rfl⟩) (s:=hS) (c:=?_)
  simp only [ud9]
  refine anyHF_skip (i:=17) (d:=42) (by kernel_rfl) rfl (by rfl) rfl wide_fn hS ?_
  simp only [ud9]
  refine anyHF_skip (i:=18) (d:=43) (by kernel_rfl) rfl (by rfl) rfl wide_fn hS ?_
  simp only [ud9]
  refine tkF (i:=19) (d:=44) (v:=undef) (q8:=⟨Or.inr ⟨by rfl,rfl⟩,fun _=>rfl⟩) (s:=hS) (c:=?_)
  simp only [ud9]
  refine tkF (i:=20) (d:=45) (v:=.bool false) (s:=hS) (c:=?_)
  simp only [ud9]
  refine tkF (i:=21) (d:=46) (v:=.bool false) (s:=hS) (c:=?_)
  simp only [ud9]
  refine anyHF_done (by kernel_rfl) ?_ _
  refine NoPanic.normal ?_
  go_wp2_with (first
   | (go_at_call 14;refine (HR9.out _ (below_in hW2 hBx)).mono ?_;rintro e w3 ⟨rfl,hB3⟩;have hW3:=below_in (below_in hW2 hBx) hB3;replace bz:=(bz.below hBx bz.lt).below hB3 (bz.below hBx bz.lt).lt;have hb3:Bytes w3.heap.size w3 (.slice Au nu cu) bl:=by have h9:=hbb.below (below_in hBx hB3);exact Bytes.more h9 (below_in hBx hB3).size))
  clear hS HSS
  have HSS:Hid (∀ U,Below w3.heap.size w3 U→(fun U:World=>U.cell? ⟨w.heap.size,0,none⟩=some (.int .i64 k)∧U.cell? ⟨w.heap.size,1,none⟩=some (.int .i64 p)∧(convert 32 9 (.slice Au nu cu)).run Tryz.prog U = .ok (.string (text bl)) U) U):=fun U hU=>⟨(bz.below hU bz.lt).cell 0,(bz.below hU bz.lt).cell 1,run_txt U (hb3.below hU)⟩
  clear hBx
  have hBx:Below w3.heap.size w3 w3.drew:=(Below.refl _ _).drew
  have hS:=HSS.out _ hBx
  refine (wpIn_wide (n:=12)).1 (wpIn_mono (region_HF (Q:=NoPanic _) (S:=(fun U:World=>U.cell? ⟨w.heap.size,0,none⟩=some (.int .i64 k)∧U.cell? ⟨w.heap.size,1,none⟩=some (.int .i64 p)∧(convert 32 9 (.slice Au nu cu)).run Tryz.prog U = .ok (.string (text bl)) U)) (by kernel_rfl) ?_) NoPanic.imp)
  refine tkF (i:=0) (d:=50) (v:=.slice Au nu cu) (s:=hS) (c:=?_)
  simp only [ud9]
  refine tkF (i:=1) (d:=51) (v:=.string (text bl)) (s:=hS) (c:=?_)
  simp only [ud9]
  refine tkF (i:=2) (d:=52) (v:=.agg #[.int .i64 k,.int .i64 p]) (s:=hS) (c:=?_)
  simp only [ud9]
  refine tkF (i:=3) (d:=53) (v:=.slice A N cap) (s:=hS) (c:=?_)
  simp only [ud9]
  refine oneF (i:=4) (c:=?_)
  gi_wp2_with fail
  refine ⟨trivial,(callsIn_wide.2 (HD9.out _ (below_in hW3 hBx))).mono ?_⟩
  rintro e wv ⟨u9,rfl,hu9,hBq⟩
  have t2:=run_txt wv hu9
  obtain ⟨Av,cv,hve,_,_⟩:=id hu9
  generalize hnv:bl.length=nv at hve
  subst hve
  replace hBx:=below_in hBx hBq
  clear hS
  have hS:=HSS.out _ hBx
  gi_wp2
  try (refine ⟨hS,?_⟩)
  refine oneF (i:=5) (c:=?_)
  gi_wp2
  try (refine ⟨hS,?_⟩)
  refine tkF (i:=6) (d:=56) (v:=.bool false) (s:=hS) (c:=?_)
  simp only [ud9]
  refine tkF (i:=7) (d:=57) (v:=.bool false) (s:=hS) (c:=?_)
  simp only [ud9]
  refine tkF (i:=8) (d:=58) (v:=.int .i64 0) (s:=hS) (c:=?_)
  simp only [ud9]
  refine oneF (i:=9) (c:=?_)
  gi_wp2_with fail
  refine ⟨trivial,(callsIn_wide.2 (num_any _ _)).mono ?_⟩
  rintro e wz ⟨rfl,rfl⟩
  gi_wp2
  try (refine ⟨hS,?_⟩)
  refine tkF (i:=10) (d:=60) (v:=.bool false) (s:=hS) (c:=?_)
  simp only [ud9]
  refine tkF (i:=11) (d:=61) (v:=.bool false) (s:=hS) (c:=?_)
  simp only [ud9]
  refine anyHF_done (by kernel_rfl) ?_ _
  refine NoPanic.normal ?_
  have hW4:=below_in hW3 hBx
  replace bz:=bz.below hBx bz.lt
  have c0:=bz.cell 0
  have c1:=bz.cell 1
  simp only [gz9] at c0 c1
  clear hS HSS t2 hu9 HD9 HDT HEN
  go_wp2_with (first
   | (go_at_call 16;refine (HRT.out _).mono ?_;rintro e w5 ⟨h1,h2,hB5⟩;obtain rfl:=h1 hR;have hW5:=below_in hW4 hB5;replace bz:=bz.below hB5 bz.lt;clear c0 c1;have c0:=bz.cell 0;have c1:=bz.cell 1;simp only [gz9] at c0 c1)
   | (go_at_call 17;refine (HDA.out _).mono ?_;rintro e w6 ⟨rfl,hB6⟩;have hW6:=below_in hW5 hB6)
   | (go_at_call 12;refine (num_any _ _).mono ?_;rintro e w' ⟨rfl,rfl⟩)
   | (go_at_call 9;refine (works_any _ (hL.next hW6)).mono ?_;rintro e w9 ⟨rfl,hB9⟩))
  go_ret
  exact ⟨rfl,below_in hW6 hB9⟩
 have HDT:=Lib.hid (fun U (hU:Below w.heap.size w U)=>data_no (B:=w.heap.size) k p _ css U (hL.next hU) hU.size (hCU U hU) hl1000 hcl hok)
 have HRI:=Lib.hid (fun U (hU:Below w.heap.size w U)=>right_no (B:=w.heap.size) k p _ css U (hL.next hU) hU.size (hCU U hU) hl1000 hcl hok)
 have HR9:=Lib.hid (fun U (hU:Below w.heap.size w U)=>ref9Right_any (B:=w.heap.size) k p _ css U hU.size (hCU U hU) hl1000 false (by simp [hok]))
 by_cases hR:RightC k p
 case neg =>
  have HEN:=Lib.hid (fun U (hU:Below w.heap.size w U)=>encode_no (B:=w.heap.size) k p _ css U (hL.next hU) hU.size (hCU U hU) hl1000 hcl (fun h=>hR h.1.1))
  clear hf hC hCb hok hjj hcl hCU
  generalize css.length=N at *
  go_enter Tryz.func3,Tryz.ntmps3
  go_wp2_with (first
   | (go_at_call 8;refine HF.out.mono ?_;rintro e w' ⟨rfl,rfl⟩)
   | (go_at_call 10;refine (HEN.out _ hBz).mono ?_;rintro e w1 ⟨rfl,hB1⟩;have hW1:=below_in hBz hB1;replace bz:=bz.below hB1 bz.lt;clear c0 c1;have c0:=bz.cell 0;have c1:=bz.cell 1;simp only [gz9] at c0 c1)
   | (go_at_call 11;refine (HDT.out _ hW1).mono ?_;rintro e w2 ⟨rfl,hB2⟩;have hW2:=below_in hW1 hB2;replace bz:=bz.below hB2 bz.lt;clear c0 c1;have c0:=bz.cell 0;have c1:=bz.cell 1;simp only [gz9] at c0 c1))
  have HSS:Hid (∀ U,Below w2.heap.size w2 U→(fun U:World=>U.cell? ⟨w.heap.size,0,none⟩=some (.int .i64 k)∧U.cell? ⟨w.heap.size,1,none⟩=some (.int .i64 p)) U):=fun U hU=>⟨((bz.below hU bz.lt)).cell 0,((bz.below hU bz.lt)).cell 1⟩
  have hBx:Below w2.heap.size w2 w2.drew:=(Below.refl _ _).drew
  have hS:=HSS.out _ hBx
  refine (wpIn_wide (n:=12)).1 (wpIn_mono (region_HF (Q:=NoPanic _) (S:=(fun U:World=>U.cell? ⟨w.heap.size,0,none⟩=some (.int .i64 k)∧U.cell? ⟨w.heap.size,1,none⟩=some (.int .i64 p))) (by kernel_rfl) ?_) NoPanic.imp)
  refine tkF (i:=0) (d:=25) (v:=.agg #[.int .i64 k,.int .i64 p]) (s:=hS) (c:=?_)
  simp only [ud9]
  refine tkF (i:=1) (d:=26) (v:=.slice A N cap) (s:=hS) (c:=?_)
  simp only [ud9]
  refine tkF (i:=5) (d:=30) (v:=.agg #[.int .i64 k,.int .i64 p]) (s:=hS) (c:=?_)
  simp only [ud9]
  refine tkF (i:=6) (d:=31) (v:=.slice A N cap) (s:=hS) (c:=?_)
  simp only [ud9]
  refine oneF (i:=2) (c:=?_)
  gi_wp2_with fail
  refine ⟨trivial,(callsIn_wide.2 (HRI.out _ (below_in hW2 hBx))).mono ?_⟩
  rintro e wn ⟨rfl,hBq⟩
  replace hBx:=below_in hBx hBq
  clear hS
  have hS:=HSS.out _ hBx
  gi_wp2
  try (refine ⟨hS,?_⟩)
  refine oneF (i:=3) (c:=?_)
  gi_wp2_with fail
  refine ⟨trivial,(callsIn_wide.2 (num_any _ _)).mono ?_⟩
  rintro e wz ⟨rfl,rfl⟩
  gi_wp2
  try (refine ⟨hS,?_⟩)
  refine tkF (i:=4) (d:=29) (v:=.bool false) (s:=hS) (c:=?_)
  simp only [ud9]
  refine oneF (i:=7) (c:=?_)
  gi_wp2_with fail
  refine ⟨trivial,(callsIn_wide.2 (HR9.out _ (below_in hW2 hBx))).mono ?_⟩
  rintro e wm ⟨rfl,hBq⟩
  replace hBx:=below_in hBx hBq
  clear hS
  have hS:=HSS.out _ hBx
  gi_wp2
  try (refine ⟨hS,?_⟩)
  refine tkF (i:=8) (d:=33) (v:=.bool false) (s:=hS) (c:=?_)
  simp only [ud9]
  refine tkF (i:=9) (d:=34) (v:=.bool false) (s:=hS) (c:=?_)
  simp only [ud9]
  refine tkF (i:=10) (d:=35) (v:=.agg #[.int .i64 k,.int .i64 p]) (s:=hS) (c:=?_)
  simp only [ud9]
  refine tkF (i:=11) (d:=36) (v:=.slice A N cap) (s:=hS) (c:=?_)
  simp only [ud9]
  refine oneF (i:=12) (c:=?_)
  gi_wp2_with fail
  refine ⟨trivial,(callsIn_wide.2 (HR9.out _ (below_in hW2 hBx))).mono ?_⟩
  rintro e wm ⟨rfl,hBq⟩
  replace hBx:=below_in hBx hBq
  clear hS
  have hS:=HSS.out _ hBx
  gi_wp2
  try (refine ⟨hS,?_⟩)
  refine tkF (i:=13) (d:=38) (v:=.bool true) (s:=hS) (c:=?_)
  simp only [ud9]
  refine tkF (i:=14) (d:=39) (v:=.bool true) (s:=hS) (c:=?_)
  simp only [ud9]
  refine tkF (i:=15) (d:=40) (v:=.agg #[.int .i64 k,.int .i64 p]) (s:=hS) (c:=?_)
  simp only [ud9]
  refine tkF (i:=16) (d:=41) (v:=.slice A N cap) (s:=hS) (c:=?_)
  simp only [ud9]
  refine oneF (i:=17) (c:=?_)
  gi_wp2_with fail
  refine ⟨trivial,(callsIn_wide.2 (HRI.out _ (below_in hW2 hBx))).mono ?_⟩
  rintro e wn ⟨rfl,hBq⟩
  replace hBx:=below_in hBx hBq
  clear hS
  have hS:=HSS.out _ hBx
  gi_wp2
  try (refine ⟨hS,?_⟩)
  refine oneF (i:=18) (c:=?_)
  gi_wp2_with fail
  refine ⟨trivial,(callsIn_wide.2 (num_any _ _)).mono ?_⟩
  rintro e wz ⟨rfl,rfl⟩
  gi_wp2
  try (refine ⟨hS,?_⟩)
  refine tkF (i:=19) (d:=44) (v:=.bool false) (s:=hS) (c:=?_)
  simp only [ud9]
  refine tkF (i:=20) (d:=45) (v:=.bool false) (s:=hS) (c:=?_)
  simp only [ud9]
  refine tkF (i:=21) (d:=46) (v:=.bool false) (s:=hS) (c:=?_)
  simp only [ud9]
  refine anyHF_done (by kernel_rfl) ?_ _
  refine NoPanic.normal ?_
  have hW3:=below_in hW2 hBx
  replace bz:=bz.below hBx bz.lt
  have c0:=bz.cell 0
  have c1:=bz.cell 1
  simp only [gz9] at c0 c1
  clear hS HSS HDT HRI
  go_wp2_with (first
   | (go_at_call 14;refine (HR9.out _ hW3).mono ?_;rintro e w4 ⟨rfl,hB4⟩;have hW4:=below_in hW3 hB4;replace bz:=bz.below hB4 bz.lt;clear c0 c1;have c0:=bz.cell 0;have c1:=bz.cell 1;simp only [gz9] at c0 c1)
   | (go_at_call 12;refine (num_any _ _).mono ?_;rintro e w' ⟨rfl,rfl⟩)
   | (go_at_call 16;refine (HRT.out _).mono ?_;rintro e w5 ⟨h1,h2,hB5⟩;obtain rfl:=h2 hR;have hW5:=below_in hW4 hB5;replace bz:=bz.below hB5 bz.lt;clear c0 c1;have c0:=bz.cell 0;have c1:=bz.cell 1;simp only [gz9] at c0 c1)
   | (go_at_call 9;refine (works_any _ (hL.next hW5)).mono ?_;rintro e w9 ⟨rfl,hB9⟩))
  go_ret
  exact ⟨rfl,below_in hW5 hB9⟩
 have HDA:=Lib.hid (fun (U:World)=>refData_any k p hR U)
 by_cases hn:(css.length:Int)=p - shortN k
 case neg =>
  have hnn:((css.length:Int) != p - shortN k)=true:=bne_iff_ne.2 hn
  have HEN:=Lib.hid (fun U (hU:Below w.heap.size w U)=>encode_no (B:=w.heap.size) k p _ css U (hL.next hU) hU.size (hCU U hU) hl1000 hcl (fun h=>hn h.1.2))
  clear hf hC hCb hok hjj hcl hCU hn
  generalize css.length=N at *
  go_enter Tryz.func3,Tryz.ntmps3
  go_wp2_with (first
   | (go_at_call 8;refine HF.out.mono ?_;rintro e w' ⟨rfl,rfl⟩)
   | (go_at_call 10;refine (HEN.out _ hBz).mono ?_;rintro e w1 ⟨rfl,hB1⟩;have hW1:=below_in hBz hB1;replace bz:=bz.below hB1 bz.lt;clear c0 c1;have c0:=bz.cell 0;have c1:=bz.cell 1;simp only [gz9] at c0 c1)
   | (go_at_call 11;refine (HDT.out _ hW1).mono ?_;rintro e w2 ⟨rfl,hB2⟩;have hW2:=below_in hW1 hB2;replace bz:=bz.below hB2 bz.lt;clear c0 c1;have c0:=bz.cell 0;have c1:=bz.cell 1;simp only [gz9] at c0 c1))
  have HSS:Hid (∀ U,Below w2.heap.size w2 U→(fun U:World=>U.cell? ⟨w.heap.size,0,none⟩=some (.int .i64 k)∧U.cell? ⟨w.heap.size,1,none⟩=some (.int .i64 p)) U):=fun U hU=>⟨((bz.below hU bz.lt)).cell 0,((bz.below hU bz.lt)).cell 1⟩
  have hBx:Below w2.heap.size w2 w2.drew:=(Below.refl _ _).drew
  have hS:=HSS.out _ hBx
  refine (wpIn_wide (n:=12)).1 (wpIn_mono (region_HF (Q:=NoPanic _) (S:=(fun U:World=>U.cell? ⟨w.heap.size,0,none⟩=some (.int .i64 k)∧U.cell? ⟨w.heap.size,1,none⟩=some (.int .i64 p))) (by kernel_rfl) ?_) NoPanic.imp)
  refine tkF (i:=0) (d:=25) (v:=.agg #[.int .i64 k,.int .i64 p]) (s:=hS) (c:=?_)
  simp only [ud9]
  refine tkF (i:=1) (d:=26) (v:=.slice A N cap) (s:=hS) (c:=?_)
  simp only [ud9]
  refine tkF (i:=5) (d:=30) (v:=.agg #[.int .i64 k,.int .i64 p]) (s:=hS) (c:=?_)
  simp only [ud9]
  refine tkF (i:=6) (d:=31) (v:=.slice A N cap) (s:=hS) (c:=?_)
  simp only [ud9]
  refine oneF (i:=2) (c:=?_)
  gi_wp2_with fail
  refine ⟨trivial,(callsIn_wide.2 (HRI.out _ (below_in hW2 hBx))).mono ?_⟩
  rintro e wn ⟨rfl,hBq⟩
  replace hBx:=below_in hBx hBq
  clear hS
  have hS:=HSS.out _ hBx
  gi_wp2
  try (refine ⟨hS,?_⟩)
  refine oneF (i:=3) (c:=?_)
  gi_wp2_with fail
  refine ⟨trivial,(callsIn_wide.2 (num_any _ _)).mono ?_⟩
  rintro e wz ⟨rfl,rfl⟩
  gi_wp2
  try (refine ⟨hS,?_⟩)
  refine tkF (i:=4) (d:=29) (v:=.bool false) (s:=hS) (c:=?_)
  simp only [ud9]
  refine oneF (i:=7) (c:=?_)
  gi_wp2_with fail
  refine ⟨trivial,(callsIn_wide.2 (HR9.out _ (below_in hW2 hBx))).mono ?_⟩
  rintro e wm ⟨rfl,hBq⟩
  replace hBx:=below_in hBx hBq
  clear hS
  have hS:=HSS.out _ hBx
  gi_wp2
  try (refine ⟨hS,?_⟩)
  refine tkF (i:=8) (d:=33) (v:=.bool false) (s:=hS) (c:=?_)
  simp only [ud9]
  refine tkF (i:=9) (d:=34) (v:=.bool false) (s:=hS) (c:=?_)
  simp only [ud9]
  refine tkF (i:=10) (d:=35) (v:=.agg #[.int .i64 k,.int .i64 p]) (s:=hS) (c:=?_)
  simp only [ud9]
  refine tkF (i:=11) (d:=36) (v:=.slice A N cap) (s:=hS) (c:=?_)
  simp only [ud9]
  refine oneF (i:=12) (c:=?_)
  gi_wp2_with fail
  refine ⟨trivial,(callsIn_wide.2 (HR9.out _ (below_in hW2 hBx))).mono ?_⟩
  rintro e wm ⟨rfl,hBq⟩
  replace hBx:=below_in hBx hBq
  clear hS
  have hS:=HSS.out _ hBx
  gi_wp2
  try (refine ⟨hS,?_⟩)
  refine tkF (i:=13) (d:=38) (v:=.bool true) (s:=hS) (c:=?_)
  simp only [ud9]
  refine tkF (i:=14) (d:=39) (v:=.bool true) (s:=hS) (c:=?_)
  simp only [ud9]
  refine tkF (i:=15) (d:=40) (v:=.agg #[.int .i64 k,.int .i64 p]) (s:=hS) (c:=?_)
  simp only [ud9]
  refine tkF (i:=16) (d:=41) (v:=.slice A N cap) (s:=hS) (c:=?_)
  simp only [ud9]
  refine oneF (i:=17) (c:=?_)
  gi_wp2_with fail
  refine ⟨trivial,(callsIn_wide.2 (HRI.out _ (below_in hW2 hBx))).mono ?_⟩
  rintro e wn ⟨rfl,hBq⟩
  replace hBx:=below_in hBx hBq
  clear hS
  have hS:=HSS.out _ hBx
  gi_wp2
  try (refine ⟨hS,?_⟩)
  refine oneF (i:=18) (c:=?_)
  gi_wp2_with fail
  refine ⟨trivial,(callsIn_wide.2 (num_any _ _)).mono ?_⟩
  rintro e wz ⟨rfl,rfl⟩
  gi_wp2
  try (refine ⟨hS,?_⟩)
  refine tkF (i:=19) (d:=44) (v:=.bool false) (s:=hS) (c:=?_)
  simp only [ud9]
  refine tkF (i:=20) (d:=45) (v:=.bool false) (s:=hS) (c:=?_)
  simp only [ud9]
  refine tkF (i:=21) (d:=46) (v:=.bool false) (s:=hS) (c:=?_)
  simp only [ud9]
  refine anyHF_done (by kernel_rfl) ?_ _
  refine NoPanic.normal ?_
  have hW3:=below_in hW2 hBx
  replace bz:=bz.below hBx bz.lt
  have c0:=bz.cell 0
  have c1:=bz.cell 1
  simp only [gz9] at c0 c1
  clear hS HSS HDT HRI
  go_wp2_with (first
   | (go_at_call 14;refine (HR9.out _ hW3).mono ?_;rintro e w4 ⟨rfl,hB4⟩;have hW4:=below_in hW3 hB4;replace bz:=bz.below hB4 bz.lt;clear c0 c1;have c0:=bz.cell 0;have c1:=bz.cell 1;simp only [gz9] at c0 c1)
   | (go_at_call 12;refine (num_any _ _).mono ?_;rintro e w' ⟨rfl,rfl⟩)
   | (go_at_call 16;refine (HRT.out _).mono ?_;rintro e w5 ⟨h1,h2,hB5⟩;obtain rfl:=h1 hR;have hW5:=below_in hW4 hB5;replace bz:=bz.below hB5 bz.lt;clear c0 c1;have c0:=bz.cell 0;have c1:=bz.cell 1;simp only [gz9] at c0 c1)
   | (go_at_call 17;refine (HDA.out _).mono ?_;rintro e w6 ⟨rfl,hB6⟩;have hW6:=below_in hW5 hB6;replace bz:=bz.below hB6 bz.lt;clear c0 c1;have c0:=bz.cell 0;have c1:=bz.cell 1;simp only [gz9] at c0 c1)
   | (go_at_call 9;refine (works_any _ (hL.next hW6)).mono ?_;rintro e w9 ⟨rfl,hB9⟩))
  go_ret
  exact ⟨rfl,below_in hW6 hB9⟩
 have hnn:((css.length:Int) != p - shortN k)=false:=by rw [hn];exact bne_self_eq_false _
 by_cases hd6:RightD p css
 case neg =>
  have HR6:=Lib.hid (fun (U:World) (hU:Below w.heap.size w U)=>right6_any (B:=w.heap.size) p _ css U hU.size (hCU U hU) hl1000 false (by simp [hd6]))
  have HEN:=Lib.hid (fun U (hU:Below w.heap.size w U)=>encode_no (B:=w.heap.size) k p _ css U (hL.next hU) hU.size (hCU U hU) hl1000 hcl (fun h=>hd6 h.2))
  clear hf hC hCb hok hjj hcl hCU hn hd6
  generalize css.length=N at *
  go_enter Tryz.func3,Tryz.ntmps3
  go_wp2_with (first
   | (go_at_call 8;refine HF.out.mono ?_;rintro e w' ⟨rfl,rfl⟩)
   | (go_at_call 10;refine (HEN.out _ hBz).mono ?_;rintro e w1 ⟨rfl,hB1⟩;have hW1:=below_in hBz hB1;replace bz:=bz.below hB1 bz.lt;clear c0 c1;have c0:=bz.cell 0;have c1:=bz.cell 1;simp only [gz9] at c0 c1)
   | (go_at_call 11;refine (HDT.out _ hW1).mono ?_;rintro e w2 ⟨rfl,hB2⟩;have hW2:=below_in hW1 hB2;replace bz:=bz.below hB2 bz.lt;clear c0 c1;have c0:=bz.cell 0;have c1:=bz.cell 1;simp only [gz9] at c0 c1))
  have HSS:Hid (∀ U,Below w2.heap.size w2 U→(fun U:World=>U.cell? ⟨w.heap.size,0,none⟩=some (.int .i64 k)∧U.cell? ⟨w.heap.size,1,none⟩=some (.int .i64 p)) U):=fun U hU=>⟨((bz.below hU bz.lt)).cell 0,((bz.below hU bz.lt)).cell 1⟩
  have hBx:Below w2.heap.size w2 w2.drew:=(Below.refl _ _).drew
  have hS:=HSS.out _ hBx
  refine (wpIn_wide (n:=12)).1 (wpIn_mono (region_HF (Q:=NoPanic _) (S:=(fun U:World=>U.cell? ⟨w.heap.size,0,none⟩=some (.int .i64 k)∧U.cell? ⟨w.heap.size,1,none⟩=some (.int .i64 p))) (by kernel_rfl) ?_) NoPanic.imp)
  refine tkF (i:=0) (d:=25) (v:=.agg #[.int .i64 k,.int .i64 p]) (s:=hS) (c:=?_)
  simp only [ud9]
  refine tkF (i:=1) (d:=26) (v:=.slice A N cap) (s:=hS) (c:=?_)
  simp only [ud9]
  refine tkF (i:=5) (d:=30) (v:=.agg #[.int .i64 k,.int .i64 p]) (s:=hS) (c:=?_)
  simp only [ud9]
  refine tkF (i:=6) (d:=31) (v:=.slice A N cap) (s:=hS) (c:=?_)
  simp only [ud9]
  refine oneF (i:=2) (c:=?_)
  gi_wp2_with fail
  refine ⟨trivial,(callsIn_wide.2 (HRI.out _ (below_in hW2 hBx))).mono ?_⟩
  rintro e wn ⟨rfl,hBq⟩
  replace hBx:=below_in hBx hBq
  clear hS
  have hS:=HSS.out _ hBx
  gi_wp2
  try (refine ⟨hS,?_⟩)
  refine oneF (i:=3) (c:=?_)
  gi_wp2_with fail
  refine ⟨trivial,(callsIn_wide.2 (num_any _ _)).mono ?_⟩
  rintro e wz ⟨rfl,rfl⟩
  gi_wp2
  try (refine ⟨hS,?_⟩)
  refine tkF (i:=4) (d:=29) (v:=.bool false) (s:=hS) (c:=?_)
  simp only [ud9]
  refine oneF (i:=7) (c:=?_)
  gi_wp2_with fail
  refine ⟨trivial,(callsIn_wide.2 (HR9.out _ (below_in hW2 hBx))).mono ?_⟩
  rintro e wm ⟨rfl,hBq⟩
  replace hBx:=below_in hBx hBq
  clear hS
  have hS:=HSS.out _ hBx
  gi_wp2
  try (refine ⟨hS,?_⟩)
  refine tkF (i:=8) (d:=33) (v:=.bool false) (s:=hS) (c:=?_)
  simp only [ud9]
  refine tkF (i:=9) (d:=34) (v:=.bool false) (s:=hS) (c:=?_)
  simp only [ud9]
  refine tkF (i:=10) (d:=35) (v:=.agg #[.int .i64 k,.int .i64 p]) (s:=hS) (c:=?_)
  simp only [ud9]
  refine tkF (i:=11) (d:=36) (v:=.slice A N cap) (s:=hS) (c:=?_)
  simp only [ud9]
  refine oneF (i:=12) (c:=?_)
  gi_wp2_with fail
  refine ⟨trivial,(callsIn_wide.2 (HR9.out _ (below_in hW2 hBx))).mono ?_⟩
  rintro e wm ⟨rfl,hBq⟩
  replace hBx:=below_in hBx hBq
  clear hS
  have hS:=HSS.out _ hBx
  gi_wp2
  try (refine ⟨hS,?_⟩)
  refine tkF (i:=13) (d:=38) (v:=.bool true) (s:=hS) (c:=?_)
  simp only [ud9]
  refine tkF (i:=14) (d:=39) (v:=.bool true) (s:=hS) (c:=?_)
  simp only [ud9]
  refine tkF (i:=15) (d:=40) (v:=.agg #[.int .i64 k,.int .i64 p]) (s:=hS) (c:=?_)
  simp only [ud9]
  refine tkF (i:=16) (d:=41) (v:=.slice A N cap) (s:=hS) (c:=?_)
  simp only [ud9]
  refine oneF (i:=17) (c:=?_)
  gi_wp2_with fail
  refine ⟨trivial,(callsIn_wide.2 (HRI.out _ (below_in hW2 hBx))).mono ?_⟩
  rintro e wn ⟨rfl,hBq⟩
  replace hBx:=below_in hBx hBq
  clear hS
  have hS:=HSS.out _ hBx
  gi_wp2
  try (refine ⟨hS,?_⟩)
  refine oneF (i:=18) (c:=?_)
  gi_wp2_with fail
  refine ⟨trivial,(callsIn_wide.2 (num_any _ _)).mono ?_⟩
  rintro e wz ⟨rfl,rfl⟩
  gi_wp2
  try (refine ⟨hS,?_⟩)
  refine tkF (i:=19) (d:=44) (v:=.bool false) (s:=hS) (c:=?_)
  simp only [ud9]
  refine tkF (i:=20) (d:=45) (v:=.bool false) (s:=hS) (c:=?_)
  simp only [ud9]
  refine tkF (i:=21) (d:=46) (v:=.bool false) (s:=hS) (c:=?_)
  simp only [ud9]
  refine anyHF_done (by kernel_rfl) ?_ _
  refine NoPanic.normal ?_
  have hW3:=below_in hW2 hBx
  replace bz:=bz.below hBx bz.lt
  have c0:=bz.cell 0
  have c1:=bz.cell 1
  simp only [gz9] at c0 c1
  clear hS HSS HDT HRI
  go_wp2_with (first
   | (go_at_call 14;refine (HR9.out _ hW3).mono ?_;rintro e w4 ⟨rfl,hB4⟩;have hW4:=below_in hW3 hB4;replace bz:=bz.below hB4 bz.lt;clear c0 c1;have c0:=bz.cell 0;have c1:=bz.cell 1;simp only [gz9] at c0 c1)
   | (go_at_call 12;refine (num_any _ _).mono ?_;rintro e w' ⟨rfl,rfl⟩)
   | (go_at_call 16;refine (HRT.out _).mono ?_;rintro e w5 ⟨h1,h2,hB5⟩;obtain rfl:=h1 hR;have hW5:=below_in hW4 hB5;replace bz:=bz.below hB5 bz.lt;clear c0 c1;have c0:=bz.cell 0;have c1:=bz.cell 1;simp only [gz9] at c0 c1)
   | (go_at_call 17;refine (HDA.out _).mono ?_;rintro e w6 ⟨rfl,hB6⟩;have hW6:=below_in hW5 hB6;replace bz:=bz.below hB6 bz.lt;clear c0 c1;have c0:=bz.cell 0;have c1:=bz.cell 1;simp only [gz9] at c0 c1)
   | (go_at_call 18;refine (HR6.out _ hW6).mono ?_;rintro e w7 ⟨rfl,hB7⟩;have hW7:=below_in hW6 hB7;replace bz:=bz.below hB7 bz.lt;clear c0 c1;have c0:=bz.cell 0;have c1:=bz.cell 1;simp only [gz9] at c0 c1)
   | (go_at_call 9;refine (works_any _ (hL.next hW7)).mono ?_;rintro e w9 ⟨rfl,hB9⟩))
  go_ret
  exact ⟨rfl,below_in hW7 hB9⟩
 have hd:DataK k p css:=⟨⟨hR,hn⟩,hd6⟩
 have HR6:=Lib.hid (fun (U:World) (hU:Below w.heap.size w U)=>right6_any (B:=w.heap.size) p _ css U hU.size (hCU U hU) hl1000 true (by simp [hd6]))
 have HEN:=Lib.hid (fun U (hU:Below w.heap.size w U)=>encode_yes (B:=w.heap.size) k p _ css hd U (hL.next hU) hU.size (hCU U hU))
 have hrn:=right_n hd6
 have HE6:=Lib.hid (fun U (hU:Below w.heap.size w U)=>(encode6_any (B:=w.heap.size) k p hR _ css (firstC css).length U hU.size (hCU U hU) hn (right_grid hd6) (by omega)))
 rw [show stepsL k p (firstC css).length css (madeN k).toNat=wholeL k p css from rfl] at HE6
 have hwa:=whole_all hd
 have hwl:=all_len hwa.1
 have hws:∀ j:Nat,((wholeL k p css)[j]?.getD []).length≤1000:=fun j=>(small_right hwa.1.2 j 0).1
 have HSA:=Lib.hid (fun (U:World) (x y:Value) (hx:Cols U.heap.size U x (wholeL k p css)) (hy:Cols U.heap.size U y (wholeL k p css))=>same6_any x y _ _ U hx hy (Nat.le_refl _) (Nat.le_refl _) hws hws (by omega) (by omega))
 simp only [decide_true] at HSA
 clear hws hwl hwa hrn
 generalize wholeL k p css=wl at *
 clear hf hC hCb hok hjj hcl hCU hn hd6 hd
 generalize css.length=N at *
 go_enter Tryz.func3,Tryz.ntmps3
 go_wp2_with (first
  | (go_at_call 8;refine HF.out.mono ?_;rintro e w' ⟨rfl,rfl⟩)
  | (go_at_call 10;refine (HEN.out _ hBz).mono ?_;rintro e w1 ⟨xA,xn,xc,rfl,hsx,hB1⟩;have hW1:=below_in hBz hB1;have hx:Cols w1.heap.size w1 (.slice xA xn xc) wl:=colsR_iff.1 (colsR.imp (sepC_cols hsx) fun q hq=>hq.2);clear hsx;replace bz:=bz.below hB1 bz.lt;clear c0 c1;have c0:=bz.cell 0;have c1:=bz.cell 1;simp only [gz9] at c0 c1)
  | (go_at_call 11;refine (HDT.out _ hW1).mono ?_;rintro e w2 ⟨rfl,hB2⟩;have hW2:=below_in hW1 hB2;replace bz:=bz.below hB2 bz.lt;clear c0 c1;have c0:=bz.cell 0;have c1:=bz.cell 1;simp only [gz9] at c0 c1))
 have HSS:Hid (∀ U,Below w2.heap.size w2 U→(fun U:World=>U.cell? ⟨w.heap.size,0,none⟩=some (.int .i64 k)∧U.cell? ⟨w.heap.size,1,none⟩=some (.int .i64 p)) U):=fun U hU=>⟨((bz.below hU bz.lt)).cell 0,((bz.below hU bz.lt)).cell 1⟩
 have hBx:Below w2.heap.size w2 w2.drew:=(Below.refl _ _).drew
 have hS:=HSS.out _ hBx
 refine (wpIn_wide (n:=12)).1 (wpIn_mono (region_HF (Q:=NoPanic _) (S:=(fun U:World=>U.cell? ⟨w.heap.size,0,none⟩=some (.int .i64 k)∧U.cell? ⟨w.heap.size,1,none⟩=some (.int .i64 p))) (by kernel_rfl) ?_) NoPanic.imp)
 refine tkF (i:=0) (d:=25) (v:=.agg #[.int .i64 k,.int .i64 p]) (s:=hS) (c:=?_)
 simp only [ud9]
 refine tkF (i:=1) (d:=26) (v:=.slice A N cap) (s:=hS) (c:=?_)
 simp only [ud9]
 refine tkF (i:=5) (d:=30) (v:=.agg #[.int .i64 k,.int .i64 p]) (s:=hS) (c:=?_)
 simp only [ud9]
 refine tkF (i:=6) (d:=31) (v:=.slice A N cap) (s:=hS) (c:=?_)
 simp only [ud9]
 refine oneF (i:=2) (c:=?_)
 gi_wp2_with fail
 refine ⟨trivial,(callsIn_wide.2 (HRI.out _ (below_in hW2 hBx))).mono ?_⟩
 rintro e wn ⟨rfl,hBq⟩
 replace hBx:=below_in hBx hBq
 clear hS
 have hS:=HSS.out _ hBx
 gi_wp2
 try (refine ⟨hS,?_⟩)
 refine oneF (i:=3) (c:=?_)
 gi_wp2_with fail
 refine ⟨trivial,(callsIn_wide.2 (num_any _ _)).mono ?_⟩
 rintro e wz ⟨rfl,rfl⟩
 gi_wp2
 try (refine ⟨hS,?_⟩)
 refine tkF (i:=4) (d:=29) (v:=.bool false) (s:=hS) (c:=?_)
 simp only [ud9]
 refine oneF (i:=7) (c:=?_)
 gi_wp2_with fail
 refine ⟨trivial,(callsIn_wide.2 (HR9.out _ (below_in hW2 hBx))).mono ?_⟩
 rintro e wm ⟨rfl,hBq⟩
 replace hBx:=below_in hBx hBq
 clear hS
 have hS:=HSS.out _ hBx
 gi_wp2
 try (refine ⟨hS,?_⟩)
 refine tkF (i:=8) (d:=33) (v:=.bool false) (s:=hS) (c:=?_)
 simp only [ud9]
 refine tkF (i:=9) (d:=34) (v:=.bool false) (s:=hS) (c:=?_)
 simp only [ud9]
 refine tkF (i:=10) (d:=35) (v:=.agg #[.int .i64 k,.int .i64 p]) (s:=hS) (c:=?_)
 simp only [ud9]
 refine tkF (i:=11) (d:=36) (v:=.slice A N cap) (s:=hS) (c:=?_)
 simp only [ud9]
 refine oneF (i:=12) (c:=?_)
 gi_wp2_with fail
 refine ⟨trivial,(callsIn_wide.2 (HR9.out _ (below_in hW2 hBx))).mono ?_⟩
 rintro e wm ⟨rfl,hBq⟩
 replace hBx:=below_in hBx hBq
 clear hS
 have hS:=HSS.out _ hBx
 gi_wp2
 try (refine ⟨hS,?_⟩)
 refine tkF (i:=13) (d:=38) (v:=.bool true) (s:=hS) (c:=?_)
 simp only [ud9]
 refine tkF (i:=14) (d:=39) (v:=.bool true) (s:=hS) (c:=?_)
 simp only [ud9]
 refine tkF (i:=15) (d:=40) (v:=.agg #[.int .i64 k,.int .i64 p]) (s:=hS) (c:=?_)
 simp only [ud9]
 refine tkF (i:=16) (d:=41) (v:=.slice A N cap) (s:=hS) (c:=?_)
 simp only [ud9]
 refine oneF (i:=17) (c:=?_)
 gi_wp2_with fail
 refine ⟨trivial,(callsIn_wide.2 (HRI.out _ (below_in hW2 hBx))).mono ?_⟩
 rintro e wn ⟨rfl,hBq⟩
 replace hBx:=below_in hBx hBq
 clear hS
 have hS:=HSS.out _ hBx
 gi_wp2
 try (refine ⟨hS,?_⟩)
 refine oneF (i:=18) (c:=?_)
 gi_wp2_with fail
 refine ⟨trivial,(callsIn_wide.2 (num_any _ _)).mono ?_⟩
 rintro e wz ⟨rfl,rfl⟩
 gi_wp2
 try (refine ⟨hS,?_⟩)
 refine tkF (i:=19) (d:=44) (v:=.bool false) (s:=hS) (c:=?_)
 simp only [ud9]
 refine tkF (i:=20) (d:=45) (v:=.bool false) (s:=hS) (c:=?_)
 simp only [ud9]
 refine tkF (i:=21) (d:=46) (v:=.bool false) (s:=hS) (c:=?_)
 simp only [ud9]
 refine anyHF_done (by kernel_rfl) ?_ _
 refine NoPanic.normal ?_
 have hW3:=below_in hW2 hBx
 replace bz:=bz.below hBx bz.lt
 have c0:=bz.cell 0
 have c1:=bz.cell 1
 simp only [gz9] at c0 c1
 clear hS HSS HDT HRI
 go_wp2_with (first
  | (go_at_call 14;refine (HR9.out _ hW3).mono ?_;rintro e w4 ⟨rfl,hB4⟩;have hW4:=below_in hW3 hB4;replace bz:=bz.below hB4 bz.lt;clear c0 c1;have c0:=bz.cell 0;have c1:=bz.cell 1;simp only [gz9] at c0 c1)
  | (go_at_call 12;refine (num_any _ _).mono ?_;rintro e w' ⟨rfl,rfl⟩)
  | (go_at_call 16;refine (HRT.out _).mono ?_;rintro e w5 ⟨h1,h2,hB5⟩;obtain rfl:=h1 hR;have hW5:=below_in hW4 hB5;replace bz:=bz.below hB5 bz.lt;clear c0 c1;have c0:=bz.cell 0;have c1:=bz.cell 1;simp only [gz9] at c0 c1)
  | (go_at_call 17;refine (HDA.out _).mono ?_;rintro e w6 ⟨rfl,hB6⟩;have hW6:=below_in hW5 hB6;replace bz:=bz.below hB6 bz.lt;clear c0 c1;have c0:=bz.cell 0;have c1:=bz.cell 1;simp only [gz9] at c0 c1)
  | (go_at_call 18;refine (HR6.out _ hW6).mono ?_;rintro e w7 ⟨rfl,hB7⟩;have hW7:=below_in hW6 hB7;replace bz:=bz.below hB7 bz.lt;clear c0 c1;have c0:=bz.cell 0;have c1:=bz.cell 1;simp only [gz9] at c0 c1)
  | (go_at_call 20;refine (HE6.out _ hW7).mono ?_;rintro e w8 ⟨y8,rfl,hy8,hB8⟩;have hW8:=below_in hW7 hB8;have hB18:=below_in hB2 (below_in hBx (below_in hB4 (below_in hB5 (below_in hB6 (below_in hB7 hB8)))));have hx8:=Cols.more (hx.below hB18) hB18.size)
  | (go_at_call 19;refine (HSA.out _ _ _ hx8 hy8).mono ?_;rintro e w10 ⟨rfl,hB10⟩;have hW10:=below_in hW8 hB10)
  | (go_at_call 9;refine (works_any _ (hL.next hW10)).mono ?_;rintro e w9 ⟨rfl,hB9⟩))
 go_ret
 exact ⟨rfl,below_in hW10 hB9⟩

end Go.Proofs.YtknkdbincaonbaaGreatDoor.codeEncodes
