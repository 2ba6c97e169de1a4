/- -/
import Derived.Test.YtmhgjkechbjemaaGreatDoorCFSA
import Derived.Test.YtmhgjkechbjemaaGreatDoorCards
import Derived.Test.YtmhgjkechbjemaaGreatDoorTie
import Derived.SevenTiedAt
import Derived.Test.YtmhgjkechbjemaaGreatDoorCFG25
import Derived.Test.YtmhgjkechbjemaaGreatDoorCFG12
import Derived.Test.YtmhgjkechbjemaaGreatDoorCFG26
set_option linter.unusedVariables false
set_option linter.unusedSimpArgs false
set_option maxRecDepth 100000
set_option maxHeartbeats 20000000
namespace Go.Proofs.YtmhgjkechbjemaaGreatDoor.codeFills
open Go.ChangeShapes Go.WideShapes Go.ChangeAt Go.RowKit Go.Shelf
attribute [local go_sem] Oper.semAt_some

open Go.Proofs.YtmhgjkechbjemaaGreatDoor.E Go.Proofs.YtmhgjkechbjemaaGreatDoor.C Go.Proofs.YtmhgjkechbjemaaGreatDoor.Q Go.Proofs.YtmhgjkechbjemaaGreatDoor.Cd in
theorem walk (k p:Int) (v:Value) (b:List UInt8) (n:Int) (w:World) (hL:Laid w) (wk:-9223372036854775808≤k∧k≤9223372036854775807) (wp:-9223372036854775808≤p∧p≤9223372036854775807) (hb:Bytes w.heap.size w v b) (wn:-9223372036854775808≤n∧n≤9223372036854775807) :
 Calls Tryz.prog 4 #[.agg #[.int .i64 k,.int .i64 p],v,.int .i64 n] w fun e w'=>e = .returned (.bool true)∧Below w.heap.size w w' := by
 obtain ⟨A,cap,rfl,hcap,_⟩ := id hb
 have hBz := below_one w (.cells #[.int .i64 k,.int .i64 p] 24)
 have bz := Blk.new w 24 #[.int .i64 k,.int .i64 p]
 obtain ⟨wb,hwb⟩:∃ wb,w.alloc (.cells #[.int .i64 k,.int .i64 p] 24) = wb := ⟨_,rfl⟩
 rw [hwb] at hBz bz
 have c0 := bz.cell 0
 have c1 := bz.cell 1
 simp only [gz9] at c0 c1
 have hbU:∀ U,Below w.heap.size w U→Bytes U.heap.size U (.slice A b.length cap) b := fun U hU=>(hb.below hU).more hU.size
 by_cases h3:300 < b.length
 case pos =>
  have d1:decide ((300:Int) < (b.length:Int)) = true := decide_eq_true (by omega)
  clear hb hbU hcap
  generalize b.length = nb at *
  go_enter Tryz.func4,Tryz.ntmps4
  go_wp2_with fail
  try rw [hwb]
  go_wp2_with (first
   | (go_at_call 10;refine (works_any _ (hL.next hBz)).mono ?_;rintro e w9 ⟨rfl,hB9⟩))
  go_ret
  exact ⟨rfl,below_in hBz hB9⟩
 have d1:decide ((300:Int) < (b.length:Int)) = false := decide_eq_false (by omega)
 by_cases h7:7 < p
 case pos =>
  have d2:decide (7 < p) = true := decide_eq_true h7
  clear hb hbU hcap
  generalize b.length = nb at *
  go_enter Tryz.func4,Tryz.ntmps4
  go_wp2_with fail
  try rw [hwb]
  go_wp2_with (first
   | (go_at_call 10;refine (works_any _ (hL.next hBz)).mono ?_;rintro e w9 ⟨rfl,hB9⟩))
  go_ret
  exact ⟨rfl,below_in hBz hB9⟩
 have d2:decide (7 < p) = false := decide_eq_false h7
 by_cases hok:FillOk k p b n
 case neg =>
  have HFI := Lib.hid (fun U (hU:Below w.heap.size w U)=>fill_no k p (.slice A b.length cap) b n hok U (hL.next hU) (hbU U hU))
  have HCO := Lib.hid (fun U (hU:Below w.heap.size w U)=>refColumns_no k p (.slice A b.length cap) b n hok U (hbU U hU) (by omega))
  clear hb hbU hcap hok
  generalize b.length = nb at *
  go_enter Tryz.func4,Tryz.ntmps4
  go_wp2_with fail
  try rw [hwb]
  go_wp2_with (first
   | (go_at_call 22;refine (HFI.out _ hBz).mono ?_;rintro e w1 ⟨rfl,hB1⟩;have hW1 := below_in hBz hB1;replace bz := bz.below hB1 bz.lt;clear c0 c1;have c0 := bz.cell 0;have c1 := bz.cell 1;simp only [gz9] at c0 c1)
   | (go_at_call 23;refine (HCO.out _ hW1).mono ?_;rintro e w2 ⟨rfl,hB2⟩;have hW2 := below_in hW1 hB2;replace bz := bz.below hB2 bz.lt;clear c0 c1;have c0 := bz.cell 0;have c1 := bz.cell 1;simp only [gz9] at c0 c1)
   | (go_at_call 13;refine (num_any _ _).mono ?_;rintro e w' ⟨rfl,rfl⟩)
   | (go_at_call 10;refine (works_any _ (hL.next hW2)).mono ?_;rintro e w9 ⟨rfl,hB9⟩))
  go_ret
  exact ⟨rfl,below_in hW2 hB9⟩
 have hR := hok.1
 have hn := hok.2.1
 have hfit := hok.2.2
 have hpp := prm_bounds hR.2
 have hdn := datN_eq hR
 have hmn := many_nat hR
 obtain ⟨m,rfl⟩:∃ m:Nat,n = (m:Int) := ⟨n.toNat,by omega⟩
 obtain ⟨R,hRR⟩:∃ R:Nat,p - 1 = (R:Int) := ⟨(p - 1).toNat,by omega⟩
 have hRt:(p - 1).toNat = R := by omega
 have hgf:Grid R m (fillL (datN k p) R m b) := fill_grid _ _ _ _
 have hlf:(fillL (datN k p) R m b).length = datN k p := fill_len _ _ _ _
 have hRD:RightD p (fillL (datN k p) R m b) := right_of hR.2 (by omega) (by rw [hRt];exact hgf) (by omega)
 have hdK:DataK k p (fillL (datN k p) R m b) := ⟨⟨hR,by rw [hlf];exact hdn.1.symm⟩,hRD⟩
 have hf1:(firstC (fillL (datN k p) R m b)).length = m := grid_first hR.2 (by omega) (by rw [hRt];exact hgf)
 have hwa := whole_all hdK
 have hwl := all_len hwa.1
 have hws:∀ j:Nat,((wholeL k p (fillL (datN k p) R m b))[j]?.getD []).length≤1000 := fun j=>(small_right hwa.1.2 j 0).1
 have HFI := Lib.hid (fun U (hU:Below w.heap.size w U)=>fill_yes k p (.slice A b.length cap) b (m:Int) hok U (hL.next hU) (hbU U hU))
 have HCO := Lib.hid (fun U (hU:Below w.heap.size w U)=>refColumns_yes (B := U.heap.size) k p (.slice A b.length cap) b m hok U (Nat.le_refl _) (hbU U hU))
 have HE6 := Lib.hid (fun (U:World) (x:Value) (hx:Cols U.heap.size U x (fillL (datN k p) R m b))=>(encode6_any (B := U.heap.size) k p hR x (fillL (datN k p) R m b) m U (Nat.le_refl _) hx (by rw [hlf];exact hdn.1.symm) (by rw [hRt];exact hgf) (by omega)))
 rw [show stepsL k p m (fillL (datN k p) R m b) (madeN k).toNat = wholeL k p (fillL (datN k p) R m b) by unfold wholeL;rw [hf1]] at HE6
 have HSA := Lib.hid (fun (U:World) (x y:Value) (hx:Cols U.heap.size U x (wholeL k p (fillL (datN k p) R m b))) (hy:Cols U.heap.size U y (wholeL k p (fillL (datN k p) R m b)))=>same6_any x y _ _ U hx hy (Nat.le_refl _) (Nat.le_refl _) hws hws (by omega) (by omega))
 simp only [decide_true] at HSA
 have HDT := Lib.hid (fun (U:World) (x:Value) (hLU:Laid U) (hx:Cols U.heap.size U x (wholeL k p (fillL (datN k p) R m b)))=>data_yes (B := U.heap.size) k p x _ hwa.1 U hLU (Nat.le_refl _) hx)
 have hdd := fill_data (d := datN k p) (R := R) (len := m) (b := b) (s := wholeL k p (fillL (datN k p) R m b)) (by omega) (fun c r hc hr=>steps_data _ (by rw [hlf];exact hc)) (by
  have h1:(b.length:Int)≤((datN k p * R * m:Nat):Int) := by
   rw [hmn.1,hRt] at hfit
   rw [Int.natCast_mul]
   exact hfit
  exact_mod_cast h1)
 rw [show (m:Int).toNat = m from Int.toNat_natCast m] at HFI
 rw [hRt] at HFI HCO HDT
 generalize dataL (datN k p) R (wholeL k p (fillL (datN k p) R m b)) = db at *
 generalize wholeL k p (fillL (datN k p) R m b) = wl at *
 generalize fillL (datN k p) R m b = fl at *
 have hdl:b.length≤db.length := by
  have h1 := congrArg List.length hdd.2
  rw [List.length_take] at h1
  omega
 have HTK := Lib.hid hdd.2
 have HLW := Lib.hid (fun (U:World) (hU:Below w.heap.size w U)=>hL.next hU)
 clear hws hwl hwa hf1 hdK hRD hlf hgf hfit hmn hdn hdd hRR hRt hb hok
 obtain ⟨nb,hnb⟩:∃ nb,b.length = nb := ⟨_,rfl⟩
 rw [hnb] at d1 h3 hbU HFI HCO hdl hcap ⊢
 have HNB := Lib.hid hnb
 have HBU := Lib.hid hbU
 clear hnb hbU
 go_enter Tryz.func4,Tryz.ntmps4
 go_wp2_with fail
 try rw [hwb]
 go_wp2_with (first
  | (go_at_call 22;refine (HFI.out _ hBz).mono ?_;rintro e w1 ⟨sA,sm,sc,rfl,hsx,hB1⟩;have hW1 := below_in hBz hB1;have hs1:Cols w1.heap.size w1 (.slice sA sm sc) wl := colsR_iff.1 (colsR.imp (sepC_cols hsx) fun q hq=>hq.2);clear hsx;replace bz := bz.below hB1 bz.lt;clear c0 c1;have c0 := bz.cell 0;have c1 := bz.cell 1;simp only [gz9] at c0 c1)
  | (go_at_call 23;refine (HCO.out _ hW1).mono ?_;rintro e w2 ⟨ul,rfl,hl2,hB2⟩;obtain ⟨lA,lc,hle,_,_⟩ := id hl2;generalize hln:fl.length = ln at hle;subst hle;have hW2 := below_in hW1 hB2;have hs2 := Cols.more (hs1.below hB2) hB2.size;replace bz := bz.below hB2 bz.lt;clear c0 c1;have c0 := bz.cell 0;have c1 := bz.cell 1;simp only [gz9] at c0 c1)
  | (go_at_call 12;refine (HDT.out _ _ (HLW.out _ hW2) hs2).mono ?_;rintro e w4 ⟨uo,rfl,hfo,hB4⟩;have ho4 := Fresh.bytes hfo;obtain ⟨oA,oc,hoe,hoc,_⟩ := id ho4;obtain ⟨on,hon⟩:∃ on,db.length = on := ⟨_,rfl⟩;rw [hon] at hoe hoc hdl;subst hoe;have hW4 := below_in hW2 hB4;have hs4 := Cols.more (hs2.below hB4) hB4.size;have hl4 := Cols.more (hl2.below hB4) hB4.size;replace bz := bz.below hB4 bz.lt;clear c0 c1;have c0 := bz.cell 0;have c1 := bz.cell 1;simp only [gz9] at c0 c1))
 have HTB:Hid (∀ U,Below w4.heap.size w4 U→Bytes w4.heap.size U (.slice oA nb oc) b) := fun U hU=>by
  obtain ⟨A9,c9,e9,h9,h10⟩ := ho4
  injection e9 with e9 _ e9c
  subst e9 e9c
  refine ⟨_,_,by rw [HNB.out],by rw [HNB.out];omega,fun hp=>?_⟩
  obtain ⟨b9,f9,e10,h11,h12⟩ := h10 (by rw [←HTK.out,List.length_take] at hp;omega)
  refine ⟨b9,f9,e10,h11,fun j hj=>?_⟩
  have hj2:j < b.length := hj
  rw [hU.cell (p := ⟨b9,f9+j,none⟩) h11,h12 j (by rw [HNB.out] at hj2;omega)]
  have h13:db[j]?.getD 0 = b[j]?.getD 0 := by
   conv=>rhs;rw [←HTK.out]
   rw [List.getElem?_take_of_lt (by first | exact hj2 | (rw [HNB.out] at hj2;exact hj2))]
  rw [h13]
 have HSS:Hid (∀ U,Below w4.heap.size w4 U→(fun U:World=>U.cell? ⟨w.heap.size,0,none⟩ = some (.int .i64 k)∧U.cell? ⟨w.heap.size,1,none⟩ = some (.int .i64 p)∧(convert 32 9 (.slice oA nb oc)).run Tryz.prog U = .ok (.string (text b)) U∧(convert 32 9 (.slice A nb cap)).run Tryz.prog U = .ok (.string (text b)) U) U) := fun U hU=>⟨(bz.below hU bz.lt).cell 0,(bz.below hU bz.lt).cell 1,run_txt U (HTB.out U hU),run_txt U (HBU.out U (below_in hW4 hU))⟩
 have hw0:IntKind.i64.wrap 0 = 0 := by decide
 have HSX := Lib.hid (fun (U:World) (hU:Below w4.heap.size w4 U)=>Cols.more (hs4.below hU) hU.size)
 have HE6L := Lib.hid (fun (U:World) (hU:Below w4.heap.size w4 U)=>HE6.out U (.slice lA ln lc) (Cols.more (hl4.below hU) hU.size))
 have HLW4 := Lib.hid (fun (U:World) (hU:Below w4.heap.size w4 U)=>HLW.out U (below_in hW4 hU))
 clear HE6 HLW
 have HE6 := HE6L
 have HLW := HLW4
 clear HE6L HLW4 hs4 hl4 ho4
 have hBx:Below w4.heap.size w4 w4.drew := (Below.refl _ _).drew
 have hS := HSS.out _ hBx
 have j1:(0:Int)≤(nb:Int) := by omega
 have j2:(nb:Int)≤(oc:Int) := by omega
 have j3:(nb:Int)≤(on:Int) := by omega
 have dge:decide ((nb:Int)≤(on:Int)) = true := decide_eq_true (by omega)
 refine (wpIn_wide (n := 12)).1 (wpIn_mono (region_HF (Q := NoPanic _) (S := (fun U:World=>U.cell? ⟨w.heap.size,0,none⟩ = some (.int .i64 k)∧U.cell? ⟨w.heap.size,1,none⟩ = some (.int .i64 p)∧(convert 32 9 (.slice oA nb oc)).run Tryz.prog U = .ok (.string (text b)) U∧(convert 32 9 (.slice A nb cap)).run Tryz.prog U = .ok (.string (text b)) U)) (by kernel_rfl) ?_) NoPanic.imp)
 refine tkF (i := 0) (d := 55) (v := .int .i64 0) (s := hS) (c := ?_)
 simp only [ud9]
 refine tkF (i := 2) (d := 57) (v := .int .i64 0) (s := hS) (c := ?_)
 simp only [ud9]
 refine oneF (i := 1) (c := ?_)
 gi_wp2_with fail
 refine ⟨trivial,(callsIn_wide.2 (num_any _ _)).mono ?_⟩
 rintro e wz ⟨rfl,rfl⟩
 gi_wp2
 try (refine ⟨hS,?_⟩)
 refine oneF (i := 3) (c := ?_)
 gi_wp2_with fail
 refine ⟨trivial,(callsIn_wide.2 (num_any _ _)).mono ?_⟩
 rintro e wz ⟨rfl,rfl⟩
 gi_wp2
 try (refine ⟨hS,?_⟩)
 refine tkF (i := 4) (d := 59) (v := .int .i64 0) (s := hS) (c := ?_)
 simp only [ud9]
 refine tkF (i := 5) (d := 60) (v := .bool true) (s := hS) (c := ?_)
 simp only [ud9]
 refine tkF (i := 6) (d := 61) (v := .bool true) (s := hS) (c := ?_)
 simp only [ud9]
 refine tkF (i := 7) (d := 62) (v := .slice sA sm sc) (s := hS) (c := ?_)
 simp only [ud9]
 refine tkF (i := 8) (d := 63) (v := .agg #[.int .i64 k,.int .i64 p]) (s := hS) (c := ?_)
 simp only [ud9]
 refine tkF (i := 9) (d := 64) (v := .slice lA ln lc) (s := hS) (c := ?_)
 simp only [ud9]
 refine oneF (i := 10) (c := ?_)
 gi_wp2_with fail
 refine ⟨trivial,(callsIn_wide.2 (HE6.out _ hBx)).mono ?_⟩
 rintro e wv ⟨u9,rfl,hu9,hBq⟩
 obtain ⟨eA,ec,hee,_,_⟩ := id hu9
 generalize hen:wl.length = en at hee
 subst hee
 have hs9 := HSX.out _ (below_in hBx hBq)
 replace hBx := below_in hBx hBq
 clear hS
 have hS := HSS.out _ hBx
 gi_wp2
 try (refine ⟨hS,?_⟩)
 refine oneF (i := 11) (c := ?_)
 gi_wp2_with fail
 refine ⟨trivial,(callsIn_wide.2 ((HSA.out _ _ _ hs9 hu9))).mono ?_⟩
 rintro e wy ⟨rfl,hBq⟩
 replace hBx := below_in hBx hBq
 clear hS
 have hS := HSS.out _ hBx
 gi_wp2
 try (refine ⟨hS,?_⟩)
 refine tkF (i := 12) (d := 67) (v := .bool true) (s := hS) (c := ?_)
 simp only [ud9]
 refine tkF (i := 13) (d := 68) (v := .bool true) (s := hS) (c := ?_)
 simp only [ud9]
 refine tkF (i := 14) (d := 69) (v := .slice oA on oc) (s := hS) (c := ?_)
 simp only [ud9]
 refine tkF (i := 15) (d := 70) (v := .int .i64 (on:Int)) (s := hS) (c := ?_)
 simp only [ud9]
 refine tkF (i := 16) (d := 71) (v := .slice A nb cap) (s := hS) (c := ?_)
 simp only [ud9]
 refine tkF (i := 17) (d := 72) (v := .int .i64 (nb:Int)) (s := hS) (c := ?_)
 simp only [ud9]
 refine tkF (i := 18) (d := 73) (v := .bool true) (s := hS) (c := ?_)
 simp only [ud9]
 refine tkF (i := 19) (d := 74) (v := .bool true) (s := hS) (c := ?_)
 simp only [ud9]
 refine tkF (i := 20) (d := 75) (v := .bool true) (s := hS) (c := ?_)
 simp only [ud9]
 refine tkF (i := 21) (d := 76) (v := .slice oA on oc) (s := hS) (c := ?_)
 simp only [ud9]
 refine tkF (i := 22) (d := 77) (v := .slice A nb cap) (s := hS) (c := ?_)
 simp only [ud9]
 refine tkF (i := 23) (d := 78) (v := .int .i64 (nb:Int)) (s := hS) (c := ?_)
 simp only [ud9]
 refine tkF (i := 24) (d := 79) (v := .slice oA nb oc) (s := hS) (c := ?_)
 simp only [ud9]
 refine tkF (i := 25) (d := 80) (v := .string (text b)) (s := hS) (c := ?_)
 simp only [ud9]
 refine tkF (i := 26) (d := 81) (v := .slice A nb cap) (s := hS) (c := ?_)
 simp only [ud9]
 refine tkF (i := 27) (d := 82) (v := .string (text b)) (s := hS) (c := ?_)
 simp only [ud9]
 refine tkF (i := 28) (d := 83) (v := .bool true) (s := hS) (c := ?_)
 simp only [ud9]
 refine tkF (i := 29) (d := 84) (v := .bool true) (s := hS) (c := ?_)
 simp only [ud9]
 refine tkF (i := 30) (d := 85) (v := .bool true) (s := hS) (c := ?_)
 simp only [ud9]
 refine oneF (i := 31) (c := ?_)
 gi_wp2_with fail
 refine ⟨trivial,(callsIn_wide.2 ((works_any _ (HLW.out _ hBx)))).mono ?_⟩
 rintro e wx ⟨rfl,hBq⟩
 replace hBx := below_in hBx hBq
 clear hS
 have hS := HSS.out _ hBx
 gi_wp2
 try (refine ⟨hS,?_⟩)
 refine tkF (i := 32) (d := 87) (v := .bool true) (s := hS) (c := ?_)
 simp only [ud9]
 refine oneF (i := 33) (c := ?_)
 gi_wp2
 refine anyHF_done (by kernel_rfl) ?_ _
 refine NoPanic.normal ?_
 go_wp2
 go_ret
 exact ⟨rfl,below_in hW4 hBx⟩

end Go.Proofs.YtmhgjkechbjemaaGreatDoor.codeFills
