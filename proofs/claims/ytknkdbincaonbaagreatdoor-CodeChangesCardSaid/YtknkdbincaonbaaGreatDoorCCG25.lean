/- -/
import Derived.Test.YtknkdbincaonbaaGreatDoorCCG24
import Derived.Test.YtknkdbincaonbaaGreatDoorCCG14
import Derived.Test.YtknkdbincaonbaaGreatDoorCCG6
import Derived.Test.YtknkdbincaonbaaGreatDoorCCG23
import Derived.Test.YtknkdbincaonbaaGreatDoorCCG11
set_option linter.unusedVariables false
set_option linter.unusedSimpArgs false
set_option maxRecDepth 100000
set_option maxHeartbeats 4000000
namespace Go.Proofs.YtknkdbincaonbaaGreatDoor.Cd
open Go.RowKit Go.Shelf Go.Maps Go.Proofs.YtknkdbincaonbaaGreatDoor.C Go.Proofs.YtknkdbincaonbaaGreatDoor.E Go.Proofs.YtknkdbincaonbaaGreatDoor.Q

theorem num_any (n:Int) (w:World):Calls Tryz.prog 12 #[.int .i64 n] w fun e w'=>e = .returned (.int .i64 n)∧w=w':=by
 go_enter Tryz.func12,Tryz.ntmps12
 go_wp2
 go_ret
 exact ⟨rfl,rfl⟩
def os_fst (w:World):List Obj:=[.cells #[.int .u8 1] 5,
 .cells #[.int .u8 2] 5,
 .cells #[.slice (some ⟨w.heap.size+0,0,none⟩) 1 1,.slice (some ⟨w.heap.size+1,0,none⟩) 1 1] 32,
 .cells #[.int .u8 4] 5,
 .cells #[.int .u8 8] 5,
 .cells #[.slice (some ⟨w.heap.size+3,0,none⟩) 1 1,.slice (some ⟨w.heap.size+4,0,none⟩) 1 1] 32,
 .cells #[.int .u8 5] 5,
 .cells #[.int .u8 10] 5,
 .cells #[.slice (some ⟨w.heap.size+6,0,none⟩) 1 1,.slice (some ⟨w.heap.size+7,0,none⟩) 1 1] 32,
 .cells #[.int .u8 11] 5,
 .cells #[.int .u8 6] 5,
 .cells #[.slice (some ⟨w.heap.size+9,0,none⟩) 1 1,.slice (some ⟨w.heap.size+10,0,none⟩) 1 1] 32,
 .cells #[.slice (some ⟨w.heap.size+2,0,none⟩) 2 2,.slice (some ⟨w.heap.size+5,0,none⟩) 2 2,.slice (some ⟨w.heap.size+8,0,none⟩) 2 2,.slice (some ⟨w.heap.size+11,0,none⟩) 2 2] 58]
theorem cols_fst (w:World):Cols (allocs w (os_fst w)).heap.size (allocs w (os_fst w)) (.slice (some ⟨w.heap.size+12,0,none⟩) 4 4) [[[1],[2]],[[4],[8]],[[5],[10]],[[11],[6]]]:=by
 refine cols_of (allocs_blk w (os_fst w) 12 _ _ rfl) rfl (by omega) fun j hj=>?_
 have hj3:j=0∨j=1∨j=2∨j=3:=by omega
 rcases hj3 with rfl | rfl | rfl | rfl
 · exact ⟨_,rfl,many_two (allocs_blk w (os_fst w) 2 _ _ rfl) (allocs_blk w (os_fst w) 0 _ _ rfl) (allocs_blk w (os_fst w) 1 _ _ rfl)⟩
 · exact ⟨_,rfl,many_two (allocs_blk w (os_fst w) 5 _ _ rfl) (allocs_blk w (os_fst w) 3 _ _ rfl) (allocs_blk w (os_fst w) 4 _ _ rfl)⟩
 · exact ⟨_,rfl,many_two (allocs_blk w (os_fst w) 8 _ _ rfl) (allocs_blk w (os_fst w) 6 _ _ rfl) (allocs_blk w (os_fst w) 7 _ _ rfl)⟩
 · exact ⟨_,rfl,many_two (allocs_blk w (os_fst w) 11 _ _ rfl) (allocs_blk w (os_fst w) 9 _ _ rfl) (allocs_blk w (os_fst w) 10 _ _ rfl)⟩
def os_snd (w:World):List Obj:=[.cells #[.int .u8 1] 5,
 .cells #[.int .u8 2] 5,
 .cells #[.slice (some ⟨w.heap.size+0,0,none⟩) 1 1,.slice (some ⟨w.heap.size+1,0,none⟩) 1 1] 32,
 .cells #[.int .u8 0] 5,
 .cells #[.int .u8 8] 5,
 .cells #[.slice (some ⟨w.heap.size+3,0,none⟩) 1 1,.slice (some ⟨w.heap.size+4,0,none⟩) 1 1] 32,
 .cells #[.int .u8 1] 5,
 .cells #[.int .u8 10] 5,
 .cells #[.slice (some ⟨w.heap.size+6,0,none⟩) 1 1,.slice (some ⟨w.heap.size+7,0,none⟩) 1 1] 32,
 .cells #[.int .u8 11] 5,
 .cells #[.int .u8 2] 5,
 .cells #[.slice (some ⟨w.heap.size+9,0,none⟩) 1 1,.slice (some ⟨w.heap.size+10,0,none⟩) 1 1] 32,
 .cells #[.slice (some ⟨w.heap.size+2,0,none⟩) 2 2,.slice (some ⟨w.heap.size+5,0,none⟩) 2 2,.slice (some ⟨w.heap.size+8,0,none⟩) 2 2,.slice (some ⟨w.heap.size+11,0,none⟩) 2 2] 58]
theorem cols_snd (w:World):Cols (allocs w (os_snd w)).heap.size (allocs w (os_snd w)) (.slice (some ⟨w.heap.size+12,0,none⟩) 4 4) [[[1],[2]],[[0],[8]],[[1],[10]],[[11],[2]]]:=by
 refine cols_of (allocs_blk w (os_snd w) 12 _ _ rfl) rfl (by omega) fun j hj=>?_
 have hj3:j=0∨j=1∨j=2∨j=3:=by omega
 rcases hj3 with rfl | rfl | rfl | rfl
 · exact ⟨_,rfl,many_two (allocs_blk w (os_snd w) 2 _ _ rfl) (allocs_blk w (os_snd w) 0 _ _ rfl) (allocs_blk w (os_snd w) 1 _ _ rfl)⟩
 · exact ⟨_,rfl,many_two (allocs_blk w (os_snd w) 5 _ _ rfl) (allocs_blk w (os_snd w) 3 _ _ rfl) (allocs_blk w (os_snd w) 4 _ _ rfl)⟩
 · exact ⟨_,rfl,many_two (allocs_blk w (os_snd w) 8 _ _ rfl) (allocs_blk w (os_snd w) 6 _ _ rfl) (allocs_blk w (os_snd w) 7 _ _ rfl)⟩
 · exact ⟨_,rfl,many_two (allocs_blk w (os_snd w) 11 _ _ rfl) (allocs_blk w (os_snd w) 9 _ _ rfl) (allocs_blk w (os_snd w) 10 _ _ rfl)⟩
theorem fill_row:wholeL 2 3 (fillL (datN 2 3) ((3:Int) - 1).toNat (1:Int).toNat [1,4,2,8]) = [[[1],[2]],[[4],[8]],[[5],[10]],[[11],[6]]]:=by decide +kernel
theorem chg_row:chgK 2 3 [[[1],[2]],[[4],[8]],[[5],[10]],[[11],[6]]] 1 0 [0] = [[[1],[2]],[[0],[8]],[[1],[10]],[[11],[2]]]:=by decide +kernel
theorem tou_row:touL 2 3 1 0 = [(2,0),(3,1)]:=by decide +kernel
theorem fill_ok:FillOk 2 3 [1,4,2,8] 1:=⟨⟨by decide,by decide⟩,by decide,by decide⟩
theorem row_all:AllK 2 3 [[[1],[2]],[[4],[8]],[[5],[10]],[[11],[6]]]:=by
 have hok:DataK 2 3 (fillL (datN 2 3) ((3:Int) - 1).toNat (1:Int).toNat [1,4,2,8]):=⟨⟨⟨by decide,by decide⟩,by decide⟩,right_of (by decide) (by decide) (fill_grid _ _ _ _) (by decide)⟩
 rw [←fill_row]
 exact (whole_all hok).1
attribute [local go_sem] Oper.semAt_some
theorem works_any (w:World) (hL:Laid w):Calls Tryz.prog 9 #[] w fun e w'=>e = .returned (.bool true)∧Below w.heap.size w w':=by
 have HF:=Lib.hid (fun (U:World) (v:Value) (hU:Laid U) (hb:Bytes U.heap.size U v [1,4,2,8])=>by
  have h:=fill_yes 2 3 v [1,4,2,8] 1 fill_ok U hU hb
  rw [fill_row] at h
  exact h)
 have HC:=Lib.hid (fun (U:World) (v vc:Value) (hU:Laid U) (hC:Cols U.heap.size U v [[[1],[2]],[[4],[8]],[[5],[10]],[[11],[6]]]) (hb:Bytes U.heap.size U vc [0])=>by
  have h:=change_yes (B:=U.heap.size) 2 3 v [[[1],[2]],[[4],[8]],[[5],[10]],[[11],[6]]] 1 0 [0] vc row_all rfl (by decide) (by decide) U hU (Nat.le_refl _) hC hb
  rw [chg_row,tou_row] at h
  exact h)
 have HS:=Lib.hid (fun (U:World) (v v2:Value) (h1:Cols U.heap.size U v [[[1],[2]],[[4],[8]],[[5],[10]],[[11],[6]]]) (h2:Cols U.heap.size U v2 [[[1],[2]],[[4],[8]],[[5],[10]],[[11],[6]]])=>same6_any v v2 _ _ U h1 h2 (Nat.le_refl _) (Nat.le_refl _) (fun j=>(by rcases j with _ | _ | _ | _ | j <;> simp)) (fun j=>(by rcases j with _ | _ | _ | _ | j <;> simp)) (by simp) (by simp))
 have HZ:=Lib.hid (fun (U:World) (v v2:Value) (h1:Cols U.heap.size U v [[[1],[2]],[[0],[8]],[[1],[10]],[[11],[2]]]) (h2:Cols U.heap.size U v2 [[[1],[2]],[[0],[8]],[[1],[10]],[[11],[2]]])=>same6_any v v2 _ _ U h1 h2 (Nat.le_refl _) (Nat.le_refl _) (fun j=>(by rcases j with _ | _ | _ | _ | j <;> simp)) (fun j=>(by rcases j with _ | _ | _ | _ | j <;> simp)) (by simp) (by simp))
 have HP:=Lib.hid (fun (U:World) (v v2:Value) (h1:ReadA U v [(2,0),(3,1)]) (h2:ReadA U v2 [(2,0),(3,1)])=>same_yes v v2 [(2,0),(3,1)] (by simp) U h1 h2)
 simp only [decide_true] at HS HZ
 have hBz:=below_one w (.cells #[.int .i64 2,.int .i64 3] 24)
 have bz:=Blk.new w 24 #[.int .i64 2,.int .i64 3]
 obtain ⟨wb,hwb⟩:∃ wb,w.alloc (.cells #[.int .i64 2,.int .i64 3] 24)=wb:=⟨_,rfl⟩
 rw [hwb] at hBz bz
 obtain ⟨wc,hwc⟩:∃ wc,wb.alloc (.cells #[.int .u8 1,.int .u8 4,.int .u8 2,.int .u8 8] 5)=wc:=⟨_,rfl⟩
 have hBc:Below wb.heap.size wb wc:=by rw [←hwc];exact below_one wb _
 have bc:Blk wc wb.heap.size 5 #[.int .u8 1,.int .u8 4,.int .u8 2,.int .u8 8]:=by rw [←hwc];exact Blk.new wb _ _
 have hby:Bytes wc.heap.size wc (.slice (some ⟨wb.heap.size,0,none⟩) 4 4) [1,4,2,8]:=⟨_,4,rfl,Nat.le_refl _,fun _=>⟨wb.heap.size,0,rfl,bc.lt,fun j hj=>by
  have hj4:j=0∨j=1∨j=2∨j=3:=by have:j<4:=hj;omega
  rcases hj4 with rfl | rfl | rfl | rfl <;> exact bc.cell _⟩⟩
 have c0:=bz.cell 0
 have c1:=bz.cell 1
 simp only [gz9] at c0 c1
 have HF1:=Lib.hid (HF.out wc _ (hL.next (below_in hBz hBc)) hby)
 clear hby bc HF
 go_enter Tryz.func9,Tryz.ntmps9
 go_wp2_with fail
 refine HF1.out.mono ?_
 rintro e w1 ⟨A1,n1,k1,rfl,hs1,hB1⟩
 obtain rfl:n1=4:=by obtain ⟨A9,c9,e9,_⟩:=hs1;injection e9
 have hB01:=below_in hBc hB1
 replace bz:=bz.below hB01 bz.lt
 clear c0 c1
 have c0:=bz.cell 0
 have c1:=bz.cell 1
 simp only [gz9] at c0 c1
 have hcA:Cols w1.heap.size w1 (.slice A1 4 k1) [[[1],[2]],[[4],[8]],[[5],[10]],[[11],[6]]]:=colsR_iff.1 (colsR.imp (sepC_cols hs1) fun q hq=>hq.2)
 obtain ⟨w2,hw2⟩:∃ w2,w1.alloc (.cells #[.int .u8 0] 5)=w2:=⟨_,rfl⟩
 have hB2:Below w1.heap.size w1 w2:=by rw [←hw2];exact below_one w1 _
 have b2:Blk w2 w1.heap.size 5 #[.int .u8 0]:=by rw [←hw2];exact Blk.new w1 _ _
 have hby2:Bytes w2.heap.size w2 (.slice (some ⟨w1.heap.size,0,none⟩) 1 1) [0]:=⟨_,1,rfl,Nat.le_refl _,fun _=>⟨w1.heap.size,0,rfl,b2.lt,fun j hj=>by
  have hj4:j=0:=by have:j<1:=hj;omega
  subst hj4
  exact b2.cell _⟩⟩
 have hW2:=below_in hBz (below_in hB01 hB2)
 have HC1:=Lib.hid (HC.out w2 _ _ (hL.next hW2) ((hcA.below hB2).more hB2.size) hby2)
 clear hby2 b2 HC hs1 HF1
 go_wp2_with fail
 refine HC1.out.mono ?_
 rintro e w3 ⟨A3,n3,k3,A4,n4,k4,rfl,hs3,hr3,hB3⟩
 obtain rfl:n3=4:=by obtain ⟨A9,c9,e9,_⟩:=hs3;injection e9
 obtain rfl:n4=2:=by obtain ⟨g9,c9,e9,_⟩:=hr3;injection e9
 have hcB:Cols w3.heap.size w3 (.slice A3 4 k3) [[[1],[2]],[[0],[8]],[[1],[10]],[[11],[2]]]:=colsR_iff.1 (colsR.imp (sepC_cols hs3) fun q hq=>hq.2)
 have hB13:=below_in hB2 hB3
 have hcA3:=(hcA.below hB13).more hB13.size
 have hW3:=below_in hW2 hB3
 have hF4:=cols_fst w3
 have hB4:=allocs_below w3 (os_fst w3)
 have hcA4:=(hcA3.below hB4).more hB4.size
 clear hs3 hcA hcA3 hB1 hB2 HC1 bz hB01 hB13 hB3
 go_wp2_with (first
  | (go_at_call 12;refine (num_any _ _).mono ?_;rintro e w' ⟨rfl,rfl⟩)
  | fail)
 refine (HS.out _ _ _ hcA4 hF4).mono ?_
 rintro e w5 ⟨rfl,hB5⟩
 have hB35:=below_in hB4 hB5
 have hG6:=cols_snd w5
 have hB6:=allocs_below w5 (os_snd w5)
 have hB36:=below_in hB35 hB6
 have hcB6:=(hcB.below hB36).more hB36.size
 clear hcA4 hF4 hcB
 go_wp2_with fail
 refine (HZ.out _ _ _ hcB6 hG6).mono ?_
 rintro e w7 ⟨rfl,hB7⟩
 have hB37:=below_in hB36 hB7
 have hr7:=ReadP.next hr3 hB37
 obtain ⟨w8,hw8⟩:∃ w8,w7.alloc (.cells #[.int .i64 2,.int .i64 0,.int .i64 3,.int .i64 1] 53)=w8:=⟨_,rfl⟩
 have hB8:Below w7.heap.size w7 w8:=by rw [←hw8];exact below_one w7 _
 have b8:Blk w8 w7.heap.size 53 #[.int .i64 2,.int .i64 0,.int .i64 3,.int .i64 1]:=by rw [←hw8];exact Blk.new w7 _ _
 have hr8:=(ReadP.readA hr7).next hB8
 have hq8:ReadA w8 (.slice (some ⟨w7.heap.size,0,none⟩) 2 2) [(2,0),(3,1)]:=⟨_,2,rfl,fun j hj=>⟨w7.heap.size,rfl,b8.lt,by
  have hj2:j=0∨j=1:=by have:j<2:=hj;omega
  rcases hj2 with rfl | rfl
  · exact ⟨b8.cell 0,b8.cell 1⟩
  · exact ⟨b8.cell 2,b8.cell 3⟩⟩⟩
 have HP8:=Lib.hid (HP.out w8 _ _ hr8 hq8)
 clear hcB6 hG6 hr3 hr7 hr8 hq8 b8
 go_wp2_with fail
 refine HP8.out.mono ?_
 rintro e w9 ⟨rfl,hB9⟩
 go_wp2
 go_ret
 exact ⟨rfl,below_in hW3 (below_in hB37 (below_in hB8 hB9))⟩
end Go.Proofs.YtknkdbincaonbaaGreatDoor.Cd

namespace Go.Proofs.YtknkdbincaonbaaGreatDoor.Cd
open Go.RowKit Go.Shelf Go.Maps Go.Proofs.YtknkdbincaonbaaGreatDoor.C Go.Proofs.YtknkdbincaonbaaGreatDoor.E Go.Proofs.YtknkdbincaonbaaGreatDoor.Q


theorem ref9Right_any {B:Nat} (k p:Int) (v:Value) (css:List (List (List UInt8))) (w:World) (hB:B≤w.heap.size) (hC:Cols B w v css) (hlen:css.length≤1000) (b:Bool) (hb:b=true↔AllK k p css) :
 Calls Tryz.prog 14 #[.agg #[.int .i64 k,.int .i64 p],v] w fun e w'=>e = .returned (.bool b)∧Below w.heap.size w w':=by
 obtain ⟨A,cap,rfl,_,_⟩:=id hC
 have hBz:=below_one w (.cells #[.int .i64 k,.int .i64 p] 24)
 have bz:=Blk.new w 24 #[.int .i64 k,.int .i64 p]
 obtain ⟨wb,hwb⟩:∃ wb,w.alloc (.cells #[.int .i64 k,.int .i64 p] 24)=wb:=⟨_,rfl⟩
 rw [hwb] at hBz bz
 have c0:=bz.cell 0
 have c1:=bz.cell 1
 simp only [gz9] at c0 c1
 have HRT:=Lib.hid (refRight_any k p wb)
 by_cases hR:RightC k p
 case neg =>
  have hbf:b=false:=Bool.eq_false_iff.2 fun h=>hR (hb.1 h).1.1
  subst hbf
  clear hC hb hlen
  go_enter Tryz.func14,Tryz.ntmps14
  go_wp2_with (go_at_call 16;refine HRT.out.mono ?_;rintro e w1 ⟨_,h2,hB1⟩;obtain rfl:=h2 hR)
  go_ret
  exact ⟨rfl,below_in hBz hB1⟩
 have HCO:=Lib.hid (fun (U:World)=>refCols_any k p hR U)
 by_cases hn:(css.length:Int)=p - shortN k+madeN k
 case neg =>
  have hbf:b=false:=Bool.eq_false_iff.2 fun h=>hn (hb.1 h).1.2
  subst hbf
  have hnn:((css.length:Int) == p - shortN k+madeN k)=false:=beq_eq_false_iff_ne.2 hn
  clear hC hb hlen hn
  generalize css.length=N at *
  go_enter Tryz.func14,Tryz.ntmps14
  go_wp2_with (first
   | (go_at_call 16;refine HRT.out.mono ?_;rintro e w1 ⟨h1,_,hB1⟩;obtain rfl:=h1 hR;replace bz:=bz.below hB1 bz.lt;clear c0 c1;have c0:=bz.cell 0;have c1:=bz.cell 1;simp only [gz9] at c0 c1)
   | (go_at_call 47;refine (HCO.out _).mono ?_;rintro e w2 ⟨rfl,hB2⟩))
  go_ret
  exact ⟨rfl,below_in hBz (below_in hB1 hB2)⟩
 have HR6:=Lib.hid (fun (U:World) (hU:Below wb.heap.size wb U)=>right6_any (B:=B) p (.slice A css.length cap) css U (Nat.le_trans hB (below_in hBz hU).size) (hC.below ((below_in hBz hU).mono hB)) hlen b (hb.trans ⟨fun h=>h.2,fun h=>⟨⟨hR,hn⟩,h⟩⟩))
 have hnn:((css.length:Int) == p - shortN k+madeN k)=true:=by simpa using hn
 clear hC hb hlen hn
 generalize css.length=N at *
 go_enter Tryz.func14,Tryz.ntmps14
 go_wp2_with (first
  | (go_at_call 16;refine HRT.out.mono ?_;rintro e w1 ⟨h1,_,hB1⟩;obtain rfl:=h1 hR;replace bz:=bz.below hB1 bz.lt;clear c0 c1;have c0:=bz.cell 0;have c1:=bz.cell 1;simp only [gz9] at c0 c1)
  | (go_at_call 47;refine (HCO.out _).mono ?_;rintro e w2 ⟨rfl,hB2⟩;have hB12:=below_in hB1 hB2;replace bz:=bz.below hB2 bz.lt;clear c0 c1;have c0:=bz.cell 0;have c1:=bz.cell 1;simp only [gz9] at c0 c1)
  | (go_at_call 18;refine (HR6.out _ hB12).mono ?_;rintro e w3 ⟨rfl,hB3⟩))
 go_ret
 exact ⟨rfl,below_in hBz (below_in hB12 hB3)⟩
end Go.Proofs.YtknkdbincaonbaaGreatDoor.Cd

namespace Go.Proofs.YtknkdbincaonbaaGreatDoor.Cd
open Go.RowKit Go.Shelf Go.Maps Go.Proofs.YtknkdbincaonbaaGreatDoor.C Go.Proofs.YtknkdbincaonbaaGreatDoor.E Go.Proofs.YtknkdbincaonbaaGreatDoor.Q

theorem take_more {α:Type} {d:α} (l:List α) {r:Nat} (hr:r<l.length):l.take (r+1)=l.take r ++ [l[r]?.getD d]:=by
 rw [List.take_succ_eq_append_getElem hr,List.getElem?_eq_getElem hr]
 rfl
theorem refCopy_any {B:Nat} (v:Value) (css:List (List (List UInt8))) (w:World) (hB:B≤w.heap.size) (hC:Cols B w v css) (hl1:css.length≤1000) (hall:∀ j:Nat,(css[j]?.getD []).length≤1000∧∀ i:Nat,((css[j]?.getD [])[i]?.getD []).length≤1000) :
 Calls Tryz.prog 30 #[v] w fun e w'=>∃ u,e = .returned u∧sepOC.R (fun b=>w.heap.size≤b∧b<w'.heap.size) w' u css∧Below w.heap.size w w':=by
 obtain ⟨i0,hi,hz0,hz1,hz2⟩:=info_parts Tryz.infoByte
 obtain ⟨A,cap,rfl,_,_⟩:=id hC
 have HALL:=Lib.hid hall
 clear hall
 obtain ⟨n0,hn0⟩:∃ n0,css.length=n0:=⟨_,rfl⟩
 have HN0:=Lib.hid hn0
 have HCC:=Lib.hid hC
 rw [hn0] at hl1 ⊢
 clear hn0 hC
 go_enter Tryz.func30,Tryz.ntmps30
 go_wp2
 go_loopw [3,4] (fun v i wr=>∃ m:Nat,m≤n0∧i = .int .i64 m∧RowS sepO 58 [] wr.heap.size wr w.heap.size v (css.take m)∧Below w.heap.size w wr) (fun _ i _=>n0 - (intOf i).toNat)
 case atStart=>exact ⟨0,Nat.zero_le _,rfl,RowS.nil _ _ _ _ _ _ (Nat.le_refl _),Below.refl _ _⟩
 case round =>
  obtain ⟨m,hm,rfl,hrow,hBr⟩:=hrel
  by_cases hlt:m<n0
  · have hdec:decide ((m:Int)<(n0:Int))=true:=by simp;omega
    obtain ⟨b1,off1,cq1,e1,hcq,hb1,hrow1⟩:=HCC.out.at_ (by have:=HN0.out;omega)
    injection e1 with e1 _ _
    subst e1
    obtain ⟨u1,hc1,hm1⟩:=hrow1 m (by have:=HN0.out;omega)
    obtain ⟨A3,cap3,rfl,_,_⟩:=id hm1
    obtain ⟨hcl,hck⟩:=HALL.out m
    have HNX:Hid (css.take (m+1)=css.take m ++ [css[m]?.getD []]):=take_more css (by have:=HN0.out;omega)
    have HPL:Hid ((css.take m).length≤1000):=by unfold Hid;rw [List.length_take];omega
    have HC1:=Lib.hid hc1
    have HM1:=Lib.hid hm1
    have HCK:=Lib.hid hck
    clear hrow1 hc1 hm1 hck
    generalize css[m]?.getD []=cs at *
    generalize css.take m=pre at *
    obtain ⟨n1,hn1⟩:∃ n1,cs.length=n1:=⟨_,rfl⟩
    have HN1:=Lib.hid hn1
    rw [hn1] at hcl HC1 HM1
    have hc1:=(hBr.cell (p:=⟨b1,off1+m,none⟩) (Nat.lt_of_lt_of_le hb1 hB)).trans HC1.out
    clear hn1
    have i1:(0:Int)≤(m:Int):=by omega
    have i2:(m:Int)<(n0:Int):=by omega
    have HROW:=Lib.hid hrow
    obtain ⟨wq,hwq⟩:∃ x,x=wr:=⟨_,rfl⟩
    subst hwq
    clear hrow
    go_wp2
    go_loopw [5,6] (fun v2 i wr=>∃ r:Nat,r≤n1∧i = .int .i64 r∧RowS octR 32 [] wr.heap.size wr wq.heap.size v2 (cs.take r)∧Below wq.heap.size wq wr) (fun _ i _=>n1 - (intOf i).toNat)
    case atStart=>exact ⟨0,Nat.zero_le _,rfl,RowS.nil _ _ _ _ _ _ (Nat.le_refl _),Below.refl _ _⟩
    case round =>
     obtain ⟨r,hr,rfl,hrow2,hBs⟩:=hrel
     have hBws:=below_in hBr hBs
     have hc2:=(hBs.cell (p:=⟨b1,off1+m,none⟩) (Nat.lt_of_lt_of_le hb1 (Nat.le_trans hB hBr.size))).trans hc1
     by_cases hlt2:r<n1
     · have hdec2:decide ((r:Int)<(n1:Int))=true:=by simp;omega
       have hm1:=HM1.out
       rw [←HN1.out] at hm1
       obtain ⟨b2,off2,e2,hb2,hrow3⟩:=many_at hm1 (by have:=HN1.out;omega)
       obtain ⟨A4,cp4,hc3,hby⟩:=hrow3 r (by have:=HN1.out;omega)
       have HLL:=Lib.hid (HCK.out r)
       have HNX2:Hid (cs.take (r+1)=cs.take r ++ [cs[r]?.getD []]):=take_more cs (by have:=HN1.out;omega)
       have HPL2:Hid ((cs.take r).length≤1000):=by unfold Hid;rw [List.length_take];omega
       clear hrow3 hm1
       subst e2
       generalize cs[r]?.getD []=cl at *
       generalize cs.take r=pre2 at *
       obtain ⟨n2,hn2⟩:∃ n2,cl.length=n2:=⟨_,rfl⟩
       have HN2:=Lib.hid hn2
       rw [hn2] at hc3 hby
       clear hn2
       have c3:=(hBws.cell (p:=⟨b2,off2+r,none⟩) (Nat.lt_of_lt_of_le hb2 hB)).trans hc3
       have j1:(0:Int)≤(r:Int):=by omega
       have j2:(r:Int)<(n1:Int):=by omega
       have HBY:=Lib.hid (hby.below (hBws.mono hB))
       have HO:Hid (OwnB wr wr.heap.size (.slice none 0 0) []):=World.ownsRow_nil wr wr.heap.size 5 1
       have HROW2:=Lib.hid hrow2
       have hbs:=hBs.size
       have hBr2:=hBr.size
       clear hby hc3 hrow2
       go_wp2_with (first
        | (at_builtin;refine wpList_app _ rfl _ _ rfl wr.heap.size i0 Tryz.underlying32 hi hz0 hz1 hz2 _ [] rfl HO.out B _ cl rfl HBY.out (by have:=HLL.out;simp only [List.length_nil];omega) (Nat.le_refl _) ?_;intro v' w2 hown1 hgrow1 _;rw [List.nil_append] at hown1;have hoct:=ownB_oct hown1;obtain ⟨A5,c5,e5,hc5,hA5⟩:=id hoct;rw [HN2.out] at e5;subst e5;clear hc5 hA5;have hBw2:Below wr.heap.size wr w2:=below_grown (Below.refl _ _) hgrow1 (Nat.le_refl _) (fun k e=>by cases e);have hBw3:=below_one w2 (.cells #[.slice A5 n2 c5] 32);have HROW3:=Lib.hid (RowS.below HROW2.out (below_in hBw2 hBw3));have HBLK:=Lib.hid (Blk.new w2 32 #[.slice A5 n2 c5]);have HOC:=Lib.hid (octR.imp (octR.keep hoct (fun b hb=>hBw3.block b hb.2)) (fun b hb=>(⟨hb.1,Nat.lt_of_lt_of_le hb.2 hBw3.size⟩:wr.heap.size≤b∧b<(w2.alloc (.cells #[.slice A5 n2 c5] 32)).heap.size)));clear hoct hown1 hgrow1)
        | (at_builtin;refine wpList_pushS (T:=58) _ rfl _ _ Tryz.infoSlcE rfl Tryz.underlying58 rfl HROW3.out w2.heap.size 32 _ cl rfl HBLK.out _ HOC.out (fun c hc=>hc) (by have:=HPL2.out;omega) (by omega) ?_;intro v' w3 hrow4 hgrow hown))
       go_roundw
       case rel=>exact ⟨r+1,by omega,by go_num,by rw [HNX2.out];exact hrow4,below_grown (below_in hBs (below_in hBw2 hBw3)) hgrow (by have:=hBw2.size;have:=hBw3.size;omega) (fun g e=>(RowS.own_le HROW2.out g e).1)⟩
       case measure=>simp [intOf];omega
     · obtain rfl:r=n1:=by omega
       have e1:decide ((r:Int)<(r:Int))=false:=by simp
       rw [List.take_of_length_le (Nat.le_of_eq HN1.out)] at hrow2
       have hsep:=RowS.sep hrow2
       obtain ⟨A7,cp7,hu7,_,_⟩:=id hsep
       rw [HN1.out] at hu7
       subst hu7
       have hcells:Below wr.heap.size wr (wr.alloc (.cells #[.slice A7 r cp7] 58)):=below_one wr _
       have HROWC:=Lib.hid (RowS.below HROW.out (below_in hBs hcells))
       have HBLK:=Lib.hid (Blk.new wr 58 #[.slice A7 r cp7])
       have HCP:=Lib.hid (sepO.imp (sepO.keep (show sepO.R _ wr _ cs from hsep) (fun b hb=>hcells.block b hb.2)) (fun b hb=>(⟨hb.1,Nat.lt_of_lt_of_le hb.2 hcells.size⟩:wq.heap.size≤b∧b<(wr.alloc (.cells #[.slice A7 r cp7] 58)).heap.size)))
       have hbs:=hBs.size
       have hcs:=hcells.size
       have hwq:=hBr.size
       clear hrow2 hsep
       go_wp2_with (at_builtin;refine wpList_pushS (T:=28) _ rfl _ _ Tryz.infoCol rfl Tryz.underlying28 rfl HROWC.out wr.heap.size 58 _ cs rfl HBLK.out _ HCP.out (fun c hc=>hc) (by have:=HPL.out;omega) (by omega) ?_;intro v' w2 hrow4 hgrow hown)
       go_roundw
       case rel=>exact ⟨m+1,by omega,by go_num,by rw [HNX.out];exact hrow4,below_grown (below_in hBr (below_in hBs hcells)) hgrow (by omega) (fun g e=>(RowS.own_le HROW.out g e).1)⟩
       case measure=>simp [intOf];omega
  · obtain rfl:m=n0:=by omega
    have e1:decide ((m:Int)<(m:Int))=false:=by simp
    rw [List.take_of_length_le (Nat.le_of_eq HN0.out)] at hrow
    go_wp2
    go_ret
    exact ⟨_,rfl,RowS.sep hrow,hBr⟩
end Go.Proofs.YtknkdbincaonbaaGreatDoor.Cd

namespace Go.Proofs.YtknkdbincaonbaaGreatDoor.Cd
open Go.RowKit Go.Shelf Go.Proofs.YtknkdbincaonbaaGreatDoor.C Go.Proofs.YtknkdbincaonbaaGreatDoor.E Go.Proofs.YtknkdbincaonbaaGreatDoor.Q

theorem setCell_far {V:World} {p q:Addr} {u:Value} (h:q.block≠p.block):(V.setCell p u).cell? q=V.cell? q:=World.cell?_of_block (Below.heap_setCell V p u q.block h)
def ShapeAs (s css:List (List (List UInt8))):Prop:=s.length=css.length∧∀ j:Nat,(s[j]?.getD []).length=(css[j]?.getD []).length∧∀ i:Nat,(cellOf_ s j i).length=(cellOf_ css j i).length
theorem ShapeAs.refl (s:List (List (List UInt8))):ShapeAs s s:=⟨rfl,fun _=>⟨rfl,fun _=>rfl⟩⟩
section
variable {P:Nat→Prop} {W:World} {v:Value} {s:List (List (List UInt8))} {X Y:Nat}
end
theorem few_len {s:List (List (List UInt8))} (h:Few6 s):s.length≤1000∧(∀ j i:Nat,(s[j]?.getD []).length≤1000∧((s[j]?.getD [])[i]?.getD []).length≤1000):=by
 refine ⟨by have:=h.1;omega,fun j i=>?_⟩
 rcases Nat.lt_or_ge j s.length with hj | hj
 · have h2:=h.2 j hj
   refine ⟨by have:=h2.1;omega,?_⟩
   rcases Nat.lt_or_ge i (s[j]?.getD []).length with hi | hi
   · have:=h2.2 i hi;omega
   · rw [List.getElem?_eq_none hi];exact Nat.zero_le _
 · rw [List.getElem?_eq_none hj]
   exact ⟨Nat.zero_le _,by simp⟩
end Go.Proofs.YtknkdbincaonbaaGreatDoor.Cd

namespace Go.Proofs.YtknkdbincaonbaaGreatDoor
open Go.RowKit Go.Shelf

theorem memL_elem {k p mx my:Int} (hR:RightC k p) (hm:p - shortN k≤mx) (hc:HasCell k p mx my) {z:Int×Int} (hz:z∈memL k p mx my):(0≤z.1∧z.1<mx)∧(z.1<p - shortN k∨z.1=p - shortN k)∧HasCell k p z.1 z.2:=by
 obtain ⟨h1,h2⟩:=List.mem_filter.1 hz
 obtain ⟨h3,h4⟩:=flatC_mem' h1
 have h5:=spanL_mem h3
 refine ⟨h5,?_,⟨⟨h5.1,by have:=hc.1.2;omega⟩,h4⟩⟩
 unfold memB wayB at h2
 split at h2
 · exact .inl (of_decide_eq_true h2).1
 · split at h2
   · unfold onDg at h2
     split at h2
     · exact (of_decide_eq_true h2).1
     · exact .inl (of_decide_eq_true h2).1
   · exact .inl (of_decide_eq_true h2).1
theorem turn_next (a b:Int×Int) (l:List (Int×Int)) (j:Nat) (hj:j<l.length):turnF a b (l.take (j+1))=(turnF a b (l.take j) != decide (l[j]=a∨l[j]=b)):=by
 unfold turnF
 rw [List.take_succ_eq_append_getElem hj,List.foldl_append]
 rfl

theorem hangs_walk (k p mx my x y:Int) (hR:RightC k p) (hc:HasCell k p mx my) (hm:p - shortN k≤mx) (hx:0≤x∧x<p - shortN k) (hy:0≤y∧y<p - 1)
 (hrec:∀ ry,(p - shortN k,ry)∈memL k p mx my→∀ W,Calls Tryz.prog 105 #[.agg #[.int .i64 k,.int .i64 p],.agg #[.int .i64 (p - shortN k),.int .i64 ry],.agg #[.int .i64 x,.int .i64 y]] W fun e w'=>e = .returned (.bool (decide (ry=y)))∧Below W.heap.size W w') (w:World) :
 Calls Tryz.prog 105 #[.agg #[.int .i64 k,.int .i64 p],.agg #[.int .i64 mx,.int .i64 my],.agg #[.int .i64 x,.int .i64 y]] w fun e w'=>e = .returned (.bool (hangB k p mx my x y))∧Below w.heap.size w w':=by
 obtain ⟨p1,p2,s1,s2,m1,m2⟩:=hR.und
 have HMS:=Lib.hid (fun W=>refMembers_any k p mx my hR hc hm W)
 have HRo:=Lib.hid (fun x hx W=>refRole_any k p x hR hx W)
 have HT:=Lib.hid (turn_hang (my:=my) hR hm hx hy)
 have HEl:=Lib.hid (fun z hz=>memL_elem (z:=z) hR hm hc hz)
 have HLn:=memL_len hR hc
 have HNe:=List.length_pos_iff.2 (memL_ne hR hc hm)
 have HRec:=Lib.hid hrec
 have hmx:=hc.1.2
 clear hR hc hm hrec
 generalize memL k p mx my=l at *
 generalize hangB k p mx my x y=want at *
 obtain ⟨W0,hW0⟩:∃ W0,((w.alloc (.cells #[.int .i64 k,.int .i64 p] 24)).alloc (.cells #[.int .i64 mx,.int .i64 my] 53)).alloc (.cells #[.int .i64 x,.int .i64 y] 53)=W0:=⟨_,rfl⟩
 have b0:Blk W0 w.heap.size 24 #[.int .i64 k,.int .i64 p]:=by rw [←hW0];exact ((Blk.new w _ _).alloc _).alloc _
 have b1:Blk W0 (w.heap.size+1) 53 #[.int .i64 mx,.int .i64 my]:=by rw [←hW0];exact (Blk.second w _ _ _).alloc _
 have b2:Blk W0 (w.heap.size+1+1) 53 #[.int .i64 x,.int .i64 y]:=by
  rw [←hW0]
  have:=Blk.new ((w.alloc (.cells #[.int .i64 k,.int .i64 p] 24)).alloc (.cells #[.int .i64 mx,.int .i64 my] 53)) 53 #[.int .i64 x,.int .i64 y]
  rwa [World.size_alloc,World.size_alloc] at this
 have hB:Below w.heap.size w W0:=by rw [←hW0];exact (below_two w _ _).alloc (by simp;omega) _
 have c0:=b0.cell 0;have c1:=b0.cell 1;have a0:=b1.cell 0;have a1:=b1.cell 1;have d0:=b2.cell 0;have d1:=b2.cell 1;simp only [gz9] at c0 c1 a0 a1 d0 d1
 go_enter Tryz.func105,Tryz.ntmps105
 go_wp2_with fail
 clear hW0
 refine (HMS.out _).mono ?_
 rintro e w1 ⟨v,rfl,ho,hB1⟩
 replace b0:=b0.below hB1 b0.lt
 replace b1:=b1.below hB1 b1.lt
 replace b2:=b2.below hB1 b2.lt
 replace hB:=below_in hB hB1
 have hrd:=ho.readA
 clear hB1 ho HMS c0 c1 a0 a1 d0 d1
 obtain ⟨pp,cap,rfl,hc⟩:=hrd
 obtain ⟨g,rfl,hgl⟩:∃ g,pp=some ⟨g,0,none⟩∧g<w1.heap.size:=by obtain ⟨g,h1,h2,_⟩:=hc 0 HNe;exact ⟨g,h1,h2⟩
 have HC:Hid (∀ (j:Nat) (hj:j<l.length),w1.cell? ⟨g,j * 2,none⟩=some (.int .i64 (l[j]).1)∧w1.cell? ⟨g,j * 2+1,none⟩=some (.int .i64 (l[j]).2)):=fun j hj=>by
  obtain ⟨g2,e,_,h1,h2⟩:=hc j hj
  injection e with e
  injection e with e _ _
  subst e
  exact ⟨h1,h2⟩
 clear hc HNe
 obtain ⟨n,hn⟩:∃ n,l.length=n:=⟨_,rfl⟩
 have HL:=Lib.hid hn
 rw [hn] at HLn ⊢
 clear hn
 go_wp2_with fail
 go_loopw [7,9] (fun o i wr=>∃ j:Nat,j≤n∧i = .int .i64 j∧o = .bool (turnF (x,y) (p - shortN k,y) (l.take j))∧Below w1.heap.size w1 wr) (fun _ i _=>n - (intOf i).toNat)
 case atStart=>exact ⟨0,by omega,rfl,rfl,Below.refl _ _⟩
 case round =>
  obtain ⟨j,hj,rfl,rfl,hBr⟩:=hrel
  replace b0:=b0.below hBr b0.lt
  replace b1:=b1.below hBr b1.lt
  replace b2:=b2.below hBr b2.lt
  have c0:=b0.cell 0;have c1:=b0.cell 1;have a0:=b1.cell 0;have a1:=b1.cell 1;have d0:=b2.cell 0;have d1:=b2.cell 1;simp only [gz9] at c0 c1 a0 a1 d0 d1
  by_cases hlt:j<n
  · have hdec:decide ((j:Int)<(n:Int))=true:=by simp;omega
    have hjs:j<l.length:=by rw [HL.out];exact hlt
    obtain ⟨x0,x1⟩:=HC.out j hjs
    replace x0:=nextc x0 hBr
    replace x1:=nextc x1 hBr
    have i1:(0:Int)≤(j:Int):=by omega
    have i2:(j:Int)<(n:Int):=by omega
    obtain ⟨hz1,hz2,hz3⟩:=HEl.out _ (List.getElem_mem hjs)
    have HNX:=Lib.hid (turn_next (x,y) (p - shortN k,y) l j hjs)
    have hin:=List.getElem_mem hjs
    generalize l[j]=z at *
    obtain ⟨zx,zy⟩:=z
    generalize turnF (x,y) (p - shortN k,y) (l.take j)=acc at *
    have HRz:=Lib.hid (HRo.out zx ⟨hz1.1,by have:=hz1.2;simp only at this;omega⟩)
    rcases hz2 with h1 | h1
    · have er:rroleN (p - shortN k) zx=1:=if_pos h1
      rw [er] at HRz
      have hz9:¬ zx=p - shortN k:=by omega
      by_cases e1:x=zx
      · subst e1
        by_cases e2:y=zy
        · subst e2
          go_wp2
          go_region_held3 (fun W=>W.cell? ⟨w.heap.size,0,none⟩=some (.int .i64 k)∧W.cell? ⟨w.heap.size,1,none⟩=some (.int .i64 p)∧W.cell? ⟨g,j * 2,none⟩=some (.int .i64 x)∧W.cell? ⟨g,j * 2+1,none⟩=some (.int .i64 y)∧W.cell? ⟨w.heap.size+1+1,0,none⟩=some (.int .i64 x)∧W.cell? ⟨w.heap.size+1+1,1,none⟩=some (.int .i64 y))
           (exact ⟨b0.cell 0,b0.cell 1,x0,x1,b2.cell 0,b2.cell 1⟩) (first | (go_at_call 131;refine (HRz.out _).mono ?_;rintro e w3 ⟨rfl,hB1⟩;(first | replace b0:=b0.below hB1 b0.lt | replace b0:=b0.nextd hB1);(first | replace b2:=b2.below hB1 b2.lt | replace b2:=b2.nextd hB1);(first | replace x0:=nextc x0 hB1 | replace x0:=nextcd x0 hB1);(first | replace x1:=nextc x1 hB1 | replace x1:=nextcd x1 hB1);(first | replace hBr:=below_in hBr hB1 | replace hBr:=below_in hBr.drew hB1)))
          all_goals go_wp2
          all_goals go_region_held3 (fun W=>W.cell? ⟨w.heap.size,0,none⟩=some (.int .i64 k)∧W.cell? ⟨w.heap.size,1,none⟩=some (.int .i64 p)∧W.cell? ⟨g,j * 2,none⟩=some (.int .i64 x)∧W.cell? ⟨g,j * 2+1,none⟩=some (.int .i64 y)∧W.cell? ⟨w.heap.size+1+1,0,none⟩=some (.int .i64 x)∧W.cell? ⟨w.heap.size+1+1,1,none⟩=some (.int .i64 y))
           (exact ⟨b0.cell 0,b0.cell 1,x0,x1,b2.cell 0,b2.cell 1⟩) (fail)
          all_goals go_wp2
          all_goals go_roundw
          case rel=>exact ⟨j+1,by omega,by go_num,by rw [HNX.out];cases acc <;> simp_all,hBr.drew⟩
          case measure=>simp [intOf];omega
        · have e3:¬ zy=y:=fun e=>e2 e.symm
          go_wp2
          go_region_held3 (fun W=>W.cell? ⟨w.heap.size,0,none⟩=some (.int .i64 k)∧W.cell? ⟨w.heap.size,1,none⟩=some (.int .i64 p)∧W.cell? ⟨g,j * 2,none⟩=some (.int .i64 x)∧W.cell? ⟨g,j * 2+1,none⟩=some (.int .i64 zy)∧W.cell? ⟨w.heap.size+1+1,0,none⟩=some (.int .i64 x)∧W.cell? ⟨w.heap.size+1+1,1,none⟩=some (.int .i64 y))
           (exact ⟨b0.cell 0,b0.cell 1,x0,x1,b2.cell 0,b2.cell 1⟩) (first | (go_at_call 131;refine (HRz.out _).mono ?_;rintro e w3 ⟨rfl,hB1⟩;(first | replace b0:=b0.below hB1 b0.lt | replace b0:=b0.nextd hB1);(first | replace b2:=b2.below hB1 b2.lt | replace b2:=b2.nextd hB1);(first | replace x0:=nextc x0 hB1 | replace x0:=nextcd x0 hB1);(first | replace x1:=nextc x1 hB1 | replace x1:=nextcd x1 hB1);(first | replace hBr:=below_in hBr hB1 | replace hBr:=below_in hBr.drew hB1)))
          all_goals go_wp2
          all_goals go_region_held3 (fun W=>W.cell? ⟨w.heap.size,0,none⟩=some (.int .i64 k)∧W.cell? ⟨w.heap.size,1,none⟩=some (.int .i64 p)∧W.cell? ⟨g,j * 2,none⟩=some (.int .i64 x)∧W.cell? ⟨g,j * 2+1,none⟩=some (.int .i64 zy)∧W.cell? ⟨w.heap.size+1+1,0,none⟩=some (.int .i64 x)∧W.cell? ⟨w.heap.size+1+1,1,none⟩=some (.int .i64 y))
           (exact ⟨b0.cell 0,b0.cell 1,x0,x1,b2.cell 0,b2.cell 1⟩) (fail)
          all_goals go_wp2
          all_goals go_roundw
          case rel=>exact ⟨j+1,by omega,by go_num,by rw [HNX.out];cases acc <;> simp_all,hBr.drew⟩
          case measure=>simp [intOf];omega
      · have e3:¬ zx=x:=fun e=>e1 e.symm
        go_wp2
        go_region_held3 (fun W=>W.cell? ⟨w.heap.size,0,none⟩=some (.int .i64 k)∧W.cell? ⟨w.heap.size,1,none⟩=some (.int .i64 p)∧W.cell? ⟨g,j * 2,none⟩=some (.int .i64 zx)∧W.cell? ⟨g,j * 2+1,none⟩=some (.int .i64 zy)∧W.cell? ⟨w.heap.size+1+1,0,none⟩=some (.int .i64 x)∧W.cell? ⟨w.heap.size+1+1,1,none⟩=some (.int .i64 y))
         (exact ⟨b0.cell 0,b0.cell 1,x0,x1,b2.cell 0,b2.cell 1⟩) (first | (go_at_call 131;refine (HRz.out _).mono ?_;rintro e w3 ⟨rfl,hB1⟩;(first | replace b0:=b0.below hB1 b0.lt | replace b0:=b0.nextd hB1);(first | replace b2:=b2.below hB1 b2.lt | replace b2:=b2.nextd hB1);(first | replace x0:=nextc x0 hB1 | replace x0:=nextcd x0 hB1);(first | replace x1:=nextc x1 hB1 | replace x1:=nextcd x1 hB1);(first | replace hBr:=below_in hBr hB1 | replace hBr:=below_in hBr.drew hB1)))
        all_goals go_wp2
        all_goals go_region_held3 (fun W=>W.cell? ⟨w.heap.size,0,none⟩=some (.int .i64 k)∧W.cell? ⟨w.heap.size,1,none⟩=some (.int .i64 p)∧W.cell? ⟨g,j * 2,none⟩=some (.int .i64 zx)∧W.cell? ⟨g,j * 2+1,none⟩=some (.int .i64 zy)∧W.cell? ⟨w.heap.size+1+1,0,none⟩=some (.int .i64 x)∧W.cell? ⟨w.heap.size+1+1,1,none⟩=some (.int .i64 y))
         (exact ⟨b0.cell 0,b0.cell 1,x0,x1,b2.cell 0,b2.cell 1⟩) (fail)
        all_goals go_wp2
        all_goals go_roundw
        case rel=>exact ⟨j+1,by omega,by go_num,by rw [HNX.out];cases acc <;> simp_all,hBr.drew⟩
        case measure=>simp [intOf];omega
    · have er:rroleN (p - shortN k) zx=2:=by unfold rroleN;rw [if_neg (by omega)];omega
      rw [er] at HRz
      have HRz2:=HRec.out zy (by rw [←h1];exact hin)
      have hb:decide ((zx,zy)=(x,y)∨(zx,zy)=(p - shortN k,y))=decide (zy=y):=by
       have:¬ zx=x:=by omega
       rw [decide_eq_decide]
       simp [h1,this]
       omega
      have HNX2:=HNX.out
      rw [hb] at HNX2
      rw [←h1] at HRz2
      generalize decide (zy=y)=bz at *
      replace HRz2:=Lib.hid HRz2
      replace HNX2:=Lib.hid HNX2
      clear HNX h1 er hin hb hz1 hz3
      go_wp2
      go_region_held3 (fun W=>W.cell? ⟨w.heap.size,0,none⟩=some (.int .i64 k)∧W.cell? ⟨w.heap.size,1,none⟩=some (.int .i64 p)∧W.cell? ⟨g,j * 2,none⟩=some (.int .i64 zx)∧W.cell? ⟨g,j * 2+1,none⟩=some (.int .i64 zy)∧W.cell? ⟨w.heap.size+1+1,0,none⟩=some (.int .i64 x)∧W.cell? ⟨w.heap.size+1+1,1,none⟩=some (.int .i64 y))
       (exact ⟨b0.cell 0,b0.cell 1,x0,x1,b2.cell 0,b2.cell 1⟩) (first | (go_at_call 131;refine (HRz.out _).mono ?_;rintro e w3 ⟨rfl,hB1⟩;(first | replace b0:=b0.below hB1 b0.lt | replace b0:=b0.nextd hB1);(first | replace b2:=b2.below hB1 b2.lt | replace b2:=b2.nextd hB1);(first | replace x0:=nextc x0 hB1 | replace x0:=nextcd x0 hB1);(first | replace x1:=nextc x1 hB1 | replace x1:=nextcd x1 hB1);(first | replace hBr:=below_in hBr hB1 | replace hBr:=below_in hBr.drew hB1)))
      all_goals go_wp2
      all_goals go_region_held3 (fun W=>W.cell? ⟨w.heap.size,0,none⟩=some (.int .i64 k)∧W.cell? ⟨w.heap.size,1,none⟩=some (.int .i64 p)∧W.cell? ⟨g,j * 2,none⟩=some (.int .i64 zx)∧W.cell? ⟨g,j * 2+1,none⟩=some (.int .i64 zy)∧W.cell? ⟨w.heap.size+1+1,0,none⟩=some (.int .i64 x)∧W.cell? ⟨w.heap.size+1+1,1,none⟩=some (.int .i64 y))
       (exact ⟨b0.cell 0,b0.cell 1,x0,x1,b2.cell 0,b2.cell 1⟩) (first | (go_at_call 105;refine (HRz2.out _).mono ?_;rintro e w4 ⟨rfl,hB1⟩;(first | replace b0:=b0.below hB1 b0.lt | replace b0:=b0.nextd hB1);(first | replace b2:=b2.below hB1 b2.lt | replace b2:=b2.nextd hB1);(first | replace x0:=nextc x0 hB1 | replace x0:=nextcd x0 hB1);(first | replace x1:=nextc x1 hB1 | replace x1:=nextcd x1 hB1);(first | replace hBr:=below_in hBr hB1 | replace hBr:=below_in hBr.drew hB1)))
      all_goals go_wp2
      all_goals go_roundw
      case rel=>exact ⟨j+1,by omega,by go_num,by rw [HNX2.out];cases acc <;> cases bz <;> rfl,hBr⟩
      case measure=>simp [intOf];omega
  · obtain rfl:j=n:=by omega
    have hdec:decide ((j:Int)<(j:Int))=false:=by simp
    have ht:=HT.out
    rw [List.take_of_length_le (by rw [HL.out];omega)]
    rw [ht]
    go_wp2
    go_ret
    exact ⟨rfl,below_in hB hBr⟩
theorem hang_row {k p ry x y:Int} (hx:x<p - shortN k):hangB k p (p - shortN k) ry x y=decide (ry=y):=by
 unfold hangB memB wayB
 rw [show roleN (p - shortN k) (p - shortN k)=2 from if_pos rfl]
 simp only [if_true]
 unfold inRw
 rw [Bool.eq_iff_iff]
 simp [hx]
 omega
theorem refHangsRow_any (k p ry x y:Int) (hR:RightC k p) (hc:HasCell k p (p - shortN k) ry) (hx:0≤x∧x<p - shortN k) (hy:0≤y∧y<p - 1) (w:World) :
 Calls Tryz.prog 105 #[.agg #[.int .i64 k,.int .i64 p],.agg #[.int .i64 (p - shortN k),.int .i64 ry],.agg #[.int .i64 x,.int .i64 y]] w fun e w'=>e = .returned (.bool (decide (ry=y)))∧Below w.heap.size w w':=by
 have h:=hangs_walk k p (p - shortN k) ry x y hR hc (Int.le_refl _) hx hy (fun r hr=>by
  have:=(memL_elem hR (Int.le_refl _) hc hr).1.2
  simp only at this
  omega) w
 rwa [hang_row hx.2] at h
theorem refHangs_any (k p mx my x y:Int) (hR:RightC k p) (hc:HasCell k p mx my) (hm:p - shortN k≤mx) (hx:0≤x∧x<p - shortN k) (hy:0≤y∧y<p - 1) (w:World) :
 Calls Tryz.prog 105 #[.agg #[.int .i64 k,.int .i64 p],.agg #[.int .i64 mx,.int .i64 my],.agg #[.int .i64 x,.int .i64 y]] w fun e w'=>e = .returned (.bool (hangB k p mx my x y))∧Below w.heap.size w w' :=
 hangs_walk k p mx my x y hR hc hm hx hy (fun ry hr W=>refHangsRow_any k p ry x y hR (memL_elem hR hm hc hr).2.2 hx hy W) w

theorem refTouched_any (k p x y:Int) (hR:RightC k p) (hx:0≤x∧x<p - shortN k) (hy:0≤y∧y<p - 1) (w:World) :
 Calls Tryz.prog 64 #[.agg #[.int .i64 k,.int .i64 p],.agg #[.int .i64 x,.int .i64 y]] w fun e w'=>∃ v,e = .returned v∧OwnA w' w.heap.size v (touL k p x y)∧Below w.heap.size w w':=by
 obtain ⟨p1,p2,s1,s2,m1,m2⟩:=hR.und
 have HPa:=Lib.hid (fun W=>refParity_any k p hR W)
 obtain ⟨q,hq⟩:∃ q:Int×Int→Bool,q=fun m=>hangB k p m.1 m.2 x y:=⟨_,rfl⟩
 have hto:=hang_tou hR hx hy
 rw [←hq] at hto
 have HTo:=Lib.hid hto
 clear hto
 have HHa:Hid (∀ mx my,(HasCell k p mx my∧p - shortN k≤mx)→∀ W,Calls Tryz.prog 105 #[.agg #[.int .i64 k,.int .i64 p],.agg #[.int .i64 mx,.int .i64 my],.agg #[.int .i64 x,.int .i64 y]] W fun e w'=>e = .returned (.bool (q (mx,my)))∧Below W.heap.size W w'):=by
  subst hq
  exact fun mx my hm W=>refHangs_any k p mx my x y hR hm.1 hm.2 hx hy W
 clear hq
 have HEl:Hid (∀ z∈flatC p (spanL (p - shortN k) (p - shortN k+madeN k)),HasCell k p z.1 z.2∧p - shortN k≤z.1):=fun z hz=>by
  obtain ⟨h3,h4⟩:=flatC_mem' hz
  have h5:=spanL_mem h3
  exact ⟨⟨⟨by omega,h5.2⟩,h4⟩,h5.1⟩
 have HNe:0<(flatC p (spanL (p - shortN k) (p - shortN k+madeN k))).length:=List.length_pos_iff.2 fun e=>by
  have h:(p - shortN k,y)∈flatC p (spanL (p - shortN k) (p - shortN k+madeN k)):=flatC_mem (spanL_mk (Int.le_refl _) (by omega)) hy
  rw [e] at h
  cases h
 have HLn:(flatC p (spanL (p - shortN k) (p - shortN k+madeN k))).length≤1000:=by
  have h2:=flatC_len p hR.2 (spanL (p - shortN k) (p - shortN k+madeN k))
  rw [spanL_len] at h2
  omega
 generalize flatC p (spanL (p - shortN k) (p - shortN k+madeN k))=l at *
 generalize touL k p x y=want at *
 clear hR hx hy p1 p2 s1 s2 m1 m2
 obtain ⟨W0,hW0⟩:∃ W0,(w.alloc (.cells #[.int .i64 k,.int .i64 p] 24)).alloc (.cells #[.int .i64 x,.int .i64 y] 53)=W0:=⟨_,rfl⟩
 have b0:Blk W0 w.heap.size 24 #[.int .i64 k,.int .i64 p]:=by rw [←hW0];exact (Blk.new w _ _).alloc _
 have b1:Blk W0 (w.heap.size+1) 53 #[.int .i64 x,.int .i64 y]:=by rw [←hW0];exact Blk.second w _ _ _
 have hB:Below w.heap.size w W0:=by rw [←hW0];exact below_two w _ _
 have hs0:W0.heap.size=w.heap.size+2:=by rw [←hW0];simp
 have c0:=b0.cell 0;have c1:=b0.cell 1;have a0:=b1.cell 0;have a1:=b1.cell 1;simp only [gz9] at c0 c1 a0 a1
 go_enter Tryz.func64,Tryz.ntmps64
 go_wp2_with fail
 clear hW0
 refine (HPa.out _).mono ?_
 rintro e w1 ⟨v,rfl,ho,hB1⟩
 have hs1:=hB1.size
 replace b0:=b0.below hB1 b0.lt
 replace b1:=b1.below hB1 b1.lt
 replace hB:=below_in hB hB1
 have hrd:=ho.readA
 clear hB1 ho HPa c0 c1 a0 a1
 obtain ⟨pp,cap,rfl,hc⟩:=hrd
 obtain ⟨g,rfl,hgl⟩:∃ g,pp=some ⟨g,0,none⟩∧g<w1.heap.size:=by obtain ⟨g,h1,h2,_⟩:=hc 0 HNe;exact ⟨g,h1,h2⟩
 have HC:Hid (∀ (j:Nat) (hj:j<l.length),w1.cell? ⟨g,j * 2,none⟩=some (.int .i64 (l[j]).1)∧w1.cell? ⟨g,j * 2+1,none⟩=some (.int .i64 (l[j]).2)):=fun j hj=>by
  obtain ⟨g2,e,_,h1,h2⟩:=hc j hj
  injection e with e
  injection e with e _ _
  subst e
  exact ⟨h1,h2⟩
 clear hc HNe
 obtain ⟨n,hn⟩:∃ n,l.length=n:=⟨_,rfl⟩
 have HL:=Lib.hid hn
 rw [hn] at HLn ⊢
 clear hn
 go_wp2_with fail
 go_loopw [5,7] (fun v i wr=>∃ j:Nat,j≤n∧i = .int .i64 j∧OwnA wr w1.heap.size v ((l.take j).filter q)∧Below w1.heap.size w1 wr) (fun _ i _=>n - (intOf i).toNat)
 case atStart=>exact ⟨0,by omega,rfl,ownA_nil _ _,Below.refl _ _⟩
 case round =>
  obtain ⟨j,hj,rfl,ho,hBr⟩:=hrel
  replace b0:=b0.below hBr b0.lt
  replace b1:=b1.below hBr b1.lt
  have c0:=b0.cell 0;have c1:=b0.cell 1;have a0:=b1.cell 0;have a1:=b1.cell 1;simp only [gz9] at c0 c1 a0 a1
  by_cases hlt:j<n
  · have hdec:decide ((j:Int)<(n:Int))=true:=by simp;omega
    have hjs:j<l.length:=by rw [HL.out];exact hlt
    obtain ⟨x0,x1⟩:=HC.out j hjs
    replace x0:=nextc x0 hBr
    replace x1:=nextc x1 hBr
    have i1:(0:Int)≤(j:Int):=by omega
    have i2:(j:Int)<(n:Int):=by omega
    have hfl:((l.take j).filter q).length≤1000:=Nat.le_trans (List.length_filter_le _ _) (by rw [List.length_take];omega)
    have hnx:(l.take (j+1)).filter q=(l.take j).filter q ++ [l[j]].filter q:=by rw [List.take_succ_eq_append_getElem hjs,List.filter_append]
    have hel:=HEl.out _ (List.getElem_mem hjs)
    generalize l[j]=z at *
    obtain ⟨zx,zy⟩:=z
    have HHz:=Lib.hid (HHa.out zx zy hel)
    generalize (l.take j).filter q=acc at *
    cases hqz:q (zx,zy) with
    | false =>
      rw [hqz] at HHz
      have HN:Hid ((l.take (j+1)).filter q=acc):=by rw [hnx];simp [hqz,Hid]
      clear hnx hel
      go_wp2
      go_region_held3 (fun W=>W.cell? ⟨w.heap.size,0,none⟩=some (.int .i64 k)∧W.cell? ⟨w.heap.size,1,none⟩=some (.int .i64 p)∧W.cell? ⟨g,j * 2,none⟩=some (.int .i64 zx)∧W.cell? ⟨g,j * 2+1,none⟩=some (.int .i64 zy)∧W.cell? ⟨w.heap.size+1,0,none⟩=some (.int .i64 x)∧W.cell? ⟨w.heap.size+1,1,none⟩=some (.int .i64 y))
       (exact ⟨b0.cell 0,b0.cell 1,x0,x1,b1.cell 0,b1.cell 1⟩) (first | (go_at_call 105;refine (HHz.out _).mono ?_;rintro e w4 ⟨rfl,hB1⟩;(first | replace b0:=b0.below hB1 b0.lt | replace b0:=b0.nextd hB1);(first | replace b1:=b1.below hB1 b1.lt | replace b1:=b1.nextd hB1);(first | replace x0:=nextc x0 hB1 | replace x0:=nextcd x0 hB1);(first | replace x1:=nextc x1 hB1 | replace x1:=nextcd x1 hB1);(first | replace hBr:=below_in hBr hB1 | replace hBr:=below_in hBr.drew hB1);(first | replace ho:=ho.below hB1 | replace ho:=ho.below (below_undrew hB1))))
      all_goals go_wp2
      all_goals go_roundw
      case rel=>exact ⟨j+1,by omega,by go_num,by rw [HN.out];exact ho,hBr⟩
      case measure=>simp [intOf];omega
    | true =>
      rw [hqz] at HHz
      have HN:Hid ((l.take (j+1)).filter q=acc ++ [(zx,zy)]):=by rw [hnx];simp [hqz,Hid]
      clear hnx hel
      go_wp2
      go_region_held3 (fun W=>W.cell? ⟨w.heap.size,0,none⟩=some (.int .i64 k)∧W.cell? ⟨w.heap.size,1,none⟩=some (.int .i64 p)∧W.cell? ⟨g,j * 2,none⟩=some (.int .i64 zx)∧W.cell? ⟨g,j * 2+1,none⟩=some (.int .i64 zy)∧W.cell? ⟨w.heap.size+1,0,none⟩=some (.int .i64 x)∧W.cell? ⟨w.heap.size+1,1,none⟩=some (.int .i64 y))
       (exact ⟨b0.cell 0,b0.cell 1,x0,x1,b1.cell 0,b1.cell 1⟩) (first | (go_at_call 105;refine (HHz.out _).mono ?_;rintro e w4 ⟨rfl,hB1⟩;(first | replace b0:=b0.below hB1 b0.lt | replace b0:=b0.nextd hB1);(first | replace b1:=b1.below hB1 b1.lt | replace b1:=b1.nextd hB1);(first | replace x0:=nextc x0 hB1 | replace x0:=nextcd x0 hB1);(first | replace x1:=nextc x1 hB1 | replace x1:=nextcd x1 hB1);(first | replace hBr:=below_in hBr hB1 | replace hBr:=below_in hBr.drew hB1);(first | replace ho:=ho.below hB1 | replace ho:=ho.below (below_undrew hB1))))
      clear c0 c1 a0 a1
      rename_i w4 _
      have hBy:=below_one w4 (.cells #[.int .i64 zx,.int .i64 zy] 53)
      have HO:=Lib.hid (ho.below hBy)
      have HU:=Lib.hid (Blk.new w4 53 #[.int .i64 zx,.int .i64 zy])
      have hBr2:=below_in hBr hBy
      have hs3:=hBr2.size
      have ho4:=ho.own_le
      go_wp2_with (at_builtin;refine wpList_code _ rfl _ _ 47 53 (.agg #[.int .i64 0,.int .i64 0]) 16 rfl Tryz.underlying47 Tryz.infoAt rfl w1.heap.size _ _ rfl _ HO.out _ 1 _ _ rfl HU.out (by omega) (by omega) (by omega) ?_;intro v2 w2 hown2 hgrow2)
      go_roundw
      case rel=>exact ⟨j+1,by omega,by go_num,by rw [HN.out];exact OwnA.push hown2,hBr2.grown hgrow2 hBr2.size (fun r e=>by have:=ho4 r e;omega)⟩
      case measure=>simp [intOf];omega
  · obtain rfl:j=n:=by omega
    have hdec:decide ((j:Int)<(j:Int))=false:=by simp
    rw [List.take_of_length_le (by rw [HL.out];omega),HTo.out] at ho
    go_wp2
    go_ret
    exact ⟨_,rfl,ho.less (by omega),below_in hB hBr⟩
end Go.Proofs.YtknkdbincaonbaaGreatDoor
