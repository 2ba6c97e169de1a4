/- -/
import Derived.Test.YtcchjofjpflbhaaGreatDoorPAG7
set_option linter.unusedVariables false
set_option linter.unusedSimpArgs false
set_option maxRecDepth 100000
set_option maxHeartbeats 4000000
namespace Go.Proofs.YtcchjofjpflbhaaGreatDoor.Pr
open Go.RowKit Go.Shelf Go.Proofs.YtcchjofjpflbhaaGreatDoor.C Go.Proofs.YtcchjofjpflbhaaGreatDoor.E
attribute [local go_sem] Oper.semAt_some

theorem rightC2 {p:Int} (hp:p∈prm):RightC 2 p:=⟨by omega,hp⟩
theorem codeOf_any (p:Int) (w:World):Calls Tryz.prog 97 #[.int .i64 p] w fun e w'=>e = .returned (.agg #[.int .i64 2,.int .i64 p])∧Below w.heap.size w w':=by
 go_enter Tryz.func97,Tryz.ntmps97
 go_wp2
 have b:=Blk.new w 61 #[.int .i64 2,.int .i64 p]
 have c0:=b.cell 0
 have c1:=b.cell 1
 simp only [gz9] at c0 c1
 exact bodyPost_ret (v:=.agg #[.int .i64 2,.int .i64 p]) (by simp [results,Tryz.results97,go_sem,c0,c1]) rfl ⟨rfl,below_one w _⟩
theorem last_any (P Q:Nat) (hQ:P=Q+1) (hP:P≤100) (A:Option Addr) (n c:Nat) (w:World):Calls Tryz.prog 103 #[.agg #[.int .i64 2,.int .i64 (P:Int),.slice A n c]] w fun e w'=>e = .returned (.int .i64 (Q:Int))∧Below w.heap.size w w':=by
 have hB:=below_one w (.cells #[.int .i64 2,.int .i64 (P:Int),.slice A n c] 90)
 have b:=Blk.new w 90 #[.int .i64 2,.int .i64 (P:Int),.slice A n c]
 have c1:=b.cell 1
 simp only [gz9] at c1
 have hw:IntKind.i64.wrap ((P:Int) - 1)=(Q:Int):=by rw [IntWalk.i64_in _ (by omega)];omega
 clear hQ hP
 go_enter Tryz.func103,Tryz.ntmps103
 go_wp2
 go_ret
 exact ⟨rfl,hB⟩
theorem diagonalsAt_any (p:Int) (A:Option Addr) (n c:Nat) (w:World):Calls Tryz.prog 72 #[.agg #[.int .i64 2,.int .i64 p,.slice A n c]] w fun e w'=>e = .returned (.int .i64 p)∧Below w.heap.size w w':=by
 have hB:=below_one w (.cells #[.int .i64 2,.int .i64 p,.slice A n c] 90)
 have b:=Blk.new w 90 #[.int .i64 2,.int .i64 p,.slice A n c]
 have c1:=b.cell 1
 simp only [gz9] at c1
 go_enter Tryz.func72,Tryz.ntmps72
 go_wp2
 go_ret
 exact ⟨rfl,hB⟩
theorem diagonal_any (p x y:Int) (hp:p∈prm) (hx:-1000≤x+y∧x+y≤1000) (A:Option Addr) (n c:Nat) (w:World) (hL:Laid w):Calls Tryz.prog 104 #[.agg #[.int .i64 2,.int .i64 p,.slice A n c],.agg #[.int .i64 x,.int .i64 y]] w fun e w'=>e = .returned (.int .i64 ((x+y) % p))∧Below w.heap.size w w':=by
 have HOF:=Lib.hid (fun W (h:Laid W)=>(modOf_any p (x+y) W h (by omega) (by omega)).mono fun _ _ h=>tells_yes hp h)
 obtain ⟨w0,hw0⟩:∃ z,w.alloc (.cells #[.int .i64 2,.int .i64 p,.slice A n c] 90)=z:=⟨_,rfl⟩
 obtain ⟨g0,hg0⟩:∃ z,w.heap.size=z:=⟨_,rfl⟩
 have b0:Blk w0 g0 90 #[.int .i64 2,.int .i64 p,.slice A n c]:=by rw [←hw0,←hg0];exact Blk.new w _ _
 have hB0:Below w.heap.size w w0:=by rw [←hw0];exact below_one w _
 obtain ⟨w1,hw1⟩:∃ z,w0.alloc (.cells #[.int .i64 x,.int .i64 y] 31)=z:=⟨_,rfl⟩
 obtain ⟨g1,hg1⟩:∃ z,w0.heap.size=z:=⟨_,rfl⟩
 have b1:Blk w1 g1 31 #[.int .i64 x,.int .i64 y]:=by rw [←hw1,←hg1];exact Blk.new w0 _ _
 have hB1:Below w0.heap.size w0 w1:=by rw [←hw1];exact below_one w0 _
 have hBw:=below_in hB0 hB1
 have hL1:=hL.next hBw
 have k0:=(b0.below hB1 b0.lt).cell 1
 have k1:=b1.cell 0
 have k2:=b1.cell 1
 simp only [gz9] at k0 k1 k2
 have hwx:IntKind.i64.wrap (x+y)=x+y:=IntWalk.i64_in _ (by omega)
 have HW:=Lib.hid (And.intro (And.intro hw0 hg0) (And.intro hw1 hg1))
 generalize (x+y) % p=z at *
 clear hw0 hg0 hw1 hg1 b0 b1 hL hB0 hB1 hp hx
 go_enter Tryz.func104,Tryz.ntmps104
 go_wp2_with fail
 (try rw [HW.out.1.1]);(try rw [HW.out.1.2]);(try rw [HW.out.2.1]);(try rw [HW.out.2.2])
 refine (HOF.out _ hL1).mono ?_
 rintro e w2 ⟨rfl,hB2⟩
 go_wp2_with fail
 refine (sureI _ _).mono ?_
 rintro e w3 ⟨rfl,rfl⟩
 go_wp2
 go_ret
 exact ⟨rfl,below_in hBw hB2⟩
theorem has_data (p x:Int) (hp:p∈prm) (hx:0≤x∧x<p - 1) (A:Option Addr) (n c:Nat) (w:World) (hL:Laid w):Calls Tryz.prog 100 #[.agg #[.int .i64 2,.int .i64 p,.slice A n c],.int .i64 x] w fun e w'=>e = .returned (.bool true)∧Below w.heap.size w w':=by
 have hb:=prm_bounds hp
 have HC:Hid (∀ W,Laid W→Calls Tryz.prog 148 #[.agg #[.int .i64 2,.int .i64 p],(.int .i64 x)] W fun e w'=>e = .returned (.tuple #[.int .i64 1,.int .i64 0])∧Below W.heap.size W w'):=fun W hW=>by
  refine (shapeRole_any 2 p x W hW).mono ?_
  rintro e w' ⟨_,h2,h3,hB⟩
  have hc:HasCol 2 p x:=by unfold HasCol;rw [show shortN 2=1 from rfl,show madeN 2=2 from rfl];omega
  have h4:=h3 (rightC2 hp) hc
  unfold roleN at h4
  rw [show shortN 2=1 from rfl] at h4
  rw [if_neg (by omega),if_neg (by omega),if_neg (by omega)] at h4
  exact ⟨h4,hB⟩
 have bz:=Blk.new w 90 #[.int .i64 2,.int .i64 p,.slice A n c]
 have hBz:=below_one w (.cells #[.int .i64 2,.int .i64 p,.slice A n c] 90)
 have k0:=bz.cell 0
 have k1:=bz.cell 1
 simp only [gz9] at k0 k1
 have hLz:=hL.next hBz
 clear bz hp hx
 go_enter Tryz.func100,Tryz.ntmps100
 go_wp2_with fail
 refine (HC.out _ hLz).mono ?_
 rintro e w1 ⟨rfl,hB1⟩
 go_wp2
 go_ret
 exact ⟨rfl,below_in hBz hB1⟩
theorem has_row (p x:Int) (hp:p∈prm) (hx:x=p - 1) (A:Option Addr) (n c:Nat) (w:World) (hL:Laid w):Calls Tryz.prog 100 #[.agg #[.int .i64 2,.int .i64 p,.slice A n c],.int .i64 x] w fun e w'=>e = .returned (.bool true)∧Below w.heap.size w w':=by
 have hb:=prm_bounds hp
 have HC:Hid (∀ W,Laid W→Calls Tryz.prog 148 #[.agg #[.int .i64 2,.int .i64 p],(.int .i64 x)] W fun e w'=>e = .returned (.tuple #[.int .i64 2,.int .i64 0])∧Below W.heap.size W w'):=fun W hW=>by
  refine (shapeRole_any 2 p x W hW).mono ?_
  rintro e w' ⟨_,h2,h3,hB⟩
  have hc:HasCol 2 p x:=by unfold HasCol;rw [show shortN 2=1 from rfl,show madeN 2=2 from rfl];omega
  have h4:=h3 (rightC2 hp) hc
  unfold roleN at h4
  rw [show shortN 2=1 from rfl] at h4
  rw [if_pos (by omega)] at h4
  exact ⟨h4,hB⟩
 have bz:=Blk.new w 90 #[.int .i64 2,.int .i64 p,.slice A n c]
 have hBz:=below_one w (.cells #[.int .i64 2,.int .i64 p,.slice A n c] 90)
 have k0:=bz.cell 0
 have k1:=bz.cell 1
 simp only [gz9] at k0 k1
 have hLz:=hL.next hBz
 clear bz hp hx
 go_enter Tryz.func100,Tryz.ntmps100
 go_wp2_with fail
 refine (HC.out _ hLz).mono ?_
 rintro e w1 ⟨rfl,hB1⟩
 go_wp2
 go_ret
 exact ⟨rfl,below_in hBz hB1⟩
theorem has_diag (p x:Int) (hp:p∈prm) (hx:x=p) (A:Option Addr) (n c:Nat) (w:World) (hL:Laid w):Calls Tryz.prog 100 #[.agg #[.int .i64 2,.int .i64 p,.slice A n c],.int .i64 x] w fun e w'=>e = .returned (.bool false)∧Below w.heap.size w w':=by
 have hb:=prm_bounds hp
 have HC:Hid (∀ W,Laid W→Calls Tryz.prog 148 #[.agg #[.int .i64 2,.int .i64 p],(.int .i64 x)] W fun e w'=>e = .returned (.tuple #[.int .i64 3,.int .i64 0])∧Below W.heap.size W w'):=fun W hW=>by
  refine (shapeRole_any 2 p x W hW).mono ?_
  rintro e w' ⟨_,h2,h3,hB⟩
  have hc:HasCol 2 p x:=by unfold HasCol;rw [show shortN 2=1 from rfl,show madeN 2=2 from rfl];omega
  have h4:=h3 (rightC2 hp) hc
  unfold roleN at h4
  rw [show shortN 2=1 from rfl] at h4
  rw [if_neg (by omega),if_pos (by omega)] at h4
  exact ⟨h4,hB⟩
 have bz:=Blk.new w 90 #[.int .i64 2,.int .i64 p,.slice A n c]
 have hBz:=below_one w (.cells #[.int .i64 2,.int .i64 p,.slice A n c] 90)
 have k0:=bz.cell 0
 have k1:=bz.cell 1
 simp only [gz9] at k0 k1
 have hLz:=hL.next hBz
 clear bz hp hx
 go_enter Tryz.func100,Tryz.ntmps100
 go_wp2_with fail
 refine (HC.out _ hLz).mono ?_
 rintro e w1 ⟨rfl,hB1⟩
 go_wp2
 go_ret
 exact ⟨rfl,below_in hBz hB1⟩
theorem has_none (p x:Int) (hp:p∈prm) (hx:¬ (0≤x∧x<p+1)) (A:Option Addr) (n c:Nat) (w:World) (hL:Laid w):Calls Tryz.prog 100 #[.agg #[.int .i64 2,.int .i64 p,.slice A n c],.int .i64 x] w fun e w'=>e = .returned (.bool false)∧Below w.heap.size w w':=by
 have hb:=prm_bounds hp
 have HC:Hid (∀ W,Laid W→Calls Tryz.prog 148 #[.agg #[.int .i64 2,.int .i64 p],(.int .i64 x)] W fun e w'=>e = .returned (.tuple #[.int .i64 0,.int .i64 4])∧Below W.heap.size W w'):=fun W hW=>by
  refine (shapeRole_any 2 p x W hW).mono ?_
  rintro e w' ⟨_,h2,h3,hB⟩
  have hc:¬ HasCol 2 p x:=by unfold HasCol;rw [show shortN 2=1 from rfl,show madeN 2=2 from rfl];omega
  exact ⟨h2 (rightC2 hp) hc,hB⟩
 have bz:=Blk.new w 90 #[.int .i64 2,.int .i64 p,.slice A n c]
 have hBz:=below_one w (.cells #[.int .i64 2,.int .i64 p,.slice A n c] 90)
 have k0:=bz.cell 0
 have k1:=bz.cell 1
 simp only [gz9] at k0 k1
 have hLz:=hL.next hBz
 clear bz hp hx
 go_enter Tryz.func100,Tryz.ntmps100
 go_wp2_with fail
 refine (HC.out _ hLz).mono ?_
 rintro e w1 ⟨rfl,hB1⟩
 go_wp2
 go_ret
 exact ⟨rfl,below_in hBz hB1⟩
theorem hasCells_any (p x:Int) (hp:p∈prm) (A:Option Addr) (n c:Nat) (w:World) (hL:Laid w):Calls Tryz.prog 100 #[.agg #[.int .i64 2,.int .i64 p,.slice A n c],.int .i64 x] w fun e w'=>e = .returned (.bool (decide (0≤x∧x<p)))∧Below w.heap.size w w':=by
 by_cases h1:0≤x∧x<p
 · rw [decide_eq_true h1]
   by_cases h2:x=p - 1
   · exact has_row p x hp h2 A n c w hL
   · exact has_data p x hp (by omega) A n c w hL
 · rw [decide_eq_false h1]
   by_cases h2:x=p
   · exact has_diag p x hp h2 A n c w hL
   · exact has_none p x hp (by omega) A n c w hL
def GoodL (p:Int) (ls:List Int) (i:Nat):Prop:=(0≤ls[i]?.getD 0∧ls[i]?.getD 0<p)∧(i=0∨ls[i - 1]?.getD 0<ls[i]?.getD 0)
end Go.Proofs.YtcchjofjpflbhaaGreatDoor.Pr

namespace Go.Proofs.YtcchjofjpflbhaaGreatDoor.Pr
open Go.RowKit Go.Shelf Go.Proofs.YtcchjofjpflbhaaGreatDoor.C Go.Proofs.YtcchjofjpflbhaaGreatDoor.E
attribute [local go_sem] Oper.semAt_some

theorem losing_yes (p:Int) (hp:p∈prm) (g:Nat) (ls:List Int) (hls:ls.length≤1000) (hgood:∀ i,i<ls.length→GoodL p ls i) (w:World) (hL:Laid w) (hg:g<w.heap.size) (hcell:∀ j,j<ls.length→w.cell? ⟨g,j,none⟩=some (.int .i64 (ls[j]?.getD 0))) :
 Calls Tryz.prog 53 #[.int .i64 p,.slice (some ⟨g,0,none⟩) ls.length ls.length] w fun e w'=>e = .returned (.agg #[.int .i64 2,.int .i64 p,.slice (some ⟨g,0,none⟩) ls.length ls.length])∧Below w.heap.size w w':=by
 have HCE:=Lib.hid hcell
 have HG:=Lib.hid hgood
 have HI:=Lib.hid (fun (x:Int) (A:Option Addr) (n c:Nat) (W:World) (hL:Laid W)=>hasCells_any p x hp A n c W hL)
 have HCK:=Lib.hid (fun W (hW:Laid W)=>(shapeCheck_any 2 p W hW).mono fun e w' h=>And.intro (h.1 (rightC2 hp)) h.2.2)
 obtain ⟨w0,hw0⟩:∃ z,w.alloc (.cells #[.int .i64 0,.int .i64 0,.slice none 0 0] 90)=z:=⟨_,rfl⟩
 have bz:Blk w0 w.heap.size 90 #[.int .i64 0,.int .i64 0,.slice none 0 0]:=by rw [←hw0];exact Blk.new w _ _
 have hB0:Below w.heap.size w w0:=by rw [←hw0];exact below_one w _
 have HW:=Lib.hid hw0
 have HLW:=Lib.hid (fun (U:World) (hU:Below w.heap.size w U)=>hL.next hU)
 have HGZ:Hid (w.heap.size≤w.heap.size):=by exact Nat.le_refl _
 clear hcell hgood hp hL hw0
 go_enter Tryz.func53,Tryz.ntmps53
 go_wp2_with fail
 (try rw [HW.out])
 refine (codeOf_any p _).mono ?_
 rintro e w1 ⟨rfl,hB1⟩
 have hBw1:=below_in hB0 hB1
 replace bz:=bz.below hB1 bz.lt
 have hA2:=below_one w1 (.cells #[.int .i64 2,.int .i64 p,.slice (some ⟨g,0,none⟩) ls.length ls.length] 90)
 obtain ⟨w2,hw2⟩:∃ z,w1.alloc (.cells #[.int .i64 2,.int .i64 p,.slice (some ⟨g,0,none⟩) ls.length ls.length] 90)=z:=⟨_,rfl⟩
 obtain ⟨gl,hgl⟩:∃ z,w1.heap.size=z:=⟨_,rfl⟩
 have bl:Blk w2 gl 90 #[.int .i64 2,.int .i64 p,.slice (some ⟨g,0,none⟩) ls.length ls.length]:=by rw [←hw2,←hgl];exact Blk.new w1 _ _
 rw [hw2] at hA2
 have hlz:w.heap.size<gl:=by rw [←hgl];exact bz.lt
 have hBw2:=below_in hBw1 hA2
 replace bz:=bz.below hA2 bz.lt
 have k0:=bl.cell 0
 have k1:=bl.cell 1
 simp only [gz9] at k0 k1
 have HW2:=Lib.hid (And.intro hw2 hgl)
 clear hB1 hBw1 hB0 hA2 hw2 hgl
 go_wp2_with fail
 (try rw [HW2.out.1]);(try rw [HW2.out.2])
 refine (HCK.out _ (HLW.out _ hBw2)).mono ?_
 rintro e w3 ⟨rfl,hB3⟩
 replace bz:=bz.below hB3 bz.lt
 replace bl:=bl.below hB3 bl.lt
 replace hBw2:=below_in hBw2 hB3
 clear hB3 k0 k1
 go_wp2_with fail
 refine (need_yes _ _).mono ?_
 rintro e w4 ⟨rfl,rfl⟩
 go_wp2_with fail
 go_loopw [19] (fun v wr=>∃ k:Nat,k≤ls.length∧v = .int .i64 k∧Blk wr w.heap.size 90 #[.int .i64 0,.int .i64 0,.slice none 0 0]∧Blk wr gl 90 #[.int .i64 2,.int .i64 p,.slice (some ⟨g,0,none⟩) ls.length ls.length]∧Below w.heap.size w wr) (fun v _=>ls.length - (intOf v).toNat)
 case atStart=>exact ⟨0,Nat.zero_le _,rfl,bz,bl,hBw2⟩
 case round =>
  clear bz bl hBw2
  obtain ⟨k,hk,rfl,bz,bl,hBr⟩:=hrel
  have l0:=bl.cell 0
  have l1:=bl.cell 1
  have l2:=bl.cell 2
  simp only [gz9] at l0 l1 l2
  by_cases hlt:k<ls.length
  · have hdec:decide ((k:Int)<(ls.length:Int))=true:=by simp;omega
    have i1:(0:Int)≤(k:Int):=by omega
    have i2:(k:Int)<(ls.length:Int):=by omega
    have hc:=(hBr.cell (p:=⟨g,k,none⟩) hg).trans (HCE.out k hlt)
    obtain ⟨h1,h2⟩:=HG.out k hlt
    rcases Nat.eq_zero_or_pos k with rfl | hpos
    · generalize ls[0]?.getD 0=x at *
      have hd:decide (0≤x∧x<p)=true:=decide_eq_true h1
      have e0:(((0:Nat):Int) == 0)=true:=rfl
      clear h1 h2
      go_wp2_with (first
       | (go_at_call 100;refine (HI.out _ _ _ _ _ (HLW.out _ hBr)).mono ?_;rintro e w1 ⟨rfl,hB1⟩)
       | (go_at_call 98;refine (need_yes _ _).mono ?_;rintro e w2 ⟨rfl,rfl⟩))
      go_roundw
      case rel=>exact ⟨1,by omega,rfl,bz.below hB1 bz.lt,bl.below hB1 bl.lt,below_in hBr hB1⟩
      case measure=>simp [intOf];omega
    · obtain ⟨m,hm⟩:∃ m,k - 1=m:=⟨_,rfl⟩
      have hc2:=(hBr.cell (p:=⟨g,m,none⟩) hg).trans (HCE.out m (by omega))
      have h3:ls[m]?.getD 0<ls[k]?.getD 0:=by
       rcases h2 with h2 | h2
       · exact absurd h2 (by omega)
       · rwa [hm] at h2
      have hw:IntKind.i64.wrap ((k:Int) - 1)=(m:Int):=by rw [show (k:Int) - 1=(m:Int) by omega];exact IntWalk.i64_in _ (by omega)
      have e0:((k:Int) == 0)=false:=by simp;omega
      have i3:(0:Int)≤(m:Int):=by omega
      have i4:(m:Int)<(ls.length:Int):=by omega
      clear hm h2
      generalize ls[k]?.getD 0=x at *
      generalize ls[m]?.getD 0=y at *
      have hd:decide (0≤x∧x<p)=true:=decide_eq_true h1
      have hd2:decide (y<x)=true:=decide_eq_true h3
      clear h1 h3
      go_wp2_with (first
       | (go_at_call 100;refine (HI.out _ _ _ _ _ (HLW.out _ hBr)).mono ?_;rintro e w1 ⟨rfl,hB1⟩;replace hc2:=(hB1.cell (p:=⟨g,m,none⟩) (Nat.lt_of_lt_of_le hg hBr.size)).trans hc2)
       | (go_at_call 98;refine (need_yes _ _).mono ?_;rintro e w2 ⟨rfl,rfl⟩))
      go_roundw
      case rel=>exact ⟨k+1,by omega,by go_num,bz.below hB1 bz.lt,bl.below hB1 bl.lt,below_in hBr hB1⟩
      case measure=>simp [intOf];omega
  · obtain rfl:k=ls.length:=by omega
    have e1:decide ((ls.length:Int)<(ls.length:Int))=false:=by simp
    have f0:=bz.frozen 0
    have f1:=bz.frozen 1
    have f2:=bz.frozen 2
    have c0:=bz.cell 0
    have c1:=bz.cell 1
    have c2:=bz.cell 2
    simp only [gz9] at c0 c1 c2
    have b2:=((bz.set_ 0 (.int .i64 2)).set_ 1 (.int .i64 p)).set_ 2 (.slice (some ⟨g,0,none⟩) ls.length ls.length)
    have hB2:=((hBr.setCell (p:=⟨w.heap.size,0,none⟩) HGZ.out (.int .i64 2)).setCell (p:=⟨w.heap.size,1,none⟩) HGZ.out (.int .i64 p)).setCell (p:=⟨w.heap.size,2,none⟩) HGZ.out (.slice (some ⟨g,0,none⟩) ls.length ls.length)
    have r0:=b2.cell 0
    have r1:=b2.cell 1
    have r2:=b2.cell 2
    simp only [List.setIfInBounds_toArray,List.set_cons_zero,List.set_cons_succ,List.getElem?_toArray,List.getElem?_cons_zero,List.getElem?_cons_succ] at r0 r1 r2
    go_wp2_with fail
    exact bodyPost_ret (v:=.agg #[.int .i64 2,.int .i64 p,.slice (some ⟨g,0,none⟩) ls.length ls.length]) (by simp [results,Tryz.results53,go_sem,r0,r1,r2]) rfl ⟨rfl,hB2⟩
end Go.Proofs.YtcchjofjpflbhaaGreatDoor.Pr

namespace Go.Proofs.YtcchjofjpflbhaaGreatDoor.Pr
open Go.RowKit Go.Shelf Go.Proofs.YtcchjofjpflbhaaGreatDoor.C Go.Proofs.YtcchjofjpflbhaaGreatDoor.E
attribute [local go_sem] Oper.semAt_some

theorem asked_yes (p:Int) (hp:p∈prm) (A:Option Addr) (N cap:Nat) (hN:(N:Int)=p+1) (g:Nat) (ls:List Int) (hls:ls.length≤1000) (hgood:∀ i,i<ls.length→GoodL p ls i) (w:World) (hL:Laid w) (hg:g<w.heap.size) (hcell:∀ j,j<ls.length→w.cell? ⟨g,j,none⟩=some (.int .i64 (ls[j]?.getD 0))) :
 Calls Tryz.prog 61 #[.int .i64 p,.slice A N cap,.slice (some ⟨g,0,none⟩) ls.length ls.length] w fun e w'=>e = .returned (.agg #[.int .i64 2,.int .i64 p,.slice (some ⟨g,0,none⟩) ls.length ls.length])∧Below w.heap.size w w':=by
 have HCO:=Lib.hid (fun W (hW:Laid W)=>(shapeCols_any 2 p W hW).mono fun _ _ h=>(⟨h.1 (rightC2 hp),h.2.2⟩:_∧_))
 rw [show shortN 2=1 from rfl,show madeN 2=2 from rfl,show p - 1+2=p+1 by omega] at HCO
 have HLO:=Lib.hid (fun (W:World) (hB:Below w.heap.size w W)=>losing_yes p hp g ls hls hgood W (hL.next hB) (Nat.lt_of_lt_of_le hg hB.size) (fun j hj=>(hB.cell (p:=⟨g,j,none⟩) hg).trans (hcell j hj)))
 have he:((N:Int) == p+1)=true:=by simp;omega
 obtain ⟨w0,hw0⟩:∃ z,w.alloc (.cells #[.int .i64 0,.int .i64 0,.slice none 0 0] 90)=z:=⟨_,rfl⟩
 have bz:Blk w0 w.heap.size 90 #[.int .i64 0,.int .i64 0,.slice none 0 0]:=by rw [←hw0];exact Blk.new w _ _
 have hB0:Below w.heap.size w w0:=by rw [←hw0];exact below_one w _
 have HW:=Lib.hid hw0
 have HLW:=Lib.hid (fun (U:World) (hU:Below w.heap.size w U)=>hL.next hU)
 clear hcell hgood hp hN hL hw0
 generalize p+1=q at *
 generalize ls.length=n at *
 go_enter Tryz.func61,Tryz.ntmps61
 go_wp2_with fail
 (try rw [HW.out])
 refine (codeOf_any p _).mono ?_
 rintro e w1 ⟨rfl,hB1⟩
 replace bz:=bz.below hB1 bz.lt
 have hBw1:=below_in hB0 hB1
 go_wp2_with fail
 refine (HCO.out _ (HLW.out _ hBw1)).mono ?_
 rintro e w2 ⟨rfl,hB2⟩
 replace bz:=bz.below hB2 bz.lt
 replace hBw1:=below_in hBw1 hB2
 go_wp2_with fail
 refine (sureI _ _).mono ?_
 rintro e w3 ⟨rfl,rfl⟩
 go_wp2_with fail
 refine (need_yes _ _).mono ?_
 rintro e w4 ⟨rfl,rfl⟩
 go_wp2_with fail
 refine (HLO.out _ hBw1).mono ?_
 rintro e w5 ⟨rfl,hB5⟩
 replace bz:=bz.below hB5 bz.lt
 replace hBw1:=below_in hBw1 hB5
 have f0:=bz.frozen 0
 have f1:=bz.frozen 1
 have f2:=bz.frozen 2
 have c0:=bz.cell 0
 have c1:=bz.cell 1
 have c2:=bz.cell 2
 simp only [gz9] at c0 c1 c2
 have b2:=((bz.set_ 0 (.int .i64 2)).set_ 1 (.int .i64 p)).set_ 2 (.slice (some ⟨g,0,none⟩) n n)
 have hB2':=((hBw1.setCell (p:=⟨w.heap.size,0,none⟩) (Nat.le_refl _) (.int .i64 2)).setCell (p:=⟨w.heap.size,1,none⟩) (Nat.le_refl _) (.int .i64 p)).setCell (p:=⟨w.heap.size,2,none⟩) (Nat.le_refl _) (.slice (some ⟨g,0,none⟩) n n)
 have r0:=b2.cell 0
 have r1:=b2.cell 1
 have r2:=b2.cell 2
 simp only [List.setIfInBounds_toArray,List.set_cons_zero,List.set_cons_succ,List.getElem?_toArray,List.getElem?_cons_zero,List.getElem?_cons_succ] at r0 r1 r2
 go_wp2_with fail
 exact bodyPost_ret (v:=.agg #[.int .i64 2,.int .i64 p,.slice (some ⟨g,0,none⟩) n n]) (by simp [results,Tryz.results61,go_sem,r0,r1,r2]) rfl ⟨rfl,hB2'⟩
end Go.Proofs.YtcchjofjpflbhaaGreatDoor.Pr

namespace Go.Proofs.YtcchjofjpflbhaaGreatDoor.Ch
open Go.RowKit Go.Shelf Go.Proofs.YtcchjofjpflbhaaGreatDoor.C Go.Proofs.YtcchjofjpflbhaaGreatDoor.E

def gave (x:Int):List PanicEntry:=[{ v:=.iface 34 (.int .i64 x),recovered:=false }]
theorem assert_errnoX (x:Int) (w:World):(Instr.typeAssert (.iface 34 (.int .i64 x)) 20 34 false).run Tryz.prog w = .ok (.int .i64 x) w:=by kernel_rfl

end Go.Proofs.YtcchjofjpflbhaaGreatDoor.Ch

namespace Go.Proofs.YtcchjofjpflbhaaGreatDoor.Ch
open Go.RowKit Go.Shelf Go.Proofs.YtcchjofjpflbhaaGreatDoor.C Go.Proofs.YtcchjofjpflbhaaGreatDoor.E
attribute [local go_sem] Oper.semAt_some

theorem rightC1 {p:Int} (hp:p∈prm):RightC 1 p:=⟨by omega,hp⟩
def GoodL (p:Int) (ls:List Int) (i:Nat):Prop:=(0≤ls[i]?.getD 0∧ls[i]?.getD 0<p)∧(i=0∨ls[i - 1]?.getD 0<ls[i]?.getD 0)
end Go.Proofs.YtcchjofjpflbhaaGreatDoor.Ch

namespace Go.Proofs.YtcchjofjpflbhaaGreatDoor.T
open Go.RowKit Go.Shelf Go.Maps Go.Proofs.YtcchjofjpflbhaaGreatDoor.C Go.Proofs.YtcchjofjpflbhaaGreatDoor.E Go.Proofs.YtcchjofjpflbhaaGreatDoor.Ch
attribute [local go_sem] Oper.semAt_some

def chn (a b:Int) (rs:List Int):List (Int×Int×Int):=(List.range (2 * rs.length)).map fun n:Nat=>((n:Int),(if n % 2=0 then b else a),rs[n / 2]?.getD 0)
def OkC (p a b:Int) (rs:List Int) (pre:List (Int×Int×Int)) (x:Int×Int×Int):Prop:=(0≤x.2.2∧x.2.2<p - 1)∧pre ++ [x] <+: chn a b rs
def encC (x:Int×Int×Int):Array Value:=#[.int .i64 x.1,.agg #[.int .i64 x.2.1,.int .i64 x.2.2]]
def ChainT (lo:Nat) (p a b:Int) (rs:List Int) (v:Value) (w:World):Prop :=
 ∃ gf lb,v = .func (.func gf) #[] lb∧(∀ args W,(callFunc gf args).run Tryz.prog W = .ok (.enter gf args) W) ∧
  ∀ n,6≤n→SeqT Fence.wide n Tryz.prog gf lb encC (fun pre x _=>OkC p a b rs pre x) (Keep lo (w.heap.size - lo)) (fun ys=>ys=chn a b rs) (fun pre=>pre <+: chn a b rs) (2 * rs.length) w
end Go.Proofs.YtcchjofjpflbhaaGreatDoor.T

namespace Go.Proofs.YtcchjofjpflbhaaGreatDoor.Ch
open Go.RowKit Go.Shelf Go.Proofs.YtcchjofjpflbhaaGreatDoor.C Go.Proofs.YtcchjofjpflbhaaGreatDoor.E
attribute [local go_sem] Oper.semAt_some

def OwnA (w:World) (base:Nat) (v:Value) (l:List (Int×Int)):Prop:=w.ownsRow base 31 2 v l.length (codeCells l)
theorem ownA_nil (w:World) (base:Nat):OwnA w base (.slice none 0 0) []:=World.ownsRow_nil w base _ 2
theorem OwnA.below {w w':World} {base:Nat} {v:Value} {l:List (Int×Int)} (h:OwnA w base v l) (hb:Below w.heap.size w w'):OwnA w' base v l:=by
 refine ⟨h.1,?_⟩
 rcases h.2 with h1 | ⟨g,cap,cur,e,h2,hg,rest⟩
 · exact .inl h1
 · exact .inr ⟨g,cap,cur,e,h2,(hb.block g (Array.getElem?_eq_some_iff.1 hg).1).trans hg,rest⟩
theorem OwnA.own_le {w:World} {base:Nat} {v:Value} {l:List (Int×Int)} (h:OwnA w base v l):∀ k,v.ownBlock=some k→base≤k:=fun k e=>(World.ownsRow.lt h k e).1
theorem OwnA.ne {w:World} {base:Nat} {v:Value} {l:List (Int×Int)} (h:OwnA w base v l) {g:Nat} (hb:g<base):some g≠v.ownBlock:=fun e=>by
 have:=h.own_le g e.symm
 omega
theorem OwnA.less {w:World} {base base':Nat} {v:Value} {l:List (Int×Int)} (h:OwnA w base v l) (hb:base'≤base):OwnA w base' v l:=⟨h.1,h.2.imp id fun ⟨g,cap,cur,h1,h2,h3⟩=>⟨g,cap,cur,h1,Nat.le_trans hb h2,h3⟩⟩
def ReadA (W:World) (v:Value) (l:List (Int×Int)):Prop :=
 ∃ (p:Option Addr) (cap:Nat),v = .slice p l.length cap∧∀ (j:Nat) (hj:j<l.length),∃ g,p=some ⟨g,0,none⟩∧g<W.heap.size∧W.cell? ⟨g,j * 2,none⟩=some (.int .i64 (l[j]).1)∧W.cell? ⟨g,j * 2+1,none⟩=some (.int .i64 (l[j]).2)
theorem ReadA.next {W W':World} {v:Value} {l:List (Int×Int)} (h:ReadA W v l) (hb:Below W.heap.size W W'):ReadA W' v l:=by
 obtain ⟨p,cap,e,hc⟩:=h
 refine ⟨p,cap,e,fun j hj=>?_⟩
 obtain ⟨g,h1,h2,h3,h4⟩:=hc j hj
 exact ⟨g,h1,Nat.lt_of_lt_of_le h2 hb.size,nextc h3 hb,nextc h4 hb⟩
theorem OwnA.readA {w:World} {base:Nat} {v:Value} {l:List (Int×Int)} (h:OwnA w base v l):ReadA w v l:=by
 by_cases hl:l = []
 · subst hl
   rcases h.2 with ⟨rfl,_⟩ | ⟨g,cap,cur,e,_⟩
   · exact ⟨none,0,rfl,fun j hj=>absurd hj (Nat.not_lt_zero _)⟩
   · exact ⟨some ⟨g,0,none⟩,cap,e,fun j hj=>absurd hj (Nat.not_lt_zero _)⟩
 · obtain ⟨g,cap,rfl,hg,hg1⟩:=World.ownsRow.form h (List.length_pos_iff.2 hl)
   refine ⟨some ⟨g,0,none⟩,cap,rfl,fun j hj=>⟨g,rfl,by omega,?_⟩⟩
   obtain ⟨k0,k1⟩:=codeCells_at l j hj
   rw [Nat.mul_comm 2 j] at k0 k1
   exact ⟨(World.ownsRow.cellAt h (j * 2) (by omega)).trans k0,(World.ownsRow.cellAt h (j * 2+1) (by omega)).trans k1⟩
theorem OwnA.push {w:World} {base:Nat} {v:Value} {l:List (Int×Int)} {x y:Int} (h:w.ownsRow base 31 2 v (l.length+1) (codeCells l ++ [.int .i64 x,.int .i64 y])):OwnA w base v (l ++ [(x,y)]):=by
 unfold OwnA
 rw [List.length_append]
 unfold codeCells at *
 rw [List.flatMap_append]
 exact h

theorem codeCells_one (l:List (Int×Int)) (x y:Int):codeCells (l ++ [(x,y)])=codeCells l ++ [.int .i64 x,.int .i64 y]:=by unfold codeCells;rw [List.flatMap_append];rfl
theorem same_yes (va vb:Value) (l:List (Int×Int)) (hl:l.length≤1000) (w:World) (h1:ReadA w va l) (h2:ReadA w vb l):Calls Tryz.prog 22 #[va,vb] w fun e w'=>e = .returned (.bool true)∧Below w.heap.size w w':=by
 obtain ⟨p1,c1,rfl,r1⟩:=h1
 obtain ⟨p2,c2,rfl,r2⟩:=h2
 have HR1:=Lib.hid r1
 have HR2:=Lib.hid r2
 clear r1 r2
 obtain ⟨n,hn⟩:∃ n,l.length=n:=⟨_,rfl⟩
 have HN:=Lib.hid hn
 rw [hn] at hl ⊢
 clear hn
 go_enter Tryz.func22,Tryz.ntmps22
 go_wp2
 go_loopw [5] (fun i wr=>∃ j:Nat,j≤n∧i = .int .i64 j∧Below w.heap.size w wr) (fun i _=>n - (intOf i).toNat)
 case atStart=>exact ⟨0,by omega,rfl,Below.refl _ _⟩
 case round =>
  obtain ⟨j,hj,rfl,hB⟩:=hrel
  by_cases hlt:j<n
  · have hdec:decide ((j:Int)<(n:Int))=true:=by simp;omega
    have hjs:j<l.length:=by rw [HN.out];exact hlt
    obtain ⟨g1,rfl,_,x0,x1⟩:=HR1.out j hjs
    obtain ⟨g2,rfl,_,y0,y1⟩:=HR2.out j hjs
    replace x0:=nextc x0 hB
    replace x1:=nextc x1 hB
    replace y0:=nextc y0 hB
    replace y1:=nextc y1 hB
    have i1:(0:Int)≤(j:Int):=by omega
    have i2:(j:Int)<(n:Int):=by omega
    clear HR1 HR2
    generalize l[j]=z at *
    obtain ⟨zx,zy⟩:=z
    go_wp2
    go_region_held3 (fun W=>W.cell? ⟨g1,j * 2,none⟩=some (.int .i64 zx)∧W.cell? ⟨g1,j * 2+1,none⟩=some (.int .i64 zy)∧W.cell? ⟨g2,j * 2,none⟩=some (.int .i64 zx)∧W.cell? ⟨g2,j * 2+1,none⟩=some (.int .i64 zy))
     (exact ⟨x0,x1,y0,y1⟩) (fail)
    all_goals go_wp2
    all_goals go_roundw
    case rel=>exact ⟨j+1,by omega,by go_num,hB.drew⟩
    case measure=>simp [intOf];omega
  · obtain rfl:j=n:=by omega
    have hdec:decide ((j:Int)<(j:Int))=false:=by simp
    go_wp2
    go_ret
    exact ⟨rfl,hB⟩
theorem Tryz.infoAt:(Tryz.prog.info? 31).map (fun i=>(i.zero,i.size,i.bytes))=some (some (.agg #[.int .i64 0,.int .i64 0]),2,16):=by kernel_rfl
theorem OwnA.kept {w w':World} {base:Nat} {v:Value} {l:List (Int×Int)} (h:OwnA w base v l) {row:Option Nat} (hg:w.grownBy w' row) (hne:v.ownBlock=none∨v.ownBlock≠row):OwnA w' base v l:=World.ownsRow.kept h hg hne
theorem OwnA.form {w:World} {base:Nat} {v:Value} {l:List (Int×Int)} (h:OwnA w base v l):∃ A n c,v = .slice A n c:=by
 rcases h.2 with ⟨h1,_⟩ | ⟨g,cap,cur,h1,_⟩
 · exact ⟨_,_,_,h1⟩
 · exact ⟨_,_,_,h1⟩
theorem OwnA.far {w:World} {base:Nat} {v:Value} {l:List (Int×Int)} (h:OwnA w base v l) {p:Addr} (hp:some p.block≠v.ownBlock) (u:Value):OwnA (w.setCell p u) base v l:=by
 refine ⟨h.1,?_⟩
 rcases h.2 with h1 | ⟨g,cap,cur,e,h2,hg,rest⟩
 · exact .inl h1
 · exact .inr ⟨g,cap,cur,e,h2,(Below.heap_setCell w p u g (fun e2=>hp (by rw [e,←e2];rfl))).trans hg,rest⟩
theorem OwnA.rowT {w:World} {base:Nat} {v:Value} {l:List (Int×Int)} (h:OwnA w base v l):T.RowO (fun b=>v.ownBlock=some b) w:=fun b e=>by
 rcases h.2 with ⟨rfl,_⟩ | ⟨g,cap,cur,rfl,_,hg,_⟩
 · cases e
 · injection e with e
   have e':g=b:=e
   subst e'
   exact ⟨_,_,_,hg⟩
theorem opIn_pushA {F:Fence} {nF:Nat} (w:World) {o:Oper} {a:Act} {K:Act→World→Prop} {QQ:Exit→Act→World→Prop} (s x:Operand)
 (ho:o.op = .call { callee:=.builtin .append,args:=#[s,x],argTypes:=#[23,23] })
 (base:Nat) (v:Value) (l:List (Int×Int)) (hs:a.eval s=v) (hown:OwnA w base v l) (g:Nat) (p1 p2:Int) (hx:a.eval x = .slice (some ⟨g,0,none⟩) 1 1) (hu:Blk w g 31 #[.int .i64 p1,.int .i64 p2])
 (hlen:l.length≤1000000) (hbase:base≤w.heap.size)
 (hK:∀ v' w',OwnA w' base v' (l ++ [(p1,p2)])→w.grownBy w' v.ownBlock→(v'.ownBlock=v.ownBlock∨v'.ownBlock=some w.heap.size)→K (a.put o.dst v') w'):Oper.wpIn F nF Tryz.prog o a w K QQ:=by
 obtain ⟨i,hi,hz0,hz1,hz2⟩:=info_parts Tryz.infoAt
 obtain ⟨v',w',hrun,r1,r2,_,r3⟩:=run_append_own_at (P:=Tryz.prog) w base 23 o.type 31 i (.agg #[.int .i64 0,.int .i64 0]) 2 16 Tryz.underlying23 hi hz0 hz1 hz2 rfl (by omega) v l.length (codeCells l) hown ⟨g,0,none⟩ 1 1 [.int .i64 p1,.int .i64 p2] rfl
  (by intro j y hy
      rw [addr_add,Nat.zero_add,hu.cell j,List.getElem?_toArray]
      exact hy)
  (by intro y hy;simp only [List.mem_cons,List.not_mem_nil,or_false] at hy;rcases hy with rfl | rfl <;> rfl) (by unfold maxLen;omega) (by omega) hbase
 unfold Oper.wpIn
 refine ⟨by simp [Oper.about,ho,resolve,Target.leads,Sem.run_pure],?_⟩
 rw [Oper.semAt_plain F _ _ (by rw [ho];intro c hc';cases hc')]
 simp [execOp,ho,resolve,invoke,builtin,hs,hx,hrun,Result.andThen,Oper.uponIn]
 refine hK v' w' ?_ r2 r3
 unfold OwnA
 rw [codeCells_one,List.length_append]
 exact r1
end Go.Proofs.YtcchjofjpflbhaaGreatDoor.Ch

namespace Go.Proofs.YtcchjofjpflbhaaGreatDoor.T
open Go.RowKit Go.Shelf Go.Maps Go.Proofs.YtcchjofjpflbhaaGreatDoor.C Go.Proofs.YtcchjofjpflbhaaGreatDoor.E Go.Proofs.YtcchjofjpflbhaaGreatDoor.Ch
attribute [local go_sem] Oper.semAt_some

theorem two_cells {V:World} {g:Nat} {a b:Int} (h:Blk V g 3 #[.int .i64 a,.int .i64 b]):∀ j,j < [a,b].length→V.cell? ⟨g,j,none⟩=some (.int .i64 ([a,b][j]?.getD 0)):=by
 intro j hj
 have hj2:j=0∨j=1:=by simp at hj;omega
 rcases hj2 with rfl | rfl
 · exact h.cell 0
 · exact h.cell 1
theorem ChainT.less {lo lo':Nat} {p a b:Int} {rs:List Int} {v:Value} {w:World} (h:ChainT lo p a b rs v w) (hl:lo'≤lo) (hw:lo≤w.heap.size):ChainT lo' p a b rs v w:=by
 obtain ⟨gf,lb,e,eg,hg⟩:=h
 exact ⟨gf,lb,e,eg,fun n hn l J Jx W o₀ hW ho₀ hJ hJx hr1 hr2 hY h0=>hg n hn l J Jx W o₀ hW ho₀ hJ hJx hr1 hr2 (fun pre x o W1 hj hok hl' hs=>(hY pre x o W1 hj hok hl' hs).mono fun _ _ ⟨o',hf,hS,h⟩=>⟨o',hf,hS,h.imp (fun ⟨h1,h2,h3⟩=>⟨h1,h2,h3.less hl (by omega)⟩) (fun ⟨h1,h2,h3⟩=>⟨h1,h2,h3.less hl (by omega)⟩)⟩) h0⟩
end Go.Proofs.YtcchjofjpflbhaaGreatDoor.T

namespace Go.Proofs.YtcchjofjpflbhaaGreatDoor.Ch
open Go.RowKit Go.Shelf Go.Proofs.YtcchjofjpflbhaaGreatDoor.C Go.Proofs.YtcchjofjpflbhaaGreatDoor.E

theorem Tryz.infoN:(Tryz.prog.info? 3).map (fun i=>(i.zero,i.size,i.bytes))=some (some (.int .i64 0),1,8):=by kernel_rfl
def OwnN (w:World) (base:Nat) (v:Value) (us:List Value):Prop:=w.ownsRow base 3 1 v us.length us
theorem ownN_nil (w:World) (base:Nat):OwnN w base (.slice none 0 0) []:=World.ownsRow_nil w base _ 1
theorem wpList_zerosN (w:World) {ops:Array Oper} {rest:List Oper} {o:Oper} {a:Act} {Q:Exit→Act→World→Prop} (hgd:o.guard=none) (s x:Operand)
 (ho:o.op = .call { callee:=.builtin .append,args:=#[s,x],argTypes:=#[45,3] }) (n:Nat) (h0:0<n) (hn:n≤1000000)
 (hs:a.eval s = .slice none 0 0) (hx:a.eval x = .int .i64 (n:Int))
 (h:∀ c w',OwnN w' w.heap.size (.slice (some ⟨w.heap.size,0,none⟩) 0 c) []→Below w.heap.size w w'→n≤c→wpList Tryz.prog ops Q rest (a.put o.dst (.slice (some ⟨w.heap.size,0,none⟩) n c)) w'):wpList Tryz.prog ops Q (o :: rest) a w :=
 wpList_plain hgd fun K hK=>by
  obtain ⟨i0,hi,hz0,hz1,hz2⟩:=info_parts Tryz.infoN
  have hrun:=Lib.run_append_nil_zeros (P:=Tryz.prog) w 45 3 o.type 3 i0 (.int .i64 0) .i64 .i64 Tryz.underlying45 Tryz.underlying3 hi hz0 n h0 (by omega) (by omega) (by rw [hz2];omega)
  have hge:=grownCap_ge w n 0 3
  have hle:=grownCap_le_maxLen w n 0 3 (by unfold maxLen;omega)
  generalize grownCap w n 0 3=c at *
  have hsz:(Builtin.zeroCells (Value.int .i64 0).cells n ++ Builtin.zeroCells (Value.int .i64 0).cells (c - n)).size=c * 1:=by
   rw [Array.size_append,show (Value.int .i64 0).cells=#[.int .i64 0] from rfl,size_zeroCells,size_zeroCells];simp;omega
  generalize Builtin.zeroCells (Value.int .i64 0).cells n ++ Builtin.zeroCells (Value.int .i64 0).cells (c - n)=cs at *
  unfold Oper.wp execOp
  simp only [ho,resolve,invoke,builtin,Sem.run_bind,Sem.run_pure,Result.andThen_ok,List.map_toArray,List.map_cons,List.map_nil,hs,hx,hrun]
  exact hK _ _ (h c _ (World.ownsRow_made w.drew cs c (Nat.le_refl _) hle hsz) ((Below.refl w.heap.size w).drew.alloc (Nat.le_refl _) _) hge)

theorem growN_any (n:Nat) (hn:n≤1000000) (w:World) :
 Calls Tryz.prog 163 #[.slice none 0 0,.int .i64 (n:Int)] w fun e w'=>∃ v,e = .returned v∧OwnN w' w.heap.size v []∧Below w.heap.size w w':=by
 by_cases h0:n=0
 · subst h0
   go_enter Tryz.func163,Tryz.ntmps163
   go_wp2
   go_ret
   exact ⟨_,rfl,ownN_nil _ _,Below.refl _ _⟩
 · have hp:0<n:=by omega
   have d1:decide ((n:Int)<0)=false:=by simp
   have d2:decide (0<(n:Int))=true:=by simp;omega
   go_enter Tryz.func163,Tryz.ntmps163
   go_wp2_with (at_builtin;refine wpList_zerosN _ rfl _ _ rfl n hp hn rfl rfl ?_;intro c w1 hown hB1 hc)
   go_ret
   exact ⟨_,rfl,hown,hB1⟩
theorem wpList_valsN (w:World) {ops:Array Oper} {rest:List Oper} {o:Oper} {a:Act} {Q:Exit→Act→World→Prop} (hgd:o.guard=none) (s x:Operand)
 (ho:o.op = .call { callee:=.builtin .append,args:=#[s,x],argTypes:=#[45,45] })
 (base:Nat) (v:Value) (l:List Value) (hs:a.eval s=v) (hown:OwnN w base v l) (B2:Nat) (v2:Value) (us:List Value) (hx:a.eval x=v2) (hv2:Vals B2 w v2 us) (hone:∀ u∈us,u.oneCell'=true) (hlen:l.length≤100000) (hlen2:us.length≤100000) (hbase:base≤w.heap.size)
 (h:∀ v' w',OwnN w' base v' (l ++ us)→w.grownBy w' v.ownBlock→wpList Tryz.prog ops Q rest (a.put o.dst v') w'):wpList Tryz.prog ops Q (o :: rest) a w :=
 wpList_plain hgd fun K hK=>by
  obtain ⟨i,hi,hz0,hz1,hz2⟩:=info_parts Tryz.infoN
  rcases hv2 with ⟨rfl,rfl⟩ | ⟨b,off,cap,rfl,hc,hb,hcell⟩
  · rw [List.append_nil] at h
    have hrun:=run_append_owned_none (P:=Tryz.prog) (w:=w) base 45 o.type 3 i 1 Tryz.underlying45 hi v l.length l hown
    unfold Oper.wp execOp
    simp only [ho,resolve,invoke,builtin,Sem.run_bind,Sem.run_pure,Result.andThen_ok,List.map_toArray,List.map_cons,List.map_nil,hs,hx,hrun]
    exact hK _ _ (h v w hown (World.grownBy.refl _ _))
  · obtain ⟨v',w',hrun,r1,r2,_,r3⟩:=run_append_own_at (P:=Tryz.prog) w base 45 o.type 3 i (.int .i64 0) 1 8 Tryz.underlying45 hi hz0 hz1 hz2 rfl (by omega) v l.length l hown ⟨b,off,none⟩ us.length cap us (by omega)
     (by intro j u hu;rw [addr_add];exact hcell j u hu) hone (by unfold maxLen;omega) (by omega) hbase
    unfold Oper.wp execOp
    simp only [ho,resolve,invoke,builtin,Sem.run_bind,Sem.run_pure,Result.andThen_ok,List.map_toArray,List.map_cons,List.map_nil,hs,hx,hrun]
    exact hK _ _ (h v' w' (by unfold OwnN;rw [List.length_append];exact r1) r2)
theorem concatN_any (b off cap:Nat) (uss:List (List Value)) (hls:uss.length≤1000) (htot:uss.flatten.length≤100000) (hone:∀ us∈uss,∀ u∈us,u.oneCell'=true) (w:World) {B:Nat} (hB:B≤w.heap.size) (hb:b<w.heap.size)
 (hcell:∀ j,j<uss.length→∃ s,w.cell? ⟨b,off+j,none⟩=some s∧Vals B w s (uss[j]?.getD [])) :
 Calls Tryz.prog 112 #[.slice (some ⟨b,off,none⟩) uss.length cap] w fun e w'=>∃ v',e = .returned v'∧OwnN w' w.heap.size v' uss.flatten∧Below w.heap.size w w':=by
 have HCE:=Lib.hid hcell
 clear hcell
 have HON:Hid (∀ j,j<uss.length→∀ u∈uss[j]?.getD [],u.oneCell'=true):=fun j hj u hu=>hone (uss[j]?.getD []) (by rw [List.getElem?_eq_getElem hj];exact List.getElem_mem hj) u hu
 clear hone
 go_enter Tryz.func112,Tryz.ntmps112
 go_wp2_with fail
 go_loop [3,11] (fun s i=>∃ k:Nat,k≤uss.length∧i = .int .i64 k∧s = .int .i64 ((uss.take k).flatten.length:Int)) (fun _ i=>uss.length - (intOf i).toNat)
 case atStart=>exact ⟨0,Nat.zero_le _,rfl,rfl⟩
 case round =>
  obtain ⟨k,hk,rfl,rfl⟩:=hrel
  by_cases hlt:k<uss.length
  · have hdec:decide ((k:Int)<(uss.length:Int))=true:=by simp;omega
    obtain ⟨sv,hc,hv⟩:=HCE.out k hlt
    obtain ⟨A1,cp,rfl⟩:=hv.len
    have HF:Hid ((uss.take (k+1)).flatten.length=(uss.take k).flatten.length+(uss[k]?.getD []).length):=by
     unfold Hid;rw [flat_nextV uss k hlt,List.length_append]
    have hle:=flat_leV uss (k+1)
    rw [HF.out] at hle
    clear hv
    generalize (uss[k]?.getD []).length=m at hc HF hle
    generalize (uss.take k).flatten.length=s at HF hle
    have d1:decide (((s:Int)+(m:Int))<0)=false:=by simp;omega
    go_wp2
    go_round
    case rel=>exact ⟨k+1,by omega,by go_num,by rw [HF.out];go_num⟩
    case measure=>simp [intOf];omega
  · obtain rfl:k=uss.length:=by omega
    have e1:decide ((uss.length:Int)<(uss.length:Int))=false:=by simp
    rw [List.take_length]
    have HT:=Lib.hid htot
    have HLE:=Lib.hid (fun k=>flat_leV uss k)
    generalize uss.flatten.length=T at HT HLE htot
    have HG:=Lib.hid (growN_any T (by omega) w)
    go_wp2_with (go_at_call 163;refine HG.out.mono ?_;rintro e w1 ⟨v1,rfl,hown1,hB1⟩)
    go_loopw [6,27] (fun v i wr=>∃ k:Nat,k≤uss.length∧i = .int .i64 k∧OwnN wr w.heap.size v (uss.take k).flatten∧Below w.heap.size w wr) (fun _ i _=>uss.length - (intOf i).toNat)
    case atStart=>exact ⟨0,Nat.zero_le _,rfl,hown1,hB1⟩
    case round =>
     obtain ⟨k,hk,rfl,hown,hBr⟩:=hrel
     by_cases hlt:k<uss.length
     · have hdec:decide ((k:Int)<(uss.length:Int))=true:=by simp;omega
       obtain ⟨sv,hc,hv⟩:=HCE.out k hlt
       have hon:=HON.out k hlt
       have hc1:=(hBr.cell (p:=⟨b,off+k,none⟩) hb).trans hc
       have hv1:=hv.below (hBr.mono hB)
       have HF:=Lib.hid (flat_nextV uss k hlt)
       have hle:=HLE.out (k+1)
       rw [HF.out,List.length_append] at hle
       obtain ⟨A1,cp,rfl⟩:=hv.len
       clear hc hv
       generalize uss[k]?.getD []=r at hc1 hv1 HF hle hon
       generalize (uss.take k).flatten=p at HF hle hown
       have HO:=Lib.hid hown
       have HV:=Lib.hid hv1
       clear hown hv1
       go_wp2_with (at_builtin;refine wpList_valsN _ rfl _ _ rfl w.heap.size _ p rfl HO.out B _ r rfl HV.out hon (by have:=HT.out;omega) (by have:=HT.out;omega) hBr.size ?_;intro v' w2 hown2 hgrow2)
       go_roundw
       case rel=>exact ⟨k+1,by omega,by go_num,by rw [HF.out];exact hown2,below_grown hBr hgrow2 hBr.size (fun g e=>(World.ownsRow.lt HO.out g e).1)⟩
       case measure=>simp [intOf];omega
     · obtain rfl:k=uss.length:=by omega
       have e1:decide ((uss.length:Int)<(uss.length:Int))=false:=by simp
       rw [List.take_length] at hown
       go_wp2
       go_ret
       exact ⟨_,rfl,hown,hBr⟩
def idxI (ls:List Int) (x:Int):Int:=if x∈ls then (ls.idxOf x:Int) else -1
theorem index_any (b off cap:Nat) (ls:List Int) (x:Int) (hls:ls.length≤1000) (w:World) (hcell:∀ j,j<ls.length→w.cell? ⟨b,off+j,none⟩=some (.int .i64 (ls[j]?.getD 0))) :
 Calls Tryz.prog 210 #[.slice (some ⟨b,off,none⟩) ls.length cap,.int .i64 x] w fun e w'=>e = .returned (.int .i64 (idxI ls x))∧w'=w:=by
 have HCE:=Lib.hid hcell
 clear hcell
 obtain ⟨r,hr⟩:∃ r,idxI ls x=r:=⟨_,rfl⟩
 have HR:=Lib.hid hr
 rw [hr]
 clear hr
 go_enter Tryz.func210,Tryz.ntmps210
 go_wp2_with fail
 go_loop [8] (fun i=>∃ k:Nat,k≤ls.length∧i = .int .i64 k∧Hid (x∉ls.take k)) (fun i=>ls.length - (intOf i).toNat)
 case atStart=>exact ⟨0,Nat.zero_le _,rfl,Lib.hid (by simp)⟩
 case round =>
  obtain ⟨k,hk,rfl,HN⟩:=hrel
  by_cases hlt:k<ls.length
  · have hdec:decide ((k:Int)<(ls.length:Int))=true:=by simp;omega
    have i1:(0:Int)≤(k:Int):=by omega
    have i2:(k:Int)<(ls.length:Int):=by omega
    have hc:=HCE.out k hlt
    have hg:ls[k]?.getD 0=ls[k]:=by rw [List.getElem?_eq_getElem hlt];rfl
    have HT:Hid (ls.take (k+1)=ls.take k ++ [ls[k]]):=List.take_succ_eq_append_getElem hlt
    rw [hg] at hc
    by_cases hx:x=ls[k]
    · have HE:Hid (r=(k:Int)):=by
       unfold Hid
       rw [←HR.out]
       unfold idxI
       rw [if_pos (by rw [hx];exact List.getElem_mem hlt)]
       have e:ls.idxOf x=k:=by
        have e1:ls=ls.take k ++ ls[k] :: ls.drop (k+1):=by rw [List.getElem_cons_drop hlt,List.take_append_drop]
        rw [e1,List.idxOf_append,if_neg HN.out,←hx,List.idxOf_cons_self,List.length_take]
        omega
       rw [e]
      generalize ls[k]=y at hc hx
      subst hx
      have hd:(x == x)=true:=by simp
      clear HT hg
      go_wp2
      go_ret
      exact ⟨by rw [HE.out];rfl,rfl⟩
    · have hd:(x == ls[k])=false:=by simpa using hx
      have HN2:Hid (x∉ls.take (k+1)):=by
       unfold Hid
       rw [HT.out]
       intro h
       rcases List.mem_append.1 h with h | h
       · exact HN.out h
       · exact hx (List.mem_singleton.1 h)
      have HX:=Lib.hid hx
      generalize ls[k]=y at hc hd
      clear HT hg hx HX
      go_wp2
      go_round
      case rel=>exact ⟨k+1,by omega,by go_num,HN2⟩
      case measure=>simp [intOf];omega
  · obtain rfl:k=ls.length:=by omega
    have e1:decide ((ls.length:Int)<(ls.length:Int))=false:=by simp
    have HE:Hid (r = -1):=by
     unfold Hid
     rw [←HR.out]
     unfold idxI
     have:=HN.out
     rw [List.take_length] at this
     rw [if_neg this]
    go_wp2
    go_ret
    exact ⟨by rw [HE.out];rfl,rfl⟩
theorem contains_any (b off cap:Nat) (ls:List Int) (x:Int) (hls:ls.length≤1000) (w:World) (hcell:∀ j,j<ls.length→w.cell? ⟨b,off+j,none⟩=some (.int .i64 (ls[j]?.getD 0))) :
 Calls Tryz.prog 158 #[.slice (some ⟨b,off,none⟩) ls.length cap,.int .i64 x] w fun e w'=>e = .returned (.bool (decide (x∈ls)))∧w'=w:=by
 have HI:=Lib.hid (index_any b off cap ls x hls w hcell)
 have hd:decide (idxI ls x ≥ 0)=decide (x∈ls):=by
  unfold idxI
  by_cases h:x∈ls
  · rw [if_pos h];simp [h]
  · rw [if_neg h];simp [h]
 have hd2:decide (0≤idxI ls x)=decide (x∈ls):=hd
 generalize idxI ls x=r at *
 generalize decide (x∈ls)=d at *
 clear hcell
 generalize ls.length=n at *
 go_enter Tryz.func158,Tryz.ntmps158
 go_wp2_with (go_at_call 210;refine HI.out.mono ?_;rintro e w1 ⟨rfl,rfl⟩)
 go_ret
 exact ⟨rfl,rfl⟩
theorem rowG_empty {α:Type} (r:Rep α) (t:TypeId) (d:α) (Q:Nat→Prop) {W:World} {base g:Nat} (hg:Blk W g t #[]) (hb:base≤g):RowG r t d Q W base (.slice (some ⟨g,0,none⟩) 0 0) [] :=
 ⟨[],⟨rfl,.inr ⟨g,0,#[],rfl,hb,hg,Nat.le_refl _,by unfold maxLen;omega,rfl,rfl⟩⟩,rfl,fun j y hy=>by cases hy⟩
theorem cloneC_any {B:Nat} (v:Value) (css:List (List (List UInt8))) (w:World) (hB:B≤w.heap.size) (hC:Cols B w v css) (h0:0<css.length) (hlen:css.length≤1000) :
 Calls Tryz.prog 161 #[v] w fun e w'=>∃ u,e = .returned u∧RowC (·<B) w' w.heap.size u css∧Below w.heap.size w w':=by
 have hq:∀ (W:World) (a:Option Addr) (n c:Nat),(binOp .eql 40 (.slice a n c) (.slice none 0 0)).run Tryz.prog W = .ok (.bool a.isNone) W:=fun W a n c=>Lib.run_eql_slice_nil W _ _ a n c 0 0 Tryz.underlying40
 obtain ⟨W1,hW1⟩:∃ W1,w.alloc (.cells #[] 50)=W1:=⟨_,rfl⟩
 have hB1:Below w.heap.size w W1:=by rw [←hW1];exact below_one w _
 have s1:W1.heap.size=w.heap.size+1:=by rw [←hW1];simp
 have hb:Blk W1 w.heap.size 50 #[]:=by rw [←hW1];exact Blk.new w _ _
 have HO:Hid (RowC (·<B) W1 w.heap.size (.slice (some ⟨w.heap.size,0,none⟩) 0 0) []):=rowG_empty _ _ _ _ hb (Nat.le_refl _)
 have HX:Hid (colsR.R (fun b=>b<W1.heap.size∧some b≠(Value.slice (some ⟨w.heap.size,0,none⟩) 0 0).ownBlock∧b<B) W1 v css):=colsR.imp (show colsR.R (·<B) W1 v css from hC.below (hB1.mono hB)) fun b hb=>⟨by omega,by intro e;injection e with e;have:b=w.heap.size:=e;omega,hb⟩
 obtain ⟨b1,off1,cap,rfl,hcap,hb1,_⟩:=hC.at_ h0
 have hq2:=hq w (some ⟨b1,off1,none⟩) css.length cap
 have HL:=Lib.hid hlen
 have H0:=Lib.hid h0
 clear hC h0 hlen hq hb
 go_enter Tryz.func161,Tryz.ntmps161
 go_wp2_with (at_builtin;refine wpList_appC _ rfl _ _ rfl Tryz.underlying40 [] css rfl HO.out rfl HX.out H0.out (by simp) (Nat.le_trans HL.out (by omega)) (by omega) ?_;intro v' w2 hrow hgr _)
 go_ret
 rw [List.nil_append] at hrow
 exact ⟨_,rfl,hrow,below_grown hB1 hgr (by omega) (fun k e=>by cases e;exact Nat.le_refl _)⟩

end Go.Proofs.YtcchjofjpflbhaaGreatDoor.Ch
