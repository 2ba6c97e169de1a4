/- -/
import Derived.Test.YtcchjofjpflbhaaGreatDoorPAG7m7
import Derived.Test.YtcchjofjpflbhaaGreatDoorPAG8
set_option linter.unusedVariables false
set_option linter.unusedSimpArgs false
set_option maxRecDepth 100000
set_option maxHeartbeats 4000000
namespace Go.Proofs.YtcchjofjpflbhaaGreatDoor.Pr
open Go.RowKit Go.Shelf Go.Proofs.YtcchjofjpflbhaaGreatDoor.C Go.Proofs.YtcchjofjpflbhaaGreatDoor.E
attribute [local go_sem] Oper.semAt_some

theorem losing_no (p:Int) (hp:p∈prm) (g:Nat) (ls:List Int) (hls:ls.length≤1000) (z:Nat) (hz:z<ls.length) (hgood:∀ i,i<z→GoodL p ls i) (hbad:¬ GoodL p ls z) (w:World) (hL:Laid w) (hg:g<w.heap.size) (hcell:∀ j,j<ls.length→w.cell? ⟨g,j,none⟩=some (.int .i64 (ls[j]?.getD 0))) :
 Calls Tryz.prog 53 #[.int .i64 p,.slice (some ⟨g,0,none⟩) ls.length ls.length] w fun e w'=>e = .panicked (gave 4)∧Below w.heap.size w w':=by
 have HCE:=Lib.hid hcell
 have HG:=Lib.hid hgood
 have HBAD:=Lib.hid hbad
 have HI:=Lib.hid (fun (x:Int) (A:Option Addr) (n c:Nat) (W:World) (hL:Laid W)=>hasCells_any p x hp A n c W hL)
 have HCK:=Lib.hid (fun W (hW:Laid W)=>(shapeCheck_any 2 p W hW).mono fun e w' h=>And.intro (h.1 (rightC2 hp)) h.2.2)
 obtain ⟨w0,hw0⟩:∃ z,w.alloc (.cells #[.int .i64 0,.int .i64 0,.slice none 0 0] 90)=z:=⟨_,rfl⟩
 have bz:Blk w0 w.heap.size 90 #[.int .i64 0,.int .i64 0,.slice none 0 0]:=by rw [←hw0];exact Blk.new w _ _
 have hB0:Below w.heap.size w w0:=by rw [←hw0];exact below_one w _
 have HW:=Lib.hid hw0
 have HLW:=Lib.hid (fun (U:World) (hU:Below w.heap.size w U)=>hL.next hU)
 have HGZ:Hid (w.heap.size≤w.heap.size):=by exact Nat.le_refl _
 clear hcell hgood hp hbad hL hw0
 go_enter Tryz.func53,Tryz.ntmps53
 go_wp2_with fail
 (try rw [HW.out])
 refine (codeOf_any p _).mono ?_
 rintro e w1 ⟨rfl,hB1⟩
 have hBw1:=below_in hB0 hB1
 replace bz:=bz.below hB1 bz.lt
 have hA2:=below_one w1 (.cells #[.int .i64 2,.int .i64 p,.slice (some ⟨g,0,none⟩) ls.length ls.length] 90)
 obtain ⟨w2,hw2⟩:∃ z,w1.alloc (.cells #[.int .i64 2,.int .i64 p,.slice (some ⟨g,0,none⟩) ls.length ls.length] 90)=z:=⟨_,rfl⟩
 obtain ⟨gl,hgl⟩:∃ z,w1.heap.size=z:=⟨_,rfl⟩
 have bl:Blk w2 gl 90 #[.int .i64 2,.int .i64 p,.slice (some ⟨g,0,none⟩) ls.length ls.length]:=by rw [←hw2,←hgl];exact Blk.new w1 _ _
 rw [hw2] at hA2
 have hlz:w.heap.size<gl:=by rw [←hgl];exact bz.lt
 have hBw2:=below_in hBw1 hA2
 replace bz:=bz.below hA2 bz.lt
 have k0:=bl.cell 0
 have k1:=bl.cell 1
 simp only [gz9] at k0 k1
 have HW2:=Lib.hid (And.intro hw2 hgl)
 clear hB1 hBw1 hB0 hA2 hw2 hgl
 go_wp2_with fail
 (try rw [HW2.out.1]);(try rw [HW2.out.2])
 refine (HCK.out _ (HLW.out _ hBw2)).mono ?_
 rintro e w3 ⟨rfl,hB3⟩
 replace bz:=bz.below hB3 bz.lt
 replace bl:=bl.below hB3 bl.lt
 replace hBw2:=below_in hBw2 hB3
 clear hB3 k0 k1
 go_wp2_with fail
 refine (need_yes _ _).mono ?_
 rintro e w4 ⟨rfl,rfl⟩
 go_wp2_with fail
 go_loopw [19] (fun v wr=>∃ k:Nat,k≤z∧v = .int .i64 k∧Blk wr gl 90 #[.int .i64 2,.int .i64 p,.slice (some ⟨g,0,none⟩) ls.length ls.length]∧Below w.heap.size w wr) (fun v _=>ls.length - (intOf v).toNat)
 case atStart=>exact ⟨0,Nat.zero_le _,rfl,bl,hBw2⟩
 case round =>
  clear bz bl hBw2
  obtain ⟨k,hk,rfl,bl,hBr⟩:=hrel
  have l0:=bl.cell 0
  have l1:=bl.cell 1
  have l2:=bl.cell 2
  simp only [gz9] at l0 l1 l2
  have hlt:k<ls.length:=by omega
  have hdec:decide ((k:Int)<(ls.length:Int))=true:=by simp;omega
  have i1:(0:Int)≤(k:Int):=by omega
  have i2:(k:Int)<(ls.length:Int):=by omega
  have hc:=(hBr.cell (p:=⟨g,k,none⟩) hg).trans (HCE.out k hlt)
  by_cases h1:0≤ls[k]?.getD 0∧ls[k]?.getD 0<p
  · rcases Nat.eq_zero_or_pos k with rfl | hpos
    · have hkz:0<z:=by
       rcases Nat.eq_zero_or_pos z with e | e
       · subst e;exact absurd ⟨h1,.inl rfl⟩ HBAD.out
       · exact e
      generalize ls[0]?.getD 0=x at *
      have hd:decide (0≤x∧x<p)=true:=decide_eq_true h1
      have e0:(((0:Nat):Int) == 0)=true:=rfl
      clear h1
      go_wp2_with (first
       | (go_at_call 100;refine (HI.out _ _ _ _ _ (HLW.out _ hBr)).mono ?_;rintro e w1 ⟨rfl,hB1⟩)
       | (go_at_call 98;refine (need_yes _ _).mono ?_;rintro e w2 ⟨rfl,rfl⟩))
      go_roundw
      case rel=>exact ⟨1,by omega,rfl,bl.below hB1 bl.lt,below_in hBr hB1⟩
      case measure=>simp [intOf];omega
    · obtain ⟨m,hm⟩:∃ m,k - 1=m:=⟨_,rfl⟩
      have hc2:=(hBr.cell (p:=⟨g,m,none⟩) hg).trans (HCE.out m (by omega))
      have hw:IntKind.i64.wrap ((k:Int) - 1)=(m:Int):=by rw [show (k:Int) - 1=(m:Int) by omega];exact IntWalk.i64_in _ (by omega)
      have e0:((k:Int) == 0)=false:=by simp;omega
      have i3:(0:Int)≤(m:Int):=by omega
      have i4:(m:Int)<(ls.length:Int):=by omega
      by_cases h3:ls[m]?.getD 0<ls[k]?.getD 0
      · have hkz:k<z:=by
         rcases Nat.lt_or_ge k z with e | e
         · exact e
         · obtain rfl:k=z:=by omega
           exact absurd ⟨h1,.inr (by rw [hm];exact h3)⟩ HBAD.out
        clear hm
        generalize ls[k]?.getD 0=x at *
        generalize ls[m]?.getD 0=y at *
        have hd:decide (0≤x∧x<p)=true:=decide_eq_true h1
        have hd2:decide (y<x)=true:=decide_eq_true h3
        clear h1 h3
        go_wp2_with (first
         | (go_at_call 100;refine (HI.out _ _ _ _ _ (HLW.out _ hBr)).mono ?_;rintro e w1 ⟨rfl,hB1⟩;replace hc2:=(hB1.cell (p:=⟨g,m,none⟩) (Nat.lt_of_lt_of_le hg hBr.size)).trans hc2)
         | (go_at_call 98;refine (need_yes _ _).mono ?_;rintro e w2 ⟨rfl,rfl⟩))
        go_roundw
        case rel=>exact ⟨k+1,by omega,by go_num,bl.below hB1 bl.lt,below_in hBr hB1⟩
        case measure=>simp [intOf];omega
      · clear hm
        generalize ls[k]?.getD 0=x at *
        generalize ls[m]?.getD 0=y at *
        have hd:decide (0≤x∧x<p)=true:=decide_eq_true h1
        have hd2:decide (y<x)=false:=decide_eq_false h3
        clear h1 h3
        go_wp2_with (first
         | (go_at_call 100;refine (HI.out _ _ _ _ _ (HLW.out _ hBr)).mono ?_;rintro e w1 ⟨rfl,hB1⟩;replace hc2:=(hB1.cell (p:=⟨g,m,none⟩) (Nat.lt_of_lt_of_le hg hBr.size)).trans hc2)
         | (go_at_call 98;refine (need_no _ _).mono ?_;rintro e w2 ⟨rfl,rfl⟩))
        exact ⟨rfl,rfl,below_in hBr hB1⟩
  · generalize ls[k]?.getD 0=x at *
    have hd:decide (0≤x∧x<p)=false:=decide_eq_false h1
    clear h1
    go_wp2_with (first
     | (go_at_call 100;refine (HI.out _ _ _ _ _ (HLW.out _ hBr)).mono ?_;rintro e w1 ⟨rfl,hB1⟩)
     | (go_at_call 98;refine (need_no _ _).mono ?_;rintro e w2 ⟨rfl,rfl⟩))
    exact ⟨rfl,rfl,below_in hBr hB1⟩
end Go.Proofs.YtcchjofjpflbhaaGreatDoor.Pr
