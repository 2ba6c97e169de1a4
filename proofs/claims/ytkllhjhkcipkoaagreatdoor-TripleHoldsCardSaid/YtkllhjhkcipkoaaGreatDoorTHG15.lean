/- -/
import Derived.Test.YtkllhjhkcipkoaaGreatDoorTHG14
set_option linter.unusedVariables false
set_option linter.unusedSimpArgs false
set_option maxRecDepth 100000
set_option maxHeartbeats 8000000
namespace Go.Proofs.YtkllhjhkcipkoaaGreatDoor.Tr
open Go.RowKit Go.Shelf Go.Maps Go.Proofs.YtkllhjhkcipkoaaGreatDoor.C Go.Proofs.YtkllhjhkcipkoaaGreatDoor.E Go.Proofs.YtkllhjhkcipkoaaGreatDoor.T Go.Proofs.YtkllhjhkcipkoaaGreatDoor.Rg Go.Proofs.YtkllhjhkcipkoaaGreatDoor.Ch
attribute [local go_sem] Oper.semAt_some

theorem indexR_any (b off cap:Nat) (ls:List Int) (x:Int) (hls:ls.length≤1000) (w:World) (hcell:∀ j,j<ls.length→w.cell? ⟨b,off+j,none⟩=some (.int .i64 (ls[j]?.getD 0))) :
 Calls Tryz.prog 103 #[.slice (some ⟨b,off,none⟩) ls.length cap,.int .i64 x] w fun e w'=>e = .returned (.int .i64 (idxI ls x))∧w'=w:=by
 have HCE:=Lib.hid hcell
 clear hcell
 obtain ⟨r,hr⟩:∃ r,idxI ls x=r:=⟨_,rfl⟩
 have HR:=Lib.hid hr
 rw [hr]
 clear hr
 go_enter Tryz.func103,Tryz.ntmps103
 go_wp2_with fail
 go_loop [8] (fun i=>∃ k:Nat,k≤ls.length∧i = .int .i64 k∧Hid (x∉ls.take k)) (fun i=>ls.length - (intOf i).toNat)
 case atStart=>exact ⟨0,Nat.zero_le _,rfl,Lib.hid (by simp)⟩
 case round =>
  obtain ⟨k,hk,rfl,HN⟩:=hrel
  by_cases hlt:k<ls.length
  · have hdec:decide ((k:Int)<(ls.length:Int))=true:=by simp;omega
    have i1:(0:Int)≤(k:Int):=by omega
    have i2:(k:Int)<(ls.length:Int):=by omega
    have hc:=HCE.out k hlt
    have hg:ls[k]?.getD 0=ls[k]:=by rw [List.getElem?_eq_getElem hlt];rfl
    have HT:Hid (ls.take (k+1)=ls.take k ++ [ls[k]]):=List.take_succ_eq_append_getElem hlt
    rw [hg] at hc
    by_cases hx:x=ls[k]
    · have HE:Hid (r=(k:Int)):=by
       unfold Hid
       rw [←HR.out]
       unfold idxI
       rw [if_pos (by rw [hx];exact List.getElem_mem hlt)]
       have e:ls.idxOf x=k:=by
        have e1:ls=ls.take k ++ ls[k] :: ls.drop (k+1):=by rw [List.getElem_cons_drop hlt,List.take_append_drop]
        rw [e1,List.idxOf_append,if_neg HN.out,←hx,List.idxOf_cons_self,List.length_take]
        omega
       rw [e]
      generalize ls[k]=y at hc hx
      subst hx
      have hd:(x == x)=true:=by simp
      clear HT hg
      go_wp2
      go_ret
      exact ⟨by rw [HE.out];rfl,rfl⟩
    · have hd:(x == ls[k])=false:=by simpa using hx
      have HN2:Hid (x∉ls.take (k+1)):=by
       unfold Hid
       rw [HT.out]
       intro h
       rcases List.mem_append.1 h with h | h
       · exact HN.out h
       · exact hx (List.mem_singleton.1 h)
      have HX:=Lib.hid hx
      generalize ls[k]=y at hc hd
      clear HT hg hx HX
      go_wp2
      go_round
      case rel=>exact ⟨k+1,by omega,by go_num,HN2⟩
      case measure=>simp [intOf];omega
  · obtain rfl:k=ls.length:=by omega
    have e1:decide ((ls.length:Int)<(ls.length:Int))=false:=by simp
    have HE:Hid (r = -1):=by
     unfold Hid
     rw [←HR.out]
     unfold idxI
     have:=HN.out
     rw [List.take_length] at this
     rw [if_neg this]
    go_wp2
    go_ret
    exact ⟨by rw [HE.out];rfl,rfl⟩
theorem containsR_any (b off cap:Nat) (ls:List Int) (x:Int) (hls:ls.length≤1000) (w:World) (hcell:∀ j,j<ls.length→w.cell? ⟨b,off+j,none⟩=some (.int .i64 (ls[j]?.getD 0))) :
 Calls Tryz.prog 82 #[.slice (some ⟨b,off,none⟩) ls.length cap,.int .i64 x] w fun e w'=>e = .returned (.bool (decide (x∈ls)))∧w'=w:=by
 have HI:=Lib.hid (indexR_any b off cap ls x hls w hcell)
 have hd:decide (idxI ls x ≥ 0)=decide (x∈ls):=by
  unfold idxI
  by_cases h:x∈ls
  · rw [if_pos h];simp [h]
  · rw [if_neg h];simp [h]
 have hd2:decide (0≤idxI ls x)=decide (x∈ls):=hd
 generalize idxI ls x=r at *
 generalize decide (x∈ls)=d at *
 clear hcell
 generalize ls.length=n at *
 go_enter Tryz.func82,Tryz.ntmps82
 go_wp2_with (go_at_call 103;refine HI.out.mono ?_;rintro e w1 ⟨rfl,rfl⟩)
 go_ret
 exact ⟨rfl,rfl⟩

def IsRole (r:Int):Prop:=2≤r∧r≤4
instance (r:Int):Decidable (IsRole r):=inferInstanceAs (Decidable (2≤r∧r≤4))
theorem roles_any (w:World):Calls Tryz.prog 31 #[] w fun e w'=>∃ g,e = .returned (.slice (some ⟨g,0,none⟩) 3 3)∧w.heap.size≤g∧Blk w' g 44 #[.int .i64 2,.int .i64 3,.int .i64 4]∧Below w.heap.size w w':=by
 go_enter Tryz.func31,Tryz.ntmps31
 go_wp2
 go_ret
 exact ⟨_,rfl,Nat.le_refl _,Blk.new w _ _,below_one w _⟩
theorem isOther_any (r:Int) (w:World):Calls Tryz.prog 62 #[.int .i64 r] w fun e w'=>e = .returned (.bool (decide (¬ IsRole r)))∧Below w.heap.size w w':=by
 have hd:(!decide (r∈[2,3,(4:Int)]))=decide (¬ IsRole r):=by
  unfold IsRole
  by_cases h:2≤r∧r≤4
  · have h2:r∈[2,3,(4:Int)]:=by simp;omega
    simp [h,h2]
  · have h2:r∉[2,3,(4:Int)]:=by simp;omega
    simp only [h2,decide_false,Bool.not_false]
    exact (decide_eq_true h).symm
 generalize decide (¬ IsRole r)=b at *
 have HC:=Lib.hid (fun (g:Nat) (W:World) (hb:Blk W g 44 #[.int .i64 2,.int .i64 3,.int .i64 4])=>containsR_any g 0 3 [2,3,4] r (by simp) W (fun j hj=>by
  have hj3:j=0∨j=1∨j=2:=(by have:j<3:=hj;omega)
  rcases hj3 with rfl | rfl | rfl
  · exact hb.cell 0
  · exact hb.cell 1
  · exact hb.cell 2))
 generalize decide (r∈[2,3,(4:Int)])=b2 at *
 go_enter Tryz.func62,Tryz.ntmps62
 go_wp2_with (first
  | (go_at_call 31;refine (roles_any _).mono ?_;rintro e w1 ⟨g,rfl,hg,hb,hB1⟩)
  | (go_at_call 82;refine (HC.out g _ hb).mono ?_;rintro e w2 ⟨rfl,rfl⟩))
 go_ret
 exact ⟨rfl,hB1⟩
theorem indexF_any (gr rc:Nat) (rs:List Int) (hrs:rs.length≤1000) (w:World) (hg:gr<w.heap.size) (hcell:∀ j,j<rs.length→w.cell? ⟨gr,j,none⟩=some (.int .i64 (rs[j]?.getD 0))) :
 Calls Tryz.prog 83 #[.slice (some ⟨gr,0,none⟩) rs.length rc,.func (.func 62) #[] #[]] w fun e w'=>∃ z:Int,e = .returned (.int .i64 z)∧(decide (0≤z)=decide (¬ ∀ r∈rs,IsRole r))∧Below w.heap.size w w':=by
 have HCE:=Lib.hid hcell
 clear hcell
 go_enter Tryz.func83,Tryz.ntmps83
 go_wp2_with fail
 go_loopw [8] (fun i wr=>∃ k:Nat,k≤rs.length∧i = .int .i64 k∧Hid (∀ r∈rs.take k,IsRole r)∧Below w.heap.size w wr) (fun i _=>rs.length - (intOf i).toNat)
 case atStart=>exact ⟨0,Nat.zero_le _,rfl,Lib.hid (by simp),Below.refl _ _⟩
 case round =>
  obtain ⟨k,hk,rfl,HN,hBr⟩:=hrel
  by_cases hlt:k<rs.length
  · have hdec:decide ((k:Int)<(rs.length:Int))=true:=by simp;omega
    have i1:(0:Int)≤(k:Int):=by omega
    have i2:(k:Int)<(rs.length:Int):=by omega
    have hc:=(hBr.cell (p:=⟨gr,k,none⟩) hg).trans (HCE.out k hlt)
    have hgk:rs[k]?.getD 0=rs[k]:=by rw [List.getElem?_eq_getElem hlt];rfl
    have HT:Hid (rs.take (k+1)=rs.take k ++ [rs[k]]):=List.take_succ_eq_append_getElem hlt
    have HM:Hid (rs[k]∈rs):=List.getElem_mem hlt
    rw [hgk] at hc
    have HIO:=Lib.hid (fun W=>isOther_any rs[k] W)
    by_cases hx:IsRole rs[k]
    · have hx2:decide (¬ IsRole rs[k])=false:=by simpa using hx
      have HX:=Lib.hid hx
      rw [hx2] at HIO
      have HN2:Hid (∀ r∈rs.take (k+1),IsRole r):=fun r hr=>by
       rw [HT.out] at hr
       rcases List.mem_append.1 hr with h | h
       · exact HN.out r h
       · rw [List.mem_singleton.1 h];exact HX.out
      clear hx hx2 HX HM HT hgk
      generalize rs[k]=y at *
      go_wp2_with (go_at_call 62;refine (HIO.out _).mono ?_;rintro e w1 ⟨rfl,hB1⟩)
      go_roundw
      case rel=>exact ⟨k+1,by omega,by go_num,HN2,below_in hBr hB1⟩
      case measure=>simp [intOf];omega
    · have hx2:decide (¬ IsRole rs[k])=true:=by simpa using hx
      have HX:Hid (¬ ∀ r∈rs,IsRole r):=fun h=>hx (h _ HM.out)
      rw [hx2] at HIO
      clear hx hx2 HM HT hgk
      generalize rs[k]=y at *
      go_wp2_with (go_at_call 62;refine (HIO.out _).mono ?_;rintro e w1 ⟨rfl,hB1⟩)
      go_ret
      exact ⟨_,rfl,by rw [decide_eq_true HX.out,decide_eq_true (by omega)],below_in hBr hB1⟩
  · obtain rfl:k=rs.length:=by omega
    have e1:decide ((rs.length:Int)<(rs.length:Int))=false:=by simp
    have HE:Hid (∀ r∈rs,IsRole r):=fun r hr=>HN.out r (by rw [List.take_length];exact hr)
    go_wp2
    go_ret
    exact ⟨_,rfl,by rw [decide_eq_false (p:=¬ ∀ r∈rs,IsRole r) (fun h=>h HE.out)];rfl,hBr⟩
theorem containsF_any (gr rc:Nat) (rs:List Int) (hrs:rs.length≤1000) (w:World) (hg:gr<w.heap.size) (hcell:∀ j,j<rs.length→w.cell? ⟨gr,j,none⟩=some (.int .i64 (rs[j]?.getD 0))) :
 Calls Tryz.prog 76 #[.slice (some ⟨gr,0,none⟩) rs.length rc,.func (.func 62) #[] #[]] w fun e w'=>e = .returned (.bool (decide (¬ ∀ r∈rs,IsRole r)))∧Below w.heap.size w w':=by
 have HI:=Lib.hid (indexF_any gr rc rs hrs w hg hcell)
 generalize decide (¬ ∀ r∈rs,IsRole r)=b at *
 clear hcell
 generalize rs.length=m at *
 go_enter Tryz.func76,Tryz.ntmps76
 go_wp2_with (go_at_call 83;refine HI.out.mono ?_;rintro e w1 ⟨z,rfl,hz,hB⟩)
 go_ret
 exact ⟨rfl,hB⟩
def KnownOk (p:Int) (N:Nat) (rs:List Int):Prop:=p∈prm∧(N:Int)=p+3∧∀ r∈rs,IsRole r
theorem known_any (p:Int) (vA:Option Addr) (N vc:Nat) (hN:N≤1000) (gr rc:Nat) (rs:List Int) (hrs:rs.length≤1000) (lA:Option Addr) (ln lc:Nat) (w:World) (hL:Laid w) (hg:gr<w.heap.size) (hcell:∀ j,j<rs.length→w.cell? ⟨gr,j,none⟩=some (.int .i64 (rs[j]?.getD 0))) :
 Calls Tryz.prog 56 #[.agg #[.int .i64 p,.slice vA N vc,.slice (some ⟨gr,0,none⟩) rs.length rc,.slice lA ln lc]] w fun e w'=>∃ y:Int,e = .returned (.int .i64 y)∧(KnownOk p N rs→y=0)∧(¬ KnownOk p N rs→y=2)∧Below w.heap.size w w':=by
 have hBz:=below_one w (.cells #[.int .i64 p,.slice vA N vc,.slice (some ⟨gr,0,none⟩) rs.length rc,.slice lA ln lc] 67)
 have bz:=Blk.new w 67 #[.int .i64 p,.slice vA N vc,.slice (some ⟨gr,0,none⟩) rs.length rc,.slice lA ln lc]
 obtain ⟨w0,hw0⟩:∃ x,w.alloc (.cells #[.int .i64 p,.slice vA N vc,.slice (some ⟨gr,0,none⟩) rs.length rc,.slice lA ln lc] 67)=x:=⟨_,rfl⟩
 rw [hw0] at hBz bz
 have c0:=bz.cell 0
 have c1:=bz.cell 1
 have c2:=bz.cell 2
 simp only [gz9] at c0 c1 c2
 have HC:=Lib.hid (check_any p w0 (hL.next hBz))
 have HF:=Lib.hid (fun (V:World) (hV:Below w0.heap.size w0 V)=>containsF_any gr rc rs hrs V (Nat.lt_of_lt_of_le hg (below_in hBz hV).size) (fun j hj=>((below_in hBz hV).cell (p:=⟨gr,j,none⟩) hg).trans (hcell j hj)))
 clear hL hcell
 by_cases hp:p∈prm
 · have hpb:=prm_bounds hp
   rw [if_pos hp] at HC
   have hw1:IntKind.i64.wrap (p+3)=p+3:=IntWalk.i64_in _ (by omega)
   by_cases hNp:(N:Int)=p+3
   · have hne:((N:Int) != p+3)=false:=by simp [hNp]
     have HNP:=Lib.hid (And.intro hp hNp)
     clear hNp hp
     obtain ⟨b,hb⟩:∃ b,decide (¬ ∀ r∈rs,IsRole r)=b:=⟨_,rfl⟩
     have HB:=Lib.hid hb
     rw [hb] at HF
     clear hb
     generalize rs.length=m at *
     rcases b with _ | _
     all_goals
      go_enter Tryz.func56,Tryz.ntmps56
      go_wp2_with (first
       | (go_at_call 75;(try rw [hw0]);refine HC.out.mono ?_;rintro e w1 ⟨rfl,hB1⟩;have bz1:=bz.below hB1 bz.lt;have d0:=bz1.cell 0;have d1:=bz1.cell 1;have d2:=bz1.cell 2;simp only [gz9] at d0 d1 d2)
       | (go_at_call 76;refine (HF.out _ hB1).mono ?_;rintro e w2 ⟨rfl,hB2⟩))
      go_ret
     · exact ⟨_,rfl,fun _=>rfl,fun h=>absurd ⟨HNP.out.1,HNP.out.2,by simpa using HB.out⟩ h,below_in hBz (below_in hB1 hB2)⟩
     · exact ⟨_,rfl,fun h=>absurd h.2.2 (of_decide_eq_true HB.out),fun _=>rfl,below_in hBz (below_in hB1 hB2)⟩
   · have hne:((N:Int) != p+3)=true:=by simpa using hNp
     have HNP:=Lib.hid hNp
     clear hNp hp HF
     generalize rs.length=m at *
     go_enter Tryz.func56,Tryz.ntmps56
     go_wp2_with (first
      | (go_at_call 75;(try rw [hw0]);refine HC.out.mono ?_;rintro e w1 ⟨rfl,hB1⟩;have bz1:=bz.below hB1 bz.lt;have d0:=bz1.cell 0;have d1:=bz1.cell 1;have d2:=bz1.cell 2;simp only [gz9] at d0 d1 d2))
     go_ret
     exact ⟨_,rfl,fun h=>absurd h.2.1 HNP.out,fun _=>rfl,below_in hBz hB1⟩
 · rw [if_neg hp] at HC
   have HNP:=Lib.hid hp
   clear hp HF
   generalize rs.length=m at *
   go_enter Tryz.func56,Tryz.ntmps56
   go_wp2_with (first
    | (go_at_call 75;(try rw [hw0]);refine HC.out.mono ?_;rintro e w1 ⟨rfl,hB1⟩))
   go_ret
   exact ⟨_,rfl,fun h=>absurd h.1 HNP.out,fun _=>rfl,below_in hBz hB1⟩
def RiseAt (p:Int) (ls:List Int) (i:Nat):Prop:=(if i=0 then -1 else ls[i - 1]?.getD 0)<ls[i]?.getD 0∧ls[i]?.getD 0<p
def RiseOk (p:Int) (ls:List Int):Prop:=∀ i,i<ls.length→RiseAt p ls i
theorem rising_any (p:Int) (vA:Option Addr) (N vc:Nat) (rA:Option Addr) (rn rc gl lc:Nat) (ls:List Int) (hls:ls.length≤3) (w:World) (hg:gl<w.heap.size) (hcell:∀ j,j<ls.length→w.cell? ⟨gl,j,none⟩=some (.int .i64 (ls[j]?.getD 0))) :
 Calls Tryz.prog 57 #[.agg #[.int .i64 p,.slice vA N vc,.slice rA rn rc,.slice (some ⟨gl,0,none⟩) ls.length lc]] w fun e w'=>∃ y:Int,e = .returned (.int .i64 y)∧(RiseOk p ls→y=0)∧(¬ RiseOk p ls→y=4)∧Below w.heap.size w w':=by
 have hBz:=below_one w (.cells #[.int .i64 p,.slice vA N vc,.slice rA rn rc,.slice (some ⟨gl,0,none⟩) ls.length lc] 67)
 have bz:=Blk.new w 67 #[.int .i64 p,.slice vA N vc,.slice rA rn rc,.slice (some ⟨gl,0,none⟩) ls.length lc]
 obtain ⟨w0,hw0⟩:∃ x,w.alloc (.cells #[.int .i64 p,.slice vA N vc,.slice rA rn rc,.slice (some ⟨gl,0,none⟩) ls.length lc] 67)=x:=⟨_,rfl⟩
 rw [hw0] at hBz bz
 have c0:=bz.cell 0
 have c3:=bz.cell 3
 simp only [gz9] at c0 c3
 have HCE:=Lib.hid (fun j hj=>(hBz.cell (p:=⟨gl,j,none⟩) hg).trans (hcell j hj))
 clear hcell hg bz
 go_enter Tryz.func57,Tryz.ntmps57
 go_wp2_with fail
 (try rw [hw0])
 go_loop [3,9] (fun v i=>∃ k:Nat,k≤ls.length∧i = .int .i64 k∧v = .int .i64 (if k=0 then -1 else ls[k - 1]?.getD 0)∧Hid (∀ j,j<k→RiseAt p ls j)) (fun _ i=>ls.length - (intOf i).toNat)
 case atStart=>exact ⟨0,Nat.zero_le _,rfl,rfl,Lib.hid (fun j hj=>absurd hj (by omega))⟩
 case round =>
  obtain ⟨k,hk,rfl,rfl,HN⟩:=hrel
  by_cases hlt:k<ls.length
  · have hdec:decide ((k:Int)<(ls.length:Int))=true:=by simp;omega
    have i1:(0:Int)≤(k:Int):=by omega
    have i2:(k:Int)<(ls.length:Int):=by omega
    have i3:((k:Int) == 3)=false:=by simp;omega
    have hc:=HCE.out k hlt
    have HA:Hid (RiseAt p ls k↔(if k=0 then -1 else ls[k - 1]?.getD 0)<ls[k]?.getD 0∧ls[k]?.getD 0<p):=Iff.rfl
    have HV:Hid ((.int .i64 (if k+1=0 then -1 else ls[k+1 - 1]?.getD 0):Value) = .int .i64 (ls[k]?.getD 0)):=by unfold Hid;rw [if_neg (by omega),Nat.add_sub_cancel]
    generalize (if k=0 then -1 else ls[k - 1]?.getD 0)=a at *
    generalize ls[k]?.getD 0=x at *
    by_cases h1:x≤a
    · have d1:decide (x≤a)=true:=decide_eq_true h1
      have HX:Hid (¬ RiseOk p ls):=fun h=>by have:=(HA.out.1 (h k hlt)).1;omega
      clear h1
      go_wp2
      go_ret
      exact ⟨_,rfl,fun h=>absurd h HX.out,fun _=>rfl,hBz⟩
    · have d1:decide (x≤a)=false:=decide_eq_false h1
      by_cases h2:p≤x
      · have d2:decide (x ≥ p)=true:=decide_eq_true h2
        have d3:decide (p≤x)=true:=decide_eq_true h2
        have HX:Hid (¬ RiseOk p ls):=fun h=>by have:=(HA.out.1 (h k hlt)).2;omega
        clear h1 h2
        go_wp2
        go_ret
        exact ⟨_,rfl,fun h=>absurd h HX.out,fun _=>rfl,hBz⟩
      · have d2:decide (x ≥ p)=false:=decide_eq_false h2
        have d3:decide (p≤x)=false:=decide_eq_false h2
        have HN2:Hid (∀ j,j<k+1→RiseAt p ls j):=fun j hj=>by
         rcases Nat.lt_or_ge j k with h | h
         · exact HN.out j h
         · obtain rfl:j=k:=by omega
           exact HA.out.2 ⟨by omega,by omega⟩
        clear h1 h2
        go_wp2
        go_round
        case rel=>exact ⟨k+1,by omega,by go_num,HV.out.symm,HN2⟩
        case measure=>simp [intOf];omega
  · obtain rfl:k=ls.length:=by omega
    have e1:decide ((ls.length:Int)<(ls.length:Int))=false:=by simp
    have HX:Hid (RiseOk p ls):=HN.out
    generalize (if ls.length=0 then -1 else ls[ls.length - 1]?.getD 0)=a at *
    go_wp2
    go_ret
    exact ⟨_,rfl,fun _=>rfl,fun h=>absurd HX.out h,hBz⟩
end Go.Proofs.YtkllhjhkcipkoaaGreatDoor.Tr

namespace Go.Proofs.YtkllhjhkcipkoaaGreatDoor.Tr
open Go.RowKit Go.Shelf Go.Maps Go.Proofs.YtkllhjhkcipkoaaGreatDoor.C Go.Proofs.YtkllhjhkcipkoaaGreatDoor.E Go.Proofs.YtkllhjhkcipkoaaGreatDoor.T Go.Proofs.YtkllhjhkcipkoaaGreatDoor.Rg
attribute [local go_sem] Oper.semAt_some

def thereL (P:Nat) (css:List (List (List UInt8))) (L rs:List Int):List (List (List UInt8)):=(keptL (P:Int) L).map (fun x=>css[x.toNat]?.getD []) ++ rs.map (fun r=>css[P+(r - 2).toNat]?.getD [])
theorem together_any (P:Nat) (hp:(P:Int)∈prm) (b1 off1 N cap:Nat) (hN:N=P+3) (gr rc:Nat) (rs:List Int) (hrs:rs.length≤3) (hrole:∀ r∈rs,IsRole r) (L:List Int) (gl lo2 lc:Nat) (hls:L.length≤1000) (css:List (List (List UInt8))) (hcl:css.length=N) (hsm:∀ x∈thereL P css L rs,x.length≤1000) (w:World) (hL:Laid w) (hgl:gl<w.heap.size) (hcell:∀ j,j<L.length→w.cell? ⟨gl,lo2+j,none⟩=some (.int .i64 (L[j]?.getD 0)))
 (hgr:gr<w.heap.size) (hrc:∀ j,j<rs.length→w.cell? ⟨gr,j,none⟩=some (.int .i64 (rs[j]?.getD 0))) (hb1:b1<w.heap.size) (hC:∀ j,j<N→∃ u,w.cell? ⟨b1,off1+j,none⟩=some u∧Many w.heap.size w u (css[j]?.getD [])) :
 Calls Tryz.prog 58 #[.agg #[.int .i64 (P:Int),.slice (some ⟨b1,off1,none⟩) N cap,.slice (some ⟨gr,0,none⟩) rs.length rc,.slice (some ⟨gl,lo2,none⟩) L.length lc]] w fun e w'=>∃ y:Int,e = .returned (.int .i64 y)∧(RightD (P:Int) (thereL P css L rs)→y=0)∧(¬ RightD (P:Int) (thereL P css L rs)→y=2)∧Below w.heap.size w w':=by
 have hpb:=prm_bounds hp
 have HKE:=Lib.hid (fun (V:World) (hV:Below w.heap.size w V)=>kept_any gl lo2 lc (some ⟨b1,off1,none⟩) N cap (some ⟨gr,0,none⟩) rs.length rc (P:Int) hp L hls V (hL.next hV) (Nat.lt_of_lt_of_le hgl hV.size) (fun j hj=>(hV.cell (p:=⟨gl,lo2+j,none⟩) hgl).trans (hcell j hj)))
 have HCOL:=Lib.hid (fun (j:Nat) (hj:j<P+3)=>hC j (by omega))
 have HRC:=Lib.hid (fun (V:World) (hV:Below w.heap.size w V) (j:Nat) (hj:j<rs.length)=>(hV.cell (p:=⟨gr,j,none⟩) hgr).trans (hrc j hj))
 have HRO:Hid (∀ j,(hj:j<rs.length)→IsRole rs[j]):=fun j hj=>hrole _ (List.getElem_mem hj)
 have HCOL2:=Lib.hid (fun (r:Int) (hr:IsRole r) (u:Value) (V:World) (hV:Below w.heap.size w V) (hu:w.cell? ⟨b1,off1+(P+(r - 2).toNat),none⟩=some u)=>column_any (B:=0) P (by omega) r hr b1 off1 N cap hN (some ⟨gr,0,none⟩) rs.length rc (some ⟨gl,lo2,none⟩) L.length lc u V (Nat.lt_of_lt_of_le hb1 hV.size) ((hV.cell (p:=⟨b1,off1+(P+(r - 2).toNat),none⟩) hb1).trans hu))
 have hk20:=kept_len (L:=L) hp
 have HTL:Hid ((thereL P css L rs).length≤1000∧∀ j,j<(thereL P css L rs).length→((thereL P css L rs)[j]?.getD []).length≤1000):=by
  refine ⟨by unfold thereL;rw [List.length_append,List.length_map,List.length_map];omega,mem_get (d:=[]) (p:=fun c=>c.length≤1000) ?_⟩
  exact hsm
 have HRY:=Lib.hid (fun (v:Value) (V:World) (hV:Below w.heap.size w V) (hCv:Cols V.heap.size V v (thereL P css L rs)) (h:RightD (P:Int) (thereL P css L rs))=>E.right_yes (P:Int) v (thereL P css L rs) V (hL.next hV) (Nat.le_refl _) hCv HTL.out.1 h)
 have HRN:=Lib.hid (fun (v:Value) (V:World) (hV:Below w.heap.size w V) (hCv:Cols V.heap.size V v (thereL P css L rs)) (h:¬ RightD (P:Int) (thereL P css L rs))=>E.right_no (P:Int) v (thereL P css L rs) V (hL.next hV) (Nat.le_refl _) hCv HTL.out.1 HTL.out.2 h)
 obtain ⟨Fc,hFc⟩:∃ F:Int→List (List UInt8),(fun x:Int=>css[x.toNat]?.getD [])=F:=⟨_,rfl⟩
 have HFC:Hid (∀ j:Nat,Fc (j:Int)=css[j]?.getD []):=fun j=>by rw [←hFc];show css[((j:Int)).toNat]?.getD [] = _;rw [Int.toNat_natCast]
 obtain ⟨Fr,hFr⟩:∃ F:Int→List (List UInt8),(fun r:Int=>css[P+(r - 2).toNat]?.getD [])=F:=⟨_,rfl⟩
 have HFR:Hid (∀ r:Int,Fr r=css[P+(r - 2).toNat]?.getD []):=fun r=>by rw [←hFr]
 have HTH:Hid (thereL P css L rs=(keptL (P:Int) L).map Fc ++ rs.map Fr):=by unfold Hid thereL;rw [hFc,hFr]
 generalize thereL P css L rs=TH at *
 have HNN:=Lib.hid (And.intro hN (And.intro hgl (And.intro hb1 (And.intro hpb hk20))))
 have j1:(0:Int)≤(P:Int):=by omega
 obtain ⟨w1,hw1⟩:∃ x,(w.alloc (.cells #[.int .i64 (P:Int),.slice (some ⟨b1,off1,none⟩) N cap,.slice (some ⟨gr,0,none⟩) rs.length rc,.slice (some ⟨gl,lo2,none⟩) L.length lc] 67)).alloc (.cells #[.slice none 0 0] 22)=x:=⟨_,rfl⟩
 obtain ⟨g1,hg1⟩:∃ x,w.heap.size=x:=⟨_,rfl⟩
 obtain ⟨g3,hg3⟩:∃ x,g1+1=x:=⟨_,rfl⟩
 have b1_:Blk w1 g1 67 #[.int .i64 (P:Int),.slice (some ⟨b1,off1,none⟩) N cap,.slice (some ⟨gr,0,none⟩) rs.length rc,.slice (some ⟨gl,lo2,none⟩) L.length lc]:=by rw [←hw1,←hg1];exact (Blk.new w _ _).alloc _
 have b3:Blk w1 g3 22 #[.slice none 0 0]:=by rw [←hw1,←hg3,←hg1];exact Blk.second w _ _ _
 have hB1:Below w.heap.size w w1:=by rw [←hw1];exact below_two w _ _
 have kq:=HKE.out w1 hB1
 have HW1:=Lib.hid (And.intro hw1 (And.intro hg1 hg3))
 have k0:=((Blk.new w 67 #[.int .i64 (P:Int),.slice (some ⟨b1,off1,none⟩) N cap,.slice (some ⟨gr,0,none⟩) rs.length rc,.slice (some ⟨gl,lo2,none⟩) L.length lc]).alloc (.cells #[.slice none 0 0] 22)).cell 0
 have k1:=((Blk.new w 67 #[.int .i64 (P:Int),.slice (some ⟨b1,off1,none⟩) N cap,.slice (some ⟨gr,0,none⟩) rs.length rc,.slice (some ⟨gl,lo2,none⟩) L.length lc]).alloc (.cells #[.slice none 0 0] 22)).cell 1
 have k2:=((Blk.new w 67 #[.int .i64 (P:Int),.slice (some ⟨b1,off1,none⟩) N cap,.slice (some ⟨gr,0,none⟩) rs.length rc,.slice (some ⟨gl,lo2,none⟩) L.length lc]).alloc (.cells #[.slice none 0 0] 22)).cell 2
 have k3:=((Blk.new w 67 #[.int .i64 (P:Int),.slice (some ⟨b1,off1,none⟩) N cap,.slice (some ⟨gr,0,none⟩) rs.length rc,.slice (some ⟨gl,lo2,none⟩) L.length lc]).alloc (.cells #[.slice none 0 0] 22)).cell 3
 simp only [gz9] at k0 k1 k2 k3
 clear hFc hFr hp hpb hN hcl hsm hL hgl hcell hgr hrc hb1 hC hrole hls hk20 HKE hw1 hg1 hg3
 refine (callsIn_wide (n:=9)).1 ?_
 refine callsIn_of_wp_marks Tryz.func58 rfl trivial ?_ rfl
 simp only [Tryz.ntmps58,List.size_toArray,List.length_cons,List.length_nil,Nat.reduceAdd,Nat.reduceSub,Array.replicate_succ,Array.replicate_zero,List.push_toArray,List.append_toArray,List.nil_append,List.cons_append]
 gi_wp2_with fail
 (try rw [HW1.out.2.1]);(try rw [HW1.out.2.2]);(try rw [HW1.out.1])
 refine ⟨trivial,(callsIn_wide.2 kq).mono ?_⟩
 rintro e w7 ⟨v,rfl,⟨g,gf,lb,hgg1,hgg2,hgl7,rfl,eg,hgo⟩,hB7⟩
 clear kq k0 k1 k2 k3
 have l3:=b3.lt
 have hs7:=hB7.size
 replace b1_:=b1_.below hB7 b1_.lt
 replace b3:=b3.below hB7 b3.lt
 have hw7B:=below_in hB1 hB7
 have HO:=Lib.hid (show w.heap.size=g1∧g1+1=g3∧g3<w1.heap.size∧w1.heap.size≤g∧g<w7.heap.size∧gl<w.heap.size∧w1.heap.size≤w7.heap.size from ⟨HW1.out.2.1,HW1.out.2.2,l3,hgg1,hgg2,HNN.out.2.1,hs7⟩)
 have hI0:(fun pre o X=>∃ (vA:Option Addr) (vn vc:Nat),Blk X g3 22 #[.slice vA vn vc]∧RowC (fun b=>b<w.heap.size) X w7.heap.size (Value.slice vA vn vc) (pre.map Fc)∧(o=fun b=>(Value.slice vA vn vc).ownBlock=some b)∧Blk X g1 67 #[.int .i64 (P:Int),.slice (some ⟨b1,off1,none⟩) N cap,.slice (some ⟨gr,0,none⟩) rs.length rc,.slice (some ⟨gl,lo2,none⟩) L.length lc]∧Below w.heap.size w X∧w7.heap.size≤X.heap.size) [] (fun _=>False) w7:=⟨none,0,0,b3,RowG.nil _ _ _ _ _ _,by funext b;simp [Value.ownBlock],b1_,hw7B,Nat.le_refl _⟩
 clear b1_ b3 hgg1 hgg2 hgl7 hs7 l3
 gi_wp2_with fail
 refine wpIn_rangeT rfl (by omega) (gf:=gf) (lb:=lb) rfl trivial eg (hgo _ (by omega)) (fun h h'=>h.trans h') (fun X l' ob hl' hlX _=>Kp2.putFar X (by have:=HO.out;omega) (by have:=HO.out;omega) hlX ob) (Below.refl _ _) (fun _=>rfl)
  (fun pre o X=>∃ (vA:Option Addr) (vn vc:Nat),Blk X g3 22 #[.slice vA vn vc]∧RowC (fun b=>b<w.heap.size) X w7.heap.size (Value.slice vA vn vc) (pre.map Fc)∧(o=fun b=>(Value.slice vA vn vc).ownBlock=some b)∧Blk X g1 67 #[.int .i64 (P:Int),.slice (some ⟨b1,off1,none⟩) N cap,.slice (some ⟨gr,0,none⟩) rs.length rc,.slice (some ⟨gl,lo2,none⟩) L.length lc]∧Below w.heap.size w X∧w7.heap.size≤X.heap.size) (fun _ _ _ _=>False) ?hI (fun c s o X Y row hs _ _=>hs) (fun _=>False) (fun b e=>e.elim) hI0 (fun pre x o a' X=>a'=({ tmps:=#[.agg #[.int .i64 (P:Int),.slice (some ⟨b1,off1,none⟩) N cap,.slice (some ⟨gr,0,none⟩) rs.length rc,.slice (some ⟨gl,lo2,none⟩) L.length lc],.pointer (some ⟨g1,0,none⟩),.int .i64 0,.pointer (some ⟨g3,0,none⟩),.int .i64 x,undef,undef,.agg #[.int .i64 (P:Int),.slice (some ⟨b1,off1,none⟩) N cap,.slice (some ⟨gr,0,none⟩) rs.length rc,.slice (some ⟨gl,lo2,none⟩) L.length lc],.func (.func gf) #[] lb,.int .i64 x,undef,undef,undef,undef,undef,undef,undef,undef,undef,undef,undef,undef,undef,undef,undef,undef,undef,undef,undef,undef,undef,undef,undef,undef,undef,undef,undef],defers:=[] }:Act)∧OkK (P:Int) L pre x) ?hAx ?assign ?row1 (fun c pre o X h=>h.elim) ?body ?done (fun D c pre o X _ _ _ h=>h.elim)
 case assign =>
  intro l' pre x o X K hsz ho hI hok hK
  gi_wp2
  exact hK _ _ (T.SinceO.refl _ _ _) (Kp2.refl _ _ _) hI ⟨rfl,hok⟩
 case hAx=>exact fun _ _ _ _ _ _ _ _ _ _ _ h=>h
 case row1 =>
  rintro pre o X ⟨vA,vn,vc,b3,hrow,rfl,_⟩ b hb
  exact T.RowG.ownCells hrow hb
 case hI =>
  rintro s o X Y row ⟨vA,vn,vc,b3,hrow,rfl,b1_,hbX,hsX⟩ hgr hr
  have hoo:=HO.out
  have hne:∀ g',g'<w7.heap.size→some g'≠row:=fun g' hg' e=>by have:=(hr g' e.symm).1;omega
  refine ⟨vA,vn,vc,b3.grown hgr (hne _ (by omega)),hrow.kept hgr ?_ (fun b hb=>hne b (by omega)),rfl,b1_.grown hgr (hne _ (by omega)),below_grown hbX hgr hbX.size (fun r e=>by have:=(hr r e).1;omega),Nat.le_trans hsX hgr.size⟩
  cases hrw:row with
  | none=>exact (Option.eq_none_or_eq_some (Value.slice vA vn vc).ownBlock).imp id (fun ⟨x,hx⟩=>by rw [hx];simp)
  | some r=>exact .inr (fun e=>(hr r hrw).2 e)
 case body =>
  rintro l' pre x o a' X hsz ⟨vA,vn,vc,b3,hrow,rfl,b1_,hbX,hsX⟩ ⟨rfl,⟨⟨x0,x1⟩,hxL⟩,hpx⟩ hln
  have hoo:=HO.out
  obtain ⟨j,rfl⟩:∃ j:Nat,x=(j:Int):=⟨x.toNat,by omega⟩
  obtain ⟨u,hcu,hMu⟩:=HCOL.out j (by omega)
  obtain ⟨kA,kc,eu,_,_⟩:=id hMu
  obtain ⟨kn,hkn⟩:∃ z,(css[j]?.getD []).length=z:=⟨_,rfl⟩
  rw [hkn] at eu
  subst eu
  have HLEN:Hid ((pre.map Fc).length≤100000):=by unfold Hid;rw [List.length_map];omega
  have hcX:=(hbX.cell (p:=⟨b1,off1+j,none⟩) HNN.out.2.2.1).trans hcu
  have i1:(0:Int)≤(j:Int):=by omega
  have i2:(j:Int)<(N:Int):=by have:=HNN.out.1;omega
  have hownX:∀ r,(Value.slice vA vn vc).ownBlock=some r→w7.heap.size≤r∧r<X.heap.size:=fun r e=>⟨RowG.own_le hrow r e,by
   obtain ⟨cs,t,fr,hcs⟩:=T.RowG.ownCells hrow e
   exact (Array.getElem?_eq_some_iff.1 hcs).1⟩
  have hHH:=HO.out
  have HSZ:Hid (w7.heap.size≤X.heap.size):=hsX
  have HRW:Hid (∀ wa:World,Below X.heap.size X wa→RowC (fun b=>b<w.heap.size) wa w7.heap.size (Value.slice vA vn vc) (pre.map Fc)∧manyR.R (fun b=>b<wa.heap.size∧some b≠(Value.slice vA vn vc).ownBlock∧b<w.heap.size) wa (.slice kA kn kc) (css[j]?.getD [])):=fun wa hXa=>⟨RowG.below hrow hXa,by
   have h:=hMu.below (below_in hbX hXa)
   exact manyR.imp h fun b hb=>by
    have hb2:b<w.heap.size:=hb
    refine ⟨by have:=(below_in hbX hXa).size;omega,fun e=>?_,hb2⟩
    have:=(hownX b e.symm).1
    have:=HO.out
    omega⟩
  have HFIN:Hid (∀ (wa wb:World) (v':Value),Below X.heap.size X wa→RowC (fun b=>b<w.heap.size) wb w7.heap.size v' ((pre.map Fc) ++ [(css[j]?.getD [])])→wa.grownBy wb (Value.slice vA vn vc).ownBlock→(v'.ownBlock=(Value.slice vA vn vc).ownBlock∨v'.ownBlock=some wa.heap.size)→Blk wb g3 22 #[.slice vA vn vc]→(∃ o',T.FreshO (fun b=>(Value.slice vA vn vc).ownBlock=some b) o' X∧T.SinceO w7.heap.size (fun b=>(Value.slice vA vn vc).ownBlock=some b) X (wb.setCell ⟨g3,0,none⟩ v')∧Kp2 g gl X (wb.setCell ⟨g3,0,none⟩ v')∧(fun pre o X=>∃ (vA:Option Addr) (vn vc:Nat),Blk X g3 22 #[.slice vA vn vc]∧RowC (fun b=>b<w.heap.size) X w7.heap.size (Value.slice vA vn vc) (pre.map Fc)∧(o=fun b=>(Value.slice vA vn vc).ownBlock=some b)∧Blk X g1 67 #[.int .i64 (P:Int),.slice (some ⟨b1,off1,none⟩) N cap,.slice (some ⟨gr,0,none⟩) rs.length rc,.slice (some ⟨gl,lo2,none⟩) L.length lc]∧Below w.heap.size w X∧w7.heap.size≤X.heap.size) (pre ++ [(j:Int)]) o' (wb.setCell ⟨g3,0,none⟩ v'))):=fun wa wb v' hXa hrow2 hgr hor bg=>by
   have hHH:=HO.out
   have hza:=hXa.size
   have hzb:=hgr.size
   have hbel:Below w.heap.size w (wb.setCell ⟨g3,0,none⟩ v'):=((below_in hbX hXa).grown hgr (by have:=hbX.size;omega) (fun r e=>by have:=(hownX r e).1;omega)).setCell (by show w.heap.size≤g3;omega) _
   have hrow3:RowC (fun b=>b<w.heap.size) (wb.setCell ⟨g3,0,none⟩ v') w7.heap.size v' ((pre.map Fc) ++ [(css[j]?.getD [])]):=T.RowG.farR hrow2 (fun e=>by have e2:w7.heap.size≤g3:=RowG.own_le hrow2 g3 e.symm;omega) (fun b hb e=>by have e:b=g3:=e;omega) _
   have hob:∀ b,w7.heap.size≤b→b<X.heap.size→¬ (Value.slice vA vn vc).ownBlock=some b→(wb.setCell ⟨g3,0,none⟩ v').heap[b]?=X.heap[b]?:=fun b h1 h2 h3=>(Below.heap_setCell wb _ _ b (by show b≠g3;omega)).trans ((hgr.block b (by omega) (fun e=>h3 e.symm)).trans (hXa.block b h2))
   have hlo:∀ b,b<w7.heap.size→b≠g3→(wb.setCell ⟨g3,0,none⟩ v').heap[b]?=X.heap[b]?:=fun b h1 h2=>(Below.heap_setCell wb _ _ b (by show b≠g3;omega)).trans ((hgr.block b (by omega) (fun e=>by have:=(hownX b e.symm).1;omega)).trans (hXa.block b (by omega)))
   obtain ⟨vA',vn',vc',rfl⟩:=T.RowG.formR hrow2
   have hsz9:X.heap.size≤(wb.setCell ⟨g3,0,none⟩ (Value.slice vA' vn' vc')).heap.size:=by simp only [World.size_setCell];omega
   refine ⟨fun b=>(Value.slice vA' vn' vc').ownBlock=some b,fun b hb=>?_,⟨hsz9,fun b h1 h2 h3=>hob b h1 h2 h3⟩,⟨hsz9,hlo g (by omega) (by omega),hlo gl (by omega) (by omega)⟩,vA',vn',vc',bg.set_ 0 _,?_,rfl,(hlo g1 (by omega) (by omega)).trans b1_,hbel,by omega⟩
   · rcases hor with h3 | h3
     · exact .inl (h3▸hb)
     · rw [h3] at hb;injection hb with hb;exact .inr (by omega)
   · rw [List.map_append,List.map_cons,List.map_nil,HFC.out]
     exact hrow3
  have HSG:Hid (∀ wa wb:World,Below X.heap.size X wa→wa.grownBy wb (Value.slice vA vn vc).ownBlock→(fun U:World=>U.cell? ⟨g3,0,none⟩=some (.slice vA vn vc)∧U.cell? ⟨g1,1,none⟩=some (.slice (some ⟨b1,off1,none⟩) N cap)∧U.cell? ⟨b1,off1+j,none⟩=some (.slice kA kn kc)) wb∧Blk wb g3 22 #[.slice vA vn vc]):=fun wa wb hXa hgr=>by
   have hHH:=HO.out
   have e3:=(b3.below hXa b3.lt).grown hgr (fun e=>by have:=(hownX _ e.symm).1;omega)
   have e1:=(b1_.below hXa b1_.lt).grown hgr (fun e=>by have:=(hownX _ e.symm).1;omega)
   exact ⟨⟨e3.one,e1.cell 1,(World.cell?_of_block (hgr.block b1 (by have:=HNN.out.2.2.1;have:=(below_in hbX hXa).size;omega) (fun e=>by have:=(hownX _ e.symm).1;have:=HNN.out.2.2.1;omega))).trans ((hXa.cell (p:=⟨b1,off1+j,none⟩) (by have:=HNN.out.2.2.1;have:=hbX.size;show b1<X.heap.size;omega)).trans hcX)⟩,e3⟩
  have HSS:Hid (∀ V,Below X.heap.size X V→(fun U:World=>U.cell? ⟨g3,0,none⟩=some (.slice vA vn vc)∧U.cell? ⟨g1,1,none⟩=some (.slice (some ⟨b1,off1,none⟩) N cap)∧U.cell? ⟨b1,off1+j,none⟩=some (.slice kA kn kc)) V):=fun V hV=>⟨(b3.below hV b3.lt).one,(b1_.below hV b1_.lt).cell 1,(hV.cell (p:=⟨b1,off1+j,none⟩) (by have:=HNN.out.2.2.1;have:=hbX.size;show b1<X.heap.size;omega)).trans hcX⟩
  have hBx:=Below.refl X.heap.size X
  clear hoo hHH hrow hMu hcu hcX b3 b1_ hbX hsX hownX x0 x1 hxL hpx
  gi_wp2_with fail
  have hd:Below X.heap.size X X.drew:=(Below.refl _ _).drew
  replace hBx:=below_in hBx hd
  clear hd
  have hS:(fun U:World=>U.cell? ⟨g3,0,none⟩=some (.slice vA vn vc)∧U.cell? ⟨g1,1,none⟩=some (.slice (some ⟨b1,off1,none⟩) N cap)∧U.cell? ⟨b1,off1+j,none⟩=some (.slice kA kn kc)) X.drew:=HSS.out _ hBx
  refine wpIn_mono (region_HG (Q:=NoPanic _) (S:=(fun U:World=>U.cell? ⟨g3,0,none⟩=some (.slice vA vn vc)∧U.cell? ⟨g1,1,none⟩=some (.slice (some ⟨b1,off1,none⟩) N cap)∧U.cell? ⟨b1,off1+j,none⟩=some (.slice kA kn kc))) (m:=8) (by kernel_rfl) ?_) NoPanic.imp
  refine anyHG_take (i:=0) (d:=10) (v:=.slice vA vn vc) (by kernel_rfl) rfl (by kernel_rfl) (by kernel_rfl) (by kernel_rfl) rfl (by kernel_rfl) (fun _ _ _ h=>h) ⟨Or.inl ⟨by rfl,fun w hS=>by obtain ⟨h0,h1,h2⟩:=hS;go_simp⟩,fun _=>rfl⟩ hS ?_
  simp only [ud9]
  refine anyHG_take (i:=1) (d:=11) (v:=.pointer (some ⟨g1,1,none⟩)) (by kernel_rfl) rfl (by kernel_rfl) (by kernel_rfl) (by kernel_rfl) rfl (by kernel_rfl) (fun _ _ _ h=>h) ⟨Or.inl ⟨by rfl,fun w hS=>by obtain ⟨h0,h1,h2⟩:=hS;go_simp⟩,fun _=>rfl⟩ hS ?_
  simp only [ud9]
  refine anyHG_take (i:=2) (d:=12) (v:=.slice (some ⟨b1,off1,none⟩) N cap) (by kernel_rfl) rfl (by kernel_rfl) (by kernel_rfl) (by kernel_rfl) rfl (by kernel_rfl) (fun _ _ _ h=>h) ⟨Or.inl ⟨by rfl,fun w hS=>by obtain ⟨h0,h1,h2⟩:=hS;go_simp⟩,fun _=>rfl⟩ hS ?_
  simp only [ud9]
  refine anyHG_take (i:=3) (d:=13) (v:=.int .i64 (j:Int)) (by kernel_rfl) rfl (by kernel_rfl) (by kernel_rfl) (by kernel_rfl) rfl (by kernel_rfl) (fun _ _ _ h=>h) ⟨Or.inl ⟨by rfl,fun w hS=>by obtain ⟨h0,h1,h2⟩:=hS;go_simp⟩,fun _=>rfl⟩ hS ?_
  simp only [ud9]
  refine anyHG_take (i:=4) (d:=14) (v:=.pointer (some ⟨b1,off1+j,none⟩)) (by kernel_rfl) rfl (by kernel_rfl) (by kernel_rfl) (by kernel_rfl) rfl (by kernel_rfl) (fun _ _ _ h=>h) ⟨Or.inl ⟨by rfl,fun w hS=>by obtain ⟨h0,h1,h2⟩:=hS;go_simp⟩,fun _=>rfl⟩ hS ?_
  simp only [ud9]
  refine anyHG_take (i:=5) (d:=15) (v:=.slice kA kn kc) (by kernel_rfl) rfl (by kernel_rfl) (by kernel_rfl) (by kernel_rfl) rfl (by kernel_rfl) (fun _ _ _ h=>h) ⟨Or.inl ⟨by rfl,fun w hS=>by obtain ⟨h0,h1,h2⟩:=hS;go_simp⟩,fun _=>rfl⟩ hS ?_
  simp only [ud9]
  refine anyHG_one (i:=6) (by kernel_rfl) rfl (by kernel_rfl) (by rfl) ?_
  have hBa:Below X.drew.heap.size X.drew (X.drew.alloc (.cells #[.slice kA kn kc] 41)):=below_one X.drew _
  have bE:Blk (X.drew.alloc (.cells #[.slice kA kn kc] 41)) X.drew.heap.size 41 #[.slice kA kn kc]:=Blk.new X.drew _ _
  obtain ⟨wa,hwa⟩:∃ wa,(X.drew.alloc (.cells #[.slice kA kn kc] 41))=wa:=⟨_,rfl⟩
  obtain ⟨ge,hge⟩:∃ x,X.drew.heap.size=x:=⟨_,rfl⟩
  rw [hwa] at hBa bE
  rw [hge] at bE
  have hXa:=below_in hBx hBa
  clear hS
  have hS:(fun U:World=>U.cell? ⟨g3,0,none⟩=some (.slice vA vn vc)∧U.cell? ⟨g1,1,none⟩=some (.slice (some ⟨b1,off1,none⟩) N cap)∧U.cell? ⟨b1,off1+j,none⟩=some (.slice kA kn kc)) wa:=HSS.out _ hXa
  gi_wp2
  (try rw [hge]);(try rw [hwa])
  try (refine ⟨.inr hS,?_⟩)
  clear hwa hge
  refine anyHG_one (i:=7) (by kernel_rfl) rfl (by kernel_rfl) (by rfl) ?_
  have hra:=HRW.out wa hXa
  refine opIn_pushC (T:=22) (v:=.slice vA vn vc) wa _ _ rfl Tryz.underlying22 _ rfl hra.1 ge _ _ _ rfl bE hra.2 HLEN.out (Nat.le_trans HSZ.out hXa.size) ?_
  intro v' wb hrow hgr hor
  obtain ⟨vA2,vn2,vc2,rfl⟩:=T.RowG.formR hrow
  clear hS
  have hSb:=HSG.out wa wb hXa hgr
  have hS:(fun U:World=>U.cell? ⟨g3,0,none⟩=some (.slice vA vn vc)∧U.cell? ⟨g1,1,none⟩=some (.slice (some ⟨b1,off1,none⟩) N cap)∧U.cell? ⟨b1,off1+j,none⟩=some (.slice kA kn kc)) wb:=hSb.1
  gi_wp2_with fail
  try (refine ⟨.inr hS,?_⟩)
  refine anyHG_one (i:=8) (by kernel_rfl) rfl (by kernel_rfl) (by rfl) ?_
  obtain ⟨h0,h1,h2⟩:=hS
  have f0:=hSb.2.frozen 0
  gi_wp2
  try (refine ⟨.inl rfl,?_⟩)
  refine anyHG_done (by kernel_rfl) ?_ _
  refine NoPanic.normal ?_
  exact HFIN.out wa wb (.slice vA2 vn2 vc2) hXa hrow hgr hor hSb.2
 case done =>
  rintro D xs o X hD _ rfl ⟨vA,vn,vc,b3,hrow,rfl,b1_,hbX,hsX⟩ hKD hneD
  obtain ⟨KL,hKL⟩:∃ z,(keptL (P:Int) L).map Fc=z:=⟨_,rfl⟩
  rw [hKL] at hrow HTH
  have HDD:=Lib.hid hD
  have z2:=b1_.cell 2
  simp only [gz9] at z2
  have HST:=Lib.hid (show (∃ (vA:Option Addr) (vn vc:Nat),Blk X g3 22 #[.slice vA vn vc]∧RowC (fun b=>b<w.heap.size) X w7.heap.size (Value.slice vA vn vc) (KL ++ (rs.take 0).map Fr)∧Blk X g1 67 #[.int .i64 (P:Int),.slice (some ⟨b1,off1,none⟩) N cap,.slice (some ⟨gr,0,none⟩) rs.length rc,.slice (some ⟨gl,lo2,none⟩) L.length lc]∧Below w.heap.size w X∧w7.heap.size≤X.heap.size∧X.heap[D]?=some (.deferred (some []))∧(Value.slice vA vn vc).ownBlock≠some D) from ⟨vA,vn,vc,b3,by rw [List.take_zero,List.map_nil,List.append_nil];exact hrow,b1_,hbX,hsX,hKD,hneD⟩)
  clear b3 hrow b1_ hbX hsX hKD hneD hKL
  gi_wp2_with fail
  gi_loopw [21] (fun i X=>∃ k:Nat,k≤rs.length∧i = .int .i64 k∧(∃ (vA:Option Addr) (vn vc:Nat),Blk X g3 22 #[.slice vA vn vc]∧RowC (fun b=>b<w.heap.size) X w7.heap.size (Value.slice vA vn vc) (KL ++ (rs.take k).map Fr)∧Blk X g1 67 #[.int .i64 (P:Int),.slice (some ⟨b1,off1,none⟩) N cap,.slice (some ⟨gr,0,none⟩) rs.length rc,.slice (some ⟨gl,lo2,none⟩) L.length lc]∧Below w.heap.size w X∧w7.heap.size≤X.heap.size∧X.heap[D]?=some (.deferred (some []))∧(Value.slice vA vn vc).ownBlock≠some D)) (fun i _=>rs.length - (intOf i).toNat)
  case atStart=>exact ⟨0,Nat.zero_le _,rfl,HST.out⟩
  case round =>
   obtain ⟨k,hk,rfl,vA,vn,vc,b3,hrow,b1_,hbX,hsX,hDX,hDo⟩:=hrel
   by_cases hlt:k<rs.length
   · have hdec:decide ((k:Int)<(rs.length:Int))=true:=by simp;omega
     have i1:(0:Int)≤(k:Int):=by omega
     have i2:(k:Int)<(rs.length:Int):=by omega
     have HT:Hid (rs.take (k+1)=rs.take k ++ [rs[k]]):=List.take_succ_eq_append_getElem hlt
     have hcr:=HRC.out _ hbX k hlt
     rw [show rs[k]?.getD 0=rs[k] by rw [List.getElem?_eq_getElem hlt];rfl] at hcr
     have hro:=HRO.out k hlt
     obtain ⟨r,hr⟩:∃ r,rs[k]=r:=⟨_,rfl⟩
     rw [hr] at HT hcr hro
     have hmm:(r - 2).toNat≤2:=by unfold IsRole at hro;omega
     obtain ⟨u,hcu,hMu⟩:=HCOL.out (P+(r - 2).toNat) (by omega)
     rw [←HFR.out] at hMu
     obtain ⟨kA,kc,eu,_,_⟩:=id hMu
     obtain ⟨kn,hkn⟩:∃ z,(Fr r).length=z:=⟨_,rfl⟩
     rw [hkn] at eu
     subst eu
     have HCO:=Lib.hid (fun V (hV:Below w.heap.size w V)=>HCOL2.out r hro (.slice kA kn kc) V hV hcu)
     have HLEN:Hid ((KL ++ (rs.take k).map Fr).length≤100000):=by
      unfold Hid
      have h:=HTL.out.1
      rw [HTH.out,List.length_append,List.length_map] at h
      rw [List.length_append,List.length_map,List.length_take]
      omega
     obtain ⟨wX,hwX⟩:∃ z,z=wr:=⟨_,rfl⟩
     subst hwX
     have hownX:∀ r,(Value.slice vA vn vc).ownBlock=some r→w7.heap.size≤r∧r<wX.heap.size:=fun r e=>⟨RowG.own_le hrow r e,by
      obtain ⟨cs,t,fr,hcs⟩:=T.RowG.ownCells hrow e
      exact (Array.getElem?_eq_some_iff.1 hcs).1⟩
     have hHH:=HO.out
     have HSZ:Hid (w7.heap.size≤wX.heap.size):=hsX
     have HRW:Hid (∀ wa:World,Below wX.heap.size wX wa→RowC (fun b=>b<w.heap.size) wa w7.heap.size (Value.slice vA vn vc) (KL ++ (rs.take k).map Fr)∧manyR.R (fun b=>b<wa.heap.size∧some b≠(Value.slice vA vn vc).ownBlock∧b<w.heap.size) wa (.slice kA kn kc) (Fr r)):=fun wa hXa=>⟨RowG.below hrow hXa,by
      have h:=hMu.below (below_in hbX hXa)
      exact manyR.imp h fun b hb=>by
       have hb2:b<w.heap.size:=hb
       refine ⟨by have:=(below_in hbX hXa).size;omega,fun e=>?_,hb2⟩
       have:=(hownX b e.symm).1
       have:=HO.out
       omega⟩
     have HFIN:Hid (∀ (wa wb:World) (v':Value),Below wX.heap.size wX wa→RowC (fun b=>b<w.heap.size) wb w7.heap.size v' ((KL ++ (rs.take k).map Fr) ++ [(Fr r)])→wa.grownBy wb (Value.slice vA vn vc).ownBlock→(v'.ownBlock=(Value.slice vA vn vc).ownBlock∨v'.ownBlock=some wa.heap.size)→Blk wb g3 22 #[.slice vA vn vc]→(∃ (vA':Option Addr) (vn' vc':Nat),Blk (wb.setCell ⟨g3,0,none⟩ v') g3 22 #[.slice vA' vn' vc']∧RowC (fun b=>b<w.heap.size) (wb.setCell ⟨g3,0,none⟩ v') w7.heap.size (Value.slice vA' vn' vc') (KL ++ (rs.take (k+1)).map Fr)∧Blk (wb.setCell ⟨g3,0,none⟩ v') g1 67 #[.int .i64 (P:Int),.slice (some ⟨b1,off1,none⟩) N cap,.slice (some ⟨gr,0,none⟩) rs.length rc,.slice (some ⟨gl,lo2,none⟩) L.length lc]∧Below w.heap.size w (wb.setCell ⟨g3,0,none⟩ v')∧w7.heap.size≤(wb.setCell ⟨g3,0,none⟩ v').heap.size∧(wb.setCell ⟨g3,0,none⟩ v').heap[D]?=some (.deferred (some []))∧(Value.slice vA' vn' vc').ownBlock≠some D)):=fun wa wb v' hXa hrow2 hgr hor bg=>by
      have hHH:=HO.out
      have hza:=hXa.size
      have hzb:=hgr.size
      have hbel:Below w.heap.size w (wb.setCell ⟨g3,0,none⟩ v'):=((below_in hbX hXa).grown hgr (by have:=hbX.size;omega) (fun r e=>by have:=(hownX r e).1;omega)).setCell (by show w.heap.size≤g3;omega) _
      have hrow3:RowC (fun b=>b<w.heap.size) (wb.setCell ⟨g3,0,none⟩ v') w7.heap.size v' ((KL ++ (rs.take k).map Fr) ++ [(Fr r)]):=T.RowG.farR hrow2 (fun e=>by have e2:w7.heap.size≤g3:=RowG.own_le hrow2 g3 e.symm;omega) (fun b hb e=>by have e:b=g3:=e;omega) _
      have hob:∀ b,w7.heap.size≤b→b<wX.heap.size→¬ (Value.slice vA vn vc).ownBlock=some b→(wb.setCell ⟨g3,0,none⟩ v').heap[b]?=wX.heap[b]?:=fun b h1 h2 h3=>(Below.heap_setCell wb _ _ b (by show b≠g3;omega)).trans ((hgr.block b (by omega) (fun e=>h3 e.symm)).trans (hXa.block b h2))
      have hlo:∀ b,b<w7.heap.size→b≠g3→(wb.setCell ⟨g3,0,none⟩ v').heap[b]?=wX.heap[b]?:=fun b h1 h2=>(Below.heap_setCell wb _ _ b (by show b≠g3;omega)).trans ((hgr.block b (by omega) (fun e=>by have:=(hownX b e.symm).1;omega)).trans (hXa.block b (by omega)))
      obtain ⟨vA',vn',vc',rfl⟩:=T.RowG.formR hrow2
      refine ⟨vA',vn',vc',bg.set_ 0 _,?_,(hlo g1 (by omega) (by omega)).trans b1_,hbel,by simp only [World.size_setCell];omega,(hob D HDD.out (Array.getElem?_eq_some_iff.1 hDX).1 hDo).trans hDX,fun e=>?_⟩
      · rw [HT.out,List.map_append,List.map_cons,List.map_nil,←List.append_assoc]
        exact hrow3
      · rcases hor with h3 | h3
        · exact hDo (h3▸e)
        · rw [h3] at e;injection e with e;have:=(Array.getElem?_eq_some_iff.1 hDX).1;omega
     have HSG:Hid (∀ wa wb:World,Below wX.heap.size wX wa→wa.grownBy wb (Value.slice vA vn vc).ownBlock→(fun U:World=>U.cell? ⟨g3,0,none⟩=some (.slice vA vn vc)∧U.cell? ⟨g1,0,none⟩=some (.int .i64 (P:Int))∧U.cell? ⟨g1,1,none⟩=some (.slice (some ⟨b1,off1,none⟩) N cap)∧U.cell? ⟨g1,2,none⟩=some (.slice (some ⟨gr,0,none⟩) rs.length rc)∧U.cell? ⟨g1,3,none⟩=some (.slice (some ⟨gl,lo2,none⟩) L.length lc)) wb∧Blk wb g3 22 #[.slice vA vn vc]):=fun wa wb hXa hgr=>by
      have hHH:=HO.out
      have e3:=(b3.below hXa b3.lt).grown hgr (fun e=>by have:=(hownX _ e.symm).1;omega)
      have e1:=(b1_.below hXa b1_.lt).grown hgr (fun e=>by have:=(hownX _ e.symm).1;omega)
      exact ⟨⟨e3.one,e1.cell 0,e1.cell 1,e1.cell 2,e1.cell 3⟩,e3⟩
     have HSS:Hid (∀ V,Below wX.heap.size wX V→(fun U:World=>U.cell? ⟨g3,0,none⟩=some (.slice vA vn vc)∧U.cell? ⟨g1,0,none⟩=some (.int .i64 (P:Int))∧U.cell? ⟨g1,1,none⟩=some (.slice (some ⟨b1,off1,none⟩) N cap)∧U.cell? ⟨g1,2,none⟩=some (.slice (some ⟨gr,0,none⟩) rs.length rc)∧U.cell? ⟨g1,3,none⟩=some (.slice (some ⟨gl,lo2,none⟩) L.length lc)) V):=fun V hV=>⟨(b3.below hV b3.lt).one,(b1_.below hV b1_.lt).cell 0,(b1_.below hV b1_.lt).cell 1,(b1_.below hV b1_.lt).cell 2,(b1_.below hV b1_.lt).cell 3⟩
     have hBx:=Below.refl wX.heap.size wX
     clear hHH hrow hMu hcu b3 b1_ hownX hr hro hmm hsX hDX hDo
     gi_wp2_with fail
     have hd:Below wX.heap.size wX wX.drew:=(Below.refl _ _).drew
     replace hBx:=below_in hBx hd
     clear hd
     have hS:=HSS.out _ hBx
     refine wpIn_mono (region_HG (Q:=NoPanic _) (S:=(fun U:World=>U.cell? ⟨g3,0,none⟩=some (.slice vA vn vc)∧U.cell? ⟨g1,0,none⟩=some (.int .i64 (P:Int))∧U.cell? ⟨g1,1,none⟩=some (.slice (some ⟨b1,off1,none⟩) N cap)∧U.cell? ⟨g1,2,none⟩=some (.slice (some ⟨gr,0,none⟩) rs.length rc)∧U.cell? ⟨g1,3,none⟩=some (.slice (some ⟨gl,lo2,none⟩) L.length lc))) (m:=6) (by kernel_rfl) ?_) NoPanic.imp
     refine anyHG_take (i:=0) (d:=25) (v:=.slice vA vn vc) (by kernel_rfl) rfl (by kernel_rfl) (by kernel_rfl) (by kernel_rfl) rfl (by kernel_rfl) (fun _ _ _ h=>h) ⟨Or.inl ⟨by rfl,fun w hS=>by obtain ⟨h0,h1,h2,h3,h4⟩:=hS;go_simp⟩,fun _=>rfl⟩ hS ?_
     simp only [ud9]
     refine anyHG_take (i:=1) (d:=26) (v:=.agg #[.int .i64 (P:Int),.slice (some ⟨b1,off1,none⟩) N cap,.slice (some ⟨gr,0,none⟩) rs.length rc,.slice (some ⟨gl,lo2,none⟩) L.length lc]) (by kernel_rfl) rfl (by kernel_rfl) (by kernel_rfl) (by kernel_rfl) rfl (by kernel_rfl) (fun _ _ _ h=>h) ⟨Or.inl ⟨by rfl,fun w hS=>by obtain ⟨h0,h1,h2,h3,h4⟩:=hS;go_simp⟩,fun _=>rfl⟩ hS ?_
     simp only [ud9]
     refine anyHG_take (i:=2) (d:=27) (v:=.int .i64 r) (by kernel_rfl) rfl (by kernel_rfl) (by kernel_rfl) (by kernel_rfl) rfl (by kernel_rfl) (fun _ _ _ h=>h) ⟨Or.inl ⟨by rfl,fun w hS=>by obtain ⟨h0,h1,h2,h3,h4⟩:=hS;go_simp⟩,fun _=>rfl⟩ hS ?_
     simp only [ud9]
     refine anyHG_one (i:=3) (by kernel_rfl) rfl (by kernel_rfl) (by rfl) ?_
     gi_wp2_with fail
     refine ⟨trivial,(callsIn_wide.2 (HCO.out _ (below_in hbX hBx))).mono ?_⟩
     rintro e v1 ⟨rfl,hB⟩
     replace hBx:=below_in hBx hB
     clear hS
     have hS:(fun U:World=>U.cell? ⟨g3,0,none⟩=some (.slice vA vn vc)∧U.cell? ⟨g1,0,none⟩=some (.int .i64 (P:Int))∧U.cell? ⟨g1,1,none⟩=some (.slice (some ⟨b1,off1,none⟩) N cap)∧U.cell? ⟨g1,2,none⟩=some (.slice (some ⟨gr,0,none⟩) rs.length rc)∧U.cell? ⟨g1,3,none⟩=some (.slice (some ⟨gl,lo2,none⟩) L.length lc)) v1:=HSS.out _ hBx
     clear hB
     gi_wp2
     try (refine ⟨.inr hS,?_⟩)
     refine anyHG_one (i:=4) (by kernel_rfl) rfl (by kernel_rfl) (by rfl) ?_
     have hBa:Below v1.heap.size v1 (v1.alloc (.cells #[.slice kA kn kc] 41)):=below_one v1 _
     have bE:Blk (v1.alloc (.cells #[.slice kA kn kc] 41)) v1.heap.size 41 #[.slice kA kn kc]:=Blk.new v1 _ _
     obtain ⟨wa,hwa⟩:∃ wa,(v1.alloc (.cells #[.slice kA kn kc] 41))=wa:=⟨_,rfl⟩
     obtain ⟨ge,hge⟩:∃ x,v1.heap.size=x:=⟨_,rfl⟩
     rw [hwa] at hBa bE
     rw [hge] at bE
     have hXa:=below_in hBx hBa
     clear hS
     have hS:(fun U:World=>U.cell? ⟨g3,0,none⟩=some (.slice vA vn vc)∧U.cell? ⟨g1,0,none⟩=some (.int .i64 (P:Int))∧U.cell? ⟨g1,1,none⟩=some (.slice (some ⟨b1,off1,none⟩) N cap)∧U.cell? ⟨g1,2,none⟩=some (.slice (some ⟨gr,0,none⟩) rs.length rc)∧U.cell? ⟨g1,3,none⟩=some (.slice (some ⟨gl,lo2,none⟩) L.length lc)) wa:=HSS.out _ hXa
     gi_wp2
     (try rw [hge]);(try rw [hwa])
     try (refine ⟨.inr hS,?_⟩)
     clear hwa hge
     refine anyHG_one (i:=5) (by kernel_rfl) rfl (by kernel_rfl) (by rfl) ?_
     have hra:=HRW.out wa hXa
     refine opIn_pushC (T:=22) (v:=.slice vA vn vc) wa _ _ rfl Tryz.underlying22 _ rfl hra.1 ge _ _ _ rfl bE hra.2 HLEN.out (Nat.le_trans HSZ.out hXa.size) ?_
     intro v' wb hrow hgr hor
     obtain ⟨vA2,vn2,vc2,rfl⟩:=T.RowG.formR hrow
     clear hS
     have hSb:=HSG.out wa wb hXa hgr
     have hS:(fun U:World=>U.cell? ⟨g3,0,none⟩=some (.slice vA vn vc)∧U.cell? ⟨g1,0,none⟩=some (.int .i64 (P:Int))∧U.cell? ⟨g1,1,none⟩=some (.slice (some ⟨b1,off1,none⟩) N cap)∧U.cell? ⟨g1,2,none⟩=some (.slice (some ⟨gr,0,none⟩) rs.length rc)∧U.cell? ⟨g1,3,none⟩=some (.slice (some ⟨gl,lo2,none⟩) L.length lc)) wb:=hSb.1
     gi_wp2_with fail
     try (refine ⟨.inr hS,?_⟩)
     refine anyHG_one (i:=6) (by kernel_rfl) rfl (by kernel_rfl) (by rfl) ?_
     obtain ⟨h0,h1,h2,h3,h4⟩:=hS
     have f0:=hSb.2.frozen 0
     gi_wp2
     try (refine ⟨.inl rfl,?_⟩)
     refine anyHG_done (by kernel_rfl) ?_ _
     refine NoPanic.normal ?_
     have hfin:=HFIN.out wa wb (.slice vA2 vn2 vc2) hXa hrow hgr hor hSb.2
     clear hSb hrow hgr hor bE HSS HSG HFIN hXa hBx
     gi_wp2_with fail
     go_roundw
     case rel=>exact ⟨k+1,by omega,by go_num,hfin⟩
     case measure=>simp [intOf];omega
   · obtain rfl:k=rs.length:=by omega
     have e1:decide ((rs.length:Int)<(rs.length:Int))=false:=by simp
     rw [List.take_length,←HTH.out] at hrow
     have hcv:=RowC.cols hrow
     have z0:=b1_.cell 0
     simp only [gz9] at z0
     have z3:=b3.one
     by_cases hR:RightD (P:Int) TH
     · have HR:=Lib.hid (HRY.out (Value.slice vA vn vc) _ hbX hcv hR)
       have HRT:=Lib.hid hR
       clear hrow hcv hR
       gi_wp2_with fail
       refine ⟨trivial,(callsIn_wide.2 HR.out).mono ?_⟩
       rintro e w9 ⟨rfl,hB9⟩
       have hD9:=(hB9.block D (Array.getElem?_eq_some_iff.1 hDX).1).trans hDX
       have hgr9:=grownBy_putObj' w9 D (.deferred none)
       have hBF:Below w.heap.size w (w9.putObj D (.deferred none)):=(below_in hbX hB9).grown hgr9 (below_in hbX hB9).size (fun r e=>by injection e with e;have:=HDD.out;have:=HO.out;omega)
       clear z0 z3
       gi_wp2_with fail
       refine ⟨by simp,.inl ⟨_,_,rfl,run_takeDeferred hD9,?_⟩⟩
       exact ⟨.int .i64 0,by simp [results,Tryz.results58,go_sem],0,rfl,fun _=>rfl,fun h=>absurd HRT.out h,hBF⟩
     · have HR:=Lib.hid (HRN.out (Value.slice vA vn vc) _ hbX hcv hR)
       have HRT:=Lib.hid hR
       clear hrow hcv hR
       gi_wp2_with fail
       refine ⟨trivial,(callsIn_wide.2 HR.out).mono ?_⟩
       rintro e w9 ⟨rfl,hB9⟩
       have hD9:=(hB9.block D (Array.getElem?_eq_some_iff.1 hDX).1).trans hDX
       have hgr9:=grownBy_putObj' w9 D (.deferred none)
       have hBF:Below w.heap.size w (w9.putObj D (.deferred none)):=(below_in hbX hB9).grown hgr9 (below_in hbX hB9).size (fun r e=>by injection e with e;have:=HDD.out;have:=HO.out;omega)
       clear z0 z3
       gi_wp2_with fail
       refine ⟨by simp,.inl ⟨_,_,rfl,run_takeDeferred hD9,?_⟩⟩
       exact ⟨.int .i64 2,by simp [results,Tryz.results58,go_sem],2,rfl,fun h=>absurd h HRT.out,fun _=>rfl,hBF⟩
end Go.Proofs.YtkllhjhkcipkoaaGreatDoor.Tr
