/- -/
import Derived.Test.YtkllhjhkcipkoaaGreatDoorTHG27
set_option linter.unusedVariables false
set_option linter.unusedSimpArgs false
set_option maxRecDepth 100000
set_option maxHeartbeats 4000000
namespace Go.Proofs.YtkllhjhkcipkoaaGreatDoor.Tr
open Go.RowKit Go.Shelf Go.Maps Go.Proofs.YtkllhjhkcipkoaaGreatDoor.C Go.Proofs.YtkllhjhkcipkoaaGreatDoor.E Go.Proofs.YtkllhjhkcipkoaaGreatDoor.T Go.Proofs.YtkllhjhkcipkoaaGreatDoor.Rg Go.Proofs.YtkllhjhkcipkoaaGreatDoor.Ch
attribute [local go_sem] Oper.semAt_some

theorem is13_any (r:Int) (w:World):Calls Tryz.prog 17 #[.int .i64 r] w fun e w'=>e = .returned (.bool (decide (IsRole r)))∧w=w':=by
 go_enter Tryz.func17,Tryz.ntmps17
 by_cases h1:2≤r
 · by_cases h2:r≤4
   · have e1:decide (2≤r)=true:=decide_eq_true h1
     have e2:decide (r≤4)=true:=decide_eq_true h2
     rw [decide_eq_true (show IsRole r from ⟨h1,h2⟩)]
     go_wp2
     go_ret
     exact ⟨rfl,rfl⟩
   · have e1:decide (2≤r)=true:=decide_eq_true h1
     have e2:decide (r≤4)=false:=decide_eq_false h2
     rw [decide_eq_false (show ¬ IsRole r from fun h=>h2 h.2)]
     go_wp2
     go_ret
     exact ⟨rfl,rfl⟩
 · have e1:decide (2≤r)=false:=decide_eq_false h1
   rw [decide_eq_false (show ¬ IsRole r from fun h=>h1 h.1)]
   go_wp2
   go_ret
   exact ⟨rfl,rfl⟩
def othL (p s:Int):Nat→List Int
 | 0=>[]
 | m+1=>if (m:Int)+2=s then othL p s m else othL p s m ++ [p+(m:Int)]
theorem othL_len (p s:Int):∀ m,(othL p s m).length≤m
 | 0=>Nat.le_refl _
 | m+1=>by
   have ih:=othL_len p s m
   unfold othL
   split
   · omega
   · rw [List.length_append];simp;omega
theorem others_any (p s:Int) (h1:0≤p) (h2:p≤1000) (w:World):Calls Tryz.prog 20 #[.int .i64 p,.int .i64 s] w fun e w'=>∃ v,e = .returned v∧OwnI w' w.heap.size v (othL p s 3)∧Below w.heap.size w w':=by
 go_enter Tryz.func20,Tryz.ntmps20
 go_wp2_with fail
 go_loopw [5,6] (fun v i wr=>∃ m:Nat,m≤3∧i = .int .i64 ((m:Int)+2)∧OwnI wr w.heap.size v (othL p s m)∧Below w.heap.size w wr) (fun _ i _=>5 - (intOf i).toNat)
 case atStart=>exact ⟨0,Nat.zero_le _,rfl,ownI_nil _ _,Below.refl _ _⟩
 case round =>
  obtain ⟨m,hm,rfl,hown,hB⟩:=hrel
  have hlen:=othL_len p s m
  by_cases hlt:m<3
  · have hdec:decide ((m:Int)+2≤4)=true:=by simp;omega
    have w1:IntKind.i64.wrap (p+((m:Int)+2))=p+((m:Int)+2):=IntWalk.i64_in _ (by omega)
    have w2:IntKind.i64.wrap (p+((m:Int)+2) - 2)=p+(m:Int):=by rw [IntWalk.i64_in _ (by omega)];omega
    have w3:IntKind.i64.wrap ((m:Int)+2+1)=(m:Int)+2+1:=IntWalk.i64_in _ (by omega)
    by_cases hs:(m:Int)+2=s
    · have e1:(((m:Int)+2) != s)=false:=by simp [hs]
      have HN:Hid (othL p s (m+1)=othL p s m):=by unfold Hid;rw [othL,if_pos hs]
      clear hs hlen
      go_wp2
      go_roundw
      case rel=>exact ⟨m+1,by omega,by go_num,by rw [HN.out];exact hown,hB⟩
      case measure=>simp [intOf];omega
    · have e1:(((m:Int)+2) != s)=true:=bne_iff_ne.2 hs
      have HN:Hid (othL p s (m+1)=othL p s m ++ [p+(m:Int)]):=by unfold Hid;rw [othL,if_neg hs]
      have HO:=Lib.hid (hown.grown_ (World.grownBy_alloc wr (.cells #[.int .i64 (p+(m:Int))] 3) none))
      have HU:=Lib.hid (Blk.one (Blk.new wr 3 #[.int .i64 (p+(m:Int))]))
      have HLN:=Lib.hid hlen
      clear hs hown hlen
      go_wp2_with (at_builtin;refine wpList_one _ rfl _ _ 30 3 (.int .i64 0) 8 rfl Tryz.underlying30 Tryz.infoInt rfl w.heap.size _ _ rfl _ HO.out ⟨wr.heap.size,0,none⟩ 1 _ rfl HU.out rfl (by have:=HLN.out;omega) (by omega) (by have:=hB.size;simp;omega) ?_;intro v2 w2 hown2 hgrow2 _)
      go_roundw
      case rel =>
       refine ⟨m+1,by omega,by go_num,?_,below_grown (hB.alloc hB.size _) hgrow2 (by have:=hB.size;simp;omega) (fun g e=>(World.ownsRow.lt HO.out g e).1)⟩
       unfold OwnI
       rw [HN.out,List.length_append,List.map_append]
       exact hown2
      case measure=>simp [intOf];omega
  · obtain rfl:m=3:=by omega
    go_wp2
    go_ret
    exact ⟨_,rfl,hown,hB⟩
theorem rise_pos {p:Int} {L:List Int}:∀ i,(∀ k,k≤i→RiseAt p L k)→0≤L[i]?.getD 0
 | 0,h=>by have h0:(-1:Int)<L[0]?.getD 0:=(h 0 (Nat.le_refl _)).1;omega
 | i+1,h=>by
   have ih:=rise_pos i (fun k hk=>h k (by omega))
   have h1:L[i]?.getD 0<L[i+1]?.getD 0:=(h (i+1) (Nat.le_refl _)).1
   omega
theorem rise13_any (p:Int) (b off cap:Nat) (L:List Int) (n:Nat) (hn:L.length=n) (hL:n≤1000) (w:World) (hb:b<w.heap.size) (hcell:∀ j,j<n→w.cell? ⟨b,off+j,none⟩=some (.int .i64 (L[j]?.getD 0))) :
 Calls Tryz.prog 23 #[.int .i64 p,.slice (some ⟨b,off,none⟩) n cap] w fun e w'=>(∃ r:Bool,e = .returned (.bool r)∧(RiseOk p L↔r=true))∧Below w.heap.size w w':=by
 have HC:=Lib.hid hcell
 have HN:=Lib.hid hn
 clear hcell hn
 go_enter Tryz.func23,Tryz.ntmps23
 go_wp2_with fail
 go_loopw [5] (fun i wr=>∃ k:Nat,k≤n∧i = .int .i64 (k:Int)∧(∀ j,j<k→RiseAt p L j)∧Below w.heap.size w wr) (fun i _=>n - (intOf i).toNat)
 case atStart=>exact ⟨0,Nat.zero_le _,rfl,fun j hj=>absurd hj (Nat.not_lt_zero _),Below.refl _ _⟩
 case round =>
  obtain ⟨k,hk,rfl,hok,hB⟩:=hrel
  by_cases hlt:k<n
  · have hdec:decide ((k:Int)<(n:Int))=true:=by simp;omega
    have i1:(0:Int)≤(k:Int):=by omega
    have i2:(k:Int)<(n:Int):=by omega
    have hck:=HC.out k hlt
    have w3:IntKind.i64.wrap ((k:Int)+1)=(k:Int)+1:=IntWalk.i64_in _ (by omega)
    have HOK:=Lib.hid hok
    clear hok
    have HB:=Lib.hid hb
    have hBd:=hB.drew
    have hkd:wr.drew.cell? ⟨b,off+k,none⟩ = _:=(hBd.cell (p:=⟨b,off+k,none⟩) hb).trans hck
    obtain ⟨x,hx⟩:∃ x,L[k]?.getD 0=x:=⟨_,rfl⟩
    have HXX:=Lib.hid hx
    rw [hx] at hkd
    clear hck hx hb
    by_cases h0:x<0
    · have d1:decide (x<0)=true:=decide_eq_true h0
      have HNO:Hid (¬ RiseAt p L k):=fun h=>by
       have h1:=rise_pos k (fun j hj=>by
        rcases Nat.lt_or_ge j k with h2 | h2
        · exact HOK.out j h2
        · obtain rfl:j=k:=by omega
          exact h)
       rw [HXX.out] at h1
       omega
      clear h0
      go_wp2_with fail
      have hS:(fun U:World=>U.cell? ⟨b,off+k,none⟩=some (.int .i64 x)) wr.drew:=hkd
      refine (wpIn_wide (n:=12)).1 (wpIn_mono (region_HF (Q:=NoPanic _) (S:=(fun U:World=>U.cell? ⟨b,off+k,none⟩=some (.int .i64 x))) (by kernel_rfl) ?_) NoPanic.imp)
      refine anyHF_take (i:=0) (d:=12) (v:=.slice (some ⟨b,off,none⟩) n cap) (by kernel_rfl) rfl (by kernel_rfl) (by kernel_rfl) (by kernel_rfl) rfl (fun _ _ _ h=>h) ⟨Or.inl ⟨by rfl,fun w hS=>by have h0:=hS;go_simp⟩,fun _=>rfl⟩ hS ?_
      simp only [ud9]
      refine anyHF_take (i:=1) (d:=13) (v:=.int .i64 (k:Int)) (by kernel_rfl) rfl (by kernel_rfl) (by kernel_rfl) (by kernel_rfl) rfl (fun _ _ _ h=>h) ⟨Or.inl ⟨by rfl,fun w hS=>by have h0:=hS;go_simp⟩,fun _=>rfl⟩ hS ?_
      simp only [ud9]
      refine anyHF_take (i:=2) (d:=14) (v:=.pointer (some ⟨b,off+k,none⟩)) (by kernel_rfl) rfl (by kernel_rfl) (by kernel_rfl) (by kernel_rfl) rfl (fun _ _ _ h=>h) ⟨Or.inl ⟨by rfl,fun w hS=>by have h0:=hS;go_simp⟩,fun _=>rfl⟩ hS ?_
      simp only [ud9]
      refine anyHF_take (i:=3) (d:=15) (v:=.int .i64 x) (by kernel_rfl) rfl (by kernel_rfl) (by kernel_rfl) (by kernel_rfl) rfl (fun _ _ _ h=>h) ⟨Or.inl ⟨by rfl,fun w hS=>by have h0:=hS;go_simp⟩,fun _=>rfl⟩ hS ?_
      simp only [ud9]
      refine anyHF_take (i:=4) (d:=16) (v:=.bool true) (by kernel_rfl) rfl (by kernel_rfl) (by kernel_rfl) (by kernel_rfl) rfl (fun _ _ _ h=>h) ⟨Or.inl ⟨by rfl,fun w hS=>by have h0:=hS;go_simp⟩,fun _=>rfl⟩ hS ?_
      simp only [ud9]
      refine anyHF_take (i:=5) (d:=17) (v:=.bool true) (by kernel_rfl) rfl (by kernel_rfl) (by kernel_rfl) (by kernel_rfl) rfl (fun _ _ _ h=>h) ⟨Or.inl ⟨by rfl,fun w hS=>by have h0:=hS;go_simp⟩,fun _=>rfl⟩ hS ?_
      simp only [ud9]
      refine tkF (i:=6) (d:=18) (v:=undef) (q8:=⟨Or.inr ⟨by rfl,rfl⟩,fun _=>rfl⟩) (s:=hS) (c:=?_)
      simp only [ud9]
      refine tkF (i:=7) (d:=19) (v:=undef) (q8:=⟨Or.inr ⟨by rfl,rfl⟩,fun _=>rfl⟩) (s:=hS) (c:=?_)
      simp only [ud9]
      refine tkF (i:=8) (d:=20) (v:=undef) (q8:=⟨Or.inr ⟨by rfl,rfl⟩,fun _=>rfl⟩) (s:=hS) (c:=?_)
      simp only [ud9]
      refine tkF (i:=9) (d:=21) (v:=undef) (q8:=⟨Or.inr ⟨by rfl,rfl⟩,fun _=>rfl⟩) (s:=hS) (c:=?_)
      simp only [ud9]
      refine tkF (i:=10) (d:=22) (v:=undef) (q8:=⟨Or.inr ⟨by rfl,rfl⟩,fun _=>rfl⟩) (s:=hS) (c:=?_)
      simp only [ud9]
      refine tkF (i:=11) (d:=23) (v:=undef) (q8:=⟨Or.inr ⟨by rfl,rfl⟩,fun _=>rfl⟩) (s:=hS) (c:=?_)
      simp only [ud9]
      refine anyHF_take (i:=12) (d:=24) (v:=.bool true) (by kernel_rfl) rfl (by kernel_rfl) (by kernel_rfl) (by kernel_rfl) rfl (fun _ _ _ h=>h) ⟨Or.inl ⟨by rfl,fun w hS=>by have h0:=hS;go_simp⟩,fun _=>rfl⟩ hS ?_
      simp only [ud9]
      refine anyHF_take (i:=13) (d:=25) (v:=.bool true) (by kernel_rfl) rfl (by kernel_rfl) (by kernel_rfl) (by kernel_rfl) rfl (fun _ _ _ h=>h) ⟨Or.inl ⟨by rfl,fun w hS=>by have h0:=hS;go_simp⟩,fun _=>rfl⟩ hS ?_
      simp only [ud9]
      refine tkF (i:=14) (d:=26) (v:=undef) (q8:=⟨Or.inr ⟨by rfl,rfl⟩,fun _=>rfl⟩) (s:=hS) (c:=?_)
      simp only [ud9]
      refine tkF (i:=15) (d:=27) (v:=undef) (q8:=⟨Or.inr ⟨by rfl,rfl⟩,fun _=>rfl⟩) (s:=hS) (c:=?_)
      simp only [ud9]
      refine tkF (i:=16) (d:=28) (v:=undef) (q8:=⟨Or.inr ⟨by rfl,rfl⟩,fun _=>rfl⟩) (s:=hS) (c:=?_)
      simp only [ud9]
      refine tkF (i:=17) (d:=29) (v:=undef) (q8:=⟨Or.inr ⟨by rfl,rfl⟩,fun _=>rfl⟩) (s:=hS) (c:=?_)
      simp only [ud9]
      refine tkF (i:=18) (d:=30) (v:=undef) (q8:=⟨Or.inr ⟨by rfl,rfl⟩,fun _=>rfl⟩) (s:=hS) (c:=?_)
      simp only [ud9]
      refine tkF (i:=19) (d:=31) (v:=undef) (q8:=⟨Or.inr ⟨by rfl,rfl⟩,fun _=>rfl⟩) (s:=hS) (c:=?_)
      simp only [ud9]
      refine tkF (i:=20) (d:=32) (v:=undef) (q8:=⟨Or.inr ⟨by rfl,rfl⟩,fun _=>rfl⟩) (s:=hS) (c:=?_)
      simp only [ud9]
      refine tkF (i:=21) (d:=33) (v:=undef) (q8:=⟨Or.inr ⟨by rfl,rfl⟩,fun _=>rfl⟩) (s:=hS) (c:=?_)
      simp only [ud9]
      refine tkF (i:=22) (d:=34) (v:=undef) (q8:=⟨Or.inr ⟨by rfl,rfl⟩,fun _=>rfl⟩) (s:=hS) (c:=?_)
      simp only [ud9]
      refine tkF (i:=23) (d:=35) (v:=undef) (q8:=⟨Or.inr ⟨by rfl,rfl⟩,fun _=>rfl⟩) (s:=hS) (c:=?_)
      simp only [ud9]
      refine tkF (i:=24) (d:=36) (v:=undef) (q8:=⟨Or.inr ⟨by rfl,rfl⟩,fun _=>rfl⟩) (s:=hS) (c:=?_)
      simp only [ud9]
      refine tkF (i:=25) (d:=37) (v:=undef) (q8:=⟨Or.inr ⟨by rfl,rfl⟩,fun _=>rfl⟩) (s:=hS) (c:=?_)
      simp only [ud9]
      refine tkF (i:=26) (d:=38) (v:=undef) (q8:=⟨Or.inr ⟨by rfl,rfl⟩,fun _=>rfl⟩) (s:=hS) (c:=?_)
      simp only [ud9]
      refine tkF (i:=27) (d:=39) (v:=undef) (q8:=⟨Or.inr ⟨by rfl,rfl⟩,fun _=>rfl⟩) (s:=hS) (c:=?_)
      simp only [ud9]
      refine anyHF_take (i:=28) (d:=40) (v:=.bool true) (by kernel_rfl) rfl (by kernel_rfl) (by kernel_rfl) (by kernel_rfl) rfl (fun _ _ _ h=>h) ⟨Or.inl ⟨by rfl,fun w hS=>by have h0:=hS;go_simp⟩,fun _=>rfl⟩ hS ?_
      simp only [ud9]
      refine anyHF_done (by kernel_rfl) ?_ _
      refine NoPanic.normal ?_
      clear hS
      go_wp2
      go_ret
      exact ⟨⟨false,rfl,⟨fun h=>absurd (h k (by rw [HN.out];exact hlt)) HNO.out,fun h=>by cases h⟩⟩,hBd⟩
    · have d1:decide (x<0)=false:=decide_eq_false h0
      by_cases h1:p≤x
      · have d2:decide (p≤x)=true:=decide_eq_true h1
        have HNO:Hid (¬ RiseAt p L k):=fun h=>by
         have h2:=h.2
         rw [HXX.out] at h2
         omega
        clear h0 h1
        go_wp2_with fail
        have hS:(fun U:World=>U.cell? ⟨b,off+k,none⟩=some (.int .i64 x)) wr.drew:=hkd
        refine (wpIn_wide (n:=12)).1 (wpIn_mono (region_HF (Q:=NoPanic _) (S:=(fun U:World=>U.cell? ⟨b,off+k,none⟩=some (.int .i64 x))) (by kernel_rfl) ?_) NoPanic.imp)
        refine anyHF_take (i:=0) (d:=12) (v:=.slice (some ⟨b,off,none⟩) n cap) (by kernel_rfl) rfl (by kernel_rfl) (by kernel_rfl) (by kernel_rfl) rfl (fun _ _ _ h=>h) ⟨Or.inl ⟨by rfl,fun w hS=>by have h0:=hS;go_simp⟩,fun _=>rfl⟩ hS ?_
        simp only [ud9]
        refine anyHF_take (i:=1) (d:=13) (v:=.int .i64 (k:Int)) (by kernel_rfl) rfl (by kernel_rfl) (by kernel_rfl) (by kernel_rfl) rfl (fun _ _ _ h=>h) ⟨Or.inl ⟨by rfl,fun w hS=>by have h0:=hS;go_simp⟩,fun _=>rfl⟩ hS ?_
        simp only [ud9]
        refine anyHF_take (i:=2) (d:=14) (v:=.pointer (some ⟨b,off+k,none⟩)) (by kernel_rfl) rfl (by kernel_rfl) (by kernel_rfl) (by kernel_rfl) rfl (fun _ _ _ h=>h) ⟨Or.inl ⟨by rfl,fun w hS=>by have h0:=hS;go_simp⟩,fun _=>rfl⟩ hS ?_
        simp only [ud9]
        refine anyHF_take (i:=3) (d:=15) (v:=.int .i64 x) (by kernel_rfl) rfl (by kernel_rfl) (by kernel_rfl) (by kernel_rfl) rfl (fun _ _ _ h=>h) ⟨Or.inl ⟨by rfl,fun w hS=>by have h0:=hS;go_simp⟩,fun _=>rfl⟩ hS ?_
        simp only [ud9]
        refine anyHF_take (i:=4) (d:=16) (v:=.bool false) (by kernel_rfl) rfl (by kernel_rfl) (by kernel_rfl) (by kernel_rfl) rfl (fun _ _ _ h=>h) ⟨Or.inl ⟨by rfl,fun w hS=>by have h0:=hS;go_simp⟩,fun _=>rfl⟩ hS ?_
        simp only [ud9]
        refine anyHF_take (i:=5) (d:=17) (v:=.bool false) (by kernel_rfl) rfl (by kernel_rfl) (by kernel_rfl) (by kernel_rfl) rfl (fun _ _ _ h=>h) ⟨Or.inl ⟨by rfl,fun w hS=>by have h0:=hS;go_simp⟩,fun _=>rfl⟩ hS ?_
        simp only [ud9]
        refine anyHF_take (i:=6) (d:=18) (v:=.slice (some ⟨b,off,none⟩) n cap) (by kernel_rfl) rfl (by kernel_rfl) (by kernel_rfl) (by kernel_rfl) rfl (fun _ _ _ h=>h) ⟨Or.inl ⟨by rfl,fun w hS=>by have h0:=hS;go_simp⟩,fun _=>rfl⟩ hS ?_
        simp only [ud9]
        refine anyHF_take (i:=7) (d:=19) (v:=.int .i64 (k:Int)) (by kernel_rfl) rfl (by kernel_rfl) (by kernel_rfl) (by kernel_rfl) rfl (fun _ _ _ h=>h) ⟨Or.inl ⟨by rfl,fun w hS=>by have h0:=hS;go_simp⟩,fun _=>rfl⟩ hS ?_
        simp only [ud9]
        refine anyHF_take (i:=8) (d:=20) (v:=.pointer (some ⟨b,off+k,none⟩)) (by kernel_rfl) rfl (by kernel_rfl) (by kernel_rfl) (by kernel_rfl) rfl (fun _ _ _ h=>h) ⟨Or.inl ⟨by rfl,fun w hS=>by have h0:=hS;go_simp⟩,fun _=>rfl⟩ hS ?_
        simp only [ud9]
        refine anyHF_take (i:=9) (d:=21) (v:=.int .i64 x) (by kernel_rfl) rfl (by kernel_rfl) (by kernel_rfl) (by kernel_rfl) rfl (fun _ _ _ h=>h) ⟨Or.inl ⟨by rfl,fun w hS=>by have h0:=hS;go_simp⟩,fun _=>rfl⟩ hS ?_
        simp only [ud9]
        refine anyHF_take (i:=10) (d:=22) (v:=.int .i64 p) (by kernel_rfl) rfl (by kernel_rfl) (by kernel_rfl) (by kernel_rfl) rfl (fun _ _ _ h=>h) ⟨Or.inl ⟨by rfl,fun w hS=>by have h0:=hS;go_simp⟩,fun _=>rfl⟩ hS ?_
        simp only [ud9]
        refine anyHF_take (i:=11) (d:=23) (v:=.bool true) (by kernel_rfl) rfl (by kernel_rfl) (by kernel_rfl) (by kernel_rfl) rfl (fun _ _ _ h=>h) ⟨Or.inl ⟨by rfl,fun w hS=>by have h0:=hS;go_simp⟩,fun _=>rfl⟩ hS ?_
        simp only [ud9]
        refine anyHF_take (i:=12) (d:=24) (v:=.bool true) (by kernel_rfl) rfl (by kernel_rfl) (by kernel_rfl) (by kernel_rfl) rfl (fun _ _ _ h=>h) ⟨Or.inl ⟨by rfl,fun w hS=>by have h0:=hS;go_simp⟩,fun _=>rfl⟩ hS ?_
        simp only [ud9]
        refine anyHF_take (i:=13) (d:=25) (v:=.bool true) (by kernel_rfl) rfl (by kernel_rfl) (by kernel_rfl) (by kernel_rfl) rfl (fun _ _ _ h=>h) ⟨Or.inl ⟨by rfl,fun w hS=>by have h0:=hS;go_simp⟩,fun _=>rfl⟩ hS ?_
        simp only [ud9]
        refine tkF (i:=14) (d:=26) (v:=undef) (q8:=⟨Or.inr ⟨by rfl,rfl⟩,fun _=>rfl⟩) (s:=hS) (c:=?_)
        simp only [ud9]
        refine tkF (i:=15) (d:=27) (v:=undef) (q8:=⟨Or.inr ⟨by rfl,rfl⟩,fun _=>rfl⟩) (s:=hS) (c:=?_)
        simp only [ud9]
        refine tkF (i:=16) (d:=28) (v:=undef) (q8:=⟨Or.inr ⟨by rfl,rfl⟩,fun _=>rfl⟩) (s:=hS) (c:=?_)
        simp only [ud9]
        refine tkF (i:=17) (d:=29) (v:=undef) (q8:=⟨Or.inr ⟨by rfl,rfl⟩,fun _=>rfl⟩) (s:=hS) (c:=?_)
        simp only [ud9]
        refine tkF (i:=18) (d:=30) (v:=undef) (q8:=⟨Or.inr ⟨by rfl,rfl⟩,fun _=>rfl⟩) (s:=hS) (c:=?_)
        simp only [ud9]
        refine tkF (i:=19) (d:=31) (v:=undef) (q8:=⟨Or.inr ⟨by rfl,rfl⟩,fun _=>rfl⟩) (s:=hS) (c:=?_)
        simp only [ud9]
        refine tkF (i:=20) (d:=32) (v:=undef) (q8:=⟨Or.inr ⟨by rfl,rfl⟩,fun _=>rfl⟩) (s:=hS) (c:=?_)
        simp only [ud9]
        refine tkF (i:=21) (d:=33) (v:=undef) (q8:=⟨Or.inr ⟨by rfl,rfl⟩,fun _=>rfl⟩) (s:=hS) (c:=?_)
        simp only [ud9]
        refine tkF (i:=22) (d:=34) (v:=undef) (q8:=⟨Or.inr ⟨by rfl,rfl⟩,fun _=>rfl⟩) (s:=hS) (c:=?_)
        simp only [ud9]
        refine tkF (i:=23) (d:=35) (v:=undef) (q8:=⟨Or.inr ⟨by rfl,rfl⟩,fun _=>rfl⟩) (s:=hS) (c:=?_)
        simp only [ud9]
        refine tkF (i:=24) (d:=36) (v:=undef) (q8:=⟨Or.inr ⟨by rfl,rfl⟩,fun _=>rfl⟩) (s:=hS) (c:=?_)
        simp only [ud9]
        refine tkF (i:=25) (d:=37) (v:=undef) (q8:=⟨Or.inr ⟨by rfl,rfl⟩,fun _=>rfl⟩) (s:=hS) (c:=?_)
        simp only [ud9]
        refine tkF (i:=26) (d:=38) (v:=undef) (q8:=⟨Or.inr ⟨by rfl,rfl⟩,fun _=>rfl⟩) (s:=hS) (c:=?_)
        simp only [ud9]
        refine tkF (i:=27) (d:=39) (v:=undef) (q8:=⟨Or.inr ⟨by rfl,rfl⟩,fun _=>rfl⟩) (s:=hS) (c:=?_)
        simp only [ud9]
        refine anyHF_take (i:=28) (d:=40) (v:=.bool true) (by kernel_rfl) rfl (by kernel_rfl) (by kernel_rfl) (by kernel_rfl) rfl (fun _ _ _ h=>h) ⟨Or.inl ⟨by rfl,fun w hS=>by have h0:=hS;go_simp⟩,fun _=>rfl⟩ hS ?_
        simp only [ud9]
        refine anyHF_done (by kernel_rfl) ?_ _
        refine NoPanic.normal ?_
        clear hS
        go_wp2
        go_ret
        exact ⟨⟨false,rfl,⟨fun h=>absurd (h k (by rw [HN.out];exact hlt)) HNO.out,fun h=>by cases h⟩⟩,hBd⟩
      · have d2:decide (p≤x)=false:=decide_eq_false h1
        by_cases hk0:k=0
        · have d3:(k=0)=True:=eq_true hk0
          have HYES:Hid (RiseAt p L k):=by
           refine ⟨?_,by rw [HXX.out];omega⟩
           rw [if_pos hk0,HXX.out];omega
          clear h0 h1 hk0
          go_wp2_with fail
          have hS:(fun U:World=>U.cell? ⟨b,off+k,none⟩=some (.int .i64 x)) wr.drew:=hkd
          refine (wpIn_wide (n:=12)).1 (wpIn_mono (region_HF (Q:=NoPanic _) (S:=(fun U:World=>U.cell? ⟨b,off+k,none⟩=some (.int .i64 x))) (by kernel_rfl) ?_) NoPanic.imp)
          refine anyHF_take (i:=0) (d:=12) (v:=.slice (some ⟨b,off,none⟩) n cap) (by kernel_rfl) rfl (by kernel_rfl) (by kernel_rfl) (by kernel_rfl) rfl (fun _ _ _ h=>h) ⟨Or.inl ⟨by rfl,fun w hS=>by have h0:=hS;go_simp⟩,fun _=>rfl⟩ hS ?_
          simp only [ud9]
          refine anyHF_take (i:=1) (d:=13) (v:=.int .i64 (k:Int)) (by kernel_rfl) rfl (by kernel_rfl) (by kernel_rfl) (by kernel_rfl) rfl (fun _ _ _ h=>h) ⟨Or.inl ⟨by rfl,fun w hS=>by have h0:=hS;go_simp⟩,fun _=>rfl⟩ hS ?_
          simp only [ud9]
          refine anyHF_take (i:=2) (d:=14) (v:=.pointer (some ⟨b,off+k,none⟩)) (by kernel_rfl) rfl (by kernel_rfl) (by kernel_rfl) (by kernel_rfl) rfl (fun _ _ _ h=>h) ⟨Or.inl ⟨by rfl,fun w hS=>by have h0:=hS;go_simp⟩,fun _=>rfl⟩ hS ?_
          simp only [ud9]
          refine anyHF_take (i:=3) (d:=15) (v:=.int .i64 x) (by kernel_rfl) rfl (by kernel_rfl) (by kernel_rfl) (by kernel_rfl) rfl (fun _ _ _ h=>h) ⟨Or.inl ⟨by rfl,fun w hS=>by have h0:=hS;go_simp⟩,fun _=>rfl⟩ hS ?_
          simp only [ud9]
          refine anyHF_take (i:=4) (d:=16) (v:=.bool false) (by kernel_rfl) rfl (by kernel_rfl) (by kernel_rfl) (by kernel_rfl) rfl (fun _ _ _ h=>h) ⟨Or.inl ⟨by rfl,fun w hS=>by have h0:=hS;go_simp⟩,fun _=>rfl⟩ hS ?_
          simp only [ud9]
          refine anyHF_take (i:=5) (d:=17) (v:=.bool false) (by kernel_rfl) rfl (by kernel_rfl) (by kernel_rfl) (by kernel_rfl) rfl (fun _ _ _ h=>h) ⟨Or.inl ⟨by rfl,fun w hS=>by have h0:=hS;go_simp⟩,fun _=>rfl⟩ hS ?_
          simp only [ud9]
          refine anyHF_take (i:=6) (d:=18) (v:=.slice (some ⟨b,off,none⟩) n cap) (by kernel_rfl) rfl (by kernel_rfl) (by kernel_rfl) (by kernel_rfl) rfl (fun _ _ _ h=>h) ⟨Or.inl ⟨by rfl,fun w hS=>by have h0:=hS;go_simp⟩,fun _=>rfl⟩ hS ?_
          simp only [ud9]
          refine anyHF_take (i:=7) (d:=19) (v:=.int .i64 (k:Int)) (by kernel_rfl) rfl (by kernel_rfl) (by kernel_rfl) (by kernel_rfl) rfl (fun _ _ _ h=>h) ⟨Or.inl ⟨by rfl,fun w hS=>by have h0:=hS;go_simp⟩,fun _=>rfl⟩ hS ?_
          simp only [ud9]
          refine anyHF_take (i:=8) (d:=20) (v:=.pointer (some ⟨b,off+k,none⟩)) (by kernel_rfl) rfl (by kernel_rfl) (by kernel_rfl) (by kernel_rfl) rfl (fun _ _ _ h=>h) ⟨Or.inl ⟨by rfl,fun w hS=>by have h0:=hS;go_simp⟩,fun _=>rfl⟩ hS ?_
          simp only [ud9]
          refine anyHF_take (i:=9) (d:=21) (v:=.int .i64 x) (by kernel_rfl) rfl (by kernel_rfl) (by kernel_rfl) (by kernel_rfl) rfl (fun _ _ _ h=>h) ⟨Or.inl ⟨by rfl,fun w hS=>by have h0:=hS;go_simp⟩,fun _=>rfl⟩ hS ?_
          simp only [ud9]
          refine anyHF_take (i:=10) (d:=22) (v:=.int .i64 p) (by kernel_rfl) rfl (by kernel_rfl) (by kernel_rfl) (by kernel_rfl) rfl (fun _ _ _ h=>h) ⟨Or.inl ⟨by rfl,fun w hS=>by have h0:=hS;go_simp⟩,fun _=>rfl⟩ hS ?_
          simp only [ud9]
          refine anyHF_take (i:=11) (d:=23) (v:=.bool false) (by kernel_rfl) rfl (by kernel_rfl) (by kernel_rfl) (by kernel_rfl) rfl (fun _ _ _ h=>h) ⟨Or.inl ⟨by rfl,fun w hS=>by have h0:=hS;go_simp⟩,fun _=>rfl⟩ hS ?_
          simp only [ud9]
          refine anyHF_take (i:=12) (d:=24) (v:=.bool false) (by kernel_rfl) rfl (by kernel_rfl) (by kernel_rfl) (by kernel_rfl) rfl (fun _ _ _ h=>h) ⟨Or.inl ⟨by rfl,fun w hS=>by have h0:=hS;go_simp⟩,fun _=>rfl⟩ hS ?_
          simp only [ud9]
          refine anyHF_take (i:=13) (d:=25) (v:=.bool false) (by kernel_rfl) rfl (by kernel_rfl) (by kernel_rfl) (by kernel_rfl) rfl (fun _ _ _ h=>h) ⟨Or.inl ⟨by rfl,fun w hS=>by have h0:=hS;go_simp⟩,fun _=>rfl⟩ hS ?_
          simp only [ud9]
          refine anyHF_take (i:=14) (d:=26) (v:=.int .i64 (k:Int)) (by kernel_rfl) rfl (by kernel_rfl) (by kernel_rfl) (by kernel_rfl) rfl (fun _ _ _ h=>h) ⟨Or.inl ⟨by rfl,fun w hS=>by have h0:=hS;go_simp⟩,fun _=>rfl⟩ hS ?_
          simp only [ud9]
          refine anyHF_take (i:=15) (d:=27) (v:=.bool false) (by kernel_rfl) rfl (by kernel_rfl) (by kernel_rfl) (by kernel_rfl) rfl (fun _ _ _ h=>h) ⟨Or.inl ⟨by rfl,fun w hS=>by have h0:=hS;go_simp⟩,fun _=>rfl⟩ hS ?_
          simp only [ud9]
          refine anyHF_take (i:=16) (d:=28) (v:=.bool false) (by kernel_rfl) rfl (by kernel_rfl) (by kernel_rfl) (by kernel_rfl) rfl (fun _ _ _ h=>h) ⟨Or.inl ⟨by rfl,fun w hS=>by have h0:=hS;go_simp⟩,fun _=>rfl⟩ hS ?_
          simp only [ud9]
          refine tkF (i:=17) (d:=29) (v:=undef) (q8:=⟨Or.inr ⟨by rfl,rfl⟩,fun _=>rfl⟩) (s:=hS) (c:=?_)
          simp only [ud9]
          refine tkF (i:=18) (d:=30) (v:=undef) (q8:=⟨Or.inr ⟨by rfl,rfl⟩,fun _=>rfl⟩) (s:=hS) (c:=?_)
          simp only [ud9]
          refine tkF (i:=19) (d:=31) (v:=undef) (q8:=⟨Or.inr ⟨by rfl,rfl⟩,fun _=>rfl⟩) (s:=hS) (c:=?_)
          simp only [ud9]
          refine tkF (i:=20) (d:=32) (v:=undef) (q8:=⟨Or.inr ⟨by rfl,rfl⟩,fun _=>rfl⟩) (s:=hS) (c:=?_)
          simp only [ud9]
          refine tkF (i:=21) (d:=33) (v:=undef) (q8:=⟨Or.inr ⟨by rfl,rfl⟩,fun _=>rfl⟩) (s:=hS) (c:=?_)
          simp only [ud9]
          refine tkF (i:=22) (d:=34) (v:=undef) (q8:=⟨Or.inr ⟨by rfl,rfl⟩,fun _=>rfl⟩) (s:=hS) (c:=?_)
          simp only [ud9]
          refine tkF (i:=23) (d:=35) (v:=undef) (q8:=⟨Or.inr ⟨by rfl,rfl⟩,fun _=>rfl⟩) (s:=hS) (c:=?_)
          simp only [ud9]
          refine tkF (i:=24) (d:=36) (v:=undef) (q8:=⟨Or.inr ⟨by rfl,rfl⟩,fun _=>rfl⟩) (s:=hS) (c:=?_)
          simp only [ud9]
          refine tkF (i:=25) (d:=37) (v:=undef) (q8:=⟨Or.inr ⟨by rfl,rfl⟩,fun _=>rfl⟩) (s:=hS) (c:=?_)
          simp only [ud9]
          refine tkF (i:=26) (d:=38) (v:=undef) (q8:=⟨Or.inr ⟨by rfl,rfl⟩,fun _=>rfl⟩) (s:=hS) (c:=?_)
          simp only [ud9]
          refine anyHF_take (i:=27) (d:=39) (v:=.bool false) (by kernel_rfl) rfl (by kernel_rfl) (by kernel_rfl) (by kernel_rfl) rfl (fun _ _ _ h=>h) ⟨Or.inl ⟨by rfl,fun w hS=>by have h0:=hS;go_simp⟩,fun _=>rfl⟩ hS ?_
          simp only [ud9]
          refine anyHF_take (i:=28) (d:=40) (v:=.bool false) (by kernel_rfl) rfl (by kernel_rfl) (by kernel_rfl) (by kernel_rfl) rfl (fun _ _ _ h=>h) ⟨Or.inl ⟨by rfl,fun w hS=>by have h0:=hS;go_simp⟩,fun _=>rfl⟩ hS ?_
          simp only [ud9]
          refine anyHF_done (by kernel_rfl) ?_ _
          refine NoPanic.normal ?_
          clear hS
          go_wp2
          go_roundw
          case rel=>exact ⟨k+1,by omega,by go_num,fun j hj=>by
           rcases Nat.lt_or_ge j k with h | h
           · exact HOK.out j h
           · obtain rfl:j=k:=by omega
             exact HYES.out,hBd⟩
          case measure=>simp [intOf];omega
        · have d3:0<k:=by omega
          obtain ⟨k1,hk1⟩:∃ k1,k=k1+1:=⟨k - 1,by omega⟩
          have w4:IntKind.i64.wrap ((k:Int) - 1)=(k1:Int):=by rw [IntWalk.i64_in _ (by omega)];omega
          have i3:(0:Int)≤(k1:Int):=by omega
          have i4:(k1:Int)<(n:Int):=by omega
          have hyd:wr.drew.cell? ⟨b,off+k1,none⟩ = _:=(hBd.cell (p:=⟨b,off+k1,none⟩) HB.out).trans (HC.out k1 (by omega))
          obtain ⟨y,hy⟩:∃ y,L[k1]?.getD 0=y:=⟨_,rfl⟩
          rw [hy] at hyd
          have HK1:=Lib.hid (And.intro hk1 hy)
          clear hy hk1 hk0
          by_cases h2:x≤y
          · have d4:decide (x≤y)=true:=decide_eq_true h2
            have HNO:Hid (¬ RiseAt p L k):=fun h=>by
             have h3:=h.1
             have e1:=HK1.out.1
             rw [if_neg (by omega),HXX.out,show k - 1=k1 by omega,HK1.out.2] at h3
             omega
            clear h0 h1 h2
            go_wp2_with fail
            have hS:(fun U:World=>U.cell? ⟨b,off+k,none⟩=some (.int .i64 x)∧U.cell? ⟨b,off+k1,none⟩=some (.int .i64 y)) wr.drew:=⟨hkd,hyd⟩
            refine (wpIn_wide (n:=12)).1 (wpIn_mono (region_HF (Q:=NoPanic _) (S:=(fun U:World=>U.cell? ⟨b,off+k,none⟩=some (.int .i64 x)∧U.cell? ⟨b,off+k1,none⟩=some (.int .i64 y))) (by kernel_rfl) ?_) NoPanic.imp)
            refine tkF (i:=0) (d:=12) (v:=.slice (some ⟨b,off,none⟩) n cap) (s:=hS) (c:=?_)
            simp only [ud9]
            refine tkF (i:=1) (d:=13) (v:=.int .i64 (k:Int)) (s:=hS) (c:=?_)
            simp only [ud9]
            refine tkF (i:=2) (d:=14) (v:=.pointer (some ⟨b,off+k,none⟩)) (s:=hS) (c:=?_)
            simp only [ud9]
            refine tkF (i:=3) (d:=15) (v:=.int .i64 x) (s:=hS) (c:=?_)
            simp only [ud9]
            refine tkF (i:=4) (d:=16) (v:=.bool false) (s:=hS) (c:=?_)
            simp only [ud9]
            refine tkF (i:=5) (d:=17) (v:=.bool false) (s:=hS) (c:=?_)
            simp only [ud9]
            refine tkF (i:=6) (d:=18) (v:=.slice (some ⟨b,off,none⟩) n cap) (s:=hS) (c:=?_)
            simp only [ud9]
            refine tkF (i:=7) (d:=19) (v:=.int .i64 (k:Int)) (s:=hS) (c:=?_)
            simp only [ud9]
            refine tkF (i:=8) (d:=20) (v:=.pointer (some ⟨b,off+k,none⟩)) (s:=hS) (c:=?_)
            simp only [ud9]
            refine tkF (i:=9) (d:=21) (v:=.int .i64 x) (s:=hS) (c:=?_)
            simp only [ud9]
            refine tkF (i:=10) (d:=22) (v:=.int .i64 p) (s:=hS) (c:=?_)
            simp only [ud9]
            refine tkF (i:=11) (d:=23) (v:=.bool false) (s:=hS) (c:=?_)
            simp only [ud9]
            refine tkF (i:=12) (d:=24) (v:=.bool false) (s:=hS) (c:=?_)
            simp only [ud9]
            refine tkF (i:=13) (d:=25) (v:=.bool false) (s:=hS) (c:=?_)
            simp only [ud9]
            refine tkF (i:=14) (d:=26) (v:=.int .i64 (k:Int)) (s:=hS) (c:=?_)
            simp only [ud9]
            refine tkF (i:=15) (d:=27) (v:=.bool true) (s:=hS) (c:=?_)
            simp only [ud9]
            refine tkF (i:=16) (d:=28) (v:=.bool true) (s:=hS) (c:=?_)
            simp only [ud9]
            refine tkF (i:=17) (d:=29) (v:=.slice (some ⟨b,off,none⟩) n cap) (s:=hS) (c:=?_)
            simp only [ud9]
            refine tkF (i:=18) (d:=30) (v:=.int .i64 (k:Int)) (s:=hS) (c:=?_)
            simp only [ud9]
            refine tkF (i:=19) (d:=31) (v:=.pointer (some ⟨b,off+k,none⟩)) (s:=hS) (c:=?_)
            simp only [ud9]
            refine tkF (i:=20) (d:=32) (v:=.int .i64 x) (s:=hS) (c:=?_)
            simp only [ud9]
            refine tkF (i:=21) (d:=33) (v:=.slice (some ⟨b,off,none⟩) n cap) (s:=hS) (c:=?_)
            simp only [ud9]
            refine tkF (i:=22) (d:=34) (v:=.int .i64 (k:Int)) (s:=hS) (c:=?_)
            simp only [ud9]
            refine tkF (i:=23) (d:=35) (v:=.int .i64 (k1:Int)) (s:=hS) (c:=?_)
            simp only [ud9]
            refine tkF (i:=24) (d:=36) (v:=.pointer (some ⟨b,off+k1,none⟩)) (s:=hS) (c:=?_)
            simp only [ud9]
            refine tkF (i:=25) (d:=37) (v:=.int .i64 y) (s:=hS) (c:=?_)
            simp only [ud9]
            refine tkF (i:=26) (d:=38) (v:=.bool true) (s:=hS) (c:=?_)
            simp only [ud9]
            refine tkF (i:=27) (d:=39) (v:=.bool true) (s:=hS) (c:=?_)
            simp only [ud9]
            refine tkF (i:=28) (d:=40) (v:=.bool true) (s:=hS) (c:=?_)
            simp only [ud9]
            refine anyHF_done (by kernel_rfl) ?_ _
            refine NoPanic.normal ?_
            clear hS
            go_wp2
            go_ret
            exact ⟨⟨false,rfl,⟨fun h=>absurd (h k (by rw [HN.out];exact hlt)) HNO.out,fun h=>by cases h⟩⟩,hBd⟩
          · have d4:decide (x≤y)=false:=decide_eq_false h2
            have HYES:Hid (RiseAt p L k):=by
             have e1:=HK1.out.1
             refine ⟨?_,by rw [HXX.out];omega⟩
             rw [if_neg (by omega),HXX.out,show k - 1=k1 by omega,HK1.out.2]
             omega
            clear h0 h1 h2
            go_wp2_with fail
            have hS:(fun U:World=>U.cell? ⟨b,off+k,none⟩=some (.int .i64 x)∧U.cell? ⟨b,off+k1,none⟩=some (.int .i64 y)) wr.drew:=⟨hkd,hyd⟩
            refine (wpIn_wide (n:=12)).1 (wpIn_mono (region_HF (Q:=NoPanic _) (S:=(fun U:World=>U.cell? ⟨b,off+k,none⟩=some (.int .i64 x)∧U.cell? ⟨b,off+k1,none⟩=some (.int .i64 y))) (by kernel_rfl) ?_) NoPanic.imp)
            refine tkF (i:=0) (d:=12) (v:=.slice (some ⟨b,off,none⟩) n cap) (s:=hS) (c:=?_)
            simp only [ud9]
            refine tkF (i:=1) (d:=13) (v:=.int .i64 (k:Int)) (s:=hS) (c:=?_)
            simp only [ud9]
            refine tkF (i:=2) (d:=14) (v:=.pointer (some ⟨b,off+k,none⟩)) (s:=hS) (c:=?_)
            simp only [ud9]
            refine tkF (i:=3) (d:=15) (v:=.int .i64 x) (s:=hS) (c:=?_)
            simp only [ud9]
            refine tkF (i:=4) (d:=16) (v:=.bool false) (s:=hS) (c:=?_)
            simp only [ud9]
            refine tkF (i:=5) (d:=17) (v:=.bool false) (s:=hS) (c:=?_)
            simp only [ud9]
            refine tkF (i:=6) (d:=18) (v:=.slice (some ⟨b,off,none⟩) n cap) (s:=hS) (c:=?_)
            simp only [ud9]
            refine tkF (i:=7) (d:=19) (v:=.int .i64 (k:Int)) (s:=hS) (c:=?_)
            simp only [ud9]
            refine tkF (i:=8) (d:=20) (v:=.pointer (some ⟨b,off+k,none⟩)) (s:=hS) (c:=?_)
            simp only [ud9]
            refine tkF (i:=9) (d:=21) (v:=.int .i64 x) (s:=hS) (c:=?_)
            simp only [ud9]
            refine tkF (i:=10) (d:=22) (v:=.int .i64 p) (s:=hS) (c:=?_)
            simp only [ud9]
            refine tkF (i:=11) (d:=23) (v:=.bool false) (s:=hS) (c:=?_)
            simp only [ud9]
            refine tkF (i:=12) (d:=24) (v:=.bool false) (s:=hS) (c:=?_)
            simp only [ud9]
            refine tkF (i:=13) (d:=25) (v:=.bool false) (s:=hS) (c:=?_)
            simp only [ud9]
            refine tkF (i:=14) (d:=26) (v:=.int .i64 (k:Int)) (s:=hS) (c:=?_)
            simp only [ud9]
            refine tkF (i:=15) (d:=27) (v:=.bool true) (s:=hS) (c:=?_)
            simp only [ud9]
            refine tkF (i:=16) (d:=28) (v:=.bool true) (s:=hS) (c:=?_)
            simp only [ud9]
            refine tkF (i:=17) (d:=29) (v:=.slice (some ⟨b,off,none⟩) n cap) (s:=hS) (c:=?_)
            simp only [ud9]
            refine tkF (i:=18) (d:=30) (v:=.int .i64 (k:Int)) (s:=hS) (c:=?_)
            simp only [ud9]
            refine tkF (i:=19) (d:=31) (v:=.pointer (some ⟨b,off+k,none⟩)) (s:=hS) (c:=?_)
            simp only [ud9]
            refine tkF (i:=20) (d:=32) (v:=.int .i64 x) (s:=hS) (c:=?_)
            simp only [ud9]
            refine tkF (i:=21) (d:=33) (v:=.slice (some ⟨b,off,none⟩) n cap) (s:=hS) (c:=?_)
            simp only [ud9]
            refine tkF (i:=22) (d:=34) (v:=.int .i64 (k:Int)) (s:=hS) (c:=?_)
            simp only [ud9]
            refine tkF (i:=23) (d:=35) (v:=.int .i64 (k1:Int)) (s:=hS) (c:=?_)
            simp only [ud9]
            refine tkF (i:=24) (d:=36) (v:=.pointer (some ⟨b,off+k1,none⟩)) (s:=hS) (c:=?_)
            simp only [ud9]
            refine tkF (i:=25) (d:=37) (v:=.int .i64 y) (s:=hS) (c:=?_)
            simp only [ud9]
            refine tkF (i:=26) (d:=38) (v:=.bool false) (s:=hS) (c:=?_)
            simp only [ud9]
            refine tkF (i:=27) (d:=39) (v:=.bool false) (s:=hS) (c:=?_)
            simp only [ud9]
            refine tkF (i:=28) (d:=40) (v:=.bool false) (s:=hS) (c:=?_)
            simp only [ud9]
            refine anyHF_done (by kernel_rfl) ?_ _
            refine NoPanic.normal ?_
            clear hS
            go_wp2
            go_roundw
            case rel=>exact ⟨k+1,by omega,by go_num,fun j hj=>by
             rcases Nat.lt_or_ge j k with h | h
             · exact HOK.out j h
             · obtain rfl:j=k:=by omega
               exact HYES.out,hBd⟩
            case measure=>simp [intOf];omega
  · obtain rfl:k=n:=by omega
    have e1:decide ((k:Int)<(k:Int))=false:=by simp
    go_wp2
    go_ret
    exact ⟨⟨true,rfl,⟨fun _=>rfl,fun _ i hi=>hok i (by rw [HN.out] at hi;exact hi)⟩⟩,hB⟩
end Go.Proofs.YtkllhjhkcipkoaaGreatDoor.Tr
