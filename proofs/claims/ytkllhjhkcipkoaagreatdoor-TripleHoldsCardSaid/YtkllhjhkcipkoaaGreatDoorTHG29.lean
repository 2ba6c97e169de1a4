/- -/
import Derived.Test.YtkllhjhkcipkoaaGreatDoorTHG28
set_option linter.unusedVariables false
set_option linter.unusedSimpArgs false
set_option maxRecDepth 100000
set_option maxHeartbeats 16000000
namespace Go.Proofs.YtkllhjhkcipkoaaGreatDoor.Tr
open Go.RowKit Go.Shelf Go.Maps Go.Proofs.YtkllhjhkcipkoaaGreatDoor.C Go.Proofs.YtkllhjhkcipkoaaGreatDoor.E Go.Proofs.YtkllhjhkcipkoaaGreatDoor.T Go.Proofs.YtkllhjhkcipkoaaGreatDoor.Rg Go.Proofs.YtkllhjhkcipkoaaGreatDoor.Ch
attribute [local go_sem] Oper.semAt_some

theorem nils_row {W:World} {g:Nat} (h:Blk W g 41 #[.slice none 0 0,.slice none 0 0,.slice none 0 0]):RowC (fun _=>True) W g (.slice (some ⟨g,0,none⟩) 3 3) [[],[],[]] :=
 ⟨[.slice none 0 0,.slice none 0 0,.slice none 0 0],⟨rfl,.inr ⟨g,3,#[.slice none 0 0,.slice none 0 0,.slice none 0 0],rfl,Nat.le_refl _,h,Nat.le_refl _,by unfold maxLen;omega,rfl,rfl⟩⟩,rfl,fun j y hy=>by
  have e:y = .slice none 0 0:=by
   rcases j with _ | _ | _ | j
   · exact (Option.some.inj hy).symm
   · exact (Option.some.inj hy).symm
   · exact (Option.some.inj hy).symm
   · simp at hy
  subst e
  have e2:(([[],[],[]]:List (List (List UInt8)))[j]?.getD []) = []:=by
   rcases j with _ | _ | _ | j
   · rfl
   · rfl
   · rfl
   · simp at hy
  rw [e2]
  exact ⟨none,0,rfl,Nat.le_refl _,fun h=>absurd h (Nat.lt_irrefl _)⟩⟩
theorem tail_T {w V:World} (h:StT w V) {B:Nat} (hB:V.heap.size≤B):Cols B V (.slice (some ⟨w.heap.size+18,3,none⟩) 3 3) [[[21],[42]],[[57],[30]],[[45],[54]]]:=by
 refine ⟨_,3,rfl,Nat.le_refl _,fun _=>⟨_,3,rfl,Nat.lt_of_lt_of_le h.hb.lt hB,fun j hj=>?_⟩⟩
 rcases j with _ | _ | _ | j
 · exact ⟨_,h.hb.cell 3,h.m3.more hB⟩
 · exact ⟨_,h.hb.cell 4,h.m4.more hB⟩
 · exact ⟨_,h.hb.cell 5,h.m5.more hB⟩
 · have:j+3<3:=hj
   omega
theorem cols_K2 {w V:World} {g:Nat} (h:StT w V) (hb:Blk V g 41 #[.slice none 0 0,.slice (some ⟨w.heap.size+5,0,none⟩) 2 2,.slice none 0 0,.slice none 0 0,.slice (some ⟨w.heap.size+14,0,none⟩) 2 2,.slice (some ⟨w.heap.size+17,0,none⟩) 2 2]):Cols V.heap.size V (.slice (some ⟨g,0,none⟩) 6 6) cssT2 :=
 cols_of_blk hb hb.lt rfl (Nat.le_refl _) fun j hj=>by
  rcases j with _ | _ | _ | _ | _ | _ | j
  · exact ⟨_,rfl,Many.nil_ _ _ _ _⟩
  · exact ⟨_,rfl,h.m1⟩
  · exact ⟨_,rfl,Many.nil_ _ _ _ _⟩
  · exact ⟨_,rfl,Many.nil_ _ _ _ _⟩
  · exact ⟨_,rfl,h.m4⟩
  · exact ⟨_,rfl,h.m5⟩
  · omega
theorem cols_K1 {w V:World} {g:Nat} (h:StT w V) (hb:Blk V g 41 #[.slice (some ⟨w.heap.size+2,0,none⟩) 2 2,.slice none 0 0,.slice (some ⟨w.heap.size+8,0,none⟩) 2 2,.slice none 0 0,.slice none 0 0,.slice (some ⟨w.heap.size+17,0,none⟩) 2 2]):Cols V.heap.size V (.slice (some ⟨g,0,none⟩) 6 6) cssT1 :=
 cols_of_blk hb hb.lt rfl (Nat.le_refl _) fun j hj=>by
  rcases j with _ | _ | _ | _ | _ | _ | j
  · exact ⟨_,rfl,h.m0⟩
  · exact ⟨_,rfl,Many.nil_ _ _ _ _⟩
  · exact ⟨_,rfl,h.m2⟩
  · exact ⟨_,rfl,Many.nil_ _ _ _ _⟩
  · exact ⟨_,rfl,Many.nil_ _ _ _ _⟩
  · exact ⟨_,rfl,h.m5⟩
  · omega
theorem cols_K0 {w V:World} {g:Nat} (h:StT w V) (hb:Blk V g 41 #[.slice (some ⟨w.heap.size+2,0,none⟩) 2 2,.slice (some ⟨w.heap.size+8,0,none⟩) 2 2]):Cols V.heap.size V (.slice (some ⟨g,0,none⟩) 2 2) [[[1],[2]],[[16],[32]]]:=Rg.cols_two hb h.m0 h.m2 hb.lt
theorem cols_03 {w V:World} (h:StT w V):Cols V.heap.size V (.slice (some ⟨w.heap.size+18,0,none⟩) 3 6) [[[1],[2]],[[4],[8]],[[16],[32]]]:=Cols.take_ h.hc (m:=3) (by decide)
theorem same_T {css:List (List (List UInt8))} (hs:∀ x∈css,x.length≤1000) (hl:css.length≤1000) (u v:Value) (W:World) (h1:Cols W.heap.size W u css) (h2:Cols W.heap.size W v css) :
 Calls Tryz.prog 15 #[u,v] W fun e w'=>e = .returned (.bool true)∧Below W.heap.size W w':=by
 have h:=same6_any u v css css W h1 h2 (Nat.le_refl _) (Nat.le_refl _) (small_T hs) (small_T hs) hl hl
 rwa [decide_eq_true rfl] at h
theorem works13_any (w:World) (hL:Laid w):Calls Tryz.prog 9 #[] w fun e w'=>e = .returned (.bool true)∧Below w.heap.size w w':=by
 have hst:=stands_T w
 have hB0:=allocs_below w (osT w)
 have hsz:(allocs w (osT w)).heap.size=w.heap.size+19:=by simp [allocs,osT]
 have hzb:=Blk.new (allocs w (osT w)) 41 #[.slice none 0 0,.slice none 0 0,.slice none 0 0]
 have hBz:=below_one (allocs w (osT w)) (.cells #[.slice none 0 0,.slice none 0 0,.slice none 0 0] 41)
 have HRO:=nils_row hzb
 have HX:=app_far hBz (Nat.le_refl _) HRO ((tail_T hst (Nat.le_refl _)).below hBz)
 rw [hsz] at HRO HX
 replace HRO:=Lib.hid HRO
 replace HX:=Lib.hid HX
 have HST:=Lib.hid (And.intro hst (And.intro hB0 (And.intro hBz hsz)))
 have HLW:=Lib.hid (fun (U:World) (hU:Below w.heap.size w U)=>hL.next hU)
 clear hst hB0 hsz hzb hBz hL
 go_enter Tryz.func9,Tryz.ntmps9
 go_wp2_with (at_builtin;refine wpList_appCw ((allocs w (osT w)).alloc (.cells #[.slice none 0 0,.slice none 0 0,.slice none 0 0] 41)) rfl _ _ rfl Tryz.underlying22 [[],[],[]] [[[21],[42]],[[57],[30]],[[45],[54]]] rfl HRO.out rfl HX.out (by decide) (by decide) (by decide) (by simp [HST.out.2.2.2]) ?_;intro v1 r1 hrow1 hgrow1 _;(have hC1:Cols r1.heap.size r1 v1 cssT3:=hrow1.cols);(have hBg:Below (w.heap.size+19) ((allocs w (osT w)).alloc (.cells #[.slice none 0 0,.slice none 0 0,.slice none 0 0] 41)) r1:=below_grown (Below.refl _ _) hgrow1 (by simp [HST.out.2.2.2]) (fun q e=>RowG.own_le HRO.out q e));(have hBA:=HST.out.2.2.1.trans (hBg.mono (by rw [HST.out.2.2.2];exact Nat.le_refl _)));(have hs:=HST.out.1.below hBA);(have hBw:=below_in HST.out.2.1 hBA);obtain ⟨A1,n1,rfl,_,_⟩:=id hC1;clear hrow1 hgrow1 hBg hBA HRO HX HST;simp only [Nat.add_assoc,Nat.reduceAdd])
 refine (three_T _ _ (HLW.out _ hBw) (Nat.le_refl _) hC1).mono ?_
 rintro e r2 ⟨u1,rfl,hu1,hB⟩
 obtain ⟨Aa,ka,e2,_,_⟩:=id hu1
 have e2':u1 = .slice Aa 3 ka:=e2
 subst e2'
 replace hs:=hs.below hB
 replace hBw:=below_in hBw hB
 clear hC1 hB e2
 go_wp2_with fail
 have HSS:Hid (∀ V,Below r2.heap.size r2 V→(fun U:World=>U.cell? ⟨w.heap.size+18,0,none⟩=some (.slice (some ⟨w.heap.size+2,0,none⟩) 2 2)∧U.cell? ⟨w.heap.size+18,1,none⟩=some (.slice (some ⟨w.heap.size+5,0,none⟩) 2 2)∧U.cell? ⟨w.heap.size+18,2,none⟩=some (.slice (some ⟨w.heap.size+8,0,none⟩) 2 2)∧U.cell? ⟨w.heap.size+18,3,none⟩=some (.slice (some ⟨w.heap.size+11,0,none⟩) 2 2)∧U.cell? ⟨w.heap.size+18,4,none⟩=some (.slice (some ⟨w.heap.size+14,0,none⟩) 2 2)∧U.cell? ⟨w.heap.size+18,5,none⟩=some (.slice (some ⟨w.heap.size+17,0,none⟩) 2 2)) V):=fun V hV=>⟨((hs.below hV).hb.cell 0),((hs.below hV).hb.cell 1),((hs.below hV).hb.cell 2),((hs.below hV).hb.cell 3),((hs.below hV).hb.cell 4),((hs.below hV).hb.cell 5)⟩
 have hBx:=Below.refl r2.heap.size r2
 have hd:Below r2.heap.size r2 r2.drew:=(Below.refl _ _).drew
 replace hs:=hs.below hd
 replace hu1:=(hu1.below hd).more hd.size
 replace hBx:=below_in hBx hd
 clear hd
 have hS:(fun U:World=>U.cell? ⟨w.heap.size+18,0,none⟩=some (.slice (some ⟨w.heap.size+2,0,none⟩) 2 2)∧U.cell? ⟨w.heap.size+18,1,none⟩=some (.slice (some ⟨w.heap.size+5,0,none⟩) 2 2)∧U.cell? ⟨w.heap.size+18,2,none⟩=some (.slice (some ⟨w.heap.size+8,0,none⟩) 2 2)∧U.cell? ⟨w.heap.size+18,3,none⟩=some (.slice (some ⟨w.heap.size+11,0,none⟩) 2 2)∧U.cell? ⟨w.heap.size+18,4,none⟩=some (.slice (some ⟨w.heap.size+14,0,none⟩) 2 2)∧U.cell? ⟨w.heap.size+18,5,none⟩=some (.slice (some ⟨w.heap.size+17,0,none⟩) 2 2)) r2.drew:=HSS.out _ hBx
 refine (wpIn_wide (n:=12)).1 (wpIn_mono (region_HF (Q:=NoPanic _) (S:=(fun U:World=>U.cell? ⟨w.heap.size+18,0,none⟩=some (.slice (some ⟨w.heap.size+2,0,none⟩) 2 2)∧U.cell? ⟨w.heap.size+18,1,none⟩=some (.slice (some ⟨w.heap.size+5,0,none⟩) 2 2)∧U.cell? ⟨w.heap.size+18,2,none⟩=some (.slice (some ⟨w.heap.size+8,0,none⟩) 2 2)∧U.cell? ⟨w.heap.size+18,3,none⟩=some (.slice (some ⟨w.heap.size+11,0,none⟩) 2 2)∧U.cell? ⟨w.heap.size+18,4,none⟩=some (.slice (some ⟨w.heap.size+14,0,none⟩) 2 2)∧U.cell? ⟨w.heap.size+18,5,none⟩=some (.slice (some ⟨w.heap.size+17,0,none⟩) 2 2))) (by kernel_rfl) ?_) NoPanic.imp)
 refine tkF (i:=0) (d:=40) (v:=.slice (some ⟨w.heap.size+18,0,none⟩) 6 6) (s:=hS) (c:=?_)
 simp only [ud9]
 refine tkF (i:=1) (d:=41) (v:=.pointer (some ⟨w.heap.size+18,1,none⟩)) (s:=hS) (c:=?_)
 simp only [ud9]
 refine tkF (i:=2) (d:=42) (v:=.slice (some ⟨w.heap.size+5,0,none⟩) 2 2) (s:=hS) (c:=?_)
 simp only [ud9]
 refine tkF (i:=3) (d:=43) (v:=.slice (some ⟨w.heap.size+18,0,none⟩) 6 6) (s:=hS) (c:=?_)
 simp only [ud9]
 refine tkF (i:=4) (d:=44) (v:=.pointer (some ⟨w.heap.size+18,4,none⟩)) (s:=hS) (c:=?_)
 simp only [ud9]
 refine tkF (i:=5) (d:=45) (v:=.slice (some ⟨w.heap.size+14,0,none⟩) 2 2) (s:=hS) (c:=?_)
 simp only [ud9]
 refine tkF (i:=6) (d:=46) (v:=.slice (some ⟨w.heap.size+18,0,none⟩) 6 6) (s:=hS) (c:=?_)
 simp only [ud9]
 refine tkF (i:=7) (d:=47) (v:=.pointer (some ⟨w.heap.size+18,5,none⟩)) (s:=hS) (c:=?_)
 simp only [ud9]
 refine tkF (i:=8) (d:=48) (v:=.slice (some ⟨w.heap.size+17,0,none⟩) 2 2) (s:=hS) (c:=?_)
 simp only [ud9]
 refine oneF (i:=9) (c:=?_)
 have hgl_g2:=hBx.size
 have hB:Below r2.drew.heap.size r2.drew (r2.drew.alloc (.cells #[.slice none 0 0,.slice (some ⟨w.heap.size+5,0,none⟩) 2 2,.slice none 0 0,.slice none 0 0,.slice (some ⟨w.heap.size+14,0,none⟩) 2 2,.slice (some ⟨w.heap.size+17,0,none⟩) 2 2] 41)):=below_one r2.drew _
 have bE:Blk (r2.drew.alloc (.cells #[.slice none 0 0,.slice (some ⟨w.heap.size+5,0,none⟩) 2 2,.slice none 0 0,.slice none 0 0,.slice (some ⟨w.heap.size+14,0,none⟩) 2 2,.slice (some ⟨w.heap.size+17,0,none⟩) 2 2] 41)) r2.drew.heap.size 41 #[.slice none 0 0,.slice (some ⟨w.heap.size+5,0,none⟩) 2 2,.slice none 0 0,.slice none 0 0,.slice (some ⟨w.heap.size+14,0,none⟩) 2 2,.slice (some ⟨w.heap.size+17,0,none⟩) 2 2]:=Blk.new r2.drew _ _
 obtain ⟨v1,he_v1⟩:∃ x,(r2.drew.alloc (.cells #[.slice none 0 0,.slice (some ⟨w.heap.size+5,0,none⟩) 2 2,.slice none 0 0,.slice none 0 0,.slice (some ⟨w.heap.size+14,0,none⟩) 2 2,.slice (some ⟨w.heap.size+17,0,none⟩) 2 2] 41))=x:=⟨_,rfl⟩
 obtain ⟨g2,hg_g2⟩:∃ x,r2.drew.heap.size=x:=⟨_,rfl⟩
 rw [he_v1] at hB bE
 rw [hg_g2] at bE
 replace hs:=hs.below hB
 replace hu1:=(hu1.below hB).more hB.size
 replace hBx:=below_in hBx hB
 clear hS
 have hS:(fun U:World=>U.cell? ⟨w.heap.size+18,0,none⟩=some (.slice (some ⟨w.heap.size+2,0,none⟩) 2 2)∧U.cell? ⟨w.heap.size+18,1,none⟩=some (.slice (some ⟨w.heap.size+5,0,none⟩) 2 2)∧U.cell? ⟨w.heap.size+18,2,none⟩=some (.slice (some ⟨w.heap.size+8,0,none⟩) 2 2)∧U.cell? ⟨w.heap.size+18,3,none⟩=some (.slice (some ⟨w.heap.size+11,0,none⟩) 2 2)∧U.cell? ⟨w.heap.size+18,4,none⟩=some (.slice (some ⟨w.heap.size+14,0,none⟩) 2 2)∧U.cell? ⟨w.heap.size+18,5,none⟩=some (.slice (some ⟨w.heap.size+17,0,none⟩) 2 2)) v1:=HSS.out _ hBx
 gi_wp2
 (try rw [hg_g2]);(try rw [he_v1])
 try (refine ⟨hS,?_⟩)
 clear hB he_v1 hg_g2
 refine oneF (i:=10) (c:=?_)
 gi_wp2_with fail
 refine ⟨trivial,(callsIn_wide.2 (two_T _ v1 (HLW.out _ (below_in hBw hBx)) (Nat.le_refl _) (cols_K2 hs bE))).mono ?_⟩
 rintro e v3 ⟨u2,rfl,hu2,hB⟩
 obtain ⟨Ab,kb,e2,_,_⟩:=id hu2
 have e2':u2 = .slice Ab 2 kb:=e2
 subst e2'
 clear e2 bE
 replace hs:=hs.below hB
 replace hu1:=(hu1.below hB).more hB.size
 replace hBx:=below_in hBx hB
 clear hS
 have hS:(fun U:World=>U.cell? ⟨w.heap.size+18,0,none⟩=some (.slice (some ⟨w.heap.size+2,0,none⟩) 2 2)∧U.cell? ⟨w.heap.size+18,1,none⟩=some (.slice (some ⟨w.heap.size+5,0,none⟩) 2 2)∧U.cell? ⟨w.heap.size+18,2,none⟩=some (.slice (some ⟨w.heap.size+8,0,none⟩) 2 2)∧U.cell? ⟨w.heap.size+18,3,none⟩=some (.slice (some ⟨w.heap.size+11,0,none⟩) 2 2)∧U.cell? ⟨w.heap.size+18,4,none⟩=some (.slice (some ⟨w.heap.size+14,0,none⟩) 2 2)∧U.cell? ⟨w.heap.size+18,5,none⟩=some (.slice (some ⟨w.heap.size+17,0,none⟩) 2 2)) v3:=HSS.out _ hBx
 clear hB
 gi_wp2
 try (refine ⟨hS,?_⟩)
 refine tkF (i:=11) (d:=39) (v:=.tuple #[.slice Ab 2 kb,.int .i64 0]) (s:=hS) (c:=?_)
 simp only [ud9]
 refine tkF (i:=12) (d:=51) (v:=.slice Ab 2 kb) (s:=hS) (c:=?_)
 simp only [ud9]
 refine tkF (i:=13) (d:=52) (v:=.int .i64 0) (s:=hS) (c:=?_)
 simp only [ud9]
 refine oneF (i:=14) (c:=?_)
 gi_wp2
 refine oneF (i:=15) (c:=?_)
 gi_wp2
 refine anyHF_done (by kernel_rfl) ?_ _
 refine NoPanic.normal ?_
 clear hS
 go_wp2_with fail
 have hd:Below v3.heap.size v3 v3.drew:=(Below.refl _ _).drew
 replace hs:=hs.below hd
 replace hu1:=(hu1.below hd).more hd.size
 replace hu2:=(hu2.below hd).more hd.size
 replace hBx:=below_in hBx hd
 clear hd
 have hS:(fun U:World=>U.cell? ⟨w.heap.size+18,0,none⟩=some (.slice (some ⟨w.heap.size+2,0,none⟩) 2 2)∧U.cell? ⟨w.heap.size+18,1,none⟩=some (.slice (some ⟨w.heap.size+5,0,none⟩) 2 2)∧U.cell? ⟨w.heap.size+18,2,none⟩=some (.slice (some ⟨w.heap.size+8,0,none⟩) 2 2)∧U.cell? ⟨w.heap.size+18,3,none⟩=some (.slice (some ⟨w.heap.size+11,0,none⟩) 2 2)∧U.cell? ⟨w.heap.size+18,4,none⟩=some (.slice (some ⟨w.heap.size+14,0,none⟩) 2 2)∧U.cell? ⟨w.heap.size+18,5,none⟩=some (.slice (some ⟨w.heap.size+17,0,none⟩) 2 2)) v3.drew:=HSS.out _ hBx
 refine (wpIn_wide (n:=12)).1 (wpIn_mono (region_HF (Q:=NoPanic _) (S:=(fun U:World=>U.cell? ⟨w.heap.size+18,0,none⟩=some (.slice (some ⟨w.heap.size+2,0,none⟩) 2 2)∧U.cell? ⟨w.heap.size+18,1,none⟩=some (.slice (some ⟨w.heap.size+5,0,none⟩) 2 2)∧U.cell? ⟨w.heap.size+18,2,none⟩=some (.slice (some ⟨w.heap.size+8,0,none⟩) 2 2)∧U.cell? ⟨w.heap.size+18,3,none⟩=some (.slice (some ⟨w.heap.size+11,0,none⟩) 2 2)∧U.cell? ⟨w.heap.size+18,4,none⟩=some (.slice (some ⟨w.heap.size+14,0,none⟩) 2 2)∧U.cell? ⟨w.heap.size+18,5,none⟩=some (.slice (some ⟨w.heap.size+17,0,none⟩) 2 2))) (by kernel_rfl) ?_) NoPanic.imp)
 refine tkF (i:=0) (d:=54) (v:=.slice (some ⟨w.heap.size+18,0,none⟩) 6 6) (s:=hS) (c:=?_)
 simp only [ud9]
 refine tkF (i:=1) (d:=55) (v:=.pointer (some ⟨w.heap.size+18,0,none⟩)) (s:=hS) (c:=?_)
 simp only [ud9]
 refine tkF (i:=2) (d:=56) (v:=.slice (some ⟨w.heap.size+2,0,none⟩) 2 2) (s:=hS) (c:=?_)
 simp only [ud9]
 refine tkF (i:=3) (d:=57) (v:=.slice (some ⟨w.heap.size+18,0,none⟩) 6 6) (s:=hS) (c:=?_)
 simp only [ud9]
 refine tkF (i:=4) (d:=58) (v:=.pointer (some ⟨w.heap.size+18,2,none⟩)) (s:=hS) (c:=?_)
 simp only [ud9]
 refine tkF (i:=5) (d:=59) (v:=.slice (some ⟨w.heap.size+8,0,none⟩) 2 2) (s:=hS) (c:=?_)
 simp only [ud9]
 refine tkF (i:=6) (d:=60) (v:=.slice (some ⟨w.heap.size+18,0,none⟩) 6 6) (s:=hS) (c:=?_)
 simp only [ud9]
 refine tkF (i:=7) (d:=61) (v:=.pointer (some ⟨w.heap.size+18,5,none⟩)) (s:=hS) (c:=?_)
 simp only [ud9]
 refine tkF (i:=8) (d:=62) (v:=.slice (some ⟨w.heap.size+17,0,none⟩) 2 2) (s:=hS) (c:=?_)
 simp only [ud9]
 refine oneF (i:=9) (c:=?_)
 have hgl_g22:=hBx.size
 have hB:Below v3.drew.heap.size v3.drew (v3.drew.alloc (.cells #[.slice (some ⟨w.heap.size+2,0,none⟩) 2 2,.slice none 0 0,.slice (some ⟨w.heap.size+8,0,none⟩) 2 2,.slice none 0 0,.slice none 0 0,.slice (some ⟨w.heap.size+17,0,none⟩) 2 2] 41)):=below_one v3.drew _
 have bE:Blk (v3.drew.alloc (.cells #[.slice (some ⟨w.heap.size+2,0,none⟩) 2 2,.slice none 0 0,.slice (some ⟨w.heap.size+8,0,none⟩) 2 2,.slice none 0 0,.slice none 0 0,.slice (some ⟨w.heap.size+17,0,none⟩) 2 2] 41)) v3.drew.heap.size 41 #[.slice (some ⟨w.heap.size+2,0,none⟩) 2 2,.slice none 0 0,.slice (some ⟨w.heap.size+8,0,none⟩) 2 2,.slice none 0 0,.slice none 0 0,.slice (some ⟨w.heap.size+17,0,none⟩) 2 2]:=Blk.new v3.drew _ _
 obtain ⟨v21,he_v21⟩:∃ x,(v3.drew.alloc (.cells #[.slice (some ⟨w.heap.size+2,0,none⟩) 2 2,.slice none 0 0,.slice (some ⟨w.heap.size+8,0,none⟩) 2 2,.slice none 0 0,.slice none 0 0,.slice (some ⟨w.heap.size+17,0,none⟩) 2 2] 41))=x:=⟨_,rfl⟩
 obtain ⟨g22,hg_g22⟩:∃ x,v3.drew.heap.size=x:=⟨_,rfl⟩
 rw [he_v21] at hB bE
 rw [hg_g22] at bE
 replace hs:=hs.below hB
 replace hu1:=(hu1.below hB).more hB.size
 replace hu2:=(hu2.below hB).more hB.size
 replace hBx:=below_in hBx hB
 clear hS
 have hS:(fun U:World=>U.cell? ⟨w.heap.size+18,0,none⟩=some (.slice (some ⟨w.heap.size+2,0,none⟩) 2 2)∧U.cell? ⟨w.heap.size+18,1,none⟩=some (.slice (some ⟨w.heap.size+5,0,none⟩) 2 2)∧U.cell? ⟨w.heap.size+18,2,none⟩=some (.slice (some ⟨w.heap.size+8,0,none⟩) 2 2)∧U.cell? ⟨w.heap.size+18,3,none⟩=some (.slice (some ⟨w.heap.size+11,0,none⟩) 2 2)∧U.cell? ⟨w.heap.size+18,4,none⟩=some (.slice (some ⟨w.heap.size+14,0,none⟩) 2 2)∧U.cell? ⟨w.heap.size+18,5,none⟩=some (.slice (some ⟨w.heap.size+17,0,none⟩) 2 2)) v21:=HSS.out _ hBx
 gi_wp2
 (try rw [hg_g22]);(try rw [he_v21])
 try (refine ⟨hS,?_⟩)
 clear hB he_v21 hg_g22
 refine oneF (i:=10) (c:=?_)
 gi_wp2_with fail
 refine ⟨trivial,(callsIn_wide.2 (one_T _ v21 (HLW.out _ (below_in hBw hBx)) (Nat.le_refl _) (cols_K1 hs bE))).mono ?_⟩
 rintro e v23 ⟨u3,rfl,hu3,hB⟩
 obtain ⟨Ac,kc,e2,_,_⟩:=id hu3
 have e2':u3 = .slice Ac 2 kc:=e2
 subst e2'
 clear e2 bE
 replace hs:=hs.below hB
 replace hu1:=(hu1.below hB).more hB.size
 replace hu2:=(hu2.below hB).more hB.size
 replace hBx:=below_in hBx hB
 clear hS
 have hS:(fun U:World=>U.cell? ⟨w.heap.size+18,0,none⟩=some (.slice (some ⟨w.heap.size+2,0,none⟩) 2 2)∧U.cell? ⟨w.heap.size+18,1,none⟩=some (.slice (some ⟨w.heap.size+5,0,none⟩) 2 2)∧U.cell? ⟨w.heap.size+18,2,none⟩=some (.slice (some ⟨w.heap.size+8,0,none⟩) 2 2)∧U.cell? ⟨w.heap.size+18,3,none⟩=some (.slice (some ⟨w.heap.size+11,0,none⟩) 2 2)∧U.cell? ⟨w.heap.size+18,4,none⟩=some (.slice (some ⟨w.heap.size+14,0,none⟩) 2 2)∧U.cell? ⟨w.heap.size+18,5,none⟩=some (.slice (some ⟨w.heap.size+17,0,none⟩) 2 2)) v23:=HSS.out _ hBx
 clear hB
 gi_wp2
 try (refine ⟨hS,?_⟩)
 refine tkF (i:=11) (d:=53) (v:=.tuple #[.slice Ac 2 kc,.int .i64 0]) (s:=hS) (c:=?_)
 simp only [ud9]
 refine tkF (i:=12) (d:=65) (v:=.slice Ac 2 kc) (s:=hS) (c:=?_)
 simp only [ud9]
 refine tkF (i:=13) (d:=66) (v:=.int .i64 0) (s:=hS) (c:=?_)
 simp only [ud9]
 refine oneF (i:=14) (c:=?_)
 gi_wp2
 refine oneF (i:=15) (c:=?_)
 gi_wp2
 refine anyHF_done (by kernel_rfl) ?_ _
 refine NoPanic.normal ?_
 clear hS
 go_wp2_with fail
 refine (three_N _ _ _ (HLW.out _ (below_in hBw hBx))).mono ?_
 rintro e r5 ⟨rfl,hB⟩
 replace hs:=hs.below hB
 replace hu1:=(hu1.below hB).more hB.size
 replace hu2:=(hu2.below hB).more hB.size
 replace hu3:=(hu3.below hB).more hB.size
 replace hBx:=below_in hBx hB
 clear hB
 go_wp2_with fail
 refine (one_N _ _ _ (HLW.out _ (below_in hBw hBx))).mono ?_
 rintro e r6 ⟨rfl,hB⟩
 replace hs:=hs.below hB
 replace hu1:=(hu1.below hB).more hB.size
 replace hu2:=(hu2.below hB).more hB.size
 replace hu3:=(hu3.below hB).more hB.size
 replace hBx:=below_in hBx hB
 clear hB
 go_wp2_with fail
 have hwz:IntKind.i64.wrap 0=0:=by kernel_rfl
 have hd:Below r6.heap.size r6 r6.drew:=(Below.refl _ _).drew
 replace hs:=hs.below hd
 replace hu1:=(hu1.below hd).more hd.size
 replace hu2:=(hu2.below hd).more hd.size
 replace hu3:=(hu3.below hd).more hd.size
 replace hBx:=below_in hBx hd
 clear hd
 have hS:(fun U:World=>U.cell? ⟨w.heap.size+18,0,none⟩=some (.slice (some ⟨w.heap.size+2,0,none⟩) 2 2)∧U.cell? ⟨w.heap.size+18,1,none⟩=some (.slice (some ⟨w.heap.size+5,0,none⟩) 2 2)∧U.cell? ⟨w.heap.size+18,2,none⟩=some (.slice (some ⟨w.heap.size+8,0,none⟩) 2 2)∧U.cell? ⟨w.heap.size+18,3,none⟩=some (.slice (some ⟨w.heap.size+11,0,none⟩) 2 2)∧U.cell? ⟨w.heap.size+18,4,none⟩=some (.slice (some ⟨w.heap.size+14,0,none⟩) 2 2)∧U.cell? ⟨w.heap.size+18,5,none⟩=some (.slice (some ⟨w.heap.size+17,0,none⟩) 2 2)) r6.drew:=HSS.out _ hBx
 refine (wpIn_wide (n:=12)).1 (wpIn_mono (region_HF (Q:=NoPanic _) (S:=(fun U:World=>U.cell? ⟨w.heap.size+18,0,none⟩=some (.slice (some ⟨w.heap.size+2,0,none⟩) 2 2)∧U.cell? ⟨w.heap.size+18,1,none⟩=some (.slice (some ⟨w.heap.size+5,0,none⟩) 2 2)∧U.cell? ⟨w.heap.size+18,2,none⟩=some (.slice (some ⟨w.heap.size+8,0,none⟩) 2 2)∧U.cell? ⟨w.heap.size+18,3,none⟩=some (.slice (some ⟨w.heap.size+11,0,none⟩) 2 2)∧U.cell? ⟨w.heap.size+18,4,none⟩=some (.slice (some ⟨w.heap.size+14,0,none⟩) 2 2)∧U.cell? ⟨w.heap.size+18,5,none⟩=some (.slice (some ⟨w.heap.size+17,0,none⟩) 2 2))) (by kernel_rfl) ?_) NoPanic.imp)
 refine tkF (i:=0) (d:=77) (v:=.int .i64 0) (s:=hS) (c:=?_)
 simp only [ud9]
 refine tkF (i:=2) (d:=79) (v:=.int .i64 0) (s:=hS) (c:=?_)
 simp only [ud9]
 refine tkF (i:=5) (d:=82) (v:=.int .i64 0) (s:=hS) (c:=?_)
 simp only [ud9]
 refine oneF (i:=1) (c:=?_)
 gi_wp2_with fail
 refine ⟨trivial,(callsIn_wide.2 (num13_any _ _)).mono ?_⟩
 rintro e v41 ⟨rfl,rfl⟩
 gi_wp2
 try (refine ⟨hS,?_⟩)
 refine oneF (i:=3) (c:=?_)
 gi_wp2_with fail
 refine ⟨trivial,(callsIn_wide.2 (num13_any _ _)).mono ?_⟩
 rintro e v42 ⟨rfl,rfl⟩
 gi_wp2
 try (refine ⟨hS,?_⟩)
 refine tkF (i:=4) (d:=81) (v:=.int .i64 0) (s:=hS) (c:=?_)
 simp only [ud9]
 refine oneF (i:=6) (c:=?_)
 gi_wp2_with fail
 refine ⟨trivial,(callsIn_wide.2 (num13_any _ _)).mono ?_⟩
 rintro e v43 ⟨rfl,rfl⟩
 gi_wp2
 try (refine ⟨hS,?_⟩)
 refine tkF (i:=7) (d:=84) (v:=.int .i64 0) (s:=hS) (c:=?_)
 simp only [ud9]
 refine tkF (i:=8) (d:=85) (v:=.bool true) (s:=hS) (c:=?_)
 simp only [ud9]
 refine tkF (i:=9) (d:=86) (v:=.bool true) (s:=hS) (c:=?_)
 simp only [ud9]
 refine tkF (i:=10) (d:=87) (v:=.slice Aa 3 ka) (s:=hS) (c:=?_)
 simp only [ud9]
 refine tkF (i:=11) (d:=88) (v:=.slice (some ⟨w.heap.size+18,0,none⟩) 6 6) (s:=hS) (c:=?_)
 simp only [ud9]
 refine tkF (i:=12) (d:=89) (v:=.slice (some ⟨w.heap.size+18,0,none⟩) 3 6) (s:=hS) (c:=?_)
 simp only [ud9]
 refine oneF (i:=13) (c:=?_)
 gi_wp2_with fail
 refine ⟨trivial,(callsIn_wide.2 (same_T (by decide) (by decide) _ _ r6.drew hu1 (cols_03 hs))).mono ?_⟩
 rintro e v44 ⟨rfl,hB⟩
 replace hs:=hs.below hB
 replace hu1:=(hu1.below hB).more hB.size
 replace hu2:=(hu2.below hB).more hB.size
 replace hu3:=(hu3.below hB).more hB.size
 replace hBx:=below_in hBx hB
 clear hS
 have hS:(fun U:World=>U.cell? ⟨w.heap.size+18,0,none⟩=some (.slice (some ⟨w.heap.size+2,0,none⟩) 2 2)∧U.cell? ⟨w.heap.size+18,1,none⟩=some (.slice (some ⟨w.heap.size+5,0,none⟩) 2 2)∧U.cell? ⟨w.heap.size+18,2,none⟩=some (.slice (some ⟨w.heap.size+8,0,none⟩) 2 2)∧U.cell? ⟨w.heap.size+18,3,none⟩=some (.slice (some ⟨w.heap.size+11,0,none⟩) 2 2)∧U.cell? ⟨w.heap.size+18,4,none⟩=some (.slice (some ⟨w.heap.size+14,0,none⟩) 2 2)∧U.cell? ⟨w.heap.size+18,5,none⟩=some (.slice (some ⟨w.heap.size+17,0,none⟩) 2 2)) v44:=HSS.out _ hBx
 clear hB
 gi_wp2
 try (refine ⟨hS,?_⟩)
 refine tkF (i:=14) (d:=91) (v:=.bool true) (s:=hS) (c:=?_)
 simp only [ud9]
 refine tkF (i:=15) (d:=92) (v:=.bool true) (s:=hS) (c:=?_)
 simp only [ud9]
 refine tkF (i:=16) (d:=93) (v:=.slice Ab 2 kb) (s:=hS) (c:=?_)
 simp only [ud9]
 refine tkF (i:=17) (d:=94) (v:=.slice (some ⟨w.heap.size+18,0,none⟩) 6 6) (s:=hS) (c:=?_)
 simp only [ud9]
 refine tkF (i:=18) (d:=95) (v:=.pointer (some ⟨w.heap.size+18,0,none⟩)) (s:=hS) (c:=?_)
 simp only [ud9]
 refine tkF (i:=19) (d:=96) (v:=.slice (some ⟨w.heap.size+2,0,none⟩) 2 2) (s:=hS) (c:=?_)
 simp only [ud9]
 refine tkF (i:=20) (d:=97) (v:=.slice (some ⟨w.heap.size+18,0,none⟩) 6 6) (s:=hS) (c:=?_)
 simp only [ud9]
 refine tkF (i:=21) (d:=98) (v:=.pointer (some ⟨w.heap.size+18,2,none⟩)) (s:=hS) (c:=?_)
 simp only [ud9]
 refine tkF (i:=22) (d:=99) (v:=.slice (some ⟨w.heap.size+8,0,none⟩) 2 2) (s:=hS) (c:=?_)
 simp only [ud9]
 refine oneF (i:=23) (c:=?_)
 have hgl_g46:=hBx.size
 have hB:Below v44.heap.size v44 (v44.alloc (.cells #[.slice (some ⟨w.heap.size+2,0,none⟩) 2 2,.slice (some ⟨w.heap.size+8,0,none⟩) 2 2] 41)):=below_one v44 _
 have bE:Blk (v44.alloc (.cells #[.slice (some ⟨w.heap.size+2,0,none⟩) 2 2,.slice (some ⟨w.heap.size+8,0,none⟩) 2 2] 41)) v44.heap.size 41 #[.slice (some ⟨w.heap.size+2,0,none⟩) 2 2,.slice (some ⟨w.heap.size+8,0,none⟩) 2 2]:=Blk.new v44 _ _
 obtain ⟨v45,he_v45⟩:∃ x,(v44.alloc (.cells #[.slice (some ⟨w.heap.size+2,0,none⟩) 2 2,.slice (some ⟨w.heap.size+8,0,none⟩) 2 2] 41))=x:=⟨_,rfl⟩
 obtain ⟨g46,hg_g46⟩:∃ x,v44.heap.size=x:=⟨_,rfl⟩
 rw [he_v45] at hB bE
 rw [hg_g46] at bE
 replace hs:=hs.below hB
 replace hu1:=(hu1.below hB).more hB.size
 replace hu2:=(hu2.below hB).more hB.size
 replace hu3:=(hu3.below hB).more hB.size
 replace hBx:=below_in hBx hB
 clear hS
 have hS:(fun U:World=>U.cell? ⟨w.heap.size+18,0,none⟩=some (.slice (some ⟨w.heap.size+2,0,none⟩) 2 2)∧U.cell? ⟨w.heap.size+18,1,none⟩=some (.slice (some ⟨w.heap.size+5,0,none⟩) 2 2)∧U.cell? ⟨w.heap.size+18,2,none⟩=some (.slice (some ⟨w.heap.size+8,0,none⟩) 2 2)∧U.cell? ⟨w.heap.size+18,3,none⟩=some (.slice (some ⟨w.heap.size+11,0,none⟩) 2 2)∧U.cell? ⟨w.heap.size+18,4,none⟩=some (.slice (some ⟨w.heap.size+14,0,none⟩) 2 2)∧U.cell? ⟨w.heap.size+18,5,none⟩=some (.slice (some ⟨w.heap.size+17,0,none⟩) 2 2)) v45:=HSS.out _ hBx
 gi_wp2
 (try rw [hg_g46]);(try rw [he_v45])
 try (refine ⟨hS,?_⟩)
 clear hB he_v45 hg_g46
 refine oneF (i:=24) (c:=?_)
 gi_wp2_with fail
 refine ⟨trivial,(callsIn_wide.2 (same_T (by decide) (by decide) _ _ v45 hu2 (cols_K0 hs bE))).mono ?_⟩
 rintro e v47 ⟨rfl,hB⟩
 replace bE:=bE.below hB bE.lt
 replace hs:=hs.below hB
 replace hu1:=(hu1.below hB).more hB.size
 replace hu2:=(hu2.below hB).more hB.size
 replace hu3:=(hu3.below hB).more hB.size
 replace hBx:=below_in hBx hB
 clear hS
 have hS:(fun U:World=>U.cell? ⟨w.heap.size+18,0,none⟩=some (.slice (some ⟨w.heap.size+2,0,none⟩) 2 2)∧U.cell? ⟨w.heap.size+18,1,none⟩=some (.slice (some ⟨w.heap.size+5,0,none⟩) 2 2)∧U.cell? ⟨w.heap.size+18,2,none⟩=some (.slice (some ⟨w.heap.size+8,0,none⟩) 2 2)∧U.cell? ⟨w.heap.size+18,3,none⟩=some (.slice (some ⟨w.heap.size+11,0,none⟩) 2 2)∧U.cell? ⟨w.heap.size+18,4,none⟩=some (.slice (some ⟨w.heap.size+14,0,none⟩) 2 2)∧U.cell? ⟨w.heap.size+18,5,none⟩=some (.slice (some ⟨w.heap.size+17,0,none⟩) 2 2)) v47:=HSS.out _ hBx
 clear hB
 gi_wp2
 try (refine ⟨hS,?_⟩)
 refine tkF (i:=25) (d:=102) (v:=.bool true) (s:=hS) (c:=?_)
 simp only [ud9]
 refine tkF (i:=26) (d:=103) (v:=.bool true) (s:=hS) (c:=?_)
 simp only [ud9]
 refine tkF (i:=27) (d:=104) (v:=.slice Ac 2 kc) (s:=hS) (c:=?_)
 simp only [ud9]
 refine tkF (i:=28) (d:=105) (v:=.slice (some ⟨w.heap.size+18,0,none⟩) 6 6) (s:=hS) (c:=?_)
 simp only [ud9]
 refine tkF (i:=29) (d:=106) (v:=.pointer (some ⟨w.heap.size+18,1,none⟩)) (s:=hS) (c:=?_)
 simp only [ud9]
 refine tkF (i:=30) (d:=107) (v:=.slice (some ⟨w.heap.size+5,0,none⟩) 2 2) (s:=hS) (c:=?_)
 simp only [ud9]
 refine oneF (i:=31) (c:=?_)
 gi_wp2_with fail
 refine ⟨trivial,(callsIn_wide.2 (Rg.sameY dimsW _ _ (good_W 4 8) rfl _ _ v47 hu3 hs.m1)).mono ?_⟩
 rintro e v48 ⟨rfl,hB⟩
 replace bE:=bE.below hB bE.lt
 replace hs:=hs.below hB
 replace hu1:=(hu1.below hB).more hB.size
 replace hu2:=(hu2.below hB).more hB.size
 replace hu3:=(hu3.below hB).more hB.size
 replace hBx:=below_in hBx hB
 clear hS
 have hS:(fun U:World=>U.cell? ⟨w.heap.size+18,0,none⟩=some (.slice (some ⟨w.heap.size+2,0,none⟩) 2 2)∧U.cell? ⟨w.heap.size+18,1,none⟩=some (.slice (some ⟨w.heap.size+5,0,none⟩) 2 2)∧U.cell? ⟨w.heap.size+18,2,none⟩=some (.slice (some ⟨w.heap.size+8,0,none⟩) 2 2)∧U.cell? ⟨w.heap.size+18,3,none⟩=some (.slice (some ⟨w.heap.size+11,0,none⟩) 2 2)∧U.cell? ⟨w.heap.size+18,4,none⟩=some (.slice (some ⟨w.heap.size+14,0,none⟩) 2 2)∧U.cell? ⟨w.heap.size+18,5,none⟩=some (.slice (some ⟨w.heap.size+17,0,none⟩) 2 2)) v48:=HSS.out _ hBx
 clear hB
 gi_wp2
 try (refine ⟨hS,?_⟩)
 refine tkF (i:=32) (d:=109) (v:=.bool true) (s:=hS) (c:=?_)
 simp only [ud9]
 refine tkF (i:=33) (d:=110) (v:=.bool true) (s:=hS) (c:=?_)
 simp only [ud9]
 refine tkF (i:=34) (d:=111) (v:=.int .i64 4) (s:=hS) (c:=?_)
 simp only [ud9]
 refine oneF (i:=35) (c:=?_)
 gi_wp2_with fail
 refine ⟨trivial,(callsIn_wide.2 (num13_any _ _)).mono ?_⟩
 rintro e v49 ⟨rfl,rfl⟩
 gi_wp2
 try (refine ⟨hS,?_⟩)
 refine tkF (i:=36) (d:=113) (v:=.bool true) (s:=hS) (c:=?_)
 simp only [ud9]
 refine tkF (i:=37) (d:=114) (v:=.bool true) (s:=hS) (c:=?_)
 simp only [ud9]
 refine tkF (i:=38) (d:=115) (v:=.bool true) (s:=hS) (c:=?_)
 simp only [ud9]
 refine tkF (i:=39) (d:=116) (v:=.int .i64 2) (s:=hS) (c:=?_)
 simp only [ud9]
 refine oneF (i:=40) (c:=?_)
 gi_wp2_with fail
 refine ⟨trivial,(callsIn_wide.2 (num13_any _ _)).mono ?_⟩
 rintro e v50 ⟨rfl,rfl⟩
 gi_wp2
 try (refine ⟨hS,?_⟩)
 refine tkF (i:=41) (d:=118) (v:=.bool true) (s:=hS) (c:=?_)
 simp only [ud9]
 refine tkF (i:=42) (d:=119) (v:=.bool true) (s:=hS) (c:=?_)
 simp only [ud9]
 refine oneF (i:=43) (c:=?_)
 gi_wp2
 refine anyHF_done (by kernel_rfl) ?_ _
 refine NoPanic.normal ?_
 clear hS
 go_wp2_with fail
 go_ret
 exact ⟨rfl,below_in hBw hBx⟩
end Go.Proofs.YtkllhjhkcipkoaaGreatDoor.Tr
