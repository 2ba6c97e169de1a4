/- -/
import Derived.Test.YtknkdbincaonbaaGreatDoorCCG9
import Derived.Shelf.RegionOpen
import Derived.Test.YtknkdbincaonbaaGreatDoorCCG2
import Derived.Laws.OwnMore
set_option linter.unusedVariables false
set_option linter.unusedSimpArgs false
set_option maxRecDepth 100000
set_option maxHeartbeats 8000000
namespace Go.Proofs.YtknkdbincaonbaaGreatDoor
open Go.RowKit Go.Shelf

theorem answered_no (fh ft:Nat) (k p x y:Int) (hR:¬ RightC k p) (w:World) (hL:Laid w) :
 Calls Tryz.prog 137 #[.agg #[.int .i64 k,.int .i64 p],.func (.func fh) #[] #[],.func (.func ft) #[] #[],.agg #[.int .i64 x,.int .i64 y]] w fun e w'=>e = .returned (.tuple #[.slice none 0 0,.int .i64 2])∧Below w.heap.size w w':=by
 have HA:=Lib.hid (fun W hL=>setsAsked_no k p hR W hL)
 clear hR
 obtain ⟨W0,hW0⟩:∃ W0,(w.alloc (.cells #[.int .i64 k,.int .i64 p] 24)).alloc (.cells #[.int .i64 x,.int .i64 y] 53)=W0:=⟨_,rfl⟩
 have b0:Blk W0 w.heap.size 24 #[.int .i64 k,.int .i64 p]:=by rw [←hW0];exact (Blk.new w _ _).alloc _
 have b1:Blk W0 (w.heap.size+1) 53 #[.int .i64 x,.int .i64 y]:=by rw [←hW0];exact Blk.second w _ _ _
 have hB:Below w.heap.size w W0:=by rw [←hW0];exact below_two w _ _
 have hL0:=hL.next hB
 have c0:=b0.cell 0
 have c1:=b0.cell 1
 simp only [gz9] at c0 c1
 go_enter Tryz.func137,Tryz.ntmps137
 go_wp2_with fail
 clear hW0
 refine wp_scope_jumps 0 (fun a' w'=>Below w.heap.size w w'∧∃ (u10 u12 u13 u14 u15 u16 u17 u18 u19 u20 u21 u22 u23 u24 u25 u26 u27 u28 u29:Value),a' = { tmps:=#[.agg #[.int .i64 k,.int .i64 p],.func (.func fh) #[] #[],.func (.func ft) #[] #[],.agg #[.int .i64 x,.int .i64 y],.pointer (some ⟨w.heap.size,0,none⟩),undef,undef,.pointer (some ⟨w.heap.size+1,0,none⟩),.slice none 0 0,.int .i64 0,u10,.int .i64 2,u12,u13,u14,u15,u16,u17,u18,u19,u20,u21,u22,u23,u24,u25,u26,u27,u28,u29],defers:=[] }) (fun _ _=>0) rfl ?_ ?_
 · go_wp2_with fail
   refine (HA.out _ hL0).mono ?_
   rintro e w1 ⟨rfl,hB1⟩
   replace hB:=below_in hB hB1
   replace hB:=below_in hB (below_one _ (.cells #[.int .i64 0,.int .i64 0,.int .i64 0,.int .i64 0] 177))
   go_wp2
   go_step3
   exact ⟨rfl,hB,_,_,_,_,_,_,_,_,_,_,_,_,_,_,_,_,_,_,_,rfl⟩
 · clear hB HA
   rintro a' w' ⟨hB,u10,u12,u13,u14,u15,u16,u17,u18,u19,u20,u21,u22,u23,u24,u25,u26,u27,u28,u29,rfl⟩
   go_wp2
   simp only [Exit.jump]
   go_ret2
   exact ⟨rfl,hB⟩

theorem answered_out (fh ft:Nat) (eh:∀ args W,(callFunc fh args).run Tryz.prog W = .ok (.enter fh args) W) (k p x y:Int) (hR:RightC k p) (hh:∀ W,Laid W→Calls Tryz.prog fh #[(.agg #[.int .i64 k,.int .i64 p,.int .i64 (p - shortN k),.int .i64 (p - shortN k+madeN k)]),.agg #[.int .i64 x,.int .i64 y]] W fun e w'=>e = .returned (.bool false)∧Below W.heap.size W w') (w:World) (hL:Laid w) :
 Calls Tryz.prog 137 #[.agg #[.int .i64 k,.int .i64 p],.func (.func fh) #[] #[],.func (.func ft) #[] #[],.agg #[.int .i64 x,.int .i64 y]] w fun e w'=>e = .returned (.tuple #[.slice none 0 0,.int .i64 4])∧Below w.heap.size w w':=by
 have HA:=Lib.hid (fun W hL=>setsAsked_yes k p hR W hL)
 have HH:=Lib.hid hh
 clear hR hh
 generalize p - shortN k+madeN k=c at *
 generalize p - shortN k=d at *
 obtain ⟨W0,hW0⟩:∃ W0,(w.alloc (.cells #[.int .i64 k,.int .i64 p] 24)).alloc (.cells #[.int .i64 x,.int .i64 y] 53)=W0:=⟨_,rfl⟩
 have b0:Blk W0 w.heap.size 24 #[.int .i64 k,.int .i64 p]:=by rw [←hW0];exact (Blk.new w _ _).alloc _
 have b1:Blk W0 (w.heap.size+1) 53 #[.int .i64 x,.int .i64 y]:=by rw [←hW0];exact Blk.second w _ _ _
 have hB:Below w.heap.size w W0:=by rw [←hW0];exact below_two w _ _
 have hL0:=hL.next hB
 have c0:=b0.cell 0
 have c1:=b0.cell 1
 simp only [gz9] at c0 c1
 go_enter Tryz.func137,Tryz.ntmps137
 go_wp2_with fail
 clear hW0
 refine wp_scope_jumps 0 (fun a' w'=>Below w.heap.size w w'∧∃ (u10 u12 u13 u14 u15 u16 u17 u18 u19 u20 u21 u22 u23 u24 u25 u26 u27 u28 u29:Value),a' = { tmps:=#[.agg #[.int .i64 k,.int .i64 p],.func (.func fh) #[] #[],.func (.func ft) #[] #[],.agg #[.int .i64 x,.int .i64 y],.pointer (some ⟨w.heap.size,0,none⟩),undef,undef,.pointer (some ⟨w.heap.size+1,0,none⟩),.slice none 0 0,.int .i64 0,u10,.int .i64 4,u12,u13,u14,u15,u16,u17,u18,u19,u20,u21,u22,u23,u24,u25,u26,u27,u28,u29],defers:=[] }) (fun _ _=>0) rfl ?_ ?_
 · go_wp2_with fail
   refine (HA.out _ hL0).mono ?_
   rintro e w1 ⟨rfl,hB1⟩
   replace b1:=b1.below hB1 b1.lt
   replace hB:=below_in hB hB1
   have b2:=Blk.new w1 177 #[.int .i64 k,.int .i64 p,.int .i64 d,.int .i64 c]
   replace b1:=b1.below (below_one w1 (.cells #[.int .i64 k,.int .i64 p,.int .i64 d,.int .i64 c] 177)) b1.lt
   replace hB:=below_in hB (below_one _ (.cells #[.int .i64 k,.int .i64 p,.int .i64 d,.int .i64 c] 177))
   have hL2:=hL.next hB
   have z0:=b1.cell 0
   have z1:=b1.cell 1
   simp only [gz9] at z0 z1
   go_wp2_with fail
   refine (HH.out _ hL2).mono ?_
   rintro e w1 ⟨rfl,hB1⟩
   replace hB:=below_in hB hB1
   go_wp2
   go_step3
   exact ⟨rfl,hB,_,_,_,_,_,_,_,_,_,_,_,_,_,_,_,_,_,_,_,rfl⟩
 · clear hB HA
   rintro a' w' ⟨hB,u10,u12,u13,u14,u15,u16,u17,u18,u19,u20,u21,u22,u23,u24,u25,u26,u27,u28,u29,rfl⟩
   go_wp2
   simp only [Exit.jump]
   go_ret2
   exact ⟨rfl,hB⟩

theorem answered_yes (fh ft:Nat) (eh:∀ args W,(callFunc fh args).run Tryz.prog W = .ok (.enter fh args) W) (et:∀ args W,(callFunc ft args).run Tryz.prog W = .ok (.enter ft args) W) (k p x y:Int) (hR:RightC k p) (hh:∀ W,Laid W→Calls Tryz.prog fh #[(.agg #[.int .i64 k,.int .i64 p,.int .i64 (p - shortN k),.int .i64 (p - shortN k+madeN k)]),.agg #[.int .i64 x,.int .i64 y]] W fun e w'=>e = .returned (.bool true)∧Below W.heap.size W w') (l:List (Int×Int)) (hne:l≠[]) (hnd:l.Nodup) (hlen:l.length≤1000)
 (ht:∀ W,Laid W→Calls Tryz.prog ft #[(.agg #[.int .i64 k,.int .i64 p,.int .i64 (p - shortN k),.int .i64 (p - shortN k+madeN k)]),.agg #[.int .i64 x,.int .i64 y]] W fun e w'=>∃ u,e = .returned u∧OwnP w' W.heap.size u l∧Below W.heap.size W w') (w:World) (hL:Laid w) :
 Calls Tryz.prog 137 #[.agg #[.int .i64 k,.int .i64 p],.func (.func fh) #[] #[],.func (.func ft) #[] #[],.agg #[.int .i64 x,.int .i64 y]] w fun e w'=>∃ u s,e = .returned (.tuple #[u,.int .i64 0])∧s.Perm l∧s.Pairwise (fun a b=>aheadB a b=true)∧ReadP w'.heap.size w' u s∧Below w.heap.size w w':=by
 have HA:=Lib.hid (fun W hL=>setsAsked_yes k p hR W hL)
 have HH:=Lib.hid hh
 have HT:=Lib.hid ht
 have HO:=Lib.hid (fun W base v hb ho=>told_any W base v l hne hnd hlen hb ho)
 clear hR hh ht hne hnd hlen
 generalize p - shortN k+madeN k=c at *
 generalize p - shortN k=d at *
 obtain ⟨W0,hW0⟩:∃ W0,(w.alloc (.cells #[.int .i64 k,.int .i64 p] 24)).alloc (.cells #[.int .i64 x,.int .i64 y] 53)=W0:=⟨_,rfl⟩
 have b0:Blk W0 w.heap.size 24 #[.int .i64 k,.int .i64 p]:=by rw [←hW0];exact (Blk.new w _ _).alloc _
 have b1:Blk W0 (w.heap.size+1) 53 #[.int .i64 x,.int .i64 y]:=by rw [←hW0];exact Blk.second w _ _ _
 have hB:Below w.heap.size w W0:=by rw [←hW0];exact below_two w _ _
 have hL0:=hL.next hB
 have c0:=b0.cell 0
 have c1:=b0.cell 1
 simp only [gz9] at c0 c1
 go_enter Tryz.func137,Tryz.ntmps137
 go_wp2_with fail
 clear hW0
 refine wp_scope_jumps 0 (fun a' w'=>False) (fun _ _=>0) rfl ?_ (fun _ _ h=>h.elim)
 · go_wp2_with fail
   refine (HA.out _ hL0).mono ?_
   rintro e w1 ⟨rfl,hB1⟩
   replace b1:=b1.below hB1 b1.lt
   replace hB:=below_in hB hB1
   have b2:=Blk.new w1 177 #[.int .i64 k,.int .i64 p,.int .i64 d,.int .i64 c]
   replace b1:=b1.below (below_one w1 (.cells #[.int .i64 k,.int .i64 p,.int .i64 d,.int .i64 c] 177)) b1.lt
   replace hB:=below_in hB (below_one _ (.cells #[.int .i64 k,.int .i64 p,.int .i64 d,.int .i64 c] 177))
   have hL2:=hL.next hB
   have z0:=b1.cell 0
   have z1:=b1.cell 1
   simp only [gz9] at z0 z1
   go_wp2_with fail
   refine (HH.out _ hL2).mono ?_
   rintro e w3 ⟨rfl,hB3⟩
   replace hB:=below_in hB hB3
   replace b2:=b2.below hB3 b2.lt
   replace b1:=b1.below hB3 b1.lt
   have e0:=b2.cell 0
   have e1:=b2.cell 1
   have e2:=b2.cell 2
   have e3:=b2.cell 3
   clear z0 z1
   have z0:=b1.cell 0
   have z1:=b1.cell 1
   simp only [gz9] at e0 e1 e2 e3 z0 z1
   have hL3:=hL.next hB
   go_wp2_with fail
   refine (HT.out _ hL3).mono ?_
   rintro e w4 ⟨v,rfl,ho,hB4⟩
   have hs3:=hB.size
   go_wp2_with fail
   refine (HO.out w4 w3.heap.size v hB4.size ho).mono ?_
   rintro e w5 ⟨u,s,rfl,hp,hst,hrd,hB5⟩
   go_wp2
   simp only [Exit.jump]
   go_ret2
   exact ⟨_,s,rfl,hp,hst,hrd,hB.trans ((hB4.trans hB5).mono hs3)⟩
end Go.Proofs.YtknkdbincaonbaaGreatDoor

namespace Go.Proofs.YtknkdbincaonbaaGreatDoor
open Go.RowKit Go.Shelf

theorem rowsL_sorted (p:Int):(rowsL p).Pairwise (· < ·):=by
 unfold rowsL
 rw [List.pairwise_map]
 exact (List.pairwise_lt_range).imp fun h=>by omega
theorem spanL_sorted (a b:Int):(spanL a b).Pairwise (· < ·):=by
 unfold spanL
 rw [List.pairwise_map]
 exact (List.pairwise_lt_range).imp fun h=>by omega
theorem flatC_sorted (p:Int):∀ cs:List Int,cs.Pairwise (· < ·)→(flatC p cs).Pairwise (fun a b=>aheadB a b=true)
 | [],_=>List.Pairwise.nil
 | x :: cs,h=>by
   obtain ⟨h1,h2⟩:=List.pairwise_cons.1 h
   unfold flatC
   rw [List.flatMap_cons,List.pairwise_append]
   refine ⟨?_,flatC_sorted p cs h2,?_⟩
   · rw [List.pairwise_map]
     exact (rowsL_sorted p).imp fun h=>by unfold aheadB;simp;omega
   · rintro ⟨a1,a2⟩ ha ⟨b1,b2⟩ hb
     obtain ⟨y,_,e⟩:=List.mem_map.1 ha
     obtain ⟨z,hz,hb⟩:=List.mem_flatMap.1 hb
     obtain ⟨y2,_,e2⟩:=List.mem_map.1 hb
     injection e with e _
     injection e2 with e2 _
     have:=h1 z hz
     unfold aheadB
     simp
     omega
theorem ahead_irrefl (a:Int×Int):aheadB a a=false:=by unfold aheadB;simp
theorem ahead_anti {a b:Int×Int} (h1:aheadB a b=true) (h2:aheadB b a=true):a=b:=by
 obtain ⟨a1,a2⟩:=a
 obtain ⟨b1,b2⟩:=b
 unfold aheadB at *
 simp at *
 omega
theorem sorted_nodup {l:List (Int×Int)} (h:l.Pairwise (fun a b=>aheadB a b=true)):l.Nodup:=h.imp fun {a b} hab e=>by rw [e,ahead_irrefl] at hab;cases hab
theorem sorted_one {l s:List (Int×Int)} (hp:s.Perm l) (hs:s.Pairwise (fun a b=>aheadB a b=true)) (hl:l.Pairwise (fun a b=>aheadB a b=true)):s=l :=
 hp.eq_of_pairwise (fun a b _ _ h1 h2=>ahead_anti h1 h2) hs hl
theorem memL_sorted (k p mx my:Int):(memL k p mx my).Pairwise (fun a b=>aheadB a b=true):=(flatC_sorted p _ (spanL_sorted _ _)).filter _
theorem flatC_mem {p:Int} {cs:List Int} {x y:Int} (hx:x∈cs) (hy:0≤y∧y<p - 1):(x,y)∈flatC p cs:=by
 refine List.mem_flatMap.2 ⟨x,hx,List.mem_map.2 ⟨y,?_,rfl⟩⟩
 unfold rowsL
 exact List.mem_map.2 ⟨y.toNat,List.mem_range.2 (by omega),by omega⟩
theorem memB_first {k p mx my:Int} (hR:RightC k p) (hc:HasCell k p mx my) (hx:p - shortN k≤mx):memB k p mx my 0 my=true:=by
 obtain ⟨p1,p2,s1,s2,m1,m2⟩:=hR.und
 obtain ⟨⟨h1,h2⟩,y1,y2⟩:=hc
 have hc0:HasCell k p 0 my:=⟨⟨by omega,by omega⟩,y1,y2⟩
 have hm:my % p=my:=Int.emod_eq_of_lt y1 (by omega)
 have e1:(0+my) % p=my:=by rw [Int.zero_add];exact hm
 have e2:(my - 0) % p=my:=by rw [Int.sub_zero];exact hm
 have hd:0<p - shortN k:=by omega
 unfold memB wayB
 split
 · unfold inRw;simp;omega
 · split
   · unfold onDg dgN2
     rw [if_pos hc0,e1]
     split <;> simp <;> omega
   · unfold onSl slN2
     rw [if_pos hc0,e2]
     simp;omega
theorem memL_ne {k p mx my:Int} (hR:RightC k p) (hc:HasCell k p mx my) (hx:p - shortN k≤mx):memL k p mx my≠[]:=by
 have hm:(0,my)∈memL k p mx my:=by
  obtain ⟨p1,p2,s1,s2,m1,m2⟩:=hR.und
  refine List.mem_filter.2 ⟨flatC_mem ?_ hc.2,memB_first hR hc hx⟩
  unfold spanL
  exact List.mem_map.2 ⟨0,List.mem_range.2 (by omega),rfl⟩
 intro e
 rw [e] at hm
 cases hm
theorem memL_len {k p mx my:Int} (hR:RightC k p) (hc:HasCell k p mx my):(memL k p mx my).length≤1000:=by
 obtain ⟨p1,p2,s1,s2,m1,m2⟩:=hR.und
 have h1:=List.length_filter_le (fun x:Int×Int=>memB k p mx my x.1 x.2) (flatC p (spanL 0 mx))
 have h2:=flatC_len p hR.2 (spanL 0 mx)
 rw [spanL_len] at h2
 have h3:=hc.1.2
 unfold memL
 omega
theorem enter_isMade:∀ args W,(callFunc 327 args).run Tryz.prog W = .ok (.enter 327 args) W:=enters_of Tryz.func327 (by kernel_rfl) rfl
theorem enter_members:∀ args W,(callFunc 328 args).run Tryz.prog W = .ok (.enter 328 args) W:=enters_of Tryz.func328 (by kernel_rfl) rfl

def MembersC (k p x y:Int) (w:World) (e:Ending) (w':World):Prop :=
 (¬ RightC k p→e = .returned (.tuple #[.slice none 0 0,.int .i64 2])) ∧
 (RightC k p→¬ (HasCell k p x y∧p - shortN k≤x)→e = .returned (.tuple #[.slice none 0 0,.int .i64 4])) ∧
 (RightC k p→HasCell k p x y→p - shortN k≤x→∃ u,e = .returned (.tuple #[u,.int .i64 0])∧ReadP w'.heap.size w' u (memL k p x y))∧Below w.heap.size w w'

theorem MembersC.form {k p x y:Int} {w w':World} {e:Ending} (h:MembersC k p x y w e w'):∃ (u:Value) (n:Int),e = .returned (.tuple #[u,.int .i64 n]):=by
 by_cases hR:RightC k p
 · by_cases hm:HasCell k p x y∧p - shortN k≤x
   · obtain ⟨u,e,_⟩:=h.2.2.1 hR hm.1 hm.2
     exact ⟨u,0,e⟩
   · exact ⟨_,4,h.2.1 hR hm⟩
 · exact ⟨_,2,h.1 hR⟩

theorem setsMembers_any (k p x y:Int) (w:World) (hL:Laid w):Calls Tryz.prog 315 #[.agg #[.int .i64 k,.int .i64 p],.agg #[.int .i64 x,.int .i64 y]] w (MembersC k p x y w):=by
 obtain ⟨W0,hW0⟩:∃ W0,(w.alloc (.cells #[.int .i64 k,.int .i64 p] 24)).alloc (.cells #[.int .i64 x,.int .i64 y] 53)=W0:=⟨_,rfl⟩
 have b0:Blk W0 w.heap.size 24 #[.int .i64 k,.int .i64 p]:=by rw [←hW0];exact (Blk.new w _ _).alloc _
 have b1:Blk W0 (w.heap.size+1) 53 #[.int .i64 x,.int .i64 y]:=by rw [←hW0];exact Blk.second w _ _ _
 have hB:Below w.heap.size w W0:=by rw [←hW0];exact below_two w _ _
 have hL0:=hL.next hB
 have c0:=b0.cell 0
 have c1:=b0.cell 1
 have z0:=b1.cell 0
 have z1:=b1.cell 1
 simp only [gz9] at c0 c1 z0 z1
 have HM:Hid (Calls Tryz.prog 137 #[.agg #[.int .i64 k,.int .i64 p],.func (.func 327) #[] #[],.func (.func 328) #[] #[],.agg #[.int .i64 x,.int .i64 y]] W0 (MembersC k p x y W0)):=by
  by_cases hR:RightC k p
  · have HI:=fun (b:Bool) (hb:decide (HasCell k p x y∧p - shortN k≤x)=b) W hL=>(isMade_any k p (p - shortN k) (p - shortN k+madeN k) x y hR W hL).mono fun e w' (h:e = .returned (.bool (decide (HasCell k p x y∧p - shortN k≤x)))∧Below W.heap.size W w')=>(by rw [hb] at h;exact h:e = .returned (.bool b)∧Below W.heap.size W w')
    by_cases hm:HasCell k p x y∧p - shortN k≤x
    · refine (answered_yes 327 328 enter_isMade enter_members k p x y hR (fun W hL=>HI true (decide_eq_true hm) W hL) (memL k p x y) (memL_ne hR hm.1 hm.2) (sorted_nodup (memL_sorted _ _ _ _)) (memL_len hR hm.1) (fun W hL=>members_any k p _ _ x y hR rfl hm.1 hm.2 W hL) W0 hL0).mono ?_
      rintro e w' ⟨u,s,rfl,hp,hst,hrd,hB1⟩
      rw [sorted_one hp hst (memL_sorted _ _ _ _)] at hrd
      exact ⟨fun h=>absurd hR h,fun _ h=>absurd hm h,fun _ _ _=>⟨u,rfl,hrd⟩,hB1⟩
    · exact (answered_out 327 328 enter_isMade k p x y hR (fun W hL=>HI false (decide_eq_false hm) W hL) W0 hL0).mono fun e w' ⟨h1,h2⟩=>⟨fun h=>absurd hR h,fun _ _=>h1,fun _ h3 h4=>absurd ⟨h3,h4⟩ hm,h2⟩
  · exact (answered_no 327 328 k p x y hR W0 hL0).mono fun e w' ⟨h1,h2⟩=>⟨fun _=>h1,fun h=>absurd h hR,fun h=>absurd h hR,h2⟩
 go_enter Tryz.func315,Tryz.ntmps315
 go_wp2_with fail
 clear hW0
 refine HM.out.mono ?_
 rintro e w1 hM
 obtain ⟨u,n,rfl⟩:=hM.form
 have hB1:=below_in hB hM.2.2.2
 have HH:=Lib.hid hM
 clear hM
 go_wp2
 go_ret2
 exact ⟨HH.out.1,HH.out.2.1,HH.out.2.2.1,hB1⟩
end Go.Proofs.YtknkdbincaonbaaGreatDoor

namespace Go.Proofs.YtknkdbincaonbaaGreatDoor
open Go.RowKit Go.Shelf
attribute [local go_sem] Oper.semAt_some

theorem one_way {e:Ending} {A B C D:Option Nat→Prop} (h:∃ o',A o'∧B o'∧((e = .returned (.bool true)∧C o')∨(e = .returned (.bool false)∧D o'))) :
 ∃ b,e = .returned (.bool b)∧∃ o',A o'∧B o'∧(b=true→C o')∧(b=false→D o'):=by
 obtain ⟨o',h1,h2,h3⟩:=h
 rcases h3 with ⟨rfl,h3⟩ | ⟨rfl,h3⟩
 · exact ⟨true,rfl,o',h1,h2,fun _=>h3,fun e=>absurd e (by simp)⟩
 · exact ⟨false,rfl,o',h1,h2,fun e=>absurd e (by simp),fun _=>h3⟩
theorem made1_in (n:Nat) (hn:9≤n) (l g lo mm:Nat) (k p d c:Int) (hR:RightC k p) (hd:d=p - shortN k) (hc:c=p - shortN k+madeN k) (hg:lo≤g∧g<lo+mm) (W:World) (hW:lo+mm≤W.heap.size) (hL:Laid W)
 (J Jx:List ((Int×Int)×Value)→Option Nat→World→Prop) (o₀:Option Nat) (ho₀:∀ b,o₀=some b→b<W.heap.size) (hJ:FarO W.heap.size J) (hJx:FarO W.heap.size Jx) (hr1:∀ s o X,J s o X→RowO o X) (hr2:∀ s o X,Jx s o X→RowO o X)
 (hY:∀ pre x o W1,J pre o W1→Asks (memB k p x.1.1 x.1.2) x.2 W1→pre.length<1000→W.heap.size≤W1.heap.size→YieldAt Fence.wide (n - 1) Tryz.prog l #[.agg #[.int .i64 x.1.1,.int .i64 x.1.2],x.2] W1 fun e W'=>∃ o',FreshO o o' W1∧SinceO W.heap.size o W1 W'∧((e = .returned (.bool true)∧J (pre ++ [x]) o' W'∧KeepL lo mm W1 W')∨(e = .returned (.bool false)∧Jx (pre ++ [x]) o' W')))
 (bg:Blk W g 177 #[.int .i64 k,.int .i64 p,.int .i64 d,.int .i64 c]) (h0:J [] o₀ W) :
 CallsIn Fence.wide n Tryz.prog 252 #[.func (.yield l) #[] #[],.pointer (some ⟨g,0,none⟩)] W fun e W'=>(∃ v,e = .returned v)∧∃ o',FreshO o₀ o' W∧((∃ xs,xs.map (·.1)=flatC p (spanL d c)∧J xs o' W')∨(∃ pre,pre.map (·.1) <+: flatC p (spanL d c)∧Jx pre o' W')):=by
 obtain ⟨p1,p2,s1,s2,m1,m2⟩:=hR.und
 have HS:=Lib.hid (fun W=>span_any d c (by omega) (by omega) (by omega) W)
 have hne:spanL d c≠[]:=fun e=>by have:=spanL_len d c;rw [e] at this;simp at this;omega
 have hsl:(spanL d c).length≤20:=by rw [spanL_len];omega
 have hcs:∀ x∈spanL d c,HasCol k p x:=fun x hm=>⟨by have:=(spanL_mem hm).1;omega,by have:=(spanL_mem hm).2;omega⟩
 have HDn:=Lib.hid (fun W hL base v hb ho=>setsDown_any k p d c hR (spanL d c) hne hcs hsl W hL base v hb ho)
 have HDD:=Lib.hid hd
 have HCC:=Lib.hid hc
 have HHR:=Lib.hid hR
 have HY:=Lib.hid hY
 have HR1:=Lib.hid hr1
 have HR2:=Lib.hid hr2
 have HMC:Hid (∀ m∈flatC p (spanL d c),HasCell k p m.1 m.2∧d≤m.1):=fun m hm=>by
  obtain ⟨x,hx,hm⟩:=List.mem_flatMap.1 hm
  obtain ⟨y,hy,rfl⟩:=List.mem_map.1 hm
  exact ⟨⟨hcs x hx,(rows_walk p hR.2).2.2 y hy⟩,(spanL_mem hx).1⟩
 have hzl:(flatC p (spanL d c)).length≤320:=by have:=flatC_len p hR.2 (spanL d c);omega
 clear hd hc hR hY hr1 hr2 hne hsl hcs s1 s2 m1 m2
 generalize spanL d c=cs at *
 refine callsIn_of_wp_marks Tryz.func252 rfl trivial ?_ rfl
 simp only [Tryz.ntmps252,List.size_toArray,List.length_cons,List.length_nil,Nat.reduceAdd,Nat.reduceSub,Array.replicate_succ,Array.replicate_zero,List.push_toArray,List.append_toArray,List.nil_append,List.cons_append]
 obtain ⟨W0,hW0⟩:∃ W0,W.alloc (.cells #[.func (.yield l) #[] #[]] 265)=W0:=⟨_,rfl⟩
 have hB:Below W.heap.size W W0:=by rw [←hW0];exact below_one W _
 have bY:Blk W0 W.heap.size 265 #[.func (.yield l) #[] #[]]:=by rw [←hW0];exact Blk.new W _ _
 have bg0:=bg.below hB bg.lt
 have hL0:=hL.next hB
 have hJ0:J [] o₀ W0:=hJ.below h0 hB
 have hs0:=hB.size
 gi_wp2_with fail
 clear hW0
 refine wpIn_wide.2 ?_
 go_region_held3 (fun W=>W.cell? ⟨g,0,none⟩=some (.int .i64 k)∧W.cell? ⟨g,1,none⟩=some (.int .i64 p)∧W.cell? ⟨g,2,none⟩=some (.int .i64 d)∧W.cell? ⟨g,3,none⟩=some (.int .i64 c))
  (exact ⟨bg0.cell 0,bg0.cell 1,bg0.cell 2,bg0.cell 3⟩) (first
  | (go_at_call 254;refine (HS.out _).mono ?_;rintro e w1 ⟨u1,rfl,ho1,hB1⟩;(first | replace bg0:=bg0.below hB1 bg0.lt | replace bg0:=bg0.nextd hB1);(first | replace bY:=bY.below hB1 bY.lt | replace bY:=bY.nextd hB1);(first | replace hJ0:=hJ.below hJ0 hB1 | replace hJ0:=hJ.below (hJ.below hJ0 (Below.refl _ _).drew) hB1);(first | replace hB:=below_in hB hB1 | replace hB:=below_in hB.drew hB1);have hL1:=(by first | exact Laid.next (w:=W0.drew) hL0 hB1 | exact Laid.next (w:=W0) hL0 hB1:Laid w1))
  | (go_at_call 253;refine (HDn.out _ hL1 W.heap.size _ hB.size (OwnI.less ho1 hs0)).mono ?_;rintro e w7 ⟨u2,rfl,hsq,hB2⟩;replace bg0:=bg0.below hB2 bg0.lt;replace bY:=bY.below hB2 bY.lt;replace hJ0:=hJ.below hJ0 hB2;replace hB:=below_in hB hB2))
 go_wp2_with fail
 obtain ⟨gf,lb,rfl,eg,hsg⟩:=hsq
 have s7:=hB.size
 have hL7:=hL.next hB
 have hYo:some W.heap.size≠o₀:=fun e=>by have:=ho₀ _ e.symm;omega
 gi_wp2_with fail
 refine wpIn_rangeBoxO rfl (by omega) (gf:=gf) (lb:=lb) rfl trivial eg (hsg (n - 1) (by omega)) (fun h h'=>h.trans h') (fun V l ob hl _ hlp=>⟨Keep.putFar V (by omega) ob,fun h=>laid_put h hlp ob⟩) (Below.refl _ _) (fun _=>rfl)
  (fun pre oX X=>∃ xs,xs.map (·.1)=pre∧J xs oX X∧FreshO o₀ oX w7∧Laid X∧Keep lo mm w7 X∧SinceO W.heap.size o₀ w7 X)
  (fun c pre oX X=>c = .ret∧∃ xs,xs.map (·.1)=pre∧Jx xs oX X∧FreshO o₀ oX w7∧SinceO W.heap.size o₀ w7 X)
  ?hI ?hIx o₀ (fun b e=>by have:=ho₀ b e;omega) ⟨[],rfl,hJ0,.inl rfl,hL7,Keep.refl _ _ _,SinceO.refl _ _ _⟩
  (fun z=>z∈flatC p cs) (fun _ _ h=>h) 207 (fun z:Int×Int=>#[.int .i64 z.1,.int .i64 z.2]) ?a1
  ?assign (fun pre o X h=>by obtain ⟨xs,_,h1,_⟩:=h;exact HR1.out _ _ _ h1) (fun c pre o X h=>by obtain ⟨_,xs,_,h1,_⟩:=h;exact HR2.out _ _ _ h1) ?body ?done ?stop
 case hI =>
  rintro s o X Y row ⟨xs,e1,hj,hf,hl,hk,hst⟩ hgr hr
  exact ⟨xs,e1,hJ _ o X Y row hj hgr (fun r e=>⟨by have:=(hr r e).1;omega,(hr r e).2⟩),hf,farO_laid (β:=Unit) hL7 (Nat.le_refl _) () o X Y row hl hgr hr,farO_keep (β:=Unit) w7 (Nat.le_refl _) (by omega) () o X Y row hk hgr hr,farO_since (β:=Unit) w7 o₀ (Nat.le_refl _) () o X Y row hst hgr hr⟩
 case hIx =>
  rintro c s o X Y row ⟨e0,xs,e1,hj,hf,hst⟩ hgr hr
  exact ⟨e0,xs,e1,hJx _ o X Y row hj hgr (fun r e=>⟨by have:=(hr r e).1;omega,(hr r e).2⟩),hf,farO_since (β:=Unit) w7 o₀ (Nat.le_refl _) () o X Y row hst hgr hr⟩
 case assign =>
  rintro l' pre z oX X KK hsz holX ⟨xs,e1,hj,hfX,hl,hkX,hst⟩ _ hKK
  gi_wp2
  have hbx:=Blk.new X 207 #[.int .i64 z.1,.int .i64 z.2]
  have hBz:=below_one X (.cells #[.int .i64 z.1,.int .i64 z.2] 207)
  have hSi:SinceO w7.heap.size oX X (X.alloc (.cells #[.int .i64 z.1,.int .i64 z.2] 207)):=SinceO.below hBz
  have hKe:KeepL W.heap.size (w7.heap.size - W.heap.size) X (X.alloc (.cells #[.int .i64 z.1,.int .i64 z.2] 207)):=⟨Keep.alloc (by omega) _,fun h=>h.next hBz⟩
  have hj2:=hJ.below hj hBz
  have hl2:=hl.next hBz
  have hkX2:=hkX.trans (Keep.below hBz (by have:=hkX.1;omega))
  have hst2:=hst.trans hfX (SinceO.below hBz)
  have hne:some X.heap.size≠oX:=fun e=>by have:=holX _ e.symm;omega
  clear hBz holX
  generalize X.alloc (.cells #[.int .i64 z.1,.int .i64 z.2] 207)=X' at *
  generalize X.heap.size=Bx at *
  exact hKK Bx _ hSi hKe ⟨xs,e1,hj2,hfX,hl2,hkX2,hst2⟩ hbx hne hsz
 case body =>
  rintro l' pre z oX Bx X hsz ⟨xs,e1,hj,hfX,hl,hkX,hst⟩ hbx hneB hleB hzm hlz
  have hYc:=(hst.blk bY (Nat.le_refl _) hYo).one
  have hgX:=hkX.blk bg0 hg.1 hg.2
  have g0:=hgX.cell 0
  have g1:=hgX.cell 1
  have g2:=hgX.cell 2
  have g3:=hgX.cell 3
  have z0:=hbx.cell 0
  have z1:=hbx.cell 1
  simp only [gz9] at g0 g1 g2 g3 z0 z1
  obtain ⟨hzc,hzd⟩:=HMC.out z hzm
  have HAs:Hid (∀ V,Laid V→Calls Tryz.prog 255 #[.agg #[.int .i64 k,.int .i64 p,.int .i64 d,.int .i64 c],.agg #[.int .i64 z.1,.int .i64 z.2]] V fun e w'=>∃ v,e = .returned v∧Asks (memB k p z.1 z.2) v w'∧Below V.heap.size V w'):=fun V hV =>
   (asker_any k p d c z.1 z.2 _ HHR.out HDD.out hzc.1 rfl (role_made HHR.out hzc HDD.out hzd) V hV).mono fun e w' ⟨v,e2,hA,hBv⟩=>⟨v,e2,(by rw [HDD.out] at hA;exact hA),hBv⟩
  have hlx:xs.length<1000:=by rw [←List.length_map (f:=(·.1)),e1];exact hlz
  have hmo:=(show Tryz.prog.follows .mixedOrders=true by kernel_rfl)
  clear hzc hzd hzm
  have hn3:1≤n - 1 - 1:=by omega
  have hj0:=hJ.below hj (Below.refl _ _).drew
  have hl0:Laid X.drew:=hl
  have HPost:Hid (∀ (X2 W3:World) (v:Value) (o':Option Nat),Below X.drew.heap.size X.drew X2→FreshO oX o' X2→SinceO W.heap.size oX X2 W3 →
   ((J (xs ++ [(z,v)]) o' W3∧KeepL lo mm X2 W3)→∃ o',FreshO oX o' X∧SinceO w7.heap.size oX X W3∧KeepL W.heap.size (w7.heap.size - W.heap.size) X W3∧∃ xs',xs'.map (·.1)=pre ++ [z]∧J xs' o' W3∧FreshO o₀ o' w7∧Laid W3∧Keep lo mm w7 W3∧SinceO W.heap.size o₀ w7 W3) ∧
   (Jx (xs ++ [(z,v)]) o' W3→∃ o',FreshO oX o' X∧SinceO w7.heap.size oX X W3∧Code.ret=Code.ret∧∃ xs',xs'.map (·.1)=pre ++ [z]∧Jx xs' o' W3∧FreshO o₀ o' w7∧SinceO W.heap.size o₀ w7 W3)):=fun X2 W3 v o' hB2 hf3 hS3=>by
   have hBX:Below X.heap.size X X2:=below_in (Below.refl _ _).drew hB2
   have hSx:SinceO W.heap.size oX X W3:=(SinceO.below hBX).trans_ hS3
   have hfx:FreshO oX o' X:=hf3.later hBX.size
   have hmap:(xs ++ [(z,v)]).map (·.1)=pre ++ [z]:=by rw [List.map_append,e1];rfl
   refine ⟨fun ⟨h1,h2⟩=>⟨o',hfx,hSx.less (by omega),⟨hSx.keep (Nat.le_refl _) (by omega) (fun b e=>?_),fun h=>h2.2 (h.next hBX)⟩,_,hmap,h1,hfX.trans hsz hfx,h2.2 (hl.next hBX),hkX.trans ((Keep.below hBX (by omega)).trans h2.1),hst.trans hfX hSx⟩,fun h=>⟨o',hfx,hSx.less (by omega),rfl,_,hmap,h,hfX.trans hsz hfx,hst.trans hfX hSx⟩⟩
   rcases hfX with rfl | ⟨b2,rfl,hb2⟩
   · have:=ho₀ b e;omega
   · injection e with e;omega
  have HJ:=Lib.hid hJ
  have hWB:W.heap.size≤Bx:=by omega
  have hYo':some W.heap.size≠oX:=hfX.ne (by have:=bY.lt;omega) hYo
  have hWX:W.heap.size≤X.heap.size:=by omega
  clear e1 hlz hj hJ hJx hst hkX hfX hl hbx hgX hW hsg hL7 s7 hL0 hL hs0 hB
  gi_wp2_with fail
  have hS:(fun V:World=>V.cell? ⟨W.heap.size,0,none⟩=some (.func (.yield l) #[] #[])∧V.cell? ⟨Bx,0,none⟩=some (.int .i64 z.1)∧V.cell? ⟨Bx,1,none⟩=some (.int .i64 z.2)) X.drew:=⟨hYc,z0,z1⟩
  refine region_HF (S:=fun V=>V.cell? ⟨W.heap.size,0,none⟩=some (.func (.yield l) #[] #[])∧V.cell? ⟨Bx,0,none⟩=some (.int .i64 z.1)∧V.cell? ⟨Bx,1,none⟩=some (.int .i64 z.2)) (by kernel_rfl) ?_
  refine tkF (i:=0) (d:=12) (v:=.func (.yield l) #[] #[]) (s:=hS) (c:=?_)
  simp only [ud9]
  refine tkF (i:=1) (d:=13) (v:=.agg #[.int .i64 z.1,.int .i64 z.2]) (s:=hS) (c:=?_)
  simp only [ud9]
  refine tkF (i:=3) (d:=15) (v:=.agg #[.int .i64 z.1,.int .i64 z.2]) (s:=hS) (c:=?_)
  simp only [ud9]
  refine oneF (i:=2) (c:=?_)
  gi_wp2
  refine oneF (i:=4) (c:=?_)
  gi_wp2_with fail
  refine ⟨trivial,(CallsIn.inRound l' (callsIn_wide.2 (HAs.out _ hl0))).mono ?_⟩
  rintro e X2 ⟨v,rfl,hA,hB2⟩
  have hj2:=HJ.out.below hj0 hB2
  have hY2:=nextcd hYc hB2
  have y0:=nextcd z0 hB2
  have y1:=nextcd z1 hB2
  obtain ⟨fn,tmps,asg,bdy,hy,hRr⟩:=YieldAt.deep (m:=n - 1 - 1 - 1) (HY.out xs (z,v) oX X2 hj2 hA hlx (by have:=hB2.size;simp at this;omega))
  clear hS
  gi_wp2
  refine oneF (i:=5) (c:=?_)
  gi_wp2
  refine hRr.mono ?_
  rintro e W3 hw3
  obtain ⟨bb,rfl,o',hf3,hS3,hyes,hno⟩:=one_way hw3
  clear hw3 hRr hy
  have hX2:=hB2.size
  have cY3:W3.cell? ⟨W.heap.size,0,none⟩=some (.func (.yield l) #[] #[]):=(World.cell?_of_block (hS3.2 W.heap.size (Nat.le_refl _) (cell_lt hY2) hYo')).trans hY2
  have cz0:W3.cell? ⟨Bx,0,none⟩=some (.int .i64 z.1):=(World.cell?_of_block (hS3.2 Bx (by omega) (cell_lt y0) hneB)).trans y0
  have cz1:W3.cell? ⟨Bx,1,none⟩=some (.int .i64 z.2):=(World.cell?_of_block (hS3.2 Bx (by omega) (cell_lt y1) hneB)).trans y1
  have hpo:=HPost.out _ _ v _ hB2 hf3 hS3
  gi_wp2
  refine oneF (i:=6) (c:=?_)
  gi_wp2
  refine anyHF_done (by kernel_rfl) ?_ _
  clear HPost hYc z0 z1 g0 g1 g2 g3 hA HAs HJ HY hj0 hj2
  cases bb
  · gi_wp2
    obtain ⟨o2,a1,a2,_,a4⟩:=hpo.2 (hno (by trivial))
    exact ⟨o2,a1,a2,rfl,a4⟩
  · gi_wp2
    exact hpo.1 (hyes (by trivial))
 case done =>
  rintro D xs' oX X hD _ rfl ⟨xs,e1,hj,hfX,hl,hkX,hst⟩ hKD hneD
  have hfo:FreshO o₀ oX W:=hfX.later s7
  gi_wp2
  exact leaves_farO (B:=W.heap.size) (I:=fun (_:Unit) o X=>J xs o X) (fun s o X Y row hs hg hr=>hJ _ o X Y row hs hg hr) () oX (fun X h=>HR1.out _ _ _ h) [D] _ ⟨by simp,fun E hE=>by obtain rfl:=List.mem_singleton.1 hE;exact ⟨by omega,hKD⟩⟩ hj (fun W' h=>⟨_,results_none rfl _ _ _,⟨_,rfl⟩,oX,hfo,.inl ⟨xs,e1,h⟩⟩)
 case stop =>
  rintro D c pre oX X hD _ hSp ⟨rfl,xs,e1,hjx,hfX,hst⟩ hKD _
  have hfo:FreshO o₀ oX W:=hfX.later s7
  gi_wp2
  exact leaves_farO (B:=W.heap.size) (I:=fun (_:Unit) o X=>Jx xs o X) (fun s o X Y row hs hg hr=>hJx _ o X Y row hs hg hr) () oX (fun X h=>HR2.out _ _ _ h) [D] _ ⟨by simp,fun E hE=>by obtain rfl:=List.mem_singleton.1 hE;exact ⟨by omega,hKD⟩⟩ hjx (fun W' h=>⟨_,results_none rfl _ _ _,⟨_,rfl⟩,oX,hfo,.inr ⟨xs,by rw [e1];exact hSp,h⟩⟩)
end Go.Proofs.YtknkdbincaonbaaGreatDoor

namespace Go.Proofs.YtknkdbincaonbaaGreatDoor
open Go.RowKit Go.Shelf
attribute [local go_sem] Oper.semAt_some

theorem wpIn_rangeBoxP {α:Type} {F:Fence} {n:Nat} {P:Program} {g:Operand} {ps:Array Tmp} {assign body:Code} {Q:Exit→Act→World→Prop} {a:Act} {w:World}
 (hro:F.round=none) (h1:1≤n) {gf:Nat} {lb:Array Value} (hg:a.eval g = .func (.func gf) #[] lb) (hFg:F.fn gf) (eg:∀ args w,(callFunc gf args).run P w = .ok (.enter gf args) w)
 {encs:α→Array Value} {Ok:α→World→Prop} {Kp:World→World→Prop} {S Sp:List α→Prop} {N:Nat} {w0:World} (hseq:SeqO F (n - 1) P gf lb encs Ok Kp S Sp N w0)
 (hKt:∀ {A B C:World},Kp A B→Kp B C→Kp A C) (hKb:∀ (W:World) (l:Nat) (ob:Obj),w.heap.size≤l→l<W.heap.size→(∃ r,W.heap[l]?=some (.loop r))→Kp W (W.putObj l ob)) (hb0:Below w0.heap.size w0 w) (hps:∀ x,(encs x).size=ps.size)
 (I:List α→Option Nat→World→Prop) (Ix:Code→List α→Option Nat→World→Prop) (hI:FarO w.heap.size I) (hIx:∀ c,FarO w.heap.size (Ix c)) (o₀:Option Nat) (ho₀:∀ b,o₀=some b→b<w.heap.size) (h0:I [] o₀ w)
 (Pr:α→World→Prop) (hPl:∀ x (W:World) (l:Nat) (ob:Obj),(∃ r,W.heap[l]?=some (.loop r))→Pr x W→Pr x (W.putObj l ob)) (t:TypeId) (cs:α→Array Value) (a₁:α→Nat→Act)
 (hassign:∀ (l:Nat) (pre:List α) (x:α) (o:Option Nat) (W:World) (K:Act→World→Prop),w.heap.size≤W.heap.size→(∀ b,o=some b→b<W.heap.size)→I pre o W→Ok x W→(∀ Bx W',SinceO w.heap.size o W W'→Kp W W'→I pre o W'→Blk W' Bx t (cs x)→some Bx≠o→w.heap.size≤Bx→Pr x W'→K (a₁ x Bx) W') →
  assign.wpIn (F.inRound l) (n - 1 - 1) P (Exit.then K (fun _ _ _=>False)) { tmps:=(ps.zip (encs x)).foldl (fun t (p,v)=>t.setIfInBounds p v) a.tmps,defers:=[] } W)
 (hrow:∀ pre o W,I pre o W→RowO o W) (hrowx:∀ c pre o W,Ix c pre o W→RowO o W)
 (hbody:∀ (l:Nat) (pre:List α) (x:α) (o:Option Nat) (Bx:Nat) (W:World),w.heap.size≤W.heap.size→I pre o W→Blk W Bx t (cs x)→some Bx≠o→w.heap.size≤Bx→Pr x W→pre.length<N →
  body.wpIn (F.inRound l) (n - 1 - 1) P (postO w.heap.size Kp I Ix (pre ++ [x]) o W) (a₁ x Bx) W)
 (hdone:∀ (D:Nat) (xs:List α) (o:Option Nat) (W:World),w.heap.size≤D→FreshO o₀ o w→S xs→I xs o W→W.heap[D]?=some (.deferred (some []))→some D≠o→Q .normal { a with defers:={ target:=.collected D,args:=#[] } :: a.defers } W)
 (hstop:∀ (D:Nat) (c:Code) (pre:List α) (o:Option Nat) (W:World),w.heap.size≤D→FreshO o₀ o w→Sp pre→Ix c pre o W→W.heap[D]?=some (.deferred (some []))→some D≠o→c.wpIn F n P Q { a with defers:={ target:=.collected D,args:=#[] } :: a.defers } W) :
 (Code.rangeFunc g ps assign body).wpIn F n P Q a w :=
 wpIn_rangeO hro h1 hg hFg eg hseq hKt hKb hb0 hps I Ix hI hIx o₀ ho₀ h0 (fun x o a' W=>∃ Bx,Blk W Bx t (cs x)∧some Bx≠o∧w.heap.size≤Bx∧Pr x W∧a'=a₁ x Bx)
  (fun x o a' W l ob r hl ⟨Bx,hb,hne,hle,hp,e⟩=>⟨Bx,(World.putObj_heap_other (fun e2=>by unfold Blk at hb;rw [e2,hl] at hb;cases hb)).trans hb,hne,hle,hPl _ _ _ _ ⟨r,hl⟩ hp,e⟩)
  (fun l pre x o W K hs hol hi hok hK=>hassign l pre x o W K hs hol hi hok fun Bx W' h2 h3 h4 h5 h6 h7 h8=>hK _ _ h2 h3 h4 ⟨Bx,h5,h6,h7,h8,rfl⟩) hrow hrowx
  (fun l pre x o a' W hs hi ⟨Bx,hb,hne,hle,hp,e⟩ hlt=>by subst e;exact hbody l pre x o Bx W hs hi hb hne hle hp hlt) hdone hstop

def Seqs2 (lo:Nat) (k p:Int) (zs:List (Int×Int)) (v:Value) (w:World):Prop :=
 ∃ gf lb,v = .func (.func gf) #[] lb∧(∀ args W,(callFunc gf args).run Tryz.prog W = .ok (.enter gf args) W) ∧
  ∀ n,9≤n→SeqO Fence.wide n Tryz.prog gf lb (fun x:(Int×Int)×Value=>#[.agg #[.int .i64 x.1.1,.int .i64 x.1.2],x.2]) (fun x W=>Asks (memB k p x.1.1 x.1.2) x.2 W) (KeepL lo (w.heap.size - lo)) (fun ys=>ys.map (·.1)=zs) (fun pre=>pre.map (·.1) <+: zs) 1000 w
theorem enter_made1:∀ args W,(callFunc 252 args).run Tryz.prog W = .ok (.enter 252 args) W:=enters_of Tryz.func252 (by kernel_rfl) rfl

theorem made_any (k p d c:Int) (hR:RightC k p) (hd:d=p - shortN k) (hc:c=p - shortN k+madeN k) (w:World) (hL:Laid w) :
 Calls Tryz.prog 217 #[.agg #[.int .i64 k,.int .i64 p,.int .i64 d,.int .i64 c]] w fun e w'=>∃ u,e = .returned u∧Seqs2 w.heap.size k p (flatC p (spanL d c)) u w'∧Below w.heap.size w w':=by
 have hmf:=make_func
 have HDD:=Lib.hid hd
 have HCC:=Lib.hid hc
 clear hd hc
 have bg:=Blk.new w 177 #[.int .i64 k,.int .i64 p,.int .i64 d,.int .i64 c]
 have hB:=below_one w (.cells #[.int .i64 k,.int .i64 p,.int .i64 d,.int .i64 c] 177)
 go_enter Tryz.func217,Tryz.ntmps217
 go_wp2
 go_ret
 have hL2:=hL.next hB
 refine ⟨_,rfl,⟨_,_,rfl,enter_made1,?_⟩,hB⟩
 intro n hn l J Jx W o₀ hW ho₀ hJ hJx hr1 hr2 hY h0
 have hsz:=hW.size
 simp at hsz
 exact made1_in n hn l w.heap.size w.heap.size _ k p d c hR HDD.out HCC.out ⟨Nat.le_refl _,by simp⟩ W (by simp;omega) (hL2.next hW) J Jx o₀ ho₀ hJ hJx hr1 hr2 hY (bg.below hW bg.lt) h0

theorem having_any (k p d c x y:Int) (hR:RightC k p) (hd:d=p - shortN k) (hc:c=p - shortN k+madeN k) (W:World) (hL:Laid W) :
 Calls Tryz.prog 179 #[.agg #[.int .i64 k,.int .i64 p,.int .i64 d,.int .i64 c],.agg #[.int .i64 x,.int .i64 y]] W fun e w'=>∃ u,e = .returned u∧OwnP w' W.heap.size u ((flatC p (spanL d c)).filter fun m=>memB k p m.1 m.2 x y)∧Below W.heap.size W w':=by
 have HM:=Lib.hid (fun W hL=>made_any k p d c hR hd hc W hL)
 have hzl:(flatC p (spanL d c)).length≤1000:=by have:=flatC_len p hR.2 (spanL d c);rw [spanL_len] at this;have:=hR.und.m2;omega
 clear hd hc hR
 generalize flatC p (spanL d c)=zs at *
 obtain ⟨W3,hW3⟩:∃ W3,((W.alloc (.cells #[.int .i64 k,.int .i64 p,.int .i64 d,.int .i64 c] 177)).alloc (.cells #[.int .i64 x,.int .i64 y] 207)).alloc (.cells #[.slice none 0 0] 209)=W3:=⟨_,rfl⟩
 have b0:Blk W3 W.heap.size 177 #[.int .i64 k,.int .i64 p,.int .i64 d,.int .i64 c]:=by rw [←hW3];exact ((Blk.new W _ _).alloc _).alloc _
 have b1:Blk W3 (W.heap.size+1) 207 #[.int .i64 x,.int .i64 y]:=by rw [←hW3];exact (Blk.second W _ _ _).alloc _
 have b2:Blk W3 (W.heap.size+1+1) 209 #[.slice none 0 0]:=by
  rw [←hW3]
  have:=Blk.new ((W.alloc (.cells #[.int .i64 k,.int .i64 p,.int .i64 d,.int .i64 c] 177)).alloc (.cells #[.int .i64 x,.int .i64 y] 207)) 209 #[.slice none 0 0]
  rwa [World.size_alloc,World.size_alloc] at this
 have hB3:Below W.heap.size W W3:=by rw [←hW3];exact (below_two W _ _).alloc (by simp;omega) _
 have s3:W3.heap.size=W.heap.size+3:=by rw [←hW3];simp
 have hL3:=hL.next hB3
 have e0:=b0.cell 0
 have e1:=b0.cell 1
 have e2:=b0.cell 2
 have e3:=b0.cell 3
 simp only [gz9] at e0 e1 e2 e3
 refine (callsIn_wide (n:=12)).1 ?_
 refine callsIn_of_wp_marks Tryz.func179 rfl trivial ?_ rfl
 simp only [Tryz.ntmps179,List.size_toArray,List.length_cons,List.length_nil,Nat.reduceAdd,Nat.reduceSub,Array.replicate_succ,Array.replicate_zero,List.push_toArray,List.append_toArray,List.nil_append,List.cons_append]
 gi_wp2_with fail
 clear hW3
 refine ⟨trivial,(callsIn_wide.2 (HM.out _ hL3)).mono ?_⟩
 rintro e w7 ⟨u7,rfl,⟨gf,lb,rfl,eg,hg⟩,hB7⟩
 clear HM e0 e1 e2 e3
 replace b1:=b1.below hB7 b1.lt
 replace b2:=b2.below hB7 b2.lt
 have hB:=below_in hB3 hB7
 have hL7:=hL.next hB
 have s7:=hB7.size
 have hlo:W3.heap.size≤w7.heap.size:=s7
 gi_wp2_with fail
 refine wpIn_rangeBoxP rfl (by omega) (gf:=gf) (lb:=lb) rfl trivial eg (hg _ (by omega)) (fun h h'=>h.trans h') (fun V l ob hl _ hlp=>⟨Keep.putFar V (by omega) ob,fun h=>laid_put h hlp ob⟩) (Below.refl _ _) (fun _=>rfl)
  (fun pre o X=>∃ v,Blk X (W.heap.size+1+1) 209 #[v]∧OwnP X w7.heap.size v ((pre.map (·.1)).filter fun m=>memB k p m.1 m.2 x y)∧v.ownBlock=o∧Blk X (W.heap.size+1) 207 #[.int .i64 x,.int .i64 y]∧Below W.heap.size W X∧Keep W3.heap.size (w7.heap.size - W3.heap.size) w7 X)
  (fun _ _ _ _=>False) ?hI (fun c s o X Y row hs _ _=>hs) none (fun b e=>by cases e) ⟨_,b2,ownP_nil _ _,rfl,b1,hB,Keep.refl _ _ _⟩
  (fun z X=>Asks (memB k p z.1.1 z.1.2) z.2 X) (fun z V l ob hl h=>h.sub (Sub.put hl ob)) 207 (fun z:(Int×Int)×Value=>#[.int .i64 z.1.1,.int .i64 z.1.2]) ?a1
  ?assign (fun pre o X h=>by obtain ⟨v,_,ho,rfl,_⟩:=h;exact ho.rowO) (fun c pre o X h=>h.elim) ?body ?done (fun D c pre o X _ _ _ h=>h.elim)
 case hI =>
  rintro s o X Y row ⟨v,hb1,ho,rfl,hb0,hBX,hkX⟩ hgr hr
  have hne:∀ g,g<w7.heap.size→some g≠row:=fun g hg e=>by have:=(hr g e.symm).1;omega
  refine ⟨v,hb1.grown hgr (hne _ (by omega)),ho.kept hgr ?_,rfl,hb0.grown hgr (hne _ (by omega)),hBX.grown hgr hBX.size (fun r e=>by have:=(hr r e).1;omega),farO_keep (β:=Unit) w7 (Nat.le_refl _) (by omega) () v.ownBlock X Y row hkX hgr hr⟩
  cases hrow:row with
  | none=>exact (Option.eq_none_or_eq_some v.ownBlock).imp id (fun ⟨x,hx⟩=>by rw [hx];simp)
  | some r=>exact .inr (fun e=>(hr r hrow).2 e.symm)
 case assign =>
  rintro l' pre z o X KK hsz hol ⟨v,hb1,ho,rfl,hb0,hBX,hkX⟩ hok hKK
  gi_wp2
  have hbx:=Blk.new X 207 #[.int .i64 z.1.1,.int .i64 z.1.2]
  have hBz:=below_one X (.cells #[.int .i64 z.1.1,.int .i64 z.1.2] 207)
  have hSi:SinceO w7.heap.size v.ownBlock X (X.alloc (.cells #[.int .i64 z.1.1,.int .i64 z.1.2] 207)):=SinceO.below hBz
  have hKe:KeepL W3.heap.size (w7.heap.size - W3.heap.size) X (X.alloc (.cells #[.int .i64 z.1.1,.int .i64 z.1.2] 207)):=⟨Keep.alloc (by omega) _,fun h=>h.next hBz⟩
  have h1':=hb1.below hBz hb1.lt
  have h2':=ho.below hBz
  have h3':=hb0.below hBz hb0.lt
  have h4':=below_in hBX hBz
  have h5':=hkX.trans hKe.1
  have hok':=hok.next hBz
  have hne:some X.heap.size≠v.ownBlock:=fun e=>by have:=hol _ e.symm;omega
  clear hBz hol hb1 ho hb0 hBX hkX hok
  generalize X.alloc (.cells #[.int .i64 z.1.1,.int .i64 z.1.2] 207)=X' at *
  generalize X.heap.size=Bx at *
  exact hKK Bx _ hSi hKe ⟨v,h1',h2',rfl,h3',h4',h5'⟩ hbx hne hsz hok'
 case body =>
  rintro l' pre z o Bx X hsz ⟨v,hb1,ho,rfl,hb0,hBX,hkX⟩ hbx hne hle hok hlz
  obtain ⟨⟨zx,zy⟩,zv⟩:=z
  obtain ⟨qf,qb,rfl,eqf,hq⟩:=hok
  have c0:=hb0.cell 0
  have c1:=hb0.cell 1
  have z0:=hbx.cell 0
  have z1:=hbx.cell 1
  simp only [gz9] at c0 c1 z0 z1
  have HA:=Lib.hid (hq x y X (Sub.below (Below.refl _ _)))
  have hol:=ho.rowO.lt
  clear hq
  cases hqz:memB k p zx zy x y with
  | false =>
    have hqz':memB k p (zx,zy).1 (zx,zy).2 x y=false:=hqz
    rw [hqz'] at HA
    have hfl:(((pre ++ [((zx,zy),Value.func (.func qf) #[] qb)]).map (·.1)).filter fun m=>memB k p m.1 m.2 x y)=(pre.map (·.1)).filter fun m=>memB k p m.1 m.2 x y:=by simp [List.filter_append,hqz]
    gi_wp2_with fail
    refine ⟨trivial,(CallsIn.inRound l' (callsIn_wide.2 HA.out)).mono ?_⟩
    rintro e Xa ⟨rfl,hBa⟩
    gi_wp2
    exact ⟨v.ownBlock,.inl rfl,SinceO.below hBa,⟨Keep.below hBa (by omega),fun h=>h.next hBa⟩,v,hb1.below hBa hb1.lt,by rw [hfl];exact ho.below hBa,rfl,hb0.below hBa hb0.lt,below_in hBX hBa,hkX.trans (Keep.below hBa (by omega))⟩
  | true =>
    have hqz':memB k p (zx,zy).1 (zx,zy).2 x y=true:=hqz
    rw [hqz'] at HA
    have hfl:(((pre ++ [((zx,zy),Value.func (.func qf) #[] qb)]).map (·.1)).filter fun m=>memB k p m.1 m.2 x y)=((pre.map (·.1)).filter fun m=>memB k p m.1 m.2 x y) ++ [(zx,zy)]:=by simp [List.filter_append,hqz]
    have hfn:((pre.map (·.1)).filter fun m=>memB k p m.1 m.2 x y).length≤1000:=by have:=List.length_filter_le (fun m:Int×Int=>memB k p m.1 m.2 x y) (pre.map (·.1));rw [List.length_map] at this;omega
    have HF:=Lib.hid hfl
    clear hfl
    generalize ((pre.map (·.1)).filter fun m=>memB k p m.1 m.2 x y)=fl at *
    gi_wp2_with fail
    refine ⟨trivial,(CallsIn.inRound l' (callsIn_wide.2 HA.out)).mono ?_⟩
    rintro e Xa ⟨rfl,hBa⟩
    clear HA hqz hqz' c0 c1 z0 z1
    have hbxa:=hbx.below hBa hbx.lt
    have hb1a:=hb1.below hBa hb1.lt
    have z0:=hbxa.cell 0
    have z1:=hbxa.cell 1
    have c1:=hb1a.one
    simp only [gz9] at z0 z1
    have hBb:=below_one Xa (.cells #[.int .i64 zx,.int .i64 zy] 207)
    have HO:=Lib.hid ((ho.below hBa).below hBb)
    have HU:=Lib.hid (Blk.new Xa 207 #[.int .i64 zx,.int .i64 zy])
    have hb1b:=hb1a.below hBb hb1a.lt
    have hb0b:=(hb0.below hBa hb0.lt).below hBb (by have:=hBa.size;have:=hb0.lt;omega)
    have hBab:=below_in hBa hBb
    have hn1:some (W.heap.size+1+1)≠v.ownBlock:=fun e=>by have:=ho.own_le _ e.symm;omega
    have hn0:some (W.heap.size+1)≠v.ownBlock:=fun e=>by have:=ho.own_le _ e.symm;omega
    have hva:=ho.own_le
    have hsa:=hBa.size
    have hsb:=hBb.size
    gi_wp2_with (gi_at_builtin;refine wpListIn_place _ rfl _ _ rfl w7.heap.size v _ rfl HO.out Xa.heap.size zx zy rfl HU.out (by omega) (by simp;omega) ?_;intro v2 w3 ho2 hg2 hd2;(have hfm:=World.ownsRow.form ho2 (by simp));(obtain ⟨g2,cap2,hv2,_,_⟩:=hfm);(generalize (fl ++ [(zx,zy)]).length=N at hv2);subst hv2;have hb3:=hb1b.grown hg2 hn1;have hb30:=hb0b.grown hg2 hn0;have c3:=hb3.one;have f3:=hb3.frozen 0)
    have hs3:=hg2.size
    have hn2:some (W.heap.size+1+1)≠(Value.slice (some ⟨g2,0,none⟩) N cap2).ownBlock:=fun e=>by have:=ho2.own_le _ e.symm;omega
    have hfr:FreshO v.ownBlock (Value.slice (some ⟨g2,0,none⟩) N cap2).ownBlock X:=by
     rcases hd2 with h | h
     · exact .inl h
     · exact .inr ⟨_,h,by simp;omega⟩
    have hsi:SinceO w7.heap.size v.ownBlock X (w3.setCell ⟨W.heap.size+1+1,0,none⟩ (Value.slice (some ⟨g2,0,none⟩) N cap2)) :=
     (SinceO.below hBab).trans_ ⟨by simpa using hs3,fun b h1 h2 h3=>(Below.heap_setCell w3 _ (Value.slice (some ⟨g2,0,none⟩) N cap2) b (by simp;omega)).trans (hg2.block b h2 h3)⟩
    have hke:Keep W3.heap.size (w7.heap.size - W3.heap.size) X (w3.setCell ⟨W.heap.size+1+1,0,none⟩ (Value.slice (some ⟨g2,0,none⟩) N cap2)) :=
     ((Keep.below hBab (by omega)).trans (Keep.grown hg2 (by omega) (fun r e=>.inr (by have:=hva r e;omega)))).trans (Keep.setCell w3 (by simp;omega) (Value.slice (some ⟨g2,0,none⟩) N cap2))
    have hbe:Below W.heap.size W (w3.setCell ⟨W.heap.size+1+1,0,none⟩ (Value.slice (some ⟨g2,0,none⟩) N cap2)):=((below_in hBX hBab).grown hg2 (by have:=hBX.size;have:=hBab.size;omega) (fun r e=>by have:=hva r e;omega)).setCell (by simp;omega) (Value.slice (some ⟨g2,0,none⟩) N cap2)
    exact ⟨(Value.slice (some ⟨g2,0,none⟩) N cap2).ownBlock,hfr,hsi,⟨hke,fun _=>hL.next hbe⟩,(Value.slice (some ⟨g2,0,none⟩) N cap2),hb3.set_ 0 (Value.slice (some ⟨g2,0,none⟩) N cap2),by rw [HF.out];exact ho2.far hn2 (Value.slice (some ⟨g2,0,none⟩) N cap2),rfl,hb30.far (by simp) (Value.slice (some ⟨g2,0,none⟩) N cap2),hbe,hkX.trans hke⟩
 case done =>
  rintro D xs o X hD hf hxs ⟨v,hb1,ho,rfl,hb0,hBX,hkX⟩ hKD hne
  have c1:=hb1.one
  rw [hxs] at ho
  gi_wp2
  refine leaves_blks W [D] X ⟨by simp,fun E hE=>?_⟩ hBX (fun W' hB' hk=>?_)
  · obtain rfl:=List.mem_singleton.1 hE
    exact ⟨by omega,hKD⟩
  · exact ⟨v,by simp [results,Tryz.results179,go_sem],v,rfl,(ho.blks hk).less (by omega),hB'⟩
end Go.Proofs.YtknkdbincaonbaaGreatDoor

namespace Go.Proofs.YtknkdbincaonbaaGreatDoor
open Go.RowKit Go.Shelf

def havL (k p x y:Int):List (Int×Int):=(flatC p (spanL (p - shortN k) (p - shortN k+madeN k))).filter fun m=>memB k p m.1 m.2 x y
theorem placesAny_run (w:World) (ty:TypeId) (base:Nat) (v:Value) (l:List (Int×Int)) (hown:OwnP w base v l) (base2:Nat) (v2:Value) (l2:List (Int×Int)) (hown2:OwnP w base2 v2 l2) (hlen:l.length≤1000) (hlen2:l2.length≤1000) (hbase:base≤w.heap.size) :
 ∃ v' w',(Builtin.append_ #[209,209] ty #[v,v2]).run Tryz.prog w = .ok v' w'∧OwnP w' base v' (l ++ l2)∧w.grownBy w' v.ownBlock:=by
 obtain ⟨i,hi,hz0,hz1,hz2⟩:=info_parts Tryz.infoPlace
 rcases hown2.2 with ⟨h1,h2⟩ | ⟨g,cap,cur,h1,hrest⟩
 · have hl2:l2 = []:=List.length_eq_zero_iff.1 (by have:=codeCells_len l2;rw [h2] at this;simp at this;omega)
   subst h1 hl2
   rw [List.append_nil]
   exact ⟨v,w,run_append_owned_none (P:=Tryz.prog) (w:=w) base 209 ty 207 i 2 Tryz.underlying209 hi v l.length (codeCells l) hown,hown,World.grownBy.refl _ _⟩
 · subst h1
   obtain ⟨v',w',hrun,r1,r2,_,r3⟩:=run_append_own_at (P:=Tryz.prog) w base 209 ty 207 i (.agg #[.int .i64 0,.int .i64 0]) 2 16 Tryz.underlying209 hi hz0 hz1 hz2 rfl (by omega) v l.length (codeCells l) hown ⟨g,0,none⟩ l2.length cap (codeCells l2) (by rw [codeCells_len];omega)
    (by intro j u hu;rw [addr_add,Nat.zero_add];have hj:j<(codeCells l2).length:=(List.getElem?_eq_some_iff.1 hu).1;rw [codeCells_len] at hj;exact (World.ownsRow.cellAt hown2 j (by omega)).trans hu)
    (by intro u hu';unfold codeCells at hu';obtain ⟨z,_,hz⟩:=List.mem_flatMap.1 hu';simp only [List.mem_cons,List.not_mem_nil,or_false] at hz;rcases hz with rfl | rfl <;> rfl) (by unfold maxLen;omega) (by omega) hbase
   refine ⟨v',w',hrun,?_,r2⟩
   unfold OwnP
   rw [List.length_append]
   unfold codeCells at *
   rw [List.flatMap_append]
   exact r1
theorem opIn_places {F:Fence} {nF:Nat} (w:World) {o:Oper} {a:Act} {K:Act→World→Prop} {Q:Exit→Act→World→Prop} (s x:Operand)
 (ho:o.op = .call { callee:=.builtin .append,args:=#[s,x],argTypes:=#[209,209] })
 (base:Nat) (v:Value) (l:List (Int×Int)) (hs:a.eval s=v) (hown:OwnP w base v l) (base2:Nat) (v2:Value) (l2:List (Int×Int)) (hx:a.eval x=v2) (hown2:OwnP w base2 v2 l2) (hlen:l.length≤1000) (hlen2:l2.length≤1000) (hbase:base≤w.heap.size)
 (h:∀ v' w',OwnP w' base v' (l ++ l2)→w.grownBy w' v.ownBlock→K (a.put o.dst v') w'):o.wpIn F nF Tryz.prog a w K Q:=by
 obtain ⟨v',w',hr,h2,h3⟩:=placesAny_run w o.type base v l hown base2 v2 l2 hown2 hlen hlen2 hbase
 unfold Oper.wpIn
 refine ⟨by simp [Oper.about,ho,resolve,Target.leads,Sem.run_pure],?_⟩
 rw [Oper.semAt_plain F _ _ (by rw [ho];intro c hc';cases hc')]
 simp [execOp,ho,resolve,invoke,builtin,hs,hx,hr,Result.andThen]
 exact h v' w' h2 h3
end Go.Proofs.YtknkdbincaonbaaGreatDoor
