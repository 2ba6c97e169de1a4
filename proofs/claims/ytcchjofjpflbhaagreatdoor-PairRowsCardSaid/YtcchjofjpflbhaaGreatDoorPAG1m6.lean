/- -/
import Derived.OrdersIn
import Derived.OrdersHeld
import Derived.Test.YtcchjofjpflbhaaGreatDoorPAG1m7
import Derived.Test.YtcchjofjpflbhaaGreatDoorPAG1m14
set_option linter.unusedVariables false
set_option linter.unusedSimpArgs false
set_option maxRecDepth 100000
set_option maxHeartbeats 1000000
namespace Go.Proofs.YtcchjofjpflbhaaGreatDoor.E
open Go.RowKit Go.Shelf Go.Proofs.YtcchjofjpflbhaaGreatDoor.C

theorem primeOf_no (p:Int) (hR:¬ RightC 1 p) (w:World) (hL:Laid w):Calls Tryz.prog 213 #[.int .i64 p] w fun e w'=>e = .panicked gaveUp∧Below w.heap.size w w':=by
 have HC:=Lib.hid (fun W hL=>(shapeCheck_any 1 p W hL).mono fun e w' h=>And.intro (h.2.1 hR) h.2.2)
 clear hR
 go_enter Tryz.func213,Tryz.ntmps213
 go_wp2_with (first
  | (go_at_call 223;refine (code_any p _).mono ?_;rintro e w1 ⟨rfl,hB1⟩;replace hL:=hL.next hB1)
  | (go_at_call 99;refine (HC.out _ hL).mono ?_;rintro e w2 ⟨rfl,hB2⟩)
  | (go_at_call 220;refine (need_no _).mono ?_;rintro e w3 ⟨rfl,rfl⟩))
 exact ⟨rfl,rfl,below_in hB1 hB2⟩
end Go.Proofs.YtcchjofjpflbhaaGreatDoor.E

namespace Go.Proofs.YtcchjofjpflbhaaGreatDoor.E
open Go.RowKit Go.Shelf Go.Proofs.YtcchjofjpflbhaaGreatDoor.C

theorem together_no {B:Nat} (p:Int) (R:Nat) (hR:RightC 1 p) (hr:p - 1=(R:Int)) (v:Value) (css:List (List (List UInt8))) (w:World) (hL:Laid w) (hB:B≤w.heap.size) (hC:Cols B w v css) (hlen:css.length≤1000) (hcl:∀ j,j<css.length→(css[j]?.getD []).length≤1000) (hno:¬ TogOk R css) :
 Calls Tryz.prog 214 #[.int .i64 p,v] w fun e w'=>e = .panicked gaveUp∧Below w.heap.size w w':=by
 have HRw:=Lib.hid (fun W hL=>rows_any p hR W hL)
 rw [hr] at HRw
 have hR2:2≤R:=by have:=hR.und.p1;omega
 have hR3:R≤16:=by have:=hR.und.p2;omega
 have HNO:=Lib.hid hno
 have HCL:=Lib.hid hcl
 clear hno hcl
 have hBz:=below_one w (.cells #[.int .i64 0,.slice none 0 0] 208)
 have bz:=Blk.new w 208 #[.int .i64 0,.slice none 0 0]
 have hL1:=hL.next hBz
 by_cases hl0:0<css.length
 case neg =>
  have hd0:decide (0<(css.length:Int))=false:=decide_eq_false (by omega)
  obtain ⟨A,cap,rfl,_,_⟩:=id hC
  clear hr hR hC HNO
  go_enter Tryz.func214,Tryz.ntmps214
  go_wp2_with (go_at_call 220;refine (need_no _).mono ?_;rintro e w3 ⟨rfl,rfl⟩)
  exact ⟨rfl,rfl,hBz⟩
 obtain ⟨b0,off0,cap,rfl,hcap,hb0,hrow⟩:=hC.at_ hl0
 have HRow:=Lib.hid hrow
 clear hr hR hC hrow
 have hd0:decide (0<(css.length:Int))=true:=by simp;omega
 go_enter Tryz.func214,Tryz.ntmps214
 go_wp2_with (go_at_call 220;refine (need_yes _).mono ?_;rintro e w3 ⟨rfl,rfl⟩)
 refine (HRw.out _ hL1).mono ?_
 rintro e w1 ⟨rfl,hB1⟩
 have hBw:=below_in hBz hB1
 clear hBz hB1 hL1 HRw hL bz
 obtain ⟨u0,hu0,hm0⟩:=HRow.out 0 hl0
 obtain ⟨A0,cap0,rfl,hcap0,_⟩:=id hm0
 rw [Nat.add_zero] at hu0
 have HM0:=Lib.hid hm0
 clear hm0
 go_wp2
 go_loopw [16] (fun i wr=>∃ k:Nat,k≤css.length∧i = .int .i64 k∧Hid (∀ j,j<k→(css[j]?.getD []).length=R∧(Cell (firstC css)∧AllLen (firstC css).length (css[j]?.getD [])))∧Below w.heap.size w wr) (fun i _=>css.length - (intOf i).toNat)
 case atStart=>exact ⟨0,Nat.zero_le _,rfl,Lib.hid (fun j hj=>absurd hj (by omega)),hBw⟩
 case round =>
  clear hBw
  obtain ⟨k,hk,rfl,HA,hBr⟩:=hrel
  by_cases hlt:k<css.length
  · have hdec:decide ((k:Int)<(css.length:Int))=true:=by simp;omega
    obtain ⟨u,hu,hmu⟩:=HRow.out k hlt
    have hkl:=HCL.out k hlt
    obtain ⟨Au,capu,rfl,_,_⟩:=id hmu
    have xk:wr.cell? ⟨b0,off0+k,none⟩=some (.slice Au (css[k]?.getD []).length capu):=(hBr.cell (p:=⟨b0,off0+k,none⟩) (by exact Nat.lt_of_lt_of_le hb0 hB)).trans hu
    by_cases hlk:(css[k]?.getD []).length=R
    · have hlen0:(css[0]?.getD []).length=R:=by
       rcases Nat.eq_zero_or_pos k with h | h
       · subst h;exact hlk
       · exact (HA.out 0 h).1
      obtain ⟨b1,off1,hA0,hb1,hrow1⟩:=many_at HM0.out (by rw [hlen0];omega)
      subst hA0
      obtain ⟨c0v,hc0,hbc0⟩:=(by
       obtain ⟨A9,cp9,hc9,hB9⟩:=hrow1 0 (by rw [hlen0];omega)
       exact ⟨_,hc9,hB9⟩:∃ c0v,w.cell? ⟨b1,off1+0,none⟩=some c0v∧Bytes B w c0v (firstC css))
      rw [Nat.add_zero] at hc0
      clear hrow1
      have x0:wr.cell? ⟨b0,off0,none⟩=some (.slice (some ⟨b1,off1,none⟩) (css[0]?.getD []).length cap0):=(hBr.cell (p:=⟨b0,off0,none⟩) (by exact Nat.lt_of_lt_of_le hb0 hB)).trans hu0
      have y0:wr.cell? ⟨b1,off1,none⟩=some c0v:=(hBr.cell (p:=⟨b1,off1,none⟩) (by exact Nat.lt_of_lt_of_le hb1 hB)).trans hc0
      have HAA:=fun b hb=>areAlike_any c0v (.slice Au (css[k]?.getD []).length capu) (firstC css) (css[k]?.getD []) wr (hbc0.below (hBr.mono hB)) (hmu.below (hBr.mono hB)) hkl b hb
      rw [hlk] at xk HAA
      rw [hlen0] at x0
      have hRR:((R:Int) == (R:Int))=true:=by simp
      have i1:(0:Int)<(R:Int):=by omega
      have i2:(0:Int)<(css.length:Int):=by omega
      by_cases hg:Cell (firstC css)∧AllLen (firstC css).length (css[k]?.getD [])
      · have HAA2:=Lib.hid (HAA true (by simp [hg]))
        have HA2:Hid (∀ j,j<k+1→(css[j]?.getD []).length=R∧(Cell (firstC css)∧AllLen (firstC css).length (css[j]?.getD []))):=fun j hj=>by
         rcases Nat.lt_or_ge j k with h1 | h1
         · exact HA.out j h1
         · obtain rfl:j=k:=by omega
           exact ⟨hlk,hg⟩
        clear HAA HA hg hlk hlen0
        go_wp2_with (first
         | (go_at_call 255;refine HAA2.out.mono ?_;rintro e w4 ⟨rfl,hB4⟩)
         | (go_at_call 220;refine (need_yes _).mono ?_;rintro e w3 ⟨rfl,rfl⟩))
        go_roundw
        case rel=>exact ⟨k+1,by omega,by go_num,HA2,below_in hBr hB4⟩
        case measure=>simp [intOf];omega
      · have HAA2:=Lib.hid (HAA false (by simp;exact fun h1 h2=>hg ⟨h1,h2⟩))
        clear HAA HA hg hlk hlen0
        go_wp2_with (first
         | (go_at_call 255;refine HAA2.out.mono ?_;rintro e w4 ⟨rfl,hB4⟩)
         | (go_at_call 220;refine (need_no _).mono ?_;rintro e w3 ⟨rfl,rfl⟩))
        exact ⟨rfl,rfl,below_in hBr hB4⟩
    · have hRR:(((css[k]?.getD []).length:Int) == (R:Int))=false:=by simp;omega
      generalize (css[k]?.getD []).length=q at xk hRR
      clear hlk
      go_wp2_with (go_at_call 220;refine (need_no _).mono ?_;rintro e w3 ⟨rfl,rfl⟩)
      exact ⟨rfl,rfl,hBr⟩
  · obtain rfl:k=css.length:=by omega
    exact absurd ⟨hl0,HA.out⟩ HNO.out
end Go.Proofs.YtcchjofjpflbhaaGreatDoor.E

namespace Go.Proofs.YtcchjofjpflbhaaGreatDoor.E
open Go.RowKit Go.Shelf Go.Proofs.YtcchjofjpflbhaaGreatDoor.C
attribute [local go_sem] Oper.semAt_some


theorem caught_K (p:Addr) (x:Int) (w:World) (hc:w.cell? p=some (.int .i64 x)) (hz:w.frozen? p=false) :
 CallsD Tryz.prog 254 #[.pointer (some p)] (.panicking gaveUp) w fun e u' w' =>
  e = .returned (.tuple #[])∧u' = .panicking [{ v:=.iface 34 (.int .i64 2),recovered:=true }]∧w'=w.setCell p (.int .i64 2):=by
 have hta:=assert_errno
 refine callsD_of_wpS Tryz.func254 rfl fun c₀ cs hu=>?_
 simp only [Tryz.ntmps254,List.size_toArray,List.length_cons,List.length_nil,Nat.reduceAdd,Nat.reduceSub,Array.replicate_succ,Array.replicate_zero,List.push_toArray,List.append_toArray,List.nil_append,List.cons_append]
 apply wpS_seq
 apply wpS_region
 simp [wpOpsS,go_sem,recoverD,hu,Exit.thenS,gaveUp]
 all_goals (refine wpS_of_wp ?_;go_wp2;simp [bodyPostS,results,Tryz.results254])

theorem ans_K_no (f:Nat) (caps:Array Value) (w:World) (hent:∀ W,(callFunc f caps).run Tryz.prog W = .ok (.enter f caps) W)
 (h:∀ W,Below w.heap.size w W→Calls Tryz.prog f caps W fun e w'=>e = .panicked gaveUp∧Below W.heap.size W w') :
 Calls Tryz.prog 211 #[.func (.func f) #[] caps] w fun e w'=>e = .returned (.tuple #[.agg #[.int .i64 0,.slice none 0 0],.int .i64 2])∧Below w.heap.size w w':=by
 have hmf:∀ (fn:Fn) (first cap:Array Value) (w:World),(Instr.makeFunc fn first cap).run Tryz.prog w = .ok (.func fn first cap) w:=fun _ _ _ _=>rfl
 have hBa:=below_two w (.cells #[.int .i64 0,.slice none 0 0] 208) (.cells #[.int .i64 0] 34)
 have h1:=h _ hBa
 clear h
 go_enter_defers Tryz.func211,Tryz.ntmps211
 go_wp2
 refine h1.mono ?_
 rintro e w1 ⟨rfl,hB1⟩
 obtain ⟨b0,b1⟩:=two_blks w hB1
 have c2:=b1.cell 0
 have f2:=b1.frozen 0
 simp only [gz9] at c2
 have hBw:=below_in hBa hB1
 refine leaves_cons (f:=254) (args:=#[.pointer (some ⟨w.heap.size+1,0,none⟩)]) (by simp) (by simp [go_sem]) ?_
 refine (caught_K ⟨w.heap.size+1,0,none⟩ 0 _ c2 f2).mono ?_
 rintro e u' w'' ⟨rfl,rfl,rfl⟩
 obtain ⟨ww,hww⟩:∃ ww,w1.setCell ⟨w.heap.size+1,0,none⟩ (.int .i64 2)=ww:=⟨_,rfl⟩
 have d0:Blk ww w.heap.size 208 #[.int .i64 0,.slice none 0 0]:=by
  rw [←hww]
  exact Blk.far b0 (by simp) _
 have d1:Blk ww (w.heap.size+1) 34 #[.int .i64 2]:=by
  rw [←hww]
  exact b1.set_ 0 (.int .i64 2)
 have hBz:Below w.heap.size w ww:=by
  rw [←hww]
  exact hBw.setCell (Nat.le_succ _) _
 rw [hww]
 have e0:=d0.cell 0
 have e1:=d0.cell 1
 have e2:=d1.cell 0
 simp only [gz9] at e0 e1 e2
 simp [Go.Leaves,settle,results,Tryz.results211,go_sem,e0,e1,e2]
 exact hBz
def Gave (U:World):Exit→Act→World→Prop:=fun e a w'=>e = .panic gaveUp∧a.defers = []∧Below U.heap.size U w'
theorem right_no {B:Nat} (p:Int) (v:Value) (css:List (List (List UInt8))) (w:World) (hL:Laid w) (hB:B≤w.heap.size) (hC:Cols B w v css) (hlen:css.length≤1000) (hcl:∀ j,j<css.length→(css[j]?.getD []).length≤1000) (hno:¬ RightD p css) :
 Calls Tryz.prog 159 #[.int .i64 p,v] w fun e w'=>e = .returned (.bool false)∧Below w.heap.size w w':=by
 obtain ⟨A,cap,rfl,_,_⟩:=id hC
 obtain ⟨W2,hW2⟩:∃ W2,(w.alloc (.cells #[.int .i64 p] 3)).alloc (.cells #[.slice A css.length cap] 40)=W2:=⟨_,rfl⟩
 have b0:Blk W2 w.heap.size 3 #[.int .i64 p]:=by rw [←hW2];exact (Blk.new w _ _).alloc _
 have b1:Blk W2 (w.heap.size+1) 40 #[.slice A css.length cap]:=by rw [←hW2];exact Blk.second w _ _ _
 have hBW:Below w.heap.size w W2:=by rw [←hW2];exact below_two w _ _
 have hL2:=hL.next hBW
 have HA:=Lib.hid (ans_K_no 212 #[.pointer (some ⟨w.heap.size,0,none⟩),.pointer (some ⟨w.heap.size+1,0,none⟩)] W2 (enter_right1 _) (fun U hU=>by
  have hLU:=hL2.next hU
  have hBU:=below_in hBW hU
  have hCU:=hC.below (hBU.mono hB)
  have c0:=(b0.below hU b0.lt).one
  have c1:=(b1.below hU b1.lt).one
  have hSS:=Lib.hid (fun (V:World) (hV:Below U.heap.size U V)=>(⟨(hV.cell (p:=⟨w.heap.size,0,none⟩) (b0.below hU b0.lt).lt).trans c0,(hV.cell (p:=⟨w.heap.size+1,0,none⟩) (b1.below hU b1.lt).lt).trans c1⟩:(fun V:World=>V.cell? ⟨w.heap.size,0,none⟩=some (.int .i64 p)∧V.cell? ⟨w.heap.size+1,0,none⟩=some (.slice A css.length cap)) V))
  have hBz:=below_one U (.cells #[.int .i64 0,.slice none 0 0] 208)
  by_cases hp:p∈prm
  · have hpp:=prm_bounds hp
    have hR:RightC 1 p:=⟨by omega,hp⟩
    have hr:p - 1=(((p - 1).toNat:Nat):Int):=by omega
    have HPP:=Lib.hid (fun (V:World) (hV:Below U.heap.size U V)=>primeOf_yes p hR V (hLU.next hV))
    have HT:=Lib.hid (fun (V:World) (hV:Below U.heap.size U V)=>together_no (B:=B) p _ hR hr (.slice A css.length cap) css V (hLU.next hV) (Nat.le_trans hB (Nat.le_trans hBU.size hV.size)) (hCU.below (hV.mono (Nat.le_trans hB hBU.size))) hlen hcl (fun h=>hno ⟨hp,h⟩))
    clear hC hCU hno b0 b1 hW2 hL hL2 hLU hlen hcl hr hR hpp hp
    generalize css.length=n at *
    refine (callsIn_wide (n:=9)).1 ?_
    refine callsIn_of_wp_marks Tryz.func212 rfl trivial ?_ rfl
    simp only [Tryz.ntmps212,List.size_toArray,List.length_cons,List.length_nil,Nat.reduceAdd,Nat.reduceSub,Array.replicate_succ,Array.replicate_zero,List.push_toArray,List.append_toArray,List.nil_append,List.cons_append]
    gi_wp2_with fail
    have hS:(fun V:World=>V.cell? ⟨w.heap.size,0,none⟩=some (.int .i64 p)∧V.cell? ⟨w.heap.size+1,0,none⟩=some (.slice A n cap)) (U.alloc (.cells #[.int .i64 0,.slice none 0 0] 208)).drew:=hSS.out _ hBz.drew
    refine wpIn_mono (region_HF (Q:=Gave U) (S:=(fun V:World=>V.cell? ⟨w.heap.size,0,none⟩=some (.int .i64 p)∧V.cell? ⟨w.heap.size+1,0,none⟩=some (.slice A n cap))) (by kernel_rfl) ?_) (fun e a w' h=>by obtain ⟨rfl,hd,hB⟩:=h;obtain ⟨tm,df⟩:=a;have hd':df = []:=hd;subst hd';exact ⟨rfl,hB⟩)
    refine anyHF_take (i:=0) (d:=3) (v:=.int .i64 p) (by kernel_rfl) rfl (by kernel_rfl) (by kernel_rfl) (by kernel_rfl) rfl (fun _ _ _ h=>⟨h.1,by simpa [Act.put] using h.2.1,h.2.2⟩) ⟨Or.inl ⟨by rfl,fun w hS=>by obtain ⟨h0,h1⟩:=hS;go_simp⟩,fun _=>rfl⟩ hS ?_
    simp only [ud9]
    refine anyHF_take (i:=2) (d:=5) (v:=.slice A n cap) (by kernel_rfl) rfl (by kernel_rfl) (by kernel_rfl) (by kernel_rfl) rfl (fun _ _ _ h=>⟨h.1,by simpa [Act.put] using h.2.1,h.2.2⟩) ⟨Or.inl ⟨by rfl,fun w hS=>by obtain ⟨h0,h1⟩:=hS;go_simp⟩,fun _=>rfl⟩ hS ?_
    simp only [ud9]
    refine oneF (i:=1) (c:=?_)
    gi_wp2_with fail
    refine ⟨trivial,(callsIn_wide.2 (HPP.out _ hBz.drew)).mono ?_⟩
    rintro e w1 ⟨rfl,hB1⟩
    replace hB1:=below_undrew hB1
    replace hBz:=below_in hBz hB1
    clear hS
    have hS:(fun V:World=>V.cell? ⟨w.heap.size,0,none⟩=some (.int .i64 p)∧V.cell? ⟨w.heap.size+1,0,none⟩=some (.slice A n cap)) w1:=hSS.out _ hBz
    gi_wp2
    try (refine ⟨hS,?_⟩)
    refine oneF (i:=3) (c:=?_)
    gi_wp2_with fail
    refine ⟨trivial,(callsIn_wide.2 (HT.out _ hBz)).mono ?_⟩
    rintro e w2 ⟨rfl,hB2⟩
    exact ⟨rfl,rfl,below_in hBz hB2⟩
  · have HPP:=Lib.hid (fun (V:World) (hV:Below U.heap.size U V)=>primeOf_no p (fun h=>hp h.2) V (hLU.next hV))
    clear hC hCU hno b0 b1 hW2 hL hL2 hLU hlen hcl hp
    generalize css.length=n at *
    refine (callsIn_wide (n:=9)).1 ?_
    refine callsIn_of_wp_marks Tryz.func212 rfl trivial ?_ rfl
    simp only [Tryz.ntmps212,List.size_toArray,List.length_cons,List.length_nil,Nat.reduceAdd,Nat.reduceSub,Array.replicate_succ,Array.replicate_zero,List.push_toArray,List.append_toArray,List.nil_append,List.cons_append]
    gi_wp2_with fail
    have hS:(fun V:World=>V.cell? ⟨w.heap.size,0,none⟩=some (.int .i64 p)∧V.cell? ⟨w.heap.size+1,0,none⟩=some (.slice A n cap)) (U.alloc (.cells #[.int .i64 0,.slice none 0 0] 208)).drew:=hSS.out _ hBz.drew
    refine wpIn_mono (region_HF (Q:=Gave U) (S:=(fun V:World=>V.cell? ⟨w.heap.size,0,none⟩=some (.int .i64 p)∧V.cell? ⟨w.heap.size+1,0,none⟩=some (.slice A n cap))) (by kernel_rfl) ?_) (fun e a w' h=>by obtain ⟨rfl,hd,hB⟩:=h;obtain ⟨tm,df⟩:=a;have hd':df = []:=hd;subst hd';exact ⟨rfl,hB⟩)
    refine anyHF_take (i:=0) (d:=3) (v:=.int .i64 p) (by kernel_rfl) rfl (by kernel_rfl) (by kernel_rfl) (by kernel_rfl) rfl (fun _ _ _ h=>⟨h.1,by simpa [Act.put] using h.2.1,h.2.2⟩) ⟨Or.inl ⟨by rfl,fun w hS=>by obtain ⟨h0,h1⟩:=hS;go_simp⟩,fun _=>rfl⟩ hS ?_
    simp only [ud9]
    refine anyHF_take (i:=2) (d:=5) (v:=.slice A n cap) (by kernel_rfl) rfl (by kernel_rfl) (by kernel_rfl) (by kernel_rfl) rfl (fun _ _ _ h=>⟨h.1,by simpa [Act.put] using h.2.1,h.2.2⟩) ⟨Or.inl ⟨by rfl,fun w hS=>by obtain ⟨h0,h1⟩:=hS;go_simp⟩,fun _=>rfl⟩ hS ?_
    simp only [ud9]
    refine oneF (i:=1) (c:=?_)
    gi_wp2_with fail
    refine ⟨trivial,(callsIn_wide.2 (HPP.out _ hBz.drew)).mono ?_⟩
    rintro e w1 ⟨rfl,hB1⟩
    exact ⟨rfl,rfl,below_in hBz (below_undrew hB1)⟩))
 clear hC b0 b1 hL2 hno hlen hcl
 generalize css.length=n at *
 go_enter Tryz.func159,Tryz.ntmps159
 have hmf:∀ (fn:Fn) (first cap:Array Value) (w:World),(Instr.makeFunc fn first cap).run Tryz.prog w = .ok (.func fn first cap) w:=fun _ _ _ _=>rfl
 go_wp2_with (go_at_call 211;refine HA.out.mono ?_;rintro e w1 ⟨rfl,hB1⟩)
 go_ret
 exact ⟨rfl,below_in hBW (below_in hB1 (below_one _ _))⟩
end Go.Proofs.YtcchjofjpflbhaaGreatDoor.E
