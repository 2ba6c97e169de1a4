/- -/
import Derived.OrdersIn
import Derived.OrdersHeld
import Derived.Test.YtcchjofjpflbhaaGreatDoorPACA
set_option linter.unusedVariables false
set_option linter.unusedSimpArgs false
set_option maxRecDepth 100000
set_option maxHeartbeats 1000000
namespace Go.Proofs.YtcchjofjpflbhaaGreatDoor.E
open Go.RowKit Go.Shelf Go.Proofs.YtcchjofjpflbhaaGreatDoor.C

theorem need_yes (w:World):Calls Tryz.prog 220 #[.bool true] w fun e w'=>e = .returned (.tuple #[])∧w=w':=by
 go_enter Tryz.func220,Tryz.ntmps220
 go_wp2
 go_end0
 exact ⟨rfl,rfl⟩
theorem idleB (p:Addr) (w:World) :
 CallsD Tryz.prog 287 #[.pointer (some p)] .returning w fun e u' w'=>e = .returned (.tuple #[])∧u' = .returning∧w'=w:=by
 have hta:=assert_errno
 refine callsD_of_wpS Tryz.func287 rfl fun c₀ cs hu=>?_
 simp only [Tryz.ntmps287,List.size_toArray,List.length_cons,List.length_nil,Nat.reduceAdd,Nat.reduceSub,Array.replicate_succ,Array.replicate_zero,List.push_toArray,List.append_toArray,List.nil_append,List.cons_append]
 apply wpS_seq
 apply wpS_region
 simp [wpOpsS,go_sem,recoverD,hu,Exit.thenS]
 all_goals (refine wpS_of_wp ?_;go_wp2;cases c₀;simp_all [bodyPostS,results,Tryz.results287])

theorem answeredB_yes (f:Nat) (caps:Array Value) (w:World) (Post:Value→World→Prop) (hent:∀ W,(callFunc f caps).run Tryz.prog W = .ok (.enter f caps) W)
 (h:∀ W,Below w.heap.size w W→w.heap.size<W.heap.size→Calls Tryz.prog f caps W fun e w'=>∃ v,e = .returned v∧Post v w'∧Below W.heap.size W w')
 (hP:∀ v W,Post v W→Post v (W.setCell ⟨w.heap.size,0,none⟩ (.int .i64 0))) :
 Calls Tryz.prog 270 #[.func (.func f) #[] caps] w fun e w'=>∃ v,e = .returned (.tuple #[v,.int .i64 0])∧Post v w'∧Below w.heap.size w w':=by
 have hmf:∀ (fn:Fn) (first cap:Array Value) (w:World),(Instr.makeFunc fn first cap).run Tryz.prog w = .ok (.func fn first cap) w:=fun _ _ _ _=>rfl
 have h1:=h (w.alloc (.cells #[.int .i64 0] 34)) ((Below.refl _ w).alloc (Nat.le_refl _) _) (by simp)
 go_enter_defers Tryz.func270,Tryz.ntmps270
 go_wp2
 refine h1.mono ?_
 rintro e w1 ⟨v,rfl,hv,hB1⟩
 have b1:Blk w1 w.heap.size 34 #[.int .i64 0]:=(Blk.new w _ _).below hB1 (by simp)
 have c1:=b1.cell 0
 have f1:=b1.frozen 0
 simp only [List.getElem?_toArray,List.getElem?_cons_zero] at c1
 go_wp2
 refine leaves_cons (f:=287) (args:=#[.pointer (some ⟨w.heap.size,0,none⟩)]) (by simp) (by simp [go_sem]) ?_
 refine (idleB ⟨w.heap.size,0,none⟩ _).mono ?_
 rintro e u' w'' ⟨rfl,rfl,rfl⟩
 have c2:(w1.setCell ⟨w.heap.size,0,none⟩ (.int .i64 0)).cell? ⟨w.heap.size,0,none⟩=some (.int .i64 0):=World.cell?_setCell_same' _ _ _ (by rw [c1];rfl)
 simp [Leaves,settle,results,Tryz.results270,go_sem,c2]
 exact ⟨hP _ _ hv,(((Below.refl _ w).alloc (Nat.le_refl _) _).trans (hB1.mono (by simp))).setCell (Nat.le_refl _) _⟩

theorem sureI (n:Int) (w:World):Calls Tryz.prog 221 #[.int .i64 n,.int .i64 0] w fun e w'=>e = .returned (.int .i64 n)∧w=w':=by
 go_enter Tryz.func221,Tryz.ntmps221
 go_wp2
 go_ret
 exact ⟨rfl,rfl⟩
theorem sureB (v:Value) (w:World):Calls Tryz.prog 262 #[v,.int .i64 0] w fun e w'=>e = .returned v∧w=w':=by
 go_enter Tryz.func262,Tryz.ntmps262
 go_wp2
 go_ret
 exact ⟨rfl,rfl⟩
theorem code_any (p:Int) (w:World):Calls Tryz.prog 223 #[.int .i64 p] w fun e w'=>e = .returned (.agg #[.int .i64 1,.int .i64 p])∧Below w.heap.size w w':=by
 go_enter Tryz.func223,Tryz.ntmps223
 go_wp2
 have b:=Blk.new w 61 #[.int .i64 1,.int .i64 p]
 have c0:=b.cell 0
 have c1:=b.cell 1
 simp only [List.getElem?_toArray,List.getElem?_cons_zero,List.getElem?_cons_succ] at c0 c1
 exact bodyPost_ret (v:=.agg #[.int .i64 1,.int .i64 p]) (by simp [results,Tryz.results223,go_sem,c0,c1]) rfl ⟨rfl,below_one w _⟩
theorem last_any (p:Int) (hp:0≤p∧p≤100) (w:World):Calls Tryz.prog 264 #[.int .i64 p] w fun e w'=>e = .returned (.int .i64 (p - 1))∧Below w.heap.size w w':=by
 have hw:IntKind.i64.wrap (p - 1)=p - 1:=IntWalk.i64_in _ (by omega)
 go_enter Tryz.func264,Tryz.ntmps264
 go_wp2
 go_ret
 exact ⟨rfl,Below.refl _ _⟩
theorem primeOf_yes (p:Int) (hR:RightC 1 p) (w:World) (hL:Laid w):Calls Tryz.prog 213 #[.int .i64 p] w fun e w'=>e = .returned (.int .i64 p)∧Below w.heap.size w w':=by
 have HC:=Lib.hid (fun W hL=>(shapeCheck_any 1 p W hL).mono fun e w' h=>And.intro (h.1 hR) h.2.2)
 clear hR
 go_enter Tryz.func213,Tryz.ntmps213
 go_wp2_with (first
  | (go_at_call 223;refine (code_any p _).mono ?_;rintro e w1 ⟨rfl,hB1⟩;replace hL:=hL.next hB1)
  | (go_at_call 99;refine (HC.out _ hL).mono ?_;rintro e w2 ⟨rfl,hB2⟩)
  | (go_at_call 220;refine (need_yes _).mono ?_;rintro e w3 ⟨rfl,rfl⟩))
 go_ret
 exact ⟨rfl,below_in hB1 hB2⟩
theorem rows_any (p:Int) (hR:RightC 1 p) (w:World) (hL:Laid w):Calls Tryz.prog 227 #[.int .i64 p] w fun e w'=>e = .returned (.int .i64 (p - 1))∧Below w.heap.size w w':=by
 have HC:=Lib.hid (fun W hL=>(shapeRows_any 1 p W hL).mono fun _ _ h=>(⟨h.1 hR,h.2.2⟩:_∧_))
 clear hR
 go_enter Tryz.func227,Tryz.ntmps227
 go_wp2_with (first
  | (go_at_call 223;refine (code_any p _).mono ?_;rintro e w1 ⟨rfl,hB1⟩;replace hL:=hL.next hB1)
  | (go_at_call 265;refine (HC.out _ hL).mono ?_;rintro e w2 ⟨rfl,hB2⟩)
  | (go_at_call 221;refine (sureI _ _).mono ?_;rintro e w3 ⟨rfl,rfl⟩))
 go_ret
 exact ⟨rfl,below_in hB1 hB2⟩
theorem data_any (p:Int) (hR:RightC 1 p) (w:World) (hL:Laid w):Calls Tryz.prog 167 #[.int .i64 p] w fun e w'=>e = .returned (.int .i64 p)∧Below w.heap.size w w':=by
 have HC:=Lib.hid (fun W hL=>(shapeData_any 1 p W hL).mono fun _ _ h=>(⟨h.1 hR,h.2.2⟩:_∧_))
 rw [show shortN 1=0 from rfl,Int.sub_zero] at HC
 clear hR
 go_enter Tryz.func167,Tryz.ntmps167
 go_wp2_with (first
  | (go_at_call 223;refine (code_any p _).mono ?_;rintro e w1 ⟨rfl,hB1⟩;replace hL:=hL.next hB1)
  | (go_at_call 222;refine (HC.out _ hL).mono ?_;rintro e w2 ⟨rfl,hB2⟩)
  | (go_at_call 221;refine (sureI _ _).mono ?_;rintro e w3 ⟨rfl,rfl⟩))
 go_ret
 exact ⟨rfl,below_in hB1 hB2⟩
end Go.Proofs.YtcchjofjpflbhaaGreatDoor.E

namespace Go.Proofs.YtcchjofjpflbhaaGreatDoor.E
open Go.RowKit Go.Shelf Go.Proofs.YtcchjofjpflbhaaGreatDoor.C

def Cols (B:Nat) (W:World) (v:Value) (css:List (List (List UInt8))):Prop :=
 ∃ A cap,v = .slice A css.length cap∧css.length≤cap∧(0<css.length→∃ b off,A=some ⟨b,off,none⟩∧b<B ∧
  ∀ j,j<css.length→∃ u,W.cell? ⟨b,off+j,none⟩=some u∧Many B W u (css[j]?.getD []))
section
variable {W W':World} {B B':Nat} {v:Value} {css:List (List (List UInt8))}
theorem Cols.keep (h:Cols B W v css) (hk:∀ p:Addr,p.block<B→W'.cell? p=W.cell? p):Cols B W' v css:=by
 obtain ⟨A,cap,e,hc,hA⟩:=h
 refine ⟨A,cap,e,hc,fun hp=>?_⟩
 obtain ⟨b,off,e1,hb,hr⟩:=hA hp
 refine ⟨b,off,e1,hb,fun j hj=>?_⟩
 obtain ⟨u,hu,hm⟩:=hr j hj
 exact ⟨u,(hk ⟨b,off+j,none⟩ hb).trans hu,hm.keep hk⟩
theorem Cols.below (h:Cols B W v css) (hb:Below B W W'):Cols B W' v css:=h.keep fun _ hp=>hb.cell hp
theorem Cols.at_ (h:Cols B W v css) (h0:0<css.length):∃ b off cap,v = .slice (some ⟨b,off,none⟩) css.length cap∧css.length≤cap∧b<B∧∀ j,j<css.length→∃ u,W.cell? ⟨b,off+j,none⟩=some u∧Many B W u (css[j]?.getD []):=by
 obtain ⟨A,cap,rfl,hc,hA⟩:=h
 obtain ⟨b,off,rfl,hb,hr⟩:=hA h0
 exact ⟨b,off,cap,rfl,hc,hb,hr⟩
end

theorem areAlike_any {B B':Nat} (v1 v2:Value) (one:List UInt8) (ls:List (List UInt8)) (w:World) (h1:Bytes B w v1 one) (hM:Many B' w v2 ls) (hls:ls.length≤1000) (b:Bool) (hb:b=true↔(Cell one∧AllLen one.length ls)) :
 Calls Tryz.prog 255 #[v1,v2] w fun e w'=>e = .returned (.bool b)∧Below w.heap.size w w':=by
 have HC:=Lib.hid (C.check_any (B:=B) v1 one w h1)
 obtain ⟨A,cap,rfl,_,_⟩:=id hM
 obtain ⟨A1,cap1,rfl,_,_⟩:=id h1
 have HB:=Lib.hid hb
 clear hb
 obtain ⟨q,hq⟩:∃ q,one.length=q:=⟨_,rfl⟩
 have HQ:=Lib.hid hq
 rw [hq] at HC HB ⊢
 clear hq h1
 go_enter Tryz.func255,Tryz.ntmps255
 go_wp2
 go_loop [9] (fun i=>∃ k:Nat,k≤ls.length∧i = .int .i64 k∧Hid (∀ j,j<k→(ls[j]?.getD []).length=q)) (fun i=>ls.length - (intOf i).toNat)
 case atStart=>exact ⟨0,Nat.zero_le _,rfl,Lib.hid fun j hj=>absurd hj (by omega)⟩
 case round =>
  obtain ⟨k,hk,rfl,HA⟩:=hrel
  by_cases hlt:k<ls.length
  · have hdec:decide ((k:Int)<(ls.length:Int))=true:=by simp;omega
    obtain ⟨b1,off,rfl,hb1,hrow⟩:=many_at hM (by omega)
    obtain ⟨A2,cp,hc,hB2⟩:=hrow k hlt
    clear hrow hB2
    have HL:Hid ((ls[k]?.getD []).length=q→∀ j,j<k+1→(ls[j]?.getD []).length=q):=by
     intro h j hj
     rcases Nat.lt_or_ge j k with h1 | h1
     · exact HA.out j h1
     · obtain rfl:j=k:=by omega
       exact h
    have HM:Hid (¬ (ls[k]?.getD []).length=q→¬ AllLen q ls):=fun h h2=>h (h2 k hlt)
    generalize (ls[k]?.getD []).length=qq at hc HL HM
    by_cases hln:qq=q
    · have HL2:=Lib.hid (HL.out hln)
      subst hln
      have hne:((qq:Int) != (qq:Int))=false:=by simp
      go_wp2
      go_round
      case rel=>exact ⟨k+1,by omega,by go_num,HL2⟩
      case measure=>simp [intOf];omega
    · have hne:((qq:Int) != (q:Int))=true:=by simp;omega
      have HF:Hid (b=false):=by
       unfold Hid
       rw [Bool.eq_false_iff]
       exact fun h=>HM.out hln ((HB.out).1 h).2
      have hnq:¬ (qq:Int)=(q:Int):=by omega
      go_wp2
      go_ret
      exact ⟨ret_bool HF.out.symm,Below.refl _ _⟩
  · obtain rfl:k=ls.length:=by omega
    have e1:decide ((ls.length:Int)<(ls.length:Int))=false:=by simp
    by_cases hce:Cell one
    · rw [if_pos hce] at HC
      have HF:Hid (b=true):=(HB.out).2 ⟨hce,HA.out⟩
      clear HB HA
      go_wp2_with (go_at_call 285;refine HC.out.mono ?_;rintro e w1 ⟨rfl,hB1⟩)
      go_ret
      exact ⟨ret_bool HF.out.symm,hB1⟩
    · rw [if_neg hce] at HC
      have HF:Hid (b=false):=by
       unfold Hid
       rw [Bool.eq_false_iff]
       exact fun h=>hce ((HB.out).1 h).1
      clear HB HA
      go_wp2_with (go_at_call 285;refine HC.out.mono ?_;rintro e w1 ⟨rfl,hB1⟩)
      go_ret
      exact ⟨ret_bool HF.out.symm,hB1⟩
end Go.Proofs.YtcchjofjpflbhaaGreatDoor.E

namespace Go.Proofs.YtcchjofjpflbhaaGreatDoor.E
open Go.RowKit Go.Shelf Go.Proofs.YtcchjofjpflbhaaGreatDoor.C

def firstC (css:List (List (List UInt8))):List UInt8:=((css[0]?.getD [])[0]?.getD [])
def TogOk (R:Nat) (css:List (List (List UInt8))):Prop:=0<css.length∧∀ j,j<css.length→(css[j]?.getD []).length=R∧(Cell (firstC css)∧AllLen (firstC css).length (css[j]?.getD []))

theorem together_yes {B:Nat} (p:Int) (R:Nat) (hR:RightC 1 p) (hr:p - 1=(R:Int)) (v:Value) (css:List (List (List UInt8))) (w:World) (hL:Laid w) (hB:B≤w.heap.size) (hC:Cols B w v css) (hlen:css.length≤1000) (hok:TogOk R css) :
 Calls Tryz.prog 214 #[.int .i64 p,v] w fun e w'=>e = .returned (.agg #[.int .i64 p,v])∧Below w.heap.size w w':=by
 have HRw:=Lib.hid (fun W hL=>rows_any p hR W hL)
 rw [hr] at HRw
 have hR2:2≤R:=by have:=hR.und.p1;omega
 have hR3:R≤16:=by have:=hR.und.p2;omega
 obtain ⟨b0,off0,cap,rfl,hcap,hb0,hrow⟩:=hC.at_ hok.1
 have HRow:=Lib.hid hrow
 have HOK:=Lib.hid hok.2
 have hl0:=hok.1
 clear hr hR hC hrow hok
 go_enter Tryz.func214,Tryz.ntmps214
 have hBz:=below_one w (.cells #[.int .i64 0,.slice none 0 0] 208)
 have bz:=Blk.new w 208 #[.int .i64 0,.slice none 0 0]
 have hL1:=hL.next hBz
 have hd0:decide (0<(css.length:Int))=true:=by simp;omega
 go_wp2_with (go_at_call 220;refine (need_yes _).mono ?_;rintro e w3 ⟨rfl,rfl⟩)
 refine (HRw.out _ hL1).mono ?_
 rintro e w1 ⟨rfl,hB1⟩
 replace bz:=bz.below hB1 bz.lt
 have hBw:=below_in hBz hB1
 clear hBz hB1 hL1 HRw hL
 obtain ⟨u0,hu0,hm0⟩:=HRow.out 0 hl0
 have hlen0:=(HOK.out 0 hl0).1
 obtain ⟨A0,cap0,rfl,hcap0,_⟩:=id hm0
 obtain ⟨b1,off1,rfl,hb1,hrow1⟩:=many_at hm0 (by rw [hlen0];omega)
 clear hm0 hcap0
 obtain ⟨c0v,hc0,hbc0⟩:=(by
  obtain ⟨A9,cp9,hc9,hB9⟩:=hrow1 0 (by rw [hlen0];omega)
  exact ⟨_,hc9,hB9⟩:∃ c0v,w.cell? ⟨b1,off1+0,none⟩=some c0v∧Bytes B w c0v (firstC css))
 rw [hlen0,Nat.add_zero] at hu0
 rw [Nat.add_zero] at hc0
 clear hrow1
 go_wp2
 go_loopw [16] (fun i wr=>∃ k:Nat,k≤css.length∧i = .int .i64 k∧Blk wr w.heap.size 208 #[.int .i64 0,.slice none 0 0]∧Below w.heap.size w wr) (fun i _=>css.length - (intOf i).toNat)
 case atStart=>exact ⟨0,Nat.zero_le _,rfl,bz,hBw⟩
 case round =>
  clear bz hBw
  obtain ⟨k,hk,rfl,bz,hBr⟩:=hrel
  by_cases hlt:k<css.length
  · have hdec:decide ((k:Int)<(css.length:Int))=true:=by simp;omega
    obtain ⟨u,hu,hmu⟩:=HRow.out k hlt
    obtain ⟨hlk,hce,hal⟩:=HOK.out k hlt
    obtain ⟨Au,capu,rfl,_,_⟩:=id hmu
    have HA0:=areAlike_any c0v (.slice Au (css[k]?.getD []).length capu) (firstC css) (css[k]?.getD []) wr (hbc0.below (hBr.mono hB)) (hmu.below (hBr.mono hB)) (by omega) true (by simp [hce,hal])
    rw [hlk] at hu HA0
    have HA:=Lib.hid HA0
    clear HA0
    have x0:wr.cell? ⟨b0,off0,none⟩=some (.slice (some ⟨b1,off1,none⟩) R cap0):=(hBr.cell (p:=⟨b0,off0,none⟩) (by exact Nat.lt_of_lt_of_le hb0 hB)).trans hu0
    have xk:wr.cell? ⟨b0,off0+k,none⟩=some (.slice Au R capu):=(hBr.cell (p:=⟨b0,off0+k,none⟩) (by exact Nat.lt_of_lt_of_le hb0 hB)).trans hu
    have y0:wr.cell? ⟨b1,off1,none⟩=some c0v:=(hBr.cell (p:=⟨b1,off1,none⟩) (by exact Nat.lt_of_lt_of_le hb1 hB)).trans hc0
    have hRR:((R:Int) == (R:Int))=true:=by simp
    have i1:(0:Int)<(R:Int):=by omega
    have i2:(0:Int)<(css.length:Int):=by omega
    go_wp2_with (first
     | (go_at_call 255;refine HA.out.mono ?_;rintro e w4 ⟨rfl,hB4⟩)
     | (go_at_call 220;refine (need_yes _).mono ?_;rintro e w3 ⟨rfl,rfl⟩))
    go_roundw
    case rel=>exact ⟨k+1,by omega,by go_num,bz.below hB4 bz.lt,below_in hBr hB4⟩
    case measure=>simp [intOf];omega
  · obtain rfl:k=css.length:=by omega
    have e1:decide ((css.length:Int)<(css.length:Int))=false:=by simp
    have g0:=bz.cell 0
    have g1:=bz.cell 1
    have f0:=bz.frozen 0
    have f1:=bz.frozen 1
    simp only [List.getElem?_toArray,List.getElem?_cons_zero,List.getElem?_cons_succ] at g0 g1
    go_wp2
    have r:=(bz.set_ 0 (.int .i64 p)).set_ 1 (.slice (some ⟨b0,off0,none⟩) css.length cap)
    have r0:=r.cell 0
    have r1:=r.cell 1
    simp only [List.setIfInBounds_toArray,List.set_cons_zero,List.set_cons_succ,List.getElem?_toArray,List.getElem?_cons_zero,List.getElem?_cons_succ] at r0 r1
    exact bodyPost_ret (v:=.agg #[.int .i64 p,.slice (some ⟨b0,off0,none⟩) css.length cap]) (by simp [results,Tryz.results214,go_sem,r0,r1]) rfl ⟨rfl,(hBr.setCell (by simp) _).setCell (by simp) _⟩

end Go.Proofs.YtcchjofjpflbhaaGreatDoor.E

namespace Go.Proofs.YtcchjofjpflbhaaGreatDoor.E
open Go.RowKit Go.Shelf Go.Proofs.YtcchjofjpflbhaaGreatDoor.C

theorem cell_set_int {W:World} {g:Nat} {t:TypeId} {x:Int} (h:Blk W g t #[.int .i64 x]) {q:Addr} (hq:q.spot=none) {y:Value} (hy:W.cell? q=some y) (hn:∀ n,y≠.int .i64 n) (u:Value):(W.setCell ⟨g,0,none⟩ u).cell? q=some y:=by
 have hne:q.block≠g:=fun e=>by
  obtain ⟨b,off,s⟩:=q
  simp only at e hq
  subst e hq
  rw [h.cell off] at hy
  cases off with
  | zero=>simp at hy;exact hn _ hy.symm
  | succ k=>simp at hy
 exact (World.cell?_of_block (Below.heap_setCell W ⟨g,0,none⟩ u q.block hne)).trans hy
theorem Bytes.set_int {W:World} {g:Nat} {t:TypeId} {x:Int} {B:Nat} {v:Value} {l:List UInt8} (h:Bytes B W v l) (hb:Blk W g t #[.int .i64 x]) (u:Value):Bytes B (W.setCell ⟨g,0,none⟩ u) v l:=by
 obtain ⟨A,cap,e,hc,hA⟩:=h
 refine ⟨A,cap,e,hc,fun hp=>?_⟩
 obtain ⟨b,off,e2,hlt,hcell⟩:=hA hp
 exact ⟨b,off,e2,hlt,fun j hj=>cell_set_int hb rfl (hcell j hj) (fun n e=>by cases e) u⟩
theorem Many.set_int {W:World} {g:Nat} {t:TypeId} {x:Int} {B:Nat} {v:Value} {ls:List (List UInt8)} (h:Many B W v ls) (hb:Blk W g t #[.int .i64 x]) (u:Value):Many B (W.setCell ⟨g,0,none⟩ u) v ls:=by
 obtain ⟨A,cap,e,hc,hA⟩:=h
 refine ⟨A,cap,e,hc,fun hp=>?_⟩
 obtain ⟨b,off,e2,hlt,hcell⟩:=hA hp
 refine ⟨b,off,e2,hlt,fun j hj=>?_⟩
 obtain ⟨y,hy,hby⟩:=hcell j hj
 obtain ⟨A3,c3,rfl,_⟩:=id hby
 exact ⟨_,cell_set_int hb rfl hy (fun n e=>by cases e) u,Bytes.set_int hby hb u⟩
theorem Cols.set_int {W:World} {g:Nat} {t:TypeId} {x:Int} {B:Nat} {v:Value} {css:List (List (List UInt8))} (h:Cols B W v css) (hb:Blk W g t #[.int .i64 x]) (u:Value):Cols B (W.setCell ⟨g,0,none⟩ u) v css:=by
 obtain ⟨A,cap,e,hc,hA⟩:=h
 refine ⟨A,cap,e,hc,fun hp=>?_⟩
 obtain ⟨b,off,e2,hlt,hcell⟩:=hA hp
 refine ⟨b,off,e2,hlt,fun j hj=>?_⟩
 obtain ⟨y,hy,hby⟩:=hcell j hj
 obtain ⟨A3,c3,rfl,_⟩:=id hby
 exact ⟨_,cell_set_int hb rfl hy (fun n e=>by cases e) u,Many.set_int hby hb u⟩

theorem idle_B (p:Addr) (w:World) :
 CallsD Tryz.prog 287 #[.pointer (some p)] .returning w fun e u' w'=>e = .returned (.tuple #[])∧u' = .returning∧w'=w:=by
 have hta:=assert_errno
 refine callsD_of_wpS Tryz.func287 rfl fun c₀ cs hu=>?_
 simp only [Tryz.ntmps287,List.size_toArray,List.length_cons,List.length_nil,Nat.reduceAdd,Nat.reduceSub,Array.replicate_succ,Array.replicate_zero,List.push_toArray,List.append_toArray,List.nil_append,List.cons_append]
 apply wpS_seq
 apply wpS_region
 simp [wpOpsS,go_sem,recoverD,hu,Exit.thenS]
 all_goals (refine wpS_of_wp ?_;go_wp2;cases c₀;simp_all [bodyPostS,results,Tryz.results287])
theorem ans_B_yes (f:Nat) (caps:Array Value) (w:World) (Post:Value→World→Prop) (hent:∀ W,(callFunc f caps).run Tryz.prog W = .ok (.enter f caps) W)
 (h:∀ W,Below w.heap.size w W→Blk W w.heap.size 34 #[.int .i64 0]→Calls Tryz.prog f caps W fun e w'=>∃ v,e = .returned v∧Post v w'∧Below W.heap.size W w') :
 Calls Tryz.prog 270 #[.func (.func f) #[] caps] w fun e w'=>∃ v W,e = .returned (.tuple #[v,.int .i64 0])∧Post v W∧Blk W w.heap.size 34 #[.int .i64 0]∧w'=W.setCell ⟨w.heap.size,0,none⟩ (.int .i64 0)∧Below w.heap.size w w':=by
 have hmf:∀ (fn:Fn) (first cap:Array Value) (w:World),(Instr.makeFunc fn first cap).run Tryz.prog w = .ok (.func fn first cap) w:=fun _ _ _ _=>rfl
 have h1:=h (w.alloc (.cells #[.int .i64 0] 34)) ((Below.refl _ w).alloc (Nat.le_refl _) _) (Blk.new w _ _)
 clear h
 go_enter_defers Tryz.func270,Tryz.ntmps270
 go_wp2
 refine h1.mono ?_
 rintro e w1 ⟨v,rfl,hv,hB1⟩
 have b1:Blk w1 w.heap.size 34 #[.int .i64 0]:=(Blk.new w _ _).below hB1 (by simp)
 have c1:=b1.cell 0
 have f1:=b1.frozen 0
 simp only [List.getElem?_toArray,List.getElem?_cons_zero] at c1
 go_wp2
 refine leaves_cons (f:=287) (args:=#[.pointer (some ⟨w.heap.size,0,none⟩)]) (by simp) (by simp [go_sem]) ?_
 refine (idle_B ⟨w.heap.size,0,none⟩ _).mono ?_
 rintro e u' w'' ⟨rfl,rfl,rfl⟩
 have c2:(w1.setCell ⟨w.heap.size,0,none⟩ (.int .i64 0)).cell? ⟨w.heap.size,0,none⟩=some (.int .i64 0):=World.cell?_setCell_same' _ _ _ (by rw [c1];rfl)
 simp [Leaves,settle,results,Tryz.results270,go_sem,c2]
 exact ⟨w1,hv,b1,rfl,(((Below.refl _ w).alloc (Nat.le_refl _) _).trans (hB1.mono (by simp))).setCell (Nat.le_refl _) _⟩
theorem idle_S (p:Addr) (w:World) :
 CallsD Tryz.prog 219 #[.pointer (some p)] .returning w fun e u' w'=>e = .returned (.tuple #[])∧u' = .returning∧w'=w:=by
 have hta:=assert_errno
 refine callsD_of_wpS Tryz.func219 rfl fun c₀ cs hu=>?_
 simp only [Tryz.ntmps219,List.size_toArray,List.length_cons,List.length_nil,Nat.reduceAdd,Nat.reduceSub,Array.replicate_succ,Array.replicate_zero,List.push_toArray,List.append_toArray,List.nil_append,List.cons_append]
 apply wpS_seq
 apply wpS_region
 simp [wpOpsS,go_sem,recoverD,hu,Exit.thenS]
 all_goals (refine wpS_of_wp ?_;go_wp2;cases c₀;simp_all [bodyPostS,results,Tryz.results219])
theorem ans_S_yes (f:Nat) (caps:Array Value) (w:World) (Post:Value→World→Prop) (hent:∀ W,(callFunc f caps).run Tryz.prog W = .ok (.enter f caps) W)
 (h:∀ W,Below w.heap.size w W→Blk W w.heap.size 34 #[.int .i64 0]→Calls Tryz.prog f caps W fun e w'=>∃ v,e = .returned v∧Post v w'∧Below W.heap.size W w') :
 Calls Tryz.prog 164 #[.func (.func f) #[] caps] w fun e w'=>∃ v W,e = .returned (.tuple #[v,.int .i64 0])∧Post v W∧Blk W w.heap.size 34 #[.int .i64 0]∧w'=W.setCell ⟨w.heap.size,0,none⟩ (.int .i64 0)∧Below w.heap.size w w':=by
 have hmf:∀ (fn:Fn) (first cap:Array Value) (w:World),(Instr.makeFunc fn first cap).run Tryz.prog w = .ok (.func fn first cap) w:=fun _ _ _ _=>rfl
 have h1:=h (w.alloc (.cells #[.int .i64 0] 34)) ((Below.refl _ w).alloc (Nat.le_refl _) _) (Blk.new w _ _)
 clear h
 go_enter_defers Tryz.func164,Tryz.ntmps164
 go_wp2
 refine h1.mono ?_
 rintro e w1 ⟨v,rfl,hv,hB1⟩
 have b1:Blk w1 w.heap.size 34 #[.int .i64 0]:=(Blk.new w _ _).below hB1 (by simp)
 have c1:=b1.cell 0
 have f1:=b1.frozen 0
 simp only [List.getElem?_toArray,List.getElem?_cons_zero] at c1
 go_wp2
 refine leaves_cons (f:=219) (args:=#[.pointer (some ⟨w.heap.size,0,none⟩)]) (by simp) (by simp [go_sem]) ?_
 refine (idle_S ⟨w.heap.size,0,none⟩ _).mono ?_
 rintro e u' w'' ⟨rfl,rfl,rfl⟩
 have c2:(w1.setCell ⟨w.heap.size,0,none⟩ (.int .i64 0)).cell? ⟨w.heap.size,0,none⟩=some (.int .i64 0):=World.cell?_setCell_same' _ _ _ (by rw [c1];rfl)
 simp [Leaves,settle,results,Tryz.results164,go_sem,c2]
 exact ⟨w1,hv,b1,rfl,(((Below.refl _ w).alloc (Nat.le_refl _) _).trans (hB1.mono (by simp))).setCell (Nat.le_refl _) _⟩
end Go.Proofs.YtcchjofjpflbhaaGreatDoor.E

namespace Go.Proofs.YtcchjofjpflbhaaGreatDoor.E
open Go.RowKit Go.Shelf Go.Proofs.YtcchjofjpflbhaaGreatDoor.C

theorem enter_data:∀ args W,(callFunc 167 args).run Tryz.prog W = .ok (.enter 167 args) W:=enters_of Tryz.func167 (by kernel_rfl) rfl
def DataOk (p:Int) (css:List (List (List UInt8))):Prop:=RightC 1 p∧(css.length:Int)=p∧TogOk (p - 1).toNat css

theorem asked_yes {B:Nat} (p:Int) (v:Value) (css:List (List (List UInt8))) (w:World) (hL:Laid w) (hB:B≤w.heap.size) (hC:Cols B w v css) (hlen:css.length≤1000) (hok:DataOk p css) :
 Calls Tryz.prog 166 #[.int .i64 p,.func (.func 167) #[] #[],v] w fun e w'=>e = .returned (.agg #[.int .i64 p,v])∧Below w.heap.size w w':=by
 obtain ⟨hR,hn,ht⟩:=hok
 have HP:=Lib.hid (fun W hL=>primeOf_yes p hR W hL)
 have HD:=Lib.hid (fun W hL=>data_any p hR W hL)
 have HT:=Lib.hid (fun W hL hB hC=>together_yes (B:=B) p (p - 1).toNat hR (by have:=hR.und.p1;omega) v css W hL hB hC hlen ht)
 have hent:=enter_data
 obtain ⟨A,cap,rfl,_,_⟩:=id hC
 have hnn:((css.length:Int) == p)=true:=by simpa using hn
 clear hR hn ht
 have hBz:=below_one w (.cells #[.int .i64 0,.slice none 0 0] 208)
 have bz:=Blk.new w 208 #[.int .i64 0,.slice none 0 0]
 have hL1:=hL.next hBz
 go_enter Tryz.func166,Tryz.ntmps166
 go_wp2_with fail
 refine (HP.out _ hL1).mono ?_
 rintro e w1 ⟨rfl,hB1⟩
 have hBa:=below_in hBz hB1
 have hL2:=hL.next hBa
 replace bz:=bz.below hB1 bz.lt
 clear hBz hB1 hL1 HP
 go_wp2_with fail
 refine (HD.out _ hL2).mono ?_
 rintro e w2 ⟨rfl,hB1⟩
 have hBb:=below_in hBa hB1
 have hL3:=hL.next hBb
 replace bz:=bz.below hB1 bz.lt
 clear hBa hB1 hL2 HD
 go_wp2_with (go_at_call 220;refine (need_yes _).mono ?_;rintro e w' ⟨rfl,rfl⟩)
 refine (HT.out _ hL3 (Nat.le_trans hB hBb.size) (hC.below (hBb.mono hB))).mono ?_
 rintro e w3 ⟨rfl,hB1⟩
 have hBc:=below_in hBb hB1
 replace bz:=bz.below hB1 bz.lt
 have g0:=bz.cell 0
 have g1:=bz.cell 1
 have f0:=bz.frozen 0
 have f1:=bz.frozen 1
 simp only [List.getElem?_toArray,List.getElem?_cons_zero,List.getElem?_cons_succ] at g0 g1
 clear hBb hB1 hL3 HT hC
 go_wp2
 have r:=(bz.set_ 0 (.int .i64 p)).set_ 1 (.slice A css.length cap)
 have r0:=r.cell 0
 have r1:=r.cell 1
 simp only [List.setIfInBounds_toArray,List.set_cons_zero,List.set_cons_succ,List.getElem?_toArray,List.getElem?_cons_zero,List.getElem?_cons_succ] at r0 r1
 exact bodyPost_ret (v:=.agg #[.int .i64 p,.slice A css.length cap]) (by simp [results,Tryz.results166,go_sem,r0,r1]) rfl ⟨rfl,(hBc.setCell (by simp) _).setCell (by simp) _⟩

end Go.Proofs.YtcchjofjpflbhaaGreatDoor.E

namespace Go.Proofs.YtcchjofjpflbhaaGreatDoor.E
open Go.RowKit Go.Shelf Go.Proofs.YtcchjofjpflbhaaGreatDoor.C

theorem BytesP.imp {P Q:Nat→Prop} {W:World} {v:Value} {l:List UInt8} (h:BytesP P W v l) (hq:∀ b,P b→Q b):BytesP Q W v l:=by
 obtain ⟨A,cap,e,hc,hA⟩:=h
 refine ⟨A,cap,e,hc,fun hp=>?_⟩
 obtain ⟨b,off,e2,hb,hcell⟩:=hA hp
 exact ⟨b,off,e2,hq b hb,hcell⟩
theorem BytesP.below {N:Nat} {P:Nat→Prop} {W W':World} {v:Value} {l:List UInt8} (h:BytesP P W v l) (hP:∀ b,P b→b<N) (hb:Below N W W'):BytesP P W' v l:=h.keep fun b hp=>hb.block b (hP b hp)
theorem Tryz.infoSlcE:(Tryz.prog.info? 64).map (fun i=>(i.zero,i.size,i.bytes))=some (some (.slice none 0 0),1,24):=by kernel_rfl
def MakesP (P:Nat→Prop) (fid:Nat) (caps:Array Value) (ls:List (List UInt8)) (w:World):Prop :=
 (∀ args W,(callFunc fid args).run Tryz.prog W = .ok (.enter fid args) W)∧∀ (n:Nat) (W:World),n<ls.length→Below w.heap.size w W→Calls Tryz.prog fid (#[.int .i64 (n:Int)] ++ caps) W fun e w'=>∃ u,e = .returned u∧BytesP (fun b=>(P b∨W.heap.size≤b)∧b<w'.heap.size) w' u (ls[n]?.getD [])∧Below W.heap.size W w'
def Makes (fid:Nat) (caps:Array Value) (ls:List (List UInt8)) (w:World):Prop:=MakesP (fun b=>b<w.heap.size) fid caps ls w
def ManyP (P:Nat→Prop) (W:World) (v:Value) (ls:List (List UInt8)):Prop :=
 ∃ A cap,v = .slice A ls.length cap∧ls.length≤cap∧(0<ls.length→∃ b off,A=some ⟨b,off,none⟩∧P b∧∀ j,j<ls.length→∃ u,W.cell? ⟨b,off+j,none⟩=some u∧BytesP P W u (ls[j]?.getD []))

theorem listedP_any (P:Nat→Prop) (fid:Nat) (caps:Array Value) (ls:List (List UInt8)) (w:World) (hP:∀ b,P b→b<w.heap.size) (hlen:ls.length≤1000) (hm:MakesP P fid caps ls w) :
 Calls Tryz.prog 226 #[.int .i64 (ls.length:Int),.func (.func fid) #[] caps] w fun e w'=>∃ v,e = .returned v∧ManyP (fun b=>(P b∨w.heap.size≤b)∧b<w'.heap.size) w' v ls∧Below w.heap.size w w':=by
 obtain ⟨hent,hmk⟩:=hm
 have HM:=Lib.hid hmk
 clear hmk
 obtain ⟨N,hN⟩:∃ N,ls.length=N:=⟨_,rfl⟩
 have HN:=Lib.hid hN
 rw [hN] at hlen ⊢
 clear hN
 obtain ⟨i0,hi,hz0,hz1,hz2⟩:=info_parts Tryz.infoSlcE
 have hmake:=run_make (P:=Tryz.prog) w 49 64 i0 (.slice none 0 0) Tryz.underlying49 hi hz0 .i64 .i64 (N:Int) (N:Int) (by omega) (by omega) (by rw [hz2];omega) (by omega)
 simp only [hz1,Int.toNat_natCast] at hmake
 have bA:=Blk.new w 64 (madeCells (Value.slice none 0 0).cells (N * 1))
 have hBA:=below_one w (.cells (madeCells (Value.slice none 0 0).cells (N * 1)) 64)
 have hbz:(madeCells (Value.slice none 0 0).cells (N * 1)).size=N * 1:=size_madeCells _ _
 obtain ⟨wA,hwA⟩:∃ wA,w.alloc (.cells (madeCells (Value.slice none 0 0).cells (N * 1)) 64)=wA:=⟨_,rfl⟩
 rw [hwA] at hmake bA hBA
 generalize madeCells (Value.slice none 0 0).cells (N * 1)=csA at bA hbz
 rw [Nat.mul_one] at hbz
 clear hwA hi hz0 hz1 hz2
 go_enter Tryz.func226,Tryz.ntmps226
 go_wp2_with fail
 go_loopw [10] (fun i wr=>∃ (k:Nat) (cs:Array Value),k≤N∧i = .int .i64 k∧Blk wr w.heap.size 64 cs∧cs.size=N∧Hid (∀ j,j<k→∃ u,cs[j]?=some u∧BytesP (fun b=>b≠w.heap.size∧b<wr.heap.size∧(P b∨w.heap.size≤b)) wr u (ls[j]?.getD []))∧Below w.heap.size w wr) (fun i _=>N - (intOf i).toNat)
 case atStart=>exact ⟨0,csA,by omega,rfl,bA,hbz,Lib.hid (fun j hj=>absurd hj (by omega)),hBA⟩
 case round =>
  clear bA hbz hBA hmake
  obtain ⟨k,cs,hk,rfl,bA,hbz,HJ,hBr⟩:=hrel
  by_cases hlt:k<N
  · have hdec:decide ((k:Int)<(N:Int))=true:=by simp;omega
    have hcall:=HM.out k wr (by rw [HN.out];exact hlt) hBr
    have i1:(0:Int)≤(k:Int):=by omega
    have i2:(k:Int)<(N:Int):=by omega
    go_wp2_with fail
    refine hcall.mono ?_
    rintro e w4 ⟨u,rfl,hu,hB4⟩
    obtain ⟨Au,capu,rfl,_⟩:=id hu
    have bA4:=bA.below hB4 bA.lt
    have c0:=bA4.cell k
    rw [Array.getElem?_eq_getElem (show k<cs.size by omega)] at c0
    have f0:=bA4.frozen k
    have hgl:=bA.lt
    have hs4:=hB4.size
    have HST:Hid (∀ V,V=w4.setCell ⟨w.heap.size,k,none⟩ (.slice Au (ls[k]?.getD []).length capu) →
     Blk V w.heap.size 64 (cs.setIfInBounds k (.slice Au (ls[k]?.getD []).length capu))∧Below w.heap.size w V ∧
     ∀ j,j<k+1→∃ u,(cs.setIfInBounds k (.slice Au (ls[k]?.getD []).length capu))[j]?=some u∧BytesP (fun b=>b≠w.heap.size∧b<V.heap.size∧(P b∨w.heap.size≤b)) V u (ls[j]?.getD [])):=fun V hV=>by
     have hVs:V.heap.size=w4.heap.size:=by rw [hV];simp
     have hKe:Keeps (fun b=>b≠w.heap.size) w4 V:=fun b hb=>by rw [hV];exact Below.heap_setCell w4 _ _ b (by simpa using hb)
     refine ⟨by rw [hV];exact bA4.set_ k _,by rw [hV];exact (below_in hBr hB4).setCell (by simp) _,fun j hj=>?_⟩
     by_cases hjk:j=k
     · subst hjk
       exact ⟨_,Array.getElem?_setIfInBounds_self_of_lt (by omega),(BytesP.imp hu (Q:=fun b=>b≠w.heap.size∧b<V.heap.size∧(P b∨w.heap.size≤b)) (fun b hb=>⟨by rcases hb.1 with h | h;have:=hP b h;omega;omega,by rw [hVs];exact hb.2,hb.1.imp id fun h=>by omega⟩)).keep (fun b hb=>hKe b hb.1)⟩
     · obtain ⟨u1,h1,h2⟩:=HJ.out j (by omega)
       have h3:=BytesP.below h2 (N:=wr.heap.size) (fun b hb=>hb.2.1) hB4
       exact ⟨u1,by rw [Array.getElem?_setIfInBounds_ne (by omega)];exact h1,(BytesP.imp h3 (Q:=fun b=>b≠w.heap.size∧b<V.heap.size∧(P b∨w.heap.size≤b)) (fun b hb=>⟨hb.1,by rw [hVs];have:=hb.2.1;omega,hb.2.2⟩)).keep (fun b hb=>hKe b hb.1)⟩
    generalize cs[k]'_=o0 at c0
    clear hu hcall hB4 HJ
    go_wp2
    go_roundw
    case rel=>exact ⟨k+1,_,hlt,by go_num,(HST.out _ rfl).1,by simpa using hbz,Lib.hid (HST.out _ rfl).2.2,(HST.out _ rfl).2.1⟩
    case measure=>simp [intOf];omega
  · obtain rfl:k=N:=by omega
    have hdec:decide ((k:Int)<(k:Int))=false:=by simp
    go_wp2
    go_ret
    refine ⟨_,rfl,⟨some ⟨w.heap.size,0,none⟩,k,by rw [HN.out];rfl,by rw [HN.out];exact Nat.le_refl _,fun h0=>⟨w.heap.size,0,rfl,⟨.inr (Nat.le_refl _),bA.lt⟩,fun j hj=>?_⟩⟩,hBr⟩
    obtain ⟨u1,h1,h2⟩:=HJ.out j (by rw [←HN.out];exact hj)
    exact ⟨u1,by rw [Nat.zero_add,bA.cell j];exact h1,BytesP.imp h2 (fun b hb=>⟨hb.2.2,hb.2.1⟩)⟩
theorem ManyP.many {P:Nat→Prop} {N:Nat} {W:World} {v:Value} {ls:List (List UInt8)} (h:ManyP P W v ls) (hP:∀ b,P b→b<N):Many N W v ls:=by
 obtain ⟨A,cap,e,hc,hA⟩:=h
 refine ⟨A,cap,e,hc,fun hp=>?_⟩
 obtain ⟨b,off,e2,hb,hcell⟩:=hA hp
 exact ⟨b,off,e2,hP b hb,fun j hj=>by obtain ⟨u,h1,h2⟩:=hcell j hj;exact ⟨u,h1,BytesP.imp h2 hP⟩⟩
theorem listed_any (fid:Nat) (caps:Array Value) (ls:List (List UInt8)) (w:World) (hlen:ls.length≤1000) (hm:Makes fid caps ls w) :
 Calls Tryz.prog 226 #[.int .i64 (ls.length:Int),.func (.func fid) #[] caps] w fun e w'=>∃ v,e = .returned v∧Many w'.heap.size w' v ls∧Below w.heap.size w w' :=
 (listedP_any (fun b=>b<w.heap.size) fid caps ls w (fun _ h=>h) hlen hm).mono fun e w' ⟨v,h1,h2,h3⟩=>⟨v,h1,h2.many fun b hb=>hb.2,h3⟩
end Go.Proofs.YtcchjofjpflbhaaGreatDoor.E

namespace Go.Proofs.YtcchjofjpflbhaaGreatDoor.E
open Go.RowKit Go.Shelf Go.Proofs.YtcchjofjpflbhaaGreatDoor.C

theorem all_next {P:Nat→Prop} {k:Nat} (h:∀ j,j<k→P j) (hk:P k):∀ j,j<k+1→P j:=by
 intro j hj
 rcases Nat.lt_or_ge j k with h1 | h1
 · exact h j h1
 · obtain rfl:j=k:=by omega
   exact hk
def RightD (p:Int) (css:List (List (List UInt8))):Prop:=p∈prm∧TogOk (p - 1).toNat css
def GoodC (R n:Nat) (cs:List (List UInt8)):Prop:=cs.length=R∧∀ r,r<R→Cell (cs[r]?.getD [])∧(cs[r]?.getD []).length=n
theorem rightD_iff {p:Int} {css:List (List (List UInt8))} (hp:p∈prm) (h0:0<css.length):RightD p css↔∀ j,j<css.length→GoodC (p - 1).toNat (firstC css).length (css[j]?.getD []):=by
 have hpp:=prm_bounds hp
 constructor
 · rintro ⟨_,_,h⟩ j hj
   obtain ⟨h1,h2,h3⟩:=h j hj
   refine ⟨h1,fun r hr=>?_⟩
   have h4:=h3 r (by omega)
   refine ⟨?_,h4⟩
   unfold Cell at h2 ⊢
   omega
 · intro h
   refine ⟨hp,h0,fun j hj=>⟨(h j hj).1,((h 0 h0).2 0 (by omega)).1,fun r hr=>((h j hj).2 r (by have:=(h j hj).1;omega)).2⟩⟩
end Go.Proofs.YtcchjofjpflbhaaGreatDoor.E

namespace Go.Proofs.YtcchjofjpflbhaaGreatDoor
open Go.RowKit Go.Shelf

def anyHF (F:Fence) (n:Nat) (P:Program) (md:Region.Mode) (ops:Array Oper) (Q:Exit→Act→World→Prop) (S:World→Prop):Nat→Array Bool→Act→World→Prop
 | 0,listed,a,w=>Region.ready md ops listed = []∧Q .normal a w
 | k+1,listed,a,w=>(Region.ready md ops listed = []→Q .normal a w)∧∀ i∈Region.ready md ops listed,wpOpIn F n P ops Q i (fun a' w'=>S w'∧anyHF F n P md ops Q S k (listed.setIfInBounds i true) a' w') a w
section
variable {F:Fence} {n:Nat} {P:Program} {md:Region.Mode} {ops:Array Oper} {Q:Exit→Act→World→Prop} {S:World→Prop}
theorem anyHF.any:∀ (k:Nat) (listed:Array Bool) (a:Act) (w:World),anyHF F n P md ops Q S k listed a w→wpAnyIn F n P md ops Q k listed a w
 | 0,_,_,_,h=>h
 | k+1,_,_,_,h=>⟨h.1,fun i hi=>wpOpIn_mono (fun a' w' h'=>anyHF.any k _ a' w' h'.2) (h.2 i hi)⟩
def Leaves (P:Program) (ops:Array Oper) (S:World→Prop) (o:Oper) (v:Value) (a:Act):Prop:=YieldsIf P ops S o v a∧∀ w,o.about P w a.eval=none
theorem Leaves.op {i:Nat} {o:Oper} {v:Value} {a:Act} (hnd:notDefer o.op=true) (hi:ops[i]?=some o) (hy:Leaves P ops S o v a) {K:Act→World→Prop} {w:World} (hS:S w) (h:K (a.put o.dst v) w):wpOpIn F n P ops Q i K a w:=by
 unfold Go.wpOpIn
 simp only [hi]
 have hab:∀ f,o.about P w a.eval=some f→F.fn f:=fun f hf=>by rw [hy.2 w] at hf;cases hf
 rcases hy.1 with ⟨hw,hv⟩ | ⟨hw,rfl⟩
 · simp only [hw,if_true,Oper.wpIn]
   rw [Oper.semAt_plain _ _ _ (notDefer_ne hnd),hv w hS]
   exact ⟨hab,h⟩
 · simp only [hw,Bool.false_eq_true,if_false];exact ⟨hab,h⟩
theorem Leaves.put {j:Nat} {oi oj:Oper} {v:Value} (hnd:notDefer oj.op=true) (hj:ops[j]?=some oj) (hap:oi.apart ops oj=true)
 (hsi:∀ cs b,oi.op≠.select cs b) (hsj:∀ cs b,oj.op≠.select cs b) (hQ:∀ c a w,Q (.panic c) (a.put oi.dst v) w→Q (.panic c) a w) {K:Act→World→Prop} {a:Act} {w:World}
 (hy:Leaves P ops S oi v a) (h:wpOpIn F n P ops Q j K (a.put oi.dst v) w):wpOpIn F n P ops Q j (fun a' w'=>Leaves P ops S oi v a'∧K (a'.put oi.dst v) w') a w:=by
 obtain ⟨h1,h2,h3⟩:=Oper.apart_spec hap
 have keep:∀ u,Leaves P ops S oi v (a.put oj.dst u):=fun u =>
  ⟨hy.1.of_same (execOp_put oi hsi a oj.dst u h3) (wanted_put oi a oj.dst u h3),fun w=>(about_put oi w a oj.dst u h3).trans (hy.2 w)⟩
 unfold wpOpIn at *
 simp only [hj] at *
 rw [wanted_put oj a oi.dst v h1,about_put oj w a oi.dst v h1] at h
 split
 · rename_i hw
   simp only [hw,if_true] at h
   unfold Oper.wpIn at *
   rw [about_put oj w a oi.dst v h1,Oper.semAt_plain _ _ _ (notDefer_ne hnd),execOp_put oj hsj a oi.dst v h1] at h
   rw [Oper.semAt_plain _ _ _ (notDefer_ne hnd)]
   obtain ⟨hab,h⟩:=h
   refine ⟨hab,?_⟩
   clear hab
   generalize (execOp a.eval oj).run P w=r at *
   cases r with
   | ok x w' =>
     cases x <;> simp only [Oper.uponIn] at h ⊢
     case value u=>exact ⟨keep u,by rw [←Act.put_comm a v u h2];exact h⟩
     case skip=>exact ⟨keep _,by rw [←Act.put_comm a v undef h2];exact h⟩
     case defer d =>
      refine ⟨⟨hy.1.of_same (execOp_put oi hsi { a with defers:=d :: a.defers } oj.dst undef h3) (wanted_put oi { a with defers:=d :: a.defers } oj.dst undef h3),fun w=>(about_put oi w { a with defers:=d :: a.defers } oj.dst undef h3).trans (hy.2 w)⟩,?_⟩
      rw [←Act.put_comm _ v undef h2,←Act.put_defers]
      exact h
     case enter f args =>
      refine ⟨h.1,CallsIn.mono h.2 fun e w'' he=>?_⟩
      cases e with
      | returned u=>exact ⟨keep u,by rw [←Act.put_comm a v u h2];exact he⟩
      | panicked c=>exact hQ _ _ _ he
      | outgrown=>exact he
     case row row args=>exact ⟨h.1,RowsIn.mono h.2 fun u w'' he=>⟨keep u,by rw [←Act.put_comm a v u h2];exact he⟩⟩
     case round l f tmps assign body =>
      refine ⟨h.1,RoundIn.mono h.2 fun e w'' he=>?_⟩
      cases e with
      | returned u=>exact ⟨keep u,by rw [←Act.put_comm a v u h2];exact he⟩
      | panicked c=>exact hQ _ _ _ he
      | outgrown=>exact he
   | halt x w' =>
     cases x <;> simp only [Oper.uponIn] at h ⊢
     case panic u=>exact hQ _ _ _ h
 · rename_i hw
   simp only [hw] at h
   exact ⟨h.1,keep _,by rw [←Act.put_comm a v undef h2];exact h.2⟩
theorem anyHF_first {i:Nat} {oi:Oper} {v:Value} (hnd:∀ (i:Nat) (o:Oper),ops[i]?=some o→notDefer o.op=true) (hi:ops[i]?=some oi) (hsel:∀ (j:Nat) (o:Oper) cs b,ops[j]?=some o→o.op≠.select cs b)
 (hQ:∀ c a w,Q (.panic c) (a.put oi.dst v) w→Q (.panic c) a w) :
 ∀ (k:Nat) (listed:Array Bool) (a:Act) (w:World),
  (∀ j oj,ops[j]?=some oj→j≠i→listed.getD j true=false→(∀ e∈oj.after,Region.binds md e=true→e.on≠i)→oi.apart ops oj=true) →
  i∈Region.ready md ops listed→Leaves P ops S oi v a→S w →
  anyHF F n P md ops Q S k (listed.setIfInBounds i true) (a.put oi.dst v) w→anyHF F n P md ops Q S (k+1) listed a w:=by
 intro k
 induction k with
 | zero =>
   intro listed a w _ hr hy hS H
   refine ⟨fun h=>(by rw [h] at hr;cases hr),fun j hj=>?_⟩
   by_cases hji:j=i
   · subst hji;exact hy.op (hnd _ _ hi) hi hS ⟨hS,H⟩
   · have:=ready_mono hj hji
     rw [H.1] at this
     cases this
 | succ k ih =>
   intro listed a w hfree hr hy hS H
   refine ⟨fun h=>(by rw [h] at hr;cases hr),fun j hj=>?_⟩
   by_cases hji:j=i
   · subst hji;exact hy.op (hnd _ _ hi) hi hS ⟨hS,H⟩
   · have h1:=H.2 j (ready_mono hj hji)
     obtain ⟨hjun,oj,hoj,hall⟩:=mem_ready.1 hj
     have hnot:∀ e∈oj.after,Region.binds md e=true→e.on≠i:=fun e he hb heq=>by
      have h1:=hall e he hb
      have h0:=(mem_ready.1 hr).1
      rw [heq] at h1
      rcases Nat.lt_or_ge i listed.size with h' | h'
      · simp [h'] at h0 h1;rw [h0] at h1;cases h1
      · simp [Array.getElem?_eq_none h'] at h1
     have h2:=Leaves.put (hnd _ _ hoj) hoj (hfree j oj hoj hji hjun hnot) (fun cs b=>hsel i oi cs b hi) (fun cs b=>hsel j oj cs b hoj) hQ hy h1
     refine wpOpIn_mono (fun a' w' h3=>⟨h3.2.1,ih (listed.setIfInBounds j true) a' w' (fun x ox hx hxi hun hno=>hfree x ox hx hxi ?_ hno) (ready_mono hr (Ne.symm hji)) h3.1 h3.2.1 ?_⟩) h2
     · by_cases hjx:j=x
       · subst hjx;exact hjun
       · rw [getD_set_ne true hjx] at hun;exact hun
     · rw [Array.setIfInBounds_comm _ _ hji]
       exact h3.2.2
theorem anyHF_take {i:Nat} {oi:Oper} {d:Tmp} {v:Value} {k:Nat} {listed:Array Bool} {a:Act} {w:World} (hnd:(ops.toList.all fun o=>notDefer o.op)=true) (hi:ops[i]?=some oi)
 (hs:Region.noSelect ops=true) (hf:Region.free md ops listed i=true) (hr:(Region.ready md ops listed).contains i=true) (hd:oi.dst=some d)
 (hQ:∀ c a w,Q (.panic c) (a.put oi.dst v) w→Q (.panic c) a w) (hy:Leaves P ops S oi v a) (hS:S w)
 (h:anyHF F n P md ops Q S k (listed.setIfInBounds i true) { tmps:=a.tmps.setIfInBounds d v,defers:=a.defers } w):anyHF F n P md ops Q S (k+1) listed a w :=
 anyHF_first (all_nd hnd) hi (Region.noSelect_spec hs) hQ k listed a w (Region.free_spec hi hf) (by simpa using hr) hy hS (by unfold Act.put;rw [hd];exact h)
theorem anyHF_one {i:Nat} {o:Oper} {k:Nat} {listed:Array Bool} {a:Act} {w:World} (hr:Region.ready md ops listed = [i]) (ho:ops[i]?=some o) (hnd:(ops.toList.all fun o=>notDefer o.op)=true) (hw:Region.wanted o (yielded ops a.tmps)=true)
 (h:Oper.wpIn F n P o a w (fun a' w'=>S w'∧anyHF F n P md ops Q S k (listed.setIfInBounds i true) a' w') Q):anyHF F n P md ops Q S (k+1) listed a w :=
 ⟨fun h0=>(by rw [hr] at h0;cases h0),fun j hj=>by
  rw [hr] at hj
  obtain rfl:=List.mem_singleton.1 hj
  unfold wpOpIn
  rw [ho]
  simp only [hw,if_true]
  exact h⟩
theorem ud9 {α:Type}:(∀ (l:List α) (i:Nat) (a:α),l.toArray.setIfInBounds i a=(l.set i a).toArray)∧(∀ (x:α) (xs:List α) (a:α),(x :: xs).set 0 a=a :: xs)∧(∀ (x:α) (xs:List α) (i:Nat) (a:α),(x :: xs).set (i+1) a=x :: xs.set i a):=⟨fun _ _ _=>List.setIfInBounds_toArray ..,fun _ _ _=>rfl,fun _ _ _ _=>rfl⟩
theorem gz9 {α:Type}:(∀ (l:List α) (i:Nat),l.toArray[i]?=l[i]?)∧(∀ (x:α) (xs:List α),(x :: xs)[0]?=some x)∧(∀ (x:α) (xs:List α) (i:Nat),(x :: xs)[i+1]?=xs[i]?):=⟨fun _ _=>List.getElem?_toArray ..,fun _ _=>rfl,fun _ _ _=>rfl⟩
theorem tkF {i:Nat} {oi:Oper} {d:Tmp} {v:Value} {k:Nat} {listed:Array Bool} {a:Act} {w:World} (q1:(ops.toList.all fun o=>notDefer o.op)=true:=by kernel_rfl) (q2:ops[i]?=some oi:=by rfl)
 (q3:Region.noSelect ops=true:=by kernel_rfl) (q4:Region.free md ops listed i=true:=by kernel_rfl) (q5:(Region.ready md ops listed).contains i=true:=by kernel_rfl) (q6:oi.dst=some d:=by rfl)
 (q7:∀ c a w,Q (.panic c) (a.put oi.dst v) w→Q (.panic c) a w:=by exact fun _ _ _ h=>h) (q8:Leaves P ops S oi v a:=by exact ⟨Or.inl ⟨by rfl,fun w hS=>by (repeat (obtain ⟨_,hS⟩:=hS));go_simp⟩,fun _=>rfl⟩) (s:S w)
 (c:anyHF F n P md ops Q S k (listed.setIfInBounds i true) { tmps:=a.tmps.setIfInBounds d v,defers:=a.defers } w):anyHF F n P md ops Q S (k+1) listed a w:=anyHF_take q1 q2 q3 q4 q5 q6 q7 q8 s c
theorem oneF {i:Nat} {o:Oper} {k:Nat} {listed:Array Bool} {a:Act} {w:World} (q1:Region.ready md ops listed = [i]:=by kernel_rfl) (q2:ops[i]?=some o:=by rfl) (q3:(ops.toList.all fun o=>notDefer o.op)=true:=by kernel_rfl) (q4:Region.wanted o (yielded ops a.tmps)=true:=by rfl)
 (c:Oper.wpIn F n P o a w (fun a' w'=>S w'∧anyHF F n P md ops Q S k (listed.setIfInBounds i true) a' w') Q):anyHF F n P md ops Q S (k+1) listed a w:=anyHF_one q1 q2 q3 q4 c
theorem anyHF_done {listed:Array Bool} {a:Act} {w:World} (hr:Region.ready md ops listed = []) (h:Q .normal a w):∀ k,anyHF F n P md ops Q S k listed a w
 | 0=>⟨hr,h⟩
 | _+1=>⟨fun _=>h,by rw [hr];simp⟩
theorem region_HF {id:Nat} {a:Act} {w:World} (hm:P.follows .mixedOrders=true) (h:anyHF F n P .any ops Q S ops.size (Array.replicate ops.size false) a w.drew):(Code.region id ops true).wpIn F n P Q a w :=
 wpIn_region_any hm (anyHF.any _ _ _ _ h)
end
end Go.Proofs.YtcchjofjpflbhaaGreatDoor

namespace Go.Proofs.YtcchjofjpflbhaaGreatDoor.E
open Go.RowKit Go.Shelf Go.Proofs.YtcchjofjpflbhaaGreatDoor.C
attribute [local go_sem] Oper.semAt_some


theorem idle_K (p:Addr) (w:World) :
 CallsD Tryz.prog 254 #[.pointer (some p)] .returning w fun e u' w'=>e = .returned (.tuple #[])∧u' = .returning∧w'=w:=by
 have hta:=assert_errno
 refine callsD_of_wpS Tryz.func254 rfl fun c₀ cs hu=>?_
 simp only [Tryz.ntmps254,List.size_toArray,List.length_cons,List.length_nil,Nat.reduceAdd,Nat.reduceSub,Array.replicate_succ,Array.replicate_zero,List.push_toArray,List.append_toArray,List.nil_append,List.cons_append]
 apply wpS_seq
 apply wpS_region
 simp [wpOpsS,go_sem,recoverD,hu,Exit.thenS]
 all_goals (refine wpS_of_wp ?_;go_wp2;cases c₀;simp_all [bodyPostS,results,Tryz.results254])
theorem two_blks (w:World) {w1:World} (hB1:Below ((w.alloc (.cells #[.int .i64 0,.slice none 0 0] 208)).alloc (.cells #[.int .i64 0] 34)).heap.size ((w.alloc (.cells #[.int .i64 0,.slice none 0 0] 208)).alloc (.cells #[.int .i64 0] 34)) w1):Blk w1 w.heap.size 208 #[.int .i64 0,.slice none 0 0]∧Blk w1 (w.heap.size+1) 34 #[.int .i64 0] :=
 ⟨((Blk.new w _ _).alloc _).below hB1 (by simp;omega),(Blk.second w _ _ _).below hB1 (by simp)⟩
theorem ans_K_yes (f:Nat) (caps:Array Value) (w:World) (p:Int) (A:Option Addr) (n c:Nat) (hent:∀ W,(callFunc f caps).run Tryz.prog W = .ok (.enter f caps) W)
 (h:∀ W,Below w.heap.size w W→Calls Tryz.prog f caps W fun e w'=>e = .returned (.agg #[.int .i64 p,.slice A n c])∧Below W.heap.size W w') :
 Calls Tryz.prog 211 #[.func (.func f) #[] caps] w fun e w'=>e = .returned (.tuple #[.agg #[.int .i64 p,.slice A n c],.int .i64 0])∧Below w.heap.size w w':=by
 have hmf:∀ (fn:Fn) (first cap:Array Value) (w:World),(Instr.makeFunc fn first cap).run Tryz.prog w = .ok (.func fn first cap) w:=fun _ _ _ _=>rfl
 have hBa:=below_two w (.cells #[.int .i64 0,.slice none 0 0] 208) (.cells #[.int .i64 0] 34)
 have h1:=h _ hBa
 clear h
 go_enter_defers Tryz.func211,Tryz.ntmps211
 go_wp2
 refine h1.mono ?_
 rintro e w1 ⟨rfl,hB1⟩
 obtain ⟨b0,b1⟩:=two_blks w hB1
 have c0:=b0.cell 0
 have c1:=b0.cell 1
 have c2:=b1.cell 0
 have f0:=b0.frozen 0
 have f1:=b0.frozen 1
 have f2:=b1.frozen 0
 simp only [List.getElem?_toArray,List.getElem?_cons_zero,List.getElem?_cons_succ] at c0 c1 c2
 have hBw:=below_in hBa hB1
 go_wp2
 obtain ⟨ww,hww⟩:∃ ww,((w1.setCell ⟨w.heap.size,0,none⟩ (.int .i64 p)).setCell ⟨w.heap.size,1,none⟩ (.slice A n c)).setCell ⟨w.heap.size+1,0,none⟩ (.int .i64 0)=ww:=⟨_,rfl⟩
 have d0:Blk ww w.heap.size 208 #[.int .i64 p,.slice A n c]:=by
  rw [←hww]
  exact Blk.far ((b0.set_ 0 (.int .i64 p)).set_ 1 (.slice A n c)) (by simp) _
 have d1:Blk ww (w.heap.size+1) 34 #[.int .i64 0]:=by
  rw [←hww]
  exact (Blk.far (Blk.far b1 (by simp) _) (by simp) _).set_ 0 (.int .i64 0)
 have hBz:Below w.heap.size w ww:=by
  rw [←hww]
  exact ((hBw.setCell (Nat.le_refl _) _).setCell (Nat.le_refl _) _).setCell (Nat.le_succ _) _
 rw [hww]
 have e0:=d0.cell 0
 have e1:=d0.cell 1
 have e2:=d1.cell 0
 simp only [List.getElem?_toArray,List.getElem?_cons_zero,List.getElem?_cons_succ] at e0 e1 e2
 refine leaves_cons (f:=254) (args:=#[.pointer (some ⟨w.heap.size+1,0,none⟩)]) (by simp) (by simp [go_sem]) ?_
 refine (idle_K ⟨w.heap.size+1,0,none⟩ _).mono ?_
 rintro e u' w'' ⟨rfl,rfl,rfl⟩
 simp [Go.Leaves,settle,results,Tryz.results211,go_sem,e0,e1,e2]
 exact hBz
theorem enter_right1:∀ args W,(callFunc 212 args).run Tryz.prog W = .ok (.enter 212 args) W:=enters_of Tryz.func212 (by kernel_rfl) rfl

theorem right_yes {B:Nat} (p:Int) (v:Value) (css:List (List (List UInt8))) (w:World) (hL:Laid w) (hB:B≤w.heap.size) (hC:Cols B w v css) (hlen:css.length≤1000) (hok:RightD p css) :
 Calls Tryz.prog 159 #[.int .i64 p,v] w fun e w'=>e = .returned (.bool true)∧Below w.heap.size w w':=by
 obtain ⟨A,cap,rfl,_,_⟩:=id hC
 obtain ⟨W2,hW2⟩:∃ W2,(w.alloc (.cells #[.int .i64 p] 3)).alloc (.cells #[.slice A css.length cap] 40)=W2:=⟨_,rfl⟩
 have b0:Blk W2 w.heap.size 3 #[.int .i64 p]:=by rw [←hW2];exact (Blk.new w _ _).alloc _
 have b1:Blk W2 (w.heap.size+1) 40 #[.slice A css.length cap]:=by rw [←hW2];exact Blk.second w _ _ _
 have hBW:Below w.heap.size w W2:=by rw [←hW2];exact below_two w _ _
 have hL2:=hL.next hBW
 have hpp:=prm_bounds hok.1
 have hR:RightC 1 p:=⟨by omega,hok.1⟩
 have hr:p - 1=(((p - 1).toNat:Nat):Int):=by omega
 have HA:=Lib.hid (ans_K_yes 212 #[.pointer (some ⟨w.heap.size,0,none⟩),.pointer (some ⟨w.heap.size+1,0,none⟩)] W2 p A css.length cap (enter_right1 _) (fun U hU=>by
  have hLU:=hL2.next hU
  have hBU:=below_in hBW hU
  have hCU:=hC.below (hBU.mono hB)
  have HPP:=Lib.hid (fun (V:World) (hV:Below U.heap.size U V)=>primeOf_yes p hR V (hLU.next hV))
  have HT:=Lib.hid (fun (V:World) (hV:Below U.heap.size U V)=>together_yes (B:=B) p _ hR hr (.slice A css.length cap) css V (hLU.next hV) (Nat.le_trans hB (Nat.le_trans hBU.size hV.size)) (hCU.below (hV.mono (Nat.le_trans hB hBU.size))) hlen hok.2)
  have c0:=(b0.below hU b0.lt).one
  have c1:=(b1.below hU b1.lt).one
  have hSS:=Lib.hid (fun (V:World) (hV:Below U.heap.size U V)=>(⟨(hV.cell (p:=⟨w.heap.size,0,none⟩) (b0.below hU b0.lt).lt).trans c0,(hV.cell (p:=⟨w.heap.size+1,0,none⟩) (b1.below hU b1.lt).lt).trans c1⟩:(fun V:World=>V.cell? ⟨w.heap.size,0,none⟩=some (.int .i64 p)∧V.cell? ⟨w.heap.size+1,0,none⟩=some (.slice A css.length cap)) V))
  clear hC hCU hok hW2 hL hL2 hLU hlen hr hR hpp b0 b1
  generalize css.length=n at *
  have bz:=Blk.new U 208 #[.int .i64 0,.slice none 0 0]
  have hBz:=below_one U (.cells #[.int .i64 0,.slice none 0 0] 208)
  refine (callsIn_wide (n:=9)).1 ?_
  refine callsIn_of_wp_marks Tryz.func212 rfl trivial ?_ rfl
  simp only [Tryz.ntmps212,List.size_toArray,List.length_cons,List.length_nil,Nat.reduceAdd,Nat.reduceSub,Array.replicate_succ,Array.replicate_zero,List.push_toArray,List.append_toArray,List.nil_append,List.cons_append]
  gi_wp2_with fail
  have hS:(fun V:World=>V.cell? ⟨w.heap.size,0,none⟩=some (.int .i64 p)∧V.cell? ⟨w.heap.size+1,0,none⟩=some (.slice A n cap)) (U.alloc (.cells #[.int .i64 0,.slice none 0 0] 208)).drew:=hSS.out _ hBz.drew
  refine wpIn_mono (region_HF (Q:=NoPanic _) (S:=(fun V:World=>V.cell? ⟨w.heap.size,0,none⟩=some (.int .i64 p)∧V.cell? ⟨w.heap.size+1,0,none⟩=some (.slice A n cap))) (by kernel_rfl) ?_) NoPanic.imp
  refine anyHF_take (i:=0) (d:=3) (v:=.int .i64 p) (by kernel_rfl) rfl (by kernel_rfl) (by kernel_rfl) (by kernel_rfl) rfl (fun _ _ _ h=>h) ⟨Or.inl ⟨by rfl,fun w hS=>by obtain ⟨h0,h1⟩:=hS;go_simp⟩,fun _=>rfl⟩ hS ?_
  simp only [List.setIfInBounds_toArray,List.set_cons_zero,List.set_cons_succ]
  refine anyHF_take (i:=2) (d:=5) (v:=.slice A n cap) (by kernel_rfl) rfl (by kernel_rfl) (by kernel_rfl) (by kernel_rfl) rfl (fun _ _ _ h=>h) ⟨Or.inl ⟨by rfl,fun w hS=>by obtain ⟨h0,h1⟩:=hS;go_simp⟩,fun _=>rfl⟩ hS ?_
  simp only [List.setIfInBounds_toArray,List.set_cons_zero,List.set_cons_succ]
  refine anyHF_one (i:=1) (by kernel_rfl) rfl (by kernel_rfl) (by rfl) ?_
  gi_wp2_with fail
  refine ⟨trivial,(callsIn_wide.2 (HPP.out _ hBz.drew)).mono ?_⟩
  rintro e w1 ⟨rfl,hB1⟩
  replace hB1:=below_undrew hB1
  replace bz:=bz.below hB1 bz.lt
  replace hBz:=below_in hBz hB1
  clear hS
  have hS:(fun V:World=>V.cell? ⟨w.heap.size,0,none⟩=some (.int .i64 p)∧V.cell? ⟨w.heap.size+1,0,none⟩=some (.slice A n cap)) w1:=hSS.out _ hBz
  gi_wp2
  try (refine ⟨hS,?_⟩)
  refine anyHF_one (i:=3) (by kernel_rfl) rfl (by kernel_rfl) (by rfl) ?_
  gi_wp2_with fail
  refine ⟨trivial,(callsIn_wide.2 (HT.out _ hBz)).mono ?_⟩
  rintro e w2 ⟨rfl,hB2⟩
  replace bz:=bz.below hB2 bz.lt
  replace hBz:=below_in hBz hB2
  clear hS
  have hS:(fun V:World=>V.cell? ⟨w.heap.size,0,none⟩=some (.int .i64 p)∧V.cell? ⟨w.heap.size+1,0,none⟩=some (.slice A n cap)) w2:=hSS.out _ hBz
  gi_wp2
  try (refine ⟨hS,?_⟩)
  refine anyHF_one (i:=4) (by kernel_rfl) rfl (by kernel_rfl) (by rfl) ?_
  have g0:=bz.cell 0
  have g1:=bz.cell 1
  have f0:=bz.frozen 0
  have f1:=bz.frozen 1
  simp only [List.getElem?_toArray,List.getElem?_cons_zero,List.getElem?_cons_succ] at g0 g1
  gi_wp2
  have r:=(bz.set_ 0 (.int .i64 p)).set_ 1 (.slice A n cap)
  have hBf:=(hBz.setCell (p:=⟨U.heap.size,0,none⟩) (Nat.le_refl _) (.int .i64 p)).setCell (p:=⟨U.heap.size,1,none⟩) (Nat.le_refl _) (.slice A n cap)
  clear hS
  have hS:(fun V:World=>V.cell? ⟨w.heap.size,0,none⟩=some (.int .i64 p)∧V.cell? ⟨w.heap.size+1,0,none⟩=some (.slice A n cap)) _:=hSS.out _ hBf
  refine ⟨hSS.out _ (hBz.setCell (p:=⟨U.heap.size,0,none⟩) (Nat.le_refl _) (.int .i64 p)),?_⟩
  refine anyHF_done (by kernel_rfl) ?_ _
  refine NoPanic.normal ?_
  have r0:=r.cell 0
  have r1:=r.cell 1
  simp only [List.setIfInBounds_toArray,List.set_cons_zero,List.set_cons_succ,List.getElem?_toArray,List.getElem?_cons_zero,List.getElem?_cons_succ] at r0 r1
  gi_wp2
  exact ⟨.agg #[.int .i64 p,.slice A n cap],by simp [results,Tryz.results212,go_sem,r0,r1],rfl,hBf⟩))
 clear hC b0 b1 hL2 hok hlen hr hR hpp
 generalize css.length=n at *
 go_enter Tryz.func159,Tryz.ntmps159
 have hmf:∀ (fn:Fn) (first cap:Array Value) (w:World),(Instr.makeFunc fn first cap).run Tryz.prog w = .ok (.func fn first cap) w:=fun _ _ _ _=>rfl
 go_wp2_with (go_at_call 211;refine HA.out.mono ?_;rintro e w1 ⟨rfl,hB1⟩)
 go_ret
 exact ⟨rfl,below_in hBW (below_in hB1 (below_one _ _))⟩

end Go.Proofs.YtcchjofjpflbhaaGreatDoor.E
