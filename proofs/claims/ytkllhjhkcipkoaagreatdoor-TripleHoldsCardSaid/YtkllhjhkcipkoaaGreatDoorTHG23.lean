/- -/
import Derived.Test.YtkllhjhkcipkoaaGreatDoorTHG12
set_option linter.unusedVariables false
set_option linter.unusedSimpArgs false
set_option maxRecDepth 100000
set_option maxHeartbeats 4000000
namespace Go.Proofs.YtkllhjhkcipkoaaGreatDoor.Tr
open Go.RowKit Go.Shelf Go.Maps Go.Proofs.YtkllhjhkcipkoaaGreatDoor.C Go.Proofs.YtkllhjhkcipkoaaGreatDoor.E Go.Proofs.YtkllhjhkcipkoaaGreatDoor.T Go.Proofs.YtkllhjhkcipkoaaGreatDoor.Rg
attribute [local go_sem] Oper.semAt_some

theorem but1_any (r s:Int) (gb:Nat) (w:World) (hb:Blk w gb 44 #[.int .i64 s]):Calls Tryz.prog 64 #[.int .i64 r,.pointer (some ⟨gb,0,none⟩)] w fun e w'=>e = .returned (.bool (r == s))∧w'=w:=by
 have c0:=hb.one
 go_enter Tryz.func64,Tryz.ntmps64
 go_wp2
 go_ret
 exact ⟨rfl,rfl⟩
theorem indexB_any (t g gb:Nat) (ht:t≤2) (w:World) (bs:Blk w g 44 #[.int .i64 2,.int .i64 3,.int .i64 4]) (hb:Blk w gb 44 #[.int .i64 ((t:Int)+2)]) :
 Calls Tryz.prog 83 #[.slice (some ⟨g,0,none⟩) 3 3,.func (.func 64) #[] #[.pointer (some ⟨gb,0,none⟩)]] w fun e w'=>e = .returned (.int .i64 (t:Int))∧w'=w:=by
 have HCE:Hid (∀ j,j<3→w.cell? ⟨g,j,none⟩=some (.int .i64 ((j:Int)+2))):=fun j hj=>by
  have hj3:j=0∨j=1∨j=2:=by omega
  rcases hj3 with rfl | rfl | rfl
  · exact bs.cell 0
  · exact bs.cell 1
  · exact bs.cell 2
 have HB:=Lib.hid (fun r=>but1_any r ((t:Int)+2) gb w hb)
 clear bs hb
 go_enter Tryz.func83,Tryz.ntmps83
 go_wp2_with fail
 go_loop [8] (fun i=>∃ k:Nat,k≤t∧i = .int .i64 k) (fun i=>3 - (intOf i).toNat)
 case atStart=>exact ⟨0,Nat.zero_le _,rfl⟩
 case round =>
  obtain ⟨k,hk,rfl⟩:=hrel
  have hdec:decide ((k:Int)<3)=true:=by simp;omega
  have i1:(0:Int)≤(k:Int):=by omega
  have i2:(k:Int)<3:=by omega
  have hc:=HCE.out k (by omega)
  have HBK:=Lib.hid (HB.out ((k:Int)+2))
  by_cases hkt:k=t
  · subst hkt
    have e0:(((k:Int)+2) == ((k:Int)+2))=true:=by simp
    rw [e0] at HBK
    generalize (k:Int)+2=x at *
    go_wp2_with (go_at_call 64;refine HBK.out.mono ?_;rintro e w1 ⟨rfl,rfl⟩)
    go_ret
    exact ⟨rfl,rfl⟩
  · have e0:(((k:Int)+2) == ((t:Int)+2))=false:=by simp;omega
    rw [e0] at HBK
    generalize (k:Int)+2=x at *
    generalize (t:Int)+2=y at *
    go_wp2_with (go_at_call 64;refine HBK.out.mono ?_;rintro e w1 ⟨rfl,rfl⟩)
    go_round
    case rel=>exact ⟨k+1,by omega,by go_num⟩
    case measure=>simp [intOf];omega
theorem delete0 {B:Nat} (g gb:Nat) (hBg:B≤g) (hne:gb≠g) (w:World) (bs:Blk w g 44 #[.int .i64 2,.int .i64 3,.int .i64 4]) (hb:Blk w gb 44 #[.int .i64 2]) :
 Calls Tryz.prog 63 #[.slice (some ⟨g,0,none⟩) 3 3,.func (.func 64) #[] #[.pointer (some ⟨gb,0,none⟩)]] w fun e w'=>e = .returned (.slice (some ⟨g,0,none⟩) 2 3)∧Blk w' g 44 #[.int .i64 3,.int .i64 4,.int .i64 0]∧Below B w w':=by
 have hent:∀ args W,(callFunc 64 args).run Tryz.prog W = .ok (.enter 64 args) W:=enters_of Tryz.func64 (by kernel_rfl) rfl
 refine (callsIn_wide (n:=9)).1 ?_
 refine callsIn_of_wp_marks Tryz.func63 rfl trivial ?_ rfl
 simp only [Tryz.ntmps63,List.size_toArray,List.length_cons,List.length_nil,Nat.reduceAdd,Nat.reduceSub,Array.replicate_succ,Array.replicate_zero,List.push_toArray,List.append_toArray,List.nil_append,List.cons_append]
 gi_wp2_with fail
 refine ⟨trivial,(callsIn_wide.2 (indexB_any 0 g gb (by omega) w bs hb)).mono ?_⟩
 rintro e wa ⟨rfl,rfl⟩
 gi_wp2_with fail
 refine wpIn_loop_rounds 5 ?_
 obtain ⟨wa0,hwa0⟩:∃ x,x=wa:=⟨_,rfl⟩
 have hBW:Below B wa0 wa:=by rw [hwa0];exact Below.refl _ _
 have cj:wa.cell? ⟨g,1,none⟩ = _:=bs.cell 1
 have ci:wa.cell? ⟨g,0,none⟩ = _:=bs.cell 0
 have fi:=bs.frozen 0
 simp only [gz9] at cj ci
 rw [roundsIn_succ]
 gi_wp2_with fail
 refine ⟨trivial,(callsIn_wide.2 (but1_any _ _ gb wa hb)).mono ?_⟩
 rintro e wb ⟨rfl,rfl⟩
 gi_wp2_with fail
 have bsZ:Blk (wb.setCell ⟨g,0,none⟩ (.int .i64 3)) g 44 #[.int .i64 3,.int .i64 3,.int .i64 4]:=bs.set_ 0 _
 have hbZ:Blk (wb.setCell ⟨g,0,none⟩ (.int .i64 3)) gb 44 _:=Blk.far hb (by show gb≠g;omega) (.int .i64 3) (p:=⟨g,0,none⟩)
 have hBZ:Below B wa0 (wb.setCell ⟨g,0,none⟩ (.int .i64 3)):=Below.setCell (p:=⟨g,0,none⟩) hBW hBg (.int .i64 3)
 obtain ⟨z1,he⟩:∃ x,(wb.setCell ⟨g,0,none⟩ (.int .i64 3))=x:=⟨_,rfl⟩
 rw [he] at bsZ hbZ hBZ
 (try rw [he])
 clear bs hb hBW cj ci fi he
 have bs:=bsZ
 have hb:=hbZ
 have hBW:=hBZ
 clear bsZ hbZ hBZ
 have cj:z1.cell? ⟨g,2,none⟩ = _:=bs.cell 2
 have ci:z1.cell? ⟨g,1,none⟩ = _:=bs.cell 1
 have fi:=bs.frozen 1
 simp only [gz9] at cj ci
 rw [roundsIn_succ]
 gi_wp2_with fail
 refine ⟨trivial,(callsIn_wide.2 (but1_any _ _ gb z1 hb)).mono ?_⟩
 rintro e wb ⟨rfl,rfl⟩
 gi_wp2_with fail
 have bsZ:Blk (wb.setCell ⟨g,1,none⟩ (.int .i64 4)) g 44 #[.int .i64 3,.int .i64 4,.int .i64 4]:=bs.set_ 1 _
 have hbZ:Blk (wb.setCell ⟨g,1,none⟩ (.int .i64 4)) gb 44 _:=Blk.far hb (by show gb≠g;omega) (.int .i64 4) (p:=⟨g,1,none⟩)
 have hBZ:Below B wa0 (wb.setCell ⟨g,1,none⟩ (.int .i64 4)):=Below.setCell (p:=⟨g,1,none⟩) hBW hBg (.int .i64 4)
 obtain ⟨z2,he⟩:∃ x,(wb.setCell ⟨g,1,none⟩ (.int .i64 4))=x:=⟨_,rfl⟩
 rw [he] at bsZ hbZ hBZ
 (try rw [he])
 clear bs hb hBW cj ci fi he
 have bs:=bsZ
 have hb:=hbZ
 have hBW:=hBZ
 clear bsZ hbZ hBZ
 have ck:z2.cell? ⟨g,2,none⟩ = _:=bs.cell 2
 have fk:=bs.frozen 2
 simp only [gz9] at ck
 have hcl:∀ ty,(Builtin.clear_ #[65] ty #[.slice (some ⟨g,2,none⟩) 1 1]).run Tryz.prog z2 = .ok (.tuple #[]) (z2.setCell ⟨g,2,none⟩ (.int .i64 0)):=fun ty=>Lib.run_clear_slice z2 65 44 ty (.int .i64 0) Tryz.underlying65 Tryz.zeroValue44 rfl rfl g 2 1 1 (by omega) (fun j hj=>by rw [show 2+j=2 by omega,ck];rfl) (fun j hj=>by rw [show 2+j=2 by omega];exact fk)
 have bsF:=bs.set_ 2 (.int .i64 0)
 have hBF:=Below.setCell (p:=⟨g,2,none⟩) hBW hBg (.int .i64 0)
 rw [roundsIn_succ]
 gi_wp2_with fail
 exact ⟨_,results_tmp rfl _ _ _,rfl,bsF,hwa0▸hBF⟩
theorem delete1 {B:Nat} (g gb:Nat) (hBg:B≤g) (hne:gb≠g) (w:World) (bs:Blk w g 44 #[.int .i64 2,.int .i64 3,.int .i64 4]) (hb:Blk w gb 44 #[.int .i64 3]) :
 Calls Tryz.prog 63 #[.slice (some ⟨g,0,none⟩) 3 3,.func (.func 64) #[] #[.pointer (some ⟨gb,0,none⟩)]] w fun e w'=>e = .returned (.slice (some ⟨g,0,none⟩) 2 3)∧Blk w' g 44 #[.int .i64 2,.int .i64 4,.int .i64 0]∧Below B w w':=by
 have hent:∀ args W,(callFunc 64 args).run Tryz.prog W = .ok (.enter 64 args) W:=enters_of Tryz.func64 (by kernel_rfl) rfl
 refine (callsIn_wide (n:=9)).1 ?_
 refine callsIn_of_wp_marks Tryz.func63 rfl trivial ?_ rfl
 simp only [Tryz.ntmps63,List.size_toArray,List.length_cons,List.length_nil,Nat.reduceAdd,Nat.reduceSub,Array.replicate_succ,Array.replicate_zero,List.push_toArray,List.append_toArray,List.nil_append,List.cons_append]
 gi_wp2_with fail
 refine ⟨trivial,(callsIn_wide.2 (indexB_any 1 g gb (by omega) w bs hb)).mono ?_⟩
 rintro e wa ⟨rfl,rfl⟩
 gi_wp2_with fail
 refine wpIn_loop_rounds 5 ?_
 obtain ⟨wa0,hwa0⟩:∃ x,x=wa:=⟨_,rfl⟩
 have hBW:Below B wa0 wa:=by rw [hwa0];exact Below.refl _ _
 have cj:wa.cell? ⟨g,2,none⟩ = _:=bs.cell 2
 have ci:wa.cell? ⟨g,1,none⟩ = _:=bs.cell 1
 have fi:=bs.frozen 1
 simp only [gz9] at cj ci
 rw [roundsIn_succ]
 gi_wp2_with fail
 refine ⟨trivial,(callsIn_wide.2 (but1_any _ _ gb wa hb)).mono ?_⟩
 rintro e wb ⟨rfl,rfl⟩
 gi_wp2_with fail
 have bsZ:Blk (wb.setCell ⟨g,1,none⟩ (.int .i64 4)) g 44 #[.int .i64 2,.int .i64 4,.int .i64 4]:=bs.set_ 1 _
 have hbZ:Blk (wb.setCell ⟨g,1,none⟩ (.int .i64 4)) gb 44 _:=Blk.far hb (by show gb≠g;omega) (.int .i64 4) (p:=⟨g,1,none⟩)
 have hBZ:Below B wa0 (wb.setCell ⟨g,1,none⟩ (.int .i64 4)):=Below.setCell (p:=⟨g,1,none⟩) hBW hBg (.int .i64 4)
 obtain ⟨z2,he⟩:∃ x,(wb.setCell ⟨g,1,none⟩ (.int .i64 4))=x:=⟨_,rfl⟩
 rw [he] at bsZ hbZ hBZ
 (try rw [he])
 clear bs hb hBW cj ci fi he
 have bs:=bsZ
 have hb:=hbZ
 have hBW:=hBZ
 clear bsZ hbZ hBZ
 have ck:z2.cell? ⟨g,2,none⟩ = _:=bs.cell 2
 have fk:=bs.frozen 2
 simp only [gz9] at ck
 have hcl:∀ ty,(Builtin.clear_ #[65] ty #[.slice (some ⟨g,2,none⟩) 1 1]).run Tryz.prog z2 = .ok (.tuple #[]) (z2.setCell ⟨g,2,none⟩ (.int .i64 0)):=fun ty=>Lib.run_clear_slice z2 65 44 ty (.int .i64 0) Tryz.underlying65 Tryz.zeroValue44 rfl rfl g 2 1 1 (by omega) (fun j hj=>by rw [show 2+j=2 by omega,ck];rfl) (fun j hj=>by rw [show 2+j=2 by omega];exact fk)
 have bsF:=bs.set_ 2 (.int .i64 0)
 have hBF:=Below.setCell (p:=⟨g,2,none⟩) hBW hBg (.int .i64 0)
 rw [roundsIn_succ]
 gi_wp2_with fail
 exact ⟨_,results_tmp rfl _ _ _,rfl,bsF,hwa0▸hBF⟩
theorem delete2 {B:Nat} (g gb:Nat) (hBg:B≤g) (hne:gb≠g) (w:World) (bs:Blk w g 44 #[.int .i64 2,.int .i64 3,.int .i64 4]) (hb:Blk w gb 44 #[.int .i64 4]) :
 Calls Tryz.prog 63 #[.slice (some ⟨g,0,none⟩) 3 3,.func (.func 64) #[] #[.pointer (some ⟨gb,0,none⟩)]] w fun e w'=>e = .returned (.slice (some ⟨g,0,none⟩) 2 3)∧Blk w' g 44 #[.int .i64 2,.int .i64 3,.int .i64 0]∧Below B w w':=by
 have hent:∀ args W,(callFunc 64 args).run Tryz.prog W = .ok (.enter 64 args) W:=enters_of Tryz.func64 (by kernel_rfl) rfl
 refine (callsIn_wide (n:=9)).1 ?_
 refine callsIn_of_wp_marks Tryz.func63 rfl trivial ?_ rfl
 simp only [Tryz.ntmps63,List.size_toArray,List.length_cons,List.length_nil,Nat.reduceAdd,Nat.reduceSub,Array.replicate_succ,Array.replicate_zero,List.push_toArray,List.append_toArray,List.nil_append,List.cons_append]
 gi_wp2_with fail
 refine ⟨trivial,(callsIn_wide.2 (indexB_any 2 g gb (by omega) w bs hb)).mono ?_⟩
 rintro e wa ⟨rfl,rfl⟩
 gi_wp2_with fail
 refine wpIn_loop_rounds 5 ?_
 obtain ⟨wa0,hwa0⟩:∃ x,x=wa:=⟨_,rfl⟩
 have hBW:Below B wa0 wa:=by rw [hwa0];exact Below.refl _ _
 have ck:wa.cell? ⟨g,2,none⟩ = _:=bs.cell 2
 have fk:=bs.frozen 2
 simp only [gz9] at ck
 have hcl:∀ ty,(Builtin.clear_ #[65] ty #[.slice (some ⟨g,2,none⟩) 1 1]).run Tryz.prog wa = .ok (.tuple #[]) (wa.setCell ⟨g,2,none⟩ (.int .i64 0)):=fun ty=>Lib.run_clear_slice wa 65 44 ty (.int .i64 0) Tryz.underlying65 Tryz.zeroValue44 rfl rfl g 2 1 1 (by omega) (fun j hj=>by rw [show 2+j=2 by omega,ck];rfl) (fun j hj=>by rw [show 2+j=2 by omega];exact fk)
 have bsF:=bs.set_ 2 (.int .i64 0)
 have hBF:=Below.setCell (p:=⟨g,2,none⟩) hBW hBg (.int .i64 0)
 rw [roundsIn_succ]
 gi_wp2_with fail
 exact ⟨_,results_tmp rfl _ _ _,rfl,bsF,hwa0▸hBF⟩
end Go.Proofs.YtkllhjhkcipkoaaGreatDoor.Tr

namespace Go.Proofs.YtkllhjhkcipkoaaGreatDoor.T
open Go.RowKit Go.Shelf Go.Maps Go.Proofs.YtkllhjhkcipkoaaGreatDoor.C Go.Proofs.YtkllhjhkcipkoaaGreatDoor.E Go.Proofs.YtkllhjhkcipkoaaGreatDoor.Ch
attribute [local go_sem] Oper.semAt_some

def StayT (w0 W0:World) (E:Nat→Prop) (V:World):Prop:=Below w0.heap.size w0 V∧W0.heap.size≤V.heap.size∧∀ b,b<W0.heap.size→¬ E b→V.heap[b]?=W0.heap[b]?
theorem StayT.one {w0 W0:World} {E:Nat→Prop} {X Y:World} (h:StayT w0 W0 E X) (hB:Below X.heap.size X Y):StayT w0 W0 E Y :=
 ⟨below_in h.1 hB,Nat.le_trans h.2.1 hB.size,fun b h1 h2=>(hB.block b (Nat.lt_of_lt_of_le h1 h.2.1)).trans (h.2.2 b h1 h2)⟩
theorem StayT.two {w0 W0:World} {E:Nat→Prop} {X Y:World} {row:Option Nat} {lo:Nat} (h:StayT w0 W0 E X) (hg:X.grownBy Y row) (hr:∀ r,row=some r→lo≤r) (h0:w0.heap.size≤lo) (h1:W0.heap.size≤lo):StayT w0 W0 E Y :=
 ⟨below_grown h.1 hg h.1.size (fun r e=>Nat.le_trans h0 (hr r e)),Nat.le_trans h.2.1 hg.size,fun b h2 h3=>(hg.block b (Nat.lt_of_lt_of_le h2 h.2.1) (fun e=>by have:=hr b e.symm;omega)).trans (h.2.2 b h2 h3)⟩
theorem StayT.three {w0 W0:World} {E:Nat→Prop} {X:World} {p:Addr} {u:Value} {lo gr:Nat} (h:StayT w0 W0 E X) (hp:p.block=gr∨lo≤p.block) (h0:w0.heap.size≤lo) (h1:W0.heap.size≤lo) (hg:w0.heap.size≤gr) (hE:W0.heap.size≤gr∨E gr):StayT w0 W0 E (X.setCell p u) :=
 ⟨h.1.setCell (by rcases hp with h | h <;> omega) _,by simp;exact h.2.1,fun b h2 h3=>(Below.heap_setCell X p u b (fun e=>by
  rcases hp with hp | hp
  · rcases hE with hE | hE
    · omega
    · rw [e,hp] at h3;exact h3 hE
  · omega)).trans (h.2.2 b h2 h3)⟩
end Go.Proofs.YtkllhjhkcipkoaaGreatDoor.T

namespace Go.Proofs.YtkllhjhkcipkoaaGreatDoor.T
open Go.RowKit Go.Shelf Go.Maps Go.Proofs.YtkllhjhkcipkoaaGreatDoor.C Go.Proofs.YtkllhjhkcipkoaaGreatDoor.E Go.Proofs.YtkllhjhkcipkoaaGreatDoor.Ch
attribute [local go_sem] Oper.semAt_some

theorem num_off {W:World} {g b o:Nat} {t:TypeId} {y:Int} {u:Value} (hb:Blk W g t #[.int .i64 y]) (h:W.cell? ⟨b,o,none⟩=some u) (hu:u≠.int .i64 y):b≠g:=fun e=>by
 subst e
 rw [hb.cell o] at h
 rcases o with _ | o
 · simp at h;exact hu h.symm
 · simp at h
theorem bytes_num {B:Nat} {W:World} {g:Nat} {t:TypeId} {y:Int} {v x:Value} {l:List UInt8} (h:Bytes B W v l) (hb:Blk W g t #[.int .i64 y]):Bytes B (W.setCell ⟨g,0,none⟩ x) v l:=by
 obtain ⟨A,cap,e,hc,hA⟩:=h
 refine ⟨A,cap,e,hc,fun hp=>?_⟩
 obtain ⟨b,off,e2,hb1,hcell⟩:=hA hp
 have hne:=num_off hb (hcell 0 hp) (by intro e;injection e with e;cases e)
 exact ⟨b,off,e2,hb1,fun j hj=>(World.cell?_of_block (Below.heap_setCell W ⟨g,0,none⟩ x b hne)).trans (hcell j hj)⟩
theorem many_num {B:Nat} {W:World} {g:Nat} {t:TypeId} {y:Int} {v x:Value} {ls:List (List UInt8)} (h:Many B W v ls) (hb:Blk W g t #[.int .i64 y]):Many B (W.setCell ⟨g,0,none⟩ x) v ls:=by
 obtain ⟨A,cap,e,hc,hA⟩:=h
 refine ⟨A,cap,e,hc,fun hp=>?_⟩
 obtain ⟨b,off,e2,hb1,hcell⟩:=hA hp
 obtain ⟨u0,h0,m0⟩:=hcell 0 hp
 have hne:=num_off hb h0 (by obtain ⟨_,_,e,_⟩:=m0;rw [e];intro e;cases e)
 refine ⟨b,off,e2,hb1,fun j hj=>?_⟩
 obtain ⟨u,h1,h2⟩:=hcell j hj
 exact ⟨u,(World.cell?_of_block (Below.heap_setCell W ⟨g,0,none⟩ x b hne)).trans h1,bytes_num h2 hb⟩
theorem cols_num {B:Nat} {W:World} {g:Nat} {t:TypeId} {y:Int} {v x:Value} {css:List (List (List UInt8))} (h:Cols B W v css) (hb:Blk W g t #[.int .i64 y]):Cols B (W.setCell ⟨g,0,none⟩ x) v css:=by
 obtain ⟨A,cap,e,hc,hA⟩:=h
 refine ⟨A,cap,e,hc,fun hp=>?_⟩
 obtain ⟨b,off,e2,hb1,hcell⟩:=hA hp
 obtain ⟨u0,h0,m0⟩:=hcell 0 hp
 have hne:=num_off hb h0 (by obtain ⟨_,_,e,_⟩:=m0;rw [e];intro e;cases e)
 refine ⟨b,off,e2,hb1,fun j hj=>?_⟩
 obtain ⟨u,h1,h2⟩:=hcell j hj
 exact ⟨u,(World.cell?_of_block (Below.heap_setCell W ⟨g,0,none⟩ x b hne)).trans h1,many_num h2 hb⟩
end Go.Proofs.YtkllhjhkcipkoaaGreatDoor.T
