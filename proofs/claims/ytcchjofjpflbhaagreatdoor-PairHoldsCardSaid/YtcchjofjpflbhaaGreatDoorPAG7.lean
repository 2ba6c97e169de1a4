/- -/
import Derived.Laws.EntriesVeiled
import Derived.Test.YtcchjofjpflbhaaGreatDoorPAG6
set_option linter.unusedVariables false
set_option linter.unusedSimpArgs false
set_option maxRecDepth 100000
set_option maxHeartbeats 4000000
namespace Go.Proofs.YtcchjofjpflbhaaGreatDoor.E
open Go.RowKit Go.Shelf Go.Proofs.YtcchjofjpflbhaaGreatDoor.C
attribute [local go_sem] Oper.semAt_some

structure EncF (p:Int) (v:Value) (adj:List UInt8) (w0:World) (b:Nat→Bool) (x3 x4 x5 x6 x7 x8 x9:Value) (w:World):Prop where
 hB:Below w0.heap.size w0 w
 f0:b 0=true→∃ c,x5 = .func (.func 261) #[] #[.pointer (some ⟨c,0,none⟩)]∧w0.heap.size≤c∧Blk w c 49 #[.slice none 0 0]
 f1:b 1=true→x6 = .agg #[.int .i64 p,v]
 f2:b 2=true→Fresh w0.heap.size w x7 adj
 f3:b 3=true→∃ c,x8 = .slice (some ⟨c,0,none⟩) 1 1∧w0.heap.size≤c∧Blk w c 64 #[x7]
 f4:b 4=true→∃ c,x9 = .func (.func 261) #[] #[.pointer (some ⟨c,0,none⟩)]∧w0.heap.size≤c∧Blk w c 49 #[x8]
 f5:b 5=true→∃ c y,x3 = .pointer (some ⟨c,0,none⟩)∧w0.heap.size≤c∧Blk w c 158 #[y]∧(∀ k n,y≠.int k n)∧(b 7=true→y=x5)
 f6:b 6=true→∃ c y,x4 = .pointer (some ⟨c,0,none⟩)∧w0.heap.size≤c∧Blk w c 158 #[y]∧(∀ k n,y≠.int k n)∧(b 8=true→y=x9)
 fd:b 5=true→b 6=true→x3≠x4
 c32:b 3=true→b 2=true
 c43:b 4=true→b 3=true
 c7:b 7=true→b 5=true∧b 0=true
 c8:b 8=true→b 6=true∧b 4=true
theorem EncF.below {p:Int} {v:Value} {adj:List UInt8} {w0:World} {b:Nat→Bool} {x3 x4 x5 x6 x7 x8 x9:Value} {w w':World} (h:EncF p v adj w0 b x3 x4 x5 x6 x7 x8 x9 w) (hb:Below w.heap.size w w'):EncF p v adj w0 b x3 x4 x5 x6 x7 x8 x9 w' where
 hB:=h.hB.trans (hb.mono h.hB.size)
 f0:=fun e=>by obtain ⟨c,h1,h2,h3⟩:=h.f0 e;exact ⟨c,h1,h2,h3.below hb h3.lt⟩
 f1:=h.f1
 f2:=fun e=>(h.f2 e).below hb
 f3:=fun e=>by obtain ⟨c,h1,h2,h3⟩:=h.f3 e;exact ⟨c,h1,h2,h3.below hb h3.lt⟩
 f4:=fun e=>by obtain ⟨c,h1,h2,h3⟩:=h.f4 e;exact ⟨c,h1,h2,h3.below hb h3.lt⟩
 f5:=fun e=>by obtain ⟨c,y,h1,h2,h3,h4⟩:=h.f5 e;exact ⟨c,y,h1,h2,h3.below hb h3.lt,h4⟩
 f6:=fun e=>by obtain ⟨c,y,h1,h2,h3,h4⟩:=h.f6 e;exact ⟨c,y,h1,h2,h3.below hb h3.lt,h4⟩
 fd:=h.fd
 c32:=h.c32
 c43:=h.c43
 c7:=h.c7
 c8:=h.c8
theorem Blk.ne_type {w:World} {b b':Nat} {t t':TypeId} {cs cs':Array Value} (h:Blk w b t cs) (h':Blk w b' t' cs') (ht:t≠t'):b≠b':=by
 intro e
 subst e
 unfold Blk at h h'
 rw [h] at h'
 cases h'
 exact ht rfl
theorem Fresh.far_blk {w:World} {base b:Nat} {t:TypeId} {x:Value} {v:Value} {l:List UInt8} (h:Fresh base w v l) (h':Blk w b t #[x]) (hx:∀ k n,x≠.int k n) (u:Value):Fresh base (w.setCell ⟨b,0,none⟩ u) v l:=by
 obtain ⟨A,cap,e,hc,hA⟩:=h
 refine ⟨A,cap,e,hc,fun hp=>?_⟩
 obtain ⟨b2,off,e2,hb1,hb2,hcell⟩:=hA hp
 have hne:b2≠b:=fun e=>by
  subst e
  have h1:=hcell 0 hp
  rw [Nat.add_zero,h'.cell off] at h1
  cases off with
  | zero=>simp at h1;exact hx _ _ h1
  | succ k=>simp at h1
 exact ⟨b2,off,e2,hb1,by simpa using hb2,fun j hj=>(World.cell?_of_block (Below.heap_setCell w ⟨b,0,none⟩ u b2 hne)).trans (hcell j hj)⟩
def EncI (g0:Nat) (p:Int) (v:Value) (adj:List UInt8) (w0:World) (l:Array Bool) (a:Act) (w:World):Prop :=
 ∃ x3 x4 x5 x6 x7 x8 x9:Value,a = { tmps:=#[.agg #[.int .i64 p,v],.pointer (some ⟨g0,0,none⟩),.slice none 0 0,x3,x4,x5,x6,x7,x8,x9,undef,undef,undef,undef,undef,undef,undef,undef,undef,undef,undef],defers:=[] }∧EncF p v adj w0 (fun j=>l.getD j false) x3 x4 x5 x6 x7 x8 x9 w
theorem not_yet {ops:Array Oper} {md:Region.Mode} {listed:Array Bool} {i:Nat} (h:i∈Region.ready md ops listed):listed.getD i false=false:=by
 have h1:=(mem_ready.1 h).1
 rcases Nat.lt_or_ge i listed.size with h' | h'
 · simp [h'] at h1 ⊢
   exact h1
 · simp [Array.getElem?_eq_none h'] at h1

theorem Fresh.toP2 {base:Nat} {B:Nat} {W:World} {v:Value} {l:List UInt8} (h:Fresh base W v l):BytesP (fun b=>(b<B∨base≤b)∧b<W.heap.size) W v l:=by
 obtain ⟨A,cap,e,hc,hA⟩:=h
 exact ⟨A,cap,e,hc,fun hp=>by obtain ⟨b,off,e2,h1,h2,h3⟩:=hA hp;exact ⟨b,off,e2,⟨.inr h1,h2⟩,h3⟩⟩
theorem Cols.more {B B':Nat} {W:World} {v:Value} {css:List (List (List UInt8))} (h:Cols B W v css) (hB:B≤B'):Cols B' W v css:=by
 obtain ⟨A,cap,e,hc,hA⟩:=h
 refine ⟨A,cap,e,hc,fun hp=>?_⟩
 obtain ⟨b,off,e2,hb,hcell⟩:=hA hp
 exact ⟨b,off,e2,by omega,fun j hj=>by obtain ⟨u,h1,h2⟩:=hcell j hj;exact ⟨u,h1,h2.more hB⟩⟩
theorem enter_e1:∀ args W,(callFunc 228 args).run Tryz.prog W = .ok (.enter 228 args) W:=enters_of Tryz.func228 (by kernel_rfl) rfl
theorem enter_e2:∀ args W,(callFunc 230 args).run Tryz.prog W = .ok (.enter 230 args) W:=enters_of Tryz.func230 (by kernel_rfl) rfl
theorem makes_rows {B:Nat} (p:Int) (v:Value) (css:List (List (List UInt8))) (hok:DataOk p css) (w:World) (hB:B≤w.heap.size) (hC:Cols B w v css) (g3 g0 g5:Nat) (b3:Blk w g3 158 #[.func (.func 261) #[] #[.pointer (some ⟨g5,0,none⟩)]]) (b0:Blk w g0 208 #[.int .i64 p,v]) (b5:Blk w g5 49 #[.slice none 0 0]) :
 Makes 228 #[.pointer (some ⟨g3,0,none⟩),.pointer (some ⟨g0,0,none⟩)] (rowsMade (p - 1).toNat css) w:=by
 have hd:=dataOk_n hok
 refine ⟨enter_e1,fun r W hr hBW=>?_⟩
 rw [rowsMade_len] at hr
 have hx:XorOk ([] ++ rowOf css r):=by rw [List.nil_append];exact xorOk_of (rowOf_pos hok r) (togOk_first hok.2.2) (rowOf_ok hok hr)
 refine (encoded1_any (B:=B) p (p - 1).toNat r css v (.slice none 0 0) [] [] g3 g0 g5 W (Nat.le_trans hB hBW.size) (hC.below (hBW.mono hB)) hr (by omega) (by omega) (by omega) (fun j hj=>(hok.2.2.2 j hj).1) (b3.below hBW b3.lt) (b0.below hBW b0.lt) (b5.below hBW b5.lt) (manyV_nil _ _) (by simp) hx).mono ?_
 rintro e w' ⟨u,rfl,hf,hB1⟩
 rw [List.nil_append] at hf
 refine ⟨u,rfl,?_,hB1⟩
 rw [rowsMade_at hok hr]
 exact Fresh.toP2 hf
theorem makes_diags {B base:Nat} (p:Int) (v:Value) (css:List (List (List UInt8))) (hok:DataOk p css) (w:World) (hL:Laid w) (hB:B≤w.heap.size) (hC:Cols B w v css) (g4 g0 g9 g8:Nat) (x7:Value) (b4:Blk w g4 158 #[.func (.func 261) #[] #[.pointer (some ⟨g9,0,none⟩)]]) (b0:Blk w g0 208 #[.int .i64 p,v]) (b9:Blk w g9 49 #[.slice (some ⟨g8,0,none⟩) 1 1]) (b8:Blk w g8 64 #[x7]) (hx7:Fresh base w x7 (adjOf p css)) :
 Makes 230 #[.pointer (some ⟨g4,0,none⟩),.pointer (some ⟨g0,0,none⟩)] (diagsMade p (p - 1).toNat css) w:=by
 have hd:=dataOk_n hok
 refine ⟨enter_e2,fun r W hr hBW=>?_⟩
 rw [diagsMade_len] at hr
 have hx:XorOk ([adjOf p css] ++ diagOf p r css):=xorOk_of (by simp) (togOk_first hok.2.2) (adjDiag_ok hok (by omega))
 have hh:ManyV w.heap.size w (.slice (some ⟨g8,0,none⟩) 1 1) [x7] [adjOf p css]:=by
  refine ⟨rfl,.inr ⟨g8,0,1,rfl,Nat.le_refl _,b8.lt,fun j u hu=>?_⟩,fun j u hu=>?_⟩
  · rw [Nat.zero_add,b8.cell j,List.getElem?_toArray]
    exact hu
  · cases j with
    | zero=>cases hu;exact hx7.bytes
    | succ j=>simp at hu
 refine (encoded2_any (B:=w.heap.size) p r css v _ [x7] [adjOf p css] g4 g0 g9 W hBW.size (hL.next hBW) hok (by omega) ((hC.more hB).below hBW) (b4.below hBW b4.lt) (b0.below hBW b0.lt) (b9.below hBW b9.lt) (hh.below hBW) (by simp) hx).mono ?_
 rintro e w' ⟨u,rfl,hf,hB1⟩
 refine ⟨u,rfl,?_,hB1⟩
 rw [diagsMade_at hok hr]
 exact Fresh.toP2 hf

theorem encoded_any {B:Nat} (p:Int) (v:Value) (css:List (List (List UInt8))) (hok:DataOk p css) (w:World) (hL:Laid w) (hB:B≤w.heap.size) (hC:Cols B w v css) :
 Calls Tryz.prog 168 #[.agg #[.int .i64 p,v]] w fun e w'=>∃ u,e = .returned u∧Cols w'.heap.size w' u (encOf p css)∧Below w.heap.size w w':=by
 have hpp:=prm_bounds hok.1.2
 obtain ⟨A,cap,rfl,_,_⟩:=id hC
 obtain ⟨n,hn⟩:∃ n,css.length=n:=⟨_,rfl⟩
 rw [hn]
 rw [hn] at hC
 obtain ⟨W1,hW1⟩:∃ W1,w.alloc (.cells #[.int .i64 p,.slice A n cap] 208)=W1:=⟨_,rfl⟩
 have b0:Blk W1 w.heap.size 208 #[.int .i64 p,.slice A n cap]:=by rw [←hW1];exact Blk.new w _ _
 have hBW:Below w.heap.size w W1:=by rw [←hW1];exact below_one w _
 have hL1:=hL.next hBW
 have hC1:=hC.below (hBW.mono hB)
 have hB1:B≤W1.heap.size:=Nat.le_trans hB hBW.size
 have HU:=Lib.hid (fun (U:World)=>upon_any (.slice none 0 0) U none 0 0 rfl)
 have HV:=Lib.hid (fun (U:World) (c:Nat)=>upon_any (.slice (some ⟨c,0,none⟩) 1 1) U (some ⟨c,0,none⟩) 1 1 rfl)
 have HA:=Lib.hid (fun (U:World) (hU:Below W1.heap.size W1 U)=>adjuster_any p (.slice A n cap) css hok U (hL1.next hU) (Nat.le_trans hB1 hU.size) (hC1.below (hU.mono hB1)))
 rw [show xorOf (diagOf p (p - 1) css)=adjOf p css from rfl] at HA
 have HM1:=Lib.hid (fun (U:World) (hU:Below W1.heap.size W1 U)=>hC1.below (hU.mono hB1))
 have hadl:=adjOf_len hok
 have hfl:=togOk_first hok.2.2
 have HOK:=Lib.hid hok
 have hok0:=Lib.hid hok
 have HADL:=Lib.hid hadl
 clear hadl hok hC hC1 hfl hn
 refine (callsIn_wide (n:=9)).1 ?_
 refine callsIn_of_wp_marks Tryz.func168 rfl trivial ?_ rfl
 simp only [Tryz.ntmps168,List.size_toArray,List.length_cons,List.length_nil,Nat.reduceAdd,Nat.reduceSub,Array.replicate_succ,Array.replicate_zero,List.push_toArray,List.append_toArray,List.nil_append,List.cons_append]
 gi_wp2_with fail
 clear hW1
 generalize hadj:adjOf p css=adj at *
 have bg:=b0
 refine region_inv (by kernel_rfl) (by kernel_rfl) (EncI w.heap.size p (.slice A n cap) adj W1) ?start ?step ?fin
 case start =>
  exact ⟨undef,undef,undef,undef,undef,undef,undef,rfl,⟨(Below.refl _ _).drew,fun h=>by simp at h,fun h=>by simp at h,fun h=>by simp at h,fun h=>by simp at h,fun h=>by simp at h,fun h=>by simp at h,fun h=>by simp at h,fun h=>by simp at h,fun h=>by simp at h,fun h=>by simp at h,fun h=>by simp at h,fun h=>by simp at h⟩⟩
 case step =>
  rintro i listed a w hi ⟨x3,x4,x5,x6,x7,x8,x9,rfl,hF⟩
  have hi9:i<9:=List.mem_range.1 (List.mem_filter.1 hi).1
  obtain rfl | rfl | rfl | rfl | rfl | rfl | rfl | rfl | rfl:i=0∨i=1∨i=2∨i=3∨i=4∨i=5∨i=6∨i=7∨i=8:=by omega
  · -- operation 0
    have e1:(listed.setIfInBounds 0 true).getD 1 false=listed.getD 1 false:=listed_ne (by decide)
    have e2:(listed.setIfInBounds 0 true).getD 2 false=listed.getD 2 false:=listed_ne (by decide)
    have e3:(listed.setIfInBounds 0 true).getD 3 false=listed.getD 3 false:=listed_ne (by decide)
    have e4:(listed.setIfInBounds 0 true).getD 4 false=listed.getD 4 false:=listed_ne (by decide)
    have e5:(listed.setIfInBounds 0 true).getD 5 false=listed.getD 5 false:=listed_ne (by decide)
    have e6:(listed.setIfInBounds 0 true).getD 6 false=listed.getD 6 false:=listed_ne (by decide)
    have e7:(listed.setIfInBounds 0 true).getD 7 false=listed.getD 7 false:=listed_ne (by decide)
    have e8:(listed.setIfInBounds 0 true).getD 8 false=listed.getD 8 false:=listed_ne (by decide)
    have en:=not_yet hi
    refine wpOpIn_one rfl rfl ?_
    gi_wp2_with fail
    refine ⟨trivial,(callsIn_wide.2 (HU.out _)).mono ?_⟩
    rintro e w1 ⟨rfl,bU,hB1⟩
    have hs:=hF.hB.size
    have hf:=hF.below hB1
    gi_wp2
    exact ⟨_,_,_,_,_,_,_,rfl,{ hB:=hf.hB,f0:=(fun _=>⟨_,rfl,hs,bU⟩),f1:=(by simpa only [e1] using hf.f1),f2:=(by simpa only [e2] using hf.f2),f3:=(by simpa only [e3] using hf.f3),f4:=(by simpa only [e4] using hf.f4),f5:=(fun h=>by rw [e5] at h;obtain ⟨c,y,h1,h2,h3,h4,_⟩:=hf.f5 h;exact ⟨c,y,h1,h2,h3,h4,fun h7=>by rw [e7] at h7;have:=(hf.c7 h7).2;rw [en] at this;cases this⟩),f6:=(by simpa only [e6,e8] using hf.f6),fd:=(by simpa only [e5,e6] using hf.fd),c32:=(by simpa only [e3,e2] using hf.c32),c43:=(by simpa only [e4,e3] using hf.c43),c7:=(fun h=>by rw [e7] at h;have:=(hf.c7 h).2;rw [en] at this;cases this),c8:=(by simpa only [e8,e6,e4] using hf.c8) }⟩
  · -- operation 1
    have e0:(listed.setIfInBounds 1 true).getD 0 false=listed.getD 0 false:=listed_ne (by decide)
    have e2:(listed.setIfInBounds 1 true).getD 2 false=listed.getD 2 false:=listed_ne (by decide)
    have e3:(listed.setIfInBounds 1 true).getD 3 false=listed.getD 3 false:=listed_ne (by decide)
    have e4:(listed.setIfInBounds 1 true).getD 4 false=listed.getD 4 false:=listed_ne (by decide)
    have e5:(listed.setIfInBounds 1 true).getD 5 false=listed.getD 5 false:=listed_ne (by decide)
    have e6:(listed.setIfInBounds 1 true).getD 6 false=listed.getD 6 false:=listed_ne (by decide)
    have e7:(listed.setIfInBounds 1 true).getD 7 false=listed.getD 7 false:=listed_ne (by decide)
    have e8:(listed.setIfInBounds 1 true).getD 8 false=listed.getD 8 false:=listed_ne (by decide)
    have en:=not_yet hi
    refine wpOpIn_one rfl rfl ?_
    have bgw:=bg.below hF.hB bg.lt
    have c0:=bgw.cell 0
    have c1:=bgw.cell 1
    simp only [gz9] at c0 c1
    have hf:=hF
    gi_wp2
    exact ⟨_,_,_,_,_,_,_,rfl,{ hB:=hf.hB,f0:=(by simpa only [e0] using hf.f0),f1:=(fun _=>rfl),f2:=(by simpa only [e2] using hf.f2),f3:=(by simpa only [e3] using hf.f3),f4:=(by simpa only [e4] using hf.f4),f5:=(by simpa only [e5,e7] using hf.f5),f6:=(by simpa only [e6,e8] using hf.f6),fd:=(by simpa only [e5,e6] using hf.fd),c32:=(by simpa only [e3,e2] using hf.c32),c43:=(by simpa only [e4,e3] using hf.c43),c7:=(by simpa only [e7,e5,e0] using hf.c7),c8:=(by simpa only [e8,e6,e4] using hf.c8) }⟩
  · -- operation 2
    have e0:(listed.setIfInBounds 2 true).getD 0 false=listed.getD 0 false:=listed_ne (by decide)
    have e1:(listed.setIfInBounds 2 true).getD 1 false=listed.getD 1 false:=listed_ne (by decide)
    have e3:(listed.setIfInBounds 2 true).getD 3 false=listed.getD 3 false:=listed_ne (by decide)
    have e4:(listed.setIfInBounds 2 true).getD 4 false=listed.getD 4 false:=listed_ne (by decide)
    have e5:(listed.setIfInBounds 2 true).getD 5 false=listed.getD 5 false:=listed_ne (by decide)
    have e6:(listed.setIfInBounds 2 true).getD 6 false=listed.getD 6 false:=listed_ne (by decide)
    have e7:(listed.setIfInBounds 2 true).getD 7 false=listed.getD 7 false:=listed_ne (by decide)
    have e8:(listed.setIfInBounds 2 true).getD 8 false=listed.getD 8 false:=listed_ne (by decide)
    have en:=not_yet hi
    refine wpOpIn_one rfl rfl ?_
    have hp:=ready_on hi rfl [1] (by kernel_rfl)
    obtain rfl:=hF.f1 (hp 1 (by simp))
    gi_wp2_with fail
    refine ⟨trivial,(callsIn_wide.2 (HA.out _ hF.hB)).mono ?_⟩
    rintro e w1 ⟨u,rfl,hu,hB1⟩
    have hs:=hF.hB.size
    have hf:=hF.below hB1
    gi_wp2
    exact ⟨_,_,_,_,_,_,_,rfl,{ hB:=hf.hB,f0:=(by simpa only [e0] using hf.f0),f1:=(by simpa only [e1] using hf.f1),f2:=(fun _=>hu.less hs),f3:=(fun h=>by rw [e3] at h;have:=hf.c32 h;rw [en] at this;cases this),f4:=(by simpa only [e4] using hf.f4),f5:=(by simpa only [e5,e7] using hf.f5),f6:=(by simpa only [e6,e8] using hf.f6),fd:=(by simpa only [e5,e6] using hf.fd),c32:=(fun h=>by rw [e3] at h;have:=hf.c32 h;rw [en] at this;cases this),c43:=(by simpa only [e4,e3] using hf.c43),c7:=(by simpa only [e7,e5,e0] using hf.c7),c8:=(by simpa only [e8,e6,e4] using hf.c8) }⟩
  · -- operation 3
    have e0:(listed.setIfInBounds 3 true).getD 0 false=listed.getD 0 false:=listed_ne (by decide)
    have e1:(listed.setIfInBounds 3 true).getD 1 false=listed.getD 1 false:=listed_ne (by decide)
    have e2:(listed.setIfInBounds 3 true).getD 2 false=listed.getD 2 false:=listed_ne (by decide)
    have e4:(listed.setIfInBounds 3 true).getD 4 false=listed.getD 4 false:=listed_ne (by decide)
    have e5:(listed.setIfInBounds 3 true).getD 5 false=listed.getD 5 false:=listed_ne (by decide)
    have e6:(listed.setIfInBounds 3 true).getD 6 false=listed.getD 6 false:=listed_ne (by decide)
    have e7:(listed.setIfInBounds 3 true).getD 7 false=listed.getD 7 false:=listed_ne (by decide)
    have e8:(listed.setIfInBounds 3 true).getD 8 false=listed.getD 8 false:=listed_ne (by decide)
    have en:=not_yet hi
    refine wpOpIn_one rfl rfl ?_
    have hp:=ready_on hi rfl [2] (by kernel_rfl)
    obtain ⟨A7,n7,hx7,_⟩:=id (hF.f2 (hp 2 (by simp)))
    subst hx7
    have hs:=hF.hB.size
    have hf:=hF.below (below_one w (.cells #[.slice A7 adj.length n7] 64))
    have bx:=Blk.new w 64 #[.slice A7 adj.length n7]
    gi_wp2
    exact ⟨_,_,_,_,_,_,_,rfl,{ hB:=hf.hB,f0:=(by simpa only [e0] using hf.f0),f1:=(by simpa only [e1] using hf.f1),f2:=(by simpa only [e2] using hf.f2),f3:=(fun _=>⟨_,rfl,hs,bx⟩),f4:=(fun h=>by rw [e4] at h;have:=hf.c43 h;rw [en] at this;cases this),f5:=(by simpa only [e5,e7] using hf.f5),f6:=(by simpa only [e6,e8] using hf.f6),fd:=(by simpa only [e5,e6] using hf.fd),c32:=(fun _=>by rw [e2];exact hp 2 (by simp)),c43:=(fun h=>by rw [e4] at h;have:=hf.c43 h;rw [en] at this;cases this),c7:=(by simpa only [e7,e5,e0] using hf.c7),c8:=(by simpa only [e8,e6,e4] using hf.c8) }⟩
  · -- operation 4
    have e0:(listed.setIfInBounds 4 true).getD 0 false=listed.getD 0 false:=listed_ne (by decide)
    have e1:(listed.setIfInBounds 4 true).getD 1 false=listed.getD 1 false:=listed_ne (by decide)
    have e2:(listed.setIfInBounds 4 true).getD 2 false=listed.getD 2 false:=listed_ne (by decide)
    have e3:(listed.setIfInBounds 4 true).getD 3 false=listed.getD 3 false:=listed_ne (by decide)
    have e5:(listed.setIfInBounds 4 true).getD 5 false=listed.getD 5 false:=listed_ne (by decide)
    have e6:(listed.setIfInBounds 4 true).getD 6 false=listed.getD 6 false:=listed_ne (by decide)
    have e7:(listed.setIfInBounds 4 true).getD 7 false=listed.getD 7 false:=listed_ne (by decide)
    have e8:(listed.setIfInBounds 4 true).getD 8 false=listed.getD 8 false:=listed_ne (by decide)
    have en:=not_yet hi
    refine wpOpIn_one rfl rfl ?_
    have hp:=ready_on hi rfl [3] (by kernel_rfl)
    obtain ⟨c8,hx8,_,_⟩:=id (hF.f3 (hp 3 (by simp)))
    subst hx8
    gi_wp2_with fail
    refine ⟨trivial,(callsIn_wide.2 (HV.out _ _)).mono ?_⟩
    rintro e w1 ⟨rfl,bU,hB1⟩
    have hs:=hF.hB.size
    have hf:=hF.below hB1
    gi_wp2
    exact ⟨_,_,_,_,_,_,_,rfl,{ hB:=hf.hB,f0:=(by simpa only [e0] using hf.f0),f1:=(by simpa only [e1] using hf.f1),f2:=(by simpa only [e2] using hf.f2),f3:=(by simpa only [e3] using hf.f3),f4:=(fun _=>⟨_,rfl,hs,bU⟩),f5:=(by simpa only [e5,e7] using hf.f5),f6:=(fun h=>by rw [e6] at h;obtain ⟨c,y,h1,h2,h3,h4,_⟩:=hf.f6 h;exact ⟨c,y,h1,h2,h3,h4,fun h7=>by rw [e8] at h7;have:=(hf.c8 h7).2;rw [en] at this;cases this⟩),fd:=(by simpa only [e5,e6] using hf.fd),c32:=(by simpa only [e3,e2] using hf.c32),c43:=(fun _=>by rw [e3];exact hp 3 (by simp)),c7:=(by simpa only [e7,e5,e0] using hf.c7),c8:=(fun h=>by rw [e8] at h;have:=(hf.c8 h).2;rw [en] at this;cases this) }⟩
  · -- operation 5
    have e0:(listed.setIfInBounds 5 true).getD 0 false=listed.getD 0 false:=listed_ne (by decide)
    have e1:(listed.setIfInBounds 5 true).getD 1 false=listed.getD 1 false:=listed_ne (by decide)
    have e2:(listed.setIfInBounds 5 true).getD 2 false=listed.getD 2 false:=listed_ne (by decide)
    have e3:(listed.setIfInBounds 5 true).getD 3 false=listed.getD 3 false:=listed_ne (by decide)
    have e4:(listed.setIfInBounds 5 true).getD 4 false=listed.getD 4 false:=listed_ne (by decide)
    have e6:(listed.setIfInBounds 5 true).getD 6 false=listed.getD 6 false:=listed_ne (by decide)
    have e7:(listed.setIfInBounds 5 true).getD 7 false=listed.getD 7 false:=listed_ne (by decide)
    have e8:(listed.setIfInBounds 5 true).getD 8 false=listed.getD 8 false:=listed_ne (by decide)
    have en:=not_yet hi
    refine wpOpIn_one rfl rfl ?_
    have hs:=hF.hB.size
    have hf:=hF.below (below_one w (.cells #[Value.nilFunc] 158))
    have bx:=Blk.new w 158 #[Value.nilFunc]
    gi_wp2
    exact ⟨_,_,_,_,_,_,_,rfl,{ hB:=hf.hB,f0:=(by simpa only [e0] using hf.f0),f1:=(by simpa only [e1] using hf.f1),f2:=(by simpa only [e2] using hf.f2),f3:=(by simpa only [e3] using hf.f3),f4:=(by simpa only [e4] using hf.f4),f5:=(fun _=>⟨_,_,rfl,hs,bx,fun _ _ h=>(by cases h),fun h=>by rw [e7] at h;have:=(hf.c7 h).1;rw [en] at this;cases this⟩),f6:=(by simpa only [e6,e8] using hf.f6),fd:=(fun _ h=>by rw [e6] at h;obtain ⟨c,y,h1,_,h3,_⟩:=hF.f6 h;rw [h1];intro e;injection e with e;injection e with e;injection e with e;have:=h3.lt;omega),c32:=(by simpa only [e3,e2] using hf.c32),c43:=(by simpa only [e4,e3] using hf.c43),c7:=(fun h=>by rw [e7] at h;have:=(hf.c7 h).1;rw [en] at this;cases this),c8:=(by simpa only [e8,e6,e4] using hf.c8) }⟩
  · -- operation 6
    have e0:(listed.setIfInBounds 6 true).getD 0 false=listed.getD 0 false:=listed_ne (by decide)
    have e1:(listed.setIfInBounds 6 true).getD 1 false=listed.getD 1 false:=listed_ne (by decide)
    have e2:(listed.setIfInBounds 6 true).getD 2 false=listed.getD 2 false:=listed_ne (by decide)
    have e3:(listed.setIfInBounds 6 true).getD 3 false=listed.getD 3 false:=listed_ne (by decide)
    have e4:(listed.setIfInBounds 6 true).getD 4 false=listed.getD 4 false:=listed_ne (by decide)
    have e5:(listed.setIfInBounds 6 true).getD 5 false=listed.getD 5 false:=listed_ne (by decide)
    have e7:(listed.setIfInBounds 6 true).getD 7 false=listed.getD 7 false:=listed_ne (by decide)
    have e8:(listed.setIfInBounds 6 true).getD 8 false=listed.getD 8 false:=listed_ne (by decide)
    have en:=not_yet hi
    refine wpOpIn_one rfl rfl ?_
    have hs:=hF.hB.size
    have hf:=hF.below (below_one w (.cells #[Value.nilFunc] 158))
    have bx:=Blk.new w 158 #[Value.nilFunc]
    gi_wp2
    exact ⟨_,_,_,_,_,_,_,rfl,{ hB:=hf.hB,f0:=(by simpa only [e0] using hf.f0),f1:=(by simpa only [e1] using hf.f1),f2:=(by simpa only [e2] using hf.f2),f3:=(by simpa only [e3] using hf.f3),f4:=(by simpa only [e4] using hf.f4),f5:=(by simpa only [e5,e7] using hf.f5),f6:=(fun _=>⟨_,_,rfl,hs,bx,fun _ _ h=>(by cases h),fun h=>by rw [e8] at h;have:=(hf.c8 h).1;rw [en] at this;cases this⟩),fd:=(fun h _=>by rw [e5] at h;obtain ⟨c,y,h1,_,h3,_⟩:=hF.f5 h;rw [h1];intro e;injection e with e;injection e with e;injection e with e;have:=h3.lt;omega),c32:=(by simpa only [e3,e2] using hf.c32),c43:=(by simpa only [e4,e3] using hf.c43),c7:=(by simpa only [e7,e5,e0] using hf.c7),c8:=(fun h=>by rw [e8] at h;have:=(hf.c8 h).1;rw [en] at this;cases this) }⟩
  · -- operation 7
    have e0:(listed.setIfInBounds 7 true).getD 0 false=listed.getD 0 false:=listed_ne (by decide)
    have e1:(listed.setIfInBounds 7 true).getD 1 false=listed.getD 1 false:=listed_ne (by decide)
    have e2:(listed.setIfInBounds 7 true).getD 2 false=listed.getD 2 false:=listed_ne (by decide)
    have e3:(listed.setIfInBounds 7 true).getD 3 false=listed.getD 3 false:=listed_ne (by decide)
    have e4:(listed.setIfInBounds 7 true).getD 4 false=listed.getD 4 false:=listed_ne (by decide)
    have e5:(listed.setIfInBounds 7 true).getD 5 false=listed.getD 5 false:=listed_ne (by decide)
    have e6:(listed.setIfInBounds 7 true).getD 6 false=listed.getD 6 false:=listed_ne (by decide)
    have e8:(listed.setIfInBounds 7 true).getD 8 false=listed.getD 8 false:=listed_ne (by decide)
    have en:=not_yet hi
    refine wpOpIn_one rfl rfl ?_
    have hp:=ready_on hi rfl [0,4,5,6] (by kernel_rfl)
    obtain ⟨c,y,hx,hc,hy,hyn,_⟩:=hF.f5 (hp 5 (by simp))
    obtain ⟨cs,hsv,_,_⟩:=id (hF.f0 (hp 0 (by simp)))
    obtain ⟨cz,yz,hxz,_,hyz,_,_⟩:=id (hF.f6 (hp 6 (by simp)))
    subst hxz
    have hne:=hF.fd (hp 5 (by simp)) (hp 6 (by simp))
    subst hx
    subst hsv
    have hcz:c≠cz:=fun e=>hne (by rw [e])
    have cy:=hy.one
    have fy:=hy.frozen 0
    have hf:=hF
    gi_wp2
    exact ⟨_,_,_,_,_,_,_,rfl,{ hB:=hf.hB.setCell hc _,f0:=(fun h=>by rw [e0] at h;obtain ⟨d,h1,h2,h3⟩:=hf.f0 h;exact ⟨d,h1,h2,h3.far (Blk.ne_type h3 hy (by decide)) _⟩),f1:=(by simpa only [e1] using hf.f1),f2:=(fun h=>by rw [e2] at h;exact Fresh.far_blk (hf.f2 h) hy hyn _),f3:=(fun h=>by rw [e3] at h;obtain ⟨d,h1,h2,h3⟩:=hf.f3 h;exact ⟨d,h1,h2,h3.far (Blk.ne_type h3 hy (by decide)) _⟩),f4:=(fun h=>by rw [e4] at h;obtain ⟨d,h1,h2,h3⟩:=hf.f4 h;exact ⟨d,h1,h2,h3.far (Blk.ne_type h3 hy (by decide)) _⟩),f5:=(fun _=>⟨c,_,rfl,hc,hy.set_ 0 _,fun _ _ h=>(by cases h),fun _=>rfl⟩),f6:=(fun h=>by rw [e6] at h;obtain ⟨d,z,h1,h2,h3,h4,h5⟩:=hf.f6 h;have hdc:d=cz:=(by injection h1 with h1;injection h1 with h1;injection h1 with h1;exact h1.symm);subst hdc;exact ⟨d,z,rfl,h2,h3.far (Ne.symm hcz) _,h4,fun h=>h5 (by rw [e8] at h;exact h)⟩),fd:=(by simpa only [e5,e6] using hf.fd),c32:=(by simpa only [e3,e2] using hf.c32),c43:=(by simpa only [e4,e3] using hf.c43),c7:=(fun _=>⟨by rw [e5];exact hp 5 (by simp),by rw [e0];exact hp 0 (by simp)⟩),c8:=(by simpa only [e8,e6,e4] using hf.c8) }⟩
  · -- operation 8
    have e0:(listed.setIfInBounds 8 true).getD 0 false=listed.getD 0 false:=listed_ne (by decide)
    have e1:(listed.setIfInBounds 8 true).getD 1 false=listed.getD 1 false:=listed_ne (by decide)
    have e2:(listed.setIfInBounds 8 true).getD 2 false=listed.getD 2 false:=listed_ne (by decide)
    have e3:(listed.setIfInBounds 8 true).getD 3 false=listed.getD 3 false:=listed_ne (by decide)
    have e4:(listed.setIfInBounds 8 true).getD 4 false=listed.getD 4 false:=listed_ne (by decide)
    have e5:(listed.setIfInBounds 8 true).getD 5 false=listed.getD 5 false:=listed_ne (by decide)
    have e6:(listed.setIfInBounds 8 true).getD 6 false=listed.getD 6 false:=listed_ne (by decide)
    have e7:(listed.setIfInBounds 8 true).getD 7 false=listed.getD 7 false:=listed_ne (by decide)
    have en:=not_yet hi
    refine wpOpIn_one rfl rfl ?_
    have hp:=ready_on hi rfl [0,4,5,6,7] (by kernel_rfl)
    obtain ⟨c,y,hx,hc,hy,hyn,_⟩:=hF.f6 (hp 6 (by simp))
    obtain ⟨cs,hsv,_,_⟩:=id (hF.f4 (hp 4 (by simp)))
    obtain ⟨cz,yz,hxz,_,hyz,_,_⟩:=id (hF.f5 (hp 5 (by simp)))
    subst hxz
    have hne:=hF.fd (hp 5 (by simp)) (hp 6 (by simp))
    subst hx
    subst hsv
    have hcz:c≠cz:=fun e=>hne (by rw [e])
    have cy:=hy.one
    have fy:=hy.frozen 0
    have hf:=hF
    gi_wp2
    exact ⟨_,_,_,_,_,_,_,rfl,{ hB:=hf.hB.setCell hc _,f0:=(fun h=>by rw [e0] at h;obtain ⟨d,h1,h2,h3⟩:=hf.f0 h;exact ⟨d,h1,h2,h3.far (Blk.ne_type h3 hy (by decide)) _⟩),f1:=(by simpa only [e1] using hf.f1),f2:=(fun h=>by rw [e2] at h;exact Fresh.far_blk (hf.f2 h) hy hyn _),f3:=(fun h=>by rw [e3] at h;obtain ⟨d,h1,h2,h3⟩:=hf.f3 h;exact ⟨d,h1,h2,h3.far (Blk.ne_type h3 hy (by decide)) _⟩),f4:=(fun h=>by rw [e4] at h;obtain ⟨d,h1,h2,h3⟩:=hf.f4 h;exact ⟨d,h1,h2,h3.far (Blk.ne_type h3 hy (by decide)) _⟩),f5:=(fun h=>by rw [e5] at h;obtain ⟨d,z,h1,h2,h3,h4,h5⟩:=hf.f5 h;have hdc:d=cz:=(by injection h1 with h1;injection h1 with h1;injection h1 with h1;exact h1.symm);subst hdc;exact ⟨d,z,rfl,h2,h3.far (Ne.symm hcz) _,h4,fun h=>h5 (by rw [e7] at h;exact h)⟩),f6:=(fun _=>⟨c,_,rfl,hc,hy.set_ 0 _,fun _ _ h=>(by cases h),fun _=>rfl⟩),fd:=(by simpa only [e5,e6] using hf.fd),c32:=(by simpa only [e3,e2] using hf.c32),c43:=(by simpa only [e4,e3] using hf.c43),c7:=(by simpa only [e7,e5,e0] using hf.c7),c8:=(fun _=>⟨by rw [e6];exact hp 6 (by simp),by rw [e4];exact hp 4 (by simp)⟩) }⟩

 case fin =>
  rintro listed a w2 hall ⟨x3,x4,x5,x6,x7,x8,x9,rfl,hF⟩
  have hl:∀ i,i<9→listed.getD i false=true:=hall
  obtain ⟨c5,rfl,h5,b5⟩:=hF.f0 (hl 0 (by omega))
  obtain rfl:=hF.f1 (hl 1 (by omega))
  have hx7:=hF.f2 (hl 2 (by omega))
  obtain ⟨c8,rfl,h8,b8⟩:=hF.f3 (hl 3 (by omega))
  obtain ⟨c9,rfl,h9,b9⟩:=hF.f4 (hl 4 (by omega))
  obtain ⟨c3,y3,rfl,h3,b3,_,e3⟩:=hF.f5 (hl 5 (by omega))
  obtain rfl:=e3 (hl 7 (by omega))
  obtain ⟨c4,y4,rfl,h4,b4,_,e4⟩:=hF.f6 (hl 6 (by omega))
  obtain rfl:=e4 (hl 8 (by omega))
  have hBf:=hF.hB
  clear hF hall hl
  subst hadj
  have b0f:=b0.below hBf b0.lt
  have c0:=b0f.cell 0
  have c1:=b0f.cell 1
  simp only [gz9] at c0 c1
  have hL2:=hL1.next hBf
  have hB2:=Nat.le_trans hB1 hBf.size
  have hC2:=HM1.out w2 hBf
  have hR1:=hok0.out.1
  have HRw:=Lib.hid (fun (U:World) (hU:Below w2.heap.size w2 U)=>rows_any p hR1 U (hL2.next hU))
  have HL1:=Lib.hid (fun (U:World) (hU:Below w2.heap.size w2 U)=>listed_any _ _ (rowsMade (p - 1).toNat css) U (by rw [rowsMade_len];omega) (makes_rows p (.slice A n cap) css HOK.out U (Nat.le_trans hB2 hU.size) (hC2.below (hU.mono hB2)) c3 w.heap.size c5 (b3.below hU b3.lt) (b0f.below hU b0f.lt) (b5.below hU b5.lt)))
  have HL2:=Lib.hid (fun (U:World) (hU:Below w2.heap.size w2 U)=>listed_any _ _ (diagsMade p (p - 1).toNat css) U (by rw [diagsMade_len];omega) (makes_diags p (.slice A n cap) css HOK.out U (hL2.next hU) (Nat.le_trans hB2 hU.size) (hC2.below (hU.mono hB2)) c4 w.heap.size c9 c8 x7 (b4.below hU b4.lt) (b0f.below hU b0f.lt) (b9.below hU b9.lt) (b8.below hU b8.lt) (hx7.below hU)))
  rw [rowsMade_len,show (((p - 1).toNat:Nat):Int)=p - 1 by omega] at HL1
  rw [diagsMade_len,show (((p - 1).toNat:Nat):Int)=p - 1 by omega] at HL2
  have HENC:Hid (encOf p css = [rowsMade (p - 1).toNat css,diagsMade p (p - 1).toNat css]):=rfl
  have HLR:Hid ((rowsMade (p - 1).toNat css).length=(p - 1).toNat):=rowsMade_len _
  have HLD:Hid ((diagsMade p (p - 1).toNat css).length=(p - 1).toNat):=diagsMade_len _
  generalize rowsMade (p - 1).toNat css=rm at *
  generalize diagsMade p (p - 1).toNat css=dm at *
  clear hx7 hC2 b3 b4 b5 b8 b9 hR1
  have hBx:Below w2.heap.size w2 w2:=Below.refl _ _
  gi_wp2_with fail
  have hS:(fun V:World=>V.cell? ⟨w.heap.size,0,none⟩=some (.int .i64 p)∧V.cell? ⟨w.heap.size,1,none⟩=some (.slice A n cap)) w2.drew:=⟨c0,c1⟩
  refine wpIn_mono (region_HF (Q:=NoPanic _) (S:=(fun V:World=>V.cell? ⟨w.heap.size,0,none⟩=some (.int .i64 p)∧V.cell? ⟨w.heap.size,1,none⟩=some (.slice A n cap))) (by kernel_rfl) ?_) NoPanic.imp
  refine tkF (i:=0) (d:=10) (v:=.pointer (some ⟨w.heap.size,0,none⟩)) (s:=hS) (c:=?_)
  simp only [ud9]
  refine tkF (i:=1) (d:=11) (v:=.int .i64 p) (s:=hS) (c:=?_)
  simp only [ud9]
  refine tkF (i:=3) (d:=13) (v:=.func (.func 228) #[] #[.pointer (some ⟨c3,0,none⟩),.pointer (some ⟨w.heap.size,0,none⟩)]) (s:=hS) (c:=?_)
  simp only [ud9]
  refine tkF (i:=5) (d:=15) (v:=.pointer (some ⟨w.heap.size,0,none⟩)) (s:=hS) (c:=?_)
  simp only [ud9]
  refine tkF (i:=6) (d:=16) (v:=.int .i64 p) (s:=hS) (c:=?_)
  simp only [ud9]
  refine tkF (i:=8) (d:=18) (v:=.func (.func 230) #[] #[.pointer (some ⟨c4,0,none⟩),.pointer (some ⟨w.heap.size,0,none⟩)]) (s:=hS) (c:=?_)
  simp only [ud9]
  refine oneF (i:=2) (c:=?_)
  gi_wp2_with fail
  refine ⟨trivial,(callsIn_wide.2 (HRw.out _ hBx.drew)).mono ?_⟩
  rintro e w3 ⟨rfl,hBn⟩
  replace hBn:=below_undrew hBn
  replace hBx:=below_in hBx hBn
  clear hS
  have hS:(fun V:World=>V.cell? ⟨w.heap.size,0,none⟩=some (.int .i64 p)∧V.cell? ⟨w.heap.size,1,none⟩=some (.slice A n cap)) w3:=⟨(hBx.cell (p:=⟨w.heap.size,0,none⟩) b0f.lt).trans c0,(hBx.cell (p:=⟨w.heap.size,1,none⟩) b0f.lt).trans c1⟩
  clear hBn
  gi_wp2
  refine oneF (i:=4) (c:=?_)
  gi_wp2_with fail
  refine ⟨trivial,(callsIn_wide.2 (HL1.out _ hBx)).mono ?_⟩
  rintro e w3 ⟨u1,rfl,hm1,hBn⟩
  replace hBx:=below_in hBx hBn
  clear hS
  have hS:(fun V:World=>V.cell? ⟨w.heap.size,0,none⟩=some (.int .i64 p)∧V.cell? ⟨w.heap.size,1,none⟩=some (.slice A n cap)) w3:=⟨(hBx.cell (p:=⟨w.heap.size,0,none⟩) b0f.lt).trans c0,(hBx.cell (p:=⟨w.heap.size,1,none⟩) b0f.lt).trans c1⟩
  have hmr:=hm1
  obtain ⟨A1,k1,hu1,_,_⟩:=id hm1
  subst hu1
  clear hBn
  gi_wp2
  refine oneF (i:=7) (c:=?_)
  gi_wp2_with fail
  refine ⟨trivial,(callsIn_wide.2 (HRw.out _ hBx)).mono ?_⟩
  rintro e w3 ⟨rfl,hBn⟩
  replace hBx:=below_in hBx hBn
  clear hS
  have hS:(fun V:World=>V.cell? ⟨w.heap.size,0,none⟩=some (.int .i64 p)∧V.cell? ⟨w.heap.size,1,none⟩=some (.slice A n cap)) w3:=⟨(hBx.cell (p:=⟨w.heap.size,0,none⟩) b0f.lt).trans c0,(hBx.cell (p:=⟨w.heap.size,1,none⟩) b0f.lt).trans c1⟩
  replace hm1:=(hm1.below hBn).more hBn.size
  clear hBn
  gi_wp2
  refine oneF (i:=9) (c:=?_)
  gi_wp2_with fail
  refine ⟨trivial,(callsIn_wide.2 (HL2.out _ hBx)).mono ?_⟩
  rintro e w3 ⟨u2,rfl,hm2,hBn⟩
  replace hBx:=below_in hBx hBn
  clear hS
  have hS:(fun V:World=>V.cell? ⟨w.heap.size,0,none⟩=some (.int .i64 p)∧V.cell? ⟨w.heap.size,1,none⟩=some (.slice A n cap)) w3:=⟨(hBx.cell (p:=⟨w.heap.size,0,none⟩) b0f.lt).trans c0,(hBx.cell (p:=⟨w.heap.size,1,none⟩) b0f.lt).trans c1⟩
  replace hm1:=(hm1.below hBn).more hBn.size
  obtain ⟨A2,k2,hu2,_,_⟩:=id hm2
  subst hu2
  clear hBn
  gi_wp2
  have hb3:=below_one w3 (.cells #[.slice A1 rm.length k1,.slice A2 dm.length k2] 50)
  have bz:=Blk.new w3 50 #[.slice A1 rm.length k1,.slice A2 dm.length k2]
  have hSz:(fun V:World=>V.cell? ⟨w.heap.size,0,none⟩=some (.int .i64 p)∧V.cell? ⟨w.heap.size,1,none⟩=some (.slice A n cap)) (w3.alloc (.cells #[.slice A1 rm.length k1,.slice A2 dm.length k2] 50)):=⟨(hb3.cell (p:=⟨w.heap.size,0,none⟩) (Nat.lt_of_lt_of_le b0f.lt hBx.size)).trans hS.1,(hb3.cell (p:=⟨w.heap.size,1,none⟩) (Nat.lt_of_lt_of_le b0f.lt hBx.size)).trans hS.2⟩
  refine oneF (i:=10) (c:=?_)
  gi_wp2
  refine oneF (i:=11) (c:=?_)
  gi_wp2
  refine anyHF_done (by kernel_rfl) ?_ _
  refine NoPanic.normal ?_
  gi_wp2
  have hq1:=(hm1.below hb3).more hb3.size
  have hq2:=(hm2.below hb3).more hb3.size
  have hfin:Below w.heap.size w (w3.alloc (.cells #[.slice A1 rm.length k1,.slice A2 dm.length k2] 50)):=below_in hBW (below_in hBf (below_in hBx hb3))
  generalize w3.alloc (.cells #[.slice A1 rm.length k1,.slice A2 dm.length k2] 50)=w4 at *
  refine ⟨.slice (some ⟨w3.heap.size,0,none⟩) 2 2,by simp [results,Tryz.results168,go_sem],_,rfl,?_,hfin⟩
  rw [HENC.out]
  refine ⟨_,2,rfl,Nat.le_refl _,fun _=>⟨w3.heap.size,0,rfl,bz.lt,fun j hj=>?_⟩⟩
  have hj2:j=0∨j=1:=by simp at hj;omega
  rcases hj2 with rfl | rfl
  · exact ⟨_,bz.cell 0,hq1⟩
  · exact ⟨_,bz.cell 1,hq2⟩
end Go.Proofs.YtcchjofjpflbhaaGreatDoor.E

namespace Go.Proofs.YtcchjofjpflbhaaGreatDoor.E
open Go.RowKit Go.Shelf Go.Proofs.YtcchjofjpflbhaaGreatDoor.C

theorem enter_adjuster1:∀ args W,(callFunc 271 args).run Tryz.prog W = .ok (.enter 271 args) W:=enters_of Tryz.func271 (by kernel_rfl) rfl
theorem adjuster_yes {B:Nat} (p:Int) (v:Value) (css:List (List (List UInt8))) (hok:DataOk p css) (w:World) (hL:Laid w) (hB:B≤w.heap.size) (hC:Cols B w v css) :
 Calls Tryz.prog 236 #[.int .i64 p,v] w fun e w'=>∃ u,e = .returned (.tuple #[u,.int .i64 0])∧Bytes w'.heap.size w' u (adjOf p css)∧Below w.heap.size w w':=by
 have hdn:=dataOk_n hok
 obtain ⟨A,cap,rfl,_,_⟩:=id hC
 obtain ⟨W2,hW2⟩:∃ W2,(w.alloc (.cells #[.int .i64 p] 3)).alloc (.cells #[.slice A css.length cap] 40)=W2:=⟨_,rfl⟩
 have b0:Blk W2 w.heap.size 3 #[.int .i64 p]:=by rw [←hW2];exact (Blk.new w _ _).alloc _
 have b1:Blk W2 (w.heap.size+1) 40 #[.slice A css.length cap]:=by rw [←hW2];exact Blk.second w _ _ _
 have hBW:Below w.heap.size w W2:=by rw [←hW2];exact below_two w _ _
 have hL2:=hL.next hBW
 have HA:=Lib.hid (ans_B_yes 271 #[.pointer (some ⟨w.heap.size,0,none⟩),.pointer (some ⟨w.heap.size+1,0,none⟩)] W2 (fun u W=>Bytes W.heap.size W u (adjOf p css)) (enter_adjuster1 _) (fun U hU _=>by
  have hLU:=hL2.next hU
  have hBU:=below_in hBW hU
  have hCU:=hC.below (hBU.mono hB)
  have HQ:=Lib.hid (asked_yes (B:=B) p (.slice A css.length cap) css U hLU (Nat.le_trans hB hBU.size) hCU (by omega) hok)
  have HE:=Lib.hid (fun (V:World) (hV:Below U.heap.size U V)=>adjuster_any (B:=B) p (.slice A css.length cap) css hok V (hLU.next hV) (Nat.le_trans hB (Nat.le_trans hBU.size hV.size)) (hCU.below (hV.mono (Nat.le_trans hB hBU.size))))
  have c0:=(b0.below hU b0.lt).one
  have c1:=(b1.below hU b1.lt).one
  clear hC hCU hok hdn b0 b1 hW2 hL hL2 hLU
  generalize css.length=n at *
  go_enter Tryz.func271,Tryz.ntmps271
  go_wp2_with (first
   | (go_at_call 166;refine HQ.out.mono ?_;rintro e w1 ⟨rfl,hB1⟩)
   | (go_at_call 225;refine (HE.out _ hB1).mono ?_;rintro e w2 ⟨u,rfl,hu,hB2⟩))
  go_ret
  exact ⟨_,rfl,hu.bytes,below_in hB1 hB2⟩))
 clear hC b0 b1 hL2 hok hdn
 generalize css.length=n at *
 go_enter Tryz.func236,Tryz.ntmps236
 have hmf:∀ (fn:Fn) (first cap:Array Value) (w:World),(Instr.makeFunc fn first cap).run Tryz.prog w = .ok (.func fn first cap) w:=fun _ _ _ _=>rfl
 go_wp2_with (go_at_call 270;refine HA.out.mono ?_;rintro e w1 ⟨u,W,rfl,hu,bE,rfl,hB1⟩)
 go_ret2
 exact ⟨u,rfl,Bytes.more (Bytes.set_int hu bE _) (by simp),below_in hBW hB1⟩
theorem enter_encode1:∀ args W,(callFunc 165 args).run Tryz.prog W = .ok (.enter 165 args) W:=enters_of Tryz.func165 (by kernel_rfl) rfl
theorem encode_yes {B:Nat} (p:Int) (v:Value) (css:List (List (List UInt8))) (hok:DataOk p css) (w:World) (hL:Laid w) (hB:B≤w.heap.size) (hC:Cols B w v css) :
 Calls Tryz.prog 114 #[.int .i64 p,v] w fun e w'=>∃ u,e = .returned (.tuple #[u,.int .i64 0])∧Cols w'.heap.size w' u (encOf p css)∧Below w.heap.size w w':=by
 have hdn:=dataOk_n hok
 obtain ⟨A,cap,rfl,_,_⟩:=id hC
 obtain ⟨W2,hW2⟩:∃ W2,(w.alloc (.cells #[.int .i64 p] 3)).alloc (.cells #[.slice A css.length cap] 40)=W2:=⟨_,rfl⟩
 have b0:Blk W2 w.heap.size 3 #[.int .i64 p]:=by rw [←hW2];exact (Blk.new w _ _).alloc _
 have b1:Blk W2 (w.heap.size+1) 40 #[.slice A css.length cap]:=by rw [←hW2];exact Blk.second w _ _ _
 have hBW:Below w.heap.size w W2:=by rw [←hW2];exact below_two w _ _
 have hL2:=hL.next hBW
 have HA:=Lib.hid (ans_S_yes 165 #[.pointer (some ⟨w.heap.size,0,none⟩),.pointer (some ⟨w.heap.size+1,0,none⟩)] W2 (fun u W=>Cols W.heap.size W u (encOf p css)) (enter_encode1 _) (fun U hU _=>by
  have hLU:=hL2.next hU
  have hBU:=below_in hBW hU
  have hCU:=hC.below (hBU.mono hB)
  have HQ:=Lib.hid (asked_yes (B:=B) p (.slice A css.length cap) css U hLU (Nat.le_trans hB hBU.size) hCU (by omega) hok)
  have HE:=Lib.hid (fun (V:World) (hV:Below U.heap.size U V)=>encoded_any (B:=B) p (.slice A css.length cap) css hok V (hLU.next hV) (Nat.le_trans hB (Nat.le_trans hBU.size hV.size)) (hCU.below (hV.mono (Nat.le_trans hB hBU.size))))
  have c0:=(b0.below hU b0.lt).one
  have c1:=(b1.below hU b1.lt).one
  clear hC hCU hok hdn b0 b1 hW2 hL hL2 hLU
  generalize css.length=n at *
  go_enter Tryz.func165,Tryz.ntmps165
  go_wp2_with (first
   | (go_at_call 166;refine HQ.out.mono ?_;rintro e w1 ⟨rfl,hB1⟩)
   | (go_at_call 168;refine (HE.out _ hB1).mono ?_;rintro e w2 ⟨u,rfl,hu,hB2⟩))
  go_ret
  exact ⟨_,rfl,hu,below_in hB1 hB2⟩))
 clear hC b0 b1 hL2 hok hdn
 generalize css.length=n at *
 go_enter Tryz.func114,Tryz.ntmps114
 have hmf:∀ (fn:Fn) (first cap:Array Value) (w:World),(Instr.makeFunc fn first cap).run Tryz.prog w = .ok (.func fn first cap) w:=fun _ _ _ _=>rfl
 go_wp2_with (go_at_call 164;refine HA.out.mono ?_;rintro e w1 ⟨u,W,rfl,hu,bE,rfl,hB1⟩)
 go_ret2
 exact ⟨u,rfl,Cols.more (Cols.set_int hu bE _) (by simp),below_in hBW hB1⟩
end Go.Proofs.YtcchjofjpflbhaaGreatDoor.E

namespace Go.Proofs.YtcchjofjpflbhaaGreatDoor.E
open Go.RowKit Go.Shelf Go.Proofs.YtcchjofjpflbhaaGreatDoor.C

def allocs (w:World) (os:List Obj):World:=os.foldl World.alloc w
theorem allocs_below (w:World) (os:List Obj):Below w.heap.size w (allocs w os):=by
 induction os generalizing w with
 | nil=>exact Below.refl _ _
 | cons o os ih=>exact below_in (below_one w o) (ih (w.alloc o))
theorem allocs_blk (w:World) (os:List Obj) (k:Nat) (t:TypeId) (cs:Array Value) (h:os[k]?=some (.cells cs t)):Blk (allocs w os) (w.heap.size+k) t cs:=by
 induction os generalizing w k with
 | nil=>cases h
 | cons o os ih =>
   cases k with
   | zero=>cases h;exact (Blk.new w t cs).below (allocs_below _ os) (by simp)
   | succ k =>
     have h2:=ih (w.alloc o) k h
     rw [World.size_alloc] at h2
     rw [show w.heap.size+(k+1)=w.heap.size+1+k by omega]
     exact h2
end Go.Proofs.YtcchjofjpflbhaaGreatDoor.E

namespace Go.Proofs.YtcchjofjpflbhaaGreatDoor.Pr
open Go.RowKit Go.Shelf Go.Proofs.YtcchjofjpflbhaaGreatDoor.C Go.Proofs.YtcchjofjpflbhaaGreatDoor.E

def gave (x:Int):List PanicEntry:=[{ v:=.iface 34 (.int .i64 x),recovered:=false }]
theorem assert_errnoX (x:Int) (w:World):(Instr.typeAssert (.iface 34 (.int .i64 x)) 20 34 false).run Tryz.prog w = .ok (.int .i64 x) w:=by kernel_rfl

theorem need_yes (y:Int) (w:World):Calls Tryz.prog 98 #[.bool true,.int .i64 y] w fun e w'=>e = .returned (.tuple #[])∧w=w':=by
 go_enter Tryz.func98,Tryz.ntmps98
 go_wp2
 go_end0
 exact ⟨rfl,rfl⟩
theorem sureB (v:Value) (w:World):Calls Tryz.prog 115 #[v,.int .i64 0] w fun e w'=>e = .returned v∧w=w':=by
 have hn:=need_yes 0 w
 go_enter Tryz.func115,Tryz.ntmps115
 go_wp2_with (go_at_call 98;refine (need_yes _ _).mono ?_;rintro e w2 ⟨rfl,rfl⟩)
 go_ret
 exact ⟨rfl,rfl⟩
theorem sureS (v:Value) (w:World):Calls Tryz.prog 113 #[v,.int .i64 0] w fun e w'=>e = .returned v∧w=w':=by
 have hn:=need_yes 0 w
 go_enter Tryz.func113,Tryz.ntmps113
 go_wp2_with (go_at_call 98;refine (need_yes _ _).mono ?_;rintro e w2 ⟨rfl,rfl⟩)
 go_ret
 exact ⟨rfl,rfl⟩
theorem sureI (n:Int) (w:World):Calls Tryz.prog 109 #[.int .i64 n,.int .i64 0] w fun e w'=>e = .returned (.int .i64 n)∧w=w':=by
 go_enter Tryz.func109,Tryz.ntmps109
 go_wp2_with (go_at_call 98;refine (need_yes _ _).mono ?_;rintro e w2 ⟨rfl,rfl⟩)
 go_ret
 exact ⟨rfl,rfl⟩

theorem idle_A (p:Addr) (w:World) :
 CallsD Tryz.prog 105 #[.pointer (some p)] .returning w fun e u' w'=>e = .returned (.tuple #[])∧u' = .returning∧w'=w:=by
 have hta:=assert_errnoX
 refine callsD_of_wpS Tryz.func105 rfl fun c₀ cs hu=>?_
 simp only [Tryz.ntmps105,List.size_toArray,List.length_cons,List.length_nil,Nat.reduceAdd,Nat.reduceSub,Array.replicate_succ,Array.replicate_zero,List.push_toArray,List.append_toArray,List.nil_append,List.cons_append]
 apply wpS_seq
 apply wpS_region
 simp [wpOpsS,go_sem,recoverD,hu,Exit.thenS]
 all_goals (refine wpS_of_wp ?_;go_wp2;cases c₀;simp_all [bodyPostS,results,Tryz.results105])
theorem ans_A_yes (f:Nat) (caps:Array Value) (w:World) (Post:Value→World→Prop) (hent:∀ W,(callFunc f caps).run Tryz.prog W = .ok (.enter f caps) W)
 (h:∀ W,Below w.heap.size w W→Blk W w.heap.size 34 #[.int .i64 0]→Calls Tryz.prog f caps W fun e w'=>∃ v,e = .returned v∧Post v w'∧Below W.heap.size W w') :
 Calls Tryz.prog 56 #[.func (.func f) #[] caps] w fun e w'=>∃ v W,e = .returned (.tuple #[v,.int .i64 0])∧Post v W∧Blk W w.heap.size 34 #[.int .i64 0]∧w'=W.setCell ⟨w.heap.size,0,none⟩ (.int .i64 0)∧Below w.heap.size w w':=by
 have hmf:∀ (fn:Fn) (first cap:Array Value) (w:World),(Instr.makeFunc fn first cap).run Tryz.prog w = .ok (.func fn first cap) w:=fun _ _ _ _=>rfl
 have h1:=h (w.alloc (.cells #[.int .i64 0] 34)) ((Below.refl _ w).alloc (Nat.le_refl _) _) (Blk.new w _ _)
 clear h
 go_enter_defers Tryz.func56,Tryz.ntmps56
 go_wp2
 refine h1.mono ?_
 rintro e w1 ⟨v,rfl,hv,hB1⟩
 have b1:Blk w1 w.heap.size 34 #[.int .i64 0]:=(Blk.new w _ _).below hB1 (by simp)
 have c1:=b1.cell 0
 have f1:=b1.frozen 0
 simp only [List.getElem?_toArray,List.getElem?_cons_zero] at c1
 go_wp2
 refine leaves_cons (f:=105) (args:=#[.pointer (some ⟨w.heap.size,0,none⟩)]) (by simp) (by simp [go_sem]) ?_
 refine (idle_A ⟨w.heap.size,0,none⟩ _).mono ?_
 rintro e u' w'' ⟨rfl,rfl,rfl⟩
 have c2:(w1.setCell ⟨w.heap.size,0,none⟩ (.int .i64 0)).cell? ⟨w.heap.size,0,none⟩=some (.int .i64 0):=World.cell?_setCell_same' _ _ _ (by rw [c1];rfl)
 simp [Go.Leaves,settle,results,Tryz.results56,go_sem,c2]
 exact ⟨w1,hv,b1,rfl,(((Below.refl _ w).alloc (Nat.le_refl _) _).trans (hB1.mono (by simp))).setCell (Nat.le_refl _) _⟩
theorem idle_S (p:Addr) (w:World) :
 CallsD Tryz.prog 108 #[.pointer (some p)] .returning w fun e u' w'=>e = .returned (.tuple #[])∧u' = .returning∧w'=w:=by
 have hta:=assert_errnoX
 refine callsD_of_wpS Tryz.func108 rfl fun c₀ cs hu=>?_
 simp only [Tryz.ntmps108,List.size_toArray,List.length_cons,List.length_nil,Nat.reduceAdd,Nat.reduceSub,Array.replicate_succ,Array.replicate_zero,List.push_toArray,List.append_toArray,List.nil_append,List.cons_append]
 apply wpS_seq
 apply wpS_region
 simp [wpOpsS,go_sem,recoverD,hu,Exit.thenS]
 all_goals (refine wpS_of_wp ?_;go_wp2;cases c₀;simp_all [bodyPostS,results,Tryz.results108])
theorem ans_S_yes (f:Nat) (caps:Array Value) (w:World) (Post:Value→World→Prop) (hent:∀ W,(callFunc f caps).run Tryz.prog W = .ok (.enter f caps) W)
 (h:∀ W,Below w.heap.size w W→Blk W w.heap.size 34 #[.int .i64 0]→Calls Tryz.prog f caps W fun e w'=>∃ v,e = .returned v∧Post v w'∧Below W.heap.size W w') :
 Calls Tryz.prog 59 #[.func (.func f) #[] caps] w fun e w'=>∃ v W,e = .returned (.tuple #[v,.int .i64 0])∧Post v W∧Blk W w.heap.size 34 #[.int .i64 0]∧w'=W.setCell ⟨w.heap.size,0,none⟩ (.int .i64 0)∧Below w.heap.size w w':=by
 have hmf:∀ (fn:Fn) (first cap:Array Value) (w:World),(Instr.makeFunc fn first cap).run Tryz.prog w = .ok (.func fn first cap) w:=fun _ _ _ _=>rfl
 have h1:=h (w.alloc (.cells #[.int .i64 0] 34)) ((Below.refl _ w).alloc (Nat.le_refl _) _) (Blk.new w _ _)
 clear h
 go_enter_defers Tryz.func59,Tryz.ntmps59
 go_wp2
 refine h1.mono ?_
 rintro e w1 ⟨v,rfl,hv,hB1⟩
 have b1:Blk w1 w.heap.size 34 #[.int .i64 0]:=(Blk.new w _ _).below hB1 (by simp)
 have c1:=b1.cell 0
 have f1:=b1.frozen 0
 simp only [List.getElem?_toArray,List.getElem?_cons_zero] at c1
 go_wp2
 refine leaves_cons (f:=108) (args:=#[.pointer (some ⟨w.heap.size,0,none⟩)]) (by simp) (by simp [go_sem]) ?_
 refine (idle_S ⟨w.heap.size,0,none⟩ _).mono ?_
 rintro e u' w'' ⟨rfl,rfl,rfl⟩
 have c2:(w1.setCell ⟨w.heap.size,0,none⟩ (.int .i64 0)).cell? ⟨w.heap.size,0,none⟩=some (.int .i64 0):=World.cell?_setCell_same' _ _ _ (by rw [c1];rfl)
 simp [Go.Leaves,settle,results,Tryz.results59,go_sem,c2]
 exact ⟨w1,hv,b1,rfl,(((Below.refl _ w).alloc (Nat.le_refl _) _).trans (hB1.mono (by simp))).setCell (Nat.le_refl _) _⟩
theorem idle_Q (p:Addr) (w:World) :
 CallsD Tryz.prog 96 #[.pointer (some p)] .returning w fun e u' w'=>e = .returned (.tuple #[])∧u' = .returning∧w'=w:=by
 have hta:=assert_errnoX
 refine callsD_of_wpS Tryz.func96 rfl fun c₀ cs hu=>?_
 simp only [Tryz.ntmps96,List.size_toArray,List.length_cons,List.length_nil,Nat.reduceAdd,Nat.reduceSub,Array.replicate_succ,Array.replicate_zero,List.push_toArray,List.append_toArray,List.nil_append,List.cons_append]
 apply wpS_seq
 apply wpS_region
 simp [wpOpsS,go_sem,recoverD,hu,Exit.thenS]
 all_goals (refine wpS_of_wp ?_;go_wp2;cases c₀;simp_all [bodyPostS,results,Tryz.results96])
theorem ans_Q_yes (f:Nat) (caps:Array Value) (w:World) (Post:Value→World→Prop) (hent:∀ W,(callFunc f caps).run Tryz.prog W = .ok (.enter f caps) W)
 (h:∀ W,Below w.heap.size w W→Blk W w.heap.size 34 #[.int .i64 0]→Calls Tryz.prog f caps W fun e w'=>∃ v,e = .returned v∧Post v w'∧Below W.heap.size W w') :
 Calls Tryz.prog 51 #[.func (.func f) #[] caps] w fun e w'=>∃ v W,e = .returned (.tuple #[v,.int .i64 0])∧Post v W∧Blk W w.heap.size 34 #[.int .i64 0]∧w'=W.setCell ⟨w.heap.size,0,none⟩ (.int .i64 0)∧Below w.heap.size w w':=by
 have hmf:∀ (fn:Fn) (first cap:Array Value) (w:World),(Instr.makeFunc fn first cap).run Tryz.prog w = .ok (.func fn first cap) w:=fun _ _ _ _=>rfl
 have h1:=h (w.alloc (.cells #[.int .i64 0] 34)) ((Below.refl _ w).alloc (Nat.le_refl _) _) (Blk.new w _ _)
 clear h
 go_enter_defers Tryz.func51,Tryz.ntmps51
 go_wp2
 refine h1.mono ?_
 rintro e w1 ⟨v,rfl,hv,hB1⟩
 have b1:Blk w1 w.heap.size 34 #[.int .i64 0]:=(Blk.new w _ _).below hB1 (by simp)
 have c1:=b1.cell 0
 have f1:=b1.frozen 0
 simp only [List.getElem?_toArray,List.getElem?_cons_zero] at c1
 go_wp2
 refine leaves_cons (f:=96) (args:=#[.pointer (some ⟨w.heap.size,0,none⟩)]) (by simp) (by simp [go_sem]) ?_
 refine (idle_Q ⟨w.heap.size,0,none⟩ _).mono ?_
 rintro e u' w'' ⟨rfl,rfl,rfl⟩
 have c2:(w1.setCell ⟨w.heap.size,0,none⟩ (.int .i64 0)).cell? ⟨w.heap.size,0,none⟩=some (.int .i64 0):=World.cell?_setCell_same' _ _ _ (by rw [c1];rfl)
 simp [Go.Leaves,settle,results,Tryz.results51,go_sem,c2]
 exact ⟨w1,hv,b1,rfl,(((Below.refl _ w).alloc (Nat.le_refl _) _).trans (hB1.mono (by simp))).setCell (Nat.le_refl _) _⟩
end Go.Proofs.YtcchjofjpflbhaaGreatDoor.Pr
