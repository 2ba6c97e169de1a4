/- -/
import Derived.Test.YtkllhjhkcipkoaaGreatDoorTHG12
set_option linter.unusedVariables false
set_option linter.unusedSimpArgs false
set_option maxRecDepth 100000
set_option maxHeartbeats 8000000
namespace Go.Proofs.YtkllhjhkcipkoaaGreatDoor.Tr
open Go.RowKit Go.Shelf Go.Maps Go.Proofs.YtkllhjhkcipkoaaGreatDoor.C Go.Proofs.YtkllhjhkcipkoaaGreatDoor.E Go.Proofs.YtkllhjhkcipkoaaGreatDoor.T Go.Proofs.YtkllhjhkcipkoaaGreatDoor.Rg
attribute [local go_sem] Oper.semAt_some

structure ShF (LO AG:Value) (r:Int) (fk:Nat) (cA:Option Addr) (cn cc:Nat) (w0:World) (b:Nat→Bool) (x5 x6 x9 x10 x11 x12 x13 x14 x15:Value) (w:World):Prop where
 hB:Below w0.heap.size w0 w
 f0:b 0=true→x9=AG
 f1:b 1=true→x10 = .int .i64 r
 f2:b 2=true→x11 = .func (.func fk) #[] #[]
 f3:b 3=true→x12=LO
 f4:b 4=true→x13 = .int .i64 r
 f5:b 5=true→x14 = .slice cA cn cc
 f6:b 6=true→∃ c,x15 = .slice (some ⟨c,0,none⟩) 1 1∧w0.heap.size≤c∧Blk w c 41 #[.slice cA cn cc]
 f7:b 7=true→∃ c y,x5 = .pointer (some ⟨c,0,none⟩)∧w0.heap.size≤c∧Blk w c 92 #[y]∧(b 9=true→y=x11)
 f8:b 8=true→∃ c y,x6 = .pointer (some ⟨c,0,none⟩)∧w0.heap.size≤c∧Blk w c 22 #[y]∧(b 10=true→y=x15)
section
variable {LO AG:Value} {r:Int} {fk:Nat} {cA:Option Addr} {cn cc:Nat} {w0:World} {b b':Nat→Bool} {x5 x6 x9 x10 x11 x12 x13 x14 x15:Value} {w w':World}
theorem ShF.below (h:ShF LO AG r fk cA cn cc w0 b x5 x6 x9 x10 x11 x12 x13 x14 x15 w) (hb:Below w.heap.size w w'):ShF LO AG r fk cA cn cc w0 b x5 x6 x9 x10 x11 x12 x13 x14 x15 w' where
 hB:=h.hB.trans (hb.mono h.hB.size)
 f0:=h.f0
 f1:=h.f1
 f2:=h.f2
 f3:=h.f3
 f4:=h.f4
 f5:=h.f5
 f6:=fun e=>by obtain ⟨c,h1,h2,h3⟩:=h.f6 e;exact ⟨c,h1,h2,h3.below hb h3.lt⟩
 f7:=fun e=>by obtain ⟨c,y,h1,h2,h3,h4⟩:=h.f7 e;exact ⟨c,y,h1,h2,h3.below hb h3.lt,h4⟩
 f8:=fun e=>by obtain ⟨c,y,h1,h2,h3,h4⟩:=h.f8 e;exact ⟨c,y,h1,h2,h3.below hb h3.lt,h4⟩
theorem ShF.less (h:ShF LO AG r fk cA cn cc w0 b x5 x6 x9 x10 x11 x12 x13 x14 x15 w) (hb:∀ k,b' k=true→b k=true):ShF LO AG r fk cA cn cc w0 b' x5 x6 x9 x10 x11 x12 x13 x14 x15 w where
 hB:=h.hB
 f0:=fun e=>h.f0 (hb 0 e)
 f1:=fun e=>h.f1 (hb 1 e)
 f2:=fun e=>h.f2 (hb 2 e)
 f3:=fun e=>h.f3 (hb 3 e)
 f4:=fun e=>h.f4 (hb 4 e)
 f5:=fun e=>h.f5 (hb 5 e)
 f6:=fun e=>h.f6 (hb 6 e)
 f7:=fun e=>by obtain ⟨c,y,h1,h2,h3,h4⟩:=h.f7 (hb 7 e);exact ⟨c,y,h1,h2,h3,fun e=>h4 (hb 9 e)⟩
 f8:=fun e=>by obtain ⟨c,y,h1,h2,h3,h4⟩:=h.f8 (hb 8 e);exact ⟨c,y,h1,h2,h3,fun e=>h4 (hb 10 e)⟩
theorem ShF.n0 {y_:Value} (h:ShF LO AG r fk cA cn cc w0 b x5 x6 x9 x10 x11 x12 x13 x14 x15 w) (hf:y_=AG):ShF LO AG r fk cA cn cc w0 (fun k=>if k=0 then true else b k) x5 x6 y_ x10 x11 x12 x13 x14 x15 w where
 hB:=h.hB
 f0:=fun _=>hf
 f1:=h.f1
 f2:=h.f2
 f3:=h.f3
 f4:=h.f4
 f5:=h.f5
 f6:=h.f6
 f7:=h.f7
 f8:=h.f8
theorem ShF.n1 {y_:Value} (h:ShF LO AG r fk cA cn cc w0 b x5 x6 x9 x10 x11 x12 x13 x14 x15 w) (hf:y_ = .int .i64 r):ShF LO AG r fk cA cn cc w0 (fun k=>if k=1 then true else b k) x5 x6 x9 y_ x11 x12 x13 x14 x15 w where
 hB:=h.hB
 f0:=h.f0
 f1:=fun _=>hf
 f2:=h.f2
 f3:=h.f3
 f4:=h.f4
 f5:=h.f5
 f6:=h.f6
 f7:=h.f7
 f8:=h.f8
theorem ShF.n2 {y_:Value} (h:ShF LO AG r fk cA cn cc w0 b x5 x6 x9 x10 x11 x12 x13 x14 x15 w) (hf:y_ = .func (.func fk) #[] #[]) (hn:b 9=false):ShF LO AG r fk cA cn cc w0 (fun k=>if k=2 then true else b k) x5 x6 x9 x10 y_ x12 x13 x14 x15 w where
 hB:=h.hB
 f0:=h.f0
 f1:=h.f1
 f2:=fun _=>hf
 f3:=h.f3
 f4:=h.f4
 f5:=h.f5
 f6:=h.f6
 f7:=fun e=>by obtain ⟨c,y,h1,h2,h3,h4⟩:=h.f7 e;exact ⟨c,y,h1,h2,h3,fun e=>by have e:b 9=true:=e;rw [hn] at e;cases e⟩
 f8:=h.f8
theorem ShF.n3 {y_:Value} (h:ShF LO AG r fk cA cn cc w0 b x5 x6 x9 x10 x11 x12 x13 x14 x15 w) (hf:y_=LO):ShF LO AG r fk cA cn cc w0 (fun k=>if k=3 then true else b k) x5 x6 x9 x10 x11 y_ x13 x14 x15 w where
 hB:=h.hB
 f0:=h.f0
 f1:=h.f1
 f2:=h.f2
 f3:=fun _=>hf
 f4:=h.f4
 f5:=h.f5
 f6:=h.f6
 f7:=h.f7
 f8:=h.f8
theorem ShF.n4 {y_:Value} (h:ShF LO AG r fk cA cn cc w0 b x5 x6 x9 x10 x11 x12 x13 x14 x15 w) (hf:y_ = .int .i64 r):ShF LO AG r fk cA cn cc w0 (fun k=>if k=4 then true else b k) x5 x6 x9 x10 x11 x12 y_ x14 x15 w where
 hB:=h.hB
 f0:=h.f0
 f1:=h.f1
 f2:=h.f2
 f3:=h.f3
 f4:=fun _=>hf
 f5:=h.f5
 f6:=h.f6
 f7:=h.f7
 f8:=h.f8
theorem ShF.n5 {y_:Value} (h:ShF LO AG r fk cA cn cc w0 b x5 x6 x9 x10 x11 x12 x13 x14 x15 w) (hf:y_ = .slice cA cn cc):ShF LO AG r fk cA cn cc w0 (fun k=>if k=5 then true else b k) x5 x6 x9 x10 x11 x12 x13 y_ x15 w where
 hB:=h.hB
 f0:=h.f0
 f1:=h.f1
 f2:=h.f2
 f3:=h.f3
 f4:=h.f4
 f5:=fun _=>hf
 f6:=h.f6
 f7:=h.f7
 f8:=h.f8
theorem ShF.n6 {y_:Value} (h:ShF LO AG r fk cA cn cc w0 b x5 x6 x9 x10 x11 x12 x13 x14 x15 w) (hf:∃ c,y_ = .slice (some ⟨c,0,none⟩) 1 1∧w0.heap.size≤c∧Blk w c 41 #[.slice cA cn cc]) (hn:b 10=false):ShF LO AG r fk cA cn cc w0 (fun k=>if k=6 then true else b k) x5 x6 x9 x10 x11 x12 x13 x14 y_ w where
 hB:=h.hB
 f0:=h.f0
 f1:=h.f1
 f2:=h.f2
 f3:=h.f3
 f4:=h.f4
 f5:=h.f5
 f6:=fun _=>hf
 f7:=h.f7
 f8:=fun e=>by obtain ⟨c,y,h1,h2,h3,h4⟩:=h.f8 e;exact ⟨c,y,h1,h2,h3,fun e=>by have e:b 10=true:=e;rw [hn] at e;cases e⟩
theorem ShF.n7 {y_:Value} (h:ShF LO AG r fk cA cn cc w0 b x5 x6 x9 x10 x11 x12 x13 x14 x15 w) (hf:∃ c y,y_ = .pointer (some ⟨c,0,none⟩)∧w0.heap.size≤c∧Blk w c 92 #[y]) (hn:b 9=false):ShF LO AG r fk cA cn cc w0 (fun k=>if k=7 then true else b k) y_ x6 x9 x10 x11 x12 x13 x14 x15 w where
 hB:=h.hB
 f0:=h.f0
 f1:=h.f1
 f2:=h.f2
 f3:=h.f3
 f4:=h.f4
 f5:=h.f5
 f6:=h.f6
 f7:=fun _=>by obtain ⟨c,y,h1,h2,h3⟩:=hf;exact ⟨c,y,h1,h2,h3,fun e=>by have e:b 9=true:=e;rw [hn] at e;cases e⟩
 f8:=h.f8
theorem ShF.n8 {y_:Value} (h:ShF LO AG r fk cA cn cc w0 b x5 x6 x9 x10 x11 x12 x13 x14 x15 w) (hf:∃ c y,y_ = .pointer (some ⟨c,0,none⟩)∧w0.heap.size≤c∧Blk w c 22 #[y]) (hn:b 10=false):ShF LO AG r fk cA cn cc w0 (fun k=>if k=8 then true else b k) x5 y_ x9 x10 x11 x12 x13 x14 x15 w where
 hB:=h.hB
 f0:=h.f0
 f1:=h.f1
 f2:=h.f2
 f3:=h.f3
 f4:=h.f4
 f5:=h.f5
 f6:=h.f6
 f7:=h.f7
 f8:=fun _=>by obtain ⟨c,y,h1,h2,h3⟩:=hf;exact ⟨c,y,h1,h2,h3,fun e=>by have e:b 10=true:=e;rw [hn] at e;cases e⟩
theorem blk_ne {t t':TypeId} {cs cs':Array Value} {c c':Nat} (h:Blk w c t cs) (h':Blk w c' t' cs') (ht:t≠t'):c≠c':=fun e=>by
 subst e
 unfold Blk at h h'
 rw [h] at h'
 injection h' with h'
 injection h' with _ h'
 exact ht h'
theorem ShF.s9 {c:Nat} {y:Value} (h:ShF LO AG r fk cA cn cc w0 b (.pointer (some ⟨c,0,none⟩)) x6 x9 x10 x11 x12 x13 x14 x15 w) (hc:w0.heap.size≤c) (hb:Blk w c 92 #[y]):ShF LO AG r fk cA cn cc w0 (fun k=>if k=9 then true else b k) (.pointer (some ⟨c,0,none⟩)) x6 x9 x10 x11 x12 x13 x14 x15 (w.setCell ⟨c,0,none⟩ x11) where
 hB:=h.hB.setCell hc _
 f0:=h.f0
 f1:=h.f1
 f2:=h.f2
 f3:=h.f3
 f4:=h.f4
 f5:=h.f5
 f6:=fun e=>by obtain ⟨d,h1,h2,h3⟩:=h.f6 e;exact ⟨d,h1,h2,h3.far (blk_ne h3 hb (by decide)) _⟩
 f7:=fun e=>⟨c,x11,rfl,hc,hb.set_ 0 _,fun _=>rfl⟩
 f8:=fun e=>by obtain ⟨d,y,h1,h2,h3,h4⟩:=h.f8 e;exact ⟨d,y,h1,h2,h3.far (blk_ne h3 hb (by decide)) _,h4⟩
theorem ShF.s10 {c:Nat} {y:Value} (h:ShF LO AG r fk cA cn cc w0 b x5 (.pointer (some ⟨c,0,none⟩)) x9 x10 x11 x12 x13 x14 x15 w) (hc:w0.heap.size≤c) (hb:Blk w c 22 #[y]):ShF LO AG r fk cA cn cc w0 (fun k=>if k=10 then true else b k) x5 (.pointer (some ⟨c,0,none⟩)) x9 x10 x11 x12 x13 x14 x15 (w.setCell ⟨c,0,none⟩ x15) where
 hB:=h.hB.setCell hc _
 f0:=h.f0
 f1:=h.f1
 f2:=h.f2
 f3:=h.f3
 f4:=h.f4
 f5:=h.f5
 f6:=fun e=>by obtain ⟨d,h1,h2,h3⟩:=h.f6 e;exact ⟨d,h1,h2,h3.far (blk_ne h3 hb (by decide)) _⟩
 f7:=fun e=>by obtain ⟨d,y,h1,h2,h3,h4⟩:=h.f7 e;exact ⟨d,y,h1,h2,h3.far (blk_ne h3 hb (by decide)) _,h4⟩
 f8:=fun e=>⟨c,x15,rfl,hc,hb.set_ 0 _,fun _=>rfl⟩
end
def ShI (LO AG:Value) (r:Int) (fk:Nat) (cA:Option Addr) (cn cc:Nat) (w0:World) (g2 g4:Nat) (listed:Array Bool) (a:Act) (w:World):Prop :=
 ∃ x5 x6 x9 x10 x11 x12 x13 x14 x15:Value,a = { tmps:=#[LO,.int .i64 r,.pointer (some ⟨g2,0,none⟩),undef,.pointer (some ⟨g4,0,none⟩),x5,x6,undef,undef,x9,x10,x11,x12,x13,x14,x15,undef,undef,undef,undef,undef,undef,undef,undef,undef,undef,undef,undef,undef],defers:=[] }∧ShF LO AG r fk cA cn cc w0 (fun k=>listed.getD k false) x5 x6 x9 x10 x11 x12 x13 x14 x15 w∧(listed.getD 9 false=true→listed.getD 2 false=true)∧(listed.getD 10 false=true→listed.getD 6 false=true)∧(listed.getD 9 false=true→listed.getD 7 false=true)∧(listed.getD 10 false=true→listed.getD 8 false=true)
theorem listed_less {listed:Array Bool} {i:Nat}:∀ k,(listed.setIfInBounds i true).getD k false=true→(fun k=>if k=i then true else listed.getD k false) k=true:=fun k h=>by
 by_cases e:k=i
 · simp [e]
 · rw [listed_ne (fun h=>e h.symm)] at h
   simp [e,h]
theorem listed_c {listed:Array Bool} {i p q:Nat} (h:listed.getD p false=true→listed.getD q false=true) (hn:listed.getD i false=false) (hp:i=p→listed.getD q false=true) (hpq:p≠q):(listed.setIfInBounds i true).getD p false=true→(listed.setIfInBounds i true).getD q false=true:=fun e=>by
 by_cases e1:i=p
 · subst e1
   rw [listed_ne hpq]
   exact hp rfl
 · rw [listed_ne e1] at e
   by_cases e2:i=q
   · subst e2
     rw [hn] at h
     exact absurd (h e) (by simp)
   · rw [listed_ne e2]
     exact h e
theorem not_yet {ops:Array Oper} {md:Region.Mode} {listed:Array Bool} {i:Nat} (h:i∈Region.ready md ops listed):listed.getD i false=false:=by
 have h1:=(mem_ready.1 h).1
 rcases Nat.lt_or_ge i listed.size with h' | h'
 · simp [h'] at h1 ⊢
   exact h1
 · simp [Array.getElem?_eq_none h'] at h1
theorem column_any {B:Nat} (P:Nat) (hP:P≤100) (r:Int) (hr:2≤r∧r≤4) (b1 off1 N cap:Nat) (hN:N=P+3) (rA:Option Addr) (rn rc:Nat) (lA:Option Addr) (ln lc:Nat) (u:Value) (w:World) (hb:b1<w.heap.size) (hcell:w.cell? ⟨b1,off1+(P+(r - 2).toNat),none⟩=some u) :
 Calls Tryz.prog 69 #[.agg #[.int .i64 (P:Int),.slice (some ⟨b1,off1,none⟩) N cap,.slice rA rn rc,.slice lA ln lc],.int .i64 r] w fun e w'=>e = .returned u∧Below w.heap.size w w':=by
 have hw1:IntKind.i64.wrap (r - 2)=r - 2:=IntWalk.i64_in _ (by omega)
 obtain ⟨m,hm⟩:∃ m:Nat,(r - 2)=(m:Int):=⟨(r - 2).toNat,by omega⟩
 rw [hm] at hw1 hcell
 rw [Int.toNat_natCast] at hcell
 have hm3:m≤2:=by omega
 have hw2:IntKind.i64.wrap ((P:Int)+(m:Int))=((P+m:Nat):Int):=by rw [←Int.natCast_add];exact IntWalk.i64_in _ (by omega)
 obtain ⟨j,hj⟩:∃ j,P+m=j:=⟨_,rfl⟩
 rw [hj] at hcell hw2
 have i1:(0:Int)≤(j:Int):=by omega
 have i2:(j:Int)<(N:Int):=by omega
 have hB0:=below_one w (.cells #[.int .i64 (P:Int),.slice (some ⟨b1,off1,none⟩) N cap,.slice rA rn rc,.slice lA ln lc] 67)
 have hc2:=(hB0.cell (p:=⟨b1,off1+j,none⟩) hb).trans hcell
 have e1:IntKind.i64.wrap (r - 2)=(m:Int):=by rw [hm];exact hw1
 clear hj hm hN hcell hw1
 go_enter Tryz.func69,Tryz.ntmps69
 go_wp2_with fail
 go_ret
 exact ⟨rfl,hB0⟩
end Go.Proofs.YtkllhjhkcipkoaaGreatDoor.Tr

namespace Go.Proofs.YtkllhjhkcipkoaaGreatDoor.Tr
open Go.RowKit Go.Shelf Go.Maps Go.Proofs.YtkllhjhkcipkoaaGreatDoor.C Go.Proofs.YtkllhjhkcipkoaaGreatDoor.E Go.Proofs.YtkllhjhkcipkoaaGreatDoor.T Go.Proofs.YtkllhjhkcipkoaaGreatDoor.Rg
attribute [local go_sem] Oper.semAt_some

theorem opIn_pushC {F:Fence} {nF:Nat} {Q:Nat→Prop} {base:Nat} {v:Value} {T:TypeId} (w:World) {o:Oper} {a:Act} {K:Act→World→Prop} {QQ:Exit→Act→World→Prop} (s x:Operand)
 (ho:o.op = .call { callee:=.builtin .append,args:=#[s,x],argTypes:=#[T,T] }) (hT:Tryz.prog.underlying T=some (.slice 41)) (css:List (List (List UInt8))) (hs:a.eval s=v) (h:RowC Q w base v css)
 (g:Nat) (tg:TypeId) (u:Value) (ls:List (List UInt8)) (hx:a.eval x = .slice (some ⟨g,0,none⟩) 1 1) (hg:Blk w g tg #[u]) (hu:manyR.R (fun b=>b<w.heap.size∧some b≠v.ownBlock∧Q b) w u ls) (hlen:css.length≤100000) (hbase:base≤w.heap.size)
 (hK:∀ v' w',RowC Q w' base v' (css ++ [ls])→w.grownBy w' v.ownBlock→(v'.ownBlock=v.ownBlock∨v'.ownBlock=some w.heap.size)→K (a.put o.dst v') w'):Oper.wpIn F nF Tryz.prog o a w K QQ:=by
 obtain ⟨i,hi,hz0,hz1,hz2⟩:=info_parts Tryz.infoCol
 obtain ⟨v',w',hrun,h1,h2,h3⟩:=RowG.push i hi hz0 hz1 hz2 T o.type hT h g tg u ls hg hu hlen hbase
 unfold Oper.wpIn
 refine ⟨by simp [Oper.about,ho,resolve,Target.leads,Sem.run_pure],?_⟩
 rw [Oper.semAt_plain F _ _ (by rw [ho];intro c hc';cases hc')]
 simp [execOp,ho,resolve,invoke,builtin,hs,hx,hrun,Result.andThen,Oper.uponIn]
 exact hK v' w' h1 h2 h3
theorem fresh_set {base:Nat} {W:World} {v:Value} {ls:List (List UInt8)} (h:FreshMany base W v ls) (hp:∀ j,j<ls.length→0<(ls[j]?.getD []).length):manyR.R (fun b=>(base≤b∧b<W.heap.size)∧∃ cs t fr,W.heap[b]?=some (.cells cs t fr)) W v ls:=by
 obtain ⟨A,cap,e,hc,hA⟩:=h
 refine ⟨A,cap,e,hc,fun hl=>?_⟩
 obtain ⟨b,off,e2,hb1,hb2,hcell⟩:=hA hl
 refine ⟨b,off,e2,⟨⟨hb1,hb2⟩,?_⟩,fun j hj=>?_⟩
 · obtain ⟨u,hu,_⟩:=hcell 0 hl
   exact cells_of hu
 · obtain ⟨u,hu,hF⟩:=hcell j hj
   refine ⟨u,hu,?_⟩
   obtain ⟨A2,cap2,e3,hc2,hA2⟩:=hF
   refine ⟨A2,cap2,e3,hc2,fun hl2=>?_⟩
   obtain ⟨b2,off2,e4,hb3,hb4,hcell2⟩:=hA2 hl2
   exact ⟨b2,off2,e4,⟨⟨hb3,hb4⟩,cells_of (hcell2 0 hl2)⟩,hcell2⟩
theorem good_pos {Q n:Nat} {c:List (List UInt8)} (h:GoodC Q n c) (h1:1≤n):∀ j,j<c.length→0<(c[j]?.getD []).length:=fun j hj=>by
 rw [(h.2 j (by rw [←h.1];exact hj)).2]
 exact h1
def isC (X:World) (b:Nat):Prop:=∃ cs t fr,X.heap[b]?=some (.cells cs t fr)
theorem put_any {P Q n:Nat} (d:Dims P Q n) (k:Int) (hk:k=0∨k=1∨k = -1) (j:Nat) (hj:j<P) (B0 B1 g2 g5 g6 b1 off1 N cap:Nat) (rA:Option Addr) (rn rc:Nat) (L:List Int) (gl lo2 lc:Nat) (hjN:j<N) (hB01:B0≤B1) (c:List (List UInt8)) (hc:GoodC Q n c)
 (q:Nat→Prop) (vA:Option Addr) (vn vc:Nat) (xs:List (List (List UInt8))) (hxs:xs.length≤1000) (X:World) (hL:Laid X) (hBX:B1≤X.heap.size) (b6:Blk X g6 22 #[.slice vA vn vc]) (b2:Blk X g2 67 #[.int .i64 (P:Int),.slice (some ⟨b1,off1,none⟩) N cap,.slice rA rn rc,.slice (some ⟨gl,lo2,none⟩) L.length lc]) (b5:Blk X g5 92 #[.func (.func (fnK k)) #[] #[]])
 (hrow:RowC (fun b=>b<B0∨q b) X B1 (Value.slice vA vn vc) xs) (hq:∀ b,q b→b<X.heap.size) (hn6:(Value.slice vA vn vc).ownBlock≠some g6) (hq6:¬ q g6) (h06:B0≤g6) (hn2:(Value.slice vA vn vc).ownBlock≠some g2) (hn5:(Value.slice vA vn vc).ownBlock≠some g5) (hnb:(Value.slice vA vn vc).ownBlock≠some b1)
 (hb1:b1<X.heap.size) (kA:Option Addr) (kn kc:Nat) (cX:X.cell? ⟨b1,off1+j,none⟩=some (.slice kA kn kc)) (hM:Many X.heap.size X (.slice kA kn kc) c) :
 Calls Tryz.prog 70 #[.int .i64 (j:Int),.pointer (some ⟨g6,0,none⟩),.pointer (some ⟨g2,0,none⟩),.pointer (some ⟨g5,0,none⟩)] X fun e W'=>e = .returned (.tuple #[])∧∃ (v':Value) (q':Nat→Prop),Blk W' g6 22 #[v']∧RowC (fun b=>b<B0∨q' b) W' B1 v' (xs ++ [turnC P Q n c (k * (j:Int))]) ∧
  (∀ b,q' b→q b∨(X.heap.size≤b∧b<W'.heap.size∧isC W' b))∧(∀ b,q b→q' b)∧(v'.ownBlock=(Value.slice vA vn vc).ownBlock∨∃ r,v'.ownBlock=some r∧X.heap.size≤r)∧(∀ b,q' b→q b∨v'.ownBlock≠some b)∧Only (fun b=>b=g6∨(Value.slice vA vn vc).ownBlock=some b) X W'∧Below B0 X W':=by
 have hpb:=prm_bounds d.hp
 have hy:-100≤k * (j:Int)∧k * (j:Int)≤100:=by rcases hk with rfl | rfl | rfl <;> omega
 have HBY:=Lib.hid (fun V=>by_any k hk (j:Int) (by omega) (by omega) V)
 have hent:=enter_by k
 have gt:=turn_good (P:=P) d.h1 d.h64 hc (k * (j:Int))
 have HTU:=Lib.hid (fun (V:World) (hV:Below X.heap.size X V)=>turned_any d (k * (j:Int)) (by omega) (by omega) c hc (.slice kA kn kc) V (hL.next hV) ((hM.below hV).more hV.size))
 have hpos:=good_pos gt d.h1
 generalize turnC P Q n c (k * (j:Int))=R at *
 generalize k * (j:Int)=y at *
 generalize fnK k=fk at *
 have HSS:Hid (∀ V,Below X.heap.size X V→(fun U:World=>U.cell? ⟨g6,0,none⟩=some (.slice vA vn vc)∧U.cell? ⟨g2,0,none⟩=some (.int .i64 (P:Int))∧U.cell? ⟨g2,1,none⟩=some (.slice (some ⟨b1,off1,none⟩) N cap)∧U.cell? ⟨g5,0,none⟩=some (.func (.func fk) #[] #[])∧U.cell? ⟨b1,off1+j,none⟩=some (.slice kA kn kc)) V):=fun V hV=>⟨(b6.below hV b6.lt).one,(b2.below hV b2.lt).cell 0,(b2.below hV b2.lt).cell 1,(b5.below hV b5.lt).one,(hV.cell (p:=⟨b1,off1+j,none⟩) hb1).trans cX⟩
 have HSG:Hid (∀ wa wb:World,Below X.heap.size X wa→wa.grownBy wb (Value.slice vA vn vc).ownBlock→(fun U:World=>U.cell? ⟨g6,0,none⟩=some (.slice vA vn vc)∧U.cell? ⟨g2,0,none⟩=some (.int .i64 (P:Int))∧U.cell? ⟨g2,1,none⟩=some (.slice (some ⟨b1,off1,none⟩) N cap)∧U.cell? ⟨g5,0,none⟩=some (.func (.func fk) #[] #[])∧U.cell? ⟨b1,off1+j,none⟩=some (.slice kA kn kc)) wb∧Blk wb g6 22 #[.slice vA vn vc]):=fun wa wb hXa hgr=>by
  have c6:=(b6.below hXa b6.lt).grown hgr (Ne.symm hn6)
  have c2:=(b2.below hXa b2.lt).grown hgr (Ne.symm hn2)
  have c5:=(b5.below hXa b5.lt).grown hgr (Ne.symm hn5)
  exact ⟨⟨c6.one,c2.cell 0,c2.cell 1,c5.one,(World.cell?_of_block (hgr.block b1 (Nat.lt_of_lt_of_le hb1 hXa.size) (fun e=>hnb e.symm))).trans ((hXa.cell (p:=⟨b1,off1+j,none⟩) hb1).trans cX)⟩,c6⟩
 have HSZ:=Lib.hid hBX
 have HLEN:Hid (xs.length≤100000):=by unfold Hid;omega
 have HRW:Hid (∀ wa wt:World,Below X.heap.size X wt→Below wt.heap.size wt wa→RowC (fun b=>b<B0∨(q b∨(X.heap.size≤b∧b<wt.heap.size∧isC wt b))) wa B1 (Value.slice vA vn vc) xs∧∀ At ct,FreshMany X.heap.size wt (.slice At Q ct) R→manyR.R (fun b=>b<wa.heap.size∧some b≠(Value.slice vA vn vc).ownBlock∧(b<B0∨(q b∨(X.heap.size≤b∧b<wt.heap.size∧isC wt b)))) wa (.slice At Q ct) R):=fun wa wt hXt hBa=>by
  have hXa:=below_in hXt hBa
  refine ⟨T.RowG.impR (RowG.below hrow hXa) fun b hb=>hb.imp id .inl,fun At ct hMt=>?_⟩
  have h:=fresh_set hMt hpos
  refine manyR.imp (manyR.keep h fun b hb=>hBa.block b hb.1.2) fun b hb=>⟨Nat.lt_of_lt_of_le hb.1.2 hBa.size,fun e=>?_,.inr (.inr ⟨hb.1.1,hb.1.2,hb.2⟩)⟩
  obtain ⟨cs,t,fr,hcs⟩:=T.RowG.ownCells hrow e.symm
  have:=(Array.getElem?_eq_some_iff.1 hcs).1
  have:=hb.1.1
  omega
 have HFIN:Hid (∀ (wt wa wb:World) (v':Value) (At:Option Addr) (ct:Nat),Below X.heap.size X wt→Below wt.heap.size wt wa→RowC (fun b=>b<B0∨(q b∨(X.heap.size≤b∧b<wt.heap.size∧isC wt b))) wb B1 v' (xs ++ [R])→wa.grownBy wb (Value.slice vA vn vc).ownBlock→(v'.ownBlock=(Value.slice vA vn vc).ownBlock∨v'.ownBlock=some wa.heap.size)→Blk wb g6 22 #[.slice vA vn vc] →
  (∃ (v2:Value) (q':Nat→Prop),Blk (wb.setCell ⟨g6,0,none⟩ v') g6 22 #[v2]∧RowC (fun b=>b<B0∨q' b) (wb.setCell ⟨g6,0,none⟩ v') B1 v2 (xs ++ [R])∧(∀ b,q' b→q b∨(X.heap.size≤b∧b<(wb.setCell ⟨g6,0,none⟩ v').heap.size∧isC (wb.setCell ⟨g6,0,none⟩ v') b))∧(∀ b,q b→q' b)∧(v2.ownBlock=(Value.slice vA vn vc).ownBlock∨∃ r,v2.ownBlock=some r∧X.heap.size≤r)∧(∀ b,q' b→q b∨v2.ownBlock≠some b)∧Only (fun b=>b=g6∨(Value.slice vA vn vc).ownBlock=some b) X (wb.setCell ⟨g6,0,none⟩ v')∧Below B0 X (wb.setCell ⟨g6,0,none⟩ v'))):=fun wt wa wb v' At ct hXt hBa hrow2 hgr hor bg=>by
  have hXa:=below_in hXt hBa
  have hg6:=b6.lt
  have hzt:=hXt.size
  have hza:=hBa.size
  have hownX:∀ r,(Value.slice vA vn vc).ownBlock=some r→r<X.heap.size:=fun r e=>by
   obtain ⟨cs,t,fr,hcs⟩:=T.RowG.ownCells hrow e
   exact (Array.getElem?_eq_some_iff.1 hcs).1
  have hov:∀ r,v'.ownBlock=some r→((Value.slice vA vn vc).ownBlock=some r∨r=wa.heap.size):=fun r e=>hor.elim (fun h=>.inl (h▸e)) (fun h=>.inr (by rw [h] at e;injection e with e;exact e.symm))
  refine ⟨v',fun b=>q b∨(X.heap.size≤b∧b<wt.heap.size∧isC wt b),bg.set_ 0 _,T.RowG.farR hrow2 (fun e=>?_) (fun b hb e=>?_) _,fun b hb=>hb.imp id fun h=>⟨h.1,?_,?_⟩,fun b hb=>.inl hb,hor.imp id fun h=>⟨_,h,by omega⟩,fun b hb=>hb.imp id fun h e=>?_,?_,((hXa.mono (show B0≤X.heap.size by omega)).grown hgr (by omega) (fun r e=>Nat.le_trans hB01 (RowG.own_le hrow r e))).setCell (by show B0≤g6;omega) _⟩
  · exact (hov _ e.symm).elim hn6 (fun h=>by have h2:g6=wa.heap.size:=h;omega)
  · have e:b=g6:=e
    subst e
    rcases hb with hb | hb | hb
    · omega
    · exact hq6 hb
    · omega
  · have:=h.2.1;have:=hgr.size;simp only [World.size_setCell];omega
  · obtain ⟨cs,t,fr,hcs⟩:=h.2.2
    have hlt:b<wa.heap.size:=by have:=h.2.1;omega
    refine ⟨cs,t,fr,(Below.heap_setCell wb _ _ b (fun e=>by have e:b=g6:=e;have:=h.1;omega)).trans ((hgr.block b hlt (fun e=>by have:=hownX b e.symm;have:=h.1;omega)).trans ((hBa.block b h.2.1).trans hcs))⟩
  · rcases hov _ e with h2 | h2
    · have:=hownX b h2;have:=h.1;omega
    · have:=h.2.1;omega
  · have h1:Only (fun b=>b=g6∨(Value.slice vA vn vc).ownBlock=some b) X wa:=Only.below hXa
    have h2:Only (fun b=>b=g6∨(Value.slice vA vn vc).ownBlock=some b) wa wb:=⟨hgr.size,fun b hb hn=>hgr.block b hb (fun e=>hn (.inr e.symm))⟩
    exact (h1.trans h2).trans (Only.set (.inl rfl) _)
 have i1:(0:Int)≤(j:Int):=by omega
 have i2:(j:Int)<(N:Int):=by omega
 have hBx:=Below.refl X.heap.size X
 clear hpb hy gt hpos hL hM hrow hq hq6 h06 hn6 hn2 hn5 hnb d hk hj hc hxs hBX b2 b5 cX hb1 hB01 hjN b6
 refine (callsIn_wide (n:=9)).1 ?_
 refine callsIn_of_wp_marks Tryz.func70 rfl trivial ?_ rfl
 simp only [Tryz.ntmps70,List.size_toArray,List.length_cons,List.length_nil,Nat.reduceAdd,Nat.reduceSub,Array.replicate_succ,Array.replicate_zero,List.push_toArray,List.append_toArray,List.nil_append,List.cons_append]
 gi_wp2_with fail
 have hd:Below X.heap.size X X.drew:=(Below.refl _ _).drew
 replace hBx:=below_in hBx hd
 clear hd
 have hS:(fun U:World=>U.cell? ⟨g6,0,none⟩=some (.slice vA vn vc)∧U.cell? ⟨g2,0,none⟩=some (.int .i64 (P:Int))∧U.cell? ⟨g2,1,none⟩=some (.slice (some ⟨b1,off1,none⟩) N cap)∧U.cell? ⟨g5,0,none⟩=some (.func (.func fk) #[] #[])∧U.cell? ⟨b1,off1+j,none⟩=some (.slice kA kn kc)) X.drew:=HSS.out _ hBx
 refine wpIn_mono (region_HG (Q:=NoPanic _) (S:=(fun U:World=>U.cell? ⟨g6,0,none⟩=some (.slice vA vn vc)∧U.cell? ⟨g2,0,none⟩=some (.int .i64 (P:Int))∧U.cell? ⟨g2,1,none⟩=some (.slice (some ⟨b1,off1,none⟩) N cap)∧U.cell? ⟨g5,0,none⟩=some (.func (.func fk) #[] #[])∧U.cell? ⟨b1,off1+j,none⟩=some (.slice kA kn kc))) (m:=14) (by kernel_rfl) ?_) NoPanic.imp
 refine anyHG_take (i:=0) (d:=5) (v:=.slice vA vn vc) (by kernel_rfl) rfl (by kernel_rfl) (by kernel_rfl) (by kernel_rfl) rfl (by kernel_rfl) (fun _ _ _ h=>h) ⟨Or.inl ⟨by rfl,fun w hS=>by obtain ⟨h0,h1,h2,h3,h4⟩:=hS;go_simp⟩,fun _=>rfl⟩ hS ?_
 simp only [ud9]
 refine anyHG_take (i:=1) (d:=6) (v:=.pointer (some ⟨g2,0,none⟩)) (by kernel_rfl) rfl (by kernel_rfl) (by kernel_rfl) (by kernel_rfl) rfl (by kernel_rfl) (fun _ _ _ h=>h) ⟨Or.inl ⟨by rfl,fun w hS=>by obtain ⟨h0,h1,h2,h3,h4⟩:=hS;go_simp⟩,fun _=>rfl⟩ hS ?_
 simp only [ud9]
 refine anyHG_take (i:=2) (d:=7) (v:=.int .i64 (P:Int)) (by kernel_rfl) rfl (by kernel_rfl) (by kernel_rfl) (by kernel_rfl) rfl (by kernel_rfl) (fun _ _ _ h=>h) ⟨Or.inl ⟨by rfl,fun w hS=>by obtain ⟨h0,h1,h2,h3,h4⟩:=hS;go_simp⟩,fun _=>rfl⟩ hS ?_
 simp only [ud9]
 refine anyHG_take (i:=3) (d:=8) (v:=.pointer (some ⟨g2,1,none⟩)) (by kernel_rfl) rfl (by kernel_rfl) (by kernel_rfl) (by kernel_rfl) rfl (by kernel_rfl) (fun _ _ _ h=>h) ⟨Or.inl ⟨by rfl,fun w hS=>by obtain ⟨h0,h1,h2,h3,h4⟩:=hS;go_simp⟩,fun _=>rfl⟩ hS ?_
 simp only [ud9]
 refine anyHG_take (i:=4) (d:=9) (v:=.slice (some ⟨b1,off1,none⟩) N cap) (by kernel_rfl) rfl (by kernel_rfl) (by kernel_rfl) (by kernel_rfl) rfl (by kernel_rfl) (fun _ _ _ h=>h) ⟨Or.inl ⟨by rfl,fun w hS=>by obtain ⟨h0,h1,h2,h3,h4⟩:=hS;go_simp⟩,fun _=>rfl⟩ hS ?_
 simp only [ud9]
 refine anyHG_take (i:=5) (d:=10) (v:=.int .i64 (j:Int)) (by kernel_rfl) rfl (by kernel_rfl) (by kernel_rfl) (by kernel_rfl) rfl (by kernel_rfl) (fun _ _ _ h=>h) ⟨Or.inl ⟨by rfl,fun w hS=>by obtain ⟨h0,h1,h2,h3,h4⟩:=hS;go_simp⟩,fun _=>rfl⟩ hS ?_
 simp only [ud9]
 refine anyHG_take (i:=6) (d:=11) (v:=.pointer (some ⟨b1,off1+j,none⟩)) (by kernel_rfl) rfl (by kernel_rfl) (by kernel_rfl) (by kernel_rfl) rfl (by kernel_rfl) (fun _ _ _ h=>h) ⟨Or.inl ⟨by rfl,fun w hS=>by obtain ⟨h0,h1,h2,h3,h4⟩:=hS;go_simp⟩,fun _=>rfl⟩ hS ?_
 simp only [ud9]
 refine anyHG_take (i:=7) (d:=12) (v:=.slice kA kn kc) (by kernel_rfl) rfl (by kernel_rfl) (by kernel_rfl) (by kernel_rfl) rfl (by kernel_rfl) (fun _ _ _ h=>h) ⟨Or.inl ⟨by rfl,fun w hS=>by obtain ⟨h0,h1,h2,h3,h4⟩:=hS;go_simp⟩,fun _=>rfl⟩ hS ?_
 simp only [ud9]
 refine anyHG_take (i:=8) (d:=13) (v:=.func (.func fk) #[] #[]) (by kernel_rfl) rfl (by kernel_rfl) (by kernel_rfl) (by kernel_rfl) rfl (by kernel_rfl) (fun _ _ _ h=>h) ⟨Or.inl ⟨by rfl,fun w hS=>by obtain ⟨h0,h1,h2,h3,h4⟩:=hS;go_simp⟩,fun _=>rfl⟩ hS ?_
 simp only [ud9]
 refine anyHG_take (i:=9) (d:=14) (v:=.int .i64 (j:Int)) (by kernel_rfl) rfl (by kernel_rfl) (by kernel_rfl) (by kernel_rfl) rfl (by kernel_rfl) (fun _ _ _ h=>h) ⟨Or.inl ⟨by rfl,fun w hS=>by obtain ⟨h0,h1,h2,h3,h4⟩:=hS;go_simp⟩,fun _=>rfl⟩ hS ?_
 simp only [ud9]
 refine anyHG_one (i:=10) (by kernel_rfl) rfl (by kernel_rfl) (by rfl) ?_
 gi_wp2_with fail
 refine ⟨trivial,(callsIn_wide.2 (HBY.out _)).mono ?_⟩
 rintro e v1 ⟨rfl,rfl⟩
 gi_wp2
 try (refine ⟨.inr hS,?_⟩)
 refine anyHG_one (i:=11) (by kernel_rfl) rfl (by kernel_rfl) (by rfl) ?_
 gi_wp2_with fail
 refine ⟨trivial,(callsIn_wide.2 (HTU.out _ hBx)).mono ?_⟩
 rintro e wt ⟨At,ct,rfl,hMt,hB⟩
 have hXt:=below_in hBx hB
 clear hS
 have hS:(fun U:World=>U.cell? ⟨g6,0,none⟩=some (.slice vA vn vc)∧U.cell? ⟨g2,0,none⟩=some (.int .i64 (P:Int))∧U.cell? ⟨g2,1,none⟩=some (.slice (some ⟨b1,off1,none⟩) N cap)∧U.cell? ⟨g5,0,none⟩=some (.func (.func fk) #[] #[])∧U.cell? ⟨b1,off1+j,none⟩=some (.slice kA kn kc)) wt:=HSS.out _ hXt
 have hzt:=hBx.size
 replace hMt:=hMt.less hzt
 clear hB hzt
 gi_wp2
 try (refine ⟨.inr hS,?_⟩)
 refine anyHG_one (i:=12) (by kernel_rfl) rfl (by kernel_rfl) (by rfl) ?_
 have hBa:Below wt.heap.size wt (wt.alloc (.cells #[.slice At Q ct] 41)):=below_one wt _
 have bE:Blk (wt.alloc (.cells #[.slice At Q ct] 41)) wt.heap.size 41 #[.slice At Q ct]:=Blk.new wt _ _
 obtain ⟨wa,hwa⟩:∃ wa,(wt.alloc (.cells #[.slice At Q ct] 41))=wa:=⟨_,rfl⟩
 rw [hwa] at hBa bE
 clear hS
 have hXa:=below_in hXt hBa
 have hS:(fun U:World=>U.cell? ⟨g6,0,none⟩=some (.slice vA vn vc)∧U.cell? ⟨g2,0,none⟩=some (.int .i64 (P:Int))∧U.cell? ⟨g2,1,none⟩=some (.slice (some ⟨b1,off1,none⟩) N cap)∧U.cell? ⟨g5,0,none⟩=some (.func (.func fk) #[] #[])∧U.cell? ⟨b1,off1+j,none⟩=some (.slice kA kn kc)) wa:=HSS.out _ hXa
 gi_wp2
 (try rw [hwa])
 try (refine ⟨.inr hS,?_⟩)
 clear hwa
 refine anyHG_one (i:=13) (by kernel_rfl) rfl (by kernel_rfl) (by rfl) ?_
 have hra:=HRW.out wa wt hXt hBa
 refine opIn_pushC (T:=22) (v:=.slice vA vn vc) wa _ _ rfl Tryz.underlying22 _ rfl hra.1 wt.heap.size _ _ _ rfl bE (hra.2 At ct hMt) HLEN.out (Nat.le_trans HSZ.out hXa.size) ?_
 intro v' wb hrow hgr hor
 obtain ⟨vA2,vn2,vc2,rfl⟩:=T.RowG.formR hrow
 clear hS
 have hSb:=HSG.out wa wb hXa hgr
 have hS:(fun U:World=>U.cell? ⟨g6,0,none⟩=some (.slice vA vn vc)∧U.cell? ⟨g2,0,none⟩=some (.int .i64 (P:Int))∧U.cell? ⟨g2,1,none⟩=some (.slice (some ⟨b1,off1,none⟩) N cap)∧U.cell? ⟨g5,0,none⟩=some (.func (.func fk) #[] #[])∧U.cell? ⟨b1,off1+j,none⟩=some (.slice kA kn kc)) wb:=hSb.1
 gi_wp2_with fail
 try (refine ⟨.inr hS,?_⟩)
 refine anyHG_one (i:=14) (by kernel_rfl) rfl (by kernel_rfl) (by rfl) ?_
 obtain ⟨h0,h1,h2,h3,h4⟩:=hS
 have f0:=hSb.2.frozen 0
 gi_wp2
 try (refine ⟨.inl rfl,?_⟩)
 refine anyHG_done (by kernel_rfl) ?_ _
 refine NoPanic.normal ?_
 exact ⟨_,results_none rfl _ _ _,rfl,HFIN.out wt wa wb _ At ct hXt hBa hrow hgr hor hSb.2⟩
end Go.Proofs.YtkllhjhkcipkoaaGreatDoor.Tr
