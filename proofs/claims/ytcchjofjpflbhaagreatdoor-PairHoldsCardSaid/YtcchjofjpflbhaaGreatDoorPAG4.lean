/- -/
import Derived.BigFrame
import Derived.Deep.Matrix
import Derived.ShutString
import Derived.ChangeOld
import Derived.Laws.CopyOwn
import Derived.Laws.Tables
import Derived.Deep.WholeRow
import Derived.Test.YtcchjofjpflbhaaGreatDoorPAG3
set_option linter.unusedVariables false
set_option linter.unusedSimpArgs false
set_option maxRecDepth 100000
set_option maxHeartbeats 1000000
namespace Go.Proofs.YtcchjofjpflbhaaGreatDoor.E
open Go.RowKit Go.Shelf Go.Proofs.YtcchjofjpflbhaaGreatDoor.C
attribute [local go_sem] Oper.semAt_some

theorem OwnS.vals {base:Nat} {W:World} {v:Value} {us:List Value} (h:OwnS W base v us):Vals W.heap.size W v us:=by
 rcases Nat.eq_zero_or_pos us.length with h0 | h0
 · rcases h.2 with ⟨rfl,_⟩ | ⟨g,cap,cur,rfl,_,hg,hn,_⟩
   · exact .inl ⟨rfl,List.eq_nil_of_length_eq_zero h0⟩
   · refine .inr ⟨g,0,cap,rfl,hn,(Array.getElem?_eq_some_iff.1 hg).1,fun j u hu=>?_⟩
     rw [List.eq_nil_of_length_eq_zero h0] at hu
     cases hu
 · obtain ⟨g,cap,rfl,hg,hg1⟩:=World.ownsRow.form h h0
   have hcp:us.length≤cap:=by
    rcases h.2 with ⟨e,_⟩ | ⟨g2,cap2,cur,e2,_,_,hnc,_⟩
    · cases e
    · injection e2 with _ _ e3
      omega
   refine .inr ⟨g,0,cap,rfl,hcp,hg1,fun j u hu=>?_⟩
   have hj:j<us.length:=(List.getElem?_eq_some_iff.1 hu).1
   rw [Nat.zero_add,World.ownsRow.cellAt h j (by omega)]
   exact hu
theorem xorOk_of {n:Nat} {ls:List (List UInt8)} (h0:0<ls.length) (h1:1≤n∧n≤64) (h:∀ l∈ls,l.length=n):XorOk ls:=by
 have hj:∀ j,j<ls.length→(ls[j]?.getD []).length=n:=fun j hj=>by
  rw [List.getElem?_eq_getElem hj]
  exact h _ (List.getElem_mem hj)
 refine ⟨h0,?_,fun j hjl=>?_⟩
 · unfold Cell
   rw [hj 0 h0]
   exact h1
 · rw [hj 0 h0]
   exact hj j hjl
def cellOf_ (css:List (List (List UInt8))) (c r:Nat):List UInt8:=(css[c]?.getD [])[r]?.getD []
theorem togOk_cell {R:Nat} {css:List (List (List UInt8))} (h:TogOk R css) {c r:Nat} (hc:c<css.length) (hr:r<R):(cellOf_ css c r).length=(firstC css).length:=by
 obtain ⟨h1,h2,h3⟩:=h.2 c hc
 exact h3 r (by omega)
theorem togOk_first {R:Nat} {css:List (List (List UInt8))} (h:TogOk R css):1≤(firstC css).length∧(firstC css).length≤64:=(h.2 0 h.1).2.1
theorem diagOf_ok {p a:Int} {css:List (List (List UInt8))} (h:DataOk p css) (h0:0≤a) (h1:a<p):∀ l∈diagOf p a css,l.length=(firstC css).length:=by
 obtain ⟨hR,hl,ht⟩:=h
 intro l hl2
 unfold diagOf at hl2
 obtain ⟨x,hx,rfl⟩:=List.mem_map.1 hl2
 unfold diagAt at hx
 obtain ⟨i,hi,rfl⟩:=List.mem_map.1 hx
 obtain ⟨hi1,hi2⟩:=List.mem_filter.1 hi
 rw [List.mem_range] at hi1
 have hi3:=of_decide_eq_true hi2
 have hpp:=prm_bounds hR.2
 refine togOk_cell ht (by omega) ?_
 have:0≤(a - (i:Int)) % p:=Int.emod_nonneg _ (by omega)
 show ((a - (i:Int)) % p).toNat<(p - 1).toNat
 omega
theorem diagOf_len {p a:Int} {css:List (List (List UInt8))}:(diagOf p a css).length≤p.toNat:=by
 unfold diagOf
 rw [List.length_map]
 exact diagAt_len p a _
theorem diagAt_pos0:∀ p∈prm,∀ a∈List.range p.toNat,0<(diagAt p (a:Int) p.toNat).length:=by decide +kernel
theorem diagOf_pos {p a:Int} {css:List (List (List UInt8))} (hp:p∈prm) (h0:0≤a) (h1:a<p):0<(diagOf p a css).length:=by
 have h:=diagAt_pos0 p hp a.toNat (List.mem_range.2 (by omega))
 rw [show ((a.toNat:Nat):Int)=a by omega] at h
 unfold diagOf
 rw [List.length_map]
 exact h
theorem diagonal_seq {B:Nat} (g h:Nat) (p a:Int) (v:Value) (f:Nat→Nat→Value) (hR:RightC 1 p) (a0:0≤a) (a1:a<p) (w:World) (hB:B≤w.heap.size) (hL:Laid w) (hG:GridV B w v p.toNat (p - 1).toNat f)
 (bg:Blk w g 208 #[.int .i64 p,v]) (bh:Blk w h 3 #[.int .i64 a]) (n:Nat) (hn:4≤n) :
 SeqQ Fence.wide n Tryz.prog 268 #[.pointer (some ⟨g,0,none⟩),.pointer (some ⟨h,0,none⟩)] (fun x:Value=>#[x]) (fun x _=>∃ c r:Nat,((c:Int)<p∧(r:Int)<p - 1)∧x=f c r) (Keep 0 w.heap.size)
  (fun ys=>ys=diagW p f 0 (walkN p a (-1))) (fun pre=>pre <+: diagW p f 0 (walkN p a (-1))) p.toNat w:=by
 intro l J Jx W o₀ hBW ho₀ hJ hJx hr1 hr2 hY h0
 exact diagonal1_in n hn l g h B w.heap.size p a v f hR a0 a1 W hB bg.lt bh.lt hBW.size (hL.next hBW) J Jx o₀ ho₀ hJ hJx hr1 hr2 (fun pre c r o W1 hj hcr hlen hsz=>hY pre (f c r) o W1 hj ⟨c,r,hcr,rfl⟩ hlen hsz) (hG.below (hBW.mono hB)) (bg.below hBW bg.lt) (bh.below hBW bh.lt) h0
theorem enter_diag1:∀ args W,(callFunc 268 args).run Tryz.prog W = .ok (.enter 268 args) W:=enters_of Tryz.func268 (by kernel_rfl) rfl
theorem diagonal_any (p a:Int) (v:Value) (w:World) (A:Option Addr) (m c:Nat) (hv:v = .slice A m c) :
 Calls Tryz.prog 232 #[.agg #[.int .i64 p,v],.int .i64 a] w fun e w'=>e = .returned (.func (.func 268) #[] #[.pointer (some ⟨w.heap.size,0,none⟩),.pointer (some ⟨w.heap.size+1,0,none⟩)])∧Blk w' w.heap.size 208 #[.int .i64 p,v]∧Blk w' (w.heap.size+1) 3 #[.int .i64 a]∧Below w.heap.size w w':=by
 subst hv
 have hmf:∀ (fn:Fn) (first cap:Array Value) (w:World),(Instr.makeFunc fn first cap).run Tryz.prog w = .ok (.func fn first cap) w:=fun _ _ _ _=>rfl
 have b0:Blk ((w.alloc (.cells #[.int .i64 p,.slice A m c] 208)).alloc (.cells #[.int .i64 a] 3)) w.heap.size 208 #[.int .i64 p,.slice A m c]:=(Blk.new w _ _).alloc _
 have b1:=Blk.second w (.cells #[.int .i64 p,.slice A m c] 208) 3 #[.int .i64 a]
 have hB:=below_two w (.cells #[.int .i64 p,.slice A m c] 208) (.cells #[.int .i64 a] 3)
 go_enter Tryz.func232,Tryz.ntmps232
 go_wp2
 go_ret
 exact ⟨rfl,b0,b1,hB⟩
theorem collect_any (us:List Value) (N:Nat) (hN:N≤1000) (gf:Nat) (lb:Array Value) (w0 W:World) (hB0:Below w0.heap.size w0 W) (eg:∀ args w,(callFunc gf args).run Tryz.prog w = .ok (.enter gf args) w)
 (Ok:Value→World→Prop) (hOk:∀ x X,Ok x X→∃ A n c,x = .slice A n c) (hseq:∀ n,4≤n→SeqQ Fence.wide n Tryz.prog gf lb (fun x:Value=>#[x]) Ok (Keep 0 w0.heap.size) (fun ys=>ys=us) (fun pre=>pre <+: us) N w0) :
 Calls Tryz.prog 231 #[.func (.func gf) #[] lb] W fun e w'=>∃ u,e = .returned u∧OwnS w' W.heap.size u us∧Below W.heap.size W w':=by
 have HA:=Lib.hid (appendSeq_any us N hN gf lb w0 W hB0 eg Ok hOk hseq)
 clear hseq hOk eg
 go_enter Tryz.func231,Tryz.ntmps231
 go_wp2_with (go_at_call 267;refine HA.out.mono ?_;rintro e w1 ⟨u,rfl,ho,hB1⟩)
 go_ret
 exact ⟨_,rfl,ho,hB1⟩
theorem collectDiag_any {B:Nat} (g h:Nat) (p a:Int) (v:Value) (css:List (List (List UInt8))) (hok:DataOk p css) (a0:0≤a) (a1:a<p) (w W:World) (hB:B≤w.heap.size) (hL:Laid w) (hC:Cols B w v css)
 (bg:Blk w g 208 #[.int .i64 p,v]) (bh:Blk w h 3 #[.int .i64 a]) (hB0:Below w.heap.size w W) :
 Calls Tryz.prog 231 #[.func (.func 268) #[] #[.pointer (some ⟨g,0,none⟩),.pointer (some ⟨h,0,none⟩)]] W fun e w'=>∃ u us,e = .returned u∧ManyV w'.heap.size w' u us (diagOf p a css)∧Below W.heap.size W w':=by
 obtain ⟨hR,hl,ht⟩:=hok
 have hpp:=prm_bounds hR.2
 have hl2:css.length=p.toNat:=by omega
 obtain ⟨f,hG,hf⟩:=hC.grid ht.1 (R:=(p - 1).toNat) (by omega) (fun j hj=>(ht.2 j hj).1)
 rw [hl2] at hG hf
 have hone:∀ c r:Nat,(c:Int)<p→(r:Int)<p - 1→∃ A n c2,f c r = .slice A n c2:=fun c r h1 h2=>by
  obtain ⟨A,cap,e,_⟩:=hf c r (by omega) (by omega)
  exact ⟨_,_,_,e⟩
 have hseq:=diagonal_seq g h p a v f hR a0 a1 w hB hL hG bg bh
 rw [diagW_walk hR.2 a0 a1] at hseq
 refine (collect_any (diagV p a f p.toNat) p.toNat (by omega) _ _ w W hB0 enter_diag1 _ (fun x X ⟨c,r,hcr,e⟩=>by rw [e];exact hone c r hcr.1 hcr.2) hseq).mono ?_
 rintro e w' ⟨u,rfl,ho,hB1⟩
 have hs0:=hB0.size
 have hs1:=hB1.size
 refine ⟨u,_,rfl,⟨?_,ho.vals,fun j x hx=>?_⟩,hB1⟩
 · unfold diagV diagOf
   rw [List.length_map,List.length_map]
 · unfold diagV at hx
   rw [List.getElem?_map] at hx
   obtain ⟨y,hy,rfl⟩:=Option.map_eq_some_iff.1 hx
   have hcell:(diagOf p a css)[j]?.getD []=(css[y.1]?.getD [])[y.2]?.getD []:=by
    unfold diagOf
    rw [List.getElem?_map,hy]
    rfl
   rw [hcell]
   have hy2:=List.mem_of_getElem? hy
   unfold diagAt at hy2
   obtain ⟨i,hi,rfl⟩:=List.mem_map.1 hy2
   obtain ⟨hi1,hi2⟩:=List.mem_filter.1 hi
   rw [List.mem_range] at hi1
   have hi3:=of_decide_eq_true hi2
   have h00:0≤(a - (i:Int)) % p:=Int.emod_nonneg _ (by omega)
   exact ((hf i ((a - (i:Int)) % p).toNat hi1 (by omega)).below ((below_in hB0 hB1).mono hB)).more (by omega)
end Go.Proofs.YtcchjofjpflbhaaGreatDoor.E

namespace Go.Proofs.YtcchjofjpflbhaaGreatDoor.E
open Go.RowKit Go.Shelf Go.Proofs.YtcchjofjpflbhaaGreatDoor.C

def xa (l:List UInt8):UInt8:=l.foldl (· ^^^ ·) 0
theorem xa_from:∀ (l:List UInt8) (z:UInt8),l.foldl (· ^^^ ·) z=z ^^^ xa l
 | [],z=>by simp [xa]
 | a :: l,z=>by
   unfold xa
   rw [List.foldl_cons,xa_from l,List.foldl_cons,xa_from l (0 ^^^ a)]
   simp [UInt8.xor_assoc]
theorem xa_nil:xa []=0:=rfl
theorem xa_cons (a:UInt8) (l:List UInt8):xa (a :: l)=a ^^^ xa l:=by
 show (a :: l).foldl (· ^^^ ·) 0 = _
 rw [List.foldl_cons,xa_from,UInt8.zero_xor]
theorem xa_append (a b:List UInt8):xa (a ++ b)=xa a ^^^ xa b:=by
 induction a with
 | nil=>simp [xa_nil]
 | cons x a ih=>rw [List.cons_append,xa_cons,xa_cons,ih,UInt8.xor_assoc]
theorem at_out (l:List UInt8) (j:Nat) (h:l.length≤j):at_ l j=0:=by
 unfold at_
 rw [List.getElem?_eq_none h]
 rfl
theorem ext_at {a b:List UInt8} (hl:a.length=b.length) (h:∀ j,at_ a j=at_ b j):a=b:=by
 rw [tab_of a,tab_of b,hl]
 exact tab_ext fun j _=>h j
theorem at_xorB (a b:List UInt8) (j:Nat) (h:b.length=a.length):at_ (xorB a b) j=at_ a j ^^^ at_ b j:=by
 rcases Nat.lt_or_ge j a.length with hj | hj
 · exact xorB_at a b j hj
 · rw [at_out _ _ (by rw [xorB_len];exact hj),at_out a j hj,at_out b j (by omega),UInt8.xor_self]
theorem at_xors (j:Nat):∀ (ls:List (List UInt8)) (z:List UInt8),(∀ l∈ls,l.length=z.length)→at_ (xors z ls) j=at_ z j ^^^ xa (ls.map (at_ · j))
 | [],z,_=>by simp [xors,xa_nil]
 | l :: ls,z,h=>by
   show at_ (xors (xorB z l) ls) j = _
   rw [at_xors j ls (xorB z l) (fun m hm=>by rw [xorB_len];exact h m (.tail _ hm)),at_xorB z l j (h l (.head _)),List.map_cons,xa_cons,UInt8.xor_assoc]
theorem at_zeros (n j:Nat):at_ (List.replicate n 0) j=0:=by
 unfold at_
 rw [List.getElem?_replicate]
 split <;> rfl
theorem at_upon {n:Nat} {ls:List (List UInt8)} (h:∀ l∈ls,l.length=n) (j:Nat):at_ (xors (List.replicate n 0) ls) j=xa (ls.map (at_ · j)):=by
 rw [at_xors j ls _ (fun l hl=>by rw [List.length_replicate];exact h l hl),at_zeros,UInt8.zero_xor]
theorem first_len {n:Nat} {ls:List (List UInt8)} (h0:0<ls.length) (h:∀ l∈ls,l.length=n):(ls[0]?.getD []).length=n:=by
 rw [List.getElem?_eq_getElem h0]
 exact h _ (List.getElem_mem h0)
theorem at_xorOf {n:Nat} {ls:List (List UInt8)} (h0:0<ls.length) (h:∀ l∈ls,l.length=n) (j:Nat):at_ (xorOf ls) j=xa (ls.map (at_ · j)):=by
 unfold xorOf
 rw [first_len h0 h]
 exact at_upon h j
theorem xorOf_len_of {n:Nat} {ls:List (List UInt8)} (h0:0<ls.length) (h:∀ l∈ls,l.length=n):(xorOf ls).length=n:=by
 rw [xorOf_len,first_len h0 h]

def by_ (css:List (List (List UInt8))) (j c r:Nat):UInt8:=at_ (cellOf_ css c r) j
def dg_ (p:Int) (css:List (List (List UInt8))) (j:Nat) (k:Int):UInt8:=xa ((diagAt p k p.toNat).map fun x=>by_ css j x.1 x.2)
def adjOf (p:Int) (css:List (List (List UInt8))):List UInt8:=xorOf (diagOf p (p - 1) css)
def rowsMade (R:Nat) (css:List (List (List UInt8))):List (List UInt8):=(List.range R).map fun r=>xorOf (rowOf css r)
def diagsMade (p:Int) (R:Nat) (css:List (List (List UInt8))):List (List UInt8):=(List.range R).map fun (r:Nat)=>xorOf ([adjOf p css] ++ diagOf p r css)
def encOf (p:Int) (css:List (List (List UInt8))):List (List (List UInt8)):=[rowsMade (p - 1).toNat css,diagsMade p (p - 1).toNat css]
section
variable {p:Int} {css:List (List (List UInt8))}
theorem dataOk_n (h:DataOk p css):css.length=p.toNat∧3≤p.toNat∧p.toNat≤17∧(p.toNat:Int)=p∧(p - 1).toNat=p.toNat - 1:=by
 have hpp:=prm_bounds h.1.2
 have:=h.2.1
 omega
theorem rowOf_ok (h:DataOk p css) {r:Nat} (hr:r<(p - 1).toNat):∀ l∈rowOf css r,l.length=(firstC css).length:=by
 intro l hl
 unfold rowOf at hl
 obtain ⟨cs,hcs,rfl⟩:=List.mem_map.1 hl
 obtain ⟨c,hc,rfl⟩:=List.getElem_of_mem hcs
 have:=togOk_cell h.2.2 hc hr
 unfold cellOf_ at this
 rwa [List.getElem?_eq_getElem hc] at this
theorem rowOf_pos (h:DataOk p css) (r:Nat):0<(rowOf css r).length:=by
 rw [rowOf_len]
 exact h.2.2.1
theorem at_row (h:DataOk p css) {r:Nat} (hr:r<(p - 1).toNat) (j:Nat):at_ (xorOf (rowOf css r)) j=xa ((List.range p.toNat).map fun c=>by_ css j c r):=by
 rw [at_xorOf (rowOf_pos h r) (rowOf_ok h hr)]
 have e:(rowOf css r).map (at_ · j)=(List.range p.toNat).map fun c=>by_ css j c r:=by
  apply List.ext_getElem
  · rw [List.length_map,rowOf_len,List.length_map,List.length_range,(dataOk_n h).1]
  · intro c h1 h2
    rw [List.length_map,rowOf_len] at h1
    rw [List.getElem_map,List.getElem_map,List.getElem_range]
    unfold by_ cellOf_ rowOf
    rw [List.getElem_map,List.getElem?_eq_getElem h1]
    rfl
 rw [e]
theorem map_diag (j:Nat) (k:Int):(diagOf p k css).map (at_ · j)=(diagAt p k p.toNat).map fun x=>by_ css j x.1 x.2:=by
 unfold diagOf
 rw [List.map_map]
 rfl
theorem at_diag (h:DataOk p css) {k:Int} (h0:0≤k) (h1:k<p) (j:Nat):at_ (xorOf (diagOf p k css)) j=dg_ p css j k:=by
 rw [at_xorOf (diagOf_pos h.1.2 h0 h1) (diagOf_ok h h0 h1),map_diag]
 rfl
theorem adjOf_len (h:DataOk p css):(adjOf p css).length=(firstC css).length:=by
 have:=dataOk_n h
 exact xorOf_len_of (diagOf_pos h.1.2 (by omega) (by omega)) (diagOf_ok h (by omega) (by omega))
theorem adjDiag_ok (h:DataOk p css) {r:Nat} (hr:(r:Int)<p):∀ l∈[adjOf p css] ++ diagOf p r css,l.length=(firstC css).length:=by
 intro l hl
 rcases List.mem_append.1 hl with hl | hl
 · rw [List.mem_singleton.1 hl]
   exact adjOf_len h
 · exact diagOf_ok h (by omega) hr l hl
theorem at_diagMade (h:DataOk p css) {r:Nat} (hr:(r:Int)<p) (j:Nat):at_ (xorOf ([adjOf p css] ++ diagOf p r css)) j=dg_ p css j (p - 1) ^^^ dg_ p css j r:=by
 have:=dataOk_n h
 rw [at_xorOf (by simp) (adjDiag_ok h hr),List.map_append,List.map_singleton,xa_append,xa_cons,xa_nil,UInt8.xor_zero,map_diag]
 unfold adjOf
 rw [at_diag h (by omega) (by omega)]
 rfl
theorem rowsMade_at (h:DataOk p css) {r:Nat} (hr:r<(p - 1).toNat):(rowsMade (p - 1).toNat css)[r]?.getD []=xorOf (rowOf css r):=by
 unfold rowsMade
 rw [List.getElem?_map,List.getElem?_range hr]
 rfl
theorem diagsMade_at (h:DataOk p css) {r:Nat} (hr:r<(p - 1).toNat):(diagsMade p (p - 1).toNat css)[r]?.getD []=xorOf ([adjOf p css] ++ diagOf p r css):=by
 unfold diagsMade
 rw [List.getElem?_map,List.getElem?_range hr]
 rfl
theorem rowsMade_len (R:Nat):(rowsMade R css).length=R:=by unfold rowsMade;simp
theorem diagsMade_len (R:Nat):(diagsMade p R css).length=R:=by unfold diagsMade;simp
theorem row_len (h:DataOk p css) {r:Nat} (hr:r<(p - 1).toNat):(xorOf (rowOf css r)).length=(firstC css).length:=xorOf_len_of (rowOf_pos h r) (rowOf_ok h hr)
theorem diag_len (h:DataOk p css) {r:Nat} (hr:(r:Int)<p):(xorOf ([adjOf p css] ++ diagOf p r css)).length=(firstC css).length:=xorOf_len_of (by simp) (adjDiag_ok h hr)
end
end Go.Proofs.YtcchjofjpflbhaaGreatDoor.E

namespace Go.Proofs.YtcchjofjpflbhaaGreatDoor.E
open Go.RowKit Go.Shelf Go.Proofs.YtcchjofjpflbhaaGreatDoor.C

theorem sameCol_any {B B':Nat} (v1 v2:Value) (ls os:List (List UInt8)) (w:World) (h1:Many B w v1 ls) (h2:Many B' w v2 os) (hls:ls.length≤100000) (hos:os.length≤100000) :
 Calls Tryz.prog 30 #[v1,v2] w fun e w'=>e = .returned (.bool (decide (ls=os)))∧Below w.heap.size w w':=by
 have H:=Lib.hid (rsame_any v1 v2 ls os w h1 h2 (by omega) (by omega))
 obtain ⟨A1,cap1,rfl,_,_⟩:=id h1
 obtain ⟨A2,cap2,rfl,_,_⟩:=id h2
 generalize decide (ls=os)=d at *
 go_enter Tryz.func30,Tryz.ntmps30
 go_wp2_with (go_at_call 74;refine H.out.mono ?_;rintro e w2 ⟨rfl,hB2⟩)
 go_ret
 exact ⟨rfl,hB2⟩
theorem same3_iff (ls os:List (List (List UInt8))):ls=os↔ls.length=os.length∧∀ j,j<ls.length→(ls[j]?.getD [])=(os[j]?.getD []):=by
 constructor
 · rintro rfl
   exact ⟨rfl,fun _ _=>rfl⟩
 · rintro ⟨h1,h2⟩
   apply List.ext_getElem h1
   intro j hj hj2
   have:=h2 j hj
   rwa [List.getElem?_eq_getElem hj,List.getElem?_eq_getElem hj2] at this
theorem same6_any {B B':Nat} (v1 v2:Value) (ls os:List (List (List UInt8))) (w:World) (h1:Cols B w v1 ls) (h2:Cols B' w v2 os) (hB1:B≤w.heap.size) (hB2:B'≤w.heap.size) (hls:∀ j:Nat,(ls[j]?.getD []).length≤1000) (hos:∀ j:Nat,(os[j]?.getD []).length≤1000) (hl1:ls.length≤1000) (hl2:os.length≤1000) :
 Calls Tryz.prog 27 #[v1,v2] w fun e w'=>e = .returned (.bool (decide (ls=os)))∧Below w.heap.size w w':=by
 obtain ⟨A1,cap1,rfl,_,_⟩:=id h1
 obtain ⟨A2,cap2,rfl,_,_⟩:=id h2
 have hb:=same3_iff ls os
 have HLS:=Lib.hid hls
 have HOS:=Lib.hid hos
 clear hls hos
 by_cases hl:ls.length=os.length
 · have e0:((ls.length:Int) != (os.length:Int))=false:=by rw [hl];simp
   have HL:=Lib.hid hl
   have HB:=Lib.hid hb
   clear hb hl
   go_enter Tryz.func27,Tryz.ntmps27
   go_wp2
   go_loopw [5] (fun i wr=>∃ k:Nat,k≤ls.length∧i = .int .i64 k∧Hid (∀ j,j<k→(ls[j]?.getD [])=(os[j]?.getD []))∧Below w.heap.size w wr) (fun i _=>ls.length - (intOf i).toNat)
   case atStart=>exact ⟨0,Nat.zero_le _,rfl,(Lib.hid fun j hj=>absurd hj (by omega)),Below.refl _ _⟩
   case round =>
    obtain ⟨k,hk,rfl,HA,hBr⟩:=hrel
    by_cases hlt:k<ls.length
    · have hdec:decide ((k:Int)<(ls.length:Int))=true:=by simp;omega
      obtain ⟨b1,off1,cq1,e1,_,hb1,hrow1⟩:=(h1.below (hBr.mono hB1)).at_ (by omega)
      injection e1 with e1 _ e1c
      subst e1
      subst e1c
      obtain ⟨u1,hc1,hm1⟩:=hrow1 k hlt
      obtain ⟨b2,off2,cq2,e2,_,hb2,hrow2⟩:=(h2.below (hBr.mono hB2)).at_ (by have:=HL.out;omega)
      injection e2 with e2 _ e2c
      subst e2
      subst e2c
      obtain ⟨u2,hc2,hm2⟩:=hrow2 k (by have:=HL.out;omega)
      have i2:(k:Int)<(os.length:Int):=by have:=HL.out;omega
      have HS:=Lib.hid (fun (V:World) (hV:Below wr.heap.size wr V)=>sameCol_any u1 u2 _ _ V (hm1.below (hV.mono (Nat.le_trans hB1 hBr.size))) (hm2.below (hV.mono (Nat.le_trans hB2 hBr.size))) (by have:=HLS.out k;omega) (by have:=HOS.out k;omega))
      have HN:=Lib.hid (fun (h:¬ (ls[k]?.getD [])=(os[k]?.getD []))=>(fun h2=>h ((HB.out.1 h2).2 k hlt):¬ ls=os))
      have HT:=Lib.hid (fun (h:(ls[k]?.getD [])=(os[k]?.getD []))=>all_next (P:=fun j=>(ls[j]?.getD [])=(os[j]?.getD [])) HA.out h)
      obtain ⟨A3,cap3,rfl,_,_⟩:=id hm1
      obtain ⟨A4,cap4,rfl,_,_⟩:=id hm2
      clear hrow1 hrow2 hm1 hm2
      generalize ls[k]?.getD []=x at *
      generalize os[k]?.getD []=y at *
      by_cases hxy:x=y
      · rw [decide_eq_true hxy] at HS
        have HT2:=Lib.hid (HT.out hxy)
        clear hxy HT HN
        go_wp2
        go_region_held3 (fun U=>U.cell? ⟨b1,off1+k,none⟩=some (.slice A3 x.length cap3)∧U.cell? ⟨b2,off2+k,none⟩=some (.slice A4 y.length cap4)) (first | exact ⟨hc1,hc2⟩ | exact ⟨(hBy.cell (p:=⟨b1,off1+k,none⟩) (Nat.lt_of_lt_of_le hb1 (Nat.le_trans hB1 hBr.size))).trans hc1,(hBy.cell (p:=⟨b2,off2+k,none⟩) (Nat.lt_of_lt_of_le hb2 (Nat.le_trans hB2 hBr.size))).trans hc2⟩) (first | (go_at_call 30;refine (HS.out _ ?_).mono ?_;first | exact Below.refl _ _ | exact (Below.refl _ _).drew;rintro e w2 ⟨rfl,hBx⟩;have hBy:Below wr.heap.size wr w2:=(by first | exact hBx | exact Below.undrew hBx)))
        all_goals go_wp2
        all_goals go_roundw
        case rel=>exact ⟨k+1,by omega,by go_num,HT2,below_in hBr hBy⟩
        case measure=>simp [intOf];omega
      · rw [decide_eq_false hxy] at HS
        have HF:=Lib.hid (decide_eq_false (HN.out hxy))
        clear hxy HT HN
        go_wp2
        go_region_held3 (fun U=>U.cell? ⟨b1,off1+k,none⟩=some (.slice A3 x.length cap3)∧U.cell? ⟨b2,off2+k,none⟩=some (.slice A4 y.length cap4)) (first | exact ⟨hc1,hc2⟩ | exact ⟨(hBy.cell (p:=⟨b1,off1+k,none⟩) (Nat.lt_of_lt_of_le hb1 (Nat.le_trans hB1 hBr.size))).trans hc1,(hBy.cell (p:=⟨b2,off2+k,none⟩) (Nat.lt_of_lt_of_le hb2 (Nat.le_trans hB2 hBr.size))).trans hc2⟩) (first | (go_at_call 30;refine (HS.out _ ?_).mono ?_;first | exact Below.refl _ _ | exact (Below.refl _ _).drew;rintro e w2 ⟨rfl,hBx⟩;have hBy:Below wr.heap.size wr w2:=(by first | exact hBx | exact Below.undrew hBx)))
        all_goals go_wp2
        all_goals go_ret
        all_goals exact ⟨ret_bool HF.out.symm,below_in hBr hBy⟩
    · obtain rfl:k=ls.length:=by omega
      have e1:decide ((ls.length:Int)<(ls.length:Int))=false:=by simp
      go_wp2
      go_ret
      exact ⟨ret_bool (decide_eq_true (HB.out.2 ⟨HL.out,HA.out⟩)).symm,hBr⟩
 · have e0:((ls.length:Int) != (os.length:Int))=true:=by rw [bne_iff_ne];omega
   have hbf:¬ ls=os:=fun h=>hl (hb.1 h).1
   rw [decide_eq_false hbf]
   go_enter Tryz.func27,Tryz.ntmps27
   go_wp2
   go_ret
   exact ⟨rfl,Below.refl _ _⟩
end Go.Proofs.YtcchjofjpflbhaaGreatDoor.E

namespace Go.Proofs.YtcchjofjpflbhaaGreatDoor.E
open Go.RowKit Go.Shelf Go.Proofs.YtcchjofjpflbhaaGreatDoor.C

structure Rep (α:Type) where
 R:(Nat→Prop)→World→Value→α→Prop
 imp:∀ {P Q:Nat→Prop} {W:World} {v:Value} {x:α},R P W v x→(∀ b,P b→Q b)→R Q W v x
 keep:∀ {P:Nat→Prop} {W W':World} {v:Value} {x:α},R P W v x→Keeps P W W'→R P W' v x
 one:∀ {P:Nat→Prop} {W:World} {v:Value} {x:α},R P W v x→v.oneCell'=true
def bytesR:Rep (List UInt8) where
 R:=BytesP
 imp:=BytesP.imp
 keep:=BytesP.keep
 one:=fun ⟨_,_,e,_⟩=>by rw [e];rfl
def SliceP {α:Type} (r:Rep α) (d:α) (P:Nat→Prop) (W:World) (v:Value) (xs:List α):Prop :=
 ∃ A cap,v = .slice A xs.length cap∧xs.length≤cap∧(0<xs.length→∃ b off,A=some ⟨b,off,none⟩∧P b∧∀ j,j<xs.length→∃ u,W.cell? ⟨b,off+j,none⟩=some u∧r.R P W u (xs[j]?.getD d))
section
variable {α:Type} {r:Rep α} {d:α} {P Q:Nat→Prop} {W W':World} {v:Value} {xs:List α}
theorem SliceP.imp (h:SliceP r d P W v xs) (hq:∀ b,P b→Q b):SliceP r d Q W v xs:=by
 obtain ⟨A,cap,e,hc,hA⟩:=h
 refine ⟨A,cap,e,hc,fun hp=>?_⟩
 obtain ⟨b,off,e2,hb,hcell⟩:=hA hp
 exact ⟨b,off,e2,hq b hb,fun j hj=>by obtain ⟨u,h1,h2⟩:=hcell j hj;exact ⟨u,h1,r.imp h2 hq⟩⟩
theorem SliceP.keep (h:SliceP r d P W v xs) (hk:Keeps P W W'):SliceP r d P W' v xs:=by
 obtain ⟨A,cap,e,hc,hA⟩:=h
 refine ⟨A,cap,e,hc,fun hp=>?_⟩
 obtain ⟨b,off,e2,hb,hcell⟩:=hA hp
 exact ⟨b,off,e2,hb,fun j hj=>by obtain ⟨u,h1,h2⟩:=hcell j hj;exact ⟨u,(World.cell?_of_block (hk b hb)).trans h1,r.keep h2 hk⟩⟩
end
def sliceR {α:Type} (r:Rep α) (d:α):Rep (List α) where
 R:=SliceP r d
 imp:=SliceP.imp
 keep:=SliceP.keep
 one:=fun ⟨_,_,e,_⟩=>by rw [e];rfl
def manyR:Rep (List (List UInt8)):=sliceR bytesR []
def colsR:Rep (List (List (List UInt8))):=sliceR manyR []
theorem Rep.below {α:Type} (r:Rep α) {P:Nat→Prop} {B:Nat} {W W':World} {v:Value} {x:α} (h:r.R P W v x) (hP:∀ b,P b→b<B) (hb:Below B W W'):r.R P W' v x:=r.keep h fun b hp=>hb.block b (hP b hp)

def RowG {α:Type} (r:Rep α) (t:TypeId) (d:α) (Q:Nat→Prop) (W:World) (base:Nat) (v:Value) (xs:List α):Prop :=
 ∃ us:List Value,W.ownsRow base t 1 v us.length us∧us.length=xs.length∧∀ (j:Nat) (u:Value),us[j]?=some u→r.R (fun b=>b<W.heap.size∧some b≠v.ownBlock∧Q b) W u (xs[j]?.getD d)
section
variable {α:Type} {r:Rep α} {t:TypeId} {d:α} {Q:Nat→Prop} {W W':World} {base:Nat} {v:Value} {xs:List α}
theorem RowG.nil (r:Rep α) (t:TypeId) (d:α) (Q:Nat→Prop) (W:World) (base:Nat):RowG r t d Q W base (.slice none 0 0) [] :=
 ⟨[],World.ownsRow_nil W base t 1,rfl,fun j u h=>by cases h⟩
theorem RowG.own_le (h:RowG r t d Q W base v xs) (k:Nat) (e:v.ownBlock=some k):base≤k:=by
 obtain ⟨us,ho,_⟩:=h
 exact (World.ownsRow.lt ho k e).1
theorem RowG.kept (h:RowG r t d Q W base v xs) {row:Option Nat} (hg:W.grownBy W' row) (hne:v.ownBlock=none∨v.ownBlock≠row) (hQ:∀ b,Q b→some b≠row):RowG r t d Q W' base v xs:=by
 obtain ⟨us,ho,hn,hr⟩:=h
 refine ⟨us,World.ownsRow.kept ho hg hne,hn,fun j u hu=>?_⟩
 exact r.imp (r.keep (hr j u hu) fun b hb=>hg.block b hb.1 (hQ b hb.2.2)) fun b hb=>⟨Nat.lt_of_lt_of_le hb.1 hg.size,hb.2⟩
theorem RowG.below (h:RowG r t d Q W base v xs) (hb:Below W.heap.size W W'):RowG r t d Q W' base v xs :=
 h.kept (row:=none) (grown_below hb) (by cases v.ownBlock <;> simp) (fun b _=>by simp)
theorem RowG.push (i:TypeInfo) (hi:Tryz.prog.info? t=some i) (hz:i.zero=some (.slice none 0 0)) (h1:i.size=1) (h24:i.bytes=24) (T ty:TypeId) (hT:Tryz.prog.underlying T=some (.slice t))
 (h:RowG r t d Q W base v xs) (g:Nat) (tg:TypeId) (u:Value) (x:α) (hg:Blk W g tg #[u]) (hu:r.R (fun b=>b<W.heap.size∧some b≠v.ownBlock∧Q b) W u x) (hlen:xs.length≤100000) (hbase:base≤W.heap.size) :
 ∃ v' w',(Builtin.append_ #[T,T] ty #[v,.slice (some ⟨g,0,none⟩) 1 1]).run Tryz.prog W = .ok v' w'∧RowG r t d Q w' base v' (xs ++ [x])∧W.grownBy w' v.ownBlock∧(v'.ownBlock=v.ownBlock∨v'.ownBlock=some W.heap.size):=by
 obtain ⟨us,ho,hn,hr⟩:=h
 obtain ⟨v',w',hrun,o1,o2,_,o3⟩:=run_append_own_at (P:=Tryz.prog) W base T ty t i (.slice none 0 0) 1 24 hT hi hz h1 h24 rfl (by omega) v us.length us ho ⟨g,0,none⟩ 1 1 [u] rfl
  (by intro j y hy
      rw [addr_add,Nat.zero_add,hg.cell j,List.getElem?_toArray]
      exact hy) (by intro y hy;rw [List.mem_singleton.1 hy];exact r.one hu) (by unfold maxLen;omega) (by omega) hbase
 have hk:∀ {y:Value} {z:α},r.R (fun b=>b<W.heap.size∧some b≠v.ownBlock∧Q b) W y z→r.R (fun b=>b<w'.heap.size∧some b≠v'.ownBlock∧Q b) w' y z:=fun {y z} hy =>
  r.imp (r.keep hy fun b hb=>o2.block b hb.1 hb.2.1) fun b hb=>⟨Nat.lt_of_lt_of_le hb.1 o2.size,by
   rcases o3 with e | e
   · rw [e];exact hb.2.1
   · rw [e];intro e2;injection e2 with e2;have:=hb.1;omega,hb.2.2⟩
 refine ⟨v',w',hrun,⟨us ++ [u],by rw [List.length_append];exact o1,by rw [List.length_append,List.length_append,hn];rfl,fun j y hy=>?_⟩,o2,o3⟩
 rcases Nat.lt_or_ge j us.length with hj | hj
 · rw [List.getElem?_append_left hj] at hy
   rw [List.getElem?_append_left (by omega)]
   exact hk (hr j y hy)
 · rw [List.getElem?_append_right hj] at hy
   rw [List.getElem?_append_right (by omega),←hn]
   have hj0:j - us.length=0:=by
    rcases Nat.eq_zero_or_pos (j - us.length) with h0 | h0
    · exact h0
    · rw [List.getElem?_eq_none (by simp;omega)] at hy;cases hy
   rw [hj0] at hy ⊢
   cases hy
   exact hk hu
theorem RowG.slice (h:RowG r t d Q W base v xs) {S:Nat→Prop} (hS:∀ b,b<W.heap.size→(Q b∨base≤b)→S b):SliceP r d S W v xs:=by
 obtain ⟨us,ho,hn,hr⟩:=h
 rcases Nat.eq_zero_or_pos us.length with h0 | h0
 · rcases ho.2 with ⟨rfl,_⟩ | ⟨g,cap,cur,rfl,_,hg,hnc,_⟩
   · exact ⟨none,0,by rw [←hn,h0],by omega,fun hp=>by omega⟩
   · exact ⟨some ⟨g,0,none⟩,cap,by rw [←hn],by omega,fun hp=>by omega⟩
 · have hcp:∀ g cap,v = .slice (some ⟨g,0,none⟩) us.length cap→us.length≤cap:=fun g cap e=>by
    rcases ho.2 with ⟨_,h1⟩ | ⟨g2,cap2,cur,e2,_,_,hnc,_⟩
    · omega
    · rw [e] at e2
      injection e2 with _ _ e3
      omega
   obtain ⟨g,cap,e,hg,hg1⟩:=World.ownsRow.form ho h0
   have hcap:=hcp g cap e
   subst e
   refine ⟨_,cap,by rw [←hn],by rw [←hn];exact hcap,fun _=>⟨g,0,rfl,hS g (by omega) (.inr hg),fun j hj=>?_⟩⟩
   have hj2:j<us.length:=by omega
   refine ⟨us[j],?_,r.imp (hr j us[j] (List.getElem?_eq_getElem hj2)) fun b hb=>hS b hb.1 (.inl hb.2.2)⟩
   rw [Nat.zero_add,World.ownsRow.cellAt ho j (by omega),List.getElem?_eq_getElem hj2]
end
theorem Tryz.infoCol:(Tryz.prog.info? 50).map (fun i=>(i.zero,i.size,i.bytes))=some (some (.slice none 0 0),1,24):=by kernel_rfl
def RowM:=RowG bytesR 64 []
def RowC:=RowG manyR 50 []
section
variable {Q:Nat→Prop} {W W':World} {base:Nat} {v:Value}
theorem RowM.many {ls:List (List UInt8)} (h:RowM Q W base v ls) {S:Nat→Prop} (hS:∀ b,b<W.heap.size→(Q b∨base≤b)→S b):manyR.R S W v ls:=RowG.slice h hS
theorem RowC.cols {css:List (List (List UInt8))} (h:RowC Q W base v css):Cols W.heap.size W v css:=RowG.slice h fun b hb _=>hb
theorem wpList_pushC {T:TypeId} (w:World) {ops:Array Oper} {rest:List Oper} {o:Oper} {a:Act} {QQ:Exit→Act→World→Prop} (hgd:o.guard=none) (s x:Operand)
 (ho:o.op = .call { callee:=.builtin .append,args:=#[s,x],argTypes:=#[T,T] }) (hT:Tryz.prog.underlying T=some (.slice 50)) (css:List (List (List UInt8))) (hs:a.eval s=v) (h:RowC Q w base v css)
 (g:Nat) (tg:TypeId) (u:Value) (ls:List (List UInt8)) (hx:a.eval x = .slice (some ⟨g,0,none⟩) 1 1) (hg:Blk w g tg #[u]) (hu:manyR.R (fun b=>b<w.heap.size∧some b≠v.ownBlock∧Q b) w u ls) (hlen:css.length≤100000) (hbase:base≤w.heap.size)
 (hK:∀ v' w',RowC Q w' base v' (css ++ [ls])→w.grownBy w' v.ownBlock→(v'.ownBlock=v.ownBlock∨v'.ownBlock=some w.heap.size)→wpList Tryz.prog ops QQ rest (a.put o.dst v') w'):wpList Tryz.prog ops QQ (o :: rest) a w :=
 wpList_plain hgd fun K hK2=>by
  obtain ⟨i,hi,hz0,hz1,hz2⟩:=info_parts Tryz.infoCol
  obtain ⟨v',w',hrun,h1,h2,h3⟩:=RowG.push i hi hz0 hz1 hz2 T o.type hT h g tg u ls hg hu hlen hbase
  unfold Oper.wp execOp
  simp only [ho,resolve,invoke,builtin,Sem.run_bind,Sem.run_pure,Result.andThen_ok,List.map_toArray,List.map_cons,List.map_nil,hs,hx,hrun]
  exact hK2 _ _ (hK v' w' h1 h2 h3)
end
end Go.Proofs.YtcchjofjpflbhaaGreatDoor.E

namespace Go.Proofs.YtcchjofjpflbhaaGreatDoor.E
open Go.RowKit Go.Shelf Go.Proofs.YtcchjofjpflbhaaGreatDoor.C

section
variable {α:Type} {r:Rep α} {t:TypeId} {d:α} {Q:Nat→Prop} {W W':World} {base:Nat} {v:Value} {xs:List α}
theorem RowG.one {g:Nat} {u:Value} {x:α} (hg:Blk W g t #[u]) (hb:base≤g) (hu:r.R (fun b=>b<W.heap.size∧some b≠some g∧Q b) W u x):RowG r t d Q W base (.slice (some ⟨g,0,none⟩) 1 1) [x] :=
 ⟨[u],⟨rfl,.inr ⟨g,1,#[u],rfl,hb,hg,Nat.le_refl _,by unfold maxLen;omega,rfl,rfl⟩⟩,rfl,fun j y hy=>by
  cases j with
  | zero=>cases hy;exact hu
  | succ j=>simp at hy⟩
theorem RowG.append (i:TypeInfo) (hi:Tryz.prog.info? t=some i) (hz:i.zero=some (.slice none 0 0)) (h1:i.size=1) (h24:i.bytes=24) (T ty:TypeId) (hT:Tryz.prog.underlying T=some (.slice t))
 (h:RowG r t d Q W base v xs) {v2:Value} {ys:List α} (h2:SliceP r d (fun b=>b<W.heap.size∧some b≠v.ownBlock∧Q b) W v2 ys) (hn2:∀ A cap,v2 = .slice A 0 cap→A=none→cap=0) (hlen:xs.length≤100000) (hlen2:ys.length≤100000) (hbase:base≤W.heap.size) :
 ∃ v' w',(Builtin.append_ #[T,T] ty #[v,v2]).run Tryz.prog W = .ok v' w'∧RowG r t d Q w' base v' (xs ++ ys)∧W.grownBy w' v.ownBlock∧(v'.ownBlock=v.ownBlock∨v'.ownBlock=some W.heap.size):=by
 obtain ⟨us,ho,hn,hr⟩:=h
 obtain ⟨A,cap,rfl,hc,hA⟩:=h2
 rcases A with _ | ad
 · have h0:ys = []:=by
    rcases Nat.eq_zero_or_pos ys.length with h0 | h0
    · exact List.eq_nil_of_length_eq_zero h0
    · obtain ⟨b,off,h,_⟩:=hA h0
      cases h
   subst h0
   obtain rfl:=hn2 none cap rfl rfl
   rw [List.append_nil]
   exact ⟨v,W,run_append_owned_none (P:=Tryz.prog) (w:=W) base T ty t i 1 hT hi v us.length us ho,⟨us,ho,hn,hr⟩,World.grownBy.refl _ _,.inl rfl⟩
 have hus:∃ us2:List Value,us2.length=ys.length∧(∀ (j:Nat) (u:Value),us2[j]?=some u→W.cell? (ad.add j)=some u)∧∀ (j:Nat) (u:Value),us2[j]?=some u→r.R (fun b=>b<W.heap.size∧some b≠v.ownBlock∧Q b) W u (ys[j]?.getD d):=by
  rcases Nat.eq_zero_or_pos ys.length with h0 | h0
  · exact ⟨[],h0.symm,fun j u h=>(by cases h),fun j u h=>(by cases h)⟩
  · obtain ⟨b,off,e,hb,hcell⟩:=hA h0
    injection e with e
    subst e
    refine ⟨(List.range ys.length).map fun j=>(W.cell? ⟨b,off+j,none⟩).getD undef,by simp,fun j u hu=>?_,fun j u hu=>?_⟩
    all_goals
     rw [List.getElem?_map] at hu
     rcases Nat.lt_or_ge j ys.length with hj | hj
     · rw [List.getElem?_range hj] at hu
       obtain ⟨u2,q1,q2⟩:=hcell j hj
       simp only [Option.map_some,q1,Option.getD_some,Option.some.injEq] at hu
       subst hu
       first | (rw [addr_add];exact q1) | exact q2
     · rw [List.getElem?_eq_none (by simpa using hj)] at hu
       cases hu
 obtain ⟨us2,hl2,hc2,hr2⟩:=hus
 obtain ⟨v',w',hrun,o1,o2,_,o3⟩:=run_append_own_at (P:=Tryz.prog) W base T ty t i (.slice none 0 0) 1 24 hT hi hz h1 h24 rfl (by omega) v us.length us ho ad ys.length cap us2 (by omega) hc2
  (by intro y hy;obtain ⟨j,hj⟩:=List.getElem?_of_mem hy;exact r.one (hr2 j y hj)) (by unfold maxLen;omega) (by omega) hbase
 have hk:∀ {y:Value} {z:α},r.R (fun b=>b<W.heap.size∧some b≠v.ownBlock∧Q b) W y z→r.R (fun b=>b<w'.heap.size∧some b≠v'.ownBlock∧Q b) w' y z:=fun {y z} hy =>
  r.imp (r.keep hy fun b hb=>o2.block b hb.1 hb.2.1) fun b hb=>⟨Nat.lt_of_lt_of_le hb.1 o2.size,by
   rcases o3 with e | e
   · rw [e];exact hb.2.1
   · rw [e];intro e2;injection e2 with e2;have:=hb.1;omega,hb.2.2⟩
 refine ⟨v',w',hrun,⟨us ++ us2,by rw [List.length_append,hl2];exact o1,by rw [List.length_append,List.length_append,hn,hl2],fun j y hy=>?_⟩,o2,o3⟩
 rcases Nat.lt_or_ge j us.length with hj | hj
 · rw [List.getElem?_append_left hj] at hy
   rw [List.getElem?_append_left (by omega)]
   exact hk (hr j y hy)
 · rw [List.getElem?_append_right hj] at hy
   rw [List.getElem?_append_right (by omega),←hn]
   exact hk (hr2 _ y hy)
end
theorem wpList_appC {T:TypeId} {Q:Nat→Prop} {base:Nat} {v v2:Value} (w:World) {ops:Array Oper} {rest:List Oper} {o:Oper} {a:Act} {QQ:Exit→Act→World→Prop} (hgd:o.guard=none) (s x:Operand)
 (ho:o.op = .call { callee:=.builtin .append,args:=#[s,x],argTypes:=#[T,T] }) (hT:Tryz.prog.underlying T=some (.slice 50)) (css ds:List (List (List UInt8))) (hs:a.eval s=v) (h:RowC Q w base v css) (hx:a.eval x=v2)
 (h2:colsR.R (fun b=>b<w.heap.size∧some b≠v.ownBlock∧Q b) w v2 ds) (h0:0<ds.length) (hlen:css.length≤100000) (hlen2:ds.length≤100000) (hbase:base≤w.heap.size)
 (hK:∀ v' w',RowC Q w' base v' (css ++ ds)→w.grownBy w' v.ownBlock→(v'.ownBlock=v.ownBlock∨v'.ownBlock=some w.heap.size)→wpList Tryz.prog ops QQ rest (a.put o.dst v') w'):wpList Tryz.prog ops QQ (o :: rest) a w :=
 wpList_plain hgd fun K hK2=>by
  obtain ⟨i,hi,hz0,hz1,hz2⟩:=info_parts Tryz.infoCol
  obtain ⟨v',w',hrun,h1,h3,h4⟩:=RowG.append i hi hz0 hz1 hz2 T o.type hT h h2 (fun A cap e hA=>by
   obtain ⟨A2,c2,e2,_,hA2⟩:=h2
   rw [e] at e2
   injection e2 with _ e3 _
   omega) hlen hlen2 hbase
  unfold Oper.wp execOp
  simp only [ho,resolve,invoke,builtin,Sem.run_bind,Sem.run_pure,Result.andThen_ok,List.map_toArray,List.map_cons,List.map_nil,hs,hx,hrun]
  exact hK2 _ _ (hK v' w' h1 h3 h4)
theorem Cols.take_ {B:Nat} {W:World} {A:Option Addr} {n cap:Nat} {css:List (List (List UInt8))} (h:Cols B W (.slice A n cap) css) {m:Nat} (hm:m≤n):Cols B W (.slice A m cap) (css.take m):=by
 obtain ⟨A',cap',e,hc,hA⟩:=h
 injection e with e1 e2 e3
 subst e1 e2 e3
 have hl:(css.take m).length=m:=by rw [List.length_take];omega
 refine ⟨A,cap,by rw [hl],by omega,fun hp=>?_⟩
 obtain ⟨b,off,e,hb,hcell⟩:=hA (by omega)
 refine ⟨b,off,e,hb,fun j hj=>?_⟩
 obtain ⟨u,h1,h2⟩:=hcell j (by omega)
 exact ⟨u,h1,by rw [List.getElem?_take_of_lt (by omega)];exact h2⟩
end Go.Proofs.YtcchjofjpflbhaaGreatDoor.E

namespace Go.Proofs.YtcchjofjpflbhaaGreatDoor.E
open Go.RowKit Go.Shelf Go.Proofs.YtcchjofjpflbhaaGreatDoor.C Go.ChangeShapes Go.WideShapes

theorem wf_i64 {n:Int} (h:(Lit.int .i64 n).wf=true):-9223372036854775808≤n∧n≤9223372036854775807:=by
 have:=bounds_i64 h
 omega
end Go.Proofs.YtcchjofjpflbhaaGreatDoor.E

namespace Go.Proofs.YtcchjofjpflbhaaGreatDoor.Rg
open Go.RowKit Go.Shelf Go.Proofs.YtcchjofjpflbhaaGreatDoor.C Go.Proofs.YtcchjofjpflbhaaGreatDoor.E

theorem need_yes (w:World):Calls Tryz.prog 277 #[.bool true] w fun e w'=>e = .returned (.tuple #[])∧w=w':=by
 go_enter Tryz.func277,Tryz.ntmps277
 go_wp2
 go_end0
 exact ⟨rfl,rfl⟩
theorem sureB (v:Value) (w:World):Calls Tryz.prog 278 #[v,.int .i64 0] w fun e w'=>e = .returned v∧w=w':=by
 go_enter Tryz.func278,Tryz.ntmps278
 go_wp2
 go_ret
 exact ⟨rfl,rfl⟩
theorem sureI (n:Int) (w:World):Calls Tryz.prog 296 #[.int .i64 n,.int .i64 0] w fun e w'=>e = .returned (.int .i64 n)∧w=w':=by
 go_enter Tryz.func296,Tryz.ntmps296
 go_wp2
 go_ret
 exact ⟨rfl,rfl⟩
end Go.Proofs.YtcchjofjpflbhaaGreatDoor.Rg

namespace Go.Proofs.YtcchjofjpflbhaaGreatDoor.Rg
open Go.RowKit Go.Shelf Go.Proofs.YtcchjofjpflbhaaGreatDoor.C Go.Proofs.YtcchjofjpflbhaaGreatDoor.E

def LoadIs (P:Program) (t:TypeId) (ad:Addr) (v:Value) (w:World):Prop:=(loadVar t ad).run P w = .ok v w
section
variable {P:Program} {F:Fence} {n:Nat} {ops:Array Oper} {Q:Exit→Act→World→Prop} {rest:List Oper} {o:Oper} {a:Act} {w w':World} {t:TypeId} {p x:Operand} {ad:Addr} {v:Value}
theorem exec_load {ρ:Operand→Value} (ho:o.op = .load t p) (hp:ρ p = .pointer (some ad)) (hv:LoadIs P t ad v w):(execOp ρ o).run P w = .ok (.value v) w:=by
 unfold execOp
 simp only [ho,hp,Instr.loadAt,Instr.sureAddr,Sem.run_bind,Sem.run_pure,Result.andThen_ok,show (loadVar t ad).run P w = .ok v w from hv]
theorem exec_store {ρ:Operand→Value} (ho:o.op = .store t p x) (hp:ρ p = .pointer (some ad)) (hx:ρ x=v) (hv:(storeVar t ad v).run P w = .ok () w'):(execOp ρ o).run P w = .ok .skip w':=by
 unfold execOp
 simp only [ho,hp,hx,Instr.storeAt,Instr.sureAddr,Sem.run_bind,Sem.run_pure,Result.andThen_ok,hv]
theorem wpListIn_loadS (hgd:o.guard=none) (ho:o.op = .load t p) (hp:a.eval p = .pointer (some ad)) (hv:LoadIs P t ad v w) (h:wpListIn F n P ops Q rest (a.put o.dst v) w):wpListIn F n P ops Q (o :: rest) a w :=
 wpListIn_plain hgd fun K hK=>by
  refine ⟨fun f hf=>?_,?_⟩
  · simp [Oper.about,ho] at hf
  · rw [Oper.semAt_eq _ _ _ (by simp [ho]),exec_load ho hp hv]
    exact hK _ _ h
theorem wpListIn_storeS (hgd:o.guard=none) (ho:o.op = .store t p x) (hp:a.eval p = .pointer (some ad)) (hx:a.eval x=v) (hv:(storeVar t ad v).run P w = .ok () w') (h:wpListIn F n P ops Q rest (a.put o.dst undef) w'):wpListIn F n P ops Q (o :: rest) a w :=
 wpListIn_plain hgd fun K hK=>by
  refine ⟨fun f hf=>?_,?_⟩
  · simp [Oper.about,ho] at hf
  · rw [Oper.semAt_eq _ _ _ (by simp [ho]),exec_store ho hp hx hv]
    exact hK _ _ h
theorem results_cell {fn:Func} {tt:Tmp} {tmps:Array Value} (h:fn.results=#[.cell tt t]) (ht:tmps.getD tt undef = .pointer (some ad)) (hv:LoadIs P t ad v w):(results fn tmps).run P w = .ok v w:=by
 unfold LoadIs at hv
 have ht':tmps[tt]?.getD undef = .pointer (some ad):=by simpa using ht
 simp [results,h,asAddr,ht',hv]
def aggOf (P:Program) (t:TypeId):Bool:=match P.underlying t with | some (.struct _)=>true | some (.array _ _)=>true | _=>false
theorem loadVar_at {g:Nat} {ty:TypeId} {cs:List Value} (h:Blk w g ty cs.toArray) (i m:Nat) (hn:i+m≤cs.length) (hu:aggOf P t=true) (hi:(P.info? t).map (·.size)=some m) :
 LoadIs P t ⟨g,i,none⟩ (.agg ((cs.drop i).take m).toArray) w:=by
 have hl:((cs.drop i).take m).length=m:=by rw [List.length_take,List.length_drop];omega
 have hc:=run_loadCells_list (P:=P) w ⟨g,i,none⟩ ((cs.drop i).take m) (fun j v hv=>by
  have hj:j<m:=by
   have:=(List.getElem?_eq_some_iff.1 hv).1
   omega
  rw [addr_add,h.cell (i+j),List.getElem?_toArray]
  rw [List.getElem?_take_of_lt hj,List.getElem?_drop] at hv
  exact hv)
 rw [hl] at hc
 cases hq:P.info? t with
 | none=>simp [hq] at hi
 | some f =>
   have hs:f.size=m:=by simpa [hq] using hi
   have hagg:(isAgg t).run P w = .ok true w:=by
    unfold aggOf at hu
    cases hd:P.underlying t with
    | none=>rw [hd] at hu;cases hu
    | some d =>
      unfold isAgg
      rw [Sem.run_bind,run_underlying hd,Result.andThen_ok]
      cases d <;> simp_all
   unfold LoadIs loadVar
   simp [hagg,sizeOf,typeInfo,hq,hs,hc]
end
theorem load_col {w:World} {g:Nat} {ty:TypeId} {cs:List Value} (h:Blk w g ty cs.toArray) (i:Nat) (hn:i+18≤cs.length):LoadIs Tryz.prog 276 ⟨g,i,none⟩ (.agg ((cs.drop i).take 18).toArray) w :=
 loadVar_at h i 18 hn (by kernel_rfl) (by kernel_rfl)
theorem load_col0 {w:World} {g:Nat} {ty:TypeId} {cs:List Value} (h:Blk w g ty cs.toArray) (hn:cs.length=18):LoadIs Tryz.prog 276 ⟨g,0,none⟩ (.agg cs.toArray) w:=by
 have:=load_col h 0 (by omega)
 rwa [List.drop_zero,List.take_of_length_le (by omega)] at this
theorem store_col0 {w:World} {g:Nat} {cs cs':List Value} (h:Blk w g 276 cs.toArray) (hn:cs.length=18) (hn':cs'.length=18) (h1:∀ v∈cs',v.oneCell'=true):(storeVar 276 ⟨g,0,none⟩ (.agg cs'.toArray)).run Tryz.prog w = .ok () (w.setRow g cs'.toArray) :=
 run_storeVar_row (P:=Tryz.prog) w g _ _ cs.toArray cs'.toArray h (by rw [List.size_toArray,hn'];kernel_rfl) (by simp [hn,hn']) (by rw [Array.all_eq_true_iff_forall_mem];intro v hv;exact h1 v (by simpa using hv))
end Go.Proofs.YtcchjofjpflbhaaGreatDoor.Rg

namespace Go.Proofs.YtcchjofjpflbhaaGreatDoor.Rg
open Go.RowKit Go.Shelf Go.Proofs.YtcchjofjpflbhaaGreatDoor.C Go.Proofs.YtcchjofjpflbhaaGreatDoor.E
attribute [local go_sem] Oper.semAt_some

def ColV (B:Nat) (W:World) (p n:Nat) (f:Nat→List UInt8) (vs:List Value):Prop :=
 vs.length=18∧vs[0]?=some (.int .i64 (p:Int))∧(∀ r,r<p→(f r).length=n∧∃ u,vs[r+1]?=some u∧Bytes B W u (f r))∧∀ v∈vs,v.oneCell'=true
section
variable {B B' p n:Nat} {W W':World} {f:Nat→List UInt8} {vs:List Value}
theorem ColV.below (h:ColV B W p n f vs) (hb:Below B W W'):ColV B W' p n f vs:=⟨h.1,h.2.1,fun r hr=>by obtain ⟨h1,u,h2,h3⟩:=h.2.2.1 r hr;exact ⟨h1,u,h2,h3.below hb⟩,h.2.2.2⟩
theorem ColV.more (h:ColV B W p n f vs) (hB:B≤B'):ColV B' W p n f vs:=⟨h.1,h.2.1,fun r hr=>by obtain ⟨h1,u,h2,h3⟩:=h.2.2.1 r hr;exact ⟨h1,u,h2,h3.more hB⟩,h.2.2.2⟩
end
theorem last_any (P Q:Nat) (hQ:P=Q+1) (vs:List Value) (hP:P≤17) (h0:vs[0]?=some (.int .i64 (P:Int))) (w:World) :
 Calls Tryz.prog 279 #[.agg vs.toArray] w fun e w'=>e = .returned (.int .i64 (Q:Int))∧Below w.heap.size w w':=by
 have b0:=Blk.new w 276 vs.toArray
 have c0:=b0.cell 0
 rw [List.getElem?_toArray,h0] at c0
 have i1:(0:Int)≤(P:Int):=by omega
 have i2:(P:Int)≤17:=by omega
 have hB:=below_one w (.cells vs.toArray 276)
 have HQ:=Lib.hid hQ
 clear h0 b0 hP hQ
 go_enter Tryz.func279,Tryz.ntmps279
 go_wp2
 go_ret
 exact ⟨ret_i64 (by have:=HQ.out;omega),hB⟩
theorem upon_any {B:Nat} (v:Value) (ls:List (List UInt8)) (w:World) (hB:B≤w.heap.size) (hM:Many B w v ls) (hls:ls.length≤1000) (hok:XorOk ls) :
 Calls Tryz.prog 290 #[v] w fun e w'=>∃ u,e = .returned u∧Fresh w.heap.size w' u (xorOf ls)∧Below w.heap.size w w':=by
 have HX:=Lib.hid (xor_yes ls v w hB hM (by omega) hok)
 obtain ⟨A,cap,rfl,_,_⟩:=id hM
 clear hM hok hls
 generalize ls.length=n at *
 go_enter Tryz.func290,Tryz.ntmps290
 go_wp2_with (first
  | (go_at_call 177;refine HX.out.mono ?_;rintro e w1 ⟨u,rfl,hF,hB1⟩)
  | (go_at_call 278;refine (sureB _ _).mono ?_;rintro e w2 ⟨rfl,rfl⟩))
 go_ret
 exact ⟨_,rfl,hF,hB1⟩
end Go.Proofs.YtcchjofjpflbhaaGreatDoor.Rg

namespace Go.Proofs.YtcchjofjpflbhaaGreatDoor.Rg
open Go.RowKit Go.Shelf Go.Maps Go.Proofs.YtcchjofjpflbhaaGreatDoor.C Go.Proofs.YtcchjofjpflbhaaGreatDoor.E
attribute [local go_sem] Oper.semAt_some

theorem fresh_more {a b:Nat} {W:World} {v:Value} {l:List UInt8} (h:Fresh a W v l) (hb:b≤a):Fresh b W v l:=by
 obtain ⟨A,cap,e,hc,hA⟩:=h
 refine ⟨A,cap,e,hc,fun hp=>?_⟩
 obtain ⟨b',off,e2,hb1,hb2,hcell⟩:=hA hp
 exact ⟨b',off,e2,by omega,hb2,hcell⟩
end Go.Proofs.YtcchjofjpflbhaaGreatDoor.Rg

namespace Go.Proofs.YtcchjofjpflbhaaGreatDoor.Rg
open Go.RowKit Go.Shelf Go.Proofs.YtcchjofjpflbhaaGreatDoor.C Go.Proofs.YtcchjofjpflbhaaGreatDoor.E

def Only (A:Nat→Prop) (X Y:World):Prop:=X.heap.size≤Y.heap.size∧∀ b,b<X.heap.size→¬ A b→Y.heap[b]?=X.heap[b]?
section
variable {A:Nat→Prop} {X Y Z:World} {B:Nat}
theorem Only.refl (A:Nat→Prop) (X:World):Only A X X:=⟨Nat.le_refl _,fun _ _ _=>rfl⟩
theorem Only.trans (h:Only A X Y) (k:Only A Y Z):Only A X Z:=⟨Nat.le_trans h.1 k.1,fun b hb hn=>(k.2 b (Nat.lt_of_lt_of_le hb h.1) hn).trans (h.2 b hb hn)⟩
theorem Only.below (h:Below X.heap.size X Y):Only A X Y:=⟨h.size,fun b hb _=>h.block b hb⟩
theorem Only.set {p:Addr} (hp:A p.block) (v:Value):Only A X (X.setCell p v):=⟨by simp,fun b _ hn=>Below.heap_setCell X p v b (fun e=>hn (by rw [e];exact hp))⟩
theorem Only.row {g:Nat} (hg:A g) (cs:Array Value):Only A X (X.setRow g cs):=⟨by simp [World.setRow],fun b _ hn=>setRow_other X g b cs (fun e=>hn (by rw [e];exact hg))⟩
theorem Only.imp {A':Nat→Prop} (h:Only A X Y) (hA:∀ b,A b→A' b):Only A' X Y:=⟨h.1,fun b hb hn=>h.2 b hb (fun e=>hn (hA b e))⟩
theorem Only.blk (h:Only A X Y) {g:Nat} {t:TypeId} {cs:Array Value} (hb:Blk X g t cs) (hn:¬ A g):Blk Y g t cs:=(h.2 g hb.lt hn).trans hb
theorem Only.since (h:Only A X Y) (hA:∀ b,A b→b<B):SinceO B none X Y:=⟨h.1,fun b h1 h2 _=>h.2 b h2 (fun e=>by have:=hA b e;omega)⟩
theorem Only.keep (h:Only A X Y) {lo k:Nat} (hk:lo+k≤X.heap.size) (hA:∀ b,A b→b<lo):Keep lo k X Y:=⟨h.1,fun b h1 h2=>h.2 b (by omega) (fun e=>by have:=hA b e;omega)⟩
end
end Go.Proofs.YtcchjofjpflbhaaGreatDoor.Rg

namespace Go.Proofs.YtcchjofjpflbhaaGreatDoor.Rg
open Go.RowKit Go.Shelf Go.Maps Go.Proofs.YtcchjofjpflbhaaGreatDoor.C Go.Proofs.YtcchjofjpflbhaaGreatDoor.E
attribute [local go_sem] Oper.semAt_some

theorem one_nils (x:Int):∀ v∈[Value.int .i64 x,.slice none 0 0,.slice none 0 0,.slice none 0 0,.slice none 0 0,.slice none 0 0,.slice none 0 0,.slice none 0 0,.slice none 0 0,.slice none 0 0,.slice none 0 0,.slice none 0 0,.slice none 0 0,.slice none 0 0,.slice none 0 0,.slice none 0 0,.slice none 0 0,.slice none 0 0],v.oneCell'=true:=by
 intro v hv
 simp at hv
 rcases hv with rfl | rfl <;> rfl
end Go.Proofs.YtcchjofjpflbhaaGreatDoor.Rg

namespace Go.Proofs.YtcchjofjpflbhaaGreatDoor.Rg
open Go.RowKit Go.Shelf Go.Proofs.YtcchjofjpflbhaaGreatDoor.C Go.Proofs.YtcchjofjpflbhaaGreatDoor.E

def BytesA (A:Nat→Prop) (W:World) (v:Value) (l:List UInt8):Prop :=
 ∃ a cap,v = .slice a l.length cap∧l.length≤cap∧(0<l.length→∃ b off,a=some ⟨b,off,none⟩∧b<W.heap.size∧¬ A b∧∀ j,j<l.length→W.cell? ⟨b,off+j,none⟩=some (.int .u8 ((l[j]?.getD 0).toNat:Int)))
section
variable {A A':Nat→Prop} {X Y:World} {v:Value} {l:List UInt8} {B base:Nat}
theorem BytesA.bytes (h:BytesA A X v l):Bytes X.heap.size X v l:=by
 obtain ⟨a,cap,e,hc,hA⟩:=h
 refine ⟨a,cap,e,hc,fun hp=>?_⟩
 obtain ⟨b,off,e2,hb,_,hcell⟩:=hA hp
 exact ⟨b,off,e2,hb,hcell⟩
theorem BytesA.of_fresh (h:Fresh base X v l) (hA:∀ b,A b→b<base):BytesA A X v l:=by
 obtain ⟨a,cap,e,hc,hb⟩:=h
 refine ⟨a,cap,e,hc,fun hp=>?_⟩
 obtain ⟨b,off,e2,h1,h2,hcell⟩:=hb hp
 exact ⟨b,off,e2,h2,fun e=>by have:=hA b e;omega,hcell⟩
theorem BytesA.less (h:BytesA A X v l) (hA:∀ b,A' b→A b):BytesA A' X v l:=by
 obtain ⟨a,cap,e,hc,hb⟩:=h
 refine ⟨a,cap,e,hc,fun hp=>?_⟩
 obtain ⟨b,off,e2,h1,h2,hcell⟩:=hb hp
 exact ⟨b,off,e2,h1,fun e=>h2 (hA b e),hcell⟩
theorem BytesA.only (h:BytesA A X v l) (ho:Only A X Y):BytesA A Y v l:=by
 obtain ⟨a,cap,e,hc,hb⟩:=h
 refine ⟨a,cap,e,hc,fun hp=>?_⟩
 obtain ⟨b,off,e2,h1,h2,hcell⟩:=hb hp
 exact ⟨b,off,e2,Nat.lt_of_lt_of_le h1 ho.1,h2,fun j hj=>(World.cell?_of_block (ho.2 b h1 h2)).trans (hcell j hj)⟩
theorem fresh_only (h:Fresh base X v l) (ho:Only A X Y) (hA:∀ b,A b→b<base):Fresh base Y v l:=by
 obtain ⟨a,cap,e,hc,hb⟩:=h
 refine ⟨a,cap,e,hc,fun hp=>?_⟩
 obtain ⟨b,off,e2,h1,h2,hcell⟩:=hb hp
 exact ⟨b,off,e2,h1,Nat.lt_of_lt_of_le h2 ho.1,fun j hj=>(World.cell?_of_block (ho.2 b h2 (fun e=>by have:=hA b e;omega))).trans (hcell j hj)⟩
theorem fresh_slice (h:Fresh base X v l):∃ a c,v = .slice a l.length c:=by
 obtain ⟨a,cap,e,_⟩:=h
 exact ⟨a,cap,e⟩
end
def ToldA (A:Nat→Prop) (W:World) (F:Nat→List UInt8) (i:Nat) (ts:List Value):Prop:=∀ j,j<i→∃ u,ts[j]?=some u∧BytesA A W u (F j)
def ToldF (base:Nat) (W:World) (F:Nat→List UInt8) (i:Nat) (ts:List Value):Prop:=∀ j,j<i→∃ u,ts[j]?=some u∧Fresh base W u (F j)
section
variable {A:Nat→Prop} {X Y:World} {F:Nat→List UInt8} {i base:Nat} {ts:List Value}
theorem ToldA.only (h:ToldA A X F i ts) (ho:Only A X Y):ToldA A Y F i ts:=fun j hj=>by obtain ⟨u,h1,h2⟩:=h j hj;exact ⟨u,h1,h2.only ho⟩
theorem ToldF.less {base':Nat} (h:ToldF base X F i ts) (hb:base'≤base):ToldF base' X F i ts:=fun j hj=>by obtain ⟨u,h1,h2⟩:=h j hj;exact ⟨u,h1,fresh_more h2 hb⟩
theorem ToldF.only (h:ToldF base X F i ts) (ho:Only A X Y) (hA:∀ b,A b→b<base):ToldF base Y F i ts:=fun j hj=>by obtain ⟨u,h1,h2⟩:=h j hj;exact ⟨u,h1,fresh_only h2 ho hA⟩
theorem ToldA.next {u:Value} (h:ToldA A X F i ts) (hi:i<ts.length) (hu:BytesA A X u (F i)):ToldA A X F (i+1) (ts.set i u):=fun j hj=>by
 by_cases e:j=i
 · subst e
   exact ⟨u,List.getElem?_set_self hi,hu⟩
 · obtain ⟨v,h1,h2⟩:=h j (by omega)
   exact ⟨v,by rw [List.getElem?_set_ne (Ne.symm e)];exact h1,h2⟩
theorem ToldF.next {u:Value} (h:ToldF base X F i ts) (hi:i<ts.length) (hu:Fresh base X u (F i)):ToldF base X F (i+1) (ts.set i u):=fun j hj=>by
 by_cases e:j=i
 · subst e
   exact ⟨u,List.getElem?_set_self hi,hu⟩
 · obtain ⟨v,h1,h2⟩:=h j (by omega)
   exact ⟨v,by rw [List.getElem?_set_ne (Ne.symm e)];exact h1,h2⟩
theorem ToldA.many {k g:Nat} {t:TypeId} (h:ToldA A X F k ts) (hk:ts.length=k) (hb:Blk X g t ts.toArray):Many X.heap.size X (.slice (some ⟨g,0,none⟩) k k) ((List.range k).map F):=by
 refine ⟨_,k,by rw [List.length_map,List.length_range],by rw [List.length_map,List.length_range];exact Nat.le_refl _,fun _=>⟨g,0,rfl,hb.lt,fun j hj=>?_⟩⟩
 rw [List.length_map,List.length_range] at hj
 obtain ⟨u,h1,h2⟩:=h j hj
 refine ⟨u,by rw [Nat.zero_add,hb.cell,List.getElem?_toArray];exact h1,?_⟩
 rw [List.getElem?_map,List.getElem?_range hj]
 exact h2.bytes
theorem ToldF.many {k g:Nat} {t:TypeId} (h:ToldF base X F k ts) (hk:ts.length=k) (hb:Blk X g t ts.toArray) (hg:base≤g):FreshMany base X (.slice (some ⟨g,0,none⟩) k k) ((List.range k).map F):=by
 refine ⟨_,k,by rw [List.length_map,List.length_range],by rw [List.length_map,List.length_range];exact Nat.le_refl _,fun _=>⟨g,0,rfl,hg,hb.lt,fun j hj=>?_⟩⟩
 rw [List.length_map,List.length_range] at hj
 obtain ⟨u,h1,h2⟩:=h j hj
 refine ⟨u,by rw [Nat.zero_add,hb.cell,List.getElem?_toArray];exact h1,?_⟩
 rw [List.getElem?_map,List.getElem?_range hj]
 exact h2
end
section
variable {F:Fence} {n:Nat} {P:Program} {md:Region.Mode} {ops:Array Oper} {Q:Exit→Act→World→Prop} {S:World→Prop}
theorem anyHF_both {i j:Nat} {oi oj:Oper} {k:Nat} {listed:Array Bool} {a:Act} {w:World} (hr:Region.ready md ops listed = [i,j]) (hi:ops[i]?=some oi) (hj:ops[j]?=some oj) (hwi:Region.wanted oi (yielded ops a.tmps)=true) (hwj:Region.wanted oj (yielded ops a.tmps)=true)
 (h1:Oper.wpIn F n P oi a w (fun a' w'=>S w'∧anyHF F n P md ops Q S k (listed.setIfInBounds i true) a' w') Q) (h2:Oper.wpIn F n P oj a w (fun a' w'=>S w'∧anyHF F n P md ops Q S k (listed.setIfInBounds j true) a' w') Q):anyHF F n P md ops Q S (k+1) listed a w :=
 ⟨fun h0=>(by rw [hr] at h0;cases h0),fun m hm=>by
  rw [hr] at hm
  simp only [List.mem_cons,List.not_mem_nil,or_false] at hm
  rcases hm with rfl | rfl
  · unfold wpOpIn
    rw [hi]
    simp only [hwi,if_true]
    exact h1
  · unfold wpOpIn
    rw [hj]
    simp only [hwj,if_true]
    exact h2⟩
end
end Go.Proofs.YtcchjofjpflbhaaGreatDoor.Rg

namespace Go.Proofs.YtcchjofjpflbhaaGreatDoor.Rg
open Go.RowKit Go.Shelf Go.Maps Go.Proofs.YtcchjofjpflbhaaGreatDoor.C Go.Proofs.YtcchjofjpflbhaaGreatDoor.E
attribute [local go_sem] Oper.semAt_some

theorem Blk.at_ {w:World} {g g':Nat} {t:TypeId} {cs:Array Value} (h:Blk w g t cs) (e:g=g'):Blk w g' t cs:=e▸h
end Go.Proofs.YtcchjofjpflbhaaGreatDoor.Rg
