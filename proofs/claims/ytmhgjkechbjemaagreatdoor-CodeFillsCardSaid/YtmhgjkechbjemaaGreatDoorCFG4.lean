/- -/
import Derived.Test.YtmhgjkechbjemaaGreatDoorCFG3
import Derived.Maps.OwnIn
import Derived.Test.YtmhgjkechbjemaaGreatDoorCFG1
set_option linter.unusedVariables false
set_option linter.unusedSimpArgs false
set_option maxRecDepth 100000
set_option maxHeartbeats 4000000
namespace Go.Proofs.YtmhgjkechbjemaaGreatDoor.E
open Go.RowKit Go.Shelf Go.Proofs.YtmhgjkechbjemaaGreatDoor.C
attribute [local go_sem] Oper.semAt_some

theorem wpListIn_val {F:Fence} {nF:Nat} (w:World) {ops:Array Oper} {rest:List Oper} {o:Oper} {a:Act} {Q:Exit→Act→World→Prop} (hgd:o.guard = none) (s x:Operand)
 (ho:o.op = .call { callee := .builtin .append,args := #[s,x],argTypes := #[61,61] })
 (base:Nat) (v:Value) (l:List Value) (hs:a.eval s = v) (hown:OwnS w base v l) (g:Nat) (u:Value) (hu1:u.oneCell' = true) (hx:a.eval x = .slice (some ⟨g,0,none⟩) 1 1) (hu:Blk w g 32 #[u])
 (hlen:l.length≤1000000) (hbase:base≤w.heap.size)
 (h:∀ v' w',OwnS w' base v' (l ++ [u])→w.grownBy w' v.ownBlock→(v'.ownBlock = v.ownBlock∨v'.ownBlock = some w.heap.size)→wpListIn F nF Tryz.prog ops Q rest (a.put o.dst v') w'):wpListIn F nF Tryz.prog ops Q (o :: rest) a w := by
 obtain ⟨i,hi,hz0,hz1,hz2⟩ := info_parts Tryz.infoSlcE
 refine wpListIn_append_own_at w hgd s x 61 ho base 32 i (.slice none 0 0) 1 24 Tryz.underlying61 hi hz0 hz1 hz2 rfl (by omega) v l.length l hs hown ⟨g,0,none⟩ 1 1 [u] hx rfl
  (by intro j y hy
      rw [addr_add,Nat.zero_add,hu.cell j,List.getElem?_toArray]
      exact hy)
  (by intro y hy;simp only [List.mem_cons,List.not_mem_nil,or_false] at hy;subst hy;exact hu1) (by unfold maxLen;omega) (by omega) hbase ?_
 intro v' w' h1 h2 h4 h3
 refine h v' w' ?_ h2 h3
 unfold OwnS
 rw [List.length_append]
 exact h1
theorem OwnS.far {w:World} {base:Nat} {v:Value} {l:List Value} (h:OwnS w base v l) {p:Addr} (hp:some p.block≠v.ownBlock) (u:Value):OwnS (w.setCell p u) base v l := by
 refine ⟨h.1,?_⟩
 rcases h.2 with h1 | ⟨g,cap,cur,e,h2,hg,rest⟩
 · exact .inl h1
 · exact .inr ⟨g,cap,cur,e,h2,(Below.heap_setCell w p u g (fun e2=>hp (by rw [e,←e2];rfl))).trans hg,rest⟩
theorem OwnS.kept {w w':World} {base:Nat} {v:Value} {l:List Value} (h:OwnS w base v l) {row:Option Nat} (hg:w.grownBy w' row) (hne:v.ownBlock = none∨v.ownBlock≠row):OwnS w' base v l := World.ownsRow.kept h hg hne
theorem OwnS.below {w w':World} {base:Nat} {v:Value} {l:List Value} (h:OwnS w base v l) (hb:Below w.heap.size w w'):OwnS w' base v l := World.ownsRow.kept (row := none) h (grown_below hb) (by cases v.ownBlock <;> simp)
theorem OwnS.blks {w w':World} {base:Nat} {v:Value} {l:List Value} (h:OwnS w base v l) (hk:∀ g t cs,Blk w g t cs→Blk w' g t cs):OwnS w' base v l :=
 ⟨h.1,h.2.imp id fun ⟨g,cap,cur,e,h2,hg,rest⟩=>⟨g,cap,cur,e,h2,hk _ _ _ hg,rest⟩⟩
theorem OwnS.less {w:World} {base base':Nat} {v:Value} {l:List Value} (h:OwnS w base v l) (hb:base'≤base):OwnS w base' v l :=
 ⟨h.1,h.2.imp id fun ⟨g,cap,cur,e,h2,rest⟩=>⟨g,cap,cur,e,by omega,rest⟩⟩
theorem OwnS.rowO {w:World} {base:Nat} {v:Value} {l:List Value} (h:OwnS w base v l):RowO v.ownBlock w := fun b e=>by
 rcases h.2 with ⟨rfl,_⟩ | ⟨g,cap,cur,rfl,_,hg,_⟩
 · cases e
 · injection e with e
   subst e
   exact ⟨_,_,_,hg⟩
theorem OwnS.own_le {w:World} {base:Nat} {v:Value} {l:List Value} (h:OwnS w base v l) (b:Nat) (e:v.ownBlock = some b):base≤b := by
 rcases h.2 with ⟨rfl,_⟩ | ⟨g,cap,cur,rfl,h2,hg,_⟩
 · cases e
 · injection e with e
   subst e
   exact h2

theorem appendSeq_any (us:List Value) (N:Nat) (hN:N≤1000) (gf:Nat) (lb:Array Value) (w0 W:World) (hB0:Below w0.heap.size w0 W) (eg:∀ args w,(callFunc gf args).run Tryz.prog w = .ok (.enter gf args) w)
 (Ok:Value→World→Prop) (hOk:∀ x X,Ok x X→∃ A n c,x = .slice A n c) (hseq:∀ n,4≤n→SeqQ Fence.wide n Tryz.prog gf lb (fun x:Value=>#[x]) Ok (Keep 0 w0.heap.size) (fun ys=>ys = us) (fun pre=>pre <+: us) N w0) :
 Calls Tryz.prog 264 #[.slice none 0 0,.func (.func gf) #[] lb] W fun e w'=>∃ u,e = .returned u∧OwnS w' W.heap.size u us∧Below W.heap.size W w' := by
 obtain ⟨w7,hw7⟩:∃ w7,W.alloc (.cells #[.slice none 0 0] 61) = w7 := ⟨_,rfl⟩
 have b1:Blk w7 W.heap.size 61 #[.slice none 0 0] := by rw [←hw7];exact Blk.new W _ _
 have hB:Below W.heap.size W w7 := by rw [←hw7];exact below_one W _
 have s7:w7.heap.size = W.heap.size+1 := by rw [←hw7];simp
 have hs0 := hB0.size
 refine (callsIn_wide (n := 9)).1 ?_
 refine callsIn_of_wp_marks Tryz.func264 rfl trivial ?_ rfl
 simp only [Tryz.ntmps264,List.size_toArray,List.length_cons,List.length_nil,Nat.reduceAdd,Nat.reduceSub,Array.replicate_succ,Array.replicate_zero,List.push_toArray,List.append_toArray,List.nil_append,List.cons_append]
 gi_wp2_with fail
 clear hw7
 refine wpIn_rangeQ rfl (by omega) (gf := gf) (lb := lb) rfl trivial eg (hseq _ (by omega)) (fun h h'=>h.trans h') (fun V l ob hl _ hlp=>Keep.putFar V (by omega) ob) (below_in hB0 hB) (fun _=>rfl)
  (fun pre o X=>∃ v,Blk X W.heap.size 61 #[v]∧OwnS X (W.heap.size+1) v pre∧v.ownBlock = o∧Below W.heap.size W X)
  (fun _ _ _ _=>False) ?hI (fun c s o X Y row hs _ _=>hs) none (fun b e=>by cases e) ⟨_,b1,ownS_nil _ _,rfl,hB⟩
  (fun x o a' X=>a' = { tmps := #[.slice none 0 0,.func (.func gf) #[] lb,.pointer (some ⟨W.heap.size,0,none⟩),undef,.slice none 0 0,x,.func (.func gf) #[] lb,x,undef,undef,undef,undef,undef],defers := [] }∧∃ A n c,x = .slice A n c) (fun _ _ _ _ _ _ _ _ h=>h)
  ?assign (fun pre o X h=>by obtain ⟨v,_,ho,rfl,_⟩ := h;exact ho.rowO) (fun c pre o X h=>h.elim) ?body ?done (fun D c pre o X _ _ _ h=>h.elim)
 case hI =>
  rintro s o X Y row ⟨v,hb1,ho,rfl,hBX⟩ hgr hr
  have hne:∀ g,g < w7.heap.size→some g≠row := fun g hg e=>by have := (hr g e.symm).1;omega
  refine ⟨v,hb1.grown hgr (hne _ (by omega)),ho.kept hgr ?_,rfl,hBX.grown hgr hBX.size (fun r e=>by have := (hr r e).1;omega)⟩
  cases hrow:row with
  | none=>exact (Option.eq_none_or_eq_some v.ownBlock).imp id (fun ⟨x,hx⟩=>by rw [hx];simp)
  | some r=>exact .inr (fun e=>(hr r hrow).2 e.symm)
 case assign =>
  intro l' pre x o X K hsz ho hI hok hK
  gi_wp2
  exact hK _ _ (SinceO.refl _ _ _) (Keep.refl _ _ _) hI ⟨rfl,hOk _ _ hok⟩
 case body =>
  rintro l' pre x o a' X hsz ⟨v,hb1,ho,rfl,hBX⟩ ⟨rfl,Ax,nx,cx,rfl⟩ hlen
  have hx1:(Value.slice Ax nx cx).oneCell' = true := rfl
  have c1 := hb1.one
  have hol := ho.rowO.lt
  have hBb := below_one X (.cells #[.slice Ax nx cx] 32)
  have HO := Lib.hid (ho.below hBb)
  have HU := Lib.hid (Blk.new X 32 #[.slice Ax nx cx])
  have hb1b := hb1.below hBb hb1.lt
  have hn1:some W.heap.size≠v.ownBlock := fun e=>by have := ho.own_le _ e.symm;omega
  have hva := ho.own_le
  have hsb := hBb.size
  have hsX := hBX.size
  have HX1 := Lib.hid hx1
  clear hx1
  gi_wp2_with (gi_at_builtin;refine wpListIn_val _ rfl _ _ rfl (W.heap.size+1) v _ rfl HO.out X.heap.size (.slice Ax nx cx) HX1.out rfl HU.out (by omega) (by simp;omega) ?_;intro v2 w3 ho2 hg2 hd2;(have hfm := World.ownsRow.form ho2 (by simp));(obtain ⟨g2,cap2,hv2,_,_⟩ := hfm);(generalize (pre ++ [Value.slice Ax nx cx]).length = N2 at hv2);subst hv2;have hb3 := hb1b.grown hg2 hn1;have c3 := hb3.one;have f3 := hb3.frozen 0)
  have hs3 := hg2.size
  have hn2:some W.heap.size≠(Value.slice (some ⟨g2,0,none⟩) N2 cap2).ownBlock := fun e=>by have := ho2.own_le _ e.symm;omega
  have hfr:FreshO v.ownBlock (Value.slice (some ⟨g2,0,none⟩) N2 cap2).ownBlock X := by
   rcases hd2 with h | h
   · exact .inl h
   · exact .inr ⟨_,h,by simp⟩
  have hsi:SinceO w7.heap.size v.ownBlock X (w3.setCell ⟨W.heap.size,0,none⟩ (Value.slice (some ⟨g2,0,none⟩) N2 cap2)) :=
   (SinceO.below hBb).trans_ ⟨by simpa using hs3,fun b h1 h2 h3=>(Below.heap_setCell w3 _ (Value.slice (some ⟨g2,0,none⟩) N2 cap2) b (by simp;omega)).trans (hg2.block b h2 h3)⟩
  have hke:Keep 0 w0.heap.size X (w3.setCell ⟨W.heap.size,0,none⟩ (Value.slice (some ⟨g2,0,none⟩) N2 cap2)) :=
   ((Keep.below hBb (by omega)).trans (Keep.grown hg2 (by omega) (fun r e=>.inr (by have := hva r e;omega)))).trans (Keep.setFar w3 (by simp;omega) (Value.slice (some ⟨g2,0,none⟩) N2 cap2))
  have hbe:Below W.heap.size W (w3.setCell ⟨W.heap.size,0,none⟩ (Value.slice (some ⟨g2,0,none⟩) N2 cap2)) := ((below_in hBX hBb).grown hg2 (by omega) (fun r e=>by have := hva r e;omega)).setCell (by simp) (Value.slice (some ⟨g2,0,none⟩) N2 cap2)
  exact ⟨(Value.slice (some ⟨g2,0,none⟩) N2 cap2).ownBlock,hfr,hsi,hke,(Value.slice (some ⟨g2,0,none⟩) N2 cap2),hb3.set_ 0 (Value.slice (some ⟨g2,0,none⟩) N2 cap2),ho2.far hn2 (Value.slice (some ⟨g2,0,none⟩) N2 cap2),rfl,hbe⟩
 case done =>
  rintro D xs o X hD hfo rfl ⟨v,hb1,ho,rfl,hBX⟩ hK hne
  have c1 := hb1.one
  gi_wp2
  refine leaves_blks W [D] X ⟨by simp,fun E hE=>?_⟩ hBX (fun W' hB' hk=>?_)
  · obtain rfl := List.mem_singleton.1 hE
    exact ⟨by omega,hK⟩
  · exact ⟨v,by simp [results,Tryz.results264,go_sem],v,rfl,(ho.blks hk).less (by omega),hB'⟩
end Go.Proofs.YtmhgjkechbjemaaGreatDoor.E

namespace Go.Proofs.YtmhgjkechbjemaaGreatDoor.E
open Go.RowKit Go.Shelf Go.Proofs.YtmhgjkechbjemaaGreatDoor.C
attribute [local go_sem] Oper.semAt_some

theorem OwnS.vals {base:Nat} {W:World} {v:Value} {us:List Value} (h:OwnS W base v us):Vals W.heap.size W v us := by
 rcases Nat.eq_zero_or_pos us.length with h0 | h0
 · rcases h.2 with ⟨rfl,_⟩ | ⟨g,cap,cur,rfl,_,hg,hn,_⟩
   · exact .inl ⟨rfl,List.eq_nil_of_length_eq_zero h0⟩
   · refine .inr ⟨g,0,cap,rfl,hn,(Array.getElem?_eq_some_iff.1 hg).1,fun j u hu=>?_⟩
     rw [List.eq_nil_of_length_eq_zero h0] at hu
     cases hu
 · obtain ⟨g,cap,rfl,hg,hg1⟩ := World.ownsRow.form h h0
   have hcp:us.length≤cap := by
    rcases h.2 with ⟨e,_⟩ | ⟨g2,cap2,cur,e2,_,_,hnc,_⟩
    · cases e
    · injection e2 with _ _ e3
      omega
   refine .inr ⟨g,0,cap,rfl,hcp,hg1,fun j u hu=>?_⟩
   have hj:j < us.length := (List.getElem?_eq_some_iff.1 hu).1
   rw [Nat.zero_add,World.ownsRow.cellAt h j (by omega)]
   exact hu
theorem xorOk_of {n:Nat} {ls:List (List UInt8)} (h0:0 < ls.length) (h1:1≤n∧n≤64) (h:∀ l∈ls,l.length = n):XorOk ls := by
 have hj:∀ j,j < ls.length→(ls[j]?.getD []).length = n := fun j hj=>by
  rw [List.getElem?_eq_getElem hj]
  exact h _ (List.getElem_mem hj)
 refine ⟨h0,?_,fun j hjl=>?_⟩
 · unfold Cell
   rw [hj 0 h0]
   exact h1
 · rw [hj 0 h0]
   exact hj j hjl
def cellOf_ (css:List (List (List UInt8))) (c r:Nat):List UInt8 := (css[c]?.getD [])[r]?.getD []
theorem togOk_cell {R:Nat} {css:List (List (List UInt8))} (h:TogOk R css) {c r:Nat} (hc:c < css.length) (hr:r < R):(cellOf_ css c r).length = (firstC css).length := by
 obtain ⟨h1,h2,h3⟩ := h.2 c hc
 exact h3 r (by omega)
theorem togOk_first {R:Nat} {css:List (List (List UInt8))} (h:TogOk R css):1≤(firstC css).length∧(firstC css).length≤64 := (h.2 0 h.1).2.1
theorem diagOf_ok {p a:Int} {css:List (List (List UInt8))} (h:DataOk p css) (h0:0≤a) (h1:a < p):∀ l∈diagOf p a css,l.length = (firstC css).length := by
 obtain ⟨hR,hl,ht⟩ := h
 intro l hl2
 unfold diagOf at hl2
 obtain ⟨x,hx,rfl⟩ := List.mem_map.1 hl2
 unfold diagAt at hx
 obtain ⟨i,hi,rfl⟩ := List.mem_map.1 hx
 obtain ⟨hi1,hi2⟩ := List.mem_filter.1 hi
 rw [List.mem_range] at hi1
 have hi3 := of_decide_eq_true hi2
 have hpp := prm_bounds hR.2
 refine togOk_cell ht (by omega) ?_
 have:0≤(a - (i:Int)) % p := Int.emod_nonneg _ (by omega)
 show ((a - (i:Int)) % p).toNat < (p - 1).toNat
 omega
theorem diagOf_len {p a:Int} {css:List (List (List UInt8))}:(diagOf p a css).length≤p.toNat := by
 unfold diagOf
 rw [List.length_map]
 exact diagAt_len p a _
theorem diagAt_pos0:∀ p∈prm,∀ a∈List.range p.toNat,0 < (diagAt p (a:Int) p.toNat).length := by decide +kernel
theorem diagOf_pos {p a:Int} {css:List (List (List UInt8))} (hp:p∈prm) (h0:0≤a) (h1:a < p):0 < (diagOf p a css).length := by
 have h := diagAt_pos0 p hp a.toNat (List.mem_range.2 (by omega))
 rw [show ((a.toNat:Nat):Int) = a by omega] at h
 unfold diagOf
 rw [List.length_map]
 exact h
theorem diagonal_seq {B:Nat} (g h:Nat) (p a:Int) (v:Value) (f:Nat→Nat→Value) (hR:RightC 1 p) (a0:0≤a) (a1:a < p) (w:World) (hB:B≤w.heap.size) (hL:Laid w) (hG:GridV B w v p.toNat (p - 1).toNat f)
 (bg:Blk w g 154 #[.int .i64 p,v]) (bh:Blk w h 3 #[.int .i64 a]) (n:Nat) (hn:4≤n) :
 SeqQ Fence.wide n Tryz.prog 265 #[.pointer (some ⟨g,0,none⟩),.pointer (some ⟨h,0,none⟩)] (fun x:Value=>#[x]) (fun x _=>∃ c r:Nat,((c:Int) < p∧(r:Int) < p - 1)∧x = f c r) (Keep 0 w.heap.size)
  (fun ys=>ys = diagW p f 0 (walkN p a (-1))) (fun pre=>pre <+: diagW p f 0 (walkN p a (-1))) p.toNat w := by
 intro l J Jx W o₀ hBW ho₀ hJ hJx hr1 hr2 hY h0
 exact diagonal1_in n hn l g h B w.heap.size p a v f hR a0 a1 W hB bg.lt bh.lt hBW.size (hL.next hBW) J Jx o₀ ho₀ hJ hJx hr1 hr2 (fun pre c r o W1 hj hcr hlen hsz=>hY pre (f c r) o W1 hj ⟨c,r,hcr,rfl⟩ hlen hsz) (hG.below (hBW.mono hB)) (bg.below hBW bg.lt) (bh.below hBW bh.lt) h0
theorem enter_diag1:∀ args W,(callFunc 265 args).run Tryz.prog W = .ok (.enter 265 args) W := enters_of Tryz.func265 (by kernel_rfl) rfl
theorem diagonal_any (p a:Int) (v:Value) (w:World) (A:Option Addr) (m c:Nat) (hv:v = .slice A m c) :
 Calls Tryz.prog 233 #[.agg #[.int .i64 p,v],.int .i64 a] w fun e w'=>e = .returned (.func (.func 265) #[] #[.pointer (some ⟨w.heap.size,0,none⟩),.pointer (some ⟨w.heap.size+1,0,none⟩)])∧Blk w' w.heap.size 154 #[.int .i64 p,v]∧Blk w' (w.heap.size+1) 3 #[.int .i64 a]∧Below w.heap.size w w' := by
 subst hv
 have hmf:∀ (fn:Fn) (first cap:Array Value) (w:World),(Instr.makeFunc fn first cap).run Tryz.prog w = .ok (.func fn first cap) w := fun _ _ _ _=>rfl
 have b0:Blk ((w.alloc (.cells #[.int .i64 p,.slice A m c] 154)).alloc (.cells #[.int .i64 a] 3)) w.heap.size 154 #[.int .i64 p,.slice A m c] := (Blk.new w _ _).alloc _
 have b1 := Blk.second w (.cells #[.int .i64 p,.slice A m c] 154) 3 #[.int .i64 a]
 have hB := below_two w (.cells #[.int .i64 p,.slice A m c] 154) (.cells #[.int .i64 a] 3)
 go_enter Tryz.func233,Tryz.ntmps233
 go_wp2
 go_ret
 exact ⟨rfl,b0,b1,hB⟩
theorem collect_any (us:List Value) (N:Nat) (hN:N≤1000) (gf:Nat) (lb:Array Value) (w0 W:World) (hB0:Below w0.heap.size w0 W) (eg:∀ args w,(callFunc gf args).run Tryz.prog w = .ok (.enter gf args) w)
 (Ok:Value→World→Prop) (hOk:∀ x X,Ok x X→∃ A n c,x = .slice A n c) (hseq:∀ n,4≤n→SeqQ Fence.wide n Tryz.prog gf lb (fun x:Value=>#[x]) Ok (Keep 0 w0.heap.size) (fun ys=>ys = us) (fun pre=>pre <+: us) N w0) :
 Calls Tryz.prog 232 #[.func (.func gf) #[] lb] W fun e w'=>∃ u,e = .returned u∧OwnS w' W.heap.size u us∧Below W.heap.size W w' := by
 have HA := Lib.hid (appendSeq_any us N hN gf lb w0 W hB0 eg Ok hOk hseq)
 clear hseq hOk eg
 go_enter Tryz.func232,Tryz.ntmps232
 go_wp2_with (go_at_call 264;refine HA.out.mono ?_;rintro e w1 ⟨u,rfl,ho,hB1⟩)
 go_ret
 exact ⟨_,rfl,ho,hB1⟩
theorem collectDiag_any {B:Nat} (g h:Nat) (p a:Int) (v:Value) (css:List (List (List UInt8))) (hok:DataOk p css) (a0:0≤a) (a1:a < p) (w W:World) (hB:B≤w.heap.size) (hL:Laid w) (hC:Cols B w v css)
 (bg:Blk w g 154 #[.int .i64 p,v]) (bh:Blk w h 3 #[.int .i64 a]) (hB0:Below w.heap.size w W) :
 Calls Tryz.prog 232 #[.func (.func 265) #[] #[.pointer (some ⟨g,0,none⟩),.pointer (some ⟨h,0,none⟩)]] W fun e w'=>∃ u us,e = .returned u∧ManyV w'.heap.size w' u us (diagOf p a css)∧Below W.heap.size W w' := by
 obtain ⟨hR,hl,ht⟩ := hok
 have hpp := prm_bounds hR.2
 have hl2:css.length = p.toNat := by omega
 obtain ⟨f,hG,hf⟩ := hC.grid ht.1 (R := (p - 1).toNat) (by omega) (fun j hj=>(ht.2 j hj).1)
 rw [hl2] at hG hf
 have hone:∀ c r:Nat,(c:Int) < p→(r:Int) < p - 1→∃ A n c2,f c r = .slice A n c2 := fun c r h1 h2=>by
  obtain ⟨A,cap,e,_⟩ := hf c r (by omega) (by omega)
  exact ⟨_,_,_,e⟩
 have hseq := diagonal_seq g h p a v f hR a0 a1 w hB hL hG bg bh
 rw [diagW_walk hR.2 a0 a1] at hseq
 refine (collect_any (diagV p a f p.toNat) p.toNat (by omega) _ _ w W hB0 enter_diag1 _ (fun x X ⟨c,r,hcr,e⟩=>by rw [e];exact hone c r hcr.1 hcr.2) hseq).mono ?_
 rintro e w' ⟨u,rfl,ho,hB1⟩
 have hs0 := hB0.size
 have hs1 := hB1.size
 refine ⟨u,_,rfl,⟨?_,ho.vals,fun j x hx=>?_⟩,hB1⟩
 · unfold diagV diagOf
   rw [List.length_map,List.length_map]
 · unfold diagV at hx
   rw [List.getElem?_map] at hx
   obtain ⟨y,hy,rfl⟩ := Option.map_eq_some_iff.1 hx
   have hcell:(diagOf p a css)[j]?.getD [] = (css[y.1]?.getD [])[y.2]?.getD [] := by
    unfold diagOf
    rw [List.getElem?_map,hy]
    rfl
   rw [hcell]
   have hy2 := List.mem_of_getElem? hy
   unfold diagAt at hy2
   obtain ⟨i,hi,rfl⟩ := List.mem_map.1 hy2
   obtain ⟨hi1,hi2⟩ := List.mem_filter.1 hi
   rw [List.mem_range] at hi1
   have hi3 := of_decide_eq_true hi2
   have h00:0≤(a - (i:Int)) % p := Int.emod_nonneg _ (by omega)
   exact ((hf i ((a - (i:Int)) % p).toNat hi1 (by omega)).below ((below_in hB0 hB1).mono hB)).more (by omega)
end Go.Proofs.YtmhgjkechbjemaaGreatDoor.E

namespace Go.Proofs.YtmhgjkechbjemaaGreatDoor.E
open Go.RowKit Go.Shelf Go.Proofs.YtmhgjkechbjemaaGreatDoor.C

def xa (l:List UInt8):UInt8 := l.foldl (· ^^^ ·) 0
theorem xa_from:∀ (l:List UInt8) (z:UInt8),l.foldl (· ^^^ ·) z = z ^^^ xa l
 | [],z=>by simp [xa]
 | a :: l,z=>by
   unfold xa
   rw [List.foldl_cons,xa_from l,List.foldl_cons,xa_from l (0 ^^^ a)]
   simp [UInt8.xor_assoc]
theorem xa_nil:xa [] = 0 := rfl
theorem xa_cons (a:UInt8) (l:List UInt8):xa (a :: l) = a ^^^ xa l := by
 show (a :: l).foldl (· ^^^ ·) 0 = _
 rw [List.foldl_cons,xa_from,UInt8.zero_xor]
theorem xa_append (a b:List UInt8):xa (a ++ b) = xa a ^^^ xa b := by
 induction a with
 | nil=>simp [xa_nil]
 | cons x a ih=>rw [List.cons_append,xa_cons,xa_cons,ih,UInt8.xor_assoc]
theorem xa_perm {a b:List UInt8} (h:a.Perm b):xa a = xa b := by
 induction h with
 | nil=>rfl
 | cons x _ ih=>rw [xa_cons,xa_cons,ih]
 | swap x y l=>rw [xa_cons,xa_cons,xa_cons,xa_cons,←UInt8.xor_assoc,←UInt8.xor_assoc,UInt8.xor_comm x y]
 | trans _ _ h1 h2=>exact h1.trans h2
theorem at_out (l:List UInt8) (j:Nat) (h:l.length≤j):at_ l j = 0 := by
 unfold at_
 rw [List.getElem?_eq_none h]
 rfl
theorem ext_at {a b:List UInt8} (hl:a.length = b.length) (h:∀ j,at_ a j = at_ b j):a = b := by
 rw [tab_of a,tab_of b,hl]
 exact tab_ext fun j _=>h j
theorem at_xorB (a b:List UInt8) (j:Nat) (h:b.length = a.length):at_ (xorB a b) j = at_ a j ^^^ at_ b j := by
 rcases Nat.lt_or_ge j a.length with hj | hj
 · exact xorB_at a b j hj
 · rw [at_out _ _ (by rw [xorB_len];exact hj),at_out a j hj,at_out b j (by omega),UInt8.xor_self]
theorem at_xors (j:Nat):∀ (ls:List (List UInt8)) (z:List UInt8),(∀ l∈ls,l.length = z.length)→at_ (xors z ls) j = at_ z j ^^^ xa (ls.map (at_ · j))
 | [],z,_=>by simp [xors,xa_nil]
 | l :: ls,z,h=>by
   show at_ (xors (xorB z l) ls) j = _
   rw [at_xors j ls (xorB z l) (fun m hm=>by rw [xorB_len];exact h m (.tail _ hm)),at_xorB z l j (h l (.head _)),List.map_cons,xa_cons,UInt8.xor_assoc]
theorem at_zeros (n j:Nat):at_ (List.replicate n 0) j = 0 := by
 unfold at_
 rw [List.getElem?_replicate]
 split <;> rfl
theorem at_upon {n:Nat} {ls:List (List UInt8)} (h:∀ l∈ls,l.length = n) (j:Nat):at_ (xors (List.replicate n 0) ls) j = xa (ls.map (at_ · j)) := by
 rw [at_xors j ls _ (fun l hl=>by rw [List.length_replicate];exact h l hl),at_zeros,UInt8.zero_xor]
theorem first_len {n:Nat} {ls:List (List UInt8)} (h0:0 < ls.length) (h:∀ l∈ls,l.length = n):(ls[0]?.getD []).length = n := by
 rw [List.getElem?_eq_getElem h0]
 exact h _ (List.getElem_mem h0)
theorem at_xorOf {n:Nat} {ls:List (List UInt8)} (h0:0 < ls.length) (h:∀ l∈ls,l.length = n) (j:Nat):at_ (xorOf ls) j = xa (ls.map (at_ · j)) := by
 unfold xorOf
 rw [first_len h0 h]
 exact at_upon h j
theorem xorOf_len_of {n:Nat} {ls:List (List UInt8)} (h0:0 < ls.length) (h:∀ l∈ls,l.length = n):(xorOf ls).length = n := by
 rw [xorOf_len,first_len h0 h]

def by_ (css:List (List (List UInt8))) (j c r:Nat):UInt8 := at_ (cellOf_ css c r) j
def dg_ (p:Int) (css:List (List (List UInt8))) (j:Nat) (k:Int):UInt8 := xa ((diagAt p k p.toNat).map fun x=>by_ css j x.1 x.2)
def adjOf (p:Int) (css:List (List (List UInt8))):List UInt8 := xorOf (diagOf p (p - 1) css)
def rowsMade (R:Nat) (css:List (List (List UInt8))):List (List UInt8) := (List.range R).map fun r=>xorOf (rowOf css r)
def diagsMade (p:Int) (R:Nat) (css:List (List (List UInt8))):List (List UInt8) := (List.range R).map fun (r:Nat)=>xorOf ([adjOf p css] ++ diagOf p r css)
def encOf (p:Int) (css:List (List (List UInt8))):List (List (List UInt8)) := [rowsMade (p - 1).toNat css,diagsMade p (p - 1).toNat css]
section
variable {p:Int} {css:List (List (List UInt8))}
theorem dataOk_n (h:DataOk p css):css.length = p.toNat∧3≤p.toNat∧p.toNat≤17∧(p.toNat:Int) = p∧(p - 1).toNat = p.toNat - 1 := by
 have hpp := prm_bounds h.1.2
 have := h.2.1
 omega
theorem rowOf_ok (h:DataOk p css) {r:Nat} (hr:r < (p - 1).toNat):∀ l∈rowOf css r,l.length = (firstC css).length := by
 intro l hl
 unfold rowOf at hl
 obtain ⟨cs,hcs,rfl⟩ := List.mem_map.1 hl
 obtain ⟨c,hc,rfl⟩ := List.getElem_of_mem hcs
 have := togOk_cell h.2.2 hc hr
 unfold cellOf_ at this
 rwa [List.getElem?_eq_getElem hc] at this
theorem rowOf_pos (h:DataOk p css) (r:Nat):0 < (rowOf css r).length := by
 rw [rowOf_len]
 exact h.2.2.1
theorem at_row (h:DataOk p css) {r:Nat} (hr:r < (p - 1).toNat) (j:Nat):at_ (xorOf (rowOf css r)) j = xa ((List.range p.toNat).map fun c=>by_ css j c r) := by
 rw [at_xorOf (rowOf_pos h r) (rowOf_ok h hr)]
 have e:(rowOf css r).map (at_ · j) = (List.range p.toNat).map fun c=>by_ css j c r := by
  apply List.ext_getElem
  · rw [List.length_map,rowOf_len,List.length_map,List.length_range,(dataOk_n h).1]
  · intro c h1 h2
    rw [List.length_map,rowOf_len] at h1
    rw [List.getElem_map,List.getElem_map,List.getElem_range]
    unfold by_ cellOf_ rowOf
    rw [List.getElem_map,List.getElem?_eq_getElem h1]
    rfl
 rw [e]
theorem map_diag (j:Nat) (k:Int):(diagOf p k css).map (at_ · j) = (diagAt p k p.toNat).map fun x=>by_ css j x.1 x.2 := by
 unfold diagOf
 rw [List.map_map]
 rfl
theorem at_diag (h:DataOk p css) {k:Int} (h0:0≤k) (h1:k < p) (j:Nat):at_ (xorOf (diagOf p k css)) j = dg_ p css j k := by
 rw [at_xorOf (diagOf_pos h.1.2 h0 h1) (diagOf_ok h h0 h1),map_diag]
 rfl
theorem adjOf_len (h:DataOk p css):(adjOf p css).length = (firstC css).length := by
 have := dataOk_n h
 exact xorOf_len_of (diagOf_pos h.1.2 (by omega) (by omega)) (diagOf_ok h (by omega) (by omega))
theorem adjDiag_ok (h:DataOk p css) {r:Nat} (hr:(r:Int) < p):∀ l∈[adjOf p css] ++ diagOf p r css,l.length = (firstC css).length := by
 intro l hl
 rcases List.mem_append.1 hl with hl | hl
 · rw [List.mem_singleton.1 hl]
   exact adjOf_len h
 · exact diagOf_ok h (by omega) hr l hl
theorem at_diagMade (h:DataOk p css) {r:Nat} (hr:(r:Int) < p) (j:Nat):at_ (xorOf ([adjOf p css] ++ diagOf p r css)) j = dg_ p css j (p - 1) ^^^ dg_ p css j r := by
 have := dataOk_n h
 rw [at_xorOf (by simp) (adjDiag_ok h hr),List.map_append,List.map_singleton,xa_append,xa_cons,xa_nil,UInt8.xor_zero,map_diag]
 unfold adjOf
 rw [at_diag h (by omega) (by omega)]
 rfl
theorem rowsMade_at (h:DataOk p css) {r:Nat} (hr:r < (p - 1).toNat):(rowsMade (p - 1).toNat css)[r]?.getD [] = xorOf (rowOf css r) := by
 unfold rowsMade
 rw [List.getElem?_map,List.getElem?_range hr]
 rfl
theorem diagsMade_at (h:DataOk p css) {r:Nat} (hr:r < (p - 1).toNat):(diagsMade p (p - 1).toNat css)[r]?.getD [] = xorOf ([adjOf p css] ++ diagOf p r css) := by
 unfold diagsMade
 rw [List.getElem?_map,List.getElem?_range hr]
 rfl
theorem rowsMade_len (R:Nat):(rowsMade R css).length = R := by unfold rowsMade;simp
theorem diagsMade_len (R:Nat):(diagsMade p R css).length = R := by unfold diagsMade;simp
theorem row_len (h:DataOk p css) {r:Nat} (hr:r < (p - 1).toNat):(xorOf (rowOf css r)).length = (firstC css).length := xorOf_len_of (rowOf_pos h r) (rowOf_ok h hr)
theorem diag_len (h:DataOk p css) {r:Nat} (hr:(r:Int) < p):(xorOf ([adjOf p css] ++ diagOf p r css)).length = (firstC css).length := xorOf_len_of (by simp) (adjDiag_ok h hr)
end
end Go.Proofs.YtmhgjkechbjemaaGreatDoor.E

namespace Go.Proofs.YtmhgjkechbjemaaGreatDoor.E
open Go.RowKit Go.Shelf Go.Proofs.YtmhgjkechbjemaaGreatDoor.C
attribute [local go_sem] Oper.semAt_some

theorem diag_xorOk {p a:Int} {css:List (List (List UInt8))} (h:DataOk p css) (h0:0≤a) (h1:a < p):XorOk (diagOf p a css) := xorOk_of (diagOf_pos h.1.2 h0 h1) (togOk_first h.2.2) (diagOf_ok h h0 h1)
theorem manyV_nil (B:Nat) (W:World):ManyV B W (.slice none 0 0) [] [] := ⟨rfl,.inl ⟨rfl,rfl⟩,fun j u h=>by cases h⟩
theorem adjuster_any {B:Nat} (p:Int) (v:Value) (css:List (List (List UInt8))) (hok:DataOk p css) (w:World) (hL:Laid w) (hB:B≤w.heap.size) (hC:Cols B w v css) :
 Calls Tryz.prog 227 #[.agg #[.int .i64 p,v]] w fun e w'=>∃ u,e = .returned u∧Fresh w.heap.size w' u (xorOf (diagOf p (p - 1) css))∧Below w.heap.size w w' := by
 have hpp := prm_bounds hok.1.2
 obtain ⟨A,cap,rfl,_,_⟩ := id hC
 obtain ⟨W1,hW1⟩:∃ W1,w.alloc (.cells #[.int .i64 p,.slice A css.length cap] 154) = W1 := ⟨_,rfl⟩
 have b0:Blk W1 w.heap.size 154 #[.int .i64 p,.slice A css.length cap] := by rw [←hW1];exact Blk.new w _ _
 have hBW:Below w.heap.size w W1 := by rw [←hW1];exact below_one w _
 have hL1 := hL.next hBW
 have hC1 := hC.below (hBW.mono hB)
 have hB1:B≤W1.heap.size := Nat.le_trans hB hBW.size
 have HD := Lib.hid (fun (U:World)=>diagonal_any p (p - 1) (.slice A css.length cap) U A css.length cap rfl)
 have HLa := Lib.hid (fun (U:World)=>last_any p ⟨by omega,by omega⟩ U)
 have HU := Lib.hid (fun (U:World)=>upon_any (.slice none 0 0) U none 0 0 rfl)
 have HC := Lib.hid (fun (U:World) (g h:Nat) (hBU:Below W1.heap.size W1 U) (bg:Blk U g 154 #[.int .i64 p,.slice A css.length cap]) (bh:Blk U h 3 #[.int .i64 (p - 1)]) =>
  collectDiag_any (B := B) g h p (p - 1) (.slice A css.length cap) css hok (by omega) (by omega) U U (Nat.le_trans hB1 hBU.size) (hL1.next hBU) (hC1.below (hBU.mono hB1)) bg bh (Below.refl _ _))
 have HX := Lib.hid (fun (U:World) (vl:Value) (us:List Value) (gU:Nat) (bU:Blk U gU 61 #[.slice none 0 0]) (hM:ManyV U.heap.size U vl us (diagOf p (p - 1) css)) =>
  upon1_yes (B := U.heap.size) (.slice none 0 0) vl [] us [] (diagOf p (p - 1) css) gU U (Nat.le_refl _) bU (manyV_nil _ _) hM (by simp) (by have := @diagOf_len p (p - 1) css;omega) (by rw [List.nil_append];exact diag_xorOk hok (by omega) (by omega)))
 simp only [List.nil_append] at HX
 have c0 := b0.cell 0
 have c1 := b0.cell 1
 simp only [gz9] at c0 c1
 have hg0 := b0.lt
 clear hC hC1 hL hL1 hok b0 hB hB1
 generalize xorOf (diagOf p (p - 1) css) = xo at *
 generalize diagOf p (p - 1) css = dg at *
 generalize css.length = n at *
 have hw1:IntKind.i64.wrap (p - 1) = p - 1 := IntWalk.i64_in _ (by omega)
 generalize p - 1 = q at *
 have HPP := Lib.hid hpp
 clear hpp hw1
 go_enter Tryz.func227,Tryz.ntmps227
 go_wp2_with fail
 clear hW1
 go_region_held3 (fun U=>U.cell? ⟨w.heap.size,0,none⟩ = some (.int .i64 p)∧U.cell? ⟨w.heap.size,1,none⟩ = some (.slice A n cap))
  (first | exact ⟨c0,c1⟩ | exact ⟨(hBa.cell (p := ⟨w.heap.size,0,none⟩) hg0).trans c0,(hBa.cell (p := ⟨w.heap.size,1,none⟩) hg0).trans c1⟩ | exact ⟨(hBb.cell (p := ⟨w.heap.size,0,none⟩) hg0).trans c0,(hBb.cell (p := ⟨w.heap.size,1,none⟩) hg0).trans c1⟩ | exact ⟨(hBc.cell (p := ⟨w.heap.size,0,none⟩) hg0).trans c0,(hBc.cell (p := ⟨w.heap.size,1,none⟩) hg0).trans c1⟩ | exact ⟨(hBd.cell (p := ⟨w.heap.size,0,none⟩) hg0).trans c0,(hBd.cell (p := ⟨w.heap.size,1,none⟩) hg0).trans c1⟩ | exact ⟨(hBe.cell (p := ⟨w.heap.size,0,none⟩) hg0).trans c0,(hBe.cell (p := ⟨w.heap.size,1,none⟩) hg0).trans c1⟩) (first
  | (go_at_call 226;refine (HU.out _).mono ?_;rintro e w1 ⟨rfl,bU,hBx⟩;have hBa:Below W1.heap.size W1 w1 := (by first | exact hBx | exact Below.undrew hBx))
  | (go_at_call 262;refine (HLa.out _).mono ?_;rintro e w2 ⟨rfl,hBx2⟩;have hBb:Below W1.heap.size W1 w2 := below_in hBa hBx2)
  | (go_at_call 233;refine (HD.out _).mono ?_;rintro e w3 ⟨rfl,bg,bh,hBx3⟩;have hBc:Below W1.heap.size W1 w3 := below_in hBb hBx3)
  | (go_at_call 232;refine (HC.out _ _ _ hBc bg bh).mono ?_;rintro e w4 ⟨u,us,rfl,hM,hBx4⟩;have hBd:Below W1.heap.size W1 w4 := below_in hBc hBx4;have bU4 := ((bU.below hBx2 bU.lt).below hBx3 (Nat.lt_of_lt_of_le bU.lt hBx2.size)).below hBx4 (Nat.lt_of_lt_of_le (Nat.lt_of_lt_of_le bU.lt hBx2.size) hBx3.size))
  | (go_at_call 259;refine (HX.out _ _ _ _ bU4 hM).mono ?_;rintro e w5 ⟨x,rfl,hf,hBx5⟩;have hBe:Below W1.heap.size W1 w5 := below_in hBd hBx5))
 all_goals go_wp2
 all_goals go_ret
 all_goals exact ⟨_,rfl,hf.less (Nat.le_trans hBW.size hBd.size),below_in hBW hBe⟩

theorem encoded2_any {B:Nat} (p:Int) (r:Nat) (css:List (List (List UInt8))) (v vh:Value) (ush:List Value) (hls:List (List UInt8)) (g0 g1 gh:Nat) (W1:World) (hB:B≤W1.heap.size) (hL:Laid W1) (hok:DataOk p css) (hr:(r:Int) < p) (hC:Cols B W1 v css)
 (b0:Blk W1 g0 143 #[.func (.func 259) #[] #[.pointer (some ⟨gh,0,none⟩)]]) (b1:Blk W1 g1 154 #[.int .i64 p,v]) (bh:Blk W1 gh 61 #[vh]) (hh:ManyV B W1 vh ush hls) (hn:hls.length≤80) (hxo:XorOk (hls ++ diagOf p r css)) :
 Calls Tryz.prog 231 #[.int .i64 (r:Int),.pointer (some ⟨g0,0,none⟩),.pointer (some ⟨g1,0,none⟩)] W1 fun e w'=>∃ u,e = .returned u∧Fresh W1.heap.size w' u (xorOf (hls ++ diagOf p r css))∧Below W1.heap.size W1 w' := by
 have hpp := prm_bounds hok.1.2
 obtain ⟨A,cap,rfl,_,_⟩ := id hC
 have HD := Lib.hid (fun (U:World)=>diagonal_any p (r:Int) (.slice A css.length cap) U A css.length cap rfl)
 have HC := Lib.hid (fun (U:World) (g h:Nat) (hBU:Below W1.heap.size W1 U) (bg:Blk U g 154 #[.int .i64 p,.slice A css.length cap]) (bh:Blk U h 3 #[.int .i64 (r:Int)]) =>
  collectDiag_any (B := B) g h p (r:Int) (.slice A css.length cap) css hok (by omega) hr U U (Nat.le_trans hB hBU.size) (hL.next hBU) (hC.below (hBU.mono hB)) bg bh (Below.refl _ _))
 have HX := Lib.hid (fun (U:World) (vl:Value) (us:List Value) (hBU:Below W1.heap.size W1 U) (hM:ManyV U.heap.size U vl us (diagOf p r css)) =>
  upon1_yes (B := U.heap.size) vh vl ush us hls (diagOf p r css) gh U (Nat.le_refl _) (bh.below hBU bh.lt) ((hh.below (hBU.mono hB)).more (Nat.le_trans hB hBU.size)) hM (by omega) (by have := @diagOf_len p r css;omega) hxo)
 have c0 := b0.one
 have c1 := b1.cell 0
 have c2 := b1.cell 1
 simp only [gz9] at c1 c2
 have hg0 := b0.lt
 have hg1 := b1.lt
 clear hC hL hok hxo hh bh b0 b1 hn hr hpp
 generalize xorOf (hls ++ diagOf p r css) = xo at *
 generalize diagOf p r css = dg at *
 generalize css.length = n at *
 clear hls
 go_enter Tryz.func231,Tryz.ntmps231
 go_wp2_with fail
 go_region_held3 (fun U=>U.cell? ⟨g0,0,none⟩ = some (.func (.func 259) #[] #[.pointer (some ⟨gh,0,none⟩)])∧U.cell? ⟨g1,0,none⟩ = some (.int .i64 p)∧U.cell? ⟨g1,1,none⟩ = some (.slice A n cap))
  (first | exact ⟨c0,c1,c2⟩ | exact ⟨(hBc.cell (p := ⟨g0,0,none⟩) hg0).trans c0,(hBc.cell (p := ⟨g1,0,none⟩) hg1).trans c1,(hBc.cell (p := ⟨g1,1,none⟩) hg1).trans c2⟩ | exact ⟨(hBd.cell (p := ⟨g0,0,none⟩) hg0).trans c0,(hBd.cell (p := ⟨g1,0,none⟩) hg1).trans c1,(hBd.cell (p := ⟨g1,1,none⟩) hg1).trans c2⟩ | exact ⟨(hBe.cell (p := ⟨g0,0,none⟩) hg0).trans c0,(hBe.cell (p := ⟨g1,0,none⟩) hg1).trans c1,(hBe.cell (p := ⟨g1,1,none⟩) hg1).trans c2⟩) (first
  | (go_at_call 233;refine (HD.out _).mono ?_;rintro e w3 ⟨rfl,bg,bh,hBx⟩;have hBc:Below W1.heap.size W1 w3 := (by first | exact hBx | exact Below.undrew hBx))
  | (go_at_call 232;refine (HC.out _ _ _ hBc bg bh).mono ?_;rintro e w4 ⟨u,us,rfl,hM,hBx4⟩;have hBd:Below W1.heap.size W1 w4 := below_in hBc hBx4)
  | (go_at_call 259;refine (HX.out _ _ _ hBd hM).mono ?_;rintro e w5 ⟨x,rfl,hf,hBx5⟩;have hBe:Below W1.heap.size W1 w5 := below_in hBd hBx5))
 all_goals go_wp2
 all_goals go_ret
 all_goals exact ⟨_,rfl,hf.less hBd.size,hBe⟩
end Go.Proofs.YtmhgjkechbjemaaGreatDoor.E

namespace Go.Proofs.YtmhgjkechbjemaaGreatDoor
open Go.RowKit Go.Shelf

section
variable {F:Fence} {n:Nat} {P:Program} {md:Region.Mode} {ops:Array Oper} {Q:Exit→Act→World→Prop}
theorem count_set {listed:Array Bool} {i k:Nat} (h:listed.getD i true = false) (hk:listed.toList.count false≤k+1):(listed.setIfInBounds i true).toList.count false≤k := by
 have hi:i < listed.size := by
  rcases Nat.lt_or_ge i listed.size with h' | h'
  · exact h'
  · simp [Array.getElem?_eq_none h'] at h
 have hl:listed.toList[i]'(by simpa using hi) = false := by
  simp [hi] at h
  simpa using h
 rw [Array.toList_setIfInBounds,List.count_set (h := by simpa using hi),hl,if_pos (show (false == false) = true from rfl),if_neg (show ¬ ((true == false) = true) by decide)]
 omega
theorem wpAnyIn_inv (I:Array Bool→Act→World→Prop)
 (hstep:∀ (i:Nat) (listed:Array Bool) (a:Act) (w:World),i∈Region.ready md ops listed→listed.size = ops.size→I listed a w→wpOpIn F n P ops Q i (I (listed.setIfInBounds i true)) a w)
 (hend:∀ (listed:Array Bool) (a:Act) (w:World),listed.size = ops.size→I listed a w→Region.ready md ops listed = []→Q .normal a w) :
 ∀ (k:Nat) (listed:Array Bool) (a:Act) (w:World),listed.size = ops.size→listed.toList.count false≤k→I listed a w→wpAnyIn F n P md ops Q k listed a w
 | 0,listed,a,w,hs,hc,hI=>by
   have hr:Region.ready md ops listed = [] := by
    rw [List.eq_nil_iff_forall_not_mem]
    intro i hi
    have h := (mem_ready.1 hi).1
    have hil:i < listed.size := by
     rcases Nat.lt_or_ge i listed.size with h' | h'
     · exact h'
     · simp [Array.getElem?_eq_none h'] at h
    simp [hil] at h
    have hm:false∈listed.toList := by rw [←h];simp
    have := List.count_pos_iff.2 hm
    omega
   exact ⟨hr,hend listed a w hs hI hr⟩
 | k+1,listed,a,w,hs,hc,hI=>⟨hend listed a w hs hI,fun i hi=>wpOpIn_mono (fun a' w' h=>wpAnyIn_inv I hstep hend k _ a' w' (by simpa using hs) (count_set (mem_ready.1 hi).1 hc) h) (hstep i listed a w hi hs hI)⟩
def onward (md:Region.Mode) (ops:Array Oper):Bool := (List.range ops.size).all fun i=>((ops[i]?).map (·.after.all fun e=>!Region.binds md e || decide (e.on < i))).getD true
theorem all_listed (h:onward md ops = true) {listed:Array Bool} (hs:listed.size = ops.size) (hr:Region.ready md ops listed = []):∀ i,i < ops.size→listed.getD i false = true := by
 intro i
 induction i using Nat.strongRecOn with
 | _ i ih =>
   intro hi
   have hn:i ∉ Region.ready md ops listed := by rw [hr];simp
   rw [mem_ready] at hn
   have hil:i < listed.size := by omega
   cases hl:listed.getD i false with
   | true=>rfl
   | false =>
     refine absurd ⟨?_,ops[i],Array.getElem?_eq_getElem hi,fun e he hb=>?_⟩ hn
     · simp [hil] at hl ⊢
       exact hl
     · have h1 := List.all_eq_true.1 h i (List.mem_range.2 hi)
       rw [Array.getElem?_eq_getElem hi] at h1
       simp only [Option.map_some,Option.getD_some,Array.all_eq_true_iff_forall_mem] at h1
       have h2 := h1 e he
       rw [hb] at h2
       have h3:e.on < i := by simpa using h2
       exact ih e.on h3 (by omega)
theorem region_inv {id:Nat} {a:Act} {w:World} (hm:P.follows .mixedOrders = true) (ho:onward .any ops = true) (I:Array Bool→Act→World→Prop) (h0:I (Array.replicate ops.size false) a w.drew)
 (hstep:∀ (i:Nat) (listed:Array Bool) (a:Act) (w:World),i∈Region.ready .any ops listed→I listed a w→wpOpIn F n P ops Q i (I (listed.setIfInBounds i true)) a w)
 (hend:∀ (listed:Array Bool) (a:Act) (w:World),(∀ i,i < ops.size→listed.getD i false = true)→I listed a w→Q .normal a w):(Code.region id ops true).wpIn F n P Q a w :=
 wpIn_region_any hm (wpAnyIn_inv I (fun i l a w hi _ h=>hstep i l a w hi h) (fun l a w hs hI hr=>hend l a w (all_listed ho hs hr) hI) _ _ _ _ (by simp) (by simp) h0)
theorem listed_ne {listed:Array Bool} {i j:Nat} (h:i≠j):(listed.setIfInBounds i true).getD j false = listed.getD j false := getD_set_ne false h
theorem ready_on {i:Nat} {o:Oper} {listed:Array Bool} (h:i∈Region.ready md ops listed) (ho:ops[i]? = some o) (js:List Nat) (hj:(js.all fun j=>o.after.any fun e=>Region.binds md e && e.on == j) = true):∀ j∈js,listed.getD j false = true := by
 obtain ⟨_,o',ho',hall⟩ := mem_ready.1 h
 rw [ho] at ho'
 cases ho'
 intro j hjm
 have h1 := List.all_eq_true.1 hj j hjm
 rw [←Array.any_toList,List.any_eq_true] at h1
 obtain ⟨e,he,h2⟩ := h1
 replace he := Array.mem_toList_iff.1 he
 rw [Bool.and_eq_true] at h2
 have h3:e.on = j := by simpa using h2.2
 rw [←h3]
 exact hall e he h2.1
theorem wpOpIn_one {i:Nat} {o:Oper} {K:Act→World→Prop} {a:Act} {w:World} (ho:ops[i]? = some o) (hw:Region.wanted o (yielded ops a.tmps) = true) (h:Oper.wpIn F n P o a w K Q):wpOpIn F n P ops Q i K a w := by
 unfold wpOpIn
 rw [ho]
 simp only [hw,if_true]
 exact h
end
end Go.Proofs.YtmhgjkechbjemaaGreatDoor
