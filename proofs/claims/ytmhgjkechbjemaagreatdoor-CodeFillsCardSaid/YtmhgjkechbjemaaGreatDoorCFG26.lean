/- -/
import Derived.Test.YtmhgjkechbjemaaGreatDoorCFG23
import Derived.Test.YtmhgjkechbjemaaGreatDoorCFG24
import Derived.Test.YtmhgjkechbjemaaGreatDoorCFSA
import Derived.Test.YtmhgjkechbjemaaGreatDoorCFG1
import Derived.Deep.Matrix
import Derived.ShutString
import Derived.ChangeOld
set_option linter.unusedVariables false
set_option linter.unusedSimpArgs false
set_option maxRecDepth 100000
set_option maxHeartbeats 400000
namespace Go.Proofs.YtmhgjkechbjemaaGreatDoor.Cd
open Go.RowKit Go.Shelf Go.Proofs.YtmhgjkechbjemaaGreatDoor.C Go.Proofs.YtmhgjkechbjemaaGreatDoor.E Go.Proofs.YtmhgjkechbjemaaGreatDoor.Q

def OctP (P:Nat→Prop) (W:World) (v:Value) (l:List UInt8):Prop :=
 ∃ A cap,v = .slice A l.length cap∧l.length≤cap∧(0 < l.length→∃ b cs,A = some ⟨b,0,none⟩∧P b∧Blk W b 5 cs∧∀ j,j < l.length→cs[j]? = some (.int .u8 ((l[j]?.getD 0).toNat:Int)))
section
variable {P:Nat→Prop} {W:World} {v:Value}
theorem OctP.bytes {l:List UInt8} (h:OctP P W v l):BytesP P W v l := by
 obtain ⟨A,cap,e,hc,hA⟩ := h
 refine ⟨A,cap,e,hc,fun hp=>?_⟩
 obtain ⟨b,cs,e2,hb,hB,h3⟩ := hA hp
 exact ⟨b,0,e2,hb,fun j hj=>by rw [Nat.zero_add,hB.cell j];exact h3 j hj⟩
end

def RowS {α:Type} (r:Rep α) (t:TypeId) (d:α) (N:Nat) (W:World) (base:Nat) (v:Value) (xs:List α):Prop :=
 ∃ (us:List Value) (Z:Nat→Nat→Prop),W.ownsRow base t 1 v us.length us∧us.length = xs.length∧(∀ i j c,Z i c→Z j c→i = j)∧(∀ j c,Z j c→(base≤c∧c < N)∧some c≠v.ownBlock∧j < us.length)∧(∀ b,v.ownBlock = some b→b < N)∧N≤W.heap.size∧∀ (j:Nat) (u:Value),us[j]? = some u→r.R (Z j) W u (xs[j]?.getD d)
section
variable {α:Type} {r:Rep α} {t:TypeId} {d:α} {N:Nat} {W W':World} {base:Nat} {v:Value} {xs:List α}
theorem RowS.nil (r:Rep α) (t:TypeId) (d:α) (W:World) (base N:Nat) (hN:N≤W.heap.size):RowS r t d N W base (.slice none 0 0) [] :=
 ⟨[],fun _ _=>False,World.ownsRow_nil W base t 1,rfl,fun _ _ _ h=>h.elim,fun _ _ h=>h.elim,fun b h=>(by cases h),hN,fun j u h=>(by cases h)⟩
theorem RowS.below (h:RowS r t d N W base v xs) (hb:Below W.heap.size W W'):RowS r t d N W' base v xs := by
 obtain ⟨us,Z,ho,hn,z1,z2,z3,hN,hr⟩ := h
 exact ⟨us,Z,World.ownsRow.kept (row := none) ho (grown_below hb) (by cases v.ownBlock <;> simp),hn,z1,z2,z3,Nat.le_trans hN hb.size,fun j u hu=>r.keep (hr j u hu) fun b hb2=>hb.block b (by have := (z2 j b hb2).1;omega)⟩
theorem RowS.own_le (h:RowS r t d N W base v xs) (k:Nat) (e:v.ownBlock = some k):base≤k∧k < N := by
 obtain ⟨us,Z,ho,hn,z1,z2,z3,hN,hr⟩ := h
 exact ⟨(World.ownsRow.lt ho k e).1,z3 k e⟩
theorem RowS.push (i:TypeInfo) (hi:Tryz.prog.info? t = some i) (hz:i.zero = some (.slice none 0 0)) (h1:i.size = 1) (h24:i.bytes = 24) (T ty:TypeId) (hT:Tryz.prog.underlying T = some (.slice t))
 (h:RowS r t d N W base v xs) (g:Nat) (tg:TypeId) (u:Value) (x:α) (hg:Blk W g tg #[u]) (P:Nat→Prop) (hu:r.R P W u x) (hP:∀ c,P c→N≤c∧c < W.heap.size) (hlen:xs.length≤100000) (hbase:base≤N) :
 ∃ v' w',(Builtin.append_ #[T,T] ty #[v,.slice (some ⟨g,0,none⟩) 1 1]).run Tryz.prog W = .ok v' w'∧RowS r t d w'.heap.size w' base v' (xs ++ [x])∧W.grownBy w' v.ownBlock∧(v'.ownBlock = v.ownBlock∨v'.ownBlock = some W.heap.size) := by
 obtain ⟨us,Z,ho,hn,z1,z2,z3,hN,hr⟩ := h
 obtain ⟨v',w',hrun,o1,o2,_,o3⟩ := run_append_own_at (P := Tryz.prog) W base T ty t i (.slice none 0 0) 1 24 hT hi hz h1 h24 rfl (by omega) v us.length us ho ⟨g,0,none⟩ 1 1 [u] rfl
  (by intro j y hy
      rw [addr_add,Nat.zero_add,hg.cell j,List.getElem?_toArray]
      exact hy) (by intro y hy;rw [List.mem_singleton.1 hy];exact r.one hu) (by unfold maxLen;omega) (by omega) (by omega)
 have hsz := o2.size
 have hx:∀ c,P c→some c≠v.ownBlock := fun c hc e=>by have h1 := z3 c e.symm;have h2 := hP c hc;omega
 have hne:∀ c,c < W.heap.size→some c≠v.ownBlock→some c≠v'.ownBlock := fun c hc h2=>by
  rcases o3 with e | e
  · rw [e];exact h2
  · rw [e];intro e2;injection e2 with e2;omega
 refine ⟨v',w',hrun,⟨us ++ [u],fun j c=>(j < us.length∧Z j c)∨(j = us.length∧P c),by rw [List.length_append];exact o1,by rw [List.length_append,List.length_append,hn];rfl,?_,?_,?_,Nat.le_refl _,fun j y hy=>?_⟩,o2,o3⟩
 · rintro i j c (⟨h1,h2⟩ | ⟨rfl,h2⟩) (⟨h3,h4⟩ | ⟨rfl,h4⟩)
   · exact z1 i j c h2 h4
   · have a := (z2 i c h2).1;have b := hP c h4;omega
   · have a := (z2 j c h4).1;have b := hP c h2;omega
   · rfl
 · rintro j c (⟨h1,h2⟩ | ⟨rfl,h2⟩)
   · have a := z2 j c h2
     exact ⟨⟨a.1.1,by omega⟩,hne c (by omega) a.2.1,by rw [List.length_append];exact Nat.lt_of_lt_of_le h1 (Nat.le_add_right _ _)⟩
   · have a := hP c h2
     exact ⟨⟨by omega,by omega⟩,hne c a.2 (hx c h2),by rw [List.length_append];exact Nat.lt_succ_self _⟩
 · intro b e
   have := World.ownsRow.lt o1 b e
   exact this.2
 · rcases Nat.lt_or_ge j us.length with hj | hj
   · rw [List.getElem?_append_left hj] at hy
     rw [List.getElem?_append_left (by omega)]
     exact r.imp (r.keep (hr j y hy) fun b hb=>o2.block b (by have := (z2 j b hb).1;omega) (z2 j b hb).2.1) fun b hb=>.inl ⟨hj,hb⟩
   · rw [List.getElem?_append_right hj] at hy
     rw [List.getElem?_append_right (by omega),←hn]
     have hj0:j - us.length = 0 := by
      rcases Nat.eq_zero_or_pos (j - us.length) with h0 | h0
      · exact h0
      · rw [List.getElem?_eq_none (by simp;omega)] at hy;cases hy
     have hj1:j = us.length := by omega
     rw [hj0] at hy ⊢
     cases hy
     exact r.imp (r.keep hu fun b hb=>o2.block b (hP b hb).2 (hx b hb)) fun b hb=>.inr ⟨hj1,hb⟩
end
end Go.Proofs.YtmhgjkechbjemaaGreatDoor.Cd

namespace Go.Proofs.YtmhgjkechbjemaaGreatDoor.Cd
open Go.RowKit Go.Shelf Go.Proofs.YtmhgjkechbjemaaGreatDoor.C Go.Proofs.YtmhgjkechbjemaaGreatDoor.E Go.Proofs.YtmhgjkechbjemaaGreatDoor.Q

def ShapeAs (s css:List (List (List UInt8))):Prop := s.length = css.length∧∀ j:Nat,(s[j]?.getD []).length = (css[j]?.getD []).length∧∀ i:Nat,(cellOf_ s j i).length = (cellOf_ css j i).length
theorem ShapeAs.refl (s:List (List (List UInt8))):ShapeAs s s := ⟨rfl,fun _=>⟨rfl,fun _=>rfl⟩⟩
section
variable {P:Nat→Prop} {W:World} {v:Value} {s:List (List (List UInt8))} {X Y:Nat}
end
end Go.Proofs.YtmhgjkechbjemaaGreatDoor.Cd

namespace Go.Proofs.YtmhgjkechbjemaaGreatDoor.E
open Go.RowKit Go.Shelf Go.Proofs.YtmhgjkechbjemaaGreatDoor.C Go.ChangeShapes Go.WideShapes

theorem wf_i64 {n:Int} (h:(Lit.int .i64 n).wf = true):-9223372036854775808≤n∧n≤9223372036854775807 := by
 have := bounds_i64 h
 omega
end Go.Proofs.YtmhgjkechbjemaaGreatDoor.E

namespace Go.Proofs.YtmhgjkechbjemaaGreatDoor.Cd
open Go.RowKit Go.Shelf Go.Proofs.YtmhgjkechbjemaaGreatDoor.C Go.Proofs.YtmhgjkechbjemaaGreatDoor.E Go.ChangeShapes Go.WideShapes

theorem open_bytes9 {H:Type} {enc:TypeId × Value→H} {W:World} {base fuel:Nat} {v:Value} {x:DataW H × List MemPlace} (hf:DataW.trod enc Tryz.prog W base (fun _=>true) true fuel 32 [v] = some x):∃ (A:Option Addr) (n c:Nat) (l:List UInt8),v = .slice A n c∧Bytes W.heap.size W v l := by
 rcases open_ints Tryz.underlying32 Tryz.underlying5 (by kernel_rfl) hf with ⟨hcs,_⟩ | ⟨x,l,c,zs,hcs,_,hl,hm,hz,_,hcell,hwz⟩
 · obtain rfl:v = .slice none 0 0 := by simpa using hcs
   obtain ⟨l,_,h⟩ := row_bytes (w := W) (.inl ⟨rfl,rfl,rfl,rfl⟩:IsRow .u8 W none 0 0 [])
   exact ⟨none,0,0,l,rfl,h⟩
 · obtain rfl:v = .slice (some x) l c := by simpa using hcs
   obtain ⟨ll,_,h⟩ := row_bytes (w := W) (.inr ⟨_,rfl,hl,hm,by simpa using hz,hcell,hwz⟩:IsRow .u8 W (some x) l c zs)
   exact ⟨_,_,_,ll,rfl,h⟩
end Go.Proofs.YtmhgjkechbjemaaGreatDoor.Cd
