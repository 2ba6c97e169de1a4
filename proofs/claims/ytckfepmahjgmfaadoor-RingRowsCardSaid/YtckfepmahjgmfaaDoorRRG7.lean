/- ring: slackened, up to what puts. ring: slackened: what stands while rows are gone over. -/
import Derived.Test.YtckfepmahjgmfaaDoorRRG6
namespace Go.Proofs.YtckfepmahjgmfaaDoor.Rg
open Go.RowKit Go.Shelf Go.Maps Go.Proofs.YtckfepmahjgmfaaDoor.C Go.Proofs.YtckfepmahjgmfaaDoor.E
set_option linter.unusedSimpArgs false
set_option linter.unusedVariables false
attribute [local go_sem] Oper.semAt_some

/-- What stands behind a set of the operations. -/
structure SlF (vs ws : List Value) (Q n b0 : Nat) (zA : Option Addr) (zc : Nat) (w0 : World) (b : Nat → Bool) (x5 x6 x14 x15 x16 x17 x18 x19 x20 x21 x22 : Value) (w : World) : Prop where
  hB : Below w0.heap.size w0 w
  f0 : b 0 = true → x14 = .agg vs.toArray
  f1 : b 1 = true → x15 = .int .i64 (Q : Int)
  f2 : b 2 = true → ∃ c, x16 = .slice (some ⟨c, 0, none⟩) Q Q ∧ w0.heap.size ≤ c ∧ Blk w c 48 (List.replicate Q (Value.slice none 0 0)).toArray
  f3 : b 3 = true → x17 = .pointer (some ⟨b0, 1, none⟩)
  f4 : b 4 = true → x18 = .agg ws.toArray
  f5 : b 5 = true → x19 = .agg vs.toArray
  f6 : b 6 = true → x20 = .int .i64 (Q : Int)
  f7 : b 7 = true → x21 = .slice zA n zc
  f8 : b 8 = true → ∃ c, x22 = .func (.func 78) #[] #[.pointer (some ⟨c, 0, none⟩)] ∧ w0.heap.size ≤ c ∧ Blk w c 48 #[.slice zA n zc]
  f9 : b 9 = true → ∃ c y, x5 = .pointer (some ⟨c, 0, none⟩) ∧ w0.heap.size ≤ c ∧ Blk w c 23 #[y] ∧ (b 11 = true → y = x16)
  f10 : b 10 = true → ∃ c y, x6 = .pointer (some ⟨c, 0, none⟩) ∧ w0.heap.size ≤ c ∧ Blk w c 79 #[y] ∧ (b 12 = true → y = x22)
section
variable {vs ws : List Value} {Q n b0 : Nat} {zA : Option Addr} {zc : Nat} {w0 : World} {b b' : Nat → Bool} {x5 x6 x14 x15 x16 x17 x18 x19 x20 x21 x22 : Value} {w w' : World}
theorem SlF.below (h : SlF vs ws Q n b0 zA zc w0 b x5 x6 x14 x15 x16 x17 x18 x19 x20 x21 x22 w) (hb : Below w.heap.size w w') : SlF vs ws Q n b0 zA zc w0 b x5 x6 x14 x15 x16 x17 x18 x19 x20 x21 x22 w' where
  hB := h.hB.trans (hb.mono h.hB.size)
  f0 := h.f0
  f1 := h.f1
  f2 := fun e => by obtain ⟨c, h1, h2, h3⟩ := h.f2 e; exact ⟨c, h1, h2, h3.below hb h3.lt⟩
  f3 := h.f3
  f4 := h.f4
  f5 := h.f5
  f6 := h.f6
  f7 := h.f7
  f8 := fun e => by obtain ⟨c, h1, h2, h3⟩ := h.f8 e; exact ⟨c, h1, h2, h3.below hb h3.lt⟩
  f9 := fun e => by obtain ⟨c, y, h1, h2, h3, h4⟩ := h.f9 e; exact ⟨c, y, h1, h2, h3.below hb h3.lt, h4⟩
  f10 := fun e => by obtain ⟨c, y, h1, h2, h3, h4⟩ := h.f10 e; exact ⟨c, y, h1, h2, h3.below hb h3.lt, h4⟩
theorem SlF.less (h : SlF vs ws Q n b0 zA zc w0 b x5 x6 x14 x15 x16 x17 x18 x19 x20 x21 x22 w) (hb : ∀ k, b' k = true → b k = true) : SlF vs ws Q n b0 zA zc w0 b' x5 x6 x14 x15 x16 x17 x18 x19 x20 x21 x22 w where
  hB := h.hB
  f0 := fun e => h.f0 (hb 0 e)
  f1 := fun e => h.f1 (hb 1 e)
  f2 := fun e => h.f2 (hb 2 e)
  f3 := fun e => h.f3 (hb 3 e)
  f4 := fun e => h.f4 (hb 4 e)
  f5 := fun e => h.f5 (hb 5 e)
  f6 := fun e => h.f6 (hb 6 e)
  f7 := fun e => h.f7 (hb 7 e)
  f8 := fun e => h.f8 (hb 8 e)
  f9 := fun e => by obtain ⟨c, y, h1, h2, h3, h4⟩ := h.f9 (hb 9 e); exact ⟨c, y, h1, h2, h3, fun e => h4 (hb 11 e)⟩
  f10 := fun e => by obtain ⟨c, y, h1, h2, h3, h4⟩ := h.f10 (hb 10 e); exact ⟨c, y, h1, h2, h3, fun e => h4 (hb 12 e)⟩
theorem SlF.n0 {y_ : Value} (h : SlF vs ws Q n b0 zA zc w0 b x5 x6 x14 x15 x16 x17 x18 x19 x20 x21 x22 w) (hf : y_ = .agg vs.toArray) : SlF vs ws Q n b0 zA zc w0 (fun k => if k = 0 then true else b k) x5 x6 y_ x15 x16 x17 x18 x19 x20 x21 x22 w where
  hB := h.hB
  f0 := fun _ => hf
  f1 := h.f1
  f2 := h.f2
  f3 := h.f3
  f4 := h.f4
  f5 := h.f5
  f6 := h.f6
  f7 := h.f7
  f8 := h.f8
  f9 := h.f9
  f10 := h.f10
theorem SlF.n1 {y_ : Value} (h : SlF vs ws Q n b0 zA zc w0 b x5 x6 x14 x15 x16 x17 x18 x19 x20 x21 x22 w) (hf : y_ = .int .i64 (Q : Int)) : SlF vs ws Q n b0 zA zc w0 (fun k => if k = 1 then true else b k) x5 x6 x14 y_ x16 x17 x18 x19 x20 x21 x22 w where
  hB := h.hB
  f0 := h.f0
  f1 := fun _ => hf
  f2 := h.f2
  f3 := h.f3
  f4 := h.f4
  f5 := h.f5
  f6 := h.f6
  f7 := h.f7
  f8 := h.f8
  f9 := h.f9
  f10 := h.f10
theorem SlF.n2 {y_ : Value} (h : SlF vs ws Q n b0 zA zc w0 b x5 x6 x14 x15 x16 x17 x18 x19 x20 x21 x22 w) (hf : ∃ c, y_ = .slice (some ⟨c, 0, none⟩) Q Q ∧ w0.heap.size ≤ c ∧ Blk w c 48 (List.replicate Q (Value.slice none 0 0)).toArray) (hn : b 11 = false) : SlF vs ws Q n b0 zA zc w0 (fun k => if k = 2 then true else b k) x5 x6 x14 x15 y_ x17 x18 x19 x20 x21 x22 w where
  hB := h.hB
  f0 := h.f0
  f1 := h.f1
  f2 := fun _ => hf
  f3 := h.f3
  f4 := h.f4
  f5 := h.f5
  f6 := h.f6
  f7 := h.f7
  f8 := h.f8
  f9 := fun e => by obtain ⟨c, y, h1, h2, h3, h4⟩ := h.f9 e; exact ⟨c, y, h1, h2, h3, fun e => by have e : b 11 = true := e; rw [hn] at e; cases e⟩
  f10 := h.f10
theorem SlF.n3 {y_ : Value} (h : SlF vs ws Q n b0 zA zc w0 b x5 x6 x14 x15 x16 x17 x18 x19 x20 x21 x22 w) (hf : y_ = .pointer (some ⟨b0, 1, none⟩)) : SlF vs ws Q n b0 zA zc w0 (fun k => if k = 3 then true else b k) x5 x6 x14 x15 x16 y_ x18 x19 x20 x21 x22 w where
  hB := h.hB
  f0 := h.f0
  f1 := h.f1
  f2 := h.f2
  f3 := fun _ => hf
  f4 := h.f4
  f5 := h.f5
  f6 := h.f6
  f7 := h.f7
  f8 := h.f8
  f9 := h.f9
  f10 := h.f10
theorem SlF.n4 {y_ : Value} (h : SlF vs ws Q n b0 zA zc w0 b x5 x6 x14 x15 x16 x17 x18 x19 x20 x21 x22 w) (hf : y_ = .agg ws.toArray) : SlF vs ws Q n b0 zA zc w0 (fun k => if k = 4 then true else b k) x5 x6 x14 x15 x16 x17 y_ x19 x20 x21 x22 w where
  hB := h.hB
  f0 := h.f0
  f1 := h.f1
  f2 := h.f2
  f3 := h.f3
  f4 := fun _ => hf
  f5 := h.f5
  f6 := h.f6
  f7 := h.f7
  f8 := h.f8
  f9 := h.f9
  f10 := h.f10
theorem SlF.n5 {y_ : Value} (h : SlF vs ws Q n b0 zA zc w0 b x5 x6 x14 x15 x16 x17 x18 x19 x20 x21 x22 w) (hf : y_ = .agg vs.toArray) : SlF vs ws Q n b0 zA zc w0 (fun k => if k = 5 then true else b k) x5 x6 x14 x15 x16 x17 x18 y_ x20 x21 x22 w where
  hB := h.hB
  f0 := h.f0
  f1 := h.f1
  f2 := h.f2
  f3 := h.f3
  f4 := h.f4
  f5 := fun _ => hf
  f6 := h.f6
  f7 := h.f7
  f8 := h.f8
  f9 := h.f9
  f10 := h.f10
theorem SlF.n6 {y_ : Value} (h : SlF vs ws Q n b0 zA zc w0 b x5 x6 x14 x15 x16 x17 x18 x19 x20 x21 x22 w) (hf : y_ = .int .i64 (Q : Int)) : SlF vs ws Q n b0 zA zc w0 (fun k => if k = 6 then true else b k) x5 x6 x14 x15 x16 x17 x18 x19 y_ x21 x22 w where
  hB := h.hB
  f0 := h.f0
  f1 := h.f1
  f2 := h.f2
  f3 := h.f3
  f4 := h.f4
  f5 := h.f5
  f6 := fun _ => hf
  f7 := h.f7
  f8 := h.f8
  f9 := h.f9
  f10 := h.f10
theorem SlF.n7 {y_ : Value} (h : SlF vs ws Q n b0 zA zc w0 b x5 x6 x14 x15 x16 x17 x18 x19 x20 x21 x22 w) (hf : y_ = .slice zA n zc) : SlF vs ws Q n b0 zA zc w0 (fun k => if k = 7 then true else b k) x5 x6 x14 x15 x16 x17 x18 x19 x20 y_ x22 w where
  hB := h.hB
  f0 := h.f0
  f1 := h.f1
  f2 := h.f2
  f3 := h.f3
  f4 := h.f4
  f5 := h.f5
  f6 := h.f6
  f7 := fun _ => hf
  f8 := h.f8
  f9 := h.f9
  f10 := h.f10
theorem SlF.n8 {y_ : Value} (h : SlF vs ws Q n b0 zA zc w0 b x5 x6 x14 x15 x16 x17 x18 x19 x20 x21 x22 w) (hf : ∃ c, y_ = .func (.func 78) #[] #[.pointer (some ⟨c, 0, none⟩)] ∧ w0.heap.size ≤ c ∧ Blk w c 48 #[.slice zA n zc]) (hn : b 12 = false) : SlF vs ws Q n b0 zA zc w0 (fun k => if k = 8 then true else b k) x5 x6 x14 x15 x16 x17 x18 x19 x20 x21 y_ w where
  hB := h.hB
  f0 := h.f0
  f1 := h.f1
  f2 := h.f2
  f3 := h.f3
  f4 := h.f4
  f5 := h.f5
  f6 := h.f6
  f7 := h.f7
  f8 := fun _ => hf
  f9 := h.f9
  f10 := fun e => by obtain ⟨c, y, h1, h2, h3, h4⟩ := h.f10 e; exact ⟨c, y, h1, h2, h3, fun e => by have e : b 12 = true := e; rw [hn] at e; cases e⟩
theorem SlF.n9 {y_ : Value} (h : SlF vs ws Q n b0 zA zc w0 b x5 x6 x14 x15 x16 x17 x18 x19 x20 x21 x22 w) (hf : ∃ c y, y_ = .pointer (some ⟨c, 0, none⟩) ∧ w0.heap.size ≤ c ∧ Blk w c 23 #[y]) (hn : b 11 = false) : SlF vs ws Q n b0 zA zc w0 (fun k => if k = 9 then true else b k) y_ x6 x14 x15 x16 x17 x18 x19 x20 x21 x22 w where
  hB := h.hB
  f0 := h.f0
  f1 := h.f1
  f2 := h.f2
  f3 := h.f3
  f4 := h.f4
  f5 := h.f5
  f6 := h.f6
  f7 := h.f7
  f8 := h.f8
  f9 := fun _ => by obtain ⟨c, y, h1, h2, h3⟩ := hf; exact ⟨c, y, h1, h2, h3, fun e => by have e : b 11 = true := e; rw [hn] at e; cases e⟩
  f10 := h.f10
theorem SlF.n10 {y_ : Value} (h : SlF vs ws Q n b0 zA zc w0 b x5 x6 x14 x15 x16 x17 x18 x19 x20 x21 x22 w) (hf : ∃ c y, y_ = .pointer (some ⟨c, 0, none⟩) ∧ w0.heap.size ≤ c ∧ Blk w c 79 #[y]) (hn : b 12 = false) : SlF vs ws Q n b0 zA zc w0 (fun k => if k = 10 then true else b k) x5 y_ x14 x15 x16 x17 x18 x19 x20 x21 x22 w where
  hB := h.hB
  f0 := h.f0
  f1 := h.f1
  f2 := h.f2
  f3 := h.f3
  f4 := h.f4
  f5 := h.f5
  f6 := h.f6
  f7 := h.f7
  f8 := h.f8
  f9 := h.f9
  f10 := fun _ => by obtain ⟨c, y, h1, h2, h3⟩ := hf; exact ⟨c, y, h1, h2, h3, fun e => by have e : b 12 = true := e; rw [hn] at e; cases e⟩
theorem blk_ne {t t' : TypeId} {cs cs' : Array Value} {c c' : Nat} (h : Blk w c t cs) (h' : Blk w c' t' cs') (ht : t ≠ t') : c ≠ c' := fun e => by
  subst e
  unfold Blk at h h'
  rw [h] at h'
  injection h' with h'
  injection h' with _ h'
  exact ht h'
theorem SlF.s11 {c : Nat} {y : Value} (h : SlF vs ws Q n b0 zA zc w0 b (.pointer (some ⟨c, 0, none⟩)) x6 x14 x15 x16 x17 x18 x19 x20 x21 x22 w) (hc : w0.heap.size ≤ c) (hb : Blk w c 23 #[y]) : SlF vs ws Q n b0 zA zc w0 (fun k => if k = 11 then true else b k) (.pointer (some ⟨c, 0, none⟩)) x6 x14 x15 x16 x17 x18 x19 x20 x21 x22 (w.setCell ⟨c, 0, none⟩ x16) where
  hB := h.hB.setCell hc _
  f0 := h.f0
  f1 := h.f1
  f2 := fun e => by obtain ⟨d, h1, h2, h3⟩ := h.f2 e; exact ⟨d, h1, h2, h3.far (blk_ne h3 hb (by decide)) _⟩
  f3 := h.f3
  f4 := h.f4
  f5 := h.f5
  f6 := h.f6
  f7 := h.f7
  f8 := fun e => by obtain ⟨d, h1, h2, h3⟩ := h.f8 e; exact ⟨d, h1, h2, h3.far (blk_ne h3 hb (by decide)) _⟩
  f9 := fun e => ⟨c, x16, rfl, hc, hb.set_ 0 _, fun _ => rfl⟩
  f10 := fun e => by obtain ⟨d, y, h1, h2, h3, h4⟩ := h.f10 e; exact ⟨d, y, h1, h2, h3.far (blk_ne h3 hb (by decide)) _, h4⟩
theorem SlF.s12 {c : Nat} {y : Value} (h : SlF vs ws Q n b0 zA zc w0 b x5 (.pointer (some ⟨c, 0, none⟩)) x14 x15 x16 x17 x18 x19 x20 x21 x22 w) (hc : w0.heap.size ≤ c) (hb : Blk w c 79 #[y]) : SlF vs ws Q n b0 zA zc w0 (fun k => if k = 12 then true else b k) x5 (.pointer (some ⟨c, 0, none⟩)) x14 x15 x16 x17 x18 x19 x20 x21 x22 (w.setCell ⟨c, 0, none⟩ x22) where
  hB := h.hB.setCell hc _
  f0 := h.f0
  f1 := h.f1
  f2 := fun e => by obtain ⟨d, h1, h2, h3⟩ := h.f2 e; exact ⟨d, h1, h2, h3.far (blk_ne h3 hb (by decide)) _⟩
  f3 := h.f3
  f4 := h.f4
  f5 := h.f5
  f6 := h.f6
  f7 := h.f7
  f8 := fun e => by obtain ⟨d, h1, h2, h3⟩ := h.f8 e; exact ⟨d, h1, h2, h3.far (blk_ne h3 hb (by decide)) _⟩
  f9 := fun e => by obtain ⟨d, y, h1, h2, h3, h4⟩ := h.f9 e; exact ⟨d, y, h1, h2, h3.far (blk_ne h3 hb (by decide)) _, h4⟩
  f10 := fun e => ⟨c, x22, rfl, hc, hb.set_ 0 _, fun _ => rfl⟩
end
/-- What stands when these operations are done. -/
def SlI (vs ws : List Value) (Q n b0 : Nat) (zA : Option Addr) (zc : Nat) (w0 : World) (by_ pl : Int) (listed : Array Bool) (a : Act) (w : World) : Prop :=
  ∃ x5 x6 x14 x15 x16 x17 x18 x19 x20 x21 x22 : Value, a = { tmps := #[.agg vs.toArray, .int .i64 by_, .pointer (some ⟨b0, 0, none⟩), undef, .slice none 0 0, x5, x6, undef, undef, .agg vs.toArray, .int .i64 by_, .int .i64 pl, .bool true, .tuple #[], x14, x15, x16, x17, x18, x19, x20, x21, x22, undef, undef, undef, undef, undef, undef, undef, undef, undef, undef, undef, undef, undef, undef, undef, undef, undef, undef, undef, undef, undef, undef, undef], defers := [] } ∧ SlF vs ws Q n b0 zA zc w0 (fun k => listed.getD k false) x5 x6 x14 x15 x16 x17 x18 x19 x20 x21 x22 w ∧ (listed.getD 11 false = true → listed.getD 2 false = true) ∧ (listed.getD 12 false = true → listed.getD 8 false = true) ∧ (listed.getD 11 false = true → listed.getD 9 false = true) ∧ (listed.getD 12 false = true → listed.getD 10 false = true)
theorem listed_less {listed : Array Bool} {i : Nat} : ∀ k, (listed.setIfInBounds i true).getD k false = true → (fun k => if k = i then true else listed.getD k false) k = true := fun k h => by
  by_cases e : k = i
  · simp [e]
  · rw [listed_ne (fun h => e h.symm)] at h
    simp [e, h]
theorem listed_c {listed : Array Bool} {i p q : Nat} (h : listed.getD p false = true → listed.getD q false = true) (hn : listed.getD i false = false) (hp : i = p → listed.getD q false = true) (hpq : p ≠ q) : (listed.setIfInBounds i true).getD p false = true → (listed.setIfInBounds i true).getD q false = true := fun e => by
  by_cases e1 : i = p
  · subst e1
    rw [listed_ne hpq]
    exact hp rfl
  · rw [listed_ne e1] at e
    by_cases e2 : i = q
    · subst e2
      rw [hn] at h
      exact absurd (h e) (by simp)
    · rw [listed_ne e2]
      exact h e
end Go.Proofs.YtckfepmahjgmfaaDoor.Rg

namespace Go.Proofs.YtckfepmahjgmfaaDoor.Rg
open Go.RowKit Go.Shelf Go.Maps Go.Proofs.YtckfepmahjgmfaaDoor.C Go.Proofs.YtckfepmahjgmfaaDoor.E
set_option linter.unusedSimpArgs false
set_option linter.unusedVariables false

theorem colMany {B b0 P n : Nat} {W : World} {f : Nat → List UInt8} {vs : List Value} {t : TypeId} (h : ColV B W P n f vs) (hb : Blk W b0 t vs.toArray) (hB : B ≤ W.heap.size) (hP : P ≤ 17) : Many W.heap.size W (.slice (some ⟨b0, 1, none⟩) P 17) ((List.range P).map f) := by
  refine ⟨_, 17, by rw [List.length_map, List.length_range], by rw [List.length_map, List.length_range]; exact hP, fun _ => ⟨b0, 1, rfl, hb.lt, fun j hj => ?_⟩⟩
  rw [List.length_map, List.length_range] at hj
  obtain ⟨_, u, h1, h2⟩ := h.2.2.1 j hj
  refine ⟨u, by rw [Nat.add_comm, hb.cell, List.getElem?_toArray]; exact h1, ?_⟩
  rw [List.getElem?_map, List.getElem?_range hj]
  exact h2.more hB
/-- What is held once these rows were put. -/
def hld (f : Nat → List UInt8) (z all : List UInt8) (l : List Int) : List UInt8 := l.foldl (fun h x => xorOf [h, xorOf [f x.toNat, all]]) z
theorem hld_snoc (f : Nat → List UInt8) (z all : List UInt8) (l : List Int) (x : Int) : hld f z all (l ++ [x]) = xorOf [hld f z all l, xorOf [f x.toNat, all]] := by unfold hld; rw [List.foldl_append]; rfl
theorem hld_len {f : Nat → List UInt8} {z all : List UInt8} {n : Nat} (hz : z.length = n) : ∀ (l : List Int), (hld f z all l).length = n := by
  intro l
  unfold hld
  induction l generalizing z with
  | nil => exact hz
  | cons x l ih => exact ih (by rw [xorOf_len]; exact hz)
theorem toNat_ne {x y : Int} (hx : 0 ≤ x) (hy : 0 ≤ y) (h : y ≠ x) : x.toNat ≠ y.toNat := by omega
/-- The block that a slice leads to. -/
def vblk : Value → Option Nat
  | .slice (some a) _ _ => some a.block
  | _ => none
/-- The blocks of some slices, from B on. -/
def ownV (B : Nat) (us : List Value) (b : Nat) : Prop := B ≤ b ∧ ∃ u ∈ us, vblk u = some b
theorem BytesA.vblk {A : Nat → Prop} {X Y : World} {u : Value} {l : List UInt8} (h : BytesA A X u l) (hs : X.heap.size ≤ Y.heap.size) (ho : ∀ b, b < X.heap.size → Rg.vblk u = some b → Y.heap[b]? = X.heap[b]?) : BytesA A Y u l := by
  obtain ⟨a, cap, rfl, hc, hb⟩ := h
  refine ⟨a, cap, rfl, hc, fun hp => ?_⟩
  obtain ⟨b, off, rfl, h1, h2, hcell⟩ := hb hp
  exact ⟨b, off, rfl, Nat.lt_of_lt_of_le h1 hs, h2, fun j hj => (World.cell?_of_block (ho b h1 rfl)).trans (hcell j hj)⟩
theorem fresh_vblk {B : Nat} {X Y : World} {u : Value} {l : List UInt8} (h : Fresh B X u l) (hs : X.heap.size ≤ Y.heap.size) (ho : ∀ b, b < X.heap.size → Rg.vblk u = some b → Y.heap[b]? = X.heap[b]?) : Fresh B Y u l := by
  obtain ⟨a, cap, rfl, hc, hb⟩ := h
  refine ⟨a, cap, rfl, hc, fun hp => ?_⟩
  obtain ⟨b, off, rfl, h1, h2, hcell⟩ := hb hp
  exact ⟨b, off, rfl, h1, Nat.lt_of_lt_of_le h2 hs, fun j hj => (World.cell?_of_block (ho b h2 rfl)).trans (hcell j hj)⟩
/-- What stands once these rows were put: what is held (hv, in gh), and what is made (ms, in gm). -/
structure Put (B gm gh Q : Nat) (f : Nat → List UInt8) (z all : List UInt8) (n : Nat) (pre : List Int) (X : World) (hv : Value) (ms : List Value) : Prop where
  lm : gm < B
  lh : gh < B
  bm : Blk X gm 48 ms.toArray
  bh : Blk X gh 48 #[hv]
  len : ms.length = Q
  held : BytesA (fun b => b = gm ∨ b = gh) X hv (hld f z all pre)
  inn : ∀ x ∈ pre, 0 ≤ x ∧ x.toNat < Q
  made : ∀ j x, pre[j]? = some x → x ∉ pre.drop (j + 1) → ∃ u, ms[x.toNat]? = some u ∧ Fresh B X u (hld f z all (pre.take (j + 1)))
  rows : ∀ u ∈ hv :: ms, ∀ b, vblk u = some b → ∃ cs t fr, X.heap[b]? = some (.cells cs t fr)
section
variable {gm gh Q n B : Nat} {f : Nat → List UInt8} {z all : List UInt8} {pre : List Int} {X Y : World} {hv : Value} {ms : List Value}
theorem Put.rowO (h : Put B gm gh Q f z all n pre X hv ms) : T.RowO (ownV B (hv :: ms)) X := fun b ⟨_, u, hu, e⟩ => h.rows u hu b e
theorem Put.far (h : Put B gm gh Q f z all n pre X hv ms) {row : Option Nat} (hg : X.grownBy Y row) (hr : ∀ r, row = some r → B ≤ r ∧ ¬ ownV B (hv :: ms) r) : Put B gm gh Q f z all n pre Y hv ms := by
  have hgm := h.lm
  have hgh := h.lh
  have hk : ∀ u ∈ hv :: ms, ∀ b, b < X.heap.size → vblk u = some b → Y.heap[b]? = X.heap[b]? := fun u hu b hb e => hg.block b hb (fun e2 => by
    have h1 := hr b e2.symm
    exact h1.2 ⟨h1.1, u, hu, e⟩)
  refine ⟨h.lm, h.lh, h.bm.grown hg (fun e => by have := (hr gm e.symm).1; omega), h.bh.grown hg (fun e => by have := (hr gh e.symm).1; omega), h.len, h.held.vblk hg.size (hk hv (.head _)), h.inn, fun j x hj hn => ?_, fun u hu b e => ?_⟩
  · obtain ⟨u, h1, h2⟩ := h.made j x hj hn
    exact ⟨u, h1, fresh_vblk h2 hg.size (hk u (.tail _ (List.mem_of_getElem? h1)))⟩
  · obtain ⟨cs, t, fr, h1⟩ := h.rows u hu b e
    exact ⟨cs, t, fr, (hk u hu b (Array.getElem?_eq_some_iff.1 h1).1 e).trans h1⟩
theorem farO_put : T.FarO B (fun (pre : List Int) o X => ∃ hv ms, Put B gm gh Q f z all n pre X hv ms ∧ o = ownV B (hv :: ms)) := fun pre o X Y row ⟨hv, ms, hp, ho⟩ hg hr =>
  ⟨hv, ms, hp.far hg (by rw [← ho]; exact hr), ho⟩
theorem Put.below (h : Put B gm gh Q f z all n pre X hv ms) (hb : Below X.heap.size X Y) : Put B gm gh Q f z all n pre Y hv ms := h.far (row := none) (grown_below hb) (fun r e => by cases e)
/-- A row more. -/
theorem Put.next (h : Put B gm gh Q f z all n pre X hv ms) {x : Int} {r : Value} {V : World} {base : Nat} (x0 : 0 ≤ x) (x1 : x.toNat < Q) (hne : gm ≠ gh) (hB : Below X.heap.size X V) (hr : Fresh base V r (xorOf [hld f z all pre, xorOf [f x.toNat, all]])) (hb : X.heap.size ≤ base) (hBX : B ≤ X.heap.size) (hn : 0 < (xorOf [hld f z all pre, xorOf [f x.toNat, all]]).length) :
    Put B gm gh Q f z all n (pre ++ [x]) ((V.setCell ⟨gh, 0, none⟩ r).setCell ⟨gm, x.toNat, none⟩ r) r (ms.set x.toNat r) ∧ T.FreshO (ownV B (hv :: ms)) (ownV B (r :: ms.set x.toNat r)) X := by
  have hlm := h.bm.lt
  have hlh := h.bh.lt
  have hO1 : Only (fun b => b = gm ∨ b = gh) V ((V.setCell ⟨gh, 0, none⟩ r).setCell ⟨gm, x.toNat, none⟩ r) := (Only.set (.inr rfl) _).trans (Only.set (.inl rfl) _)
  have hO : Only (fun b => b = gm ∨ b = gh) X ((V.setCell ⟨gh, 0, none⟩ r).setCell ⟨gm, x.toNat, none⟩ r) := (Only.below hB).trans hO1
  have hlm' := h.lm
  have hlh' := h.lh
  have hfa : Fresh B ((V.setCell ⟨gh, 0, none⟩ r).setCell ⟨gm, x.toNat, none⟩ r) r (hld f z all (pre ++ [x])) := by
    rw [hld_snoc]
    exact fresh_only (fresh_more hr (Nat.le_trans hBX hb)) hO1 (fun b e => by omega)
  have hra : BytesA (fun b => b = gm ∨ b = gh) ((V.setCell ⟨gh, 0, none⟩ r).setCell ⟨gm, x.toNat, none⟩ r) r (hld f z all (pre ++ [x])) := by
    rw [hld_snoc]
    exact (BytesA.of_fresh hr (fun b e => by omega)).only hO1
  obtain ⟨ra, rc, er, _, hrb⟩ := hr
  obtain ⟨b, off, e2, hb1, hb2, hcell⟩ := hrb hn
  have hvb : vblk r = some b := by rw [er, e2]; rfl
  have hcells : ∃ cs t fr, ((V.setCell ⟨gh, 0, none⟩ r).setCell ⟨gm, x.toNat, none⟩ r).heap[b]? = some (.cells cs t fr) := by
    have h0 := hcell 0 hn
    have hbe : ((V.setCell ⟨gh, 0, none⟩ r).setCell ⟨gm, x.toNat, none⟩ r).heap[b]? = V.heap[b]? := hO1.2 b hb2 (by omega)
    rw [hbe]
    unfold World.cell? at h0
    revert h0
    cases hh : V.heap[b]? with
    | none => simp
    | some ob => cases ob <;> simp
  refine ⟨⟨h.lm, h.lh, ?_, ?_, by rw [List.length_set]; exact h.len, hra, fun y hy => ?_, fun j y hj hny => ?_, fun u hu c e => ?_⟩, fun c hc => ?_⟩
  · have := ((h.bm.below hB hlm).far (p := ⟨gh, 0, none⟩) hne r).set_ x.toNat r
    rwa [List.setIfInBounds_toArray] at this
  · exact (((h.bh.below hB hlh).set_ 0 r)).far (p := ⟨gm, x.toNat, none⟩) (fun e => hne e.symm) r
  · rcases List.mem_append.1 hy with hy | hy
    · exact h.inn y hy
    · obtain rfl := List.mem_singleton.1 hy
      exact ⟨x0, x1⟩
  · rcases Nat.lt_or_ge j pre.length with hlt | hge
    · rw [List.getElem?_append_left hlt] at hj
      rw [List.drop_append_of_le_length (by omega)] at hny
      obtain ⟨u, h1, h2⟩ := h.made j y hj (fun e => hny (List.mem_append.2 (.inl e)))
      have hyx : y ≠ x := fun e => hny (List.mem_append.2 (.inr (by rw [e]; exact List.mem_singleton.2 rfl)))
      have hy0 := (h.inn y (List.mem_of_getElem? hj)).1
      refine ⟨u, by rw [List.getElem?_set_ne (toNat_ne x0 hy0 hyx)]; exact h1, ?_⟩
      rw [List.take_append_of_le_length (by omega)]
      exact fresh_only h2 hO (fun b e => by omega)
    · have hjl : j = pre.length := by
        have := (List.getElem?_eq_some_iff.1 hj).1
        rw [List.length_append, List.length_singleton] at this
        omega
      subst hjl
      rw [List.getElem?_append_right (Nat.le_refl _), Nat.sub_self] at hj
      obtain rfl : x = y := by simpa using hj
      refine ⟨r, List.getElem?_set_self (by rw [h.len]; exact x1), ?_⟩
      rw [List.take_of_length_le (by rw [List.length_append, List.length_singleton]; exact Nat.le_refl _)]
      exact hfa
  · have hold : u ∈ hv :: ms → ∃ cs t fr, ((V.setCell ⟨gh, 0, none⟩ r).setCell ⟨gm, x.toNat, none⟩ r).heap[c]? = some (.cells cs t fr) := fun hu => by
      obtain ⟨cs, t, fr, h1⟩ := h.rows u hu c e
      have hc := (Array.getElem?_eq_some_iff.1 h1).1
      by_cases h2 : c = gm
      · subst h2
        have := ((h.bm.below hB hlm).far (p := ⟨gh, 0, none⟩) hne r).set_ x.toNat r
        exact ⟨_, _, _, this⟩
      · by_cases h3 : c = gh
        · subst h3
          have := (((h.bh.below hB hlh).set_ 0 r)).far (p := ⟨gm, x.toNat, none⟩) (fun e => hne e.symm) r
          exact ⟨_, _, _, this⟩
        · exact ⟨cs, t, fr, (hO.2 c hc (fun e => e.elim h2 h3)).trans h1⟩
    rcases List.mem_cons.1 hu with rfl | hu
    · rw [hvb] at e
      injection e with e
      subst e
      exact hcells
    · rcases List.mem_or_eq_of_mem_set hu with h1 | rfl
      · exact hold (.tail _ h1)
      · rw [hvb] at e
        injection e with e
        subst e
        exact hcells
  · obtain ⟨hBc, u, hu, e⟩ := hc
    have hrc : vblk r = some c → ownV B (hv :: ms) c ∨ X.heap.size ≤ c := fun e => by
      rw [hvb] at e
      injection e with e
      exact .inr (by omega)
    rcases List.mem_cons.1 hu with rfl | hu
    · exact hrc e
    · rcases List.mem_or_eq_of_mem_set hu with h1 | rfl
      · exact .inl ⟨hBc, u, .tail _ h1, e⟩
      · exact hrc e
end
/-- What is slackened, row by row. -/
def slackL (P Q : Nat) (f : Nat → List UInt8) (by_ : Int) : List (List UInt8) := (List.range Q).map fun r : Nat => hld f (f Q) (xorOf ((List.range P).map f)) ((rowsF P (walkN P ((P : Int) - 1) by_)).take ((rowsF P (walkN P ((P : Int) - 1) by_)).idxOf (r : Int) + 1))
theorem slack_rows (P Q : Nat) (hQ : P = Q + 1) (hp : (P : Int) ∈ prm) (by_ : Int) (hby : by_ % (P : Int) ≠ 0) : (rowsF P (walkN P ((P : Int) - 1) by_)).Nodup ∧ (∀ r : Nat, r < Q → (r : Int) ∈ rowsF P (walkN P ((P : Int) - 1) by_)) ∧ ∀ x ∈ rowsF P (walkN P ((P : Int) - 1) by_), 0 ≤ x ∧ x < (P : Int) - 1 := by
  have hb := prm_bounds hp
  have h0 := Int.emod_nonneg by_ (show (P : Int) ≠ 0 by omega)
  have h1 := Int.emod_lt_of_pos by_ (show (0 : Int) < P by omega)
  obtain ⟨i, i0, i1, hi⟩ := inv_ex (P : Int) hp (by_ % (P : Int)) h0 h1 hby
  rw [walkN_yes (fine_one.2 ⟨hp, by omega, by omega⟩), Int.toNat_natCast]
  have hn := walk_nodup P ((P : Int) - 1) (by_ % (P : Int)) i hi
  have hin := walk_in P (by omega) ((P : Int) - 1) (by_ % (P : Int))
  refine ⟨List.Nodup.sublist List.filter_sublist hn, fun r hr => ?_, fun x hx => ?_⟩
  · unfold rowsF
    refine List.mem_filter.2 ⟨?_, by simp; omega⟩
    have hc := walk_comes P (by omega) ((P : Int) - 1) (r : Int) (by_ % (P : Int)) i hi (by omega) (by omega)
    have h2 := Int.emod_nonneg (((r : Int) - ((P : Int) - 1)) % (P : Int) * i) (show (P : Int) ≠ 0 by omega)
    have h3 := Int.emod_lt_of_pos (((r : Int) - ((P : Int) - 1)) % (P : Int) * i) (show (0 : Int) < P by omega)
    unfold walkL
    exact List.mem_map.2 ⟨_, List.mem_range.2 (by omega), hc⟩
  · unfold rowsF at hx
    have h2 := List.mem_filter.1 hx
    have h3 := hin x h2.1
    have h4 : x ≠ (P : Int) - 1 := by simpa using h2.2
    omega
theorem cell_put {X : World} {D : Nat} {ds : Option (List Deferred)} {ob : Obj} {p : Addr} {u : Value} (hD : X.heap[D]? = some (.deferred ds)) (h : X.cell? p = some u) : (X.putObj D ob).cell? p = some u := by
  have hne : p.block ≠ D := fun e => by
    unfold World.cell? at h
    rw [e, hD] at h
    simp at h
  exact (World.cell?_of_block (World.putObj_heap_other hne)).trans h
theorem fresh_put {X : World} {D base : Nat} {ds : Option (List Deferred)} {ob : Obj} {v : Value} {l : List UInt8} (hD : X.heap[D]? = some (.deferred ds)) (h : Fresh base X v l) : Fresh base (X.putObj D ob) v l := by
  obtain ⟨a, cap, e, hc, hb⟩ := h
  refine ⟨a, cap, e, hc, fun hp => ?_⟩
  obtain ⟨b, off, e2, h1, h2, hcell⟩ := hb hp
  exact ⟨b, off, e2, h1, by simpa [World.putObj] using h2, fun j hj => cell_put hD (hcell j hj)⟩
theorem freshMany_put {X : World} {D base : Nat} {ds : Option (List Deferred)} {ob : Obj} {v : Value} {ls : List (List UInt8)} (hD : X.heap[D]? = some (.deferred ds)) (h : FreshMany base X v ls) : FreshMany base (X.putObj D ob) v ls := by
  obtain ⟨a, cap, e, hc, hb⟩ := h
  refine ⟨a, cap, e, hc, fun hp => ?_⟩
  obtain ⟨b, off, e2, h1, h2, hcell⟩ := hb hp
  refine ⟨b, off, e2, h1, by simpa [World.putObj] using h2, fun j hj => ?_⟩
  obtain ⟨u, h3, h4⟩ := hcell j hj
  exact ⟨u, cell_put hD h3, fresh_put hD h4⟩
theorem idx_fact {zs : List Int} (hn : zs.Nodup) {x : Int} (hx : x ∈ zs) : zs[zs.idxOf x]? = some x ∧ x ∉ zs.drop (zs.idxOf x + 1) := by
  have hlt := List.idxOf_lt_length_of_mem hx
  have he : zs[zs.idxOf x]? = some x := by rw [List.getElem?_eq_getElem hlt, List.getElem_idxOf hlt]
  refine ⟨he, fun hd => ?_⟩
  obtain ⟨k, hk⟩ := List.getElem?_of_mem hd
  rw [List.getElem?_drop] at hk
  have hk2 := (List.getElem?_eq_some_iff.1 hk).1
  have := (List.getElem?_inj hlt hn).1 (he.trans hk.symm)
  omega
end Go.Proofs.YtckfepmahjgmfaaDoor.Rg

