/- The document's Put, Xor. -/
import Derived.Test.YtggdlklkjnbbjaaGreatDoorCwK
import Derived.Deep.RegionLaw
namespace Go.Proofs.YtggdlklkjnbbjaaGreatDoor.C
open Go.RowKit Go.Shelf

theorem OwnB.grown_ {w w' : World} {base : Nat} {v : Value} {l : List UInt8} (h : OwnB w base v l) (hg : w.grownBy w' none) : OwnB w' base v l :=
  World.ownsRow.kept h hg (by cases hv : v.ownBlock <;> simp)
theorem grown_drew {a w : World} {row : Option Nat} (h : a.grownBy w row) : a.grownBy w.drew row := ⟨h.os, h.tape, h.output, h.size, h.block⟩
theorem one_bytes (w : World) (c : UInt8) : Bytes (w.heap.size + 1) (w.alloc (.cells #[.int .u8 (c.toNat : Int)] 5)) (.slice (some ⟨w.heap.size, 0, none⟩) 1 1) [c] := by
  refine ⟨_, 1, rfl, Nat.le_refl _, fun _ => ⟨w.heap.size, 0, rfl, by omega, fun j hj => ?_⟩⟩
  obtain rfl : j = 0 := by simpa using hj
  exact (Blk.new w _ _).one

theorem xorB_take (a b : List UInt8) (k : Nat) (hk : k < a.length) : (xorB a b).take (k + 1) = (xorB a b).take k ++ [at_ a k ^^^ at_ b k] := by
  rw [List.take_succ_eq_append_getElem (by rw [xorB_len]; exact hk)]
  have := xorB_at a b k hk
  unfold at_ at this ⊢
  rw [List.getElem?_eq_getElem (by rw [xorB_len]; exact hk)] at this
  rw [← this]; rfl

set_option maxHeartbeats 600000 in
theorem rput_any (v1 v2 : Value) (a b : List UInt8) (w : World) (h1 : Bytes w.heap.size w v1 a) (h2 : Bytes w.heap.size w v2 b) (hl : a.length ≤ b.length) (hlen : a.length ≤ 1000000) :
    Calls Tryz.prog 25 #[v1, v2] w fun e w' => ∃ v', e = .returned v' ∧ OwnB w' w.heap.size v' (xorB a b) ∧ Below w.heap.size w w' := by
  obtain ⟨i0, hi, hz0, hz1, hz2⟩ := info_parts Tryz.infoByte
  obtain ⟨A1, cap1, rfl, _, hA1⟩ := h1
  obtain ⟨A2, cap2, rfl, _, hA2⟩ := h2
  go_enter Tryz.func25, Tryz.ntmps25
  go_wp2
  go_loopw [5, 6] (fun v i wr => ∃ k : Nat, k ≤ a.length ∧ i = .int .i64 k ∧ OwnB wr w.heap.size v ((xorB a b).take k) ∧ Below w.heap.size w wr) (fun _ i _ => a.length - (intOf i).toNat)
  case atStart => exact ⟨0, Nat.zero_le _, rfl, own_nil _ _, Below.refl _ _⟩
  case round =>
    obtain ⟨k, hk, rfl, hown, hB⟩ := hrel
    by_cases hlt : k < a.length
    · have hdec : decide ((k : Int) < (a.length : Int)) = true := by simp; omega
      have hk2 : (k : Int) < (b.length : Int) := by omega
      obtain ⟨b1, o1, rfl, hb1, hcell1⟩ := hA1 (by omega)
      obtain ⟨b2, o2, rfl, hb2, hcell2⟩ := hA2 (by omega)
      have hc1 : wr.cell? ⟨b1, o1 + k, none⟩ = some (.int .u8 ((at_ a k).toNat : Int)) := (hB.cell (p := ⟨b1, o1 + k, none⟩) hb1).trans (hcell1 k hlt)
      have hc2 : wr.cell? ⟨b2, o2 + k, none⟩ = some (.int .u8 ((at_ b k).toNat : Int)) := (hB.cell (p := ⟨b2, o2 + k, none⟩) hb2).trans (hcell2 k (by omega))
      have HN := Lib.hid (xorB_take a b k hlt)
      have hx := bits_u8 (at_ a k) (at_ b k)
      have hpl : ((xorB a b).take k).length ≤ 1000000 := by rw [List.length_take]; omega
      have hs := hB.size
      clear hcell1 hcell2 hA1 hA2
      generalize at_ a k = x at *
      generalize at_ b k = y at *
      generalize (xorB a b).take k = p at *
      have HO := Lib.hid (hown.grown_ ((grown_drew (World.grownBy.refl wr none)).trans (World.grownBy_alloc wr.drew (.cells #[.int .u8 ((x ^^^ y).toNat : Int)] 5) none)))
      have HY := Lib.hid (one_bytes wr.drew (x ^^^ y))
      have hbl1 : b1 < wr.heap.size := by omega
      have hbl2 : b2 < wr.heap.size := by omega
      go_wp2
      go_region_law (refine step_app _ rfl (.tmp 13) (.tmp 23) rfl w.heap.size i0 Tryz.underlying25 hi hz0 hz1 hz2 _ p rfl HO.out (wr.drew.heap.size + 1) _ [x ^^^ y] rfl HY.out (by simp; omega) (by simp; omega) ?_; intro v2 w2 hown2 hgrow2 _)
      all_goals go_wp2
      all_goals go_roundw
      all_goals (first
        | exact ⟨k + 1, by omega, by go_num, by rw [HN.out]; exact hown2, below_grown (hB.drew.alloc hB.size _) hgrow2 (by simp; omega) (fun g e => (World.ownsRow.lt hown g e).1)⟩
        | (simp [intOf]; omega))
    · obtain rfl : k = a.length := by omega
      have e1 : decide ((a.length : Int) < (a.length : Int)) = false := by simp
      rw [List.take_of_length_le (by rw [xorB_len]; exact Nat.le_refl _)] at hown
      go_wp2
      go_ret
      exact ⟨_, rfl, hown, hB⟩

theorem alike_not {ls : List (List UInt8)} {k : Nat} (hk : k < ls.length) (h : ¬ (Cell (ls[k]?.getD []) ∧ (ls[k]?.getD []).length = (ls[0]?.getD []).length)) : ¬ XorOk ls := by
  rintro ⟨h0, hc, ha⟩
  refine h ⟨?_, ha k hk⟩
  have e1 := ha k hk
  unfold Cell at hc ⊢
  omega
theorem alike_all {ls : List (List UInt8)} (h0 : 0 < ls.length) (h : ∀ j, j < ls.length → Cell (ls[j]?.getD []) ∧ (ls[j]?.getD []).length = (ls[0]?.getD []).length) : XorOk ls :=
  ⟨h0, (h 0 h0).1, fun j hj => (h j hj).2⟩

theorem Fresh.grown_ {base : Nat} {W W' : World} {v : Value} {l : List UInt8} (h : Fresh base W v l) (hg : W.grownBy W' none) : Fresh base W' v l :=
  h.keep hg.size fun p _ hp => World.cell?_of_block (hg.block p.block hp (by simp))

end Go.Proofs.YtggdlklkjnbbjaaGreatDoor.C
