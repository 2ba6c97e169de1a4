/- Zero, Xor. -/
import Derived.Test.YtggdlklkjnbbjaaGreatDoorCwC
namespace Go.Proofs.YtggdlklkjnbbjaaGreatDoor.C
open Go.RowKit Go.Shelf

theorem field_cell (v : Value) (w : World) : (Instr.field 146 (.agg #[v]) 0).run Tryz.prog w = .ok v w := by kernel_rfl
theorem make_func (fn : Fn) (first cap : Array Value) (w : World) : (Instr.makeFunc fn first cap).run Tryz.prog w = .ok (.func fn first cap) w := rfl
theorem enter_xor (args : Array Value) (w : World) : (callFunc 146 args).run Tryz.prog w = .ok (.enter 146 args) w := (enters_of Tryz.func146 (by kernel_rfl) rfl) args w

/-- Lists that can be put upon one another; what comes of it. -/
def XorOk (ls : List (List UInt8)) : Prop := 0 < ls.length ∧ Cell (ls[0]?.getD []) ∧ AllLen (ls[0]?.getD []).length ls
def xorOf (ls : List (List UInt8)) : List UInt8 := xors (List.replicate (ls[0]?.getD []).length 0) ls
theorem xorOf_len (ls : List (List UInt8)) : (xorOf ls).length = (ls[0]?.getD []).length := by unfold xorOf; rw [xors_len, List.length_replicate]

set_option maxHeartbeats 1000000 in
theorem xor1_yes (ls : List (List UInt8)) (v : Value) (g : Nat) (w : World) {B : Nat} (hB : B ≤ w.heap.size) (hg0 : g < w.heap.size) (hM : Many B w v ls) (hls : ls.length ≤ 140737488351232) (hok : XorOk ls) (hg : w.cell? ⟨g, 0, none⟩ = some v) :
    Calls Tryz.prog 146 #[.pointer (some ⟨g, 0, none⟩)] w fun e w' => ∃ v, e = .returned v ∧ Fresh w.heap.size w' v (xorOf ls) ∧ Below w.heap.size w w' := by
  obtain ⟨h0, hc, hal⟩ := hok
  have hlo : xorOf ls = xors (List.replicate (ls[0]?.getD []).length 0) ls := rfl
  have hln := xorOf_len ls
  have H1 := Lib.hid (fun W (hBW : Below w.heap.size w W) => lengthOf_yes ls v W (Nat.le_trans hB hBW.size) (hM.below (hBW.mono hB)) hls h0 hc hal)
  have H2 := Lib.hid (fun W => nought_yes (ls[0]?.getD []).length hc.1 hc.2 W)
  have H3 := Lib.hid (fun (W : World) (k : Nat) (hBW : Below w.heap.size w W) (hk : w.heap.size ≤ k) (hR : Row W k (List.replicate (ls[0]?.getD []).length 0)) => folded_any k (ls[0]?.getD []).length B _ ls v W (Nat.le_trans hB hk) hR (by simp) (hM.below (hBW.mono hB)) hal hc.2 hls)
  rw [← hlo] at H3
  clear hc hal hM
  generalize (ls[0]?.getD []).length = n at *
  have hf := field_cell
  go_enter Tryz.func146, Tryz.ntmps146
  go_wp2_with fail
  go_region_held3 (fun W => W.cell? ⟨g, 0, none⟩ = some v) (first | exact hg | exact (Below.cell (p := ⟨g, 0, none⟩) hBa hg0).trans hg | exact (Below.cell (p := ⟨g, 0, none⟩) hBb hg0).trans hg | exact (Below.cell (p := ⟨g, 0, none⟩) hBc hg0).trans hg) (first
    | (go_at_call 149; refine (H1.out _ ?_).mono ?_; first | exact Below.refl _ _ | exact (Below.refl _ _).drew; rintro e w1 ⟨rfl, hB1⟩; have hBa : Below w.heap.size w w1 := (by first | exact hB1 | exact Below.undrew hB1))
    | (go_at_call 148; refine (H2.out _).mono ?_; rintro e w2 ⟨k, rfl, hk, hR, hB2⟩; have hBb : Below w.heap.size w w2 := Below.next hBa hB2)
    | (go_at_call 147; refine (H3.out _ k ?_ ?_ ?_).mono ?_; exact hBb; exact Nat.le_trans hBa.size hk; exact hR; rintro e w3 ⟨rfl, hR3, hG3⟩; have hBc : Below w.heap.size w w3 := Below.grown hBb hG3 hBb.size (fun i e => by cases e; exact Nat.le_trans hBa.size hk)))
  all_goals go_wp2
  all_goals go_ret
  all_goals exact ⟨_, rfl, hR3.fresh (Nat.le_trans hBa.size hk) hln, hBc⟩

set_option maxHeartbeats 1000000 in
theorem xor1_no (ls : List (List UInt8)) (v : Value) (g : Nat) (w : World) {B : Nat} (hB : B ≤ w.heap.size) (hM : Many B w v ls) (hls : ls.length ≤ 140737488351232) (hno : ¬ XorOk ls) (hg : w.cell? ⟨g, 0, none⟩ = some v) :
    Calls Tryz.prog 146 #[.pointer (some ⟨g, 0, none⟩)] w fun e w' => e = .panicked gaveUp ∧ Below w.heap.size w w' := by
  by_cases h0 : ls = []
  · subst h0
    have H1 := Lib.hid (fun W (hBW : Below w.heap.size w W) => lengthOf_none v W (hM.below (hBW.mono hB)))
    have H2 := Lib.hid (fun W => nought_no 0 (by omega) W)
    clear hno hM
    go_enter Tryz.func146, Tryz.ntmps146
    go_wp2_with fail
    refine wp_region_any (by kernel_rfl) ?_
    try (change wpAny _ _ _ _ _ _ _ (World.drew _))
    refine wpAny_ready (rs := [0, 3]) (by kernel_rfl) (by simp) ?_
    refine AllReady.cons rfl (fun K hK => ?_) (AllReady.cons rfl (fun K hK => ?_) AllReady.nil)
    · go_simp
      refine hK _ _ ?_
      clear hK K
      refine wpAny_ready (rs := [1, 3]) (by kernel_rfl) (by simp) ?_
      refine AllReady.cons rfl (fun K hK => ?_) (AllReady.cons rfl (fun K hK => ?_) AllReady.nil)
      · go_simp
        go_wp2_with (go_at_call 149; refine (H1.out _ ?_).mono ?_; first | exact Below.refl _ _ | exact (Below.refl _ _).drew; rintro e w1 ⟨rfl, rfl⟩)
        first | (refine hK _ _ ?_; clear hK K) | skip
        refine wpAny_ready (rs := [2, 3]) (by kernel_rfl) (by simp) ?_
        refine AllReady.cons rfl (fun K hK => ?_) (AllReady.cons rfl (fun K hK => ?_) AllReady.nil)
        · go_simp
          go_wp2_with (go_at_call 148; refine (H2.out _).mono ?_; rintro e w2 ⟨rfl, hB2⟩; exact ⟨rfl, rfl, (by first | exact hB2 | exact Below.undrew hB2)⟩)
        · go_simp
          refine hK _ _ ?_
          clear hK K
          refine wpAny_ready (rs := [2]) (by kernel_rfl) (by simp) ?_
          refine AllReady.cons rfl (fun K hK => ?_) AllReady.nil
          · go_simp
            go_wp2_with (go_at_call 148; refine (H2.out _).mono ?_; rintro e w2 ⟨rfl, hB2⟩; exact ⟨rfl, rfl, (by first | exact hB2 | exact Below.undrew hB2)⟩)
      · go_simp
        refine hK _ _ ?_
        clear hK K
        refine wpAny_ready (rs := [1]) (by kernel_rfl) (by simp) ?_
        refine AllReady.cons rfl (fun K hK => ?_) AllReady.nil
        · go_simp
          go_wp2_with (go_at_call 149; refine (H1.out _ ?_).mono ?_; first | exact Below.refl _ _ | exact (Below.refl _ _).drew; rintro e w1 ⟨rfl, rfl⟩)
          first | (refine hK _ _ ?_; clear hK K) | skip
          refine wpAny_ready (rs := [2]) (by kernel_rfl) (by simp) ?_
          refine AllReady.cons rfl (fun K hK => ?_) AllReady.nil
          · go_simp
            go_wp2_with (go_at_call 148; refine (H2.out _).mono ?_; rintro e w2 ⟨rfl, hB2⟩; exact ⟨rfl, rfl, (by first | exact hB2 | exact Below.undrew hB2)⟩)
    · go_simp
      refine hK _ _ ?_
      clear hK K
      refine wpAny_ready (rs := [0]) (by kernel_rfl) (by simp) ?_
      refine AllReady.cons rfl (fun K hK => ?_) AllReady.nil
      · go_simp
        refine hK _ _ ?_
        clear hK K
        refine wpAny_ready (rs := [1]) (by kernel_rfl) (by simp) ?_
        refine AllReady.cons rfl (fun K hK => ?_) AllReady.nil
        · go_simp
          go_wp2_with (go_at_call 149; refine (H1.out _ ?_).mono ?_; first | exact Below.refl _ _ | exact (Below.refl _ _).drew; rintro e w1 ⟨rfl, rfl⟩)
          first | (refine hK _ _ ?_; clear hK K) | skip
          refine wpAny_ready (rs := [2]) (by kernel_rfl) (by simp) ?_
          refine AllReady.cons rfl (fun K hK => ?_) AllReady.nil
          · go_simp
            go_wp2_with (go_at_call 148; refine (H2.out _).mono ?_; rintro e w2 ⟨rfl, hB2⟩; exact ⟨rfl, rfl, (by first | exact hB2 | exact Below.undrew hB2)⟩)
  · have hna : ¬ Alike ls := by
      rintro (h | h)
      · exact h0 h
      · exact hno ⟨List.length_pos_iff.2 h0, h⟩
    have H1 := Lib.hid (fun W (hBW : Below w.heap.size w W) => lengthOf_no ls v W (Nat.le_trans hB hBW.size) (hM.below (hBW.mono hB)) hls hna)
    clear hno hM hna
    go_enter Tryz.func146, Tryz.ntmps146
    go_wp2_with fail
    refine wp_region_any (by kernel_rfl) ?_
    try (change wpAny _ _ _ _ _ _ _ (World.drew _))
    refine wpAny_ready (rs := [0, 3]) (by kernel_rfl) (by simp) ?_
    refine AllReady.cons rfl (fun K hK => ?_) (AllReady.cons rfl (fun K hK => ?_) AllReady.nil)
    · go_simp
      refine hK _ _ ?_
      clear hK K
      refine wpAny_ready (rs := [1, 3]) (by kernel_rfl) (by simp) ?_
      refine AllReady.cons rfl (fun K hK => ?_) (AllReady.cons rfl (fun K hK => ?_) AllReady.nil)
      · go_simp
        go_wp2_with (go_at_call 149; refine (H1.out _ ?_).mono ?_; first | exact Below.refl _ _ | exact (Below.refl _ _).drew; rintro e w1 ⟨rfl, hB1⟩; exact ⟨rfl, rfl, (by first | exact hB1 | exact Below.undrew hB1)⟩)
      · go_simp
        refine hK _ _ ?_
        clear hK K
        refine wpAny_ready (rs := [1]) (by kernel_rfl) (by simp) ?_
        refine AllReady.cons rfl (fun K hK => ?_) AllReady.nil
        · go_simp
          go_wp2_with (go_at_call 149; refine (H1.out _ ?_).mono ?_; first | exact Below.refl _ _ | exact (Below.refl _ _).drew; rintro e w1 ⟨rfl, hB1⟩; exact ⟨rfl, rfl, (by first | exact hB1 | exact Below.undrew hB1)⟩)
    · go_simp
      refine hK _ _ ?_
      clear hK K
      refine wpAny_ready (rs := [0]) (by kernel_rfl) (by simp) ?_
      refine AllReady.cons rfl (fun K hK => ?_) AllReady.nil
      · go_simp
        refine hK _ _ ?_
        clear hK K
        refine wpAny_ready (rs := [1]) (by kernel_rfl) (by simp) ?_
        refine AllReady.cons rfl (fun K hK => ?_) AllReady.nil
        · go_simp
          go_wp2_with (go_at_call 149; refine (H1.out _ ?_).mono ?_; first | exact Below.refl _ _ | exact (Below.refl _ _).drew; rintro e w1 ⟨rfl, hB1⟩; exact ⟨rfl, rfl, (by first | exact hB1 | exact Below.undrew hB1)⟩)

set_option maxHeartbeats 400000 in
theorem xor_yes (ls : List (List UInt8)) (v : Value) (w : World) {B : Nat} (hB : B ≤ w.heap.size) (hM : Many B w v ls) (hls : ls.length ≤ 140737488351232) (hok : XorOk ls) :
    Calls Tryz.prog 129 #[v] w fun e w' => ∃ v, e = .returned (.tuple #[v, .int .i64 0]) ∧ Fresh w.heap.size w' v (xorOf ls) ∧ Below w.heap.size w w' := by
  have hmf := make_func
  have b0 := Blk.new w 43 #[v]
  have hB0 : Below w.heap.size w (w.alloc (.cells #[v] 43)) := (Below.refl _ w).alloc (Nat.le_refl _) _
  have HA := Lib.hid (answeredB_yes 146 #[.pointer (some ⟨w.heap.size, 0, none⟩)] (w.alloc (.cells #[v] 43)) (fun u W => Fresh ((w.alloc (.cells #[v] 43)).heap.size + 1) W u (xorOf ls)) (fun W => enter_xor _ W)
    (fun W hBW hlt => (xor1_yes ls v w.heap.size W (B := B) (Nat.le_trans hB (Nat.le_trans hB0.size hBW.size)) (by simp at hlt; omega) ((hM.below (hB0.mono hB)).below (hBW.mono (by simp; omega))) hls hok ((Blk.below b0 hBW (by simp)).one)).mono (by rintro e w' ⟨v, rfl, hF, hB'⟩; exact ⟨v, rfl, hF.less hlt, hB'⟩))
    (fun v W hF => hF.set_ (by simp) _))
  obtain ⟨A, cap, rfl, _, _⟩ := id hM
  go_enter Tryz.func129, Tryz.ntmps129
  go_wp2_with (go_at_call 145; refine HA.out.mono ?_; rintro e w1 ⟨v, rfl, hF, hBr⟩)
  go_ret2
  exact ⟨v, rfl, hF.less (by simp; omega), hB0.trans (hBr.mono (by simp))⟩

set_option maxHeartbeats 400000 in
theorem xor_no (ls : List (List UInt8)) (v : Value) (w : World) {B : Nat} (hB : B ≤ w.heap.size) (hM : Many B w v ls) (hls : ls.length ≤ 140737488351232) (hno : ¬ XorOk ls) :
    Calls Tryz.prog 129 #[v] w fun e w' => e = .returned (.tuple #[.slice none 0 0, .int .i64 2]) ∧ Below w.heap.size w w' := by
  have hmf := make_func
  have b0 := Blk.new w 43 #[v]
  have hB0 : Below w.heap.size w (w.alloc (.cells #[v] 43)) := (Below.refl _ w).alloc (Nat.le_refl _) _
  have HA := Lib.hid (answeredB_no 146 #[.pointer (some ⟨w.heap.size, 0, none⟩)] (w.alloc (.cells #[v] 43)) (fun W => enter_xor _ W)
    (fun W hBW hlt => xor1_no ls v w.heap.size W (B := B) (Nat.le_trans hB (Nat.le_trans hB0.size hBW.size)) ((hM.below (hB0.mono hB)).below (hBW.mono (by simp; omega))) hls hno ((Blk.below b0 hBW (by simp)).one)))
  obtain ⟨A, cap, rfl, _, _⟩ := id hM
  go_enter Tryz.func129, Tryz.ntmps129
  go_wp2_with (go_at_call 145; refine HA.out.mono ?_; rintro e w1 ⟨rfl, hBr⟩)
  go_ret2
  exact ⟨rfl, hB0.trans (hBr.mono (by simp))⟩
end Go.Proofs.YtggdlklkjnbbjaaGreatDoor.C
