/- What takes byte by byte: folding, and the closure that it hands back. -/
import Derived.Test.YtkgfahmajhfgbaaWalkB
import Derived.BigRegion
import Derived.ChangeAlike
namespace Go.Proofs.Ytkgfahmajhfgbaa
open Go.RowKit

set_option maxHeartbeats 1000000 in
theorem put_walk (x c y q s1 z r s2 v u Bw Bs : Nat) (w : World)
    (h1 : bits .xor .u32 (x : Int) (c : Int) = (y : Int)) (h2 : bits .and .u32 (y : Int) 15 = (q : Int)) (h3 : bits .xor .u32 ((y : Int) / 16) (s1 : Int) = (z : Int))
    (h4 : bits .and .u32 (z : Int) 15 = (r : Int)) (h5 : bits .xor .u32 ((z : Int) / 16) (s2 : Int) = (v : Int)) (h6 : bits .xor .u32 IntKind.u32.max (v : Int) = (u : Int))
    (hc : c < 256) (hq : q < 16) (hr : r < 16) (hne : Bw ≠ Bs)
    (c0 : w.cell? ⟨Bw, 0, none⟩ = some (.int .u32 (x : Int))) (f0 : w.frozen? ⟨Bw, 0, none⟩ = false)
    (c1 : w.cell? ⟨Bs, q, none⟩ = some (.int .u32 (s1 : Int))) (c2 : w.cell? ⟨Bs, r, none⟩ = some (.int .u32 (s2 : Int))) :
    Calls Try.prog 32 #[.int .u8 (c : Int), .pointer (some ⟨Bw, 0, none⟩), .pointer (some ⟨Bs, 0, none⟩)] w fun e w' => e = .returned (.int .u32 (u : Int)) ∧ w' = (((w.setCell ⟨Bw, 0, none⟩ (.int .u32 (y : Int))).setCell ⟨Bw, 0, none⟩ (.int .u32 (z : Int))).setCell ⟨Bw, 0, none⟩ (.int .u32 (v : Int))).drew.drew := by
  have d1 : (w.setCell ⟨Bw, 0, none⟩ (.int .u32 (y : Int))).cell? ⟨Bw, 0, none⟩ = some (.int .u32 (y : Int)) := World.cell?_setCell_same' _ _ _ (by rw [c0]; rfl)
  have d2 : ((w.setCell ⟨Bw, 0, none⟩ (.int .u32 (y : Int))).setCell ⟨Bw, 0, none⟩ (.int .u32 (z : Int))).cell? ⟨Bw, 0, none⟩ = some (.int .u32 (z : Int)) := World.cell?_setCell_same' _ _ _ (by rw [d1]; rfl)
  have d3 : (((w.setCell ⟨Bw, 0, none⟩ (.int .u32 (y : Int))).setCell ⟨Bw, 0, none⟩ (.int .u32 (z : Int))).setCell ⟨Bw, 0, none⟩ (.int .u32 (v : Int))).cell? ⟨Bw, 0, none⟩ = some (.int .u32 (v : Int)) := World.cell?_setCell_same' _ _ _ (by rw [d2]; rfl)
  go_enter Try.func32, Try.ntmps32
  go_wp2
  go_region
  all_goals go_wp2
  all_goals go_region
  all_goals go_wp2
  go_ret
  exact ⟨rfl, rfl⟩

theorem bits_compl (v : Nat) (hv : v < 4294967296) : bits .xor .u32 IntKind.u32.max (v : Int) = ((v ^^^ 4294967295 : Nat) : Int) := by
  rw [show IntKind.u32.max = ((4294967295 : Nat) : Int) from rfl, u32_xor_nat _ _ (by omega) hv, Nat.xor_comm]
theorem bits_low4 (y : Nat) (hy : y < 4294967296) : bits .and .u32 (y : Int) 15 = ((y % 16 : Nat) : Int) := by
  rw [show (15 : Int) = ((15 : Nat) : Int) from rfl, u32_and_nat _ _ hy (by omega), show (15 : Nat) = 2 ^ 4 - 1 from rfl, Nat.and_two_pow_sub_one_eq_mod]
theorem bits_nib (y : Nat) (hy : y < 4294967296) : bits .xor .u32 ((y : Int) / 16) ((halvedN 4 (y % 16) : Nat) : Int) = ((halvedN 4 y : Nat) : Int) := by
  rw [show (y : Int) / 16 = ((y / 16 : Nat) : Int) by omega, u32_xor_nat _ _ (by omega) (halvedN_lt 4 (by omega)), nib_eq]

theorem grown_set {w : World} (g : Nat) (i : Nat) (u : Value) : w.grownBy (w.setCell ⟨g, i, none⟩ u) (some g) :=
  ⟨rfl, rfl, rfl, by simp [World.setCell], fun k _ hne => Below.heap_setCell w ⟨g, i, none⟩ u k (fun e => hne (by simp at e; rw [e]))⟩
theorem grown_drew {a w : World} {row : Option Nat} (h : a.grownBy w row) : a.grownBy w.drew row := ⟨h.os, h.tape, h.output, h.size, h.block⟩

set_option maxHeartbeats 400000 in
theorem put_any (x : Nat) (c : UInt8) (Bw Bs : Nat) (w : World) (hx : x < 4294967296) (hne : Bw ≠ Bs) (bw : Blk w Bw 25 #[.int .u32 (x : Int)]) (bs : Blk w Bs 60 (shTab 16)) :
    Calls Try.prog 32 #[.int .u8 (c.toNat : Int), .pointer (some ⟨Bw, 0, none⟩), .pointer (some ⟨Bs, 0, none⟩)] w fun e w' =>
      e = .returned (.int .u32 ((stepB x c ^^^ 4294967295 : Nat) : Int)) ∧ w.grownBy w' (some Bw) ∧ Blk w' Bw 25 #[.int .u32 ((stepB x c : Nat) : Int)] := by
  have hcb := byte_lt c
  have hy : x ^^^ c.toNat < 4294967296 := xor_lt hx (by omega)
  have hz := halvedN_lt 4 hy
  have hv : stepB x c = halvedN 4 (halvedN 4 (x ^^^ c.toNat)) := by rw [stepB, ← halvedN_add]
  have hvb := halvedN_lt 4 hz
  refine (put_walk x c.toNat (x ^^^ c.toNat) ((x ^^^ c.toNat) % 16) (halvedN 4 ((x ^^^ c.toNat) % 16)) (halvedN 4 (x ^^^ c.toNat)) (halvedN 4 (x ^^^ c.toNat) % 16) (halvedN 4 (halvedN 4 (x ^^^ c.toNat) % 16))
    (halvedN 4 (halvedN 4 (x ^^^ c.toNat))) (halvedN 4 (halvedN 4 (x ^^^ c.toNat)) ^^^ 4294967295) Bw Bs w (u32_xor_nat _ _ hx (by omega)) (bits_low4 _ hy) (bits_nib _ hy) (bits_low4 _ hz) (bits_nib _ hz) (bits_compl _ hvb)
    hcb (by omega) (by omega) hne (by rw [bw.cell]; rfl) (bw.frozen 0)
    (by rw [bs.cell, shTab_get _ _ (by omega), if_pos (by omega)]; rfl) (by rw [bs.cell, shTab_get _ _ (by omega), if_pos (by omega)]; rfl)).mono ?_
  rintro e w' ⟨rfl, rfl⟩
  rw [hv]
  exact ⟨rfl, grown_drew (grown_drew (((grown_set Bw 0 _).trans (grown_set Bw 0 _)).trans (grown_set Bw 0 _))), ((bw.set_ 0 _).set_ 0 _).set_ 0 _⟩

/-- What folding hands back: the word's block, and the shares behind it. -/
def Folded (w : World) (s : Nat) (e : Ending) (w' : World) : Prop :=
  ∃ Bw, e = .returned (.func (.func 32) #[] #[.pointer (some ⟨Bw, 0, none⟩), .pointer (some ⟨Bw + 1, 0, none⟩)]) ∧ w.heap.size ≤ Bw ∧ Blk w' Bw 25 #[.int .u32 ((s ^^^ 4294967295 : Nat) : Int)] ∧
    Blk w' (Bw + 1) 60 (shTab 16) ∧ Below w.heap.size w w'

set_option maxHeartbeats 400000 in
theorem folding_any (s : Nat) (w : World) (hs : s < 4294967296) :
    Calls Try.prog 27 #[.int .u32 (s : Int)] w (Folded w s) := by
  have hc := bits_compl s hs
  have hb : s ^^^ 4294967295 < 4294967296 := xor_lt hs (by omega)
  generalize hg : s ^^^ 4294967295 = t at hc hb
  have HG := Lib.hid hg
  clear hg
  go_enter Try.func27, Try.ntmps27
  go_wp2_with (first | (go_at_call 31; refine (shares_any _).mono ?_; rintro e w1 ⟨rfl, hB1⟩) | (refine wpList_store_row rfl 60 _ _ rfl (w1.heap.size + 1) (shTab 16) rfl rfl _ _ (heap_alloc2_new w1 _ _) (by kernel_rfl) (by kernel_rfl) (by kernel_rfl) ?_))
  have HB : Blk (((w1.alloc (.cells #[.int .u32 (t : Int)] 25)).alloc (.cells (shTab 0) 60)).setRow (w1.heap.size + 1) (shTab 16)) w1.heap.size 25 #[.int .u32 (t : Int)] :=
    Blk.farRow (heap_alloc2_old w1 _ _) (by omega) _
  have HC : Blk (((w1.alloc (.cells #[.int .u32 (t : Int)] 25)).alloc (.cells (shTab 0) 60)).setRow (w1.heap.size + 1) (shTab 16)) (w1.heap.size + 1) 60 (shTab 16) :=
    Blk.setRow (heap_alloc2_new w1 _ _) _
  have HD := below_setRow (B := w.heap.size) (g := w1.heap.size + 1) (hB1.trans ((((Below.refl _ w1).alloc (Nat.le_refl _) (.cells #[.int .u32 (t : Int)] 25)).alloc (by simp) (.cells (shTab 0) 60)).mono hB1.size)) (by have := hB1.size; omega) (shTab 16)
  go_ret
  exact ⟨w1.heap.size, rfl, hB1.size, by rw [HG.out]; exact HB, HC, HD⟩
end Go.Proofs.Ytkgfahmajhfgbaa
