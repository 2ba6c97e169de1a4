/- Places reckoned. -/
import Derived.Test.YtggdlklkjnbbjaaGreatDoorMwC
import Derived.Deep.RegionLaw
namespace Go.Proofs.YtggdlklkjnbbjaaGreatDoor
open Go.RowKit Go.Shelf

theorem tmod_place (p n : Int) (hp : 0 < p) : n % p = if n.tmod p < 0 then n.tmod p + p else n.tmod p := by
  have h1 := Int.tmod_eq_emod (a := n) (b := p)
  have h2 := Int.emod_nonneg n (show p ≠ 0 by omega)
  have h3 := Int.emod_lt_of_pos n hp
  rw [h1]
  split <;> split <;> omega

set_option maxHeartbeats 400000 in
theorem of_any (p n : Int) (w : World) (hp : 0 < p) (hp2 : p ≤ 1000) (_h1 : -9223372036854775808 ≤ n) (_h2 : n ≤ 9223372036854775807) :
    Calls Tryz.prog 170 #[.int .i64 p, .int .i64 n] w fun e w' => e = .returned (.int .i64 (n % p)) ∧ w = w' := by
  have HE := Lib.hid (tmod_place p n hp)
  have b1 : -p < n.tmod p ∧ n.tmod p < p := by
    have h2 := Int.emod_nonneg n (show p ≠ 0 by omega)
    have h3 := Int.emod_lt_of_pos n hp
    have h4 := HE.out
    have h5 := Int.tmod_eq_emod (a := n) (b := p)
    split at h4 <;> rw [h5] <;> split <;> omega
  go_enter Tryz.func170, Tryz.ntmps170
  go_wp2
  · have h : n.tmod p < 0 := by assumption
    go_ret
    exact ⟨ret_i64 (by rw [HE.out, if_pos h]), rfl⟩
  · have h : 0 ≤ n.tmod p := by assumption
    go_ret
    exact ⟨ret_i64 (by rw [HE.out, if_neg (by omega)]), rfl⟩

set_option maxHeartbeats 400000 in
theorem sum_any (p x : Int) (w : World) :
    Calls Tryz.prog 154 #[.int .i64 p, .int .i64 x] w fun e w' => e = .returned (.agg #[.int .i64 p, .int .i64 x]) ∧ Below w.heap.size w w' := by
  go_enter Tryz.func154, Tryz.ntmps154
  go_wp2
  exact bodyPost_ret (v := .agg #[.int .i64 p, .int .i64 x]) (by simp [results, Tryz.results154, go_sem]) rfl ⟨rfl, (Below.refl _ _).alloc (Nat.le_refl _) _⟩

theorem enter_plus : ∀ args W, (callFunc 173 args).run Tryz.prog W = .ok (.enter 173 args) W := enters_of Tryz.func173 (by kernel_rfl) rfl
/-- The function f reckons r of two places, and leaves the world as it was. -/
def Reckons (f : Nat) (r : Int → Int → Int) : Prop :=
  ∀ x y W, 0 ≤ x → x ≤ 1000 → 0 ≤ y → y ≤ 1000 → Calls Tryz.prog f #[.int .i64 x, .int .i64 y] W fun e w' => e = .returned (.int .i64 (r x y)) ∧ W = w'

set_option maxHeartbeats 400000 in
theorem plus_any : Reckons 173 (fun x y => x + y) := by
  intro x y w h1 h2 h3 h4
  go_enter Tryz.func173, Tryz.ntmps173
  go_wp2
  go_ret
  exact ⟨rfl, rfl⟩
set_option maxHeartbeats 1000000 in
theorem with_any (f : Nat) (r : Int → Int → Int) (hf : Reckons f r) (ef : ∀ args W, (callFunc f args).run Tryz.prog W = .ok (.enter f args) W) (p at' x : Int) (w : World) (hp : 0 < p) (hp2 : p ≤ 1000) (h1 : 0 ≤ at') (h2 : at' ≤ 1000) (h3 : 0 ≤ x) (h4 : x ≤ 1000)
    (h5 : -9223372036854775808 ≤ r at' x) (h6 : r at' x ≤ 9223372036854775807) :
    Calls Tryz.prog 172 #[.agg #[.int .i64 p, .int .i64 at'], .func (.func f) #[] #[], .int .i64 x] w fun e w' => e = .returned (.agg #[.int .i64 p, .int .i64 (r at' x % p)]) ∧ Below w.heap.size w w' := by
  have HR := Lib.hid (fun W => hf at' x W h1 h2 h3 h4)
  have HO := Lib.hid (fun W => of_any p (r at' x) W hp hp2 h5 h6)
  generalize r at' x = z at *
  clear hf
  go_enter Tryz.func172, Tryz.ntmps172
  go_wp2
  obtain ⟨W0, hW0⟩ : ∃ W0, (w.alloc (.cells #[.int .i64 p, .int .i64 at'] 159)).alloc (.cells #[.int .i64 0, .int .i64 0] 159) = W0 := ⟨_, rfl⟩
  have b0 : Blk W0 w.heap.size 159 #[.int .i64 p, .int .i64 at'] := by rw [← hW0]; exact (Blk.new w _ _).alloc _
  have b1 : Blk W0 (w.heap.size + 1) 159 #[.int .i64 0, .int .i64 0] := by
    rw [← hW0]; have := Blk.new (w.alloc (.cells #[.int .i64 p, .int .i64 at'] 159)) 159 #[.int .i64 0, .int .i64 0]; rwa [World.size_alloc] at this
  have hB0 : Below w.heap.size w W0 := by rw [← hW0]; exact ((Below.refl _ w).alloc (Nat.le_refl _) _).alloc (by simp) _
  rw [hW0]
  clear hW0
  have c0 : W0.cell? ⟨w.heap.size, 0, none⟩ = some (.int .i64 p) := b0.cell 0
  have c1 : W0.cell? ⟨w.heap.size, 1, none⟩ = some (.int .i64 at') := b0.cell 1
  have f1 := b0.frozen 1
  go_region_law (first
    | (go_simp; go_at_call 170; refine (HO.out _).mono ?_; rintro e w' ⟨rfl, rfl⟩)
    | (go_simp; refine (HR.out _).mono ?_; rintro e w' ⟨rfl, rfl⟩))
  all_goals
    have hB1 : Below w.heap.size w (W0.setCell ⟨w.heap.size, 1, none⟩ (.int .i64 (z % p))).drew := (hB0.setCell (Nat.le_refl _) _).drew
    have d0 : Blk (W0.setCell ⟨w.heap.size, 1, none⟩ (.int .i64 (z % p))).drew w.heap.size 159 #[.int .i64 p, .int .i64 (z % p)] := b0.set_ 1 _
    have d1 : Blk (W0.setCell ⟨w.heap.size, 1, none⟩ (.int .i64 (z % p))).drew (w.heap.size + 1) 159 #[.int .i64 0, .int .i64 0] := b1.far (by simp) _
    generalize (W0.setCell ⟨w.heap.size, 1, none⟩ (.int .i64 (z % p))).drew = W1 at *
    clear c0 c1 f1
    have c0 : W1.cell? ⟨w.heap.size, 0, none⟩ = some (.int .i64 p) := d0.cell 0
    have c1 : W1.cell? ⟨w.heap.size, 1, none⟩ = some (.int .i64 (z % p)) := d0.cell 1
    have k0 : W1.cell? ⟨w.heap.size + 1, 0, none⟩ = some (.int .i64 0) := d1.cell 0
    have k1 : W1.cell? ⟨w.heap.size + 1, 1, none⟩ = some (.int .i64 0) := d1.cell 1
    have f0 := d1.frozen 0
    have f1 := d1.frozen 1
    go_wp2
    have r0 : ((W1.setCell ⟨w.heap.size + 1, 0, none⟩ (.int .i64 p)).setCell ⟨w.heap.size + 1, 1, none⟩ (.int .i64 (z % p))).cell? ⟨w.heap.size + 1, 0, none⟩ = some (.int .i64 p) := ((d1.set_ 0 _).set_ 1 _).cell 0
    have r1 : ((W1.setCell ⟨w.heap.size + 1, 0, none⟩ (.int .i64 p)).setCell ⟨w.heap.size + 1, 1, none⟩ (.int .i64 (z % p))).cell? ⟨w.heap.size + 1, 1, none⟩ = some (.int .i64 (z % p)) := ((d1.set_ 0 _).set_ 1 _).cell 1
    exact bodyPost_ret (v := .agg #[.int .i64 p, .int .i64 (z % p)]) (by simp [results, Tryz.results172, go_sem, r0, r1]) rfl ⟨rfl, (hB1.setCell (by simp) _).setCell (by simp) _⟩

end Go.Proofs.YtggdlklkjnbbjaaGreatDoor
