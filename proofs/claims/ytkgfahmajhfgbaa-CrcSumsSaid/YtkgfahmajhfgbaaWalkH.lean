/- sealOf, sealed, Seal, Open. -/
import Derived.Test.YtkgfahmajhfgbaaWalkG
import Derived.Deep.RegionLaw
import Derived.Deep.Onto
import Derived.Deep.WholeRow
namespace Go.Proofs.Ytkgfahmajhfgbaa
open Go.RowKit

theorem Below.undrew {B : Nat} {a w : World} (h : Below B a.drew w) : Below B a w := ⟨h.os, h.tape, h.output, h.size, h.block⟩
theorem Blk.bytes4 {B g : Nat} {w : World} {t : TypeId} {c0 c1 c2 c3 : UInt8} (h : Blk w g t #[.int .u8 (c0.toNat : Int), .int .u8 (c1.toNat : Int), .int .u8 (c2.toNat : Int), .int .u8 (c3.toNat : Int)]) (hg : g < B) :
    Bytes B w (.slice (some ⟨g, 0, none⟩) 4 4) [c0, c1, c2, c3] := by
  refine ⟨_, 4, rfl, Nat.le_refl _, fun _ => ⟨g, 0, rfl, hg, fun j hj => ?_⟩⟩
  rw [Nat.zero_add, h.cell j]
  match j, hj with
  | 0, _ => rfl
  | 1, _ => rfl
  | 2, _ => rfl
  | 3, _ => rfl

set_option maxHeartbeats 400000 in
theorem sealOf_any (v : Value) (l : List UInt8) (hlen : l.length ≤ 140737488351232) (w : World) (hb : Bytes w.heap.size w v l) :
    Calls Try.prog 22 #[v] w fun e w' => e = .returned (.agg #[.int .u32 ((sum l : Nat) : Int), v]) ∧ Below w.heap.size w w' := by
  have h : ∀ o : Obj, Calls Try.prog 11 #[.slice (some ⟨w.heap.size + 1, 0, none⟩) 1 1] ((w.alloc o).alloc (.cells #[v] 24)) fun e w' => e = .returned (.int .u32 ((sum l : Nat) : Int)) ∧ Below ((w.alloc o).alloc (.cells #[v] 24)).heap.size ((w.alloc o).alloc (.cells #[v] 24)) w' := by
    intro o
    have hM := Many.one (t := 24) ((hb.below ((Below.refl _ w).alloc (Nat.le_refl _) o)).more (B' := (w.alloc o).heap.size) (by simp))
    have e : (w.alloc o).heap.size = w.heap.size + 1 := World.size_alloc _ _
    have := sum_any _ [l] (by intro j; cases j <;> simp [hlen]) (by simp) _ hM
    rw [e] at this
    simpa using this
  obtain ⟨A, cap, rfl, _, _⟩ := id hb
  clear hb
  have H := Lib.hid h
  clear h
  go_enter Try.func22, Try.ntmps22
  go_wp2_with (first | (go_at_call 11; refine (H.out _).mono ?_; rintro e w1 ⟨rfl, hB1⟩; have hk : Blk w1 w.heap.size 47 #[.int .u32 0, .slice none 0 0] := ((Blk.new w _ _).alloc _).below hB1 (by simp; omega)) | (refine wpList_store_row rfl 47 _ _ rfl w.heap.size #[.int .u32 ((sum l : Nat) : Int), .slice A l.length cap] rfl rfl _ _ hk (by show _ = some 2; kernel_rfl) rfl (by simp [Value.oneCell']) ?_))
  refine bodyPost_ret (results_cell_row rfl _ _ w.heap.size _ #[.int .u32 ((sum l : Nat) : Int), .slice A l.length cap] _ _ rfl (hk.setRow _) Try.underlying47 rfl (by show _ = some 2; kernel_rfl)) rfl ?_
  exact ⟨rfl, below_setRow ((((Below.refl _ w).alloc (Nat.le_refl _) _).alloc (by simp) _).trans (hB1.mono (by simp; omega))) (Nat.le_refl _) _⟩

set_option maxHeartbeats 400000 in
theorem sealed_any (x : Nat) (hx : x < 4294967296) (v : Value) (l : List UInt8) (hlen : l.length ≤ 140737488351232) (w : World) (hb : Bytes w.heap.size w v l) :
    Calls Try.prog 23 #[.agg #[.int .u32 (x : Int), v]] w fun e w' => ∃ v', e = .returned v' ∧ OwnB w' w.heap.size v' (l ++ le4 x) ∧ Below w.heap.size w w' := by
  have hby := bytes_any x hx
  obtain ⟨c0, c1, c2, c3, hc⟩ : ∃ c0 c1 c2 c3, le4 x = [c0, c1, c2, c3] := ⟨_, _, _, _, rfl⟩
  rw [hc] at hby ⊢
  simp only [List.map_cons, List.map_nil, enc] at hby
  have HB := Lib.hid hby
  clear hby hc
  obtain ⟨A, cap, rfl, _, _⟩ := id hb
  go_enter Try.func23, Try.ntmps23
  go_wp2_with (go_at_call 30; refine (HB.out _).mono ?_; rintro e w1 ⟨rfl, rfl⟩)
  obtain ⟨W0, hW0⟩ : ∃ W0, (((w.alloc (.cells #[.int .u32 (x : Int), .slice A l.length cap] 47)).alloc (.cells #[.int .u8 (c0.toNat : Int), .int .u8 (c1.toNat : Int), .int .u8 (c2.toNat : Int), .int .u8 (c3.toNat : Int)] 40)).alloc (.cells #[.int .u8 (c0.toNat : Int), .int .u8 (c1.toNat : Int), .int .u8 (c2.toNat : Int), .int .u8 (c3.toNat : Int)] 40)) = W0 := ⟨_, rfl⟩
  rw [hW0]
  have k1 : Blk W0 w.heap.size 47 #[.int .u32 (x : Int), .slice A l.length cap] := by rw [← hW0]; exact ((Blk.new w _ _).alloc _).alloc _
  have k2 : Blk W0 (w.heap.size + 1 + 1) 40 #[.int .u8 (c0.toNat : Int), .int .u8 (c1.toNat : Int), .int .u8 (c2.toNat : Int), .int .u8 (c3.toNat : Int)] := by
    rw [← hW0]
    have := Blk.new ((w.alloc (.cells #[.int .u32 (x : Int), .slice A l.length cap] 47)).alloc (.cells #[.int .u8 (c0.toNat : Int), .int .u8 (c1.toNat : Int), .int .u8 (c2.toNat : Int), .int .u8 (c3.toNat : Int)] 40)) 40 #[.int .u8 (c0.toNat : Int), .int .u8 (c1.toNat : Int), .int .u8 (c2.toNat : Int), .int .u8 (c3.toNat : Int)]
    simpa using this
  have hB0 : Below w.heap.size w W0 := by rw [← hW0]; exact (((Below.refl _ w).alloc (Nat.le_refl _) _).alloc (by simp) _).alloc (by simp; omega) _
  have hsz : w.heap.size + 1 + 1 < W0.heap.size := k2.lt
  clear hW0
  have hcp := copied_any (.slice A l.length cap) l 4 (by omega) W0.drew ((hb.below hB0).more hB0.size)
  rw [show ((4 : Nat) : Int) = 4 from rfl] at hcp
  have HC := Lib.hid hcp
  have cs := k1.cell 1
  simp only [List.getElem?_toArray, List.getElem?_cons_succ, List.getElem?_cons_zero] at cs
  obtain ⟨i0, hi, hz0, hz1, hz2⟩ := info_parts Try.infoByte
  have K2 := Lib.hid k2
  have K1 := Lib.hid k1
  clear hcp k1 k2 hb
  go_region_law (first | (refine step_app _ rfl (.tmp 9) (.tmp 10) rfl W0.heap.size i0 Try.underlying24 hi hz0 hz1 hz2 v1 l rfl hown1 W0.heap.size (.slice (some ⟨w.heap.size + 1 + 1, 0, none⟩) 4 4) [c0, c1, c2, c3] rfl hby1 (by simp; omega) hB1.size ?_; intro v2 w2 hown2 hgrow2 _) | (go_simp; go_at_call 26; refine HC.out.mono ?_; rintro e w1 ⟨v1, rfl, hown1, hB1⟩; have hby1 : Bytes W0.heap.size w1 (.slice (some ⟨w.heap.size + 1 + 1, 0, none⟩) 4 4) [c0, c1, c2, c3] := (Blk.below (w := W0.drew) K2.out hB1 hsz).bytes4 hsz))
  go_wp2
  go_ret
  exact ⟨v2, rfl, World.ownsRow.mono hown2 hB0.size, below_grown (hB0.trans ((Below.undrew hB1).mono hB0.size)) hgrow2 (Nat.le_trans hB0.size hB1.size) (fun k e => Nat.le_trans hB0.size (hown1.lt k e).1)⟩
end Go.Proofs.Ytkgfahmajhfgbaa
