/- The sum of bytes behind others: sumBehind, Sum, More. -/
import Derived.Test.YtkgfahmajhfgbaaWalkD
import Derived.Laws.EntriesVeiled
namespace Go.Proofs.Ytkgfahmajhfgbaa
open Go.RowKit Go.Shelf
attribute [local go_sem] Oper.semAt_some

def putVal (Bw : Nat) : Value := .func (.func 32) #[] #[.pointer (some ⟨Bw, 0, none⟩), .pointer (some ⟨Bw + 1, 0, none⟩)]

/-- What lies in memory when the bytes pre have gone through. -/
def Gone (B Bw Bp s : Nat) (pre : List UInt8) (W : World) : Prop :=
  Blk W B 25 #[.int .u32 ((more s pre : Nat) : Int)] ∧ Blk W Bw 25 #[.int .u32 ((st (s ^^^ 4294967295) pre : Nat) : Int)] ∧ Blk W (Bw + 1) 60 (shTab 16) ∧ Blk W Bp 53 #[putVal Bw]
theorem Gone.own (B Bw Bp s : Nat) : Own (Gone B Bw Bp s) := fun p X Y row hs hg hrow =>
  ⟨Blk.own B _ (fun p => #[.int .u32 ((more s p : Nat) : Int)]) p X Y row hs.1 hg hrow, Blk.own Bw _ (fun p => #[.int .u32 ((st (s ^^^ 4294967295) p : Nat) : Int)]) p X Y row hs.2.1 hg hrow,
    Blk.own (Bw + 1) _ (fun _ : List UInt8 => shTab 16) p X Y row hs.2.2.1 hg hrow, Blk.own Bp _ (fun _ : List UInt8 => #[putVal Bw]) p X Y row hs.2.2.2 hg hrow⟩

/-- One more byte has gone through: the word's block has turned, then the sum is laid. -/
theorem Gone.next {B Bw Bp s n₀ W0 : Nat} {pre : List UInt8} {x : UInt8} {W W1 : World} (h : Gone B Bw Bp s pre W) (h1 : B < Bw) (h2 : Bw + 1 < Bp) (h3 : Bp < W0) (hn : n₀ ≤ B) (hsz : n₀ ≤ W.heap.size)
    (hg : W.grownBy W1 (some Bw)) (hb : Blk W1 Bw 25 #[.int .u32 ((stepB (st (s ^^^ 4294967295) pre) x : Nat) : Int)]) :
    KeepsFrom W0 W (W1.setCell ⟨B, 0, none⟩ (.int .u32 ((stepB (st (s ^^^ 4294967295) pre) x ^^^ 4294967295 : Nat) : Int))) ∧
    Below n₀ W (W1.setCell ⟨B, 0, none⟩ (.int .u32 ((stepB (st (s ^^^ 4294967295) pre) x ^^^ 4294967295 : Nat) : Int))) ∧
    Gone B Bw Bp s (pre ++ [x]) (W1.setCell ⟨B, 0, none⟩ (.int .u32 ((stepB (st (s ^^^ 4294967295) pre) x ^^^ 4294967295 : Nat) : Int))) := by
  obtain ⟨g1, g2, g3, g4⟩ := h
  have e1 : stepB (st (s ^^^ 4294967295) pre) x = st (s ^^^ 4294967295) (pre ++ [x]) := (st_snoc _ _ _).symm
  have e2 : stepB (st (s ^^^ 4294967295) pre) x ^^^ 4294967295 = more s (pre ++ [x]) := by rw [e1]; rfl
  rw [e2]
  rw [e1] at hb
  refine ⟨(KeepsFrom.of_grownBy hg (fun j e => by cases e; omega)).trans ((KeepsOthers.setCell _ _ _).from _), ?_, ?_, ?_, ?_, ?_⟩
  · exact ((Below.refl n₀ W).grown hg hsz (fun k e => by cases e; omega)).setCell (by simpa using hn) _
  · exact (g1.grown hg (by simp; omega)).set_ 0 _
  · exact hb.far (by simp; omega) _
  · exact (g3.grown hg (by simp)).far (by simp; omega) _
  · exact (g4.grown hg (by simp; omega)).far (by simp; omega) _

set_option maxRecDepth 100000 in
set_option maxHeartbeats 2000000 in
theorem behind_any (s : Nat) (hs : s < 4294967296) (sv : Value) (ls : List (List UInt8)) (hlen : ∀ j : Nat, (ls[j]?.getD []).length ≤ 140737488351232) (hlen2 : ls.length ≤ 140737488351232) (w : World) (hM : Many w.heap.size w sv ls) :
    Calls Try.prog 20 #[.int .u32 (s : Int), sv] w fun e w' => e = .returned (.int .u32 ((more s ls.flatten : Nat) : Int)) ∧ Below w.heap.size w w' := by
  obtain ⟨A, cap, rfl, _, _⟩ := id hM
  refine (callsIn_wide (n := 5)).1 ?_
  refine callsIn_of_wp_marks Try.func20 rfl trivial ?_ rfl
  simp only [Try.ntmps20, List.size_toArray, List.length_cons, List.length_nil, Nat.reduceAdd, Nat.reduceSub, Array.replicate_succ, Array.replicate_zero, List.push_toArray, List.append_toArray, List.nil_append, List.cons_append]
  gi_wp2_with (refine ⟨trivial, ?_⟩; first | (gi_at_call 27; refine (callsIn_wide.2 (folding_any _ _ hs)).mono ?_; rintro e w1 ⟨Bw, rfl, hBw, hw1, hs1, hB1⟩) | (gi_at_call 28; refine (each_in Fence.wide _ trivial rfl _ _ _ _).mono ?_; rintro e w2 ⟨rfl, rfl⟩))
  have hsum : Blk w1 w.heap.size 25 #[.int .u32 (s : Int)] := (Blk.new w _ _).below hB1 (by simp)
  have hbw : w.heap.size + 1 ≤ Bw := by simpa using hBw
  have hbp : Bw + 1 < w1.heap.size := hs1.lt
  have hB2 : Below w.heap.size w w1 := ((Below.refl _ w).alloc (Nat.le_refl _) _).trans (hB1.mono (by simp))
  have bX := (Blk.new (w1.alloc (.cells #[putVal Bw] 53)) 22 #[.slice A ls.length cap]).cell 0
  rw [World.size_alloc] at bX
  have hI0 : Gone w.heap.size Bw w1.heap.size s [] ((w1.alloc (.cells #[putVal Bw] 53)).alloc (.cells #[.slice A ls.length cap] 22)) :=
    ⟨by rw [more_nil]; exact (hsum.alloc _).alloc _, (hw1.alloc _).alloc _, (hs1.alloc _).alloc _, (Blk.new w1 _ _).alloc _⟩
  have hB3 : Below w.heap.size w ((w1.alloc (.cells #[putVal Bw] 53)).alloc (.cells #[.slice A ls.length cap] 22)) := (hB2.alloc (by omega) _).alloc (by simp; omega) _
  refine wpIn_rangeFunc_ownG rfl (by omega) (gf := 33) (lb := #[.pointer (some ⟨w1.heap.size + 1, 0, none⟩)]) rfl trivial (enters_of Try.func33 (by kernel_rfl) rfl)
    (each_stops _ (by omega) (w1.heap.size + 1) w.heap.size _ ls hlen hlen2 _ (by simp) (by simp; omega) bX (hM.below hB3)) belowK_t (belowK_b (by simp; omega)) (Below.refl _ _) (fun _ => rfl)
    (fun pre W => Gone w.heap.size Bw w1.heap.size s pre W ∧ Below w.heap.size w W)
    (fun _ _ _ => False)
    (OwnFrom.and (Own.from (Gone.own _ _ _ _) _) (ownFrom_below (Nat.le_refl _) (by simp; omega)))
    (fun _ _ _ _ _ hs _ _ => hs)
    ⟨hI0, hB3⟩
    (fun x => { tmps := #[.int .u32 (s : Int), .slice A ls.length cap, .pointer (some ⟨w.heap.size, 0, none⟩), undef, .int .u32 0, .pointer (some ⟨w1.heap.size, 0, none⟩), .int .u8 (x.toNat : Int), .int .u32 (s : Int), putVal Bw, .slice A ls.length cap, .func (.func 33) #[] #[.pointer (some ⟨w1.heap.size + 1, 0, none⟩)], .int .u8 (x.toNat : Int), undef, undef, undef, undef], defers := [] }) ?assign ?body ?done ?stop
  case assign =>
    intro l x W K hK
    gi_wp2
    exact hK
  case body =>
    rintro l pre x W ⟨hG, hB⟩ _
    have hst := st_lt (xor_lt hs (by omega : 4294967295 < 4294967296)) pre
    have cP : W.cell? ⟨w1.heap.size, 0, none⟩ = some (.func (.func 32) #[] #[.pointer (some ⟨Bw, 0, none⟩), .pointer (some ⟨Bw + 1, 0, none⟩)]) := hG.2.2.2.cell 0
    have HW := Lib.hid hG.2.1
    have HS := Lib.hid hG.2.2.1
    clear hI0 hB3 bX hsum hB2
    gi_wp2_with (refine ⟨trivial, ?_⟩; gi_at_call 32; refine (CallsIn.inRound l (callsIn_wide.2 (put_any _ x Bw (Bw + 1) W hst (by omega) HW.out HS.out))).mono ?_; rintro e W1 ⟨rfl, hg1, hb1⟩; have c1 : W1.cell? ⟨w.heap.size, 0, none⟩ = some (.int .u32 ((more s pre : Nat) : Int)) := (hG.1.grown hg1 (by simp; omega)).cell 0; have f1 := (hG.1.grown hg1 (by simp; omega)).frozen 0)
    obtain ⟨k1, k2, k3⟩ := Gone.next (n₀ := w.heap.size) (W0 := ((w1.alloc (.cells #[putVal Bw] 53)).alloc (.cells #[.slice A ls.length cap] 22)).heap.size) hG (by omega) hbp (by simp; omega) (Nat.le_refl _) hB.size hg1 hb1
    exact ⟨k1, k2, k3, hB.trans k2⟩
  case done =>
    rintro D ys W hD rfl ⟨hG, hB⟩ hK
    have cP : W.cell? ⟨w.heap.size, 0, none⟩ = some (.int .u32 ((more s ls.flatten : Nat) : Int)) := hG.1.cell 0
    clear hI0 hB3 bX hsum hB2
    gi_wp2
    refine ⟨by simp, .inl ⟨_, _, rfl, run_takeDeferred hK, ?_⟩⟩
    exact ⟨_, results_tmp rfl _ _ _, rfl, hB.trans (belowK_b (w := w) (Nat.le_refl _) _ D _ _ (by simp at hD; omega) hK rfl rfl)⟩
  case stop =>
    rintro D c pre W _ _ h _
    exact h.elim

end Go.Proofs.Ytkgfahmajhfgbaa
