/- The chapter's rows: works answers true. -/
import Derived.Test.YtjkpmhannmbgfaaCwO
namespace Go.Proofs.Ytjkpmhannmbgfaa
open Go.RowKit Go.Shelf
attribute [local go_sem] Oper.semAt_some

theorem const_bytes {w : World} (l : List UInt8) {n : Nat} (hn : l.length = n) (B : Nat) (hB : w.heap.size < B) : Bytes B (w.alloc (.cells (l.map enc).toArray 5)) (.slice (some ⟨w.heap.size, 0, none⟩) n n) l := by
  subst hn
  refine ⟨_, _, rfl, Nat.le_refl _, fun _ => ⟨w.heap.size, 0, rfl, hB, fun j hj => ?_⟩⟩
  rw [Nat.zero_add, (Blk.new w 5 (l.map enc).toArray).cell j, List.getElem?_toArray, List.getElem?_map, List.getElem?_eq_getElem hj]; rfl

theorem Many.two {w : World} {v1 v2 : Value} {l1 l2 : List UInt8} (h1 : Bytes w.heap.size w v1 l1) (h2 : Bytes w.heap.size w v2 l2) :
    Many (w.alloc (.cells #[v1, v2] 25)).heap.size (w.alloc (.cells #[v1, v2] 25)) (.slice (some ⟨w.heap.size, 0, none⟩) 2 2) [l1, l2] := by
  refine ⟨_, 2, rfl, Nat.le_refl _, fun _ => ⟨w.heap.size, 0, rfl, by simp, fun j hj => ?_⟩⟩
  have hk : ∀ {v : Value} {l : List UInt8}, Bytes w.heap.size w v l → Bytes (w.alloc (.cells #[v1, v2] 25)).heap.size (w.alloc (.cells #[v1, v2] 25)) v l := fun h => (h.below ((Below.refl _ w).alloc (Nat.le_refl _) _)).more (by simp)
  match j, hj with
  | 0, _ => exact ⟨v1, (Blk.new w _ #[v1, v2]).cell 0, hk h1⟩
  | 1, _ => exact ⟨v2, (Blk.new w _ #[v1, v2]).cell 1, hk h2⟩

/-- Two lists of constants, laid in a row. -/
theorem two_consts (w : World) (a b : List UInt8) {n m : Nat} (hn : a.length = n) (hm : b.length = m) :
    Many (((w.alloc (.cells (a.map enc).toArray 5)).alloc (.cells (b.map enc).toArray 5)).alloc (.cells #[.slice (some ⟨w.heap.size, 0, none⟩) n n, .slice (some ⟨w.heap.size + 1, 0, none⟩) m m] 25)).heap.size
      (((w.alloc (.cells (a.map enc).toArray 5)).alloc (.cells (b.map enc).toArray 5)).alloc (.cells #[.slice (some ⟨w.heap.size, 0, none⟩) n n, .slice (some ⟨w.heap.size + 1, 0, none⟩) m m] 25))
      (.slice (some ⟨w.heap.size + 1 + 1, 0, none⟩) 2 2) [a, b] ∧
    Below w.heap.size w (((w.alloc (.cells (a.map enc).toArray 5)).alloc (.cells (b.map enc).toArray 5)).alloc (.cells #[.slice (some ⟨w.heap.size, 0, none⟩) n n, .slice (some ⟨w.heap.size + 1, 0, none⟩) m m] 25)) := by
  have h1 := const_bytes (w := w) a hn (w.heap.size + 1) (by omega)
  have h2 := const_bytes (w := w.alloc (.cells (a.map enc).toArray 5)) b hm (w.heap.size + 2) (by simp)
  have h1' := (h1.below ((Below.refl _ _).alloc (by simp) (.cells (b.map enc).toArray 5))).more (B' := w.heap.size + 2) (by omega)
  have e : ((w.alloc (.cells (a.map enc).toArray 5)).alloc (.cells (b.map enc).toArray 5)).heap.size = w.heap.size + 1 + 1 := by simp
  have e1 : (w.alloc (.cells (a.map enc).toArray 5)).heap.size = w.heap.size + 1 := by simp
  rw [e1] at h2
  have := Many.two (w := (w.alloc (.cells (a.map enc).toArray 5)).alloc (.cells (b.map enc).toArray 5)) (l1 := a) (l2 := b) (by rw [e]; exact h1') (by rw [e]; exact h2)
  rw [e] at this
  exact ⟨this, (((Below.refl _ w).alloc (Nat.le_refl _) _).alloc (by simp) _).alloc (by simp; omega) _⟩

theorem xor_row : xorOf [[1, 2], [3, 2]] = [2, 0] := by decide +kernel
theorem xor_row_ok : XorOk [[1, 2], [3, 2]] := ⟨by decide, by decide, fun j hj => by match j, hj with | 0, _ => rfl | 1, _ => rfl⟩
theorem xor_row_no : ¬ XorOk [[1], [1, 2]] := fun h => absurd (h.2.2 1 (by decide)) (by decide)
theorem cut_row : cutL 2 [1, 2, 3] = [[1, 2], [3, 0]] := by decide +kernel
theorem glue_row_ok : GlueOk [[1, 2], [3, 0]] 3 := ⟨.inr ⟨by decide, fun j hj => by match j, hj with | 0, _ => rfl | 1, _ => rfl⟩, by decide +kernel, by decide +kernel⟩
theorem glue_row_no : ¬ GlueOk [[1, 2], [3, 0]] 2 := fun h => absurd h.2.1 (by decide +kernel)
theorem places_row : places (cellBytes [5]) = [0, 2] := by decide +kernel

/-- What the loop over places reckons. -/
def acc (pre : List Nat) : Int := pre.foldl (fun (n : Int) (k : Nat) => wrap64 (wrap64 (10 * n) + (k : Int))) 0
theorem acc_next (pre : List Nat) (x : Nat) : acc (pre ++ [x]) = wrap64 (wrap64 (10 * acc pre) + (x : Int)) := by unfold acc; rw [List.foldl_append]; rfl
theorem acc_row : acc [0, 2] = 2 := by decide +kernel

theorem bits_five (w : World) (g : Nat) (hg : w.heap.size = g) : Calls Try.prog 20 #[.slice (some ⟨g, 0, none⟩) 1 1] (w.alloc (.cells #[.int .u8 5] 5)) (Seq (w.alloc (.cells #[.int .u8 5] 5)) [5]) := by
  subst hg
  exact bitsOf_any _ [5] _ (const_bytes [5] (n := 1) rfl _ (by simp))

set_option maxRecDepth 100000 in
set_option maxHeartbeats 1000000 in
theorem works_any (w : World) :
    Calls Try.prog 11 #[] w fun e w' => e = .returned (.bool true) ∧ Below w.heap.size w w' := by
  refine (callsIn_wide (n := 5)).1 ?_
  refine callsIn_of_wp_marks Try.func11 rfl trivial ?_ rfl
  simp only [Try.ntmps11, List.size_toArray, List.length_nil, Nat.reduceSub, Array.replicate_succ, Array.replicate_zero, List.push_toArray, List.append_toArray, List.nil_append, List.cons_append]
  have hef : ∀ (g : Nat) (W : World), (binOp .eql 38 (.func (.func 53) #[] #[.pointer (some ⟨g, 0, none⟩)]) .nilFunc).run Try.prog W = .ok (.bool false) W := fun g W => by kernel_rfl
  -- Xor(1 2, 3 2)
  gi_wp2_with fail
  obtain ⟨hM1, hB1⟩ := two_consts w [1, 2] [3, 2] (n := 2) (m := 2) rfl rfl
  refine ⟨trivial, (callsIn_wide.2 (xor_yes _ _ _ (Nat.le_refl _) hM1 (by decide) xor_row_ok)).mono ?_⟩
  rintro e w1 ⟨va, rfl, hFa, hBa⟩
  rw [xor_row] at hFa
  have hW1 : Below w.heap.size w w1 := hB1.trans (hBa.mono hB1.size)
  have hFa1 := hFa.less hB1.size
  obtain ⟨Aa, ca, rfl⟩ := hFa.bytes.form (n := 2) rfl
  clear hM1 hB1 hBa hFa
  -- Xor(1, 1 2)
  gi_wp2_with fail
  obtain ⟨hM1, hB1⟩ := two_consts w1 [1] [1, 2] (n := 1) (m := 2) rfl rfl
  refine ⟨trivial, (callsIn_wide.2 (xor_no _ _ _ (Nat.le_refl _) hM1 (by decide) xor_row_no)).mono ?_⟩
  rintro e w2 ⟨rfl, hBa⟩
  have hW12 : Below w1.heap.size w1 w2 := hB1.trans (hBa.mono hB1.size)
  have hW2 := Below.next hW1 hW12
  have hFa2 := hFa1.below hW12
  clear hM1 hB1 hBa hFa1 hW1 hW12
  -- Cut(1 2 3, 2)
  gi_wp2_with fail
  refine ⟨trivial, (callsIn_wide.2 (cut_yes _ [1, 2, 3] 2 (by decide) (by decide) (by decide) _ (const_bytes [1, 2, 3] (n := 3) rfl _ (by simp)))).mono ?_⟩
  rintro e w3 ⟨vl, rfl, hFl, hBa⟩
  rw [cut_row] at hFl
  have hW23 : Below w2.heap.size w2 w3 := ((Below.refl _ w2).alloc (Nat.le_refl _) _).trans (hBa.mono (by simp))
  have hW3 := Below.next hW2 hW23
  have hFa3 := hFa2.below hW23
  have hFl3 := hFl.less (base' := w2.heap.size) (by simp)
  obtain ⟨Al, cl, rfl, _⟩ := id hFl3
  clear hFl hBa hFa2 hW23
  -- Glue(those, 3)
  gi_wp2_with fail
  refine ⟨trivial, (callsIn_wide.2 (glue_yes _ _ 3 (by decide) _ hFl3.many glue_row_ok)).mono ?_⟩
  rintro e w4 ⟨vb, rfl, hFb, hB34⟩
  rw [show List.take (Int.toNat 3) (List.flatten [[1, 2], [3, 0]]) = ([1, 2, 3] : List UInt8) from rfl] at hFb
  have hW4 := Below.next hW3 hB34
  have hFa4 := hFa3.below hB34
  have hFl4 := hFl3.below hB34
  have hFb4 := hFb.less (base' := w3.heap.size) (Nat.le_refl _)
  obtain ⟨Ab, cb, rfl⟩ := hFb.bytes.form (n := 3) rfl
  clear hFa3 hFl3 hW3 hB34 hFb
  -- Glue(those, 2)
  gi_wp2_with fail
  refine ⟨trivial, (callsIn_wide.2 (glue_no _ _ 2 (by decide) (by decide) _ hFl4.many glue_row_no)).mono ?_⟩
  rintro e w5 ⟨rfl, hB45⟩
  have hW5 := Below.next hW4 hB45
  have hFa5 := hFa4.below hB45
  have hFl5 := hFl4.below hB45
  have hFb5 := hFb4.below hB45
  clear hFa4 hFl4 hFb4 hW4 hB45
  -- Bits(5), twice
  gi_wp2_with fail
  refine ⟨trivial, (callsIn_wide.2 (bits_five (w5.alloc (.cells #[.int .i64 0] 3)) (w5.heap.size + 1) (by simp))).mono ?_⟩
  rintro e w6 ⟨g6, v6, rfl, _, _, _, hB6⟩
  have hB56 : Below w5.heap.size w5 w6 := (((Below.refl _ w5).alloc (Nat.le_refl _) _).alloc (by simp) _).trans (hB6.mono (by simp; omega))
  have bn6 : Blk w6 w5.heap.size 3 #[.int .i64 0] := ((Blk.new w5 _ _).alloc _).below hB6 (by simp; omega)
  clear hB6
  gi_wp2_with fail
  refine ⟨trivial, (callsIn_wide.2 (bits_five w6 w6.heap.size rfl)).mono ?_⟩
  rintro e w7 ⟨g7, v7, rfl, hg7, hBk7, hF7, hB7⟩
  have hB67 : Below w6.heap.size w6 w7 := ((Below.refl _ w6).alloc (Nat.le_refl _) _).trans (hB7.mono (by simp))
  have bn7 := bn6.below hB67 bn6.lt
  have hB57 := Below.next hB56 hB67
  have hs6 : w5.heap.size < w6.heap.size := bn6.lt
  have hs7 : g7 < w7.heap.size := hBk7.lt
  have hs67 := hB67.size
  have hF7' := hF7.less (base' := w6.heap.size) (by simp)
  have hFa7 := hFa5.bytes.below hB57
  have hFl7 := hFl5.many.below hB57
  have hFb7 := hFb5.bytes.below hB57
  have hW7 := Below.next hW5 hB57
  clear hF7 hFa5 hFl5 hFb5 hB7 bn6 hg7
  gi_wp2_with fail
  refine wpIn_rangeFunc_ownG rfl (by omega) (gf := 53) (lb := #[.pointer (some ⟨g7, 0, none⟩)]) rfl trivial enter_bits1
    (bits_stops _ (by omega) g7 (fun b => w6.heap.size ≤ b ∧ b < w7.heap.size) _ (cellBytes [5]) (by decide) w7 hs7 (fun _ h => h.2) hBk7.one hF7'.toP) Keeps.trans (keeps_put (fun _ h => h.2)) (Below.refl _ _) (fun _ => rfl)
    (fun pre W => Blk W w5.heap.size 3 #[.int .i64 (acc pre)] ∧ Below w5.heap.size w7 W)
    (fun _ _ _ => False)
    (OwnFrom.and (Own.from (Blk.own w5.heap.size 3 (fun pre : List Nat => #[.int .i64 (acc pre)])) _) (ownFrom_below (n₀ := w5.heap.size) (w₀ := w7) (by omega) (by omega)))
    (fun _ _ _ _ _ hs _ _ => hs)
    ⟨bn7, Below.refl _ _⟩
    ?a1 ?assign ?body ?done ?stop
  case assign =>
    intro l x W K hK
    gi_wp2
    exact hK
  case body =>
    rintro l pre x W ⟨hb, hB⟩ _
    have c0 := hb.one
    have f0 := hb.frozen 0
    have HN := Lib.hid (acc_next pre x)
    generalize acc pre = z at *
    gi_wp2
    refine ⟨(KeepsOthers.setCell _ _ _).from _, fun b hbb => Below.heap_setCell W _ _ b (by simp; omega), ?_, hB.setCell (Nat.le_refl _) _⟩
    rw [HN.out]
    exact hb.set_ 0 _
  case done =>
    rintro D ys W hD rfl ⟨hb, hB⟩ hK
    rw [places_row, acc_row] at hb
    have hsW := hB.size
    have t1 : (convert 25 9 (.slice Aa 2 ca)).run Try.prog W = .ok (.string ⟨#[2, 0]⟩) W := run_txt W (hFa7.below hB)
    obtain ⟨hM2, hB2⟩ := two_consts W [1, 2] [3, 0] (n := 2) (m := 2) rfl rfl
    have HS := rsame_any _ _ [[1, 2], [3, 0]] [[1, 2], [3, 0]] _ ((hFl7.below hB).below (hB2.mono (by omega))) hM2 (by decide) (by decide)
    rw [decide_eq_true rfl] at HS
    have HS' : Hid (Calls Try.prog 23 #[.slice Al 2 cl, .slice (some ⟨W.heap.size + 1 + 1, 0, none⟩) 2 2] (((W.alloc (.cells #[.int .u8 1, .int .u8 2] 5)).alloc (.cells #[.int .u8 3, .int .u8 0] 5)).alloc (.cells #[.slice (some ⟨W.heap.size, 0, none⟩) 2 2, .slice (some ⟨W.heap.size + 1, 0, none⟩) 2 2] 25)) fun e w' => e = .returned (.bool true) ∧ Below W.heap.size W w') := by
      refine HS.mono ?_
      rintro e w8 ⟨rfl, hB8⟩
      exact ⟨rfl, hB2.trans (hB8.mono hB2.size)⟩
    clear HS hM2 hB2 hFa7 hFl7
    gi_wp2_with (refine ⟨trivial, ?_⟩; first
      | (gi_at_call 14; refine (callsIn_wide.2 (num_any _ _)).mono ?_; rintro e w' ⟨rfl, rfl⟩)
      | (gi_at_call 23; refine (callsIn_wide.2 HS'.out).mono ?_; rintro e w8 ⟨rfl, hB8⟩; have t3 : (convert 25 9 (.slice Ab 3 cb)).run Try.prog w8 = .ok (.string ⟨#[1, 2, 3]⟩) w8 := run_txt w8 ((hFb7.below hB).below (hB8.mono (by omega))); have c4 : w8.cell? ⟨w5.heap.size, 0, none⟩ = some (.int .i64 2) := (hb.below hB8 (by omega)).one))
    have hD8 : D < W.heap.size := (Array.getElem?_eq_some_iff.1 hK).1
    have hK8 := (hB8.block D hD8).trans hK
    have hs5 := hW5.size
    refine ⟨by simp, .inl ⟨_, _, rfl, run_takeDeferred hK8, ?_⟩⟩
    exact ⟨_, results_tmp rfl _ _ _, rfl, ((hW7.trans (hB.mono hs5)).trans (hB8.mono (by omega))).trans (belowK_b (w := w) (Nat.le_refl _) _ D _ _ (by omega) hK8 rfl rfl)⟩
  case stop =>
    rintro D c pre W _ _ h _
    exact h.elim
end Go.Proofs.Ytjkpmhannmbgfaa
