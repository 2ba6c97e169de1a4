/- Cells: cellOf, nought, under, folded; of what length lists are. -/
import Derived.Test.YtggdlklkjnbbjaaGreatDoorCwA
import Derived.Test.YtggdlklkjnbbjaaGreatDoorCMath
import Derived.Shelf.Abstract
namespace Go.Proofs.YtggdlklkjnbbjaaGreatDoor.C
open Go.RowKit Go.Shelf

/-- The value v reads as the bytes l, and lies in a block from base on. -/
def Fresh (base : Nat) (W : World) (v : Value) (l : List UInt8) : Prop :=
  ∃ A cap, v = .slice A l.length cap ∧ l.length ≤ cap ∧ (0 < l.length → ∃ b off, A = some ⟨b, off, none⟩ ∧ base ≤ b ∧ b < W.heap.size ∧ ∀ j, j < l.length → W.cell? ⟨b, off + j, none⟩ = some (.int .u8 ((l[j]?.getD 0).toNat : Int)))

section
variable {W W' : World} {base base' : Nat} {v : Value} {l : List UInt8}
theorem Fresh.bytes (h : Fresh base W v l) : Bytes W.heap.size W v l := by
  obtain ⟨A, cap, e, hc, hA⟩ := h
  refine ⟨A, cap, e, hc, fun hp => ?_⟩
  obtain ⟨b, off, e2, _, hb, hcell⟩ := hA hp
  exact ⟨b, off, e2, hb, hcell⟩
theorem Fresh.keep (h : Fresh base W v l) (hs : W.heap.size ≤ W'.heap.size) (hk : ∀ p : Addr, base ≤ p.block → p.block < W.heap.size → W'.cell? p = W.cell? p) : Fresh base W' v l := by
  obtain ⟨A, cap, e, hc, hA⟩ := h
  refine ⟨A, cap, e, hc, fun hp => ?_⟩
  obtain ⟨b, off, e2, hb1, hb2, hcell⟩ := hA hp
  exact ⟨b, off, e2, hb1, by omega, fun j hj => (hk ⟨b, off + j, none⟩ hb1 hb2).trans (hcell j hj)⟩
theorem Fresh.below (h : Fresh base W v l) (hb : Below W.heap.size W W') : Fresh base W' v l := h.keep hb.size fun _ _ hp => hb.cell hp
theorem Fresh.set_ (h : Fresh base W v l) {p : Addr} (hp : p.block < base) (u : Value) : Fresh base (W.setCell p u) v l :=
  h.keep (by simp [World.setCell]) fun q hq _ => World.cell?_of_block (Below.heap_setCell W p u q.block (by omega))
theorem Fresh.less (h : Fresh base W v l) (hb : base' ≤ base) : Fresh base' W v l := by
  obtain ⟨A, cap, e, hc, hA⟩ := h
  refine ⟨A, cap, e, hc, fun hp => ?_⟩
  obtain ⟨b, off, e2, hb1, hb2, hcell⟩ := hA hp
  exact ⟨b, off, e2, by omega, hb2, hcell⟩
theorem Fresh.nil_ (base : Nat) (W : World) (A : Option Addr) (cap : Nat) : Fresh base W (.slice A 0 cap) [] := ⟨A, cap, rfl, Nat.zero_le _, fun h => absurd h (by simp)⟩
theorem Row.fresh {g n : Nat} (h : Row W g l) (hg : base ≤ g) (hn : l.length = n) : Fresh base W (.slice (some ⟨g, 0, none⟩) n n) l := by
  subst hn
  exact ⟨_, _, rfl, Nat.le_refl _, fun _ => ⟨g, 0, rfl, hg, h.lt, fun j hj => by rw [Nat.zero_add]; exact h.cell hj⟩⟩
theorem OwnB.fresh (h : OwnB W base v l) : Fresh base W v l := by
  rcases h.2 with ⟨rfl, h0⟩ | ⟨g, cap, cur, rfl, hbg, hg, hn, _, hsz, ht⟩
  · have : l = [] := List.eq_nil_of_length_eq_zero h0
    subst this
    exact Fresh.nil_ _ _ _ _
  · refine ⟨_, cap, rfl, hn, fun hp => ⟨g, 0, rfl, hbg, (Array.getElem?_eq_some_iff.1 hg).1, fun j hj => ?_⟩⟩
    rw [Nat.zero_add, cell_of_row W g j cur _ (0, 0) hg]
    have e : (l.map enc)[j]? = some (enc (l[j]?.getD 0)) := by
      rw [List.getElem?_map, List.getElem?_eq_getElem hj]; rfl
    rw [← ht, List.getElem?_take_of_lt (by omega)] at e
    rw [Array.getElem?_toList] at e
    exact e
end

theorem Bytes.form {B : Nat} {w : World} {v : Value} {l : List UInt8} (h : Bytes B w v l) {n : Nat} (hn : l.length = n) : ∃ A cap, v = .slice A n cap := by
  obtain ⟨A, cap, e, _⟩ := h
  exact ⟨A, cap, by rw [e, hn]⟩
theorem Below.next {a b c : World} (h : Below a.heap.size a b) (k : Below b.heap.size b c) : Below a.heap.size a c := h.trans (k.mono h.size)

theorem Below.undrew {B : Nat} {a w : World} (h : Below B a.drew w) : Below B a w := ⟨h.os, h.tape, h.output, h.size, h.block⟩
theorem _root_.Go.Proofs.YtggdlklkjnbbjaaGreatDoor.Blk.drew_ {w : World} {g : Nat} {t : TypeId} {cs : Array Value} (h : Blk w g t cs) : Blk w.drew g t cs := h
theorem cell_dec (l : List UInt8) : decide (1 ≤ (l.length : Int) ∧ (l.length : Int) ≤ 64) = decide (Cell l) := by
  by_cases h : Cell l
  · rw [decide_eq_true h, decide_eq_true_iff]; unfold Cell at h; omega
  · rw [decide_eq_false h, decide_eq_false_iff_not]; unfold Cell at h; omega

/-- A row in its variable, and a slot beside it. -/
theorem results_row_tmp {P : Program} {fn : Func} {p q : Tmp} {ty : TypeId} (h : fn.results = #[.cell p ty, .tmp q]) (tmps : Array Value) (w : World) (g : Nat) (t : TypeId) (cs : Array Value) (fr : Nat × Nat) (d : TypeDesc)
    (hp : tmps.getD p undef = .pointer (some ⟨g, 0, none⟩)) (hg : w.heap[g]? = some (.cells cs t fr))
    (hu : P.underlying ty = some d) (hd : (match d with | .struct _ | .array _ _ => true | _ => false) = true) (hi : (P.info? ty).map (·.size) = some cs.size) {v : Value} (hv : tmps.getD q undef = v) :
    (results fn tmps).run P w = .ok (.tuple #[.agg cs, v]) w := by
  have hp' : tmps[p]?.getD undef = .pointer (some ⟨g, 0, none⟩) := by simpa using hp
  have hv' : tmps[q]?.getD undef = v := by simpa using hv
  simp [results, h, hp', hv', asAddr, run_loadVar_row w g t ty cs fr d hg hu hd hi]

set_option maxHeartbeats 400000 in
theorem cellOf_yes {B : Nat} (v : Value) (l : List UInt8) (w : World) (hb : Bytes B w v l) (hc : Cell l) :
    Calls Tryz.prog 158 #[v] w fun e w' => e = .returned (.tuple #[.agg #[v], .bool true]) ∧ Below w.heap.size w w' := by
  have h1 := fun W : World => isLength_any (l.length : Int) W
  rw [cell_dec l, decide_eq_true hc] at h1
  obtain ⟨A, cap, rfl, _, _⟩ := hb
  have H := Lib.hid h1
  clear h1
  go_enter Tryz.func158, Tryz.ntmps158
  go_wp2_with (go_at_call 163; refine (H.out _).mono ?_; rintro e w' ⟨rfl, rfl⟩)
  refine bodyPost_ret (results_row_tmp rfl _ _ w.heap.size _ _ _ _ rfl (heap_alloc_new w _) Tryz.underlying146 rfl (by show _ = some 1; kernel_rfl) rfl) rfl ?_
  exact ⟨rfl, (Below.refl _ w).alloc (Nat.le_refl _) _⟩

set_option maxHeartbeats 400000 in
theorem cellOf_no {B : Nat} (v : Value) (l : List UInt8) (w : World) (hb : Bytes B w v l) (hc : ¬ Cell l) :
    Calls Tryz.prog 158 #[v] w fun e w' => e = .returned (.tuple #[.agg #[.slice none 0 0], .bool false]) ∧ Below w.heap.size w w' := by
  have h1 := fun W : World => isLength_any (l.length : Int) W
  rw [cell_dec l, decide_eq_false hc] at h1
  obtain ⟨A, cap, rfl, _, _⟩ := hb
  have H := Lib.hid h1
  clear h1
  go_enter Tryz.func158, Tryz.ntmps158
  go_wp2_with (go_at_call 163; refine (H.out _).mono ?_; rintro e w' ⟨rfl, rfl⟩)
  refine bodyPost_ret (results_row_tmp rfl _ _ w.heap.size _ _ _ _ rfl (heap_alloc_new w _) Tryz.underlying146 rfl (by show _ = some 1; kernel_rfl) rfl) rfl ?_
  exact ⟨rfl, (Below.refl _ w).alloc (Nat.le_refl _) _⟩

set_option maxHeartbeats 400000 in
theorem nought_yes (n : Nat) (h1 : 1 ≤ n) (h64 : n ≤ 64) (w : World) :
    Calls Tryz.prog 148 #[.int .i64 (n : Int)] w fun e w' => ∃ g, e = .returned (.agg #[.slice (some ⟨g, 0, none⟩) n n]) ∧ w.heap.size ≤ g ∧ Row w' g (List.replicate n 0) ∧ Below w.heap.size w w' := by
  have h := fun W : World => isLength_any (n : Int) W
  rw [decide_eq_true (show 1 ≤ (n : Int) ∧ (n : Int) ≤ 64 by omega)] at h
  have H := Lib.hid h
  clear h
  obtain ⟨i0, hi, hz0, hz1, hz2⟩ := info_parts Tryz.infoByte
  have hmk := fun W : World => run_make (P := Tryz.prog) W 144 5 i0 (.int .u8 0) Tryz.underlying144 hi hz0 .i64 .i64 (n : Int) (n : Int) (by omega) (by omega) (by rw [hz2]; omega) (by omega)
  simp only [hz1, Nat.mul_one, Int.toNat_natCast] at hmk
  go_enter Tryz.func148, Tryz.ntmps148
  go_wp2_with (first | (go_at_call 163; refine (H.out _).mono ?_; rintro e w' ⟨rfl, rfl⟩) | (go_at_call 162; refine (need_yes _).mono ?_; rintro e w' ⟨rfl, rfl⟩))
  have hR := Row.made (w.alloc (.cells #[.slice (some ⟨w.heap.size + 1, 0, none⟩) n n] 146)) n
  rw [World.size_alloc] at hR
  refine bodyPost_ret (results_cell_row rfl _ _ w.heap.size _ _ _ _ rfl ((Blk.new w 146 #[.slice (some ⟨w.heap.size + 1, 0, none⟩) n n]).alloc _) Tryz.underlying146 rfl (by show _ = some 1; kernel_rfl)) rfl ?_
  exact ⟨w.heap.size + 1, rfl, by omega, hR, ((Below.refl _ w).alloc (Nat.le_refl _) _).alloc (by simp) _⟩

set_option maxHeartbeats 400000 in
theorem nought_no (n : Int) (h1 : ¬ (1 ≤ n ∧ n ≤ 64)) (w : World) :
    Calls Tryz.prog 148 #[.int .i64 n] w fun e w' => e = .panicked gaveUp ∧ Below w.heap.size w w' := by
  have h := fun W : World => isLength_any n W
  rw [decide_eq_false h1] at h
  have H := Lib.hid h
  clear h h1
  go_enter Tryz.func148, Tryz.ntmps148
  go_wp2_with (first | (go_at_call 163; refine (H.out _).mono ?_; rintro e w' ⟨rfl, rfl⟩) | (go_at_call 162; refine (need_no _).mono ?_; rintro e w' ⟨rfl, rfl⟩))
  exact ⟨rfl, rfl, (Below.refl _ w).alloc (Nat.le_refl _) _⟩

theorem grown_set {w : World} (g : Nat) (i : Nat) (u : Value) : w.grownBy (w.setCell ⟨g, i, none⟩ u) (some g) :=
  ⟨rfl, rfl, rfl, by simp [World.setCell], fun k _ hne => Below.heap_setCell w ⟨g, i, none⟩ u k (fun e => hne (by simp at e; rw [e]))⟩
theorem grown_new {a w : World} {row : Option Nat} (h : a.grownBy w row) {p : Addr} (hp : a.heap.size ≤ p.block) (u : Value) : a.grownBy (w.setCell p u) row :=
  ⟨h.os, h.tape, h.output, by simpa [World.setCell] using h.size, fun k hk hne => (Below.heap_setCell w p u k (by omega)).trans (h.block k hk hne)⟩
theorem grown_newRow {a w : World} {row : Option Nat} (h : a.grownBy w row) {g : Nat} (hg : a.heap.size ≤ g) (cs : Array Value) : a.grownBy (w.setRow g cs) row :=
  ⟨h.os, h.tape, h.output, by simpa using h.size, fun k hk hne => (setRow_other w g k cs (by omega)).trans (h.block k hk hne)⟩
theorem grown_two (w : World) (o o' : Obj) (row : Option Nat) : w.grownBy ((w.alloc o).alloc o') row := (World.grownBy_alloc w o row).trans (World.grownBy_alloc _ o' row)
theorem grown_below {a w : World} {g B : Nat} (h : a.grownBy w (some g)) (hg : B ≤ g) (hB : B ≤ a.heap.size) : Below B a w := (Below.refl B a).grown h hB (fun k e => by cases e; exact hg)
theorem Row.grown {w w' : World} {g : Nat} {l : List UInt8} {row : Option Nat} (h : Row w g l) (hb : w.grownBy w' row) (hg : some g ≠ row) : Row w' g l := Blk.grown h hb hg

set_option maxHeartbeats 1000000 in
theorem under_any (g n B : Nat) (a b : List UInt8) (v : Value) (w : World) (hBg : B ≤ g) (hR : Row w g a) (ha : a.length = n) (hb : Bytes B w v b) (hl : b.length = n) (hn : n ≤ 64) :
    Calls Tryz.prog 150 #[.agg #[.slice (some ⟨g, 0, none⟩) n n], v] w fun e w' => e = .returned (.agg #[.slice (some ⟨g, 0, none⟩) n n]) ∧ Row w' g (xorB a b) ∧ w.grownBy w' (some g) := by
  obtain ⟨A, cap, rfl, _, hA⟩ := hb
  subst ha
  have hgw := hR.lt
  rw [hl] at hA
  go_enter Tryz.func150, Tryz.ntmps150
  rw [hl]
  go_wp2
  go_loopw [9] (fun i wr => ∃ k : Nat, k ≤ a.length ∧ i = .int .i64 k ∧ Hid (Row wr g (xorTo a b k)) ∧ Hid (Blk wr w.heap.size 146 #[.slice (some ⟨g, 0, none⟩) a.length a.length]) ∧ Hid (∃ x, Blk wr (w.heap.size + 1) 146 #[x]) ∧ w.grownBy wr (some g))
    (fun i _ => a.length - (intOf i).toNat)
  case atStart =>
    refine ⟨0, Nat.zero_le _, rfl, Lib.hid ?_, Lib.hid ?_, Lib.hid ?_, grown_two _ _ _ _⟩
    · rw [xorTo_zero]; exact (hR.alloc _).alloc _
    · exact heap_alloc2_old w _ _
    · exact ⟨_, heap_alloc2_new w _ _⟩
  case round =>
    obtain ⟨k, hk, rfl, R, B1, B2, hG⟩ := hrel
    have hB := grown_below hG hBg (by omega)
    by_cases hlt : k < a.length
    · have hdec : decide ((k : Int) < (a.length : Int)) = true := by simp; omega
      obtain ⟨b1, off, rfl, hb1, hcell⟩ := hA (by omega)
      have hc1 : wr.cell? ⟨b1, off + k, none⟩ = some (.int .u8 ((at_ b k).toNat : Int)) := (hB.cell (p := ⟨b1, off + k, none⟩) hb1).trans (hcell k hlt)
      have hc2 := B1.out.cell 0
      simp only [List.getElem?_toArray, List.getElem?_cons_zero] at hc2
      have hc3 := R.out.cell (k := k) (by rw [xorTo_len]; exact hlt)
      rw [xorTo_at a b k hlt] at hc3
      have hf3 := R.out.frozen k
      have hx := bits_u8 (at_ a k) (at_ b k)
      have HN := Lib.hid (xorTo_next a b k)
      clear hcell hA
      generalize at_ a k = x at *
      generalize at_ b k = y at *
      go_wp2
      go_roundw
      case rel =>
        refine ⟨k + 1, by omega, by go_num, Lib.hid ?_, Lib.hid (B1.out.far (by simp; omega) _), Lib.hid ?_, hG.trans (grown_set g k _)⟩
        · have := R.out.set_ k (x ^^^ y)
          rwa [HN.out] at this
        · obtain ⟨z, hz⟩ := B2.out
          exact ⟨z, hz.far (by simp; omega) _⟩
      case measure => simp [intOf]; omega
    · obtain rfl : k = a.length := by omega
      have hk2 := B1.out
      obtain ⟨z, hz⟩ := B2.out
      have hc2 := B1.out.cell 0
      simp only [List.getElem?_toArray, List.getElem?_cons_zero] at hc2
      have R' := R.out
      rw [xorTo_all a b _ (Nat.le_refl _)] at R'
      have e1 : decide ((a.length : Int) < (a.length : Int)) = false := by simp
      go_wp2_with (first
        | (refine wpList_load_row rfl 146 _ rfl w.heap.size rfl _ _ (0, 0) _ hk2 Tryz.underlying146 rfl (by show _ = some 1; kernel_rfl) ?_)
        | (refine wpList_store_row rfl 146 _ _ rfl (w.heap.size + 1) #[.slice (some ⟨g, 0, none⟩) a.length a.length] rfl rfl _ _ hz (by show _ = some 1; kernel_rfl) (by kernel_rfl) (by kernel_rfl) ?_))
      refine bodyPost_ret (results_cell_row rfl _ _ (w.heap.size + 1) _ #[.slice (some ⟨g, 0, none⟩) a.length a.length] _ _ rfl (hz.setRow _) Tryz.underlying146 rfl (by show _ = some 1; kernel_rfl)) rfl ?_
      exact ⟨rfl, Blk.farRow R' (by omega) _, grown_newRow hG (by omega) _⟩

/-- Lists of one length. -/
def AllLen (n : Nat) (ls : List (List UInt8)) : Prop := ∀ j, j < ls.length → (ls[j]?.getD []).length = n

theorem many_at {B : Nat} {w : World} {A : Option Addr} {cap : Nat} {ls : List (List UInt8)} (h : Many B w (.slice A ls.length cap) ls) (hp : 0 < ls.length) :
    ∃ b off, A = some ⟨b, off, none⟩ ∧ b < B ∧ ∀ j, j < ls.length → ∃ A1 cp, w.cell? ⟨b, off + j, none⟩ = some (.slice A1 (ls[j]?.getD []).length cp) ∧ Bytes B w (.slice A1 (ls[j]?.getD []).length cp) (ls[j]?.getD []) := by
  obtain ⟨A', cap', e, _, hA⟩ := h
  injection e with e1 _ e3
  subst e1 e3
  obtain ⟨b, off, e2, hb, hc⟩ := hA hp
  refine ⟨b, off, e2, hb, fun j hj => ?_⟩
  obtain ⟨u, hu, hB⟩ := hc j hj
  obtain ⟨A1, cp, rfl, _⟩ := id hB
  exact ⟨A1, cp, hu, hB⟩

theorem Tryz.enter_under (args : Array Value) (w : World) : (callFunc 150 args).run Tryz.prog w = .ok (.enter 150 args) w := (enters_of Tryz.func150 (by kernel_rfl) rfl) args w

set_option maxHeartbeats 1000000 in
theorem folded_any (g n B : Nat) (z : List UInt8) (ls : List (List UInt8)) (v : Value) (w : World) (hBg : B ≤ g) (hR : Row w g z) (hz : z.length = n) (hM : Many B w v ls) (hl : AllLen n ls) (hn : n ≤ 64) (hls : ls.length ≤ 140737488351232) :
    Calls Tryz.prog 147 #[.agg #[.slice (some ⟨g, 0, none⟩) n n], .func (.func 150) #[] #[], v] w fun e w' =>
      e = .returned (.agg #[.slice (some ⟨g, 0, none⟩) n n]) ∧ Row w' g (xors z ls) ∧ w.grownBy w' (some g) := by
  obtain ⟨A, cap, rfl, _, _⟩ := id hM
  have hgw := hR.lt
  have hent := Tryz.enter_under
  go_enter Tryz.func147, Tryz.ntmps147
  go_wp2
  go_loopw [11] (fun i wr => ∃ k : Nat, k ≤ ls.length ∧ i = .int .i64 k ∧ Hid (Row wr g (xors z (ls.take k))) ∧ Hid (Blk wr w.heap.size 146 #[.slice (some ⟨g, 0, none⟩) n n]) ∧ Hid (∃ x, Blk wr (w.heap.size + 1) 146 #[x]) ∧ w.grownBy wr (some g))
    (fun i _ => ls.length - (intOf i).toNat)
  case atStart =>
    refine ⟨0, Nat.zero_le _, rfl, Lib.hid ?_, Lib.hid ?_, Lib.hid ?_, grown_two _ _ _ _⟩
    · exact (hR.alloc _).alloc _
    · exact heap_alloc2_old w _ _
    · exact ⟨_, heap_alloc2_new w _ _⟩
  case round =>
    obtain ⟨k, hk, rfl, R, B1, B2, hG⟩ := hrel
    have hB := grown_below hG hBg (by omega)
    by_cases hlt : k < ls.length
    · have hdec : decide ((k : Int) < (ls.length : Int)) = true := by simp; omega
      obtain ⟨b, off, rfl, hb, hrow⟩ := many_at hM (by omega)
      obtain ⟨A1, cp, hc, hB1⟩ := hrow k hlt
      have hc1 := (hB.cell (p := ⟨b, off + k, none⟩) hb).trans hc
      have hlk := hl k hlt
      have HN := Lib.hid (xors_next z ls k hlt)
      have hU := Lib.hid (under_any g n B (xors z (ls.take k)) (ls[k]?.getD []) _ wr hBg R.out ((xors_len _ _).trans hz) (hB1.below hB) hlk hn)
      clear hc hrow hB1
      rw [hlk] at hc1 hU
      generalize xors z (ls.take k) = x at HN hU
      have B1' := B1.out
      go_wp2_with (first
        | (go_at_call 150; refine hU.out.mono ?_; rintro e w2 ⟨rfl, hR2, hG2⟩)
        | (refine wpList_load_row rfl 146 _ rfl w.heap.size rfl _ _ (0, 0) _ B1' Tryz.underlying146 rfl (by show _ = some 1; kernel_rfl) ?_)
        | (refine wpList_store_row rfl 146 _ _ rfl w.heap.size #[.slice (some ⟨g, 0, none⟩) n n] rfl rfl _ _ (B1'.grown hG2 (by simp; omega)) (by show _ = some 1; kernel_rfl) (by kernel_rfl) (by kernel_rfl) ?_))
      go_roundw
      case rel =>
        refine ⟨k + 1, by omega, by go_num, Lib.hid ?_, Lib.hid ((B1'.grown hG2 (by simp; omega)).setRow _), Lib.hid ?_, grown_newRow (hG.trans hG2) (Nat.le_refl _) _⟩
        · rw [HN.out]; exact Blk.farRow hR2 (by omega) _
        · obtain ⟨y, hy⟩ := B2.out
          exact ⟨y, (hy.grown hG2 (by simp; omega)).farRow (by omega) _⟩
      case measure => simp [intOf]; omega
    · obtain rfl : k = ls.length := by omega
      have hk2 := B1.out
      obtain ⟨y, hy⟩ := B2.out
      have R' := R.out
      rw [List.take_length] at R'
      have e1 : decide ((ls.length : Int) < (ls.length : Int)) = false := by simp
      go_wp2_with (first
        | (refine wpList_load_row rfl 146 _ rfl w.heap.size rfl _ _ (0, 0) _ hk2 Tryz.underlying146 rfl (by show _ = some 1; kernel_rfl) ?_)
        | (refine wpList_store_row rfl 146 _ _ rfl (w.heap.size + 1) #[.slice (some ⟨g, 0, none⟩) n n] rfl rfl _ _ hy (by show _ = some 1; kernel_rfl) (by kernel_rfl) (by kernel_rfl) ?_))
      refine bodyPost_ret (results_cell_row rfl _ _ (w.heap.size + 1) _ #[.slice (some ⟨g, 0, none⟩) n n] _ _ rfl (hy.setRow _) Tryz.underlying146 rfl (by show _ = some 1; kernel_rfl)) rfl ?_
      exact ⟨rfl, Blk.farRow R' (by omega) _, grown_newRow hG (by omega) _⟩
end Go.Proofs.YtggdlklkjnbbjaaGreatDoor.C
