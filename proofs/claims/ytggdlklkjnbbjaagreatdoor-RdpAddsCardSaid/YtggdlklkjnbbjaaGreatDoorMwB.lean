/- slices.Values over numbers: what its function goes over; who is first. -/
import Derived.Test.YtggdlklkjnbbjaaGreatDoorMwA
import Derived.Test.YtggdlklkjnbbjaaGreatDoorMRange
namespace Go.Proofs.YtggdlklkjnbbjaaGreatDoor
open Go.RowKit Go.Shelf
attribute [local go_sem] Oper.semAt_some

theorem take_next (zs : List Int) {k : Nat} (hk : k < zs.length) : zs.take (k + 1) = zs.take k ++ [zs[k]?.getD 0] := by
  rw [List.take_succ_eq_append_getElem hk, List.getElem?_eq_getElem hk]; rfl

/-- What goes over the numbers zs: gf, with what it has captured; its rounds keep what lies from lo on below n₀. -/
def Goes (lo n₀ : Nat) (gf : Nat) (lb : Array Value) (zs : List Int) (w : World) : Prop :=
  ∃ k, ∀ n, 1 ≤ n → SeqOwn Fence.wide n Tryz.prog gf lb (fun x : Int => #[Value.int .i64 x]) k (Keep lo (n₀ - lo)) (fun ys => ys = zs) (fun pre => pre <+: zs) zs.length w
theorem Goes.later {lo n₀ gf : Nat} {lb : Array Value} {zs : List Int} {w w' : World} (h : Goes lo n₀ gf lb zs w) (hb : Below w.heap.size w w') : Goes lo n₀ gf lb zs w' := by
  obtain ⟨k, h⟩ := h
  exact ⟨k, fun n hn l J Jx W hW hJ hJx hY h0 => h n hn l J Jx W (below_in hb hW) hJ hJx hY h0⟩

set_option maxHeartbeats 400000 in
theorem values_any (A : Option Addr) (len cap : Nat) (w : World) :
    Calls Tryz.prog 167 #[.slice A len cap] w fun e w' => e = .returned (.func (.func 178) #[] #[.pointer (some ⟨w.heap.size, 0, none⟩)]) ∧ w.alloc (.cells #[.slice A len cap] 109) = w' := by
  have hmf := make_func
  go_enter Tryz.func167, Tryz.ntmps167
  go_wp2
  go_ret
  exact ⟨rfl, rfl⟩

set_option maxRecDepth 100000 in
set_option maxHeartbeats 2000000 in
theorem values1_in (n : Nat) (hn : 1 ≤ n) (l Bs lo m g : Nat) (zs : List Int) (hlen : zs.length ≤ 1000000) (hg1 : lo ≤ g) (hg2 : g < lo + m) (J Jx : List Int → World → Prop)
    (hY : ∀ pre x W, J pre W → pre.length < zs.length → YieldAt Fence.wide (n - 1) Tryz.prog l #[.int .i64 x] W fun e W' => (e = .returned (.bool true) ∧ J (pre ++ [x]) W' ∧ Keep lo m W W') ∨ (e = .returned (.bool false) ∧ Jx (pre ++ [x]) W'))
    (W : World) (hBs : W.cell? ⟨Bs, 0, none⟩ = some (.slice (some ⟨g, 0, none⟩) zs.length zs.length)) (hc : ∀ j, j < zs.length → W.cell? ⟨g, j, none⟩ = some (.int .i64 (zs[j]?.getD 0))) (h0 : J [] W) :
    CallsIn Fence.wide n Tryz.prog 178 #[.func (.yield l) #[] #[], .pointer (some ⟨Bs, 0, none⟩)] W fun e W' => (∃ v, e = .returned v) ∧ ((∃ ys, ys = zs ∧ J ys W') ∨ (∃ pre, pre <+: zs ∧ Jx pre W')) := by
  refine callsIn_of_wp Tryz.func178 rfl trivial ?_ rfl
  simp only [Tryz.ntmps178, List.size_toArray, List.length_cons, List.length_nil, Nat.reduceAdd, Nat.reduceSub, Array.replicate_succ, Array.replicate_zero, List.push_toArray, List.append_toArray, List.nil_append, List.cons_append]
  gi_wp2
  gi_loopw [7] (fun i wr => ∃ k : Nat, k ≤ zs.length ∧ i = .int .i64 k ∧ J (zs.take k) wr ∧ Keep lo m W wr) (fun i _ => zs.length - (intOf i).toNat)
  case atStart => exact ⟨0, Nat.zero_le _, rfl, h0, Keep.refl _ _ _⟩
  case round =>
    obtain ⟨k, hk, rfl, hJs, hnx⟩ := hrel
    by_cases hlt : k < zs.length
    · have hcx : wr.cell? ⟨g, k, none⟩ = some (.int .i64 (zs[k]?.getD 0)) := (World.cell?_of_block (hnx.2 g hg1 hg2)).trans (hc k hlt)
      have HT := Lib.hid (take_next zs hlt)
      clear hc
      generalize zs[k]?.getD 0 = x at hcx HT
      obtain ⟨fn, tmps, assign, body, hy, hR⟩ := hY _ x wr hJs (by rw [List.length_take]; omega)
      gi_wp2
      refine hR.mono ?_
      rintro e W3 (⟨rfl, hJ3, hk3⟩ | ⟨rfl, hJx3⟩)
      · gi_wp2
        go_roundw
        case rel => exact ⟨k + 1, by omega, by go_num, by rw [HT.out]; exact hJ3, hnx.trans hk3⟩
        case measure => simp [intOf]; omega
      · gi_wp2
        refine bodyPost_ret (results_none rfl _ _ _) rfl ?_
        exact ⟨⟨_, rfl⟩, .inr ⟨_, by rw [← HT.out]; exact List.take_prefix _ _, hJx3⟩⟩
    · obtain rfl : k = zs.length := by omega
      rw [List.take_length] at hJs
      gi_wp2
      go_end0
      exact ⟨⟨_, rfl⟩, .inl ⟨_, rfl, hJs⟩⟩

theorem values_goes (Bs lo n₀ g : Nat) (zs : List Int) (hlen : zs.length ≤ 1000000) (w : World) (hg1 : lo ≤ g) (hg : g < n₀) (hn₀ : n₀ ≤ w.heap.size) (hBs : Bs < w.heap.size)
    (hc : w.cell? ⟨Bs, 0, none⟩ = some (.slice (some ⟨g, 0, none⟩) zs.length zs.length)) (hM : ∀ j, j < zs.length → w.cell? ⟨g, j, none⟩ = some (.int .i64 (zs[j]?.getD 0))) :
    Goes lo n₀ 178 #[.pointer (some ⟨Bs, 0, none⟩)] zs w := ⟨0, fun n hn l J Jx W hW _ _ hY h0 =>
  values1_in n hn l Bs lo (n₀ - lo) g zs hlen hg1 (by omega) (fun pre W' => J pre W' ∧ W.heap.size ≤ W'.heap.size) Jx
    (fun pre x W1 hJ hl => (hY pre x W1 hJ.1 hl hJ.2).mono fun _ _ h => h.imp (fun h => ⟨h.1, ⟨h.2.1, Nat.le_trans hJ.2 h.2.2.1.1⟩, h.2.2.1⟩) id) W ((hW.cell (p := ⟨Bs, 0, none⟩) hBs).trans hc)
    (fun j hj => (hW.cell (p := ⟨g, j, none⟩) (Nat.lt_of_lt_of_le hg hn₀)).trans (hM j hj)) ⟨h0, Nat.le_refl _⟩ |>.mono fun _ _ h => ⟨h.1, h.2.imp (fun ⟨ys, e, h⟩ => ⟨ys, e, h.1⟩) id⟩⟩

/-- How many are gone over ahead of the first one that is s; 0 if none is. -/
def ahead (s : Int) (zs : List Int) : Nat := if s ∈ zs then zs.idxOf s else 0
theorem ahead_of {s : Int} {zs pre : List Int} (h : pre ++ [s] <+: zs) (hs : s ∉ pre) : s ∈ zs ∧ ahead s zs = pre.length := by
  obtain ⟨t, rfl⟩ := h
  have hm : s ∈ pre ++ [s] ++ t := by simp
  refine ⟨hm, ?_⟩
  unfold ahead
  rw [if_pos hm, List.append_assoc, List.idxOf_append, if_neg hs, List.singleton_append, List.idxOf_cons_self]; omega
theorem ahead_none {s : Int} {zs : List Int} (hs : s ∉ zs) : ahead s zs = 0 := if_neg hs

set_option maxRecDepth 100000 in
set_option maxHeartbeats 1000000 in
theorem first_any (s : Int) (gf : Nat) (lb : Array Value) (zs : List Int) (hlen : zs.length ≤ 1000000) (w : World) (eg : Enters Tryz.prog gf) (lo : Nat) (hlo : lo ≤ w.heap.size) (hs : Goes lo w.heap.size gf lb zs w) :
    Calls Tryz.prog 166 #[.int .i64 s, .func (.func gf) #[] lb] w fun e w' => e = .returned (.tuple #[.int .i64 (ahead s zs : Nat), .bool (decide (s ∈ zs))]) ∧ Below w.heap.size w w' := by
  refine (callsIn_wide (n := 5)).1 ?_
  refine callsIn_of_wp_marks Tryz.func166 rfl trivial ?_ rfl
  simp only [Tryz.ntmps166, List.size_toArray, List.length_cons, List.length_nil, Nat.reduceAdd, Nat.reduceSub, Array.replicate_succ, Array.replicate_zero, List.push_toArray, List.append_toArray, List.nil_append, List.cons_append]
  gi_wp2
  obtain ⟨W0, hW0⟩ : ∃ W0, ((w.alloc (.cells #[.int .i64 s] 3)).alloc (.cells #[.int .i64 0] 3)).alloc (.cells #[.bool false] 4) = W0 := ⟨_, rfl⟩
  have b0 : Blk W0 w.heap.size 3 #[.int .i64 s] := by rw [← hW0]; exact ((Blk.new w _ _).alloc _).alloc _
  have b1 : Blk W0 (w.heap.size + 1) 3 #[.int .i64 0] := by
    rw [← hW0]; have := (Blk.new (w.alloc (.cells #[.int .i64 s] 3)) 3 #[.int .i64 0]).alloc (.cells #[.bool false] 4); rwa [World.size_alloc] at this
  have b2 : Blk W0 (w.heap.size + 1 + 1) 4 #[.bool false] := by
    rw [← hW0]; have := Blk.new ((w.alloc (.cells #[.int .i64 s] 3)).alloc (.cells #[.int .i64 0] 3)) 4 #[.bool false]; rwa [World.size_alloc, World.size_alloc] at this
  have hB0 : Below w.heap.size w W0 := by rw [← hW0]; exact (((Below.refl _ w).alloc (Nat.le_refl _) _).alloc (by simp) _).alloc (by simp; omega) _
  have hz0 : W0.heap.size = w.heap.size + 3 := by rw [← hW0]; simp
  rw [hW0]
  clear hW0
  obtain ⟨kk, hs⟩ := hs.later hB0
  refine wpIn_rangeOwn1 rfl (by omega) (gf := gf) (lb := lb) rfl trivial eg (hs _ (by omega)) (by omega) (Below.refl _ _) (fun _ => rfl)
    (fun pre W => s ∉ pre ∧ Blk W w.heap.size 3 #[.int .i64 s] ∧ Blk W (w.heap.size + 1) 3 #[.int .i64 (pre.length : Int)] ∧ Blk W (w.heap.size + 1 + 1) 4 #[.bool false] ∧ Below w.heap.size w W)
    (fun c pre W => c = .ret ∧ (∃ q, pre = q ++ [s] ∧ s ∉ q ∧ Blk W (w.heap.size + 1) 3 #[.int .i64 (q.length : Int)]) ∧ Blk W (w.heap.size + 1 + 1) 4 #[.bool true] ∧ Below w.heap.size w W)
    ?hI ?hIx ⟨by simp, b0, b1, b2, hB0⟩
    (fun x => { tmps := #[.int .i64 s, .func (.func gf) #[] lb, .pointer (some ⟨w.heap.size, 0, none⟩), undef, .pointer (some ⟨w.heap.size + 1, 0, none⟩), .pointer (some ⟨w.heap.size + 1 + 1, 0, none⟩), .int .i64 x, .func (.func gf) #[] lb, .int .i64 x, undef, undef, undef, undef, undef, undef], defers := [] }) ?assign ?body ?done ?stop
  case hI =>
    exact (spares_pure _ _ _).and ((spares_blk (by omega) _ (fun _ : List Int => #[.int .i64 s])).and ((spares_blk (by omega) _ (fun pre : List Int => #[.int .i64 (pre.length : Int)])).and ((spares_blk (by omega) _ (fun _ : List Int => #[.bool false])).and (spares_below (Nat.le_refl _) (by omega)))))
  case hIx =>
    rintro c pre X Y row ⟨hc, ⟨q, e1, e2, e3⟩, hb, hB⟩ hg hr
    exact ⟨hc, ⟨q, e1, e2, spares_blk (by omega) _ (fun q : List Int => #[.int .i64 (q.length : Int)]) q X Y row e3 hg hr⟩, spares_blk (by omega) _ (fun _ : Unit => #[.bool true]) () X Y row hb hg hr, spares_below (Nat.le_refl _) (by omega) () X Y row hB hg hr⟩
  case assign =>
    intro l x W K hK
    gi_wp2
    exact hK
  case body =>
    rintro l pre x W hsz ⟨hn, h0, h1, h2, hB⟩ hl
    have c0 := h0.one
    have c1 := h1.one
    have c2 := h2.one
    have f1 := h1.frozen 0
    have f2 := h2.frozen 0
    by_cases hx : x = s
    · subst hx
      have hd : ((x : Int) == x) = true := by simp
      gi_wp2
      refine ⟨(Keep.setCell _ (by simp; omega) _).trans (Keep.setCell _ (by simp; omega) _), rfl, ⟨pre, rfl, hn, ?_⟩, ?_, ?_⟩
      · exact (h1.set_ 0 _).far (by simp) _
      · exact (h2.far (by simp) _).set_ 0 _
      · exact (hB.setCell (by simp) _).setCell (by simp; omega) _
    · have hd : ((x : Int) == s) = false := by simpa using hx
      have HL : Hid (((pre ++ [x]).length : Int) = (pre.length : Int) + 1) := by unfold Hid; rw [List.length_append]; simp
      gi_wp2
      refine ⟨Keep.setCell _ (by simp; omega) _, Keep.setFar _ (by simp; omega) _, ?_, h0.far (by simp) _, ?_, h2.far (by simp) _, hB.setCell (by simp) _⟩
      · rw [List.mem_append, List.mem_singleton]
        exact fun h => h.elim hn fun e => hx e.symm
      · rw [HL.out]
        exact h1.set_ 0 _
  case done =>
    rintro D ys W hD rfl ⟨hn, h0, h1, h2, hB⟩ hK
    have c1 := h1.one
    have c2 := h2.one
    have f1 := h1.frozen 0
    have f2 := h2.frozen 0
    gi_wp2
    have hK' := ((KeepsOthers.setCell W ⟨w.heap.size + 1, 0, none⟩ (.int .i64 0)).trans (KeepsOthers.setCell _ ⟨w.heap.size + 1 + 1, 0, none⟩ (.bool false))).same D _ hK rfl
    refine ⟨by simp, .inl ⟨_, _, rfl, run_takeDeferred hK', ?_⟩⟩
    have g1 : Blk (((W.setCell ⟨w.heap.size + 1, 0, none⟩ (.int .i64 0)).setCell ⟨w.heap.size + 1 + 1, 0, none⟩ (.bool false)).putObj D (.deferred none)) (w.heap.size + 1) 3 #[.int .i64 0] :=
      Blk.own (w.heap.size + 1) 3 (fun _ : Unit => #[.int .i64 0]) () _ _ _ ((h1.set_ 0 _).far (by simp) _) (grownBy_putObj' _ D (.deferred none)) (fun r e => by cases e; exact ⟨_, hK', rfl⟩)
    have g2 : Blk (((W.setCell ⟨w.heap.size + 1, 0, none⟩ (.int .i64 0)).setCell ⟨w.heap.size + 1 + 1, 0, none⟩ (.bool false)).putObj D (.deferred none)) (w.heap.size + 1 + 1) 4 #[.bool false] :=
      Blk.own (w.heap.size + 1 + 1) 4 (fun _ : Unit => #[.bool false]) () _ _ _ ((h2.far (by simp) _).set_ 0 _) (grownBy_putObj' _ D (.deferred none)) (fun r e => by cases e; exact ⟨_, hK', rfl⟩)
    have d1 := g1.one
    have d2 := g2.one
    refine ⟨.tuple #[.int .i64 0, .bool false], by simp [results, Tryz.results166, go_sem, d1, d2], ?_, ?_⟩
    · rw [ahead_none hn, decide_eq_false hn]; rfl
    · exact ((hB.setCell (by simp) _).setCell (by simp; omega) _).trans (belowK_b (w := w) (Nat.le_refl _) _ D _ _ (by omega) hK' rfl rfl)
  case stop =>
    rintro D c pre W hD hpre ⟨rfl, ⟨q, rfl, hq, h1⟩, h2, hB⟩ hK
    have c1 := h1.one
    have c2 := h2.one
    obtain ⟨hm, ha⟩ := ahead_of hpre hq
    have HA := Lib.hid ha
    clear ha
    gi_wp2
    refine ⟨by simp, .inl ⟨_, _, rfl, run_takeDeferred hK, ?_⟩⟩
    have g1 : Blk (W.putObj D (.deferred none)) (w.heap.size + 1) 3 #[.int .i64 (q.length : Int)] :=
      Blk.own (w.heap.size + 1) 3 (fun _ : Unit => #[.int .i64 (q.length : Int)]) () _ _ _ h1 (grownBy_putObj' _ D (.deferred none)) (fun r e => by cases e; exact ⟨_, hK, rfl⟩)
    have g2 : Blk (W.putObj D (.deferred none)) (w.heap.size + 1 + 1) 4 #[.bool true] :=
      Blk.own (w.heap.size + 1 + 1) 4 (fun _ : Unit => #[.bool true]) () _ _ _ h2 (grownBy_putObj' _ D (.deferred none)) (fun r e => by cases e; exact ⟨_, hK, rfl⟩)
    have d1 := g1.one
    have d2 := g2.one
    refine ⟨.tuple #[.int .i64 (q.length : Int), .bool true], by simp [results, Tryz.results166, go_sem, d1, d2], ?_, ?_⟩
    · rw [HA.out, decide_eq_true hm]
    · exact hB.trans (belowK_b (w := w) (Nat.le_refl _) _ D _ _ (by omega) hK rfl rfl)
end Go.Proofs.YtggdlklkjnbbjaaGreatDoor
