/- The law ModHolds answers true for every input and leaves its arguments as they were. -/
import Derived.Test.YtoljflkfhdaipaaDoorMLawKit
import Derived.Test.YtoljflkfhdaipaaDoorCards
import Derived.Test.YtoljflkfhdaipaaDoorTie
import Derived.SevenTiedAt
import Derived.Test.YtoljflkfhdaipaaDoorMSet
import Derived.Test.YtoljflkfhdaipaaDoorMLeft
import Derived.Test.YtoljflkfhdaipaaDoorModHoldsMath
namespace Go.Proofs.YtoljflkfhdaipaaDoor.modHolds
attribute [local go_sem] Oper.semAt_some
open Go.ChangeShapes Go.WideShapes Go.ChangeAt Go.RowKit Go.Shelf
set_option linter.unusedVariables false

/-- What stands while the law goes: its answer, the prime. -/
def St (w : World) (p : Int) (g : Nat) (V : World) : Prop := Blk V w.heap.size 4 #[.bool false] ∧ Blk V g 3 #[.int .i64 p] ∧ Laid V ∧ Below w.heap.size w V
theorem St.next {w V V' : World} {p : Int} {g : Nat} (h : St w p g V) (hB : Below V.heap.size V V') : St w p g V' :=
  ⟨h.1.below hB h.1.lt, h.2.1.below hB h.2.1.lt, h.2.2.1.next hB, below_in h.2.2.2 hB⟩
/-- No number twice, and each below p. -/
def Good (p : Int) (pre : List Int) : Prop := pre.Nodup ∧ ∀ z ∈ pre, 0 ≤ z ∧ z < p
theorem prefix_nodup {L pre : List Int} (h : pre <+: L) (hn : L.Nodup) : pre.Nodup := by
  obtain ⟨t, rfl⟩ := h
  exact (List.nodup_append.1 hn).1
theorem prefix_in {L pre : List Int} {p : Int} (h : pre <+: L) (hi : ∀ z ∈ L, 0 ≤ z ∧ z < p) : ∀ z ∈ pre, 0 ≤ z ∧ z < p := fun z hz => hi z (h.mem hz)

set_option maxRecDepth 100000 in
set_option maxHeartbeats 4000000 in
theorem walk (j a t b : Int) (w : World) (hL : Laid w) (wj : -9223372036854775808 ≤ j ∧ j ≤ 9223372036854775807) (wa : -9223372036854775808 ≤ a ∧ a ≤ 9223372036854775807) (wt : -9223372036854775808 ≤ t ∧ t ≤ 9223372036854775807) (wb : -9223372036854775808 ≤ b ∧ b ≤ 9223372036854775807) :
    Calls Tryd.prog 6 #[.int .i64 j, .int .i64 a, .int .i64 t, .int .i64 b] w fun e w' => e = .returned (.bool true) ∧ Below w.heap.size w w' := by
  have hB0 : Below w.heap.size w (w.alloc (.cells #[.bool false] 4)) := (Below.refl _ w).alloc (Nat.le_refl _) _
  have HP := Lib.hid (primes_any _ (hL.next hB0))
  have hmm := @run_makeMap Tryd.prog
  refine (callsIn_wide (n := 5)).1 ?_
  refine callsIn_of_wp_marks Tryd.func6 rfl trivial ?_ rfl
  simp only [Tryd.ntmps6, List.size_toArray, List.length_cons, List.length_nil, Nat.reduceAdd, Nat.reduceSub, Array.replicate_succ, Array.replicate_zero, List.push_toArray, List.append_toArray, List.nil_append, List.cons_append]
  gi_wp2_with fail
  refine ⟨trivial, (callsIn_wide.2 HP.out).mono ?_⟩
  rintro e w1 ⟨g, rfl, hg, hB1⟩
  have br1 : Blk w1 w.heap.size 4 #[.bool false] := (Blk.new w _ _).below hB1 (by simp)
  have hBw1 := below_in hB0 hB1
  have hL1 := hL.next hBw1
  clear hB1 hB0 HP
  by_cases h1 : j < 0
  · have d1 : decide (j < 0) = true := decide_eq_true h1
    gi_wp2_with (refine ⟨trivial, ?_⟩; gi_at_call 20; refine (callsIn_wide.2 (works_any _ hL1)).mono ?_; rintro e wf ⟨rfl, hBf⟩; have brf := br1.below hBf br1.lt; have crx := brf.one; have frx := brf.frozen 0)
    have cr := (brf.set_ 0 (.bool true)).one
    exact ⟨.bool true, by simp [results, Tryd.results6, go_sem, cr], rfl, (below_in hBw1 hBf).setCell (Nat.le_refl _) _⟩
  · have d1 : decide (j < 0) = false := decide_eq_false h1
    by_cases h2 : 6 ≤ j
    · have d2 : decide (6 ≤ j) = true := decide_eq_true h2
      gi_wp2_with (refine ⟨trivial, ?_⟩; gi_at_call 20; refine (callsIn_wide.2 (works_any _ hL1)).mono ?_; rintro e wf ⟨rfl, hBf⟩; have brf := br1.below hBf br1.lt; have crx := brf.one; have frx := brf.frozen 0)
      have cr := (brf.set_ 0 (.bool true)).one
      exact ⟨.bool true, by simp [results, Tryd.results6, go_sem, cr], rfl, (below_in hBw1 hBf).setCell (Nat.le_refl _) _⟩
    · have d2 : decide (6 ≤ j) = false := decide_eq_false h2
      obtain ⟨k, rfl⟩ : ∃ k : Nat, j = (k : Int) := ⟨j.toNat, by omega⟩
      have hk : k < 6 := by omega
      have i1 : (0 : Int) ≤ (k : Int) := by omega
      have i2 : (k : Int) < 6 := by omega
      have HM : prm[k]?.getD 0 ∈ prm := by rw [List.getElem?_eq_getElem (show k < prm.length from hk)]; exact List.getElem_mem _
      have cg := prm_at g w1 45 hg k hk
      generalize prm[k]?.getD 0 = p at *
      have hb := prm_bounds HM
      have HOa := Lib.hid (fun W h => (modOf_any p a W h wa.1 wa.2).mono fun _ _ h => tells_yes HM h)
      have HOt := Lib.hid (fun W h => (modOf_any p t W h wt.1 wt.2).mono fun _ _ h => tells_yes HM h)
      have HOb := Lib.hid (fun W h => (modOf_any p b W h wb.1 wb.2).mono fun _ _ h => tells_yes HM h)
      have x0 := Int.emod_nonneg a (show p ≠ 0 by omega)
      have x1 := Int.emod_lt_of_pos a (show 0 < p by omega)
      have y0 := Int.emod_nonneg b (show p ≠ 0 by omega)
      have y1 := Int.emod_lt_of_pos b (show 0 < p by omega)
      have s0 := Int.emod_nonneg t (show p ≠ 0 by omega)
      have s1 := Int.emod_lt_of_pos t (show 0 < p by omega)
      generalize a % p = x at *
      generalize b % p = y at *
      have u0 := Int.emod_nonneg (x + y) (show p ≠ 0 by omega)
      have u1 := Int.emod_lt_of_pos (x + y) (show 0 < p by omega)
      have HA := Lib.hid (fun W h => (add_any p x y W h).mono fun _ _ h => tells_yes (fine_two.2 ⟨HM, ⟨x0, x1⟩, y0, y1⟩) h)
      have HS := Lib.hid (fun W h => (sub_any p ((x + y) % p) y W h).mono fun _ _ h => tells_yes (fine_two.2 ⟨HM, ⟨u0, u1⟩, y0, y1⟩) h)
      rw [back_add, Int.emod_eq_of_lt x0 x1] at HS
      generalize (x + y) % p = xy at *
      have nx : ((x : Int) != x) = false := by simp
      obtain ⟨gp, hgp⟩ : ∃ gp, w1.heap.size = gp := ⟨_, rfl⟩
      have hS : St w p gp (w1.alloc (.cells #[.int .i64 p] 3)) := ⟨br1.alloc _, hgp ▸ Blk.new w1 _ _, hL1.next ((Below.refl _ w1).alloc (Nat.le_refl _) _), hBw1.alloc hBw1.size _⟩
      have hlt : w.heap.size < gp := hgp ▸ br1.lt
      clear br1 hBw1 hL1 hg h1 h2 hk
      by_cases hz : t % p = 0
      · rw [hz] at HOt
        clear hz
        have cp0 := hS.2.1.one
        gi_wp2_with fail
        refine ⟨trivial, (callsIn_wide.2 (HOa.out _ hS.2.2.1)).mono ?_⟩
        rintro e vx ⟨rfl, hX⟩
        have hS := hS.next hX
        have cp := hS.2.1.one
        gi_wp2_with fail
        refine ⟨trivial, (callsIn_wide.2 (HOt.out _ hS.2.2.1)).mono ?_⟩
        rintro e vx ⟨rfl, hX⟩
        have hS := hS.next hX
        have cp := hS.2.1.one
        gi_wp2_with fail
        refine ⟨trivial, (callsIn_wide.2 (HOb.out _ hS.2.2.1)).mono ?_⟩
        rintro e vx ⟨rfl, hX⟩
        have hS := hS.next hX
        have cp := hS.2.1.one
        gi_wp2_with (refine ⟨trivial, ?_⟩; first
          | (gi_at_call 16; refine (callsIn_wide.2 (HA.out _ hS.2.2.1)).mono ?_; rintro e vx ⟨rfl, hX⟩; have hS := hS.next hX; have cp := hS.2.1.one; have lp := hS.2.1.lt; have lb := hS.1.lt)
          | (gi_at_call 17; refine (callsIn_wide.2 (HS.out _ hS.2.2.1)).mono ?_; rintro e vx ⟨rfl, hX⟩; have hS := hS.next hX; have cp := hS.2.1.one; have lp := hS.2.1.lt; have lb := hS.1.lt)
          | (gi_at_call 12; refine (callsIn_wide.2 (num_any _ _)).mono ?_; rintro e w' ⟨rfl, rfl⟩)
          | (gi_at_call 20; refine (callsIn_wide.2 (works_any _ hS.2.2.1)).mono ?_; rintro e wf ⟨rfl, hBf⟩; have hT := hS.next hBf; have crx := hT.1.one; have frx := hT.1.frozen 0))
        have cr := (hT.1.set_ 0 (.bool true)).one
        exact ⟨.bool true, by simp [results, Tryd.results6, go_sem, cr], rfl, hT.2.2.2.setCell (Nat.le_refl _) _⟩
      · have ns : ((t % p : Int) == 0) = false := by simpa using hz
        obtain ⟨i, f1, ⟨f2, f3⟩, f4⟩ := inverse_pair p HM (t % p) s0 s1 hz
        have HV := Lib.hid (fun W h => inverse_any p (t % p) W h)
        unfold Looked at HV
        rw [f1] at HV
        have v0 := Int.emod_nonneg (y - x) (show p ≠ 0 by omega)
        have v1 := Int.emod_lt_of_pos (y - x) (show 0 < p by omega)
        have HS2 := Lib.hid (fun W h => (sub_any p y x W h).mono fun _ _ h => tells_yes (fine_two.2 ⟨HM, ⟨y0, y1⟩, x0, x1⟩) h)
        have HMu := Lib.hid (fun W h => (mul_any p ((y - x) % p) i W h).mono fun _ _ h => tells_yes (fine_two.2 ⟨HM, ⟨v0, v1⟩, f2, f3⟩) h)
        have HMe := Lib.hid (fun W h => meet_any p x t y W h wt.1 wt.2)
        rw [meet_fact p HM x t y i x0 x1 y0 y1 f4] at HMe
        have HW := Lib.hid (fun W h => modWalk_any p x t W h wt.1 wt.2)
        have hwl : walkN p x t = walkL p.toNat x (t % p) := if_pos ⟨HM, x0, x1⟩
        have hp2 : ((p.toNat : Nat) : Int) = p := by omega
        have hnd := walk_nodup p.toNat x (t % p) i (by rw [hp2]; exact f4)
        have hin := walk_in p.toNat (by omega) x (t % p)
        rw [hp2] at hin
        rw [← hwl] at hnd hin
        have hlen : ((walkN p x t).length : Int) = p := by rw [hwl, walkL_len]; exact hp2
        generalize walkN p x t = L at *
        generalize (y - x) % p = aw at *
        generalize t % p = s at *
        generalize aw * i % p = st at *
        have n2 : ((st : Int) == st) = true := by simp
        have n3 : ((p : Int) == p) = true := by simp
        have HND := Lib.hid hnd
        have HIN := Lib.hid hin
        have HLN := Lib.hid hlen
        clear hwl hp2 hnd hin hlen f1 f2 f3 f4 hz x0 x1 y0 y1 s0 s1 u0 u1 v0 v1 HM
        have cp0 := hS.2.1.one
        gi_wp2_with fail
        refine ⟨trivial, (callsIn_wide.2 (HOa.out _ hS.2.2.1)).mono ?_⟩
        rintro e vx ⟨rfl, hX⟩
        have hS := hS.next hX
        have cp := hS.2.1.one
        gi_wp2_with fail
        refine ⟨trivial, (callsIn_wide.2 (HOt.out _ hS.2.2.1)).mono ?_⟩
        rintro e vx ⟨rfl, hX⟩
        have hS := hS.next hX
        have cp := hS.2.1.one
        gi_wp2_with fail
        refine ⟨trivial, (callsIn_wide.2 (HOb.out _ hS.2.2.1)).mono ?_⟩
        rintro e vx ⟨rfl, hX⟩
        have hS := hS.next hX
        have cp := hS.2.1.one
        gi_wp2_with (refine ⟨trivial, ?_⟩; first
          | (gi_at_call 16; refine (callsIn_wide.2 (HA.out _ hS.2.2.1)).mono ?_; rintro e vx ⟨rfl, hX⟩; have hS := hS.next hX; have cp := hS.2.1.one; have lp := hS.2.1.lt; have lb := hS.1.lt)
          | (gi_at_call 17; refine (callsIn_wide.2 (HS.out _ hS.2.2.1)).mono ?_; rintro e vx ⟨rfl, hX⟩; have hS := hS.next hX; have cp := hS.2.1.one; have lp := hS.2.1.lt; have lb := hS.1.lt)
          | (gi_at_call 12; refine (callsIn_wide.2 (num_any _ _)).mono ?_; rintro e w' ⟨rfl, rfl⟩))
        obtain ⟨V0, hV0⟩ : ∃ V0, (vx.alloc (.map #[] 0)).alloc (.cells #[.map (some vx.heap.size)] 44) = V0 := ⟨_, rfl⟩
        obtain ⟨gm, hgm⟩ : ∃ gm, vx.heap.size = gm := ⟨_, rfl⟩
        have hB0 : Below vx.heap.size vx V0 := by rw [← hV0]; exact ((Below.refl _ vx).alloc (Nat.le_refl _) _).alloc (by simp) _
        have hS0 := hS.next hB0
        have hm0 : Seen V0 gm [] := by rw [← hV0, ← hgm]; exact (Seen.made vx).alloc _
        have bm0 : Blk V0 (gm + 1) 44 #[.map (some gm)] := by
          rw [← hV0, ← hgm]; have := Blk.new (vx.alloc (.map #[] 0)) 44 #[.map (some vx.heap.size)]; rwa [World.size_alloc] at this
        have lgm : gp < gm := hgm ▸ hS.2.1.lt
        have lgb : w.heap.size < gm := hgm ▸ hS.1.lt
        rw [hV0, hgm]
        clear hV0 hB0 hS cp lp lb hgm
        have hS := hS0
        refine ⟨trivial, (callsIn_wide.2 (HW.out _ hS.2.2.1)).mono ?_⟩
        rintro e v1 ⟨v, rfl, ⟨gf, lb, rfl, eg, eq, ⟨kk, hgo⟩⟩, hX⟩
        have hS := hS.next hX
        have hm1 := hm0.below hX hm0.lt
        have bm1 := bm0.below hX bm0.lt
        have lo := bm0.lt
        have hi := hX.size
        clear hS0 hm0 bm0 hX eq
        gi_wp2_with fail
        refine wpIn_rangeOwn1 rfl (by omega) (gf := gf) (lb := lb) rfl trivial eg (hgo _ (by omega)) (by omega) (Below.refl _ _) (fun _ => rfl)
          (fun pre W => Good p pre ∧ Seen W gm pre ∧ Blk W (gm + 1) 44 #[.map (some gm)] ∧ St w p gp W)
          (fun c pre W => c = .ret ∧ ¬ Good p pre)
          ?hI (fun c => spares_pure _ _ _) ⟨⟨List.nodup_nil, by simp⟩, hm1, bm1, hS⟩
          ?a1 ?assign ?body ?done ?stop
        case hI =>
          rintro pre X Y row ⟨h1, h2, h3, h4, h5, h6, h7⟩ hg hr
          exact ⟨h1, Seen.spares (B := v1.heap.size) (k := 2 + kk) (by omega) (fun x => x) pre X Y row h2 hg hr, spares_blk (B := v1.heap.size) (k := 2 + kk) (by omega) _ (fun _ : Unit => #[.map (some gm)]) () X Y row h3 hg hr,
            spares_blk (B := v1.heap.size) (k := 2 + kk) (by omega) _ (fun _ : Unit => #[.bool false]) () X Y row h4 hg hr, spares_blk (B := v1.heap.size) (k := 2 + kk) (by omega) _ (fun _ : Unit => #[.int .i64 p]) () X Y row h5 hg hr,
            h6.below (spares_below (n₀ := 1) (B := v1.heap.size) (k := 2 + kk) (w := X) h6.pos (by omega) () X Y row (Below.refl _ _) hg hr) (by omega), spares_below (Nat.le_refl _) (by omega) () X Y row h7 hg hr⟩
        case assign =>
          intro l x W K hK
          gi_wp2
          exact hK
        case body =>
          rintro l pre z W hsz ⟨⟨hnd, hin⟩, hm, bm, hS⟩ hl
          have cp := hS.2.1.one
          have cm := bm.one
          have crx := hS.1.one
          have frx := hS.1.frozen 0
          by_cases hz0 : z < 0
          · have dz : decide (z < 0) = true := decide_eq_true hz0
            have hno : Hid (¬ Good p (pre ++ [z])) := fun h => by have := h.2 z (by simp); omega
            gi_wp2
            exact ⟨Keep.setCell _ (by simp; omega) _, rfl, hno.out⟩
          · have dz : decide (z < 0) = false := decide_eq_false hz0
            by_cases hz1 : p ≤ z
            · have dz1 : decide (p ≤ z) = true := decide_eq_true hz1
              have hno : Hid (¬ Good p (pre ++ [z])) := fun h => by have := h.2 z (by simp); omega
              gi_wp2
              exact ⟨Keep.setCell _ (by simp; omega) _, rfl, hno.out⟩
            · have dz1 : decide (p ≤ z) = false := decide_eq_false hz1
              have wz : (Lit.int .i64 z).wf = true := WalkArith.wf_i64 (by omega)
              have hlook := hm.look z wz
              by_cases hmem : z ∈ pre
              · rw [if_pos hmem] at hlook
                have hno : Hid (¬ Good p (pre ++ [z])) := fun h => (List.nodup_append.1 h.1).2.2 z hmem z (by simp) rfl
                clear hmem
                gi_wp2
                exact ⟨Keep.setCell _ (by simp; omega) _, rfl, hno.out⟩
              · rw [if_neg hmem] at hlook
                have HN : Hid (Good p (pre ++ [z])) := by
                  refine ⟨List.nodup_append.2 ⟨hnd, by simp, fun x hx y hy => ?_⟩, fun y hy => ?_⟩
                  · rw [List.mem_singleton] at hy; rintro rfl; exact hmem (hy ▸ hx)
                  · rw [List.mem_append, List.mem_singleton] at hy
                    rcases hy with hy | rfl
                    · exact hin y hy
                    · omega
                have hml := hm.lt
                clear hmem hnd hin
                gi_wp2_with (gi_at_mapUpdate; refine wpListIn_mapUpdate_own _ rfl _ _ _ 44 rfl 3 3 (Maps.int_keyed Tryd.underlying3) Tryd.underlying44 _ gm pre.length _ rfl hm.own (by have := HLN.out; unfold maxLen; omega) _ _ _ rfl rfl (Maps.keyOf_int_mk Tryd.underlying3 wz) _ [] (plainElem_int Tryd.underlying3 (WalkArith.wf_i64 (by omega))) ?_; intro w2 hown2 hgrow2)
                have lg0 := hS.2.2.1.pos
                have hB2 : Below gm W w2 := (Below.refl gm W).grown hgrow2 (by omega) (fun k e => by injection e with e; omega)
                exact ⟨Keep.grown hgrow2 (by omega) (fun r e => by injection e with e; omega), Keep.grown hgrow2 (by omega) (fun r e => by injection e with e; omega),
                  HN.out, Seen.more hown2, bm.grown hgrow2 (fun e => by injection e with e; omega),
                  hS.1.below hB2 lgb, hS.2.1.below hB2 lgm, hS.2.2.1.below hB2 (by omega), hS.2.2.2.trans (hB2.mono (by omega))⟩
        case done =>
          rintro D ys W hD eys ⟨⟨hnd, hin⟩, hm, bm, hS⟩ hK
          obtain rfl := eys.symm
          clear hnd hin
          have cp := hS.2.1.one
          gi_wp2_with fail
          refine ⟨trivial, (callsIn_wide.2 (HS2.out _ hS.2.2.1)).mono ?_⟩
          rintro e vx ⟨rfl, hX⟩
          have hS := hS.next hX
          have cp := hS.2.1.one
          have hm := hm.below hX hm.lt
          have bm := bm.below hX bm.lt
          have cm := bm.one
          have hK := (hX.block _ (Array.getElem?_eq_some_iff.1 hK).1).trans hK
          gi_wp2_with fail
          refine ⟨trivial, (callsIn_wide.2 (HV.out _ hS.2.2.1)).mono ?_⟩
          rintro e vx ⟨rfl, hX⟩
          have hS := hS.next hX
          have cp := hS.2.1.one
          have hm := hm.below hX hm.lt
          have bm := bm.below hX bm.lt
          have cm := bm.one
          have hK := (hX.block _ (Array.getElem?_eq_some_iff.1 hK).1).trans hK
          gi_wp2_with fail
          refine ⟨trivial, (callsIn_wide.2 (HMu.out _ hS.2.2.1)).mono ?_⟩
          rintro e vx ⟨rfl, hX⟩
          have hS := hS.next hX
          have cp := hS.2.1.one
          have hm := hm.below hX hm.lt
          have bm := bm.below hX bm.lt
          have cm := bm.one
          have hK := (hX.block _ (Array.getElem?_eq_some_iff.1 hK).1).trans hK
          gi_wp2_with fail
          refine ⟨trivial, (callsIn_wide.2 (HMe.out _ hS.2.2.1)).mono ?_⟩
          rintro e vx ⟨rfl, hX⟩
          have hS := hS.next hX
          have cp := hS.2.1.one
          have hm := hm.below hX hm.lt
          have bm := bm.below hX bm.lt
          have cm := bm.one
          have hK := (hX.block _ (Array.getElem?_eq_some_iff.1 hK).1).trans hK
          have hlen := hm.len HND.out 3
          rw [HLN.out] at hlen
          gi_wp2_with (refine ⟨trivial, ?_⟩; first
            | (gi_at_call 12; refine (callsIn_wide.2 (num_any _ _)).mono ?_; rintro e w' ⟨rfl, rfl⟩)
            | (gi_at_call 20; refine (callsIn_wide.2 (works_any _ hS.2.2.1)).mono ?_; rintro e wf ⟨rfl, hBf⟩; have hT := hS.next hBf; have crx := hT.1.one; have frx := hT.1.frozen 0))
          have brt := hT.1.set_ 0 (.bool true)
          have hD0 := (hBf.block _ (Array.getElem?_eq_some_iff.1 hK).1).trans hK
          have hBt := hT.2.2.2.setCell (p := ⟨w.heap.size, 0, none⟩) (Nat.le_refl _) (.bool true)
          have hLf : Left w.heap.size wf [D] := ⟨List.nodup_cons.2 ⟨by simp, List.nodup_nil⟩, fun E hE => by
            obtain rfl := List.mem_singleton.1 hE
            exact ⟨by omega, hD0⟩⟩
          exact leaves_blks w [D] _ (hLf.set_ _ _) hBt (fun W' hB' hk => by
            have cr := (hk _ _ _ brt).one
            exact ⟨.bool true, by simp [results, Tryd.results6, go_sem, cr], rfl, hB'⟩)
        case stop =>
          rintro D c pre W hD hpre ⟨rfl, hno⟩ hK
          exact absurd ⟨prefix_nodup hpre HND.out, prefix_in hpre HIN.out⟩ hno

set_option maxRecDepth 100000 in
theorem lifted (os : Os) (started : os.Started) (H : Type) (enc : TypeId × Value → H) :
    ReturnsInHanded {} Tryd.checked os 6 .any (fun w args => (Rows.modHoldsSpec.pre enc Tryd.prog Tryd.f6 [] false w args ∧ laidMetH Tryd.prog laidL w) ∧ sizedMet enc Tryd.prog Tryd.f6 (OpenSpec.ofChange Rows.modHoldsSpec) false w args)
      (Rows.modHoldsSpec.post enc Tryd.prog Tryd.f6 false true false false) := by
  refine returnsInHanded_of_change_and (C := Tryd.checked) (X := fun w _ => laidMetH Tryd.prog laidL w) (fun _ _ _ hh h => h.of_heap hh) own started (by kernel_rfl) Tryd.func6
    (ChangeSpec.witness_shaped (enc := enc) (C := Tryd.checked) (os := os) (X := fun w _ => laidMetH Tryd.prog laidL w) false (World.doorLaid Tryd.prog 200 os) #[.int .i64 0, .int .i64 0, .int .i64 0, .int .i64 0] 8 rfl (World.shaped_of_RefB (by kernel_rfl) (by kernel_rfl)) (by kernel_rfl) (by kernel_rfl) (by kernel_rfl) (door_met os _)) ?_
  intro W base args ds gs before hval0 hW _ _ hL0 _
  have hL := laid_of hL0
  have hval : ∀ (j : Nat) t v, Tryd.f6.params[j]? = some t → args[j]? = some v → Value.okWide Tryd.prog W .any base t v := hval0
  have hW' := hW
  obtain ⟨p, q, hA0, hV, rfl, hfz, hnd⟩ := hW
  have hA : DataW.TrodAll enc Tryd.prog W 0 (fun _ => true) true Tryd.f6.params.toList args.toList ds p := hA0
  rw [Tryd.params6] at hA hval
  obtain ⟨v0, vs0, d0, ds0, p0, q0, hargs, rfl, rfl, h0, r0⟩ := trodAll_cons hA
  obtain ⟨v1, vs1, d1, ds1, p1, q1, rfl, rfl, rfl, h1, r1⟩ := trodAll_cons r0
  obtain ⟨v2, vs2, d2, ds2, p2, q2, rfl, rfl, rfl, h2, r2⟩ := trodAll_cons r1
  obtain ⟨v3, vs3, d3, ds3, p3, q3, rfl, rfl, rfl, h3, r3⟩ := trodAll_cons r2
  obtain ⟨rfl, rfl, rfl⟩ := trodAll_nil r3
  obtain rfl : args = #[v0, v1, v2, v3] := by cases args; simp_all
  obtain ⟨rfl, rfl⟩ := trodVars_none hV
  obtain ⟨a0, rfl, rfl, rfl, w0⟩ := open_int Tryd.underlying3 (hval 0 3 v0 rfl rfl) h0
  obtain ⟨a1, rfl, rfl, rfl, w1⟩ := open_int Tryd.underlying3 (hval 1 3 v1 rfl rfl) h1
  obtain ⟨a2, rfl, rfl, rfl, w2⟩ := open_int Tryd.underlying3 (hval 2 3 v2 rfl rfl) h2
  obtain ⟨a3, rfl, rfl, rfl, w3⟩ := open_int Tryd.underlying3 (hval 3 3 v3 rfl rfl) h3
  clear hA0 hval0
  simp only [List.append_nil] at hW'
  refine (walk a0 a1 a2 a3 W hL (wf_i64 w0) (wf_i64 w1) (wf_i64 w2) (wf_i64 w3)).mono fun e W' ⟨he, bel⟩ => ?_
  subst he
  exact ⟨_, rfl, _, _, _, [], _, [], hW', trodAll_mk1 (shut_bool Tryd.underlying4 _), (trodAll_cons_mk (shut_int Tryd.underlying3 w0) (trodAll_cons_mk (shut_int Tryd.underlying3 w1) (trodAll_cons_mk (shut_int Tryd.underlying3 w2) (trodAll_cons_mk (shut_int Tryd.underlying3 w3) trodAll_mk0)))), rfl, bel.frame _, fun h => by cases h⟩

theorem over : Rows.modHoldsRow.holds Tryd.pinned (OpenSpec.ofChange Rows.modHoldsSpec) :=
  OpenClaim.holds_of_wide 6 Tryd.f6 rfl rfl rfl rfl rfl rfl rfl ⟨rfl, rfl, rfl, rfl, rfl⟩ rfl rfl rfl rfl rfl (by kernel_rfl) Tryd.func6 (by kernel_rfl)
    (of_decide_eq_true (by kernel_rfl)) (by unfold Func.isWrapper; first | (rw [if_pos (by decide +kernel)]; kernel_rfl) | (rw [if_neg (by decide +kernel)]; exact ⟨rfl, rfl⟩))
    (fun os started H enc _ => lifted os started H enc)

/-- The tied card: the row, and the tie that is given. -/
theorem modHolds_holds : Rows.ModHoldsCardSaid :=
  Claim7.holds_tied_plain_at .later [] [.data] true _ false over (fun _ h => by cases h) (by kernel_rfl) (fun _ h => by cases h) modHolds_row_tie rfl ⟨rfl, rfl⟩ (by kernel_rfl) rfl
    (fun f fn hf hfn => by
      obtain rfl : f = 6 := Option.some.inj ((show Tryd.prog.funcNamed "palisade/palisadelaw03.ModHolds" = some 6 by kernel_rfl).symm.trans hf) |>.symm
      obtain rfl : fn = Tryd.f6 := (Option.some.inj (Tryd.func6.symm.trans hfn)).symm
      exact ⟨by kernel_rfl, fun j t ht => by
        rw [Tryd.params6] at ht
        have hm : t ∈ [3, 3, 3, 3] := by simpa using Array.mem_of_getElem? ht
        have hall : ([3, 3, 3, 3].all fun u => !Tryd.prog.wantsStandIn u) = true := by kernel_rfl
        exact (show Tryd.prog.wantsStandIn t = false by simpa using List.all_eq_true.1 hall t hm)⟩)
    (by kernel_rfl)
end Go.Proofs.YtoljflkfhdaipaaDoor.modHolds
