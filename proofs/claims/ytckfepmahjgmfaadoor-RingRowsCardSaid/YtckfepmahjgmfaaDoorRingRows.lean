/- The law RingRows answers true for every input and leaves its arguments as they were. -/
import Derived.Test.YtckfepmahjgmfaaDoorRRSA
import Derived.Test.YtckfepmahjgmfaaDoorCards
import Derived.Test.YtckfepmahjgmfaaDoorTie
import Derived.SevenTiedAt
import Derived.Test.YtckfepmahjgmfaaDoorRRG9
import Derived.Test.YtckfepmahjgmfaaDoorRRG2
namespace Go.Proofs.YtckfepmahjgmfaaDoor.ringRows
open Go.ChangeShapes Go.WideShapes Go.ChangeAt Go.RowKit Go.Shelf
set_option linter.unusedVariables false
set_option linter.unusedSimpArgs false
attribute [local go_sem] Oper.semAt_some

open Go.Proofs.YtckfepmahjgmfaaDoor.E Go.Proofs.YtckfepmahjgmfaaDoor.C Go.Proofs.YtckfepmahjgmfaaDoor.T Go.Proofs.YtckfepmahjgmfaaDoor.Rg in
theorem farO_turn2 {β : Type} {B n₀ N : Nat} {V : World} (q q2 : β → Prop) (f : β → Array Value) (t : TypeId) (hN : N < B) (hn : n₀ ≤ V.heap.size) (hB : n₀ ≤ B) : Go.Proofs.YtckfepmahjgmfaaDoor.T.FarO B (fun (s : β) (o : Nat → Prop) W => (o = fun _ => False) ∧ ((q s ∧ Blk W N t (f s) ∧ Below n₀ V W) ∨ q2 s)) := fun s o X Y row hs hgr hr =>
  ⟨hs.1, hs.2.imp (fun h => (farO_turn q f t hN hn hB s o X Y row ⟨hs.1, h⟩ hgr hr).2) id⟩
open Go.Proofs.YtckfepmahjgmfaaDoor.E Go.Proofs.YtckfepmahjgmfaaDoor.C Go.Proofs.YtckfepmahjgmfaaDoor.T Go.Proofs.YtckfepmahjgmfaaDoor.Rg in
theorem pre_next {L pre : List Int} (h : pre <+: L) (hlt : pre.length < L.length) : pre ++ [L[pre.length]?.getD 0] <+: L := by
  obtain ⟨t, rfl⟩ := h
  cases t with
  | nil => simp at hlt
  | cons x t => exact ⟨t, by simp⟩
open Go.Proofs.YtckfepmahjgmfaaDoor.E Go.Proofs.YtckfepmahjgmfaaDoor.C Go.Proofs.YtckfepmahjgmfaaDoor.T Go.Proofs.YtckfepmahjgmfaaDoor.Rg in
set_option maxRecDepth 100000 in
set_option maxHeartbeats 4000000 in
theorem caseA (p by_ many : Int) (w : World) (hL : Laid w) (wp : -9223372036854775808 ≤ p ∧ p ≤ 9223372036854775807) (wb : -9223372036854775808 ≤ by_ ∧ by_ ≤ 9223372036854775807) (wm : -9223372036854775808 ≤ many ∧ many ≤ 9223372036854775807) (hp : p ∈ prm) (hz : by_ % p ≠ 0) :
    Calls Tryd.prog 6 #[.int .i64 p, .int .i64 by_, .int .i64 many] w fun e w' => e = .returned (.bool true) ∧ Below w.heap.size w w' := by
  obtain ⟨W3, hW3⟩ : ∃ W3, ((w.alloc (.cells #[.int .i64 many] 3)).alloc (.cells #[.bool false] 4)).alloc (.cells #[.slice none 0 0] 37) = W3 := ⟨_, rfl⟩
  have b0 : Blk W3 w.heap.size 3 #[.int .i64 many] := by rw [← hW3]; exact ((Blk.new w _ _).alloc _).alloc _
  have b1 : Blk W3 (w.heap.size + 1) 4 #[.bool false] := by rw [← hW3]; exact (Blk.second w _ _ _).alloc _
  have b2 : Blk W3 (w.heap.size + 1 + 1) 37 #[.slice none 0 0] := by rw [← hW3]; exact Blk.at_ (Blk.new _ _ _) (by simp)
  have hB3 : Below w.heap.size w W3 := by rw [← hW3]; exact (below_two w _ _).alloc (by simp; omega) _
  have s3 : W3.heap.size = w.heap.size + 3 := by rw [← hW3]; simp
  obtain ⟨g1, hg1⟩ : ∃ g, w.heap.size + 1 = g := ⟨_, rfl⟩
  obtain ⟨g2, hg2⟩ : ∃ g, g1 + 1 = g := ⟨_, rfl⟩
  rw [hg1] at b1 b2
  rw [hg2] at b2
  have HG1 := Lib.hid hg1
  have HG2 := Lib.hid hg2
  have HS3 := Lib.hid s3
  have r0 := b0.lt
  have r1 := b1.lt
  have r2 := b2.lt
  have c2 := b2.one
  have HLW := Lib.hid (fun (U : World) (hU : Below w.heap.size w U) => hL.next hU)
  have hpb := prm_bounds hp
  obtain ⟨P, rfl⟩ : ∃ P : Nat, p = (P : Int) := ⟨p.toNat, by omega⟩
  obtain ⟨Q, hQ⟩ : ∃ Q, P = Q + 1 := ⟨P - 1, by omega⟩
  obtain ⟨o, ho⟩ : ∃ o : Nat, by_ % (P : Int) = (o : Int) := ⟨(by_ % (P : Int)).toNat, by have := Int.emod_nonneg by_ (show (P : Int) ≠ 0 by omega); omega⟩
  have HR := Lib.hid (fun W => right_any (P : Int) W)
  rw [decide_eq_true hp] at HR
  have HD := Lib.hid (fun W => rowsD_any P Q o hQ hp by_ wb.1 wb.2 ho W)
  have HV := Lib.hid (fun U hU => rowsT_yes (P : Int) by_ hp wb.1 wb.2 U hU)
  have hIS := Lib.hid (rowsX_is hQ hp hz ho)
  have HL17 : Hid ((rowsX P Q o).length ≤ 17) := by unfold Hid; rw [rowsX_len]; omega
  have rz : (by_.tmod (P : Int) != 0) = true := bne_iff_ne.2 (rem_not by_ hz)
  have rz2 := rem_not by_ hz
  have hPn : ((P : Int) == 0) = false := by rw [beq_eq_false_iff_ne]; omega
  have hPz : (P : Int) ≠ 0 := by omega
  clear hQ hz ho hp
  generalize rowsX P Q o = L at *
  refine (callsIn_wide (n := 9)).1 ?_
  refine callsIn_of_wp_marks Tryd.func6 rfl trivial ?_ rfl
  simp only [Tryd.ntmps6, List.size_toArray, List.length_cons, List.length_nil, Nat.reduceAdd, Nat.reduceSub, Array.replicate_succ, Array.replicate_zero, List.push_toArray, List.append_toArray, List.nil_append, List.cons_append]
  refine (wpIn_wide (n := 9)).2 ?_
  clear s3 hg1 hg2 c2
  go_wp2_with fail
  try rw [hW3]
  have hg1 := HG1.out
  have hg2 := HG2.out
  try rw [hg1]
  try rw [hg2]
  clear hg1 hg2 hW3
  refine (HR.out W3).mono ?_
  rintro e w5 ⟨rfl, hB5⟩
  have d0 := b0.below hB5 b0.lt
  have d1 := b1.below hB5 b1.lt
  have d2 := b2.below hB5 b2.lt
  have hB05 := below_in hB3 hB5
  go_wp2_with fail
  refine (HD.out w5).mono ?_
  rintro e w6 ⟨vw, rfl, hown, hB6⟩
  obtain ⟨Aw, cw, rfl, hcw, hA⟩ := hown.ints
  have hI6 : Ints w6.heap.size w6 (.slice Aw L.length cw) L := ⟨Aw, cw, rfl, hcw, hA⟩
  have d2' := d2.below hB6 d2.lt
  have k2 := d2'.one
  have fz2 := d2'.frozen 0
  have hs5 := hB05.size
  have hs6 := hB6.size
  have hs35 := hB5.size
  go_wp2_with fail
  obtain ⟨W6, hW6⟩ : ∃ W6, w6.setCell ⟨g2, 0, none⟩ (.slice Aw L.length cw) = W6 := ⟨_, rfl⟩
  have hg1 := HG1.out
  have hg2 := HG2.out
  have hs3 := HS3.out
  have e0 : Blk W6 w.heap.size 3 #[.int .i64 many] := by rw [← hW6]; exact (d0.below hB6 d0.lt).far (by show w.heap.size ≠ g2; omega) _
  have e1 : Blk W6 g1 4 #[.bool false] := by rw [← hW6]; exact (d1.below hB6 d1.lt).far (by show g1 ≠ g2; omega) _
  have e2 : Blk W6 g2 37 #[.slice Aw L.length cw] := by rw [← hW6]; exact d2'.set_ 0 _
  have e3 : Ints W6.heap.size W6 (.slice Aw L.length cw) L := by
    rw [← hW6]
    have h : OwnI (w6.setCell ⟨g2, 0, none⟩ (.slice Aw L.length cw)) w5.heap.size (.slice Aw L.length cw) L := ownsRow_setCell_below hown (by show g2 < w5.heap.size; omega) _
    exact h.ints
  have hB06 : Below w.heap.size w W6 := by rw [← hW6]; exact (below_in hB05 hB6).setCell (by show w.heap.size ≤ g2; omega) _
  have hs6' : W6.heap.size = w6.heap.size := by rw [← hW6]; simp
  rw [hW6]
  clear hs6' hs6 hs5 hs35 hs3 hW6 hown hA hI6 d0 d1 d2 d2' k2 fz2 HR HD b0 b1 b2 hB3 hB5 hB6 hB05 hg1 hg2
  refine (HV.out W6 (HLW.out W6 hB06)).mono ?_
  rintro e w8 ⟨sv, rfl, ⟨gf, lb, rfl, hen, heq, hsq⟩, hB78⟩
  rw [← hIS.out] at hsq
  generalize (walkN (P : Int) ((P : Int) - 1) by_).length = NZ at hsq
  go_wp2_with fail
  have HSQ := Lib.hid hsq
  clear hsq
  have hlo := hB78.size
  have hg1 := HG1.out
  have hg2 := HG2.out
  have hg1lo : g1 < W6.heap.size := e1.lt
  have hwlo : w.heap.size < W6.heap.size := e0.lt
  have FQ : TurnR w w8 g1 g2 many Aw cw L w8 := ⟨e0.below hB78 e0.lt, e1.below hB78 e1.lt, e2.below hB78 e2.lt, (e3.below hB78).more hB78.size, below_in hB06 hB78, Below.refl _ _⟩
  have hgg3 : w.heap.size ≤ g1 := by omega
  generalize W6.heap.size = lo at *
  clear e0 e1 e2 e3 hB06 hB78 r0 r1 r2 hg1 hg2
  obtain ⟨V0, hV0⟩ : ∃ V0, w8.alloc (.cells #[.int .i64 0] 3) = V0 := ⟨_, rfl⟩
  rw [hV0]
  have hB70 : Below w8.heap.size w8 V0 := by rw [← hV0]; exact below_one w8 _
  have ct0 : Blk V0 w8.heap.size 3 #[.int .i64 0] := by rw [← hV0]; exact Blk.new _ _ _
  have F0 := FQ.next hB70
  have HL0 := Left.nil w.heap.size V0
  clear hV0 FQ hB70
  refine (wpIn_wide (n := 9)).1 ?_
  refine wpIn_loop_rounds 3 ?_
  rw [roundsIn_succ]
  obtain ⟨f1, f2, f3, f4, f5, f6⟩ := id F0
  have ctt := ct0.one
  have hlt1 := f1.lt
  have hlt2 := f2.lt
  have hlt3 := f3.lt
  have hltt := ct0.lt
  have hs8 := f6.size
  have hef := heq (V0.alloc (.cells #[.int .i64 0] 3))
  gi_wp2_with fail
  have hn0 : Blk (V0.alloc (.cells #[.int .i64 0] 3)) V0.heap.size 3 #[.int .i64 (([] : List Int).length : Int)] := Blk.new _ _ _
  have hBa := below_one V0 (.cells #[.int .i64 0] 3)
  have h8a := below_in f6 hBa
  clear hef ctt
  obtain ⟨VaA, hVa⟩ : ∃ X, V0.alloc (.cells #[.int .i64 0] 3) = X := ⟨_, rfl⟩
  rw [hVa] at hn0 hBa h8a ⊢
  clear hVa
  have hna := hn0.lt
  clear f1 f2 f3 f4 f5 f6
  refine wpIn_rangeActT (N := NZ) rfl (by omega) (gf := gf) (lb := lb) rfl trivial hen (HSQ.out 8 (by omega)) (fun h h' => h.trans h') (fun W l ob h1 _ _ => Keep.putFar W (by omega) ob) h8a (fun _ => rfl)
    (fun pre X => (pre <+: L ∧ (pre.length = 0 ∨ (pre.length : Int) < many)) ∧ Blk X V0.heap.size 3 #[.int .i64 (pre.length : Int)] ∧ Below V0.heap.size V0 X)
    (fun c pre X => ((c = .exit 2 ∧ 1 ≤ pre.length ∧ (pre.length = 1 ∨ (pre.length : Int) - 1 < many) ∧ many ≤ (pre.length : Int)) ∧ Blk X V0.heap.size 3 #[.int .i64 (pre.length : Int)] ∧ Below V0.heap.size V0 X) ∨ (c = .ret ∧ ¬ pre <+: L))
    (farO_turn (fun pre : List Int => (pre <+: L ∧ (pre.length = 0 ∨ (pre.length : Int) < many))) (fun pre => #[.int .i64 (pre.length : Int)]) 3 hna (Nat.le_refl _) (Nat.le_of_lt hna))
    (fun c => farO_turn2 (fun pre : List Int => (c = .exit 2 ∧ 1 ≤ pre.length ∧ (pre.length = 1 ∨ (pre.length : Int) - 1 < many) ∧ many ≤ (pre.length : Int))) (fun pre : List Int => (c = .ret ∧ ¬ pre <+: L)) (fun pre => #[.int .i64 (pre.length : Int)]) 3 hna (Nat.le_refl _) (Nat.le_of_lt hna))
    ⟨⟨List.nil_prefix, .inl rfl⟩, hn0, hBa⟩ ?actA
    (fun pre z X => True)
    (fun pre z W l ob r hl h => h)
    ?assignA ?bodyA ?doneA ?stopA
  case assignA =>
    intro l' pre z X K hsz hI2 hok hK
    have hK2 := hK X (Below.refl _ _) (Keep.refl _ _ _) hI2 trivial
    clear hK hI2 hok
    gi_wp2
    exact hK2
  case bodyA =>
    rintro l' pre z X hsz ⟨⟨hpl, hcnd⟩, hn, hB⟩ _ hlen
    obtain ⟨f1, f2, f3, f4, f5, f6⟩ := F0.next hB
    have ctx := (ct0.below hB ct0.lt).one
    have cm := f1.one
    have cw_ := f3.one
    have cn := hn.one
    have fn := hn.frozen 0
    have cb := f2.one
    have fb := f2.frozen 0
    have hbsz := hB.size
    have hg1l := f2.lt
    have hks1 : Keep lo (w8.heap.size - lo) X (X.setCell ⟨g1, 0, none⟩ (.bool false)) := Keep.setCell X (by show g1 < lo; omega) _
    have hss1 : Go.Proofs.YtckfepmahjgmfaaDoor.T.SinceO VaA.heap.size (fun _ => False) X (X.setCell ⟨g1, 0, none⟩ (.bool false)) := ⟨by simp, fun b h1 h2 h3 => Below.heap_setCell X _ (.bool false) b (by show b ≠ g1; omega)⟩
    have hks : Keep lo (w8.heap.size - lo) X (X.setCell ⟨V0.heap.size, 0, none⟩ (.int .i64 ((pre.length : Int) + 1))) := Keep.setFar X (by show lo + (w8.heap.size - lo) ≤ V0.heap.size; omega) _
    have hss : Go.Proofs.YtckfepmahjgmfaaDoor.T.SinceO VaA.heap.size (fun _ => False) X (X.setCell ⟨V0.heap.size, 0, none⟩ (.int .i64 ((pre.length : Int) + 1))) := ⟨by simp, fun b h1 h2 h3 => Below.heap_setCell X _ (.int .i64 ((pre.length : Int) + 1)) b (by show b ≠ V0.heap.size; omega)⟩
    have hl1 : Hid (((pre ++ [z]).length : Int) = (pre.length : Int) + 1) := by unfold Hid; rw [List.length_append]; rfl
    have hT : Hid (Blk (X.setCell ⟨V0.heap.size, 0, none⟩ (.int .i64 ((pre.length : Int) + 1))) V0.heap.size 3 #[.int .i64 ((pre ++ [z]).length : Int)] ∧ Below V0.heap.size V0 (X.setCell ⟨V0.heap.size, 0, none⟩ (.int .i64 ((pre.length : Int) + 1)))) := by
      unfold Hid
      rw [hl1.out]
      exact ⟨hn.set_ 0 _, hB.setCell (Nat.le_refl _) _⟩
    have i0 : (0 : Int) ≤ (pre.length : Int) := by omega
    have hLl := HL17.out
    clear hn hB f1 f2 f3 f5 f6
    by_cases hlt : pre.length < L.length
    · have dg : decide ((L.length : Int) ≤ (pre.length : Int)) = false := decide_eq_false (by omega)
      have i2 : (pre.length : Int) < (L.length : Int) := by omega
      obtain ⟨A2, c2, e2, _, hA2⟩ := f4
      injection e2 with q1 q2 q3
      subst q1
      obtain ⟨ab, ao, rfl, hab, hcl⟩ := hA2 (by omega)
      have hce := hcl pre.length hlt
      clear hcl hA2
      by_cases hx : z = L[pre.length]?.getD 0
      · subst hx
        have dn : ((L[pre.length]?.getD 0) != (L[pre.length]?.getD 0)) = false := by simp
        have hpl2 : Hid (pre ++ [L[pre.length]?.getD 0] <+: L) := pre_next hpl hlt
        generalize L[pre.length]?.getD 0 = z at *
        by_cases hm : many ≤ (pre.length : Int) + 1
        · have dm : decide (many ≤ (pre.length : Int) + 1) = true := decide_eq_true hm
          gi_wp2
          refine ⟨fun _ => False, Go.Proofs.YtckfepmahjgmfaaDoor.T.FreshO.refl _ _, hss, hks, rfl, .inl ⟨⟨rfl, by rw [List.length_append]; simp, ?_, ?_⟩, hT.out⟩⟩
          · rcases hcnd with h | h
            · left; rw [List.length_append, h]; rfl
            · right; rw [hl1.out]; omega
          · rw [hl1.out]; exact hm
        · have dm : decide (many ≤ (pre.length : Int) + 1) = false := decide_eq_false hm
          gi_wp2
          exact ⟨fun _ => False, Go.Proofs.YtckfepmahjgmfaaDoor.T.FreshO.refl _ _, hss, hks, rfl, ⟨hpl2.out, .inr (by rw [hl1.out]; omega)⟩, hT.out⟩
      · have dn : (z != L[pre.length]?.getD 0) = true := bne_iff_ne.2 hx
        have hnp := Lib.hid (not_prefix L pre z fun _ => hx)
        clear hx
        generalize L[pre.length]?.getD 0 = lj at *
        gi_wp2
        first
          | exact ⟨fun _ => False, Go.Proofs.YtckfepmahjgmfaaDoor.T.FreshO.refl _ _, hss1, hks1, rfl, .inr ⟨rfl, hnp.out⟩⟩
          | exact ⟨fun _ => False, Go.Proofs.YtckfepmahjgmfaaDoor.T.FreshO.refl _ _, hss1, hks1, rfl, rfl, hnp.out⟩
    · have dg : decide ((L.length : Int) ≤ (pre.length : Int)) = true := decide_eq_true (by omega)
      have hnp := Lib.hid (not_prefix L pre z fun h => absurd h hlt)
      gi_wp2
      first
        | exact ⟨fun _ => False, Go.Proofs.YtckfepmahjgmfaaDoor.T.FreshO.refl _ _, hss1, hks1, rfl, .inr ⟨rfl, hnp.out⟩⟩
        | exact ⟨fun _ => False, Go.Proofs.YtckfepmahjgmfaaDoor.T.FreshO.refl _ _, hss1, hks1, rfl, rfl, hnp.out⟩
  case doneA =>
    rintro DA xs X hD hxs ⟨⟨_, hcnd⟩, hn, hB⟩ hK
    have hxl : xs = L := hxs
    rw [hxl] at hn hcnd
    clear hxs hxl
    obtain ⟨f1, f2, f3, f4, f5, f6⟩ := F0.next hB
    have cn := hn.one
    have clx := f3.one
    have ctx := (ct0.below hB ct0.lt).one
    have cmx := f1.one
    have lt0 := hB.size
    have hmin : ((L.length : Int) != min (L.length : Int) (max 1 many)) = false := by rw [bne_eq_false_iff_eq]; rcases hcnd with h | h <;> omega
    have fV := F0.2.2.2.2.1
    have hs0 := fV.size
    gi_wp2
    clear cn clx ctx cmx f1 f2 f3 f4 f5 f6
    obtain ⟨V1B, hVn⟩ : ∃ Y, X.alloc (.cells #[.int .i64 1] 3) = Y := ⟨_, rfl⟩
    rw [hVn]
    have hBn : Below V0.heap.size V0 V1B := by rw [← hVn]; exact hB.alloc hB.size _
    have ct1 : Blk V1B X.heap.size 3 #[.int .i64 1] := by rw [← hVn]; exact Blk.new _ _ _
    have hDn : V1B.heap[DA]? = some (.deferred (some [])) := by rw [← hVn]; exact (Below.heap_alloc X _ DA (Array.getElem?_eq_some_iff.1 hK).1).trans hK
    have HL1 := HL0.more hBn (D := DA) (by omega) (by omega) hDn
    have F1 := F0.next hBn
    clear hVn hBn hDn hK hn hB ct0 F0 HL0 fV lt0 hs0
    clear hmin hcnd
    obtain ⟨tb, htb⟩ : ∃ tb, Hid (X.heap.size = tb) := ⟨_, rfl⟩
    rw [htb.out] at ct1 ⊢
    clear htb
    rw [roundsIn_succ]
    obtain ⟨f1, f2, f3, f4, f5, f6⟩ := id F1
    have ctt := ct1.one
    have hlt1 := f1.lt
    have hlt2 := f2.lt
    have hlt3 := f3.lt
    have hltt := ct1.lt
    have hs8 := f6.size
    have hef := heq (V1B.alloc (.cells #[.int .i64 0] 3))
    gi_wp2_with fail
    have hn0 : Blk (V1B.alloc (.cells #[.int .i64 0] 3)) V1B.heap.size 3 #[.int .i64 (([] : List Int).length : Int)] := Blk.new _ _ _
    have hBa := below_one V1B (.cells #[.int .i64 0] 3)
    have h8a := below_in f6 hBa
    clear hef ctt
    obtain ⟨VaB, hVa⟩ : ∃ X, V1B.alloc (.cells #[.int .i64 0] 3) = X := ⟨_, rfl⟩
    rw [hVa] at hn0 hBa h8a ⊢
    clear hVa
    have hna := hn0.lt
    clear f1 f2 f3 f4 f5 f6
    refine wpIn_rangeActT (N := NZ) rfl (by omega) (gf := gf) (lb := lb) rfl trivial hen (HSQ.out 8 (by omega)) (fun h h' => h.trans h') (fun W l ob h1 _ _ => Keep.putFar W (by omega) ob) h8a (fun _ => rfl)
      (fun pre X => pre <+: L ∧ Blk X V1B.heap.size 3 #[.int .i64 (pre.length : Int)] ∧ Below V1B.heap.size V1B X)
      (fun c pre X => (False ∧ Blk X V1B.heap.size 3 #[.int .i64 (pre.length : Int)] ∧ Below V1B.heap.size V1B X) ∨ (c = .ret ∧ ¬ pre <+: L))
      (farO_turn (fun pre : List Int => pre <+: L) (fun pre => #[.int .i64 (pre.length : Int)]) 3 hna (Nat.le_refl _) (Nat.le_of_lt hna))
      (fun c => farO_turn2 (fun pre : List Int => False) (fun pre : List Int => (c = .ret ∧ ¬ pre <+: L)) (fun pre => #[.int .i64 (pre.length : Int)]) 3 hna (Nat.le_refl _) (Nat.le_of_lt hna))
      ⟨List.nil_prefix, hn0, hBa⟩ ?actB
      (fun pre z X => True)
      (fun pre z W l ob r hl h => h)
      ?assignB ?bodyB ?doneB ?stopB
    case assignB =>
      intro l' pre z X K hsz hI2 hok hK
      have hK2 := hK X (Below.refl _ _) (Keep.refl _ _ _) hI2 trivial
      clear hK hI2 hok
      gi_wp2
      exact hK2
    case bodyB =>
      rintro l' pre z X hsz ⟨hpl, hn, hB⟩ _ hlen
      obtain ⟨f1, f2, f3, f4, f5, f6⟩ := F1.next hB
      have ctx := (ct1.below hB ct1.lt).one
      have cm := f1.one
      have cw_ := f3.one
      have cn := hn.one
      have fn := hn.frozen 0
      have cb := f2.one
      have fb := f2.frozen 0
      have hbsz := hB.size
      have hg1l := f2.lt
      have hks1 : Keep lo (w8.heap.size - lo) X (X.setCell ⟨g1, 0, none⟩ (.bool false)) := Keep.setCell X (by show g1 < lo; omega) _
      have hss1 : Go.Proofs.YtckfepmahjgmfaaDoor.T.SinceO VaB.heap.size (fun _ => False) X (X.setCell ⟨g1, 0, none⟩ (.bool false)) := ⟨by simp, fun b h1 h2 h3 => Below.heap_setCell X _ (.bool false) b (by show b ≠ g1; omega)⟩
      have hks : Keep lo (w8.heap.size - lo) X (X.setCell ⟨V1B.heap.size, 0, none⟩ (.int .i64 ((pre.length : Int) + 1))) := Keep.setFar X (by show lo + (w8.heap.size - lo) ≤ V1B.heap.size; omega) _
      have hss : Go.Proofs.YtckfepmahjgmfaaDoor.T.SinceO VaB.heap.size (fun _ => False) X (X.setCell ⟨V1B.heap.size, 0, none⟩ (.int .i64 ((pre.length : Int) + 1))) := ⟨by simp, fun b h1 h2 h3 => Below.heap_setCell X _ (.int .i64 ((pre.length : Int) + 1)) b (by show b ≠ V1B.heap.size; omega)⟩
      have hl1 : Hid (((pre ++ [z]).length : Int) = (pre.length : Int) + 1) := by unfold Hid; rw [List.length_append]; rfl
      have hT : Hid (Blk (X.setCell ⟨V1B.heap.size, 0, none⟩ (.int .i64 ((pre.length : Int) + 1))) V1B.heap.size 3 #[.int .i64 ((pre ++ [z]).length : Int)] ∧ Below V1B.heap.size V1B (X.setCell ⟨V1B.heap.size, 0, none⟩ (.int .i64 ((pre.length : Int) + 1)))) := by
        unfold Hid
        rw [hl1.out]
        exact ⟨hn.set_ 0 _, hB.setCell (Nat.le_refl _) _⟩
      have i0 : (0 : Int) ≤ (pre.length : Int) := by omega
      have hLl := HL17.out
      clear hn hB f1 f2 f3 f5 f6
      by_cases hlt : pre.length < L.length
      · have dg : decide ((L.length : Int) ≤ (pre.length : Int)) = false := decide_eq_false (by omega)
        have i2 : (pre.length : Int) < (L.length : Int) := by omega
        obtain ⟨A2, c2, e2, _, hA2⟩ := f4
        injection e2 with q1 q2 q3
        subst q1
        obtain ⟨ab, ao, rfl, hab, hcl⟩ := hA2 (by omega)
        have hce := hcl pre.length hlt
        clear hcl hA2
        by_cases hx : z = L[pre.length]?.getD 0
        · subst hx
          have dn : ((L[pre.length]?.getD 0) != (L[pre.length]?.getD 0)) = false := by simp
          have hpl2 : Hid (pre ++ [L[pre.length]?.getD 0] <+: L) := pre_next hpl hlt
          generalize L[pre.length]?.getD 0 = z at *
          gi_wp2
          exact ⟨fun _ => False, Go.Proofs.YtckfepmahjgmfaaDoor.T.FreshO.refl _ _, hss, hks, rfl, hpl2.out, hT.out⟩
        · have dn : (z != L[pre.length]?.getD 0) = true := bne_iff_ne.2 hx
          have hnp := Lib.hid (not_prefix L pre z fun _ => hx)
          clear hx
          generalize L[pre.length]?.getD 0 = lj at *
          gi_wp2
          first
            | exact ⟨fun _ => False, Go.Proofs.YtckfepmahjgmfaaDoor.T.FreshO.refl _ _, hss1, hks1, rfl, .inr ⟨rfl, hnp.out⟩⟩
            | exact ⟨fun _ => False, Go.Proofs.YtckfepmahjgmfaaDoor.T.FreshO.refl _ _, hss1, hks1, rfl, rfl, hnp.out⟩
      · have dg : decide ((L.length : Int) ≤ (pre.length : Int)) = true := decide_eq_true (by omega)
        have hnp := Lib.hid (not_prefix L pre z fun h => absurd h hlt)
        gi_wp2
        first
          | exact ⟨fun _ => False, Go.Proofs.YtckfepmahjgmfaaDoor.T.FreshO.refl _ _, hss1, hks1, rfl, .inr ⟨rfl, hnp.out⟩⟩
          | exact ⟨fun _ => False, Go.Proofs.YtckfepmahjgmfaaDoor.T.FreshO.refl _ _, hss1, hks1, rfl, rfl, hnp.out⟩
    case doneB =>
      rintro DB xs X hD hxs ⟨_, hn, hB⟩ hK
      have hxl : xs = L := hxs
      rw [hxl] at hn
      clear hxs hxl
      obtain ⟨f1, f2, f3, f4, f5, f6⟩ := F1.next hB
      have cn := hn.one
      have clx := f3.one
      have ctx := (ct1.below hB ct1.lt).one
      have cmx := f1.one
      have lt0 := hB.size
      have hne1 : ((L.length : Int) != (L.length : Int)) = false := by simp
      have fV := F1.2.2.2.2.1
      have hs0 := fV.size
      gi_wp2
      clear cn clx ctx cmx f1 f2 f3 f4 f5 f6
      obtain ⟨V2B, hVn⟩ : ∃ Y, X.alloc (.cells #[.int .i64 2] 3) = Y := ⟨_, rfl⟩
      rw [hVn]
      have hBn : Below V1B.heap.size V1B V2B := by rw [← hVn]; exact hB.alloc hB.size _
      have ct2 : Blk V2B X.heap.size 3 #[.int .i64 2] := by rw [← hVn]; exact Blk.new _ _ _
      have hDn : V2B.heap[DB]? = some (.deferred (some [])) := by rw [← hVn]; exact (Below.heap_alloc X _ DB (Array.getElem?_eq_some_iff.1 hK).1).trans hK
      have HL2 := HL1.more hBn (D := DB) (by omega) (by omega) hDn
      have F2 := F1.next hBn
      clear hVn hBn hDn hK hn hB ct1 F1 HL1 fV lt0 hs0
      clear hne1
      rw [roundsIn_succ]
      obtain ⟨f1, f2, f3, f4, f5, f6⟩ := id F2
      have ctx := ct2.one
      have hs4 := f2.lt
      gi_wp2_with fail
      go_wp2_with fail
      refine (works_any _ (HLW.out _ f5)).mono ?_
      rintro e wf ⟨rfl, hBf⟩
      have f4f := f2.below hBf f2.lt
      have crx := f4f.one
      have frx := f4f.frozen 0
      have hb3 := f4f.set_ 0 (.bool true)
      have hLf := (HL2.below hBf).set_ ⟨g1, 0, none⟩ (.bool true)
      have hBz : Below w.heap.size w (wf.setCell ⟨g1, 0, none⟩ (.bool true)) := (below_in f5 hBf).setCell (by show w.heap.size ≤ g1; omega) _
      go_wp2
      refine leaves_blks w _ _ hLf hBz (fun W' hB' hk => ?_)
      have r0 := (hk _ _ _ hb3).one
      exact ⟨.bool true, by simp [results, Tryd.results6, go_sem, r0], rfl, hB'⟩
    case stopB =>
      rintro D c pre X hD hsp hix hK
      rcases hix with ⟨h, _⟩ | ⟨_, hnp⟩
      · exact h.elim
      · exact absurd hsp hnp
  case stopA =>
    rintro DA c pre X hD hsp hix hK
    rcases hix with ⟨⟨rfl, hx1, hx2, hx3⟩, hn, hB⟩ | ⟨_, hnp⟩
    case inr => exact absurd hsp hnp
    have hple : pre.length ≤ L.length := List.IsPrefix.length_le hsp
    clear hsp
    obtain ⟨f1, f2, f3, f4, f5, f6⟩ := F0.next hB
    have cn := hn.one
    have clx := f3.one
    have ctx := (ct0.below hB ct0.lt).one
    have cmx := f1.one
    have lt0 := hB.size
    have hmin : ((pre.length : Int) != min (L.length : Int) (max 1 many)) = false := by rw [bne_eq_false_iff_eq]; rcases hx2 with h | h <;> omega
    have fV := F0.2.2.2.2.1
    have hs0 := fV.size
    gi_wp2
    clear cn clx ctx cmx f1 f2 f3 f4 f5 f6
    obtain ⟨V1C, hVn⟩ : ∃ Y, X.alloc (.cells #[.int .i64 1] 3) = Y := ⟨_, rfl⟩
    rw [hVn]
    have hBn : Below V0.heap.size V0 V1C := by rw [← hVn]; exact hB.alloc hB.size _
    have ct1 : Blk V1C X.heap.size 3 #[.int .i64 1] := by rw [← hVn]; exact Blk.new _ _ _
    have hDn : V1C.heap[DA]? = some (.deferred (some [])) := by rw [← hVn]; exact (Below.heap_alloc X _ DA (Array.getElem?_eq_some_iff.1 hK).1).trans hK
    have HL1 := HL0.more hBn (D := DA) (by omega) (by omega) hDn
    have F1 := F0.next hBn
    clear hVn hBn hDn hK hn hB ct0 F0 HL0 fV lt0 hs0
    clear hmin hx1 hx2 hx3 hple
    obtain ⟨tb, htb⟩ : ∃ tb, Hid (X.heap.size = tb) := ⟨_, rfl⟩
    rw [htb.out] at ct1 ⊢
    clear htb
    rw [roundsIn_succ]
    obtain ⟨f1, f2, f3, f4, f5, f6⟩ := id F1
    have ctt := ct1.one
    have hlt1 := f1.lt
    have hlt2 := f2.lt
    have hlt3 := f3.lt
    have hltt := ct1.lt
    have hs8 := f6.size
    have hef := heq (V1C.alloc (.cells #[.int .i64 0] 3))
    gi_wp2_with fail
    have hn0 : Blk (V1C.alloc (.cells #[.int .i64 0] 3)) V1C.heap.size 3 #[.int .i64 (([] : List Int).length : Int)] := Blk.new _ _ _
    have hBa := below_one V1C (.cells #[.int .i64 0] 3)
    have h8a := below_in f6 hBa
    clear hef ctt
    obtain ⟨VaC, hVa⟩ : ∃ X, V1C.alloc (.cells #[.int .i64 0] 3) = X := ⟨_, rfl⟩
    rw [hVa] at hn0 hBa h8a ⊢
    clear hVa
    have hna := hn0.lt
    clear f1 f2 f3 f4 f5 f6
    refine wpIn_rangeActT (N := NZ) rfl (by omega) (gf := gf) (lb := lb) rfl trivial hen (HSQ.out 8 (by omega)) (fun h h' => h.trans h') (fun W l ob h1 _ _ => Keep.putFar W (by omega) ob) h8a (fun _ => rfl)
      (fun pre X => pre <+: L ∧ Blk X V1C.heap.size 3 #[.int .i64 (pre.length : Int)] ∧ Below V1C.heap.size V1C X)
      (fun c pre X => (False ∧ Blk X V1C.heap.size 3 #[.int .i64 (pre.length : Int)] ∧ Below V1C.heap.size V1C X) ∨ (c = .ret ∧ ¬ pre <+: L))
      (farO_turn (fun pre : List Int => pre <+: L) (fun pre => #[.int .i64 (pre.length : Int)]) 3 hna (Nat.le_refl _) (Nat.le_of_lt hna))
      (fun c => farO_turn2 (fun pre : List Int => False) (fun pre : List Int => (c = .ret ∧ ¬ pre <+: L)) (fun pre => #[.int .i64 (pre.length : Int)]) 3 hna (Nat.le_refl _) (Nat.le_of_lt hna))
      ⟨List.nil_prefix, hn0, hBa⟩ ?actC
      (fun pre z X => True)
      (fun pre z W l ob r hl h => h)
      ?assignC ?bodyC ?doneC ?stopC
    case assignC =>
      intro l' pre z X K hsz hI2 hok hK
      have hK2 := hK X (Below.refl _ _) (Keep.refl _ _ _) hI2 trivial
      clear hK hI2 hok
      gi_wp2
      exact hK2
    case bodyC =>
      rintro l' pre z X hsz ⟨hpl, hn, hB⟩ _ hlen
      obtain ⟨f1, f2, f3, f4, f5, f6⟩ := F1.next hB
      have ctx := (ct1.below hB ct1.lt).one
      have cm := f1.one
      have cw_ := f3.one
      have cn := hn.one
      have fn := hn.frozen 0
      have cb := f2.one
      have fb := f2.frozen 0
      have hbsz := hB.size
      have hg1l := f2.lt
      have hks1 : Keep lo (w8.heap.size - lo) X (X.setCell ⟨g1, 0, none⟩ (.bool false)) := Keep.setCell X (by show g1 < lo; omega) _
      have hss1 : Go.Proofs.YtckfepmahjgmfaaDoor.T.SinceO VaC.heap.size (fun _ => False) X (X.setCell ⟨g1, 0, none⟩ (.bool false)) := ⟨by simp, fun b h1 h2 h3 => Below.heap_setCell X _ (.bool false) b (by show b ≠ g1; omega)⟩
      have hks : Keep lo (w8.heap.size - lo) X (X.setCell ⟨V1C.heap.size, 0, none⟩ (.int .i64 ((pre.length : Int) + 1))) := Keep.setFar X (by show lo + (w8.heap.size - lo) ≤ V1C.heap.size; omega) _
      have hss : Go.Proofs.YtckfepmahjgmfaaDoor.T.SinceO VaC.heap.size (fun _ => False) X (X.setCell ⟨V1C.heap.size, 0, none⟩ (.int .i64 ((pre.length : Int) + 1))) := ⟨by simp, fun b h1 h2 h3 => Below.heap_setCell X _ (.int .i64 ((pre.length : Int) + 1)) b (by show b ≠ V1C.heap.size; omega)⟩
      have hl1 : Hid (((pre ++ [z]).length : Int) = (pre.length : Int) + 1) := by unfold Hid; rw [List.length_append]; rfl
      have hT : Hid (Blk (X.setCell ⟨V1C.heap.size, 0, none⟩ (.int .i64 ((pre.length : Int) + 1))) V1C.heap.size 3 #[.int .i64 ((pre ++ [z]).length : Int)] ∧ Below V1C.heap.size V1C (X.setCell ⟨V1C.heap.size, 0, none⟩ (.int .i64 ((pre.length : Int) + 1)))) := by
        unfold Hid
        rw [hl1.out]
        exact ⟨hn.set_ 0 _, hB.setCell (Nat.le_refl _) _⟩
      have i0 : (0 : Int) ≤ (pre.length : Int) := by omega
      have hLl := HL17.out
      clear hn hB f1 f2 f3 f5 f6
      by_cases hlt : pre.length < L.length
      · have dg : decide ((L.length : Int) ≤ (pre.length : Int)) = false := decide_eq_false (by omega)
        have i2 : (pre.length : Int) < (L.length : Int) := by omega
        obtain ⟨A2, c2, e2, _, hA2⟩ := f4
        injection e2 with q1 q2 q3
        subst q1
        obtain ⟨ab, ao, rfl, hab, hcl⟩ := hA2 (by omega)
        have hce := hcl pre.length hlt
        clear hcl hA2
        by_cases hx : z = L[pre.length]?.getD 0
        · subst hx
          have dn : ((L[pre.length]?.getD 0) != (L[pre.length]?.getD 0)) = false := by simp
          have hpl2 : Hid (pre ++ [L[pre.length]?.getD 0] <+: L) := pre_next hpl hlt
          generalize L[pre.length]?.getD 0 = z at *
          gi_wp2
          exact ⟨fun _ => False, Go.Proofs.YtckfepmahjgmfaaDoor.T.FreshO.refl _ _, hss, hks, rfl, hpl2.out, hT.out⟩
        · have dn : (z != L[pre.length]?.getD 0) = true := bne_iff_ne.2 hx
          have hnp := Lib.hid (not_prefix L pre z fun _ => hx)
          clear hx
          generalize L[pre.length]?.getD 0 = lj at *
          gi_wp2
          first
            | exact ⟨fun _ => False, Go.Proofs.YtckfepmahjgmfaaDoor.T.FreshO.refl _ _, hss1, hks1, rfl, .inr ⟨rfl, hnp.out⟩⟩
            | exact ⟨fun _ => False, Go.Proofs.YtckfepmahjgmfaaDoor.T.FreshO.refl _ _, hss1, hks1, rfl, rfl, hnp.out⟩
      · have dg : decide ((L.length : Int) ≤ (pre.length : Int)) = true := decide_eq_true (by omega)
        have hnp := Lib.hid (not_prefix L pre z fun h => absurd h hlt)
        gi_wp2
        first
          | exact ⟨fun _ => False, Go.Proofs.YtckfepmahjgmfaaDoor.T.FreshO.refl _ _, hss1, hks1, rfl, .inr ⟨rfl, hnp.out⟩⟩
          | exact ⟨fun _ => False, Go.Proofs.YtckfepmahjgmfaaDoor.T.FreshO.refl _ _, hss1, hks1, rfl, rfl, hnp.out⟩
    case doneC =>
      rintro DC xs X hD hxs ⟨_, hn, hB⟩ hK
      have hxl : xs = L := hxs
      rw [hxl] at hn
      clear hxs hxl
      obtain ⟨f1, f2, f3, f4, f5, f6⟩ := F1.next hB
      have cn := hn.one
      have clx := f3.one
      have ctx := (ct1.below hB ct1.lt).one
      have cmx := f1.one
      have lt0 := hB.size
      have hne1 : ((L.length : Int) != (L.length : Int)) = false := by simp
      have fV := F1.2.2.2.2.1
      have hs0 := fV.size
      gi_wp2
      clear cn clx ctx cmx f1 f2 f3 f4 f5 f6
      obtain ⟨V2C, hVn⟩ : ∃ Y, X.alloc (.cells #[.int .i64 2] 3) = Y := ⟨_, rfl⟩
      rw [hVn]
      have hBn : Below V1C.heap.size V1C V2C := by rw [← hVn]; exact hB.alloc hB.size _
      have ct2 : Blk V2C X.heap.size 3 #[.int .i64 2] := by rw [← hVn]; exact Blk.new _ _ _
      have hDn : V2C.heap[DC]? = some (.deferred (some [])) := by rw [← hVn]; exact (Below.heap_alloc X _ DC (Array.getElem?_eq_some_iff.1 hK).1).trans hK
      have HL2 := HL1.more hBn (D := DC) (by omega) (by omega) hDn
      have F2 := F1.next hBn
      clear hVn hBn hDn hK hn hB ct1 F1 HL1 fV lt0 hs0
      clear hne1
      rw [roundsIn_succ]
      obtain ⟨f1, f2, f3, f4, f5, f6⟩ := id F2
      have ctx := ct2.one
      have hs4 := f2.lt
      gi_wp2_with fail
      go_wp2_with fail
      refine (works_any _ (HLW.out _ f5)).mono ?_
      rintro e wf ⟨rfl, hBf⟩
      have f4f := f2.below hBf f2.lt
      have crx := f4f.one
      have frx := f4f.frozen 0
      have hb3 := f4f.set_ 0 (.bool true)
      have hLf := (HL2.below hBf).set_ ⟨g1, 0, none⟩ (.bool true)
      have hBz : Below w.heap.size w (wf.setCell ⟨g1, 0, none⟩ (.bool true)) := (below_in f5 hBf).setCell (by show w.heap.size ≤ g1; omega) _
      go_wp2
      refine leaves_blks w _ _ hLf hBz (fun W' hB' hk => ?_)
      have r0 := (hk _ _ _ hb3).one
      exact ⟨.bool true, by simp [results, Tryd.results6, go_sem, r0], rfl, hB'⟩
    case stopC =>
      rintro D c pre X hD hsp hix hK
      rcases hix with ⟨h, _⟩ | ⟨_, hnp⟩
      · exact h.elim
      · exact absurd hsp hnp

open Go.Proofs.YtckfepmahjgmfaaDoor.E Go.Proofs.YtckfepmahjgmfaaDoor.C Go.Proofs.YtckfepmahjgmfaaDoor.T Go.Proofs.YtckfepmahjgmfaaDoor.Rg in
set_option maxRecDepth 100000 in
set_option maxHeartbeats 4000000 in
theorem caseB (p by_ many : Int) (w : World) (hL : Laid w) (wp : -9223372036854775808 ≤ p ∧ p ≤ 9223372036854775807) (wb : -9223372036854775808 ≤ by_ ∧ by_ ≤ 9223372036854775807) (wm : -9223372036854775808 ≤ many ∧ many ≤ 9223372036854775807) (hp : p ∈ prm) (hz : by_ % p = 0) :
    Calls Tryd.prog 6 #[.int .i64 p, .int .i64 by_, .int .i64 many] w fun e w' => e = .returned (.bool true) ∧ Below w.heap.size w w' := by
  obtain ⟨W3, hW3⟩ : ∃ W3, ((w.alloc (.cells #[.int .i64 many] 3)).alloc (.cells #[.bool false] 4)).alloc (.cells #[.slice none 0 0] 37) = W3 := ⟨_, rfl⟩
  have b0 : Blk W3 w.heap.size 3 #[.int .i64 many] := by rw [← hW3]; exact ((Blk.new w _ _).alloc _).alloc _
  have b1 : Blk W3 (w.heap.size + 1) 4 #[.bool false] := by rw [← hW3]; exact (Blk.second w _ _ _).alloc _
  have b2 : Blk W3 (w.heap.size + 1 + 1) 37 #[.slice none 0 0] := by rw [← hW3]; exact Blk.at_ (Blk.new _ _ _) (by simp)
  have hB3 : Below w.heap.size w W3 := by rw [← hW3]; exact (below_two w _ _).alloc (by simp; omega) _
  have s3 : W3.heap.size = w.heap.size + 3 := by rw [← hW3]; simp
  obtain ⟨g1, hg1⟩ : ∃ g, w.heap.size + 1 = g := ⟨_, rfl⟩
  obtain ⟨g2, hg2⟩ : ∃ g, g1 + 1 = g := ⟨_, rfl⟩
  rw [hg1] at b1 b2
  rw [hg2] at b2
  have HG1 := Lib.hid hg1
  have HG2 := Lib.hid hg2
  have HS3 := Lib.hid s3
  have r0 := b0.lt
  have r1 := b1.lt
  have r2 := b2.lt
  have c2 := b2.one
  have HLW := Lib.hid (fun (U : World) (hU : Below w.heap.size w U) => hL.next hU)
  have hpb := prm_bounds hp
  obtain ⟨P, rfl⟩ : ∃ P : Nat, p = (P : Int) := ⟨p.toNat, by omega⟩
  have HR := Lib.hid (fun W => right_any (P : Int) W)
  rw [decide_eq_true hp] at HR
  have HV := Lib.hid (fun U hU => rowsT_yes (P : Int) by_ hp wb.1 wb.2 U hU)
  have hIS := Lib.hid (rows_none hp hz).symm
  have rz := rem_zero by_ hz
  have hPn : ((P : Int) == 0) = false := by rw [beq_eq_false_iff_ne]; omega
  have hPz : (P : Int) ≠ 0 := by omega
  clear hp hz
  obtain ⟨L, hL0⟩ : ∃ L : List Int, [] = L := ⟨_, rfl⟩
  have HL17 : Hid (L.length ≤ 17) := by unfold Hid; rw [← hL0]; exact Nat.zero_le _
  rw [hL0] at hIS
  have HL0 := Lib.hid hL0
  clear hL0
  refine (callsIn_wide (n := 9)).1 ?_
  refine callsIn_of_wp_marks Tryd.func6 rfl trivial ?_ rfl
  simp only [Tryd.ntmps6, List.size_toArray, List.length_cons, List.length_nil, Nat.reduceAdd, Nat.reduceSub, Array.replicate_succ, Array.replicate_zero, List.push_toArray, List.append_toArray, List.nil_append, List.cons_append]
  refine (wpIn_wide (n := 9)).2 ?_
  clear s3 hg1 hg2 c2
  go_wp2_with fail
  try rw [hW3]
  have hg1 := HG1.out
  have hg2 := HG2.out
  try rw [hg1]
  try rw [hg2]
  clear hg1 hg2 hW3
  refine (HR.out W3).mono ?_
  rintro e w5 ⟨rfl, hB5⟩
  have d0 := b0.below hB5 b0.lt
  have d1 := b1.below hB5 b1.lt
  have d2 := b2.below hB5 b2.lt
  have hB05 := below_in hB3 hB5
  have hs5 := hB05.size
  have hs35 := hB5.size
  have hs3 := HS3.out
  go_wp2_with fail
  obtain ⟨W6, hW6⟩ : ∃ W6, w5 = W6 := ⟨_, rfl⟩
  obtain ⟨Aw, hAw⟩ : ∃ A : Option Addr, none = A := ⟨_, rfl⟩
  obtain ⟨cw, hcw⟩ : ∃ n : Nat, 0 = n := ⟨_, rfl⟩
  have hL0 := HL0.out
  rw [hW6] at d0 d1 d2 hB05 hs35 ⊢
  have e0 := d0
  have e1 := d1
  have e2 : Blk W6 g2 37 #[.slice Aw L.length cw] := by rw [← hL0, ← hAw, ← hcw]; exact d2
  have e3 : Ints W6.heap.size W6 (.slice Aw L.length cw) L := ⟨Aw, cw, rfl, by rw [← hL0]; exact Nat.zero_le _, fun h => absurd h (by rw [← hL0]; exact Nat.lt_irrefl _)⟩
  have hB06 := hB05
  clear hs5 hs35 hs3 hW6 d0 d1 d2 HR b0 b1 b2 hB3 hB5 hB05 hcw hAw
  clear hL0
  refine (HV.out W6 (HLW.out W6 hB06)).mono ?_
  rintro e w8 ⟨sv, rfl, ⟨gf, lb, rfl, hen, heq, hsq⟩, hB78⟩
  rw [← hIS.out] at hsq
  generalize (walkN (P : Int) ((P : Int) - 1) by_).length = NZ at hsq
  go_wp2_with fail
  have HSQ := Lib.hid hsq
  clear hsq
  have hlo := hB78.size
  have hg1 := HG1.out
  have hg2 := HG2.out
  have hg1lo : g1 < W6.heap.size := e1.lt
  have hwlo : w.heap.size < W6.heap.size := e0.lt
  have FQ : TurnR w w8 g1 g2 many Aw cw L w8 := ⟨e0.below hB78 e0.lt, e1.below hB78 e1.lt, e2.below hB78 e2.lt, (e3.below hB78).more hB78.size, below_in hB06 hB78, Below.refl _ _⟩
  have hgg3 : w.heap.size ≤ g1 := by omega
  generalize W6.heap.size = lo at *
  clear e0 e1 e2 e3 hB06 hB78 r0 r1 r2 hg1 hg2
  obtain ⟨V0, hV0⟩ : ∃ V0, w8.alloc (.cells #[.int .i64 0] 3) = V0 := ⟨_, rfl⟩
  rw [hV0]
  have hB70 : Below w8.heap.size w8 V0 := by rw [← hV0]; exact below_one w8 _
  have ct0 : Blk V0 w8.heap.size 3 #[.int .i64 0] := by rw [← hV0]; exact Blk.new _ _ _
  have F0 := FQ.next hB70
  have HL0 := Left.nil w.heap.size V0
  clear hV0 FQ hB70
  refine (wpIn_wide (n := 9)).1 ?_
  refine wpIn_loop_rounds 3 ?_
  rw [roundsIn_succ]
  obtain ⟨f1, f2, f3, f4, f5, f6⟩ := id F0
  have ctt := ct0.one
  have hlt1 := f1.lt
  have hlt2 := f2.lt
  have hlt3 := f3.lt
  have hltt := ct0.lt
  have hs8 := f6.size
  have hef := heq (V0.alloc (.cells #[.int .i64 0] 3))
  gi_wp2_with fail
  have hn0 : Blk (V0.alloc (.cells #[.int .i64 0] 3)) V0.heap.size 3 #[.int .i64 (([] : List Int).length : Int)] := Blk.new _ _ _
  have hBa := below_one V0 (.cells #[.int .i64 0] 3)
  have h8a := below_in f6 hBa
  clear hef ctt
  obtain ⟨VaA, hVa⟩ : ∃ X, V0.alloc (.cells #[.int .i64 0] 3) = X := ⟨_, rfl⟩
  rw [hVa] at hn0 hBa h8a ⊢
  clear hVa
  have hna := hn0.lt
  clear f1 f2 f3 f4 f5 f6
  refine wpIn_rangeActT (N := NZ) rfl (by omega) (gf := gf) (lb := lb) rfl trivial hen (HSQ.out 8 (by omega)) (fun h h' => h.trans h') (fun W l ob h1 _ _ => Keep.putFar W (by omega) ob) h8a (fun _ => rfl)
    (fun pre X => (pre <+: L ∧ (pre.length = 0 ∨ (pre.length : Int) < many)) ∧ Blk X V0.heap.size 3 #[.int .i64 (pre.length : Int)] ∧ Below V0.heap.size V0 X)
    (fun c pre X => ((c = .exit 2 ∧ 1 ≤ pre.length ∧ (pre.length = 1 ∨ (pre.length : Int) - 1 < many) ∧ many ≤ (pre.length : Int)) ∧ Blk X V0.heap.size 3 #[.int .i64 (pre.length : Int)] ∧ Below V0.heap.size V0 X) ∨ (c = .ret ∧ ¬ pre <+: L))
    (farO_turn (fun pre : List Int => (pre <+: L ∧ (pre.length = 0 ∨ (pre.length : Int) < many))) (fun pre => #[.int .i64 (pre.length : Int)]) 3 hna (Nat.le_refl _) (Nat.le_of_lt hna))
    (fun c => farO_turn2 (fun pre : List Int => (c = .exit 2 ∧ 1 ≤ pre.length ∧ (pre.length = 1 ∨ (pre.length : Int) - 1 < many) ∧ many ≤ (pre.length : Int))) (fun pre : List Int => (c = .ret ∧ ¬ pre <+: L)) (fun pre => #[.int .i64 (pre.length : Int)]) 3 hna (Nat.le_refl _) (Nat.le_of_lt hna))
    ⟨⟨List.nil_prefix, .inl rfl⟩, hn0, hBa⟩ ?actA
    (fun pre z X => True)
    (fun pre z W l ob r hl h => h)
    ?assignA ?bodyA ?doneA ?stopA
  case assignA =>
    intro l' pre z X K hsz hI2 hok hK
    have hK2 := hK X (Below.refl _ _) (Keep.refl _ _ _) hI2 trivial
    clear hK hI2 hok
    gi_wp2
    exact hK2
  case bodyA =>
    rintro l' pre z X hsz ⟨⟨hpl, hcnd⟩, hn, hB⟩ _ hlen
    obtain ⟨f1, f2, f3, f4, f5, f6⟩ := F0.next hB
    have ctx := (ct0.below hB ct0.lt).one
    have cm := f1.one
    have cw_ := f3.one
    have cn := hn.one
    have fn := hn.frozen 0
    have cb := f2.one
    have fb := f2.frozen 0
    have hbsz := hB.size
    have hg1l := f2.lt
    have hks1 : Keep lo (w8.heap.size - lo) X (X.setCell ⟨g1, 0, none⟩ (.bool false)) := Keep.setCell X (by show g1 < lo; omega) _
    have hss1 : Go.Proofs.YtckfepmahjgmfaaDoor.T.SinceO VaA.heap.size (fun _ => False) X (X.setCell ⟨g1, 0, none⟩ (.bool false)) := ⟨by simp, fun b h1 h2 h3 => Below.heap_setCell X _ (.bool false) b (by show b ≠ g1; omega)⟩
    have hks : Keep lo (w8.heap.size - lo) X (X.setCell ⟨V0.heap.size, 0, none⟩ (.int .i64 ((pre.length : Int) + 1))) := Keep.setFar X (by show lo + (w8.heap.size - lo) ≤ V0.heap.size; omega) _
    have hss : Go.Proofs.YtckfepmahjgmfaaDoor.T.SinceO VaA.heap.size (fun _ => False) X (X.setCell ⟨V0.heap.size, 0, none⟩ (.int .i64 ((pre.length : Int) + 1))) := ⟨by simp, fun b h1 h2 h3 => Below.heap_setCell X _ (.int .i64 ((pre.length : Int) + 1)) b (by show b ≠ V0.heap.size; omega)⟩
    have hl1 : Hid (((pre ++ [z]).length : Int) = (pre.length : Int) + 1) := by unfold Hid; rw [List.length_append]; rfl
    have hT : Hid (Blk (X.setCell ⟨V0.heap.size, 0, none⟩ (.int .i64 ((pre.length : Int) + 1))) V0.heap.size 3 #[.int .i64 ((pre ++ [z]).length : Int)] ∧ Below V0.heap.size V0 (X.setCell ⟨V0.heap.size, 0, none⟩ (.int .i64 ((pre.length : Int) + 1)))) := by
      unfold Hid
      rw [hl1.out]
      exact ⟨hn.set_ 0 _, hB.setCell (Nat.le_refl _) _⟩
    have i0 : (0 : Int) ≤ (pre.length : Int) := by omega
    have hLl := HL17.out
    clear hn hB f1 f2 f3 f5 f6
    by_cases hlt : pre.length < L.length
    · have dg : decide ((L.length : Int) ≤ (pre.length : Int)) = false := decide_eq_false (by omega)
      have i2 : (pre.length : Int) < (L.length : Int) := by omega
      obtain ⟨A2, c2, e2, _, hA2⟩ := f4
      injection e2 with q1 q2 q3
      subst q1
      obtain ⟨ab, ao, rfl, hab, hcl⟩ := hA2 (by omega)
      have hce := hcl pre.length hlt
      clear hcl hA2
      by_cases hx : z = L[pre.length]?.getD 0
      · subst hx
        have dn : ((L[pre.length]?.getD 0) != (L[pre.length]?.getD 0)) = false := by simp
        have hpl2 : Hid (pre ++ [L[pre.length]?.getD 0] <+: L) := pre_next hpl hlt
        generalize L[pre.length]?.getD 0 = z at *
        by_cases hm : many ≤ (pre.length : Int) + 1
        · have dm : decide (many ≤ (pre.length : Int) + 1) = true := decide_eq_true hm
          gi_wp2
          refine ⟨fun _ => False, Go.Proofs.YtckfepmahjgmfaaDoor.T.FreshO.refl _ _, hss, hks, rfl, .inl ⟨⟨rfl, by rw [List.length_append]; simp, ?_, ?_⟩, hT.out⟩⟩
          · rcases hcnd with h | h
            · left; rw [List.length_append, h]; rfl
            · right; rw [hl1.out]; omega
          · rw [hl1.out]; exact hm
        · have dm : decide (many ≤ (pre.length : Int) + 1) = false := decide_eq_false hm
          gi_wp2
          exact ⟨fun _ => False, Go.Proofs.YtckfepmahjgmfaaDoor.T.FreshO.refl _ _, hss, hks, rfl, ⟨hpl2.out, .inr (by rw [hl1.out]; omega)⟩, hT.out⟩
      · have dn : (z != L[pre.length]?.getD 0) = true := bne_iff_ne.2 hx
        have hnp := Lib.hid (not_prefix L pre z fun _ => hx)
        clear hx
        generalize L[pre.length]?.getD 0 = lj at *
        gi_wp2
        first
          | exact ⟨fun _ => False, Go.Proofs.YtckfepmahjgmfaaDoor.T.FreshO.refl _ _, hss1, hks1, rfl, .inr ⟨rfl, hnp.out⟩⟩
          | exact ⟨fun _ => False, Go.Proofs.YtckfepmahjgmfaaDoor.T.FreshO.refl _ _, hss1, hks1, rfl, rfl, hnp.out⟩
    · have dg : decide ((L.length : Int) ≤ (pre.length : Int)) = true := decide_eq_true (by omega)
      have hnp := Lib.hid (not_prefix L pre z fun h => absurd h hlt)
      gi_wp2
      first
        | exact ⟨fun _ => False, Go.Proofs.YtckfepmahjgmfaaDoor.T.FreshO.refl _ _, hss1, hks1, rfl, .inr ⟨rfl, hnp.out⟩⟩
        | exact ⟨fun _ => False, Go.Proofs.YtckfepmahjgmfaaDoor.T.FreshO.refl _ _, hss1, hks1, rfl, rfl, hnp.out⟩
  case doneA =>
    rintro DA xs X hD hxs ⟨⟨_, hcnd⟩, hn, hB⟩ hK
    have hxl : xs = L := hxs
    rw [hxl] at hn hcnd
    clear hxs hxl
    obtain ⟨f1, f2, f3, f4, f5, f6⟩ := F0.next hB
    have cn := hn.one
    have clx := f3.one
    have ctx := (ct0.below hB ct0.lt).one
    have cmx := f1.one
    have lt0 := hB.size
    have hmin : ((L.length : Int) != min (L.length : Int) (max 1 many)) = false := by rw [bne_eq_false_iff_eq]; rcases hcnd with h | h <;> omega
    have fV := F0.2.2.2.2.1
    have hs0 := fV.size
    gi_wp2
    clear cn clx ctx cmx f1 f2 f3 f4 f5 f6
    obtain ⟨V1B, hVn⟩ : ∃ Y, X.alloc (.cells #[.int .i64 1] 3) = Y := ⟨_, rfl⟩
    rw [hVn]
    have hBn : Below V0.heap.size V0 V1B := by rw [← hVn]; exact hB.alloc hB.size _
    have ct1 : Blk V1B X.heap.size 3 #[.int .i64 1] := by rw [← hVn]; exact Blk.new _ _ _
    have hDn : V1B.heap[DA]? = some (.deferred (some [])) := by rw [← hVn]; exact (Below.heap_alloc X _ DA (Array.getElem?_eq_some_iff.1 hK).1).trans hK
    have HL1 := HL0.more hBn (D := DA) (by omega) (by omega) hDn
    have F1 := F0.next hBn
    clear hVn hBn hDn hK hn hB ct0 F0 HL0 fV lt0 hs0
    clear hmin hcnd
    obtain ⟨tb, htb⟩ : ∃ tb, Hid (X.heap.size = tb) := ⟨_, rfl⟩
    rw [htb.out] at ct1 ⊢
    clear htb
    rw [roundsIn_succ]
    obtain ⟨f1, f2, f3, f4, f5, f6⟩ := id F1
    have ctt := ct1.one
    have hlt1 := f1.lt
    have hlt2 := f2.lt
    have hlt3 := f3.lt
    have hltt := ct1.lt
    have hs8 := f6.size
    have hef := heq (V1B.alloc (.cells #[.int .i64 0] 3))
    gi_wp2_with fail
    have hn0 : Blk (V1B.alloc (.cells #[.int .i64 0] 3)) V1B.heap.size 3 #[.int .i64 (([] : List Int).length : Int)] := Blk.new _ _ _
    have hBa := below_one V1B (.cells #[.int .i64 0] 3)
    have h8a := below_in f6 hBa
    clear hef ctt
    obtain ⟨VaB, hVa⟩ : ∃ X, V1B.alloc (.cells #[.int .i64 0] 3) = X := ⟨_, rfl⟩
    rw [hVa] at hn0 hBa h8a ⊢
    clear hVa
    have hna := hn0.lt
    clear f1 f2 f3 f4 f5 f6
    refine wpIn_rangeActT (N := NZ) rfl (by omega) (gf := gf) (lb := lb) rfl trivial hen (HSQ.out 8 (by omega)) (fun h h' => h.trans h') (fun W l ob h1 _ _ => Keep.putFar W (by omega) ob) h8a (fun _ => rfl)
      (fun pre X => pre <+: L ∧ Blk X V1B.heap.size 3 #[.int .i64 (pre.length : Int)] ∧ Below V1B.heap.size V1B X)
      (fun c pre X => (False ∧ Blk X V1B.heap.size 3 #[.int .i64 (pre.length : Int)] ∧ Below V1B.heap.size V1B X) ∨ (c = .ret ∧ ¬ pre <+: L))
      (farO_turn (fun pre : List Int => pre <+: L) (fun pre => #[.int .i64 (pre.length : Int)]) 3 hna (Nat.le_refl _) (Nat.le_of_lt hna))
      (fun c => farO_turn2 (fun pre : List Int => False) (fun pre : List Int => (c = .ret ∧ ¬ pre <+: L)) (fun pre => #[.int .i64 (pre.length : Int)]) 3 hna (Nat.le_refl _) (Nat.le_of_lt hna))
      ⟨List.nil_prefix, hn0, hBa⟩ ?actB
      (fun pre z X => True)
      (fun pre z W l ob r hl h => h)
      ?assignB ?bodyB ?doneB ?stopB
    case assignB =>
      intro l' pre z X K hsz hI2 hok hK
      have hK2 := hK X (Below.refl _ _) (Keep.refl _ _ _) hI2 trivial
      clear hK hI2 hok
      gi_wp2
      exact hK2
    case bodyB =>
      rintro l' pre z X hsz ⟨hpl, hn, hB⟩ _ hlen
      obtain ⟨f1, f2, f3, f4, f5, f6⟩ := F1.next hB
      have ctx := (ct1.below hB ct1.lt).one
      have cm := f1.one
      have cw_ := f3.one
      have cn := hn.one
      have fn := hn.frozen 0
      have cb := f2.one
      have fb := f2.frozen 0
      have hbsz := hB.size
      have hg1l := f2.lt
      have hks1 : Keep lo (w8.heap.size - lo) X (X.setCell ⟨g1, 0, none⟩ (.bool false)) := Keep.setCell X (by show g1 < lo; omega) _
      have hss1 : Go.Proofs.YtckfepmahjgmfaaDoor.T.SinceO VaB.heap.size (fun _ => False) X (X.setCell ⟨g1, 0, none⟩ (.bool false)) := ⟨by simp, fun b h1 h2 h3 => Below.heap_setCell X _ (.bool false) b (by show b ≠ g1; omega)⟩
      have hks : Keep lo (w8.heap.size - lo) X (X.setCell ⟨V1B.heap.size, 0, none⟩ (.int .i64 ((pre.length : Int) + 1))) := Keep.setFar X (by show lo + (w8.heap.size - lo) ≤ V1B.heap.size; omega) _
      have hss : Go.Proofs.YtckfepmahjgmfaaDoor.T.SinceO VaB.heap.size (fun _ => False) X (X.setCell ⟨V1B.heap.size, 0, none⟩ (.int .i64 ((pre.length : Int) + 1))) := ⟨by simp, fun b h1 h2 h3 => Below.heap_setCell X _ (.int .i64 ((pre.length : Int) + 1)) b (by show b ≠ V1B.heap.size; omega)⟩
      have hl1 : Hid (((pre ++ [z]).length : Int) = (pre.length : Int) + 1) := by unfold Hid; rw [List.length_append]; rfl
      have hT : Hid (Blk (X.setCell ⟨V1B.heap.size, 0, none⟩ (.int .i64 ((pre.length : Int) + 1))) V1B.heap.size 3 #[.int .i64 ((pre ++ [z]).length : Int)] ∧ Below V1B.heap.size V1B (X.setCell ⟨V1B.heap.size, 0, none⟩ (.int .i64 ((pre.length : Int) + 1)))) := by
        unfold Hid
        rw [hl1.out]
        exact ⟨hn.set_ 0 _, hB.setCell (Nat.le_refl _) _⟩
      have i0 : (0 : Int) ≤ (pre.length : Int) := by omega
      have hLl := HL17.out
      clear hn hB f1 f2 f3 f5 f6
      by_cases hlt : pre.length < L.length
      · have dg : decide ((L.length : Int) ≤ (pre.length : Int)) = false := decide_eq_false (by omega)
        have i2 : (pre.length : Int) < (L.length : Int) := by omega
        obtain ⟨A2, c2, e2, _, hA2⟩ := f4
        injection e2 with q1 q2 q3
        subst q1
        obtain ⟨ab, ao, rfl, hab, hcl⟩ := hA2 (by omega)
        have hce := hcl pre.length hlt
        clear hcl hA2
        by_cases hx : z = L[pre.length]?.getD 0
        · subst hx
          have dn : ((L[pre.length]?.getD 0) != (L[pre.length]?.getD 0)) = false := by simp
          have hpl2 : Hid (pre ++ [L[pre.length]?.getD 0] <+: L) := pre_next hpl hlt
          generalize L[pre.length]?.getD 0 = z at *
          gi_wp2
          exact ⟨fun _ => False, Go.Proofs.YtckfepmahjgmfaaDoor.T.FreshO.refl _ _, hss, hks, rfl, hpl2.out, hT.out⟩
        · have dn : (z != L[pre.length]?.getD 0) = true := bne_iff_ne.2 hx
          have hnp := Lib.hid (not_prefix L pre z fun _ => hx)
          clear hx
          generalize L[pre.length]?.getD 0 = lj at *
          gi_wp2
          first
            | exact ⟨fun _ => False, Go.Proofs.YtckfepmahjgmfaaDoor.T.FreshO.refl _ _, hss1, hks1, rfl, .inr ⟨rfl, hnp.out⟩⟩
            | exact ⟨fun _ => False, Go.Proofs.YtckfepmahjgmfaaDoor.T.FreshO.refl _ _, hss1, hks1, rfl, rfl, hnp.out⟩
      · have dg : decide ((L.length : Int) ≤ (pre.length : Int)) = true := decide_eq_true (by omega)
        have hnp := Lib.hid (not_prefix L pre z fun h => absurd h hlt)
        gi_wp2
        first
          | exact ⟨fun _ => False, Go.Proofs.YtckfepmahjgmfaaDoor.T.FreshO.refl _ _, hss1, hks1, rfl, .inr ⟨rfl, hnp.out⟩⟩
          | exact ⟨fun _ => False, Go.Proofs.YtckfepmahjgmfaaDoor.T.FreshO.refl _ _, hss1, hks1, rfl, rfl, hnp.out⟩
    case doneB =>
      rintro DB xs X hD hxs ⟨_, hn, hB⟩ hK
      have hxl : xs = L := hxs
      rw [hxl] at hn
      clear hxs hxl
      obtain ⟨f1, f2, f3, f4, f5, f6⟩ := F1.next hB
      have cn := hn.one
      have clx := f3.one
      have ctx := (ct1.below hB ct1.lt).one
      have cmx := f1.one
      have lt0 := hB.size
      have hne1 : ((L.length : Int) != (L.length : Int)) = false := by simp
      have fV := F1.2.2.2.2.1
      have hs0 := fV.size
      gi_wp2
      clear cn clx ctx cmx f1 f2 f3 f4 f5 f6
      obtain ⟨V2B, hVn⟩ : ∃ Y, X.alloc (.cells #[.int .i64 2] 3) = Y := ⟨_, rfl⟩
      rw [hVn]
      have hBn : Below V1B.heap.size V1B V2B := by rw [← hVn]; exact hB.alloc hB.size _
      have ct2 : Blk V2B X.heap.size 3 #[.int .i64 2] := by rw [← hVn]; exact Blk.new _ _ _
      have hDn : V2B.heap[DB]? = some (.deferred (some [])) := by rw [← hVn]; exact (Below.heap_alloc X _ DB (Array.getElem?_eq_some_iff.1 hK).1).trans hK
      have HL2 := HL1.more hBn (D := DB) (by omega) (by omega) hDn
      have F2 := F1.next hBn
      clear hVn hBn hDn hK hn hB ct1 F1 HL1 fV lt0 hs0
      clear hne1
      rw [roundsIn_succ]
      obtain ⟨f1, f2, f3, f4, f5, f6⟩ := id F2
      have ctx := ct2.one
      have hs4 := f2.lt
      gi_wp2_with fail
      go_wp2_with fail
      refine (works_any _ (HLW.out _ f5)).mono ?_
      rintro e wf ⟨rfl, hBf⟩
      have f4f := f2.below hBf f2.lt
      have crx := f4f.one
      have frx := f4f.frozen 0
      have hb3 := f4f.set_ 0 (.bool true)
      have hLf := (HL2.below hBf).set_ ⟨g1, 0, none⟩ (.bool true)
      have hBz : Below w.heap.size w (wf.setCell ⟨g1, 0, none⟩ (.bool true)) := (below_in f5 hBf).setCell (by show w.heap.size ≤ g1; omega) _
      go_wp2
      refine leaves_blks w _ _ hLf hBz (fun W' hB' hk => ?_)
      have r0 := (hk _ _ _ hb3).one
      exact ⟨.bool true, by simp [results, Tryd.results6, go_sem, r0], rfl, hB'⟩
    case stopB =>
      rintro D c pre X hD hsp hix hK
      rcases hix with ⟨h, _⟩ | ⟨_, hnp⟩
      · exact h.elim
      · exact absurd hsp hnp
  case stopA =>
    rintro DA c pre X hD hsp hix hK
    rcases hix with ⟨⟨rfl, hx1, hx2, hx3⟩, hn, hB⟩ | ⟨_, hnp⟩
    case inr => exact absurd hsp hnp
    have hple : pre.length ≤ L.length := List.IsPrefix.length_le hsp
    clear hsp
    obtain ⟨f1, f2, f3, f4, f5, f6⟩ := F0.next hB
    have cn := hn.one
    have clx := f3.one
    have ctx := (ct0.below hB ct0.lt).one
    have cmx := f1.one
    have lt0 := hB.size
    have hmin : ((pre.length : Int) != min (L.length : Int) (max 1 many)) = false := by rw [bne_eq_false_iff_eq]; rcases hx2 with h | h <;> omega
    have fV := F0.2.2.2.2.1
    have hs0 := fV.size
    gi_wp2
    clear cn clx ctx cmx f1 f2 f3 f4 f5 f6
    obtain ⟨V1C, hVn⟩ : ∃ Y, X.alloc (.cells #[.int .i64 1] 3) = Y := ⟨_, rfl⟩
    rw [hVn]
    have hBn : Below V0.heap.size V0 V1C := by rw [← hVn]; exact hB.alloc hB.size _
    have ct1 : Blk V1C X.heap.size 3 #[.int .i64 1] := by rw [← hVn]; exact Blk.new _ _ _
    have hDn : V1C.heap[DA]? = some (.deferred (some [])) := by rw [← hVn]; exact (Below.heap_alloc X _ DA (Array.getElem?_eq_some_iff.1 hK).1).trans hK
    have HL1 := HL0.more hBn (D := DA) (by omega) (by omega) hDn
    have F1 := F0.next hBn
    clear hVn hBn hDn hK hn hB ct0 F0 HL0 fV lt0 hs0
    clear hmin hx1 hx2 hx3 hple
    obtain ⟨tb, htb⟩ : ∃ tb, Hid (X.heap.size = tb) := ⟨_, rfl⟩
    rw [htb.out] at ct1 ⊢
    clear htb
    rw [roundsIn_succ]
    obtain ⟨f1, f2, f3, f4, f5, f6⟩ := id F1
    have ctt := ct1.one
    have hlt1 := f1.lt
    have hlt2 := f2.lt
    have hlt3 := f3.lt
    have hltt := ct1.lt
    have hs8 := f6.size
    have hef := heq (V1C.alloc (.cells #[.int .i64 0] 3))
    gi_wp2_with fail
    have hn0 : Blk (V1C.alloc (.cells #[.int .i64 0] 3)) V1C.heap.size 3 #[.int .i64 (([] : List Int).length : Int)] := Blk.new _ _ _
    have hBa := below_one V1C (.cells #[.int .i64 0] 3)
    have h8a := below_in f6 hBa
    clear hef ctt
    obtain ⟨VaC, hVa⟩ : ∃ X, V1C.alloc (.cells #[.int .i64 0] 3) = X := ⟨_, rfl⟩
    rw [hVa] at hn0 hBa h8a ⊢
    clear hVa
    have hna := hn0.lt
    clear f1 f2 f3 f4 f5 f6
    refine wpIn_rangeActT (N := NZ) rfl (by omega) (gf := gf) (lb := lb) rfl trivial hen (HSQ.out 8 (by omega)) (fun h h' => h.trans h') (fun W l ob h1 _ _ => Keep.putFar W (by omega) ob) h8a (fun _ => rfl)
      (fun pre X => pre <+: L ∧ Blk X V1C.heap.size 3 #[.int .i64 (pre.length : Int)] ∧ Below V1C.heap.size V1C X)
      (fun c pre X => (False ∧ Blk X V1C.heap.size 3 #[.int .i64 (pre.length : Int)] ∧ Below V1C.heap.size V1C X) ∨ (c = .ret ∧ ¬ pre <+: L))
      (farO_turn (fun pre : List Int => pre <+: L) (fun pre => #[.int .i64 (pre.length : Int)]) 3 hna (Nat.le_refl _) (Nat.le_of_lt hna))
      (fun c => farO_turn2 (fun pre : List Int => False) (fun pre : List Int => (c = .ret ∧ ¬ pre <+: L)) (fun pre => #[.int .i64 (pre.length : Int)]) 3 hna (Nat.le_refl _) (Nat.le_of_lt hna))
      ⟨List.nil_prefix, hn0, hBa⟩ ?actC
      (fun pre z X => True)
      (fun pre z W l ob r hl h => h)
      ?assignC ?bodyC ?doneC ?stopC
    case assignC =>
      intro l' pre z X K hsz hI2 hok hK
      have hK2 := hK X (Below.refl _ _) (Keep.refl _ _ _) hI2 trivial
      clear hK hI2 hok
      gi_wp2
      exact hK2
    case bodyC =>
      rintro l' pre z X hsz ⟨hpl, hn, hB⟩ _ hlen
      obtain ⟨f1, f2, f3, f4, f5, f6⟩ := F1.next hB
      have ctx := (ct1.below hB ct1.lt).one
      have cm := f1.one
      have cw_ := f3.one
      have cn := hn.one
      have fn := hn.frozen 0
      have cb := f2.one
      have fb := f2.frozen 0
      have hbsz := hB.size
      have hg1l := f2.lt
      have hks1 : Keep lo (w8.heap.size - lo) X (X.setCell ⟨g1, 0, none⟩ (.bool false)) := Keep.setCell X (by show g1 < lo; omega) _
      have hss1 : Go.Proofs.YtckfepmahjgmfaaDoor.T.SinceO VaC.heap.size (fun _ => False) X (X.setCell ⟨g1, 0, none⟩ (.bool false)) := ⟨by simp, fun b h1 h2 h3 => Below.heap_setCell X _ (.bool false) b (by show b ≠ g1; omega)⟩
      have hks : Keep lo (w8.heap.size - lo) X (X.setCell ⟨V1C.heap.size, 0, none⟩ (.int .i64 ((pre.length : Int) + 1))) := Keep.setFar X (by show lo + (w8.heap.size - lo) ≤ V1C.heap.size; omega) _
      have hss : Go.Proofs.YtckfepmahjgmfaaDoor.T.SinceO VaC.heap.size (fun _ => False) X (X.setCell ⟨V1C.heap.size, 0, none⟩ (.int .i64 ((pre.length : Int) + 1))) := ⟨by simp, fun b h1 h2 h3 => Below.heap_setCell X _ (.int .i64 ((pre.length : Int) + 1)) b (by show b ≠ V1C.heap.size; omega)⟩
      have hl1 : Hid (((pre ++ [z]).length : Int) = (pre.length : Int) + 1) := by unfold Hid; rw [List.length_append]; rfl
      have hT : Hid (Blk (X.setCell ⟨V1C.heap.size, 0, none⟩ (.int .i64 ((pre.length : Int) + 1))) V1C.heap.size 3 #[.int .i64 ((pre ++ [z]).length : Int)] ∧ Below V1C.heap.size V1C (X.setCell ⟨V1C.heap.size, 0, none⟩ (.int .i64 ((pre.length : Int) + 1)))) := by
        unfold Hid
        rw [hl1.out]
        exact ⟨hn.set_ 0 _, hB.setCell (Nat.le_refl _) _⟩
      have i0 : (0 : Int) ≤ (pre.length : Int) := by omega
      have hLl := HL17.out
      clear hn hB f1 f2 f3 f5 f6
      by_cases hlt : pre.length < L.length
      · have dg : decide ((L.length : Int) ≤ (pre.length : Int)) = false := decide_eq_false (by omega)
        have i2 : (pre.length : Int) < (L.length : Int) := by omega
        obtain ⟨A2, c2, e2, _, hA2⟩ := f4
        injection e2 with q1 q2 q3
        subst q1
        obtain ⟨ab, ao, rfl, hab, hcl⟩ := hA2 (by omega)
        have hce := hcl pre.length hlt
        clear hcl hA2
        by_cases hx : z = L[pre.length]?.getD 0
        · subst hx
          have dn : ((L[pre.length]?.getD 0) != (L[pre.length]?.getD 0)) = false := by simp
          have hpl2 : Hid (pre ++ [L[pre.length]?.getD 0] <+: L) := pre_next hpl hlt
          generalize L[pre.length]?.getD 0 = z at *
          gi_wp2
          exact ⟨fun _ => False, Go.Proofs.YtckfepmahjgmfaaDoor.T.FreshO.refl _ _, hss, hks, rfl, hpl2.out, hT.out⟩
        · have dn : (z != L[pre.length]?.getD 0) = true := bne_iff_ne.2 hx
          have hnp := Lib.hid (not_prefix L pre z fun _ => hx)
          clear hx
          generalize L[pre.length]?.getD 0 = lj at *
          gi_wp2
          first
            | exact ⟨fun _ => False, Go.Proofs.YtckfepmahjgmfaaDoor.T.FreshO.refl _ _, hss1, hks1, rfl, .inr ⟨rfl, hnp.out⟩⟩
            | exact ⟨fun _ => False, Go.Proofs.YtckfepmahjgmfaaDoor.T.FreshO.refl _ _, hss1, hks1, rfl, rfl, hnp.out⟩
      · have dg : decide ((L.length : Int) ≤ (pre.length : Int)) = true := decide_eq_true (by omega)
        have hnp := Lib.hid (not_prefix L pre z fun h => absurd h hlt)
        gi_wp2
        first
          | exact ⟨fun _ => False, Go.Proofs.YtckfepmahjgmfaaDoor.T.FreshO.refl _ _, hss1, hks1, rfl, .inr ⟨rfl, hnp.out⟩⟩
          | exact ⟨fun _ => False, Go.Proofs.YtckfepmahjgmfaaDoor.T.FreshO.refl _ _, hss1, hks1, rfl, rfl, hnp.out⟩
    case doneC =>
      rintro DC xs X hD hxs ⟨_, hn, hB⟩ hK
      have hxl : xs = L := hxs
      rw [hxl] at hn
      clear hxs hxl
      obtain ⟨f1, f2, f3, f4, f5, f6⟩ := F1.next hB
      have cn := hn.one
      have clx := f3.one
      have ctx := (ct1.below hB ct1.lt).one
      have cmx := f1.one
      have lt0 := hB.size
      have hne1 : ((L.length : Int) != (L.length : Int)) = false := by simp
      have fV := F1.2.2.2.2.1
      have hs0 := fV.size
      gi_wp2
      clear cn clx ctx cmx f1 f2 f3 f4 f5 f6
      obtain ⟨V2C, hVn⟩ : ∃ Y, X.alloc (.cells #[.int .i64 2] 3) = Y := ⟨_, rfl⟩
      rw [hVn]
      have hBn : Below V1C.heap.size V1C V2C := by rw [← hVn]; exact hB.alloc hB.size _
      have ct2 : Blk V2C X.heap.size 3 #[.int .i64 2] := by rw [← hVn]; exact Blk.new _ _ _
      have hDn : V2C.heap[DC]? = some (.deferred (some [])) := by rw [← hVn]; exact (Below.heap_alloc X _ DC (Array.getElem?_eq_some_iff.1 hK).1).trans hK
      have HL2 := HL1.more hBn (D := DC) (by omega) (by omega) hDn
      have F2 := F1.next hBn
      clear hVn hBn hDn hK hn hB ct1 F1 HL1 fV lt0 hs0
      clear hne1
      rw [roundsIn_succ]
      obtain ⟨f1, f2, f3, f4, f5, f6⟩ := id F2
      have ctx := ct2.one
      have hs4 := f2.lt
      gi_wp2_with fail
      go_wp2_with fail
      refine (works_any _ (HLW.out _ f5)).mono ?_
      rintro e wf ⟨rfl, hBf⟩
      have f4f := f2.below hBf f2.lt
      have crx := f4f.one
      have frx := f4f.frozen 0
      have hb3 := f4f.set_ 0 (.bool true)
      have hLf := (HL2.below hBf).set_ ⟨g1, 0, none⟩ (.bool true)
      have hBz : Below w.heap.size w (wf.setCell ⟨g1, 0, none⟩ (.bool true)) := (below_in f5 hBf).setCell (by show w.heap.size ≤ g1; omega) _
      go_wp2
      refine leaves_blks w _ _ hLf hBz (fun W' hB' hk => ?_)
      have r0 := (hk _ _ _ hb3).one
      exact ⟨.bool true, by simp [results, Tryd.results6, go_sem, r0], rfl, hB'⟩
    case stopC =>
      rintro D c pre X hD hsp hix hK
      rcases hix with ⟨h, _⟩ | ⟨_, hnp⟩
      · exact h.elim
      · exact absurd hsp hnp

open Go.Proofs.YtckfepmahjgmfaaDoor.E Go.Proofs.YtckfepmahjgmfaaDoor.C Go.Proofs.YtckfepmahjgmfaaDoor.T Go.Proofs.YtckfepmahjgmfaaDoor.Rg in
set_option maxRecDepth 100000 in
set_option maxHeartbeats 4000000 in
theorem caseC (p by_ many : Int) (w : World) (hL : Laid w) (wp : -9223372036854775808 ≤ p ∧ p ≤ 9223372036854775807) (wb : -9223372036854775808 ≤ by_ ∧ by_ ≤ 9223372036854775807) (wm : -9223372036854775808 ≤ many ∧ many ≤ 9223372036854775807) (hp : p ∉ prm) :
    Calls Tryd.prog 6 #[.int .i64 p, .int .i64 by_, .int .i64 many] w fun e w' => e = .returned (.bool true) ∧ Below w.heap.size w w' := by
  obtain ⟨W3, hW3⟩ : ∃ W3, ((w.alloc (.cells #[.int .i64 many] 3)).alloc (.cells #[.bool false] 4)).alloc (.cells #[.slice none 0 0] 37) = W3 := ⟨_, rfl⟩
  have b0 : Blk W3 w.heap.size 3 #[.int .i64 many] := by rw [← hW3]; exact ((Blk.new w _ _).alloc _).alloc _
  have b1 : Blk W3 (w.heap.size + 1) 4 #[.bool false] := by rw [← hW3]; exact (Blk.second w _ _ _).alloc _
  have b2 : Blk W3 (w.heap.size + 1 + 1) 37 #[.slice none 0 0] := by rw [← hW3]; exact Blk.at_ (Blk.new _ _ _) (by simp)
  have hB3 : Below w.heap.size w W3 := by rw [← hW3]; exact (below_two w _ _).alloc (by simp; omega) _
  have s3 : W3.heap.size = w.heap.size + 3 := by rw [← hW3]; simp
  obtain ⟨g1, hg1⟩ : ∃ g, w.heap.size + 1 = g := ⟨_, rfl⟩
  obtain ⟨g2, hg2⟩ : ∃ g, g1 + 1 = g := ⟨_, rfl⟩
  rw [hg1] at b1 b2
  rw [hg2] at b2
  have HG1 := Lib.hid hg1
  have HG2 := Lib.hid hg2
  have HS3 := Lib.hid s3
  have r0 := b0.lt
  have r1 := b1.lt
  have r2 := b2.lt
  have c2 := b2.one
  have HLW := Lib.hid (fun (U : World) (hU : Below w.heap.size w U) => hL.next hU)
  have HR := Lib.hid (fun W => right_any p W)
  rw [decide_eq_false hp] at HR
  have HV := Lib.hid (fun U hU => rowsT_no p by_ hp wp.1 wp.2 wb.1 wb.2 U hU)
  clear hp
  obtain ⟨L, hL0⟩ : ∃ L : List Int, [] = L := ⟨_, rfl⟩
  have HL17 : Hid (L.length ≤ 17) := by unfold Hid; rw [← hL0]; exact Nat.zero_le _
  have HL0 := Lib.hid hL0
  clear hL0
  refine (callsIn_wide (n := 9)).1 ?_
  refine callsIn_of_wp_marks Tryd.func6 rfl trivial ?_ rfl
  simp only [Tryd.ntmps6, List.size_toArray, List.length_cons, List.length_nil, Nat.reduceAdd, Nat.reduceSub, Array.replicate_succ, Array.replicate_zero, List.push_toArray, List.append_toArray, List.nil_append, List.cons_append]
  refine (wpIn_wide (n := 9)).2 ?_
  clear s3 hg1 hg2 c2
  go_wp2_with fail
  try rw [hW3]
  have hg1 := HG1.out
  have hg2 := HG2.out
  try rw [hg1]
  try rw [hg2]
  clear hg1 hg2 hW3
  refine (HR.out W3).mono ?_
  rintro e w5 ⟨rfl, hB5⟩
  have d0 := b0.below hB5 b0.lt
  have d1 := b1.below hB5 b1.lt
  have d2 := b2.below hB5 b2.lt
  have hB05 := below_in hB3 hB5
  have hs5 := hB05.size
  have hs35 := hB5.size
  have hs3 := HS3.out
  go_wp2_with fail
  obtain ⟨W6, hW6⟩ : ∃ W6, w5 = W6 := ⟨_, rfl⟩
  obtain ⟨Aw, hAw⟩ : ∃ A : Option Addr, none = A := ⟨_, rfl⟩
  obtain ⟨cw, hcw⟩ : ∃ n : Nat, 0 = n := ⟨_, rfl⟩
  have hL0 := HL0.out
  rw [hW6] at d0 d1 d2 hB05 hs35 ⊢
  have e0 := d0
  have e1 := d1
  have e2 : Blk W6 g2 37 #[.slice Aw L.length cw] := by rw [← hL0, ← hAw, ← hcw]; exact d2
  have e3 : Ints W6.heap.size W6 (.slice Aw L.length cw) L := ⟨Aw, cw, rfl, by rw [← hL0]; exact Nat.zero_le _, fun h => absurd h (by rw [← hL0]; exact Nat.lt_irrefl _)⟩
  have hB06 := hB05
  clear hs5 hs35 hs3 hW6 d0 d1 d2 HR b0 b1 b2 hB3 hB5 hB05 hcw hAw
  have hLL := Lib.hid hL0
  clear hL0
  refine (HV.out W6 (HLW.out W6 hB06)).mono ?_
  rintro e w8 ⟨sv, rfl, ⟨qq, gf, lb, rfl, hen, heq, hsq⟩, hB78⟩
  have hrf : Go.Proofs.YtckfepmahjgmfaaDoor.Rg.rowsF qq [] = L := by rw [← hLL.out]; rfl
  rw [hrf] at hsq
  clear hrf
  generalize ([] : List Int).length = NZ at hsq
  go_wp2_with fail
  have HSQ := Lib.hid hsq
  clear hsq
  have hlo := hB78.size
  have hg1 := HG1.out
  have hg2 := HG2.out
  have hg1lo : g1 < W6.heap.size := e1.lt
  have hwlo : w.heap.size < W6.heap.size := e0.lt
  have FQ : TurnR w w8 g1 g2 many Aw cw L w8 := ⟨e0.below hB78 e0.lt, e1.below hB78 e1.lt, e2.below hB78 e2.lt, (e3.below hB78).more hB78.size, below_in hB06 hB78, Below.refl _ _⟩
  have hgg3 : w.heap.size ≤ g1 := by omega
  generalize W6.heap.size = lo at *
  clear e0 e1 e2 e3 hB06 hB78 r0 r1 r2 hg1 hg2
  obtain ⟨V0, hV0⟩ : ∃ V0, w8.alloc (.cells #[.int .i64 0] 3) = V0 := ⟨_, rfl⟩
  rw [hV0]
  have hB70 : Below w8.heap.size w8 V0 := by rw [← hV0]; exact below_one w8 _
  have ct0 : Blk V0 w8.heap.size 3 #[.int .i64 0] := by rw [← hV0]; exact Blk.new _ _ _
  have F0 := FQ.next hB70
  have HL0 := Left.nil w.heap.size V0
  clear hV0 FQ hB70
  refine (wpIn_wide (n := 9)).1 ?_
  refine wpIn_loop_rounds 3 ?_
  rw [roundsIn_succ]
  obtain ⟨f1, f2, f3, f4, f5, f6⟩ := id F0
  have ctt := ct0.one
  have hlt1 := f1.lt
  have hlt2 := f2.lt
  have hlt3 := f3.lt
  have hltt := ct0.lt
  have hs8 := f6.size
  have hef := heq (V0.alloc (.cells #[.int .i64 0] 3))
  gi_wp2_with fail
  have hn0 : Blk (V0.alloc (.cells #[.int .i64 0] 3)) V0.heap.size 3 #[.int .i64 (([] : List Int).length : Int)] := Blk.new _ _ _
  have hBa := below_one V0 (.cells #[.int .i64 0] 3)
  have h8a := below_in f6 hBa
  clear hef ctt
  obtain ⟨VaA, hVa⟩ : ∃ X, V0.alloc (.cells #[.int .i64 0] 3) = X := ⟨_, rfl⟩
  rw [hVa] at hn0 hBa h8a ⊢
  clear hVa
  have hna := hn0.lt
  clear f1 f2 f3 f4 f5 f6
  refine wpIn_rangeActT (N := NZ) rfl (by omega) (gf := gf) (lb := lb) rfl trivial hen (HSQ.out 8 (by omega)) (fun h h' => h.trans h') (fun W l ob h1 _ _ => Keep.putFar W (by omega) ob) h8a (fun _ => rfl)
    (fun pre X => (pre <+: L ∧ (pre.length = 0 ∨ (pre.length : Int) < many)) ∧ Blk X V0.heap.size 3 #[.int .i64 (pre.length : Int)] ∧ Below V0.heap.size V0 X)
    (fun c pre X => ((c = .exit 2 ∧ 1 ≤ pre.length ∧ (pre.length = 1 ∨ (pre.length : Int) - 1 < many) ∧ many ≤ (pre.length : Int)) ∧ Blk X V0.heap.size 3 #[.int .i64 (pre.length : Int)] ∧ Below V0.heap.size V0 X) ∨ (c = .ret ∧ ¬ pre <+: L))
    (farO_turn (fun pre : List Int => (pre <+: L ∧ (pre.length = 0 ∨ (pre.length : Int) < many))) (fun pre => #[.int .i64 (pre.length : Int)]) 3 hna (Nat.le_refl _) (Nat.le_of_lt hna))
    (fun c => farO_turn2 (fun pre : List Int => (c = .exit 2 ∧ 1 ≤ pre.length ∧ (pre.length = 1 ∨ (pre.length : Int) - 1 < many) ∧ many ≤ (pre.length : Int))) (fun pre : List Int => (c = .ret ∧ ¬ pre <+: L)) (fun pre => #[.int .i64 (pre.length : Int)]) 3 hna (Nat.le_refl _) (Nat.le_of_lt hna))
    ⟨⟨List.nil_prefix, .inl rfl⟩, hn0, hBa⟩ ?actA
    (fun pre z X => True)
    (fun pre z W l ob r hl h => h)
    ?assignA ?bodyA ?doneA ?stopA
  case assignA =>
    intro l' pre z X K hsz hI2 hok hK
    have hK2 := hK X (Below.refl _ _) (Keep.refl _ _ _) hI2 trivial
    clear hK hI2 hok
    gi_wp2
    exact hK2
  case bodyA =>
    rintro l' pre z X hsz ⟨⟨hpl, hcnd⟩, hn, hB⟩ _ hlen
    obtain ⟨f1, f2, f3, f4, f5, f6⟩ := F0.next hB
    have ctx := (ct0.below hB ct0.lt).one
    have cm := f1.one
    have cw_ := f3.one
    have cn := hn.one
    have fn := hn.frozen 0
    have cb := f2.one
    have fb := f2.frozen 0
    have hbsz := hB.size
    have hg1l := f2.lt
    have hks1 : Keep lo (w8.heap.size - lo) X (X.setCell ⟨g1, 0, none⟩ (.bool false)) := Keep.setCell X (by show g1 < lo; omega) _
    have hss1 : Go.Proofs.YtckfepmahjgmfaaDoor.T.SinceO VaA.heap.size (fun _ => False) X (X.setCell ⟨g1, 0, none⟩ (.bool false)) := ⟨by simp, fun b h1 h2 h3 => Below.heap_setCell X _ (.bool false) b (by show b ≠ g1; omega)⟩
    have hks : Keep lo (w8.heap.size - lo) X (X.setCell ⟨V0.heap.size, 0, none⟩ (.int .i64 ((pre.length : Int) + 1))) := Keep.setFar X (by show lo + (w8.heap.size - lo) ≤ V0.heap.size; omega) _
    have hss : Go.Proofs.YtckfepmahjgmfaaDoor.T.SinceO VaA.heap.size (fun _ => False) X (X.setCell ⟨V0.heap.size, 0, none⟩ (.int .i64 ((pre.length : Int) + 1))) := ⟨by simp, fun b h1 h2 h3 => Below.heap_setCell X _ (.int .i64 ((pre.length : Int) + 1)) b (by show b ≠ V0.heap.size; omega)⟩
    have hl1 : Hid (((pre ++ [z]).length : Int) = (pre.length : Int) + 1) := by unfold Hid; rw [List.length_append]; rfl
    have hT : Hid (Blk (X.setCell ⟨V0.heap.size, 0, none⟩ (.int .i64 ((pre.length : Int) + 1))) V0.heap.size 3 #[.int .i64 ((pre ++ [z]).length : Int)] ∧ Below V0.heap.size V0 (X.setCell ⟨V0.heap.size, 0, none⟩ (.int .i64 ((pre.length : Int) + 1)))) := by
      unfold Hid
      rw [hl1.out]
      exact ⟨hn.set_ 0 _, hB.setCell (Nat.le_refl _) _⟩
    have i0 : (0 : Int) ≤ (pre.length : Int) := by omega
    have hLl := HL17.out
    clear hn hB f1 f2 f3 f5 f6
    by_cases hlt : pre.length < L.length
    · have dg : decide ((L.length : Int) ≤ (pre.length : Int)) = false := decide_eq_false (by omega)
      have i2 : (pre.length : Int) < (L.length : Int) := by omega
      obtain ⟨A2, c2, e2, _, hA2⟩ := f4
      injection e2 with q1 q2 q3
      subst q1
      obtain ⟨ab, ao, rfl, hab, hcl⟩ := hA2 (by omega)
      have hce := hcl pre.length hlt
      clear hcl hA2
      by_cases hx : z = L[pre.length]?.getD 0
      · subst hx
        have dn : ((L[pre.length]?.getD 0) != (L[pre.length]?.getD 0)) = false := by simp
        have hpl2 : Hid (pre ++ [L[pre.length]?.getD 0] <+: L) := pre_next hpl hlt
        generalize L[pre.length]?.getD 0 = z at *
        by_cases hm : many ≤ (pre.length : Int) + 1
        · have dm : decide (many ≤ (pre.length : Int) + 1) = true := decide_eq_true hm
          gi_wp2
          refine ⟨fun _ => False, Go.Proofs.YtckfepmahjgmfaaDoor.T.FreshO.refl _ _, hss, hks, rfl, .inl ⟨⟨rfl, by rw [List.length_append]; simp, ?_, ?_⟩, hT.out⟩⟩
          · rcases hcnd with h | h
            · left; rw [List.length_append, h]; rfl
            · right; rw [hl1.out]; omega
          · rw [hl1.out]; exact hm
        · have dm : decide (many ≤ (pre.length : Int) + 1) = false := decide_eq_false hm
          gi_wp2
          exact ⟨fun _ => False, Go.Proofs.YtckfepmahjgmfaaDoor.T.FreshO.refl _ _, hss, hks, rfl, ⟨hpl2.out, .inr (by rw [hl1.out]; omega)⟩, hT.out⟩
      · have dn : (z != L[pre.length]?.getD 0) = true := bne_iff_ne.2 hx
        have hnp := Lib.hid (not_prefix L pre z fun _ => hx)
        clear hx
        generalize L[pre.length]?.getD 0 = lj at *
        gi_wp2
        first
          | exact ⟨fun _ => False, Go.Proofs.YtckfepmahjgmfaaDoor.T.FreshO.refl _ _, hss1, hks1, rfl, .inr ⟨rfl, hnp.out⟩⟩
          | exact ⟨fun _ => False, Go.Proofs.YtckfepmahjgmfaaDoor.T.FreshO.refl _ _, hss1, hks1, rfl, rfl, hnp.out⟩
    · have dg : decide ((L.length : Int) ≤ (pre.length : Int)) = true := decide_eq_true (by omega)
      have hnp := Lib.hid (not_prefix L pre z fun h => absurd h hlt)
      gi_wp2
      first
        | exact ⟨fun _ => False, Go.Proofs.YtckfepmahjgmfaaDoor.T.FreshO.refl _ _, hss1, hks1, rfl, .inr ⟨rfl, hnp.out⟩⟩
        | exact ⟨fun _ => False, Go.Proofs.YtckfepmahjgmfaaDoor.T.FreshO.refl _ _, hss1, hks1, rfl, rfl, hnp.out⟩
  case doneA =>
    rintro DA xs X hD hxs ⟨⟨_, hcnd⟩, hn, hB⟩ hK
    have hxl : xs = L := hxs
    rw [hxl] at hn hcnd
    clear hxs hxl
    obtain ⟨f1, f2, f3, f4, f5, f6⟩ := F0.next hB
    have cn := hn.one
    have clx := f3.one
    have ctx := (ct0.below hB ct0.lt).one
    have cmx := f1.one
    have lt0 := hB.size
    have hmin : ((L.length : Int) != min (L.length : Int) (max 1 many)) = false := by rw [bne_eq_false_iff_eq]; rcases hcnd with h | h <;> omega
    have fV := F0.2.2.2.2.1
    have hs0 := fV.size
    gi_wp2
    clear cn clx ctx cmx f1 f2 f3 f4 f5 f6
    obtain ⟨V1B, hVn⟩ : ∃ Y, X.alloc (.cells #[.int .i64 1] 3) = Y := ⟨_, rfl⟩
    rw [hVn]
    have hBn : Below V0.heap.size V0 V1B := by rw [← hVn]; exact hB.alloc hB.size _
    have ct1 : Blk V1B X.heap.size 3 #[.int .i64 1] := by rw [← hVn]; exact Blk.new _ _ _
    have hDn : V1B.heap[DA]? = some (.deferred (some [])) := by rw [← hVn]; exact (Below.heap_alloc X _ DA (Array.getElem?_eq_some_iff.1 hK).1).trans hK
    have HL1 := HL0.more hBn (D := DA) (by omega) (by omega) hDn
    have F1 := F0.next hBn
    clear hVn hBn hDn hK hn hB ct0 F0 HL0 fV lt0 hs0
    clear hmin hcnd
    obtain ⟨tb, htb⟩ : ∃ tb, Hid (X.heap.size = tb) := ⟨_, rfl⟩
    rw [htb.out] at ct1 ⊢
    clear htb
    rw [roundsIn_succ]
    obtain ⟨f1, f2, f3, f4, f5, f6⟩ := id F1
    have ctt := ct1.one
    have hlt1 := f1.lt
    have hlt2 := f2.lt
    have hlt3 := f3.lt
    have hltt := ct1.lt
    have hs8 := f6.size
    have hef := heq (V1B.alloc (.cells #[.int .i64 0] 3))
    gi_wp2_with fail
    have hn0 : Blk (V1B.alloc (.cells #[.int .i64 0] 3)) V1B.heap.size 3 #[.int .i64 (([] : List Int).length : Int)] := Blk.new _ _ _
    have hBa := below_one V1B (.cells #[.int .i64 0] 3)
    have h8a := below_in f6 hBa
    clear hef ctt
    obtain ⟨VaB, hVa⟩ : ∃ X, V1B.alloc (.cells #[.int .i64 0] 3) = X := ⟨_, rfl⟩
    rw [hVa] at hn0 hBa h8a ⊢
    clear hVa
    have hna := hn0.lt
    clear f1 f2 f3 f4 f5 f6
    refine wpIn_rangeActT (N := NZ) rfl (by omega) (gf := gf) (lb := lb) rfl trivial hen (HSQ.out 8 (by omega)) (fun h h' => h.trans h') (fun W l ob h1 _ _ => Keep.putFar W (by omega) ob) h8a (fun _ => rfl)
      (fun pre X => pre <+: L ∧ Blk X V1B.heap.size 3 #[.int .i64 (pre.length : Int)] ∧ Below V1B.heap.size V1B X)
      (fun c pre X => (False ∧ Blk X V1B.heap.size 3 #[.int .i64 (pre.length : Int)] ∧ Below V1B.heap.size V1B X) ∨ (c = .ret ∧ ¬ pre <+: L))
      (farO_turn (fun pre : List Int => pre <+: L) (fun pre => #[.int .i64 (pre.length : Int)]) 3 hna (Nat.le_refl _) (Nat.le_of_lt hna))
      (fun c => farO_turn2 (fun pre : List Int => False) (fun pre : List Int => (c = .ret ∧ ¬ pre <+: L)) (fun pre => #[.int .i64 (pre.length : Int)]) 3 hna (Nat.le_refl _) (Nat.le_of_lt hna))
      ⟨List.nil_prefix, hn0, hBa⟩ ?actB
      (fun pre z X => True)
      (fun pre z W l ob r hl h => h)
      ?assignB ?bodyB ?doneB ?stopB
    case assignB =>
      intro l' pre z X K hsz hI2 hok hK
      have hK2 := hK X (Below.refl _ _) (Keep.refl _ _ _) hI2 trivial
      clear hK hI2 hok
      gi_wp2
      exact hK2
    case bodyB =>
      rintro l' pre z X hsz ⟨hpl, hn, hB⟩ _ hlen
      obtain ⟨f1, f2, f3, f4, f5, f6⟩ := F1.next hB
      have ctx := (ct1.below hB ct1.lt).one
      have cm := f1.one
      have cw_ := f3.one
      have cn := hn.one
      have fn := hn.frozen 0
      have cb := f2.one
      have fb := f2.frozen 0
      have hbsz := hB.size
      have hg1l := f2.lt
      have hks1 : Keep lo (w8.heap.size - lo) X (X.setCell ⟨g1, 0, none⟩ (.bool false)) := Keep.setCell X (by show g1 < lo; omega) _
      have hss1 : Go.Proofs.YtckfepmahjgmfaaDoor.T.SinceO VaB.heap.size (fun _ => False) X (X.setCell ⟨g1, 0, none⟩ (.bool false)) := ⟨by simp, fun b h1 h2 h3 => Below.heap_setCell X _ (.bool false) b (by show b ≠ g1; omega)⟩
      have hks : Keep lo (w8.heap.size - lo) X (X.setCell ⟨V1B.heap.size, 0, none⟩ (.int .i64 ((pre.length : Int) + 1))) := Keep.setFar X (by show lo + (w8.heap.size - lo) ≤ V1B.heap.size; omega) _
      have hss : Go.Proofs.YtckfepmahjgmfaaDoor.T.SinceO VaB.heap.size (fun _ => False) X (X.setCell ⟨V1B.heap.size, 0, none⟩ (.int .i64 ((pre.length : Int) + 1))) := ⟨by simp, fun b h1 h2 h3 => Below.heap_setCell X _ (.int .i64 ((pre.length : Int) + 1)) b (by show b ≠ V1B.heap.size; omega)⟩
      have hl1 : Hid (((pre ++ [z]).length : Int) = (pre.length : Int) + 1) := by unfold Hid; rw [List.length_append]; rfl
      have hT : Hid (Blk (X.setCell ⟨V1B.heap.size, 0, none⟩ (.int .i64 ((pre.length : Int) + 1))) V1B.heap.size 3 #[.int .i64 ((pre ++ [z]).length : Int)] ∧ Below V1B.heap.size V1B (X.setCell ⟨V1B.heap.size, 0, none⟩ (.int .i64 ((pre.length : Int) + 1)))) := by
        unfold Hid
        rw [hl1.out]
        exact ⟨hn.set_ 0 _, hB.setCell (Nat.le_refl _) _⟩
      have i0 : (0 : Int) ≤ (pre.length : Int) := by omega
      have hLl := HL17.out
      clear hn hB f1 f2 f3 f5 f6
      by_cases hlt : pre.length < L.length
      · have dg : decide ((L.length : Int) ≤ (pre.length : Int)) = false := decide_eq_false (by omega)
        have i2 : (pre.length : Int) < (L.length : Int) := by omega
        obtain ⟨A2, c2, e2, _, hA2⟩ := f4
        injection e2 with q1 q2 q3
        subst q1
        obtain ⟨ab, ao, rfl, hab, hcl⟩ := hA2 (by omega)
        have hce := hcl pre.length hlt
        clear hcl hA2
        by_cases hx : z = L[pre.length]?.getD 0
        · subst hx
          have dn : ((L[pre.length]?.getD 0) != (L[pre.length]?.getD 0)) = false := by simp
          have hpl2 : Hid (pre ++ [L[pre.length]?.getD 0] <+: L) := pre_next hpl hlt
          generalize L[pre.length]?.getD 0 = z at *
          gi_wp2
          exact ⟨fun _ => False, Go.Proofs.YtckfepmahjgmfaaDoor.T.FreshO.refl _ _, hss, hks, rfl, hpl2.out, hT.out⟩
        · have dn : (z != L[pre.length]?.getD 0) = true := bne_iff_ne.2 hx
          have hnp := Lib.hid (not_prefix L pre z fun _ => hx)
          clear hx
          generalize L[pre.length]?.getD 0 = lj at *
          gi_wp2
          first
            | exact ⟨fun _ => False, Go.Proofs.YtckfepmahjgmfaaDoor.T.FreshO.refl _ _, hss1, hks1, rfl, .inr ⟨rfl, hnp.out⟩⟩
            | exact ⟨fun _ => False, Go.Proofs.YtckfepmahjgmfaaDoor.T.FreshO.refl _ _, hss1, hks1, rfl, rfl, hnp.out⟩
      · have dg : decide ((L.length : Int) ≤ (pre.length : Int)) = true := decide_eq_true (by omega)
        have hnp := Lib.hid (not_prefix L pre z fun h => absurd h hlt)
        gi_wp2
        first
          | exact ⟨fun _ => False, Go.Proofs.YtckfepmahjgmfaaDoor.T.FreshO.refl _ _, hss1, hks1, rfl, .inr ⟨rfl, hnp.out⟩⟩
          | exact ⟨fun _ => False, Go.Proofs.YtckfepmahjgmfaaDoor.T.FreshO.refl _ _, hss1, hks1, rfl, rfl, hnp.out⟩
    case doneB =>
      rintro DB xs X hD hxs ⟨_, hn, hB⟩ hK
      have hxl : xs = L := hxs
      rw [hxl] at hn
      clear hxs hxl
      obtain ⟨f1, f2, f3, f4, f5, f6⟩ := F1.next hB
      have cn := hn.one
      have clx := f3.one
      have ctx := (ct1.below hB ct1.lt).one
      have cmx := f1.one
      have lt0 := hB.size
      have hne1 : ((L.length : Int) != (L.length : Int)) = false := by simp
      have fV := F1.2.2.2.2.1
      have hs0 := fV.size
      gi_wp2
      clear cn clx ctx cmx f1 f2 f3 f4 f5 f6
      obtain ⟨V2B, hVn⟩ : ∃ Y, X.alloc (.cells #[.int .i64 2] 3) = Y := ⟨_, rfl⟩
      rw [hVn]
      have hBn : Below V1B.heap.size V1B V2B := by rw [← hVn]; exact hB.alloc hB.size _
      have ct2 : Blk V2B X.heap.size 3 #[.int .i64 2] := by rw [← hVn]; exact Blk.new _ _ _
      have hDn : V2B.heap[DB]? = some (.deferred (some [])) := by rw [← hVn]; exact (Below.heap_alloc X _ DB (Array.getElem?_eq_some_iff.1 hK).1).trans hK
      have HL2 := HL1.more hBn (D := DB) (by omega) (by omega) hDn
      have F2 := F1.next hBn
      clear hVn hBn hDn hK hn hB ct1 F1 HL1 fV lt0 hs0
      clear hne1
      rw [roundsIn_succ]
      obtain ⟨f1, f2, f3, f4, f5, f6⟩ := id F2
      have ctx := ct2.one
      have hs4 := f2.lt
      gi_wp2_with fail
      go_wp2_with fail
      refine (works_any _ (HLW.out _ f5)).mono ?_
      rintro e wf ⟨rfl, hBf⟩
      have f4f := f2.below hBf f2.lt
      have crx := f4f.one
      have frx := f4f.frozen 0
      have hb3 := f4f.set_ 0 (.bool true)
      have hLf := (HL2.below hBf).set_ ⟨g1, 0, none⟩ (.bool true)
      have hBz : Below w.heap.size w (wf.setCell ⟨g1, 0, none⟩ (.bool true)) := (below_in f5 hBf).setCell (by show w.heap.size ≤ g1; omega) _
      go_wp2
      refine leaves_blks w _ _ hLf hBz (fun W' hB' hk => ?_)
      have r0 := (hk _ _ _ hb3).one
      exact ⟨.bool true, by simp [results, Tryd.results6, go_sem, r0], rfl, hB'⟩
    case stopB =>
      rintro D c pre X hD hsp hix hK
      rcases hix with ⟨h, _⟩ | ⟨_, hnp⟩
      · exact h.elim
      · exact absurd hsp hnp
  case stopA =>
    rintro DA c pre X hD hsp hix hK
    rcases hix with ⟨⟨rfl, hx1, hx2, hx3⟩, hn, hB⟩ | ⟨_, hnp⟩
    case inr => exact absurd hsp hnp
    have hple : pre.length ≤ L.length := List.IsPrefix.length_le hsp
    clear hsp
    obtain ⟨f1, f2, f3, f4, f5, f6⟩ := F0.next hB
    have cn := hn.one
    have clx := f3.one
    have ctx := (ct0.below hB ct0.lt).one
    have cmx := f1.one
    have lt0 := hB.size
    have hmin : ((pre.length : Int) != min (L.length : Int) (max 1 many)) = false := by rw [bne_eq_false_iff_eq]; rcases hx2 with h | h <;> omega
    have fV := F0.2.2.2.2.1
    have hs0 := fV.size
    gi_wp2
    clear cn clx ctx cmx f1 f2 f3 f4 f5 f6
    obtain ⟨V1C, hVn⟩ : ∃ Y, X.alloc (.cells #[.int .i64 1] 3) = Y := ⟨_, rfl⟩
    rw [hVn]
    have hBn : Below V0.heap.size V0 V1C := by rw [← hVn]; exact hB.alloc hB.size _
    have ct1 : Blk V1C X.heap.size 3 #[.int .i64 1] := by rw [← hVn]; exact Blk.new _ _ _
    have hDn : V1C.heap[DA]? = some (.deferred (some [])) := by rw [← hVn]; exact (Below.heap_alloc X _ DA (Array.getElem?_eq_some_iff.1 hK).1).trans hK
    have HL1 := HL0.more hBn (D := DA) (by omega) (by omega) hDn
    have F1 := F0.next hBn
    clear hVn hBn hDn hK hn hB ct0 F0 HL0 fV lt0 hs0
    clear hmin hx1 hx2 hx3 hple
    obtain ⟨tb, htb⟩ : ∃ tb, Hid (X.heap.size = tb) := ⟨_, rfl⟩
    rw [htb.out] at ct1 ⊢
    clear htb
    rw [roundsIn_succ]
    obtain ⟨f1, f2, f3, f4, f5, f6⟩ := id F1
    have ctt := ct1.one
    have hlt1 := f1.lt
    have hlt2 := f2.lt
    have hlt3 := f3.lt
    have hltt := ct1.lt
    have hs8 := f6.size
    have hef := heq (V1C.alloc (.cells #[.int .i64 0] 3))
    gi_wp2_with fail
    have hn0 : Blk (V1C.alloc (.cells #[.int .i64 0] 3)) V1C.heap.size 3 #[.int .i64 (([] : List Int).length : Int)] := Blk.new _ _ _
    have hBa := below_one V1C (.cells #[.int .i64 0] 3)
    have h8a := below_in f6 hBa
    clear hef ctt
    obtain ⟨VaC, hVa⟩ : ∃ X, V1C.alloc (.cells #[.int .i64 0] 3) = X := ⟨_, rfl⟩
    rw [hVa] at hn0 hBa h8a ⊢
    clear hVa
    have hna := hn0.lt
    clear f1 f2 f3 f4 f5 f6
    refine wpIn_rangeActT (N := NZ) rfl (by omega) (gf := gf) (lb := lb) rfl trivial hen (HSQ.out 8 (by omega)) (fun h h' => h.trans h') (fun W l ob h1 _ _ => Keep.putFar W (by omega) ob) h8a (fun _ => rfl)
      (fun pre X => pre <+: L ∧ Blk X V1C.heap.size 3 #[.int .i64 (pre.length : Int)] ∧ Below V1C.heap.size V1C X)
      (fun c pre X => (False ∧ Blk X V1C.heap.size 3 #[.int .i64 (pre.length : Int)] ∧ Below V1C.heap.size V1C X) ∨ (c = .ret ∧ ¬ pre <+: L))
      (farO_turn (fun pre : List Int => pre <+: L) (fun pre => #[.int .i64 (pre.length : Int)]) 3 hna (Nat.le_refl _) (Nat.le_of_lt hna))
      (fun c => farO_turn2 (fun pre : List Int => False) (fun pre : List Int => (c = .ret ∧ ¬ pre <+: L)) (fun pre => #[.int .i64 (pre.length : Int)]) 3 hna (Nat.le_refl _) (Nat.le_of_lt hna))
      ⟨List.nil_prefix, hn0, hBa⟩ ?actC
      (fun pre z X => True)
      (fun pre z W l ob r hl h => h)
      ?assignC ?bodyC ?doneC ?stopC
    case assignC =>
      intro l' pre z X K hsz hI2 hok hK
      have hK2 := hK X (Below.refl _ _) (Keep.refl _ _ _) hI2 trivial
      clear hK hI2 hok
      gi_wp2
      exact hK2
    case bodyC =>
      rintro l' pre z X hsz ⟨hpl, hn, hB⟩ _ hlen
      obtain ⟨f1, f2, f3, f4, f5, f6⟩ := F1.next hB
      have ctx := (ct1.below hB ct1.lt).one
      have cm := f1.one
      have cw_ := f3.one
      have cn := hn.one
      have fn := hn.frozen 0
      have cb := f2.one
      have fb := f2.frozen 0
      have hbsz := hB.size
      have hg1l := f2.lt
      have hks1 : Keep lo (w8.heap.size - lo) X (X.setCell ⟨g1, 0, none⟩ (.bool false)) := Keep.setCell X (by show g1 < lo; omega) _
      have hss1 : Go.Proofs.YtckfepmahjgmfaaDoor.T.SinceO VaC.heap.size (fun _ => False) X (X.setCell ⟨g1, 0, none⟩ (.bool false)) := ⟨by simp, fun b h1 h2 h3 => Below.heap_setCell X _ (.bool false) b (by show b ≠ g1; omega)⟩
      have hks : Keep lo (w8.heap.size - lo) X (X.setCell ⟨V1C.heap.size, 0, none⟩ (.int .i64 ((pre.length : Int) + 1))) := Keep.setFar X (by show lo + (w8.heap.size - lo) ≤ V1C.heap.size; omega) _
      have hss : Go.Proofs.YtckfepmahjgmfaaDoor.T.SinceO VaC.heap.size (fun _ => False) X (X.setCell ⟨V1C.heap.size, 0, none⟩ (.int .i64 ((pre.length : Int) + 1))) := ⟨by simp, fun b h1 h2 h3 => Below.heap_setCell X _ (.int .i64 ((pre.length : Int) + 1)) b (by show b ≠ V1C.heap.size; omega)⟩
      have hl1 : Hid (((pre ++ [z]).length : Int) = (pre.length : Int) + 1) := by unfold Hid; rw [List.length_append]; rfl
      have hT : Hid (Blk (X.setCell ⟨V1C.heap.size, 0, none⟩ (.int .i64 ((pre.length : Int) + 1))) V1C.heap.size 3 #[.int .i64 ((pre ++ [z]).length : Int)] ∧ Below V1C.heap.size V1C (X.setCell ⟨V1C.heap.size, 0, none⟩ (.int .i64 ((pre.length : Int) + 1)))) := by
        unfold Hid
        rw [hl1.out]
        exact ⟨hn.set_ 0 _, hB.setCell (Nat.le_refl _) _⟩
      have i0 : (0 : Int) ≤ (pre.length : Int) := by omega
      have hLl := HL17.out
      clear hn hB f1 f2 f3 f5 f6
      by_cases hlt : pre.length < L.length
      · have dg : decide ((L.length : Int) ≤ (pre.length : Int)) = false := decide_eq_false (by omega)
        have i2 : (pre.length : Int) < (L.length : Int) := by omega
        obtain ⟨A2, c2, e2, _, hA2⟩ := f4
        injection e2 with q1 q2 q3
        subst q1
        obtain ⟨ab, ao, rfl, hab, hcl⟩ := hA2 (by omega)
        have hce := hcl pre.length hlt
        clear hcl hA2
        by_cases hx : z = L[pre.length]?.getD 0
        · subst hx
          have dn : ((L[pre.length]?.getD 0) != (L[pre.length]?.getD 0)) = false := by simp
          have hpl2 : Hid (pre ++ [L[pre.length]?.getD 0] <+: L) := pre_next hpl hlt
          generalize L[pre.length]?.getD 0 = z at *
          gi_wp2
          exact ⟨fun _ => False, Go.Proofs.YtckfepmahjgmfaaDoor.T.FreshO.refl _ _, hss, hks, rfl, hpl2.out, hT.out⟩
        · have dn : (z != L[pre.length]?.getD 0) = true := bne_iff_ne.2 hx
          have hnp := Lib.hid (not_prefix L pre z fun _ => hx)
          clear hx
          generalize L[pre.length]?.getD 0 = lj at *
          gi_wp2
          first
            | exact ⟨fun _ => False, Go.Proofs.YtckfepmahjgmfaaDoor.T.FreshO.refl _ _, hss1, hks1, rfl, .inr ⟨rfl, hnp.out⟩⟩
            | exact ⟨fun _ => False, Go.Proofs.YtckfepmahjgmfaaDoor.T.FreshO.refl _ _, hss1, hks1, rfl, rfl, hnp.out⟩
      · have dg : decide ((L.length : Int) ≤ (pre.length : Int)) = true := decide_eq_true (by omega)
        have hnp := Lib.hid (not_prefix L pre z fun h => absurd h hlt)
        gi_wp2
        first
          | exact ⟨fun _ => False, Go.Proofs.YtckfepmahjgmfaaDoor.T.FreshO.refl _ _, hss1, hks1, rfl, .inr ⟨rfl, hnp.out⟩⟩
          | exact ⟨fun _ => False, Go.Proofs.YtckfepmahjgmfaaDoor.T.FreshO.refl _ _, hss1, hks1, rfl, rfl, hnp.out⟩
    case doneC =>
      rintro DC xs X hD hxs ⟨_, hn, hB⟩ hK
      have hxl : xs = L := hxs
      rw [hxl] at hn
      clear hxs hxl
      obtain ⟨f1, f2, f3, f4, f5, f6⟩ := F1.next hB
      have cn := hn.one
      have clx := f3.one
      have ctx := (ct1.below hB ct1.lt).one
      have cmx := f1.one
      have lt0 := hB.size
      have hne1 : ((L.length : Int) != (L.length : Int)) = false := by simp
      have fV := F1.2.2.2.2.1
      have hs0 := fV.size
      gi_wp2
      clear cn clx ctx cmx f1 f2 f3 f4 f5 f6
      obtain ⟨V2C, hVn⟩ : ∃ Y, X.alloc (.cells #[.int .i64 2] 3) = Y := ⟨_, rfl⟩
      rw [hVn]
      have hBn : Below V1C.heap.size V1C V2C := by rw [← hVn]; exact hB.alloc hB.size _
      have ct2 : Blk V2C X.heap.size 3 #[.int .i64 2] := by rw [← hVn]; exact Blk.new _ _ _
      have hDn : V2C.heap[DC]? = some (.deferred (some [])) := by rw [← hVn]; exact (Below.heap_alloc X _ DC (Array.getElem?_eq_some_iff.1 hK).1).trans hK
      have HL2 := HL1.more hBn (D := DC) (by omega) (by omega) hDn
      have F2 := F1.next hBn
      clear hVn hBn hDn hK hn hB ct1 F1 HL1 fV lt0 hs0
      clear hne1
      rw [roundsIn_succ]
      obtain ⟨f1, f2, f3, f4, f5, f6⟩ := id F2
      have ctx := ct2.one
      have hs4 := f2.lt
      gi_wp2_with fail
      go_wp2_with fail
      refine (works_any _ (HLW.out _ f5)).mono ?_
      rintro e wf ⟨rfl, hBf⟩
      have f4f := f2.below hBf f2.lt
      have crx := f4f.one
      have frx := f4f.frozen 0
      have hb3 := f4f.set_ 0 (.bool true)
      have hLf := (HL2.below hBf).set_ ⟨g1, 0, none⟩ (.bool true)
      have hBz : Below w.heap.size w (wf.setCell ⟨g1, 0, none⟩ (.bool true)) := (below_in f5 hBf).setCell (by show w.heap.size ≤ g1; omega) _
      go_wp2
      refine leaves_blks w _ _ hLf hBz (fun W' hB' hk => ?_)
      have r0 := (hk _ _ _ hb3).one
      exact ⟨.bool true, by simp [results, Tryd.results6, go_sem, r0], rfl, hB'⟩
    case stopC =>
      rintro D c pre X hD hsp hix hK
      rcases hix with ⟨h, _⟩ | ⟨_, hnp⟩
      · exact h.elim
      · exact absurd hsp hnp

open Go.Proofs.YtckfepmahjgmfaaDoor.E Go.Proofs.YtckfepmahjgmfaaDoor.C Go.Proofs.YtckfepmahjgmfaaDoor.T Go.Proofs.YtckfepmahjgmfaaDoor.Rg in
set_option maxRecDepth 100000 in
set_option maxHeartbeats 4000000 in
theorem walk (p by_ many : Int) (w : World) (hL : Laid w) (wp : -9223372036854775808 ≤ p ∧ p ≤ 9223372036854775807) (wb : -9223372036854775808 ≤ by_ ∧ by_ ≤ 9223372036854775807) (wm : -9223372036854775808 ≤ many ∧ many ≤ 9223372036854775807) :
    Calls Tryd.prog 6 #[.int .i64 p, .int .i64 by_, .int .i64 many] w fun e w' => e = .returned (.bool true) ∧ Below w.heap.size w w' := by
  by_cases hp : p ∈ prm
  · by_cases hz : by_ % p = 0
    · exact caseB p by_ many w hL wp wb wm hp hz
    · exact caseA p by_ many w hL wp wb wm hp hz
  · exact caseC p by_ many w hL wp wb wm hp

set_option maxRecDepth 100000 in
theorem lifted (os : Os) (started : os.Started) (H : Type) (enc : TypeId × Value → H) :
    ReturnsInHanded {} Tryd.checked os 6 .any (fun w args => (Rows.ringRowsSpec.pre enc Tryd.prog Tryd.f6 [] false w args ∧ laidMetH Tryd.prog laidL w) ∧ sizedMet enc Tryd.prog Tryd.f6 (OpenSpec.ofChange Rows.ringRowsSpec) false w args)
      (Rows.ringRowsSpec.post enc Tryd.prog Tryd.f6 false true false false) := by
  refine returnsInHanded_of_change_and (C := Tryd.checked) (X := fun w _ => laidMetH Tryd.prog laidL w) (fun _ _ _ hh h => h.of_heap hh) own started (by kernel_rfl) Tryd.func6
    (ChangeSpec.witness_shaped (enc := enc) (C := Tryd.checked) (os := os) (X := fun w _ => laidMetH Tryd.prog laidL w) false (World.doorLaid Tryd.prog 200 os) #[.int .i64 0, .int .i64 0, .int .i64 0] 8 rfl (World.shaped_of_RefB (by kernel_rfl) (by kernel_rfl)) (by kernel_rfl) (by kernel_rfl) (by kernel_rfl) (door_met os _)) ?_
  intro W base args ds gs before hval0 hW _ _ hL0 _
  have hL := laid_of hL0
  have hval : ∀ (j : Nat) t v, Tryd.f6.params[j]? = some t → args[j]? = some v → Value.okWide Tryd.prog W .any base t v := hval0
  have hW' := hW
  obtain ⟨p, q, hA0, hV, rfl, hfz, hnd⟩ := hW
  have hA : DataW.TrodAll enc Tryd.prog W 0 (fun _ => true) true Tryd.f6.params.toList args.toList ds p := hA0
  rw [Tryd.params6] at hA hval
  obtain ⟨v0, vs0, d0, ds0, p0, q0, hargs, rfl, rfl, h0, r0⟩ := trodAll_cons hA
  obtain ⟨v1, vs1, d1, ds1, p1, q1, rfl, rfl, rfl, h1, r1⟩ := trodAll_cons r0
  obtain ⟨v2, vs2, d2, ds2, p2, q2, rfl, rfl, rfl, h2, r2⟩ := trodAll_cons r1
  obtain ⟨rfl, rfl, rfl⟩ := trodAll_nil r2
  obtain rfl : args = #[v0, v1, v2] := by cases args; simp_all
  obtain ⟨rfl, rfl⟩ := trodVars_none hV
  obtain ⟨a0, rfl, rfl, rfl, w0⟩ := open_int Tryd.underlying3 (hval 0 3 v0 rfl rfl) h0
  obtain ⟨a1, rfl, rfl, rfl, w1⟩ := open_int Tryd.underlying3 (hval 1 3 v1 rfl rfl) h1
  obtain ⟨a2, rfl, rfl, rfl, w2⟩ := open_int Tryd.underlying3 (hval 2 3 v2 rfl rfl) h2
  clear hA0 hval0
  simp only [List.append_nil] at hW'
  refine (walk a0 a1 a2 W hL (E.wf_i64 w0) (E.wf_i64 w1) (E.wf_i64 w2)).mono fun e W' ⟨he, bel⟩ => ?_
  subst he
  exact ⟨_, rfl, _, _, _, [], _, [], hW', trodAll_mk1 (shut_bool Tryd.underlying4 _), (trodAll_cons_mk (shut_int Tryd.underlying3 w0) (trodAll_cons_mk (shut_int Tryd.underlying3 w1) (trodAll_cons_mk (shut_int Tryd.underlying3 w2) trodAll_mk0))), rfl, bel.frame _, fun h => by cases h⟩

theorem over : Rows.ringRowsRow.holds Tryd.pinned (OpenSpec.ofChange Rows.ringRowsSpec) :=
  OpenClaim.holds_of_wide 6 Tryd.f6 rfl rfl rfl rfl rfl rfl rfl ⟨rfl, rfl, rfl, rfl, rfl⟩ rfl rfl rfl rfl rfl (by kernel_rfl) Tryd.func6 (by kernel_rfl)
    (of_decide_eq_true (by kernel_rfl)) (by unfold Func.isWrapper; first | (rw [if_pos (by decide +kernel)]; kernel_rfl) | (rw [if_neg (by decide +kernel)]; exact ⟨rfl, rfl⟩))
    (fun os started H enc _ => lifted os started H enc)

/-- The tied card: the row, and the tie that is given. -/
theorem ringRows_holds : Rows.RingRowsCardSaid :=
  Claim7.holds_tied_plain_at .later [] [.data, .data] true (true, "99df5f4bcb019dcdec7cff5fcc9a2e8187eb1342bd2c8a4118c04815654cb552") true over (fun _ h => by cases h) (by kernel_rfl) (fun _ h => by cases h) ringRows_row_tie rfl ⟨rfl, rfl⟩ (by kernel_rfl) rfl
    (fun f fn hf hfn => by
      obtain rfl : f = 6 := Option.some.inj ((show Tryd.prog.funcNamed "palisade/palisadelaw10.RingRows" = some 6 by kernel_rfl).symm.trans hf) |>.symm
      obtain rfl : fn = Tryd.f6 := (Option.some.inj (Tryd.func6.symm.trans hfn)).symm
      exact ⟨by kernel_rfl, fun j t ht => by
        rw [Tryd.params6] at ht
        have hm : t ∈ [3, 3, 3] := by simpa using Array.mem_of_getElem? ht
        have hall : ([3, 3, 3].all fun u => !Tryd.prog.wantsStandIn u) = true := by kernel_rfl
        exact (show Tryd.prog.wantsStandIn t = false by simpa using List.all_eq_true.1 hall t hm)⟩)
    (by kernel_rfl)
end Go.Proofs.YtckfepmahjgmfaaDoor.ringRows
