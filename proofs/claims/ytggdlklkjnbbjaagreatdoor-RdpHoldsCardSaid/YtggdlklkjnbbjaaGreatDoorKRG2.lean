/- RDP: the cells that are not as they are made. RDP: the cells that are wrong, gathered. RDP: whether columns are as they are made; the places of an answer, gone over. RDP: Check, and the wrong cells of an answer. RDP's laws: what they range over; numbers, the code, columns that are right. RDP's laws: the chapter's rows. RDP's laws: what is made of columns that are put upon one another. RDP's laws: columns that are put upon one another, as a row of the call's own. -/
import Derived.Test.YtggdlklkjnbbjaaGreatDoorKRG1
import Derived.Test.YtggdlklkjnbbjaaGreatDoorKEG3
import Derived.Test.YtggdlklkjnbbjaaGreatDoorKCA
import Derived.Test.YtggdlklkjnbbjaaGreatDoorKEG4
import Derived.Test.YtggdlklkjnbbjaaGreatDoorKZG4
import Derived.Test.YtggdlklkjnbbjaaGreatDoorKEG6
namespace Go.Proofs.YtggdlklkjnbbjaaGreatDoor.R
open Go.RowKit Go.Shelf Go.Proofs.YtggdlklkjnbbjaaGreatDoor.C Go.Proofs.YtggdlklkjnbbjaaGreatDoor.E
set_option linter.unusedSimpArgs false
set_option linter.unusedVariables false
attribute [local go_sem] Oper.semAt_some

theorem laidAt_keep {g N : Nat} {cs : Array Value} {W W' : World} (h : LaidAt g cs W) (hk : Keep 0 N W W') (hg : g < N) : LaidAt g cs W' := by
  obtain ⟨t, fr, h⟩ := h
  exact ⟨t, fr, (hk.2 g (Nat.zero_le _) (by omega)).trans h⟩
theorem laid_keep {N : Nat} {W W' : World} (h : Laid W) (hk : Keep 0 N W W') (hN : 2 ≤ N) : Laid W' := ⟨laidAt_keep h.1 hk (by omega), laidAt_keep h.2 hk (by omega)⟩
/-- What a cell is made as. -/
def madeAt (p : Int) (all : List (List (List UInt8))) (z : Int × Int) : List UInt8 := uponL (firstC all).length all (memL 2 p z.1 z.2)
/-- The places of cells that are not as they are made. -/
def wrongB (p : Int) (all : List (List (List UInt8))) (z : Int × Int) : Bool := decide (madeAt p all z ≠ cellI all z)
def wrongL (p : Int) (all : List (List (List UInt8))) : List (Int × Int) := (flatC p (spanL (p - 1) (p + 1))).filter (wrongB p all)
theorem wrongL_len {p : Int} (hp : p ∈ prm) (all : List (List (List UInt8))) : (wrongL p all).length ≤ 500 := by
  have hpp := prm_bounds hp
  unfold wrongL
  refine Nat.le_trans (List.length_filter_le _ _) ?_
  have h := grid_flat (p - 1) (p + 1) p
  rw [← h, show (p + 1 - (p - 1)).toNat = 2 by omega]
  exact grid_len (p - 1) (p - 1).toNat 2 0 (by omega) (by omega) (by omega)
theorem grid_upto (c : Int) (R j n : Nat) (hn : n ≤ R) : Go.Proofs.YtggdlklkjnbbjaaGreatDoor.grid c R j n <+: Go.Proofs.YtggdlklkjnbbjaaGreatDoor.grid c R (j + 1) 0 := by
  rw [grid_row]
  unfold Go.Proofs.YtggdlklkjnbbjaaGreatDoor.grid
  refine (List.prefix_append_right_inj _).2 (List.IsPrefix.map _ ?_)
  rw [show List.range n = (List.range R).take n by rw [List.take_range, Nat.min_eq_left hn]]
  exact List.take_prefix _ _
theorem grid_upto2 (c : Int) (R j n : Nat) (hj : j < 2) (hn : n ≤ R) : Go.Proofs.YtggdlklkjnbbjaaGreatDoor.grid c R j n <+: Go.Proofs.YtggdlklkjnbbjaaGreatDoor.grid c R 2 0 := by
  obtain rfl | rfl : j = 0 ∨ j = 1 := by omega
  · exact (grid_upto c R 0 n hn).trans (grid_upto c R 1 0 (by omega))
  · exact grid_upto c R 1 n hn
theorem grid2 (p : Int) : Go.Proofs.YtggdlklkjnbbjaaGreatDoor.grid (p - 1) (p - 1).toNat 2 0 = flatC p (spanL (p - 1) (p + 1)) := by
  have h := grid_flat (p - 1) (p + 1) p
  rwa [show (p + 1 - (p - 1)).toNat = 2 by omega] at h
theorem filter_no {c : Int} {R j n : Nat} {q : Int × Int → Bool} (h : q (c + (j : Int), (n : Int)) = false) : (Go.Proofs.YtggdlklkjnbbjaaGreatDoor.grid c R j (n + 1)).filter q = (Go.Proofs.YtggdlklkjnbbjaaGreatDoor.grid c R j n).filter q := by rw [grid_one, List.filter_append, List.filter_cons_of_neg (by rw [h]; decide)]; simp
theorem filter_yes {c : Int} {R j n : Nat} {q : Int × Int → Bool} (h : q (c + (j : Int), (n : Int)) = true) : (Go.Proofs.YtggdlklkjnbbjaaGreatDoor.grid c R j (n + 1)).filter q = (Go.Proofs.YtggdlklkjnbbjaaGreatDoor.grid c R j n).filter q ++ [(c + (j : Int), (n : Int))] := by rw [grid_one, List.filter_append, List.filter_cons_of_pos h]; rfl
def encA (z : Int × Int) : Array Value := #[.agg #[.int .i64 z.1, .int .i64 z.2]]
set_option maxRecDepth 100000 in
set_option maxHeartbeats 4000000 in
theorem wrong1_in (n : Nat) (hn : 4 ≤ n) (l g B N : Nat) (p : Int) (v : Value) (all : List (List (List UInt8))) (hok : AllR p all) (W : World) (hBN : B ≤ N) (hg : g < N) (hN2 : 2 ≤ N) (hN : N ≤ W.heap.size) (hL : Laid W) (J Jx : List (Int × Int) → Option Nat → World → Prop) (o₀ : Option Nat) (ho₀ : ∀ b, o₀ = some b → b < W.heap.size)
    (hJ : FarO W.heap.size J) (hJx : FarO W.heap.size Jx) (hr1 : ∀ s o X, J s o X → RowO o X) (hr2 : ∀ s o X, Jx s o X → RowO o X)
    (hY : ∀ pre (z : Int × Int) o W1, J pre o W1 → pre.length < 1000 → W.heap.size ≤ W1.heap.size → YieldAt Fence.wide (n - 1) Tryz.prog l (encA z) W1 fun e W' => ∃ o', FreshO o o' W1 ∧ SinceO W.heap.size o W1 W' ∧ ((e = .returned (.bool true) ∧ J (pre ++ [z]) o' W' ∧ Keep 0 N W1 W') ∨ (e = .returned (.bool false) ∧ Jx (pre ++ [z]) o' W' ∧ Keep 0 N W1 W')))
    (hC : Cols B W v all) (bg : Blk W g 85 #[.int .i64 2, .int .i64 p, v]) (h0 : J [] o₀ W) :
    CallsIn Fence.wide n Tryz.prog 120 #[.func (.yield l) #[] #[], .pointer (some ⟨g, 0, none⟩)] W fun e W' => (∃ v, e = .returned v) ∧ ∃ o', FreshO o₀ o' W ∧ ((∃ ys, ys = wrongL p all ∧ J ys o' W') ∨ (∃ pre, pre <+: wrongL p all ∧ Jx pre o' W')) := by
  have hpp := prm_bounds hok.1.1
  have hp : p ∈ prm := hok.1.1
  have hal := hok.2
  have hgr := togOk_grid hok.1.2
  have hf1 := togOk_first hok.1.2
  have hro := roles_any
  unfold rolesV at hro
  have hix0 : ∀ W : World, (Instr.index 117 (.agg #[.func (.func 142) #[] #[], .func (.func 143) #[] #[]]) (.int .i64 0)).run Tryz.prog W = .ok (.func (.func 142) #[] #[]) W := fun W => by kernel_rfl
  have hix1 : ∀ W : World, (Instr.index 117 (.agg #[.func (.func 142) #[] #[], .func (.func 143) #[] #[]]) (.int .i64 1)).run Tryz.prog W = .ok (.func (.func 143) #[] #[]) W := fun W => by kernel_rfl
  have hen1 := enter_rows
  have hen2 := enter_diagonals
  obtain ⟨R, hRR⟩ : ∃ R : Nat, p - 1 = (R : Int) := ⟨(p - 1).toNat, by omega⟩
  have hRt : (p - 1).toNat = R := by omega
  rw [hRt] at hgr
  obtain ⟨A, cap, rfl, _, _⟩ := id hC
  obtain ⟨nl, hnl⟩ : ∃ nl, (firstC all).length = nl := ⟨_, rfl⟩
  rw [hnl] at hgr hf1
  have HCK := Lib.hid (fun (X : World) (hX : Keep 0 N W X) => (hC.keep (fun q hq => World.cell?_of_block (hX.2 q.block (Nat.zero_le _) (by omega))) : Cols B X (.slice A all.length cap) all))
  have HLK := Lib.hid (fun (X : World) (hX : Keep 0 N W X) => laid_keep hL hX hN2)
  have HGK := Lib.hid (fun (X : World) (hX : Keep 0 N W X) => (hX.blk bg (Nat.zero_le _) (by omega) : Blk X g 85 _))
  have HR0 := Lib.hid (fun (X : World) (hX : Keep 0 N W X) => rows_any (B := B) p hp (.slice A all.length cap) all nl X (HLK.out X hX) (by have := hX.1; omega) (HCK.out X hX) (by omega) (by rw [hRt]; exact hgr) (by omega))
  have HR1 := Lib.hid (fun (X : World) (hX : Keep 0 N W X) => diagonals_any (B := B) p hp (.slice A all.length cap) all nl X (HLK.out X hX) (by have := hX.1; omega) (HCK.out X hX) (by omega) (by rw [hRt]; exact hgr) (by omega))
  have HRA := Lib.hid (fun (X : World) => rowsAt_any p (by omega) A all.length cap X)
  have HCE := Lib.hid (fun (c r : Nat) (hc : c < all.length) (hr : r < R) (X : World) (hX : Keep 0 N W X) => cell_any (B := B) p (.slice A all.length cap) all R nl c r X (by have := hX.1; omega) (HCK.out X hX) hgr hc hr)
  have HEND : Hid ((Go.Proofs.YtggdlklkjnbbjaaGreatDoor.grid (p - 1) R 2 0).filter (wrongB p all) = wrongL p all) := by unfold Hid wrongL; rw [← hRt, grid2]
  have hRt2 := hRt
  have hnl2 := hnl
  clear hnl hgr hC bg
  generalize wrongL p all = wl at *
  refine callsIn_of_wp_marks Tryz.func120 rfl trivial ?_ rfl
  simp only [Tryz.ntmps120, List.size_toArray, List.length_cons, List.length_nil, Nat.reduceAdd, Nat.reduceSub, Array.replicate_succ, Array.replicate_zero, List.push_toArray, List.append_toArray, List.nil_append, List.cons_append]
  refine wpIn_scope_wide ?_
  gi_wp2_with fail
  refine wpIn_label ?_
  gi_wp2_with fail
  refine ⟨trivial, fun _ => by omega, (callsIn_wide.2 (hro _)).mono ?_⟩
  rintro e w1 ⟨rfl, hB1⟩
  have hK1 : Keep 0 N W w1 := Keep.below hB1 (by omega)
  have hJ1 := hJ.below h0 hB1
  have HQ0 : Hid (∀ r : Nat, r < R → wrongB p all (p - 1 + ((0 : Nat) : Int), (r : Int)) = decide ((colL 2 p nl all (p - 1))[r]?.getD [] ≠ cellI all ((R : Int), (r : Int)))) := fun r hr => by
    unfold wrongB madeAt
    rw [colL_at 2 p nl all (p - 1) (by omega), hnl2, show p - 1 + ((0 : Nat) : Int) = p - 1 by omega, hRR]
  have HQ1 : Hid (∀ r : Nat, r < R → wrongB p all (p - 1 + ((1 : Nat) : Int), (r : Int)) = decide ((colL 2 p nl all p)[r]?.getD [] ≠ cellI all ((R : Int) + 1, (r : Int)))) := fun r hr => by
    unfold wrongB madeAt
    rw [colL_at 2 p nl all p (by omega), hnl2, show p - 1 + ((1 : Nat) : Int) = p by omega, show (R : Int) + 1 = p by omega]
  have HL0 : Hid ((colL 2 p nl all (p - 1)).length = R) := by unfold Hid; rw [colL_len, hRt2]
  have HL1 : Hid ((colL 2 p nl all p).length = R) := by unfold Hid; rw [colL_len, hRt2]
  have HC0 := Lib.hid (fun (r : Nat) (hr : r < R) (X : World) (hX : Keep 0 N W X) => HCE.out R r (by omega) hr X hX)
  have HC1 := Lib.hid (fun (r : Nat) (hr : r < R) (X : World) (hX : Keep 0 N W X) => HCE.out (R + 1) r (by omega) hr X hX)
  rw [show ((R + 1 : Nat) : Int) = (R : Int) + 1 by omega] at HC1
  have HP0 : Hid (p - 1 + ((0 : Nat) : Int) = (R : Int)) := by unfold Hid; omega
  have HP1 : Hid (p - 1 + ((1 : Nat) : Int) = (R : Int) + 1) := by unfold Hid; omega
  rw [hRR] at HRA
  have hR16 : R ≤ 16 := by omega
  generalize wrongB p all = q at *
  generalize colL 2 p nl all (p - 1) = made0 at *
  generalize colL 2 p nl all p = made1 at *
  generalize all.length = M at *
  clear hro HCE HCK HLK hnl2 hal hf1 hok hpp hRt hRt2 hL
  gi_wp2_with fail
  gi_loopw [10] (fun i wr => ∃ t : Nat, t ≤ 2 ∧ i = .int .i64 t ∧ Hid (∃ o, J ((Go.Proofs.YtggdlklkjnbbjaaGreatDoor.grid (p - 1) R t 0).filter q) o wr ∧ FreshO o₀ o W) ∧ Keep 0 N W wr) (fun i _ => 2 - (intOf i).toNat)
  case atStart => exact ⟨0, by omega, rfl, Lib.hid ⟨o₀, hJ1, .inl rfl⟩, hK1⟩
  case round =>
    clear hJ1 hK1 hB1
    obtain ⟨t, ht, rfl, HJ, hK⟩ := hrel
    have hcg := HGK.out _ hK
    have g0 := hcg.cell 0; have g1 := hcg.cell 1; have g2 := hcg.cell 2; simp only [List.getElem?_toArray, List.getElem?_cons_zero, List.getElem?_cons_succ] at g0 g1 g2
    rcases t with _ | _ | t
    · have hdec : decide (((0 : Nat) : Int) < 2) = true := by decide
      obtain ⟨o, hj, hfo⟩ := HJ.out
      have hol := (hr1 _ _ _ hj).lt
      have HJ0 := Lib.hid hj
      have hKs := hK.1
      gi_wp2_with fail
      refine ⟨trivial, fun _ => by omega, (callsIn_wide.2 (HRA.out _)).mono ?_⟩
      rintro e v1 ⟨rfl, hX1⟩
      have hKa : Keep 0 N W v1 := hK.trans (Keep.below hX1 (by omega))
      have hcg1 := HGK.out _ hKa
      clear g0 g1 g2
      have g0 := hcg1.cell 0; have g1 := hcg1.cell 1; have g2 := hcg1.cell 2; simp only [List.getElem?_toArray, List.getElem?_cons_zero, List.getElem?_cons_succ] at g0 g1 g2
      gi_wp2_with fail
      refine ⟨trivial, fun _ => by omega, (callsIn_wide.2 (HR0.out _ hKa)).mono ?_⟩
      rintro e v2 ⟨u, rfl, hu, hX2⟩
      obtain ⟨Au, cu, hue, _, _⟩ := id hu
      rw [HL0.out] at hue
      subst hue
      have hX12 := below_in hX1 hX2
      have hKb : Keep 0 N W v2 := hK.trans (Keep.below hX12 (by omega))
      have hs1 := hX1.size
      have hs2 := hX2.size
      have hJb := hJ.below hj hX12
      clear g0 g1 g2 hcg1 hcg
      gi_wp2_with fail
      gi_loopw [22] (fun i wz => ∃ r : Nat, r ≤ R ∧ i = .int .i64 r ∧ Hid (∃ o, J ((Go.Proofs.YtggdlklkjnbbjaaGreatDoor.grid (p - 1) R 0 r).filter q) o wz ∧ FreshO o₀ o W ∧ ∀ b, v1.heap.size ≤ b → b < v2.heap.size → some b ≠ o) ∧ Hid (manyR.R (fun b => v1.heap.size ≤ b ∧ b < v2.heap.size) wz (.slice Au R cu) made0) ∧ v2.heap.size ≤ wz.heap.size ∧ Keep 0 N W wz) (fun i _ => R - (intOf i).toNat)
      case atStart => exact ⟨0, by omega, rfl, Lib.hid ⟨o, hJb, hfo, fun b h1 h2 e => by have := hol b e.symm; omega⟩, Lib.hid hu, Nat.le_refl _, hKb⟩
      case round =>
        clear hJb hfo hol HJ0 hj HJ
        obtain ⟨r, hr, rfl, HJ, HM, hzs, hKz⟩ := hrel
        obtain ⟨o, hj, hfo, hbo⟩ := HJ.out
        have HJ2 := Lib.hid hj
        by_cases hlt : r < R
        · have hdec2 : decide ((r : Int) < (R : Int)) = true := by simp; omega
          obtain ⟨A9, c9, e9, hc9, hA9⟩ := HM.out
          injection e9 with e9a e9b e9c
          subst e9a e9c
          clear e9b
          obtain ⟨b2, off2, rfl, hb2, hcell⟩ := hA9 (by rw [HL0.out]; omega)
          obtain ⟨uc, hc2, huc⟩ := hcell r (by rw [HL0.out]; exact hlt)
          obtain ⟨Ac, cc, rfl, _, _⟩ := id huc
          have hcg := HGK.out _ hKz
          have HQR := HQ0.out r hlt
          have HCR := Lib.hid (fun X hX => HC0.out r hlt X hX)
          have i1 : (0 : Int) ≤ (r : Int) := by omega
          have i2 : (r : Int) < (R : Int) := by omega
          generalize made0[r]?.getD [] = mr at *
          generalize cellI all ((R : Int), (r : Int)) = cr at *
          have hBx := below_one wr (.cells #[.int .i64 ((R : Int)), .int .i64 (r : Int)] 56)
          have hKx : Keep 0 N W (wr.alloc (.cells #[.int .i64 ((R : Int)), .int .i64 (r : Int)] 56)) := hKz.trans (Keep.below hBx (by omega))
          have hcx := HGK.out _ hKx
          have g0 := hcx.cell 0; have g1 := hcx.cell 1; have g2 := hcx.cell 2; simp only [List.getElem?_toArray, List.getElem?_cons_zero, List.getElem?_cons_succ] at g0 g1 g2
          have bq := Blk.new wr 56 #[.int .i64 ((R : Int)), .int .i64 (r : Int)]
          have q0 := bq.cell 0; have q1 := bq.cell 1; simp only [List.getElem?_toArray, List.getElem?_cons_zero, List.getElem?_cons_succ] at q0 q1
          clear hA9 hcell
          gi_wp2_with fail
          refine ⟨trivial, fun _ => by omega, (callsIn_wide.2 (HCR.out _ hKx)).mono ?_⟩
          rintro e v3 ⟨ux, rfl, hux, hX3⟩
          obtain ⟨Ax, cx, rfl, _, _⟩ := id hux
          have hX03 := below_in hBx hX3
          have hKy : Keep 0 N W v3 := hKz.trans (Keep.below hX03 (by omega))
          have hucb := Rep.below bytesR huc (fun b hb => Nat.lt_of_lt_of_le hb.2 hzs) hX03
          have huc3 : Bytes v3.heap.size v3 (.slice Ac mr.length cc) mr := BytesP.imp hucb (fun b hb => Nat.lt_of_lt_of_le hb.2 (Nat.le_trans hzs hX03.size))
          have hbq3 := bq.below hX3 bq.lt
          clear q0 q1 g0 g1 g2
          have q0 := hbq3.cell 0; have q1 := hbq3.cell 1; simp only [List.getElem?_toArray, List.getElem?_cons_zero, List.getElem?_cons_succ] at q0 q1
          have hj3 := hJ.below hj hX03
          have HEQ := Lib.hid (equal_any _ _ mr cr v3 huc3 hux)
          gi_wp2_with fail
          cases hqz : q (p - 1 + ((0 : Nat) : Int), (r : Int)) with
          | false =>
            have hd : decide (mr = cr) = true := by rw [hqz] at HQR; simpa using HQR.symm
            rw [hd] at HEQ
            refine ⟨trivial, fun _ => by omega, (callsIn_wide.2 HEQ.out).mono ?_⟩
            rintro e v4 ⟨rfl, rfl⟩
            have hnx : (Go.Proofs.YtggdlklkjnbbjaaGreatDoor.grid (p - 1) R 0 (r + 1)).filter q = (Go.Proofs.YtggdlklkjnbbjaaGreatDoor.grid (p - 1) R 0 r).filter q := filter_no hqz
            have HNX := Lib.hid hnx
            clear hnx
            gi_wp2_with fail
            refine ⟨fun f h => (by cases h), ?_⟩
            gi_wp2
            go_roundw
            case rel => exact ⟨r + 1, by omega, by go_num, Lib.hid ⟨o, by rw [HNX.out]; exact hj3, hfo, hbo⟩, Lib.hid (Rep.below manyR HM.out (fun b hb => Nat.lt_of_lt_of_le hb.2 hzs) hX03), Nat.le_trans hzs hX03.size, hKy⟩
            case measure => simp [intOf]; omega
          | true =>
            have hd : decide (mr = cr) = false := by rw [hqz] at HQR; simpa using HQR.symm
            rw [hd] at HEQ
            refine ⟨trivial, fun _ => by omega, (callsIn_wide.2 HEQ.out).mono ?_⟩
            rintro e v4 ⟨rfl, rfl⟩
            have hnx : (Go.Proofs.YtggdlklkjnbbjaaGreatDoor.grid (p - 1) R 0 (r + 1)).filter q = (Go.Proofs.YtggdlklkjnbbjaaGreatDoor.grid (p - 1) R 0 r).filter q ++ [((R : Int), (r : Int))] := (filter_yes hqz).trans (by rw [HP0.out])
            have HNX := Lib.hid hnx
            have HPX : Hid ((Go.Proofs.YtggdlklkjnbbjaaGreatDoor.grid (p - 1) R 0 (r + 1)).filter q <+: wl) := by unfold Hid; rw [← HEND.out]; exact (grid_upto2 (p - 1) R 0 (r + 1) (by omega) (by omega)).filter q
            have hlen5 : ((Go.Proofs.YtggdlklkjnbbjaaGreatDoor.grid (p - 1) R 0 r).filter q).length < 1000 := Nat.lt_of_le_of_lt (Nat.le_trans (List.length_filter_le _ _) (grid_len (p - 1) R 0 r hR16 (by omega) (by omega))) (by omega)
            have HY := hY _ ((R : Int), (r : Int)) o v3 hj3 hlen5 (by have := hKy.1; omega)
            unfold encA at HY
            clear hnx hlen5
            obtain ⟨fn, tmps, asg, bdy, hy, hRr⟩ := HY
            gi_wp2_with fail
            refine ⟨fun _ => by omega, hRr.mono ?_⟩
            rintro e W3 ⟨o', hf3, hS3, (⟨rfl, hJ3, hk3⟩ | ⟨rfl, hJx3, hk3⟩)⟩
            all_goals have hfo' : FreshO o₀ o' W := hfo.trans (by have := hKy.1; omega) hf3
            · have hbo' : ∀ b, v1.heap.size ≤ b → b < v2.heap.size → some b ≠ o' := fun b h1 h2 => hf3.ne (by have := hX03.size; omega) (hbo b h1 h2)
              have HM3 : Hid (manyR.R (fun b => v1.heap.size ≤ b ∧ b < v2.heap.size) W3 (.slice (some ⟨b2, off2, none⟩) R cu) made0) :=
                manyR.keep (Rep.below manyR HM.out (fun b hb => Nat.lt_of_lt_of_le hb.2 hzs) hX03) (fun b hb => hS3.2 b (by omega) (by have := hX03.size; omega) (hbo b hb.1 hb.2))
              have hzs3 : v2.heap.size ≤ W3.heap.size := Nat.le_trans hzs (Nat.le_trans hX03.size hS3.1)
              have hKw := hKy.trans hk3
              gi_wp2
              go_roundw
              case rel => exact ⟨r + 1, by omega, by go_num, Lib.hid ⟨o', by rw [HNX.out]; exact hJ3, hfo', hbo'⟩, HM3, hzs3, hKw⟩
              case measure => simp [intOf]; omega
            · gi_wp2
              rw [Exit.noGoto_normal]
              exact ⟨_, results_none rfl _ _ _, ⟨_, rfl⟩, o', hfo', .inr ⟨(Go.Proofs.YtggdlklkjnbbjaaGreatDoor.grid (p - 1) R 0 (r + 1)).filter q, HPX.out, by rw [HNX.out]; exact hJx3⟩⟩
        · obtain rfl : r = R := by omega
          have hdec2 : decide ((r : Int) < (r : Int)) = false := by simp
          have HGR : Hid (J ((Go.Proofs.YtggdlklkjnbbjaaGreatDoor.grid (p - 1) r (0 + 1) 0).filter q) o wr) := by unfold Hid; rw [grid_row]; exact hj
          gi_wp2
          go_roundw
          case rel => exact ⟨0 + 1, by omega, by go_num, Lib.hid ⟨o, HGR.out, hfo⟩, hKz⟩
          case measure => simp [intOf]
    · have hdec : decide (((1 : Nat) : Int) < 2) = true := by decide
      obtain ⟨o, hj, hfo⟩ := HJ.out
      have hol := (hr1 _ _ _ hj).lt
      have HJ0 := Lib.hid hj
      have hKs := hK.1
      gi_wp2_with fail
      refine ⟨trivial, fun _ => by omega, (callsIn_wide.2 (HRA.out _)).mono ?_⟩
      rintro e v1 ⟨rfl, hX1⟩
      have hKa : Keep 0 N W v1 := hK.trans (Keep.below hX1 (by omega))
      have hcg1 := HGK.out _ hKa
      clear g0 g1 g2
      have g0 := hcg1.cell 0; have g1 := hcg1.cell 1; have g2 := hcg1.cell 2; simp only [List.getElem?_toArray, List.getElem?_cons_zero, List.getElem?_cons_succ] at g0 g1 g2
      gi_wp2_with fail
      refine ⟨trivial, fun _ => by omega, (callsIn_wide.2 (HR1.out _ hKa)).mono ?_⟩
      rintro e v2 ⟨u, rfl, hu, hX2⟩
      obtain ⟨Au, cu, hue, _, _⟩ := id hu
      rw [HL1.out] at hue
      subst hue
      have hX12 := below_in hX1 hX2
      have hKb : Keep 0 N W v2 := hK.trans (Keep.below hX12 (by omega))
      have hs1 := hX1.size
      have hs2 := hX2.size
      have hJb := hJ.below hj hX12
      clear g0 g1 g2 hcg1 hcg
      gi_wp2_with fail
      gi_loopw [22] (fun i wz => ∃ r : Nat, r ≤ R ∧ i = .int .i64 r ∧ Hid (∃ o, J ((Go.Proofs.YtggdlklkjnbbjaaGreatDoor.grid (p - 1) R 1 r).filter q) o wz ∧ FreshO o₀ o W ∧ ∀ b, v1.heap.size ≤ b → b < v2.heap.size → some b ≠ o) ∧ Hid (manyR.R (fun b => v1.heap.size ≤ b ∧ b < v2.heap.size) wz (.slice Au R cu) made1) ∧ v2.heap.size ≤ wz.heap.size ∧ Keep 0 N W wz) (fun i _ => R - (intOf i).toNat)
      case atStart => exact ⟨0, by omega, rfl, Lib.hid ⟨o, hJb, hfo, fun b h1 h2 e => by have := hol b e.symm; omega⟩, Lib.hid hu, Nat.le_refl _, hKb⟩
      case round =>
        clear hJb hfo hol HJ0 hj HJ
        obtain ⟨r, hr, rfl, HJ, HM, hzs, hKz⟩ := hrel
        obtain ⟨o, hj, hfo, hbo⟩ := HJ.out
        have HJ2 := Lib.hid hj
        by_cases hlt : r < R
        · have hdec2 : decide ((r : Int) < (R : Int)) = true := by simp; omega
          obtain ⟨A9, c9, e9, hc9, hA9⟩ := HM.out
          injection e9 with e9a e9b e9c
          subst e9a e9c
          clear e9b
          obtain ⟨b2, off2, rfl, hb2, hcell⟩ := hA9 (by rw [HL1.out]; omega)
          obtain ⟨uc, hc2, huc⟩ := hcell r (by rw [HL1.out]; exact hlt)
          obtain ⟨Ac, cc, rfl, _, _⟩ := id huc
          have hcg := HGK.out _ hKz
          have HQR := HQ1.out r hlt
          have HCR := Lib.hid (fun X hX => HC1.out r hlt X hX)
          have i1 : (0 : Int) ≤ (r : Int) := by omega
          have i2 : (r : Int) < (R : Int) := by omega
          generalize made1[r]?.getD [] = mr at *
          generalize cellI all ((R : Int) + 1, (r : Int)) = cr at *
          have hBx := below_one wr (.cells #[.int .i64 ((R : Int) + 1), .int .i64 (r : Int)] 56)
          have hKx : Keep 0 N W (wr.alloc (.cells #[.int .i64 ((R : Int) + 1), .int .i64 (r : Int)] 56)) := hKz.trans (Keep.below hBx (by omega))
          have hcx := HGK.out _ hKx
          have g0 := hcx.cell 0; have g1 := hcx.cell 1; have g2 := hcx.cell 2; simp only [List.getElem?_toArray, List.getElem?_cons_zero, List.getElem?_cons_succ] at g0 g1 g2
          have bq := Blk.new wr 56 #[.int .i64 ((R : Int) + 1), .int .i64 (r : Int)]
          have q0 := bq.cell 0; have q1 := bq.cell 1; simp only [List.getElem?_toArray, List.getElem?_cons_zero, List.getElem?_cons_succ] at q0 q1
          clear hA9 hcell
          gi_wp2_with fail
          refine ⟨trivial, fun _ => by omega, (callsIn_wide.2 (HCR.out _ hKx)).mono ?_⟩
          rintro e v3 ⟨ux, rfl, hux, hX3⟩
          obtain ⟨Ax, cx, rfl, _, _⟩ := id hux
          have hX03 := below_in hBx hX3
          have hKy : Keep 0 N W v3 := hKz.trans (Keep.below hX03 (by omega))
          have hucb := Rep.below bytesR huc (fun b hb => Nat.lt_of_lt_of_le hb.2 hzs) hX03
          have huc3 : Bytes v3.heap.size v3 (.slice Ac mr.length cc) mr := BytesP.imp hucb (fun b hb => Nat.lt_of_lt_of_le hb.2 (Nat.le_trans hzs hX03.size))
          have hbq3 := bq.below hX3 bq.lt
          clear q0 q1 g0 g1 g2
          have q0 := hbq3.cell 0; have q1 := hbq3.cell 1; simp only [List.getElem?_toArray, List.getElem?_cons_zero, List.getElem?_cons_succ] at q0 q1
          have hj3 := hJ.below hj hX03
          have HEQ := Lib.hid (equal_any _ _ mr cr v3 huc3 hux)
          gi_wp2_with fail
          cases hqz : q (p - 1 + ((1 : Nat) : Int), (r : Int)) with
          | false =>
            have hd : decide (mr = cr) = true := by rw [hqz] at HQR; simpa using HQR.symm
            rw [hd] at HEQ
            refine ⟨trivial, fun _ => by omega, (callsIn_wide.2 HEQ.out).mono ?_⟩
            rintro e v4 ⟨rfl, rfl⟩
            have hnx : (Go.Proofs.YtggdlklkjnbbjaaGreatDoor.grid (p - 1) R 1 (r + 1)).filter q = (Go.Proofs.YtggdlklkjnbbjaaGreatDoor.grid (p - 1) R 1 r).filter q := filter_no hqz
            have HNX := Lib.hid hnx
            clear hnx
            gi_wp2_with fail
            refine ⟨fun f h => (by cases h), ?_⟩
            gi_wp2
            go_roundw
            case rel => exact ⟨r + 1, by omega, by go_num, Lib.hid ⟨o, by rw [HNX.out]; exact hj3, hfo, hbo⟩, Lib.hid (Rep.below manyR HM.out (fun b hb => Nat.lt_of_lt_of_le hb.2 hzs) hX03), Nat.le_trans hzs hX03.size, hKy⟩
            case measure => simp [intOf]; omega
          | true =>
            have hd : decide (mr = cr) = false := by rw [hqz] at HQR; simpa using HQR.symm
            rw [hd] at HEQ
            refine ⟨trivial, fun _ => by omega, (callsIn_wide.2 HEQ.out).mono ?_⟩
            rintro e v4 ⟨rfl, rfl⟩
            have hnx : (Go.Proofs.YtggdlklkjnbbjaaGreatDoor.grid (p - 1) R 1 (r + 1)).filter q = (Go.Proofs.YtggdlklkjnbbjaaGreatDoor.grid (p - 1) R 1 r).filter q ++ [((R : Int) + 1, (r : Int))] := (filter_yes hqz).trans (by rw [HP1.out])
            have HNX := Lib.hid hnx
            have HPX : Hid ((Go.Proofs.YtggdlklkjnbbjaaGreatDoor.grid (p - 1) R 1 (r + 1)).filter q <+: wl) := by unfold Hid; rw [← HEND.out]; exact (grid_upto2 (p - 1) R 1 (r + 1) (by omega) (by omega)).filter q
            have hlen5 : ((Go.Proofs.YtggdlklkjnbbjaaGreatDoor.grid (p - 1) R 1 r).filter q).length < 1000 := Nat.lt_of_le_of_lt (Nat.le_trans (List.length_filter_le _ _) (grid_len (p - 1) R 1 r hR16 (by omega) (by omega))) (by omega)
            have HY := hY _ ((R : Int) + 1, (r : Int)) o v3 hj3 hlen5 (by have := hKy.1; omega)
            unfold encA at HY
            clear hnx hlen5
            obtain ⟨fn, tmps, asg, bdy, hy, hRr⟩ := HY
            gi_wp2_with fail
            refine ⟨fun _ => by omega, hRr.mono ?_⟩
            rintro e W3 ⟨o', hf3, hS3, (⟨rfl, hJ3, hk3⟩ | ⟨rfl, hJx3, hk3⟩)⟩
            all_goals have hfo' : FreshO o₀ o' W := hfo.trans (by have := hKy.1; omega) hf3
            · have hbo' : ∀ b, v1.heap.size ≤ b → b < v2.heap.size → some b ≠ o' := fun b h1 h2 => hf3.ne (by have := hX03.size; omega) (hbo b h1 h2)
              have HM3 : Hid (manyR.R (fun b => v1.heap.size ≤ b ∧ b < v2.heap.size) W3 (.slice (some ⟨b2, off2, none⟩) R cu) made1) :=
                manyR.keep (Rep.below manyR HM.out (fun b hb => Nat.lt_of_lt_of_le hb.2 hzs) hX03) (fun b hb => hS3.2 b (by omega) (by have := hX03.size; omega) (hbo b hb.1 hb.2))
              have hzs3 : v2.heap.size ≤ W3.heap.size := Nat.le_trans hzs (Nat.le_trans hX03.size hS3.1)
              have hKw := hKy.trans hk3
              gi_wp2
              go_roundw
              case rel => exact ⟨r + 1, by omega, by go_num, Lib.hid ⟨o', by rw [HNX.out]; exact hJ3, hfo', hbo'⟩, HM3, hzs3, hKw⟩
              case measure => simp [intOf]; omega
            · gi_wp2
              rw [Exit.noGoto_normal]
              exact ⟨_, results_none rfl _ _ _, ⟨_, rfl⟩, o', hfo', .inr ⟨(Go.Proofs.YtggdlklkjnbbjaaGreatDoor.grid (p - 1) R 1 (r + 1)).filter q, HPX.out, by rw [HNX.out]; exact hJx3⟩⟩
        · obtain rfl : r = R := by omega
          have hdec2 : decide ((r : Int) < (r : Int)) = false := by simp
          have HGR : Hid (J ((Go.Proofs.YtggdlklkjnbbjaaGreatDoor.grid (p - 1) r (1 + 1) 0).filter q) o wr) := by unfold Hid; rw [grid_row]; exact hj
          gi_wp2
          go_roundw
          case rel => exact ⟨1 + 1, by omega, by go_num, Lib.hid ⟨o, HGR.out, hfo⟩, hKz⟩
          case measure => simp [intOf]
    · obtain rfl : t = 0 := by omega
      have hdec : decide (((0 + 1 + 1 : Nat) : Int) < 2) = false := by decide
      obtain ⟨o, hj, hfo⟩ := HJ.out
      have HJE : Hid (J wl o wr) := by rw [← HEND.out]; exact hj
      gi_wp2
      rw [Exit.noGoto_normal]
      exact ⟨_, results_none rfl _ _ _, ⟨_, rfl⟩, o, hfo, .inl ⟨_, rfl, HJE.out⟩⟩
end Go.Proofs.YtggdlklkjnbbjaaGreatDoor.R

namespace Go.Proofs.YtggdlklkjnbbjaaGreatDoor.R
open Go.RowKit Go.Shelf Go.Proofs.YtggdlklkjnbbjaaGreatDoor.C Go.Proofs.YtggdlklkjnbbjaaGreatDoor.E
set_option linter.unusedSimpArgs false
set_option linter.unusedVariables false
attribute [local go_sem] Oper.semAt_some

theorem wpListIn_atR {F : Fence} {nF : Nat} (w : World) {ops : Array Oper} {rest : List Oper} {o : Oper} {a : Act} {Q : Exit → Act → World → Prop} (hgd : o.guard = none) (s x : Operand)
    (ho : o.op = .call { callee := .builtin .append, args := #[s, x], argTypes := #[49, 49] })
    (base : Nat) (v : Value) (l : List (Int × Int)) (hs : a.eval s = v) (hown : OwnA w base v l) (g : Nat) (p1 p2 : Int) (hx : a.eval x = .slice (some ⟨g, 0, none⟩) 1 1) (hu : Blk w g 56 #[.int .i64 p1, .int .i64 p2])
    (hlen : l.length ≤ 1000000000) (hbase : base ≤ w.heap.size)
    (h : ∀ v' w', OwnA w' base v' (l ++ [(p1, p2)]) → w.grownBy w' v.ownBlock → (v'.ownBlock = v.ownBlock ∨ v'.ownBlock = some w.heap.size) → wpListIn F nF Tryz.prog ops Q rest (a.put o.dst v') w') : wpListIn F nF Tryz.prog ops Q (o :: rest) a w := by
  obtain ⟨i, hi, hz0, hz1, hz2⟩ := info_parts Tryz.infoAt
  refine wpListIn_append_own_at w hgd s x 49 ho base 56 i (.agg #[.int .i64 0, .int .i64 0]) 2 16 Tryz.underlying49 hi hz0 hz1 hz2 rfl (by omega) v l.length (codeCells l) hs hown ⟨g, 0, none⟩ 1 1 [.int .i64 p1, .int .i64 p2] hx rfl
    (by intro j y hy
        rw [addr_add, Nat.zero_add, hu.cell j, List.getElem?_toArray]
        exact hy)
    (by intro y hy; simp only [List.mem_cons, List.not_mem_nil, or_false] at hy; rcases hy with rfl | rfl <;> rfl) (by unfold maxLen; omega) (by omega) hbase ?_
  intro v' w' h1 h2 h4 h3
  refine h v' w' ?_ h2 h3
  unfold Go.Proofs.YtggdlklkjnbbjaaGreatDoor.OwnA
  rw [codeCells_one, List.length_append]
  exact h1
theorem _root_.Go.Proofs.YtggdlklkjnbbjaaGreatDoor.OwnA.far {w : World} {base : Nat} {v : Value} {l : List (Int × Int)} (h : OwnA w base v l) {p : Addr} (hp : some p.block ≠ v.ownBlock) (u : Value) : OwnA (w.setCell p u) base v l := by
  refine ⟨h.1, ?_⟩
  rcases h.2 with h1 | ⟨g, cap, cur, e, h2, hg, rest⟩
  · exact .inl h1
  · exact .inr ⟨g, cap, cur, e, h2, (Below.heap_setCell w p u g (fun e2 => hp (by rw [e, ← e2]; rfl))).trans hg, rest⟩
theorem _root_.Go.Proofs.YtggdlklkjnbbjaaGreatDoor.OwnA.kept {w w' : World} {base : Nat} {v : Value} {l : List (Int × Int)} (h : OwnA w base v l) {row : Option Nat} (hg : w.grownBy w' row) (hne : v.ownBlock = none ∨ v.ownBlock ≠ row) : OwnA w' base v l := World.ownsRow.kept h hg hne
theorem _root_.Go.Proofs.YtggdlklkjnbbjaaGreatDoor.OwnA.blks {w w' : World} {base : Nat} {v : Value} {l : List (Int × Int)} (h : OwnA w base v l) (hk : ∀ g t cs, Blk w g t cs → Blk w' g t cs) : OwnA w' base v l :=
  ⟨h.1, h.2.imp id fun ⟨g, cap, cur, e, h2, hg, rest⟩ => ⟨g, cap, cur, e, h2, hk _ _ _ hg, rest⟩⟩
theorem _root_.Go.Proofs.YtggdlklkjnbbjaaGreatDoor.OwnA.rowO {w : World} {base : Nat} {v : Value} {l : List (Int × Int)} (h : OwnA w base v l) : RowO v.ownBlock w := fun b e => by
  rcases h.2 with ⟨rfl, _⟩ | ⟨g, cap, cur, rfl, _, hg, _⟩
  · cases e
  · injection e with e
    subst e
    exact ⟨_, _, _, hg⟩
set_option maxRecDepth 100000 in
set_option maxHeartbeats 4000000 in
theorem appendSeqA_any (us : List (Int × Int)) (N : Nat) (hN : N ≤ 1000) (gf : Nat) (lb : Array Value) (w0 W : World) (hB0 : Below w0.heap.size w0 W) (eg : ∀ args w, (callFunc gf args).run Tryz.prog w = .ok (.enter gf args) w)
    (Ok : Int × Int → World → Prop) (hseq : ∀ n, 4 ≤ n → SeqQ Fence.wide n Tryz.prog gf lb encA Ok (Keep 0 w0.heap.size) (fun ys => ys = us) (fun pre => pre <+: us) N w0) :
    Calls Tryz.prog 119 #[.slice none 0 0, .func (.func gf) #[] lb] W fun e w' => ∃ u, e = .returned u ∧ OwnA w' W.heap.size u us ∧ Below W.heap.size W w' := by
  obtain ⟨w7, hw7⟩ : ∃ w7, W.alloc (.cells #[.slice none 0 0] 49) = w7 := ⟨_, rfl⟩
  have b1 : Blk w7 W.heap.size 49 #[.slice none 0 0] := by rw [← hw7]; exact Blk.new W _ _
  have hB : Below W.heap.size W w7 := by rw [← hw7]; exact below_one W _
  have s7 : w7.heap.size = W.heap.size + 1 := by rw [← hw7]; simp
  have hs0 := hB0.size
  refine (callsIn_wide (n := 9)).1 ?_
  refine callsIn_of_wp_marks Tryz.func119 rfl trivial ?_ rfl
  simp only [Tryz.ntmps119, List.size_toArray, List.length_cons, List.length_nil, Nat.reduceAdd, Nat.reduceSub, Array.replicate_succ, Array.replicate_zero, List.push_toArray, List.append_toArray, List.nil_append, List.cons_append]
  gi_wp2_with fail
  clear hw7
  have HFI : Hid (FarO w7.heap.size (fun (pre : List (Int × Int)) (o : Option Nat) X => ∃ v, Blk X W.heap.size 49 #[v] ∧ OwnA X (W.heap.size + 1) v pre ∧ v.ownBlock = o ∧ Below W.heap.size W X)) := by
    rintro s o X Y row ⟨v, hb1, ho, rfl, hBX⟩ hgr hr
    have hne : ∀ g, g < w7.heap.size → some g ≠ row := fun g hg e => by have := (hr g e.symm).1; omega
    refine ⟨v, hb1.grown hgr (hne _ (by omega)), ho.kept hgr ?_, rfl, hBX.grown hgr hBX.size (fun r e => by have := (hr r e).1; omega)⟩
    cases hrow : row with
    | none => exact (Option.eq_none_or_eq_some v.ownBlock).imp id (fun ⟨x, hx⟩ => by rw [hx]; simp)
    | some r => exact .inr (fun e => (hr r hrow).2 e.symm)
  refine wpIn_rangeQ rfl (by omega) (gf := gf) (lb := lb) rfl trivial eg (hseq _ (by omega)) (fun h h' => h.trans h') (fun V l ob hl _ hlp => Keep.putFar V (by omega) ob) (below_in hB0 hB) (fun _ => rfl)
    (fun pre o X => ∃ v, Blk X W.heap.size 49 #[v] ∧ OwnA X (W.heap.size + 1) v pre ∧ v.ownBlock = o ∧ Below W.heap.size W X)
    (fun _ _ _ _ => False) ?hI (fun c s o X Y row hs _ _ => hs) none (fun b e => by cases e) ⟨_, b1, ownA_nil _ _, rfl, hB⟩
    (fun z o a' X => ∃ gx, a' = { tmps := #[.slice none 0 0, .func (.func gf) #[] lb, .pointer (some ⟨W.heap.size, 0, none⟩), undef, .slice none 0 0, .pointer (some ⟨gx, 0, none⟩), .func (.func gf) #[] lb, .agg #[.int .i64 z.1, .int .i64 z.2], undef, undef, undef, undef, undef], defers := [] } ∧ Blk X gx 56 #[.int .i64 z.1, .int .i64 z.2])
    (fun z o a' X l ob r hl h => by obtain ⟨gx, e, hb⟩ := h; exact ⟨gx, e, (World.putObj_heap_other (fun e2 => by subst e2; rw [show X.heap[gx]? = _ from hb] at hl; cases hl)).trans hb⟩)
    ?assign (fun pre o X h => by obtain ⟨v, _, ho, rfl, _⟩ := h; exact ho.rowO) (fun c pre o X h => h.elim) ?body ?done (fun D c pre o X _ _ _ h => h.elim)
  case hI => exact HFI.out
  case assign =>
    intro l' pre z o X K hsz ho hI2 hok hK
    have hlay := below_one X (.cells #[.int .i64 z.1, .int .i64 z.2] 56)
    have hbz := Blk.new X 56 #[.int .i64 z.1, .int .i64 z.2]
    unfold encA
    gi_wp2_with fail
    exact hK _ _ (SinceO.below hlay) (Keep.below hlay (by omega)) (HFI.out.lay hI2 _) ⟨_, rfl, hbz⟩
  case body =>
    rintro l' pre z o a' X hsz ⟨v, hb1, ho, rfl, hBX⟩ ⟨gx, rfl, hbg⟩ hlen
    obtain ⟨zx, zy⟩ := z
    have c1 := hb1.one
    have k0 := hbg.cell 0
    have k1 := hbg.cell 1
    simp only [List.getElem?_toArray, List.getElem?_cons_zero, List.getElem?_cons_succ] at k0 k1
    have hol := ho.rowO.lt
    have hBb := below_one X (.cells #[.int .i64 zx, .int .i64 zy] 56)
    have HO := Lib.hid (ho.below hBb)
    have HU := Lib.hid (Blk.new X 56 #[.int .i64 zx, .int .i64 zy])
    have hb1b := hb1.below hBb hb1.lt
    have hn1 : some W.heap.size ≠ v.ownBlock := fun e => by have := ho.own_le _ e.symm; omega
    have hva := ho.own_le
    have hsb := hBb.size
    have hsX := hBX.size
    gi_wp2_with (gi_at_builtin; refine wpListIn_atR _ rfl _ _ rfl (W.heap.size + 1) v _ rfl HO.out X.heap.size zx zy rfl HU.out (by omega) (by simp; omega) ?_; intro v2 w3 ho2 hg2 hd2; (have hfm := World.ownsRow.form ho2 (by simp)); (obtain ⟨g2, cap2, hv2, _, _⟩ := hfm); (generalize (pre ++ [(zx, zy)]).length = N2 at hv2); subst hv2; have hb3 := hb1b.grown hg2 hn1; have c3 := hb3.one; have f3 := hb3.frozen 0)
    have hs3 := hg2.size
    have hn2 : some W.heap.size ≠ (Value.slice (some ⟨g2, 0, none⟩) N2 cap2).ownBlock := fun e => by have := ho2.own_le _ e.symm; omega
    have hfr : FreshO v.ownBlock (Value.slice (some ⟨g2, 0, none⟩) N2 cap2).ownBlock X := by
      rcases hd2 with h | h
      · exact .inl h
      · exact .inr ⟨_, h, by simp⟩
    have hsi : SinceO w7.heap.size v.ownBlock X (w3.setCell ⟨W.heap.size, 0, none⟩ (Value.slice (some ⟨g2, 0, none⟩) N2 cap2)) :=
      (SinceO.below hBb).trans_ ⟨by simpa using hs3, fun b h1 h2 h3 => (Below.heap_setCell w3 _ (Value.slice (some ⟨g2, 0, none⟩) N2 cap2) b (by simp; omega)).trans (hg2.block b h2 h3)⟩
    have hke : Keep 0 w0.heap.size X (w3.setCell ⟨W.heap.size, 0, none⟩ (Value.slice (some ⟨g2, 0, none⟩) N2 cap2)) :=
      ((Keep.below hBb (by omega)).trans (Keep.grown hg2 (by omega) (fun r e => .inr (by have := hva r e; omega)))).trans (Keep.setFar w3 (by simp; omega) (Value.slice (some ⟨g2, 0, none⟩) N2 cap2))
    have hbe : Below W.heap.size W (w3.setCell ⟨W.heap.size, 0, none⟩ (Value.slice (some ⟨g2, 0, none⟩) N2 cap2)) := ((below_in hBX hBb).grown hg2 (by omega) (fun r e => by have := hva r e; omega)).setCell (by simp) (Value.slice (some ⟨g2, 0, none⟩) N2 cap2)
    exact ⟨(Value.slice (some ⟨g2, 0, none⟩) N2 cap2).ownBlock, hfr, hsi.less (by omega), hke, (Value.slice (some ⟨g2, 0, none⟩) N2 cap2), hb3.set_ 0 (Value.slice (some ⟨g2, 0, none⟩) N2 cap2), OwnA.far ho2 hn2 (Value.slice (some ⟨g2, 0, none⟩) N2 cap2), rfl, hbe⟩
  case done =>
    rintro D xs o X hD hfo rfl ⟨v, hb1, ho, rfl, hBX⟩ hK hne
    have c1 := hb1.one
    gi_wp2
    refine leaves_blks W [D] X ⟨by simp, fun E hE => ?_⟩ hBX (fun W' hB' hk => ?_)
    · obtain rfl := List.mem_singleton.1 hE
      exact ⟨by omega, hK⟩
    · exact ⟨v, by simp [results, Tryz.results119, go_sem], v, rfl, (ho.blks hk).less (by omega), hB'⟩
set_option maxHeartbeats 1000000 in
theorem collectA_any (us : List (Int × Int)) (N : Nat) (hN : N ≤ 1000) (gf : Nat) (lb : Array Value) (w0 W : World) (hB0 : Below w0.heap.size w0 W) (eg : ∀ args w, (callFunc gf args).run Tryz.prog w = .ok (.enter gf args) w)
    (Ok : Int × Int → World → Prop) (hseq : ∀ n, 4 ≤ n → SeqQ Fence.wide n Tryz.prog gf lb encA Ok (Keep 0 w0.heap.size) (fun ys => ys = us) (fun pre => pre <+: us) N w0) :
    Calls Tryz.prog 79 #[.func (.func gf) #[] lb] W fun e w' => ∃ u, e = .returned u ∧ OwnA w' W.heap.size u us ∧ Below W.heap.size W w' := by
  have HA := Lib.hid (appendSeqA_any us N hN gf lb w0 W hB0 eg Ok hseq)
  clear hseq eg
  go_enter Tryz.func79, Tryz.ntmps79
  go_wp2_with (go_at_call 119; refine HA.out.mono ?_; rintro e w1 ⟨u, rfl, ho, hB1⟩)
  go_ret
  exact ⟨_, rfl, ho, hB1⟩
/-- The iterator of wrong cells. -/
theorem wrong_seq {B : Nat} (g : Nat) (p : Int) (v : Value) (all : List (List (List UInt8))) (hok : AllR p all) (w : World) (hB : B ≤ w.heap.size) (hL : Laid w) (hC : Cols B w v all) (bg : Blk w g 85 #[.int .i64 2, .int .i64 p, v]) (n : Nat) (hn : 4 ≤ n) :
    SeqQ Fence.wide n Tryz.prog 120 #[.pointer (some ⟨g, 0, none⟩)] encA (fun _ _ => True) (Keep 0 w.heap.size) (fun ys => ys = wrongL p all) (fun pre => pre <+: wrongL p all) 1000 w := by
  intro l J Jx W o₀ hBW ho₀ hJ hJx hr1 hr2 hY h0
  have hl1 : 2 ≤ w.heap.size := by have h1 := hL.1.lt; have h2 := hL.2.lt; omega
  exact wrong1_in n hn l g B w.heap.size p v all hok W hB bg.lt hl1 hBW.size (hL.next hBW) J Jx o₀ ho₀ hJ hJx hr1 hr2 (fun pre z o W1 hj hlen hsz => hY pre z o W1 hj trivial hlen hsz) (hC.below (hBW.mono hB)) (bg.below hBW bg.lt) h0
theorem enter_wrong1 : ∀ args W, (callFunc 120 args).run Tryz.prog W = .ok (.enter 120 args) W := enters_of Tryz.func120 (by kernel_rfl) rfl
set_option maxHeartbeats 1000000 in
theorem wrong_any (p : Int) (A : Option Addr) (n cap : Nat) (w : World) :
    Calls Tryz.prog 80 #[.agg #[.int .i64 2, .int .i64 p, .slice A n cap]] w fun e w' => e = .returned (.func (.func 120) #[] #[.pointer (some ⟨w.heap.size, 0, none⟩)]) ∧ Blk w' w.heap.size 85 #[.int .i64 2, .int .i64 p, .slice A n cap] ∧ Below w.heap.size w w' := by
  have hmf : ∀ (fn : Fn) (first cap : Array Value) (w : World), (Instr.makeFunc fn first cap).run Tryz.prog w = .ok (.func fn first cap) w := fun _ _ _ _ => rfl
  have b0 := Blk.new w 85 #[.int .i64 2, .int .i64 p, .slice A n cap]
  have hB := below_one w (.cells #[.int .i64 2, .int .i64 p, .slice A n cap] 85)
  go_enter Tryz.func80, Tryz.ntmps80
  go_wp2
  go_ret
  exact ⟨rfl, b0, hB⟩
end Go.Proofs.YtggdlklkjnbbjaaGreatDoor.R

namespace Go.Proofs.YtggdlklkjnbbjaaGreatDoor.R
open Go.RowKit Go.Shelf Go.Proofs.YtggdlklkjnbbjaaGreatDoor.C Go.Proofs.YtggdlklkjnbbjaaGreatDoor.E
set_option linter.unusedSimpArgs false
set_option linter.unusedVariables false
attribute [local go_sem] Oper.semAt_some

set_option maxRecDepth 100000 in
set_option maxHeartbeats 4000000 in
theorem values1_in (n : Nat) (hn : 2 ≤ n) (l g N : Nat) (u : Value) (L : List (Int × Int)) (hLn : L.length ≤ 1000) (W : World) (hg : g < N) (hN : N ≤ W.heap.size) (J Jx : List (Int × Int) → Option Nat → World → Prop) (o₀ : Option Nat)
    (hJ : FarO W.heap.size J)
    (hY : ∀ pre (z : Int × Int) o W1, J pre o W1 → z ∈ L → pre.length < 1000 → W.heap.size ≤ W1.heap.size → YieldAt Fence.wide (n - 1) Tryz.prog l (encA z) W1 fun e W' => ∃ o', FreshO o o' W1 ∧ SinceO W.heap.size o W1 W' ∧ ((e = .returned (.bool true) ∧ J (pre ++ [z]) o' W' ∧ Keep 0 N W1 W') ∨ (e = .returned (.bool false) ∧ Jx (pre ++ [z]) o' W' ∧ Keep 0 N W1 W')))
    (bg : Blk W g 49 #[u]) (hR : ∃ (q : Option Addr) (cap : Nat), u = .slice q L.length cap ∧ ∀ (j : Nat) (hj : j < L.length), ∃ b, q = some ⟨b, 0, none⟩ ∧ b < N ∧ W.cell? ⟨b, j * 2, none⟩ = some (.int .i64 (L[j]).1) ∧ W.cell? ⟨b, j * 2 + 1, none⟩ = some (.int .i64 (L[j]).2)) (h0 : J [] o₀ W) :
    CallsIn Fence.wide n Tryz.prog 124 #[.func (.yield l) #[] #[], .pointer (some ⟨g, 0, none⟩)] W fun e W' => (∃ v, e = .returned v) ∧ ∃ o', FreshO o₀ o' W ∧ ((∃ ys, ys = L ∧ J ys o' W') ∨ (∃ pre, pre <+: L ∧ Jx pre o' W')) := by
  obtain ⟨q, cap, rfl, hRd⟩ := hR
  have HR1 := Lib.hid hRd
  have c0 := bg.one
  obtain ⟨M, hM⟩ : ∃ M, L.length = M := ⟨_, rfl⟩
  have HM := Lib.hid hM
  have HTK : Hid (L.take M = L) := by unfold Hid; rw [← hM, List.take_length]
  have HNX : Hid (∀ j (hj : j < L.length), L.take (j + 1) = L.take j ++ [L[j]]) := fun j hj => List.take_succ_eq_append_getElem hj
  rw [hM] at hLn c0
  rw [hM] at bg
  clear hRd hM
  refine callsIn_of_wp_marks Tryz.func124 rfl trivial ?_ rfl
  simp only [Tryz.ntmps124, List.size_toArray, List.length_cons, List.length_nil, Nat.reduceAdd, Nat.reduceSub, Array.replicate_succ, Array.replicate_zero, List.push_toArray, List.append_toArray, List.nil_append, List.cons_append]
  gi_wp2_with fail
  gi_loopw [7] (fun i wr => ∃ j : Nat, j ≤ M ∧ i = .int .i64 j ∧ Hid (∃ o, J (L.take j) o wr ∧ FreshO o₀ o W) ∧ Keep 0 N W wr) (fun i _ => M - (intOf i).toNat)
  case atStart => exact ⟨0, by omega, rfl, Lib.hid ⟨o₀, h0, .inl rfl⟩, Keep.refl _ _ _⟩
  case round =>
    obtain ⟨j, hj, rfl, HJ, hK⟩ := hrel
    obtain ⟨o, hjj, hfo⟩ := HJ.out
    have HJ2 := Lib.hid hjj
    have hKs := hK.1
    by_cases hlt : j < M
    · have hdec : decide ((j : Int) < (M : Int)) = true := by simp; omega
      have hjs : j < L.length := by rw [HM.out]; exact hlt
      obtain ⟨b, rfl, hb, x0, x1⟩ := HR1.out j hjs
      have hmem : L[j] ∈ L := List.getElem_mem hjs
      have hnx := HNX.out j hjs
      have kx : ∀ a : Addr, a.block < N → wr.cell? a = W.cell? a := fun a ha => World.cell?_of_block (hK.2 a.block (Nat.zero_le _) (by omega))
      replace x0 := (kx ⟨b, j * 2, none⟩ hb).trans x0
      replace x1 := (kx ⟨b, j * 2 + 1, none⟩ hb).trans x1
      clear kx
      generalize L[j] = z at *
      obtain ⟨zx, zy⟩ := z
      have hlay := below_one wr (.cells #[.int .i64 zx, .int .i64 zy] 56)
      have bz := Blk.new wr 56 #[.int .i64 zx, .int .i64 zy]
      have q0 := bz.cell 0; have q1 := bz.cell 1; simp only [List.getElem?_toArray, List.getElem?_cons_zero, List.getElem?_cons_succ] at q0 q1
      have hj3 := hJ.below hjj hlay
      have hlen5 : (L.take j).length < 1000 := by rw [List.length_take]; omega
      have HY := hY _ (zx, zy) o _ hj3 hmem hlen5 (by have := hlay.size; omega)
      unfold encA at HY
      have HNXJ := Lib.hid hnx
      have HPX : Hid (L.take (j + 1) <+: L) := List.take_prefix _ _
      have i1 : (0 : Int) ≤ (j : Int) := by omega
      have i2 : (j : Int) < (M : Int) := by omega
      have hKl : Keep 0 N W (wr.alloc (.cells #[.int .i64 zx, .int .i64 zy] 56)) := hK.trans (Keep.below hlay (by omega))
      clear hnx hlen5 hmem HJ2
      obtain ⟨fn, tmps, asg, bdy, hy, hRr⟩ := HY
      gi_wp2_with fail
      refine ⟨fun _ => by omega, hRr.mono ?_⟩
      rintro e W3 ⟨o', hf3, hS3, (⟨rfl, hJ3, hk3⟩ | ⟨rfl, hJx3, hk3⟩)⟩
      all_goals have hfo' : FreshO o₀ o' W := hfo.trans (by have := hlay.size; omega) hf3
      · have hKw := hKl.trans hk3
        gi_wp2
        go_roundw
        case rel => exact ⟨j + 1, by omega, by go_num, Lib.hid ⟨o', by rw [HNXJ.out]; exact hJ3, hfo'⟩, hKw⟩
        case measure => simp [intOf]; omega
      · gi_wp2
        exact ⟨_, results_none rfl _ _ _, ⟨_, rfl⟩, o', hfo', .inr ⟨L.take (j + 1), HPX.out, by rw [HNXJ.out]; exact hJx3⟩⟩
    · obtain rfl : j = M := by omega
      have hdec : decide ((j : Int) < (j : Int)) = false := by simp
      have HJE : Hid (J L o wr) := by have h := HJ2.out; rw [HTK.out] at h; exact h
      gi_wp2
      exact ⟨_, results_none rfl _ _ _, ⟨_, rfl⟩, o, hfo, .inl ⟨_, rfl, HJE.out⟩⟩
theorem enter_values1 : ∀ args W, (callFunc 124 args).run Tryz.prog W = .ok (.enter 124 args) W := enters_of Tryz.func124 (by kernel_rfl) rfl
set_option maxHeartbeats 1000000 in
theorem values_any (A : Option Addr) (n cap : Nat) (w : World) :
    Calls Tryz.prog 81 #[.slice A n cap] w fun e w' => e = .returned (.func (.func 124) #[] #[.pointer (some ⟨w.heap.size, 0, none⟩)]) ∧ Blk w' w.heap.size 49 #[.slice A n cap] ∧ Below w.heap.size w w' := by
  have hmf : ∀ (fn : Fn) (first cap : Array Value) (w : World), (Instr.makeFunc fn first cap).run Tryz.prog w = .ok (.func fn first cap) w := fun _ _ _ _ => rfl
  have b0 := Blk.new w 49 #[.slice A n cap]
  have hB := below_one w (.cells #[.slice A n cap] 49)
  go_enter Tryz.func81, Tryz.ntmps81
  go_wp2
  go_ret
  exact ⟨rfl, b0, hB⟩
set_option maxRecDepth 100000 in
set_option maxHeartbeats 2000000 in
theorem areEncoded_any {B : Nat} (p : Int) (v : Value) (all : List (List (List UInt8))) (hok : AllR p all) (w : World) (hL : Laid w) (hB : B ≤ w.heap.size) (hC : Cols B w v all) :
    Calls Tryz.prog 72 #[.agg #[.int .i64 2, .int .i64 p, v]] w fun e w' => e = .returned (.bool (decide (wrongL p all = []))) ∧ Below w.heap.size w w' := by
  obtain ⟨A, cap, rfl, _, _⟩ := id hC
  obtain ⟨W2, hW2⟩ : ∃ W2, (w.alloc (.cells #[.int .i64 2, .int .i64 p, .slice A all.length cap] 85)).alloc (.cells #[.bool false] 4) = W2 := ⟨_, rfl⟩
  have b0 : Blk W2 w.heap.size 85 #[.int .i64 2, .int .i64 p, .slice A all.length cap] := by rw [← hW2]; exact (Blk.new w _ _).alloc _
  have b1 : Blk W2 (w.heap.size + 1) 4 #[.bool false] := by rw [← hW2]; exact Blk.second w _ _ _
  have hB2 : Below w.heap.size w W2 := by rw [← hW2]; exact below_two w _ _
  have s2 : W2.heap.size = w.heap.size + 2 := by rw [← hW2]; simp
  have HW := Lib.hid (wrong_any p A all.length cap W2)
  have HSQ := Lib.hid (fun (V : World) (hV : Below w.heap.size w V) (bg : Blk V W2.heap.size 85 #[.int .i64 2, .int .i64 p, .slice A all.length cap]) (n : Nat) (hn : 4 ≤ n) => wrong_seq (B := B) W2.heap.size p (.slice A all.length cap) all hok V (Nat.le_trans hB hV.size) (hL.next hV) (hC.below (hV.mono hB)) bg n hn)
  have k0 := b0.cell 0; have k1 := b0.cell 1; have k2 := b0.cell 2; simp only [List.getElem?_toArray, List.getElem?_cons_zero, List.getElem?_cons_succ] at k0 k1 k2
  have HS2 := Lib.hid s2
  clear hC hok s2
  generalize wrongL p all = wl at *
  generalize all.length = M at *
  refine (callsIn_wide (n := 9)).1 ?_
  refine callsIn_of_wp_marks Tryz.func72 rfl trivial ?_ rfl
  simp only [Tryz.ntmps72, List.size_toArray, List.length_cons, List.length_nil, Nat.reduceAdd, Nat.reduceSub, Array.replicate_succ, Array.replicate_zero, List.push_toArray, List.append_toArray, List.nil_append, List.cons_append]
  gi_wp2_with fail
  try rw [hW2]
  gi_wp2_with fail
  refine ⟨trivial, (callsIn_wide.2 HW.out).mono ?_⟩
  rintro e w3 ⟨rfl, bw, hB3⟩
  have hBw := below_in hB2 hB3
  have b13 := b1.below hB3 b1.lt
  clear k0 k1 k2 hW2
  gi_wp2_with fail
  have s2 := HS2.out
  have hs3 := hB3.size
  have hKs : ∀ X : World, Blk X (w.heap.size + 1) 4 #[.bool false] → Keep 0 w3.heap.size X (X.setCell ⟨w.heap.size + 1, 0, none⟩ (.bool false)) := fun X hb => ⟨by simp, fun b _ _ => by
    by_cases hbe : b = w.heap.size + 1
    · subst hbe
      exact (show (X.setCell ⟨w.heap.size + 1, 0, none⟩ (.bool false)).heap[w.heap.size + 1]? = _ from hb.set_ 0 (.bool false)).trans hb.symm
    · exact Below.heap_setCell X ⟨w.heap.size + 1, 0, none⟩ (.bool false) b hbe⟩
  have HKS := Lib.hid hKs
  clear hKs
  refine wpIn_rangeQ rfl (by omega) (gf := 120) (lb := #[.pointer (some ⟨W2.heap.size, 0, none⟩)]) rfl trivial enter_wrong1 (HSQ.out w3 hBw bw _ (by omega)) (fun h h' => h.trans h') (fun V l ob hl _ hlp => Keep.putFar V (by omega) ob) (Below.refl _ _) (fun _ => rfl)
    (fun pre o X => pre = [] ∧ o = none ∧ Blk X (w.heap.size + 1) 4 #[.bool false] ∧ Below w.heap.size w X)
    (fun c pre o X => c = .ret ∧ pre ≠ [] ∧ o = none ∧ Blk X (w.heap.size + 1) 4 #[.bool false] ∧ Below w.heap.size w X) ?hI ?hIx none (fun b e => by cases e) ⟨rfl, rfl, b13, hBw⟩
    (fun z o a' X => a' = { tmps := #[.agg #[.int .i64 2, .int .i64 p, .slice A M cap], .pointer (some ⟨w.heap.size, 0, none⟩), .pointer (some ⟨w.heap.size + 1, 0, none⟩), .agg #[.int .i64 2, .int .i64 p, .slice A M cap], .func (.func 120) #[] #[.pointer (some ⟨W2.heap.size, 0, none⟩)], .agg #[.int .i64 z.1, .int .i64 z.2]], defers := [] }) (fun _ _ _ _ _ _ _ _ h => h)
    ?assign (fun pre o X h => by obtain ⟨_, rfl, _⟩ := h; intro b e; cases e) (fun c pre o X h => by obtain ⟨_, _, rfl, _⟩ := h; intro b e; cases e) ?body ?done ?stop
  case hI =>
    rintro s o X Y row ⟨h1, h2, h3, h4⟩ hgr hr
    exact ⟨h1, h2, farO_blkV (by omega) h3 hgr hr, h4.grown hgr h4.size (fun r e => by have := (hr r e).1; have := hBw.size; omega)⟩
  case hIx =>
    rintro c s o X Y row ⟨h0, h1, h2, h3, h4⟩ hgr hr
    exact ⟨h0, h1, h2, farO_blkV (by omega) h3 hgr hr, h4.grown hgr h4.size (fun r e => by have := (hr r e).1; have := hBw.size; omega)⟩
  case assign =>
    intro l' pre z o X K hsz ho hI hok hK
    unfold encA
    gi_wp2
    exact hK _ _ (SinceO.refl _ _ _) (Keep.refl _ _ _) hI (by simp)
  case body =>
    rintro l' pre z o a' X hsz ⟨rfl, rfl, hb1, hBX⟩ rfl hlen
    have c1 := hb1.one
    have f1 := hb1.frozen 0
    have hke := HKS.out X hb1
    have hsi : SinceO w3.heap.size none X (X.setCell ⟨w.heap.size + 1, 0, none⟩ (.bool false)) := ⟨by simp, fun b h1 h2 h3 => Below.heap_setCell X _ (.bool false) b (by simp; omega)⟩
    have hbe : Below w.heap.size w (X.setCell ⟨w.heap.size + 1, 0, none⟩ (.bool false)) := hBX.setCell (by simp) _
    have hb2 := hb1.set_ 0 (.bool false)
    gi_wp2
    exact ⟨none, .inl rfl, hsi, hke, rfl, by simp, rfl, hb2, hbe⟩
  case done =>
    rintro D xs o X hD hfo rfl ⟨hnil, _, hb1, hBX⟩ hK hne
    have c1 := hb1.one
    have f1 := hb1.frozen 0
    have hb2 := hb1.set_ 0 (.bool true)
    have hbe : Below w.heap.size w (X.setCell ⟨w.heap.size + 1, 0, none⟩ (.bool true)) := hBX.setCell (by simp) _
    gi_wp2
    refine leaves_blks w [D] _ ⟨by simp, fun E hE => ?_⟩ hbe (fun W' hB' hk => ?_)
    · obtain rfl := List.mem_singleton.1 hE
      exact ⟨by omega, (Below.heap_setCell X _ (.bool true) E (by simp; omega)).trans hK⟩
    · have r0 := (hk _ _ _ hb2).one
      exact ⟨.bool true, by simp [results, Tryz.results72, go_sem, r0], by rw [hnil]; simp, hB'⟩
  case stop =>
    rintro D c pre o X hD hfo hSp ⟨rfl, hne0, _, hb1, hBX⟩ hK hne
    have hwl : wl ≠ [] := fun e => hne0 (by rw [e] at hSp; exact List.prefix_nil.1 hSp)
    gi_wp2
    refine leaves_blks w [D] X ⟨by simp, fun E hE => ?_⟩ hBX (fun W' hB' hk => ?_)
    · obtain rfl := List.mem_singleton.1 hE
      exact ⟨by omega, hK⟩
    · have r0 := (hk _ _ _ hb1).one
      exact ⟨.bool false, by simp [results, Tryz.results72, go_sem, r0], by simp [hwl], hB'⟩
end Go.Proofs.YtggdlklkjnbbjaaGreatDoor.R

namespace Go.Proofs.YtggdlklkjnbbjaaGreatDoor.R
open Go.RowKit Go.Shelf Go.Proofs.YtggdlklkjnbbjaaGreatDoor.C Go.Proofs.YtggdlklkjnbbjaaGreatDoor.E
set_option linter.unusedSimpArgs false
set_option linter.unusedVariables false

theorem enter_check1 : ∀ args W, (callFunc 70 args).run Tryz.prog W = .ok (.enter 70 args) W := enters_of Tryz.func70 (by kernel_rfl) rfl
set_option maxRecDepth 100000 in
set_option maxHeartbeats 1000000 in
theorem check_yes {B : Nat} (p : Int) (v : Value) (css : List (List (List UInt8))) (hok : AllR p css) (w : World) (hL : Laid w) (hB : B ≤ w.heap.size) (hC : Cols B w v css) :
    Calls Tryz.prog 31 #[.int .i64 p, v] w fun e w' => e = .returned (.tuple #[.bool (decide (wrongL p css = [])), .int .i64 0]) ∧ Below w.heap.size w w' := by
  have hpp := prm_bounds hok.1.1
  have hlen : css.length ≤ 1000 := by have := hok.2; omega
  obtain ⟨A, cap, rfl, _, _⟩ := id hC
  obtain ⟨W2, hW2⟩ : ∃ W2, (w.alloc (.cells #[.int .i64 p] 3)).alloc (.cells #[.slice A css.length cap] 22) = W2 := ⟨_, rfl⟩
  have b0 : Blk W2 w.heap.size 3 #[.int .i64 p] := by rw [← hW2]; exact (Blk.new w _ _).alloc _
  have b1 : Blk W2 (w.heap.size + 1) 22 #[.slice A css.length cap] := by rw [← hW2]; exact Blk.second w _ _ _
  have hBW : Below w.heap.size w W2 := by rw [← hW2]; exact below_two w _ _
  have hL2 := hL.next hBW
  have HA := Lib.hid (ans_T_yes 70 #[.pointer (some ⟨w.heap.size, 0, none⟩), .pointer (some ⟨w.heap.size + 1, 0, none⟩)] W2 (fun u W => u = .bool (decide (wrongL p css = []))) (enter_check1 _) (fun U hU _ => by
    have hLU := hL2.next hU
    have hBU := below_in hBW hU
    have hCU := hC.below (hBU.mono hB)
    have HQ := Lib.hid (askedAll_yes (B := B) p (.slice A css.length cap) css U hLU (Nat.le_trans hB hBU.size) hCU hok)
    have HE := Lib.hid (fun (V : World) (hV : Below U.heap.size U V) => areEncoded_any (B := B) p (.slice A css.length cap) css hok V (hLU.next hV) (Nat.le_trans hB (Nat.le_trans hBU.size hV.size)) (hCU.below (hV.mono (Nat.le_trans hB hBU.size))))
    have c0 := (b0.below hU b0.lt).one
    have c1 := (b1.below hU b1.lt).one
    clear hC hCU hok hlen b0 b1 hW2 hL hL2 hLU
    generalize decide (wrongL p css = []) = dd at *
    generalize css.length = n at *
    go_enter Tryz.func70, Tryz.ntmps70
    go_wp2_with (first
      | (go_at_call 71; refine HQ.out.mono ?_; rintro e w1 ⟨rfl, hB1⟩)
      | (go_at_call 72; refine (HE.out _ hB1).mono ?_; rintro e w2 ⟨rfl, hB2⟩))
    go_ret
    exact ⟨_, rfl, rfl, below_in hB1 hB2⟩))
  clear hC b0 b1 hL2 hok hlen
  generalize decide (wrongL p css = []) = dd at *
  generalize css.length = n at *
  go_enter Tryz.func31, Tryz.ntmps31
  have hmf : ∀ (fn : Fn) (first cap : Array Value) (w : World), (Instr.makeFunc fn first cap).run Tryz.prog w = .ok (.func fn first cap) w := fun _ _ _ _ => rfl
  go_wp2_with (go_at_call 69; refine HA.out.mono ?_; rintro e w1 ⟨u, W, rfl, rfl, bE, rfl, hB1⟩)
  go_ret2
  exact ⟨rfl, below_in hBW hB1⟩
set_option maxRecDepth 100000 in
set_option maxHeartbeats 1000000 in
theorem check_no {B : Nat} (p : Int) (v : Value) (css : List (List (List UInt8))) (w : World) (hL : Laid w) (hB : B ≤ w.heap.size) (hC : Cols B w v css) (hlen : css.length ≤ 1000) (hcl : ∀ j, j < css.length → (css[j]?.getD []).length ≤ 1000) (hno : ¬ AllR p css) :
    Calls Tryz.prog 31 #[.int .i64 p, v] w fun e w' => e = .returned (.tuple #[.bool false, .int .i64 2]) ∧ Below w.heap.size w w' := by
  obtain ⟨A, cap, rfl, _, _⟩ := id hC
  obtain ⟨W2, hW2⟩ : ∃ W2, (w.alloc (.cells #[.int .i64 p] 3)).alloc (.cells #[.slice A css.length cap] 22) = W2 := ⟨_, rfl⟩
  have b0 : Blk W2 w.heap.size 3 #[.int .i64 p] := by rw [← hW2]; exact (Blk.new w _ _).alloc _
  have b1 : Blk W2 (w.heap.size + 1) 22 #[.slice A css.length cap] := by rw [← hW2]; exact Blk.second w _ _ _
  have hBW : Below w.heap.size w W2 := by rw [← hW2]; exact below_two w _ _
  have hL2 := hL.next hBW
  have HA := Lib.hid (ans_T_no 70 #[.pointer (some ⟨w.heap.size, 0, none⟩), .pointer (some ⟨w.heap.size + 1, 0, none⟩)] W2 (enter_check1 _) (fun U hU _ => by
    have hBU := below_in hBW hU
    have HQ := Lib.hid (askedAll_no (B := B) p (.slice A css.length cap) css U (hL2.next hU) (Nat.le_trans hB hBU.size) (hC.below (hBU.mono hB)) hlen hcl hno)
    have c0 := (b0.below hU b0.lt).one
    have c1 := (b1.below hU b1.lt).one
    clear hC b0 b1 hW2 hL hL2 hno hcl hlen
    generalize css.length = n at *
    go_enter Tryz.func70, Tryz.ntmps70
    go_wp2_with (go_at_call 71; refine HQ.out.mono ?_; rintro e w1 ⟨rfl, hB1⟩)
    exact ⟨rfl, rfl, hB1⟩))
  clear hC b0 b1 hL2 hno hcl hlen
  generalize css.length = n at *
  go_enter Tryz.func31, Tryz.ntmps31
  have hmf : ∀ (fn : Fn) (first cap : Array Value) (w : World), (Instr.makeFunc fn first cap).run Tryz.prog w = .ok (.func fn first cap) w := fun _ _ _ _ => rfl
  go_wp2_with (go_at_call 69; refine HA.out.mono ?_; rintro e w1 ⟨rfl, hB1⟩)
  go_ret2
  exact ⟨rfl, below_in hBW hB1⟩
/-- What Wrong answers: an iterator over these places. -/
def WrongsC (L : List (Int × Int)) (w : World) (e : Ending) (w' : World) : Prop :=
  ∃ (g : Nat) (u : Value), e = .returned (.func (.func 124) #[] #[.pointer (some ⟨g, 0, none⟩)]) ∧ Blk w' g 49 #[u] ∧ ReadA w' u L ∧ Below w.heap.size w w'
theorem enter_wrongs1 : ∀ args W, (callFunc 78 args).run Tryz.prog W = .ok (.enter 78 args) W := enters_of Tryz.func78 (by kernel_rfl) rfl
theorem ownA_far {w : World} {base : Nat} {v : Value} {l : List (Int × Int)} (h : OwnA w base v l) {p : Addr} (hp : p.block < base) (u : Value) : OwnA (w.setCell p u) base v l := by
  refine OwnA.far h (fun e => ?_) u
  have := OwnA.own_le h _ e.symm
  omega
set_option maxRecDepth 100000 in
set_option maxHeartbeats 1000000 in
theorem wrongs_yes {B : Nat} (p : Int) (v : Value) (css : List (List (List UInt8))) (hok : AllR p css) (w : World) (hL : Laid w) (hB : B ≤ w.heap.size) (hC : Cols B w v css) :
    Calls Tryz.prog 35 #[.int .i64 p, v] w (WrongsC (wrongL p css) w) := by
  obtain ⟨A, cap, rfl, _, _⟩ := id hC
  obtain ⟨W2, hW2⟩ : ∃ W2, (w.alloc (.cells #[.int .i64 p] 3)).alloc (.cells #[.slice A css.length cap] 22) = W2 := ⟨_, rfl⟩
  have b0 : Blk W2 w.heap.size 3 #[.int .i64 p] := by rw [← hW2]; exact (Blk.new w _ _).alloc _
  have b1 : Blk W2 (w.heap.size + 1) 22 #[.slice A css.length cap] := by rw [← hW2]; exact Blk.second w _ _ _
  have hBW : Below w.heap.size w W2 := by rw [← hW2]; exact below_two w _ _
  have hL2 := hL.next hBW
  have HA := Lib.hid (ans_A_yes 78 #[.pointer (some ⟨w.heap.size, 0, none⟩), .pointer (some ⟨w.heap.size + 1, 0, none⟩)] W2 (fun u W => OwnA W (W2.heap.size + 1) u (wrongL p css)) (enter_wrongs1 _) (fun U hU hE => by
    have hLU := hL2.next hU
    have hBU := below_in hBW hU
    have hCU := hC.below (hBU.mono hB)
    have hEl := hE.lt
    have HQ := Lib.hid (askedAll_yes (B := B) p (.slice A css.length cap) css U hLU (Nat.le_trans hB hBU.size) hCU hok)
    have HW := Lib.hid (fun (V : World) => wrong_any p A css.length cap V)
    have HCL := Lib.hid (fun (V V2 : World) (hV : Below U.heap.size U V) (bg : Blk V2 V.heap.size 85 #[.int .i64 2, .int .i64 p, .slice A css.length cap]) (hV2 : Below V.heap.size V V2) => collectA_any (wrongL p css) 1000 (by omega) 120 #[.pointer (some ⟨V.heap.size, 0, none⟩)] V2 V2 (Below.refl _ _) enter_wrong1 (fun _ _ => True)
      (fun n hn => wrong_seq (B := B) V.heap.size p (.slice A css.length cap) css hok V2 (Nat.le_trans hB (Nat.le_trans hBU.size (Nat.le_trans hV.size hV2.size))) (hLU.next (below_in hV hV2)) (hCU.below ((below_in hV hV2).mono (Nat.le_trans hB hBU.size))) bg n hn))
    have c0 := (b0.below hU b0.lt).one
    have c1 := (b1.below hU b1.lt).one
    clear hC hCU hok b0 b1 hW2 hL hL2 hLU
    generalize css.length = n at *
    generalize wrongL p css = wl at *
    go_enter Tryz.func78, Tryz.ntmps78
    go_wp2_with (first
      | (go_at_call 71; refine HQ.out.mono ?_; rintro e w1 ⟨rfl, hB1⟩)
      | (go_at_call 80; refine (HW.out _).mono ?_; rintro e w2 ⟨rfl, bg2, hB2⟩)
      | (go_at_call 79; refine (HCL.out _ _ hB1 bg2 hB2).mono ?_; rintro e w3 ⟨u, rfl, hu, hB3⟩))
    go_ret
    exact ⟨_, rfl, hu.less (by have := hB1.size; have := hB2.size; omega), below_in hB1 (below_in hB2 hB3)⟩))
  clear hC b0 b1 hL2 hok
  generalize css.length = n at *
  generalize wrongL p css = wl at *
  go_enter Tryz.func35, Tryz.ntmps35
  have hmf : ∀ (fn : Fn) (first cap : Array Value) (w : World), (Instr.makeFunc fn first cap).run Tryz.prog w = .ok (.func fn first cap) w := fun _ _ _ _ => rfl
  go_wp2_with (first
    | (go_at_call 77; refine HA.out.mono ?_; rintro e w1 ⟨u, W, rfl, hu, bE, rfl, hB1⟩; (have hu2 := ownA_far (p := ⟨W2.heap.size, 0, none⟩) hu (by simp) (.int .i64 0)); (have hra := hu2.readA); (obtain ⟨q9, c9, hue, _⟩ := id hra); (generalize wl.length = nw at hue); subst hue)
    | (go_at_call 81; refine (values_any _ _ _ _).mono ?_; rintro e w4 ⟨rfl, bg4, hB4⟩))
  rw [show (W.setCell ⟨W2.heap.size, 0, none⟩ (.int .i64 0)).heap.size = W.heap.size by simp] at bg4
  go_ret
  exact ⟨_, _, rfl, bg4, hra.next hB4, below_in hBW (below_in hB1 hB4)⟩
set_option maxRecDepth 100000 in
set_option maxHeartbeats 1000000 in
theorem wrongs_no {B : Nat} (p : Int) (v : Value) (css : List (List (List UInt8))) (w : World) (hL : Laid w) (hB : B ≤ w.heap.size) (hC : Cols B w v css) (hlen : css.length ≤ 1000) (hcl : ∀ j, j < css.length → (css[j]?.getD []).length ≤ 1000) (hno : ¬ AllR p css) :
    Calls Tryz.prog 35 #[.int .i64 p, v] w (WrongsC [] w) := by
  obtain ⟨A, cap, rfl, _, _⟩ := id hC
  obtain ⟨W2, hW2⟩ : ∃ W2, (w.alloc (.cells #[.int .i64 p] 3)).alloc (.cells #[.slice A css.length cap] 22) = W2 := ⟨_, rfl⟩
  have b0 : Blk W2 w.heap.size 3 #[.int .i64 p] := by rw [← hW2]; exact (Blk.new w _ _).alloc _
  have b1 : Blk W2 (w.heap.size + 1) 22 #[.slice A css.length cap] := by rw [← hW2]; exact Blk.second w _ _ _
  have hBW : Below w.heap.size w W2 := by rw [← hW2]; exact below_two w _ _
  have hL2 := hL.next hBW
  have HA := Lib.hid (ans_A_no 78 #[.pointer (some ⟨w.heap.size, 0, none⟩), .pointer (some ⟨w.heap.size + 1, 0, none⟩)] W2 (enter_wrongs1 _) (fun U hU _ => by
    have hBU := below_in hBW hU
    have HQ := Lib.hid (askedAll_no (B := B) p (.slice A css.length cap) css U (hL2.next hU) (Nat.le_trans hB hBU.size) (hC.below (hBU.mono hB)) hlen hcl hno)
    have c0 := (b0.below hU b0.lt).one
    have c1 := (b1.below hU b1.lt).one
    clear hC b0 b1 hW2 hL hL2 hno hcl hlen
    generalize css.length = n at *
    go_enter Tryz.func78, Tryz.ntmps78
    go_wp2_with (go_at_call 71; refine HQ.out.mono ?_; rintro e w1 ⟨rfl, hB1⟩)
    exact ⟨rfl, rfl, hB1⟩))
  clear hC b0 b1 hL2 hno hcl hlen
  generalize css.length = n at *
  go_enter Tryz.func35, Tryz.ntmps35
  have hmf : ∀ (fn : Fn) (first cap : Array Value) (w : World), (Instr.makeFunc fn first cap).run Tryz.prog w = .ok (.func fn first cap) w := fun _ _ _ _ => rfl
  go_wp2_with (first
    | (go_at_call 77; refine HA.out.mono ?_; rintro e w1 ⟨rfl, hB1⟩)
    | (go_at_call 81; refine (values_any _ _ _ _).mono ?_; rintro e w4 ⟨rfl, bg4, hB4⟩))
  go_ret
  exact ⟨_, _, rfl, bg4, readA_nil _, below_in hBW (below_in hB1 hB4)⟩
end Go.Proofs.YtggdlklkjnbbjaaGreatDoor.R

namespace Go.Proofs.YtggdlklkjnbbjaaGreatDoor.R
open Go.RowKit Go.Shelf Go.Proofs.YtggdlklkjnbbjaaGreatDoor.C Go.Proofs.YtggdlklkjnbbjaaGreatDoor.E
set_option linter.unusedSimpArgs false
set_option linter.unusedVariables false

/-- Blocks where P holds lie as they lay. -/
def KeepP (P : Nat → Prop) (X Y : World) : Prop := X.heap.size ≤ Y.heap.size ∧ ∀ b, P b → Y.heap[b]? = X.heap[b]?
theorem KeepP.refl (P : Nat → Prop) (X : World) : KeepP P X X := ⟨Nat.le_refl _, fun _ _ => rfl⟩
theorem KeepP.trans {P : Nat → Prop} {X Y Z : World} (h : KeepP P X Y) (h' : KeepP P Y Z) : KeepP P X Z := ⟨Nat.le_trans h.1 h'.1, fun b hb => (h'.2 b hb).trans (h.2 b hb)⟩
theorem KeepP.below {P : Nat → Prop} {X Y : World} (h : Below X.heap.size X Y) (hP : ∀ b, P b → b < X.heap.size) : KeepP P X Y := ⟨h.size, fun b hb => h.block b (hP b hb)⟩
theorem KeepP.putFar {P : Nat → Prop} (X : World) {l : Nat} (hl : ¬ P l) (o : Obj) : KeepP P X (X.putObj l o) := ⟨by simp [World.putObj], fun b hb => World.putObj_heap_other (fun e => hl (e ▸ hb))⟩
theorem KeepP.setFar {P : Nat → Prop} (X : World) {p : Addr} (hp : ¬ P p.block) (v : Value) : KeepP P X (X.setCell p v) := ⟨by simp, fun b hb => Below.heap_setCell X p v b (fun e => hp (e ▸ hb))⟩
section
attribute [local go_sem] Oper.semAt_some
set_option maxRecDepth 100000 in
set_option maxHeartbeats 4000000 in
theorem values2_in (n : Nat) (hn : 2 ≤ n) (l g : Nat) (P : Nat → Prop) (u : Value) (L : List (Int × Int)) (hLn : L.length ≤ 1000) (W : World) (hg : P g) (hN : ∀ b, P b → b < W.heap.size) (J Jx : List (Int × Int) → Option Nat → World → Prop) (o₀ : Option Nat)
    (hJ : FarO W.heap.size J)
    (hY : ∀ pre (z : Int × Int) o W1, J pre o W1 → z ∈ L → pre.length < 1000 → W.heap.size ≤ W1.heap.size → YieldAt Fence.wide (n - 1) Tryz.prog l (encA z) W1 fun e W' => ∃ o', FreshO o o' W1 ∧ SinceO W.heap.size o W1 W' ∧ ((e = .returned (.bool true) ∧ J (pre ++ [z]) o' W' ∧ KeepP P W1 W') ∨ (e = .returned (.bool false) ∧ Jx (pre ++ [z]) o' W' ∧ KeepP P W1 W')))
    (bg : Blk W g 49 #[u]) (hR : ∃ (q : Option Addr) (cap : Nat), u = .slice q L.length cap ∧ ∀ (j : Nat) (hj : j < L.length), ∃ b, q = some ⟨b, 0, none⟩ ∧ P b ∧ W.cell? ⟨b, j * 2, none⟩ = some (.int .i64 (L[j]).1) ∧ W.cell? ⟨b, j * 2 + 1, none⟩ = some (.int .i64 (L[j]).2)) (h0 : J [] o₀ W) :
    CallsIn Fence.wide n Tryz.prog 124 #[.func (.yield l) #[] #[], .pointer (some ⟨g, 0, none⟩)] W fun e W' => (∃ v, e = .returned v) ∧ ∃ o', FreshO o₀ o' W ∧ ((∃ ys, ys = L ∧ J ys o' W') ∨ (∃ pre, pre <+: L ∧ Jx pre o' W')) := by
  obtain ⟨q, cap, rfl, hRd⟩ := hR
  have HR1 := Lib.hid hRd
  have c0 := bg.one
  obtain ⟨M, hM⟩ : ∃ M, L.length = M := ⟨_, rfl⟩
  have HM := Lib.hid hM
  have HTK : Hid (L.take M = L) := by unfold Hid; rw [← hM, List.take_length]
  have HNX : Hid (∀ j (hj : j < L.length), L.take (j + 1) = L.take j ++ [L[j]]) := fun j hj => List.take_succ_eq_append_getElem hj
  rw [hM] at hLn c0
  rw [hM] at bg
  clear hRd hM
  refine callsIn_of_wp_marks Tryz.func124 rfl trivial ?_ rfl
  simp only [Tryz.ntmps124, List.size_toArray, List.length_cons, List.length_nil, Nat.reduceAdd, Nat.reduceSub, Array.replicate_succ, Array.replicate_zero, List.push_toArray, List.append_toArray, List.nil_append, List.cons_append]
  gi_wp2_with fail
  gi_loopw [7] (fun i wr => ∃ j : Nat, j ≤ M ∧ i = .int .i64 j ∧ Hid (∃ o, J (L.take j) o wr ∧ FreshO o₀ o W) ∧ KeepP P W wr) (fun i _ => M - (intOf i).toNat)
  case atStart => exact ⟨0, by omega, rfl, Lib.hid ⟨o₀, h0, .inl rfl⟩, KeepP.refl _ _⟩
  case round =>
    obtain ⟨j, hj, rfl, HJ, hK⟩ := hrel
    obtain ⟨o, hjj, hfo⟩ := HJ.out
    have HJ2 := Lib.hid hjj
    have hKs := hK.1
    by_cases hlt : j < M
    · have hdec : decide ((j : Int) < (M : Int)) = true := by simp; omega
      have hjs : j < L.length := by rw [HM.out]; exact hlt
      obtain ⟨b, rfl, hb, x0, x1⟩ := HR1.out j hjs
      have hmem : L[j] ∈ L := List.getElem_mem hjs
      have hnx := HNX.out j hjs
      have kx : ∀ a : Addr, P a.block → wr.cell? a = W.cell? a := fun a ha => World.cell?_of_block (hK.2 a.block ha)
      replace x0 := (kx ⟨b, j * 2, none⟩ hb).trans x0
      replace x1 := (kx ⟨b, j * 2 + 1, none⟩ hb).trans x1
      clear kx
      generalize L[j] = z at *
      obtain ⟨zx, zy⟩ := z
      have hlay := below_one wr (.cells #[.int .i64 zx, .int .i64 zy] 56)
      have bz := Blk.new wr 56 #[.int .i64 zx, .int .i64 zy]
      have q0 := bz.cell 0; have q1 := bz.cell 1; simp only [List.getElem?_toArray, List.getElem?_cons_zero, List.getElem?_cons_succ] at q0 q1
      have hj3 := hJ.below hjj hlay
      have hlen5 : (L.take j).length < 1000 := by rw [List.length_take]; omega
      have HY := hY _ (zx, zy) o _ hj3 hmem hlen5 (by have := hlay.size; omega)
      unfold encA at HY
      have HNXJ := Lib.hid hnx
      have HPX : Hid (L.take (j + 1) <+: L) := List.take_prefix _ _
      have i1 : (0 : Int) ≤ (j : Int) := by omega
      have i2 : (j : Int) < (M : Int) := by omega
      have hKl : KeepP P W (wr.alloc (.cells #[.int .i64 zx, .int .i64 zy] 56)) := hK.trans (KeepP.below hlay (fun b hb => Nat.lt_of_lt_of_le (hN b hb) hKs))
      clear hnx hlen5 hmem HJ2
      obtain ⟨fn, tmps, asg, bdy, hy, hRr⟩ := HY
      gi_wp2_with fail
      refine ⟨fun _ => by omega, hRr.mono ?_⟩
      rintro e W3 ⟨o', hf3, hS3, (⟨rfl, hJ3, hk3⟩ | ⟨rfl, hJx3, hk3⟩)⟩
      all_goals have hfo' : FreshO o₀ o' W := hfo.trans (by have := hlay.size; omega) hf3
      · have hKw := hKl.trans hk3
        gi_wp2
        go_roundw
        case rel => exact ⟨j + 1, by omega, by go_num, Lib.hid ⟨o', by rw [HNXJ.out]; exact hJ3, hfo'⟩, hKw⟩
        case measure => simp [intOf]; omega
      · gi_wp2
        exact ⟨_, results_none rfl _ _ _, ⟨_, rfl⟩, o', hfo', .inr ⟨L.take (j + 1), HPX.out, by rw [HNXJ.out]; exact hJx3⟩⟩
    · obtain rfl : j = M := by omega
      have hdec : decide ((j : Int) < (j : Int)) = false := by simp
      have HJE : Hid (J L o wr) := by have h := HJ2.out; rw [HTK.out] at h; exact h
      gi_wp2
      exact ⟨_, results_none rfl _ _ _, ⟨_, rfl⟩, o, hfo, .inl ⟨_, rfl, HJE.out⟩⟩
end
/-- The iterator over a slice of places, where one block alone may be written. -/
theorem values_seqP (g x : Nat) (u : Value) (L : List (Int × Int)) (hLn : L.length ≤ 1000) (w : World) (bg : Blk w g 49 #[u]) (hgx : g ≠ x) (hR : ReadA w u L) (hux : ∀ q c, 0 < L.length → u = .slice (some q) L.length c → q.block ≠ x) (n : Nat) (hn : 2 ≤ n) :
    SeqQ Fence.wide n Tryz.prog 124 #[.pointer (some ⟨g, 0, none⟩)] encA (fun z _ => z ∈ L) (KeepP (fun b => b < w.heap.size ∧ b ≠ x)) (fun ys => ys = L) (fun pre => pre <+: L) 1000 w := by
  intro l J Jx W o₀ hBW ho₀ hJ hJx hr1 hr2 hY h0
  refine values2_in n hn l g (fun b => b < w.heap.size ∧ b ≠ x) u L hLn W ⟨bg.lt, hgx⟩ (fun b hb => Nat.lt_of_lt_of_le hb.1 hBW.size) J Jx o₀ hJ (fun pre z o W1 hj hz hlen hsz => hY pre z o W1 hj hz hlen hsz) (bg.below hBW bg.lt) ?_ h0
  obtain ⟨q, cap, e, hA⟩ := hR
  exact ⟨q, cap, e, fun j hj => by
    obtain ⟨b, h1, h2, h3, h4⟩ := hA j hj
    subst h1
    exact ⟨b, rfl, ⟨h2, hux _ _ (by omega) e⟩, (hBW.cell (p := ⟨b, j * 2, none⟩) h2).trans h3, (hBW.cell (p := ⟨b, j * 2 + 1, none⟩) h2).trans h4⟩⟩
theorem blk_ne {W : World} {g x : Nat} {t t' : TypeId} {c c' : Array Value} (h : Blk W g t c) (h' : Blk W x t' c') (ht : t ≠ t') : g ≠ x := fun e => by
  subst e
  have h2 : W.heap[g]? = some (.cells c t (0, 0)) := h
  have h3 : W.heap[g]? = some (.cells c' t' (0, 0)) := h'
  rw [h2] at h3
  injection h3 with h3
  injection h3 with _ h3 _
  exact ht h3
theorem read_apart {W : World} {u y : Value} {L : List (Int × Int)} {x : Nat} {t : TypeId} (h : ReadA W u L) (hb : Blk W x t #[y]) : ∀ q c, 0 < L.length → u = .slice (some q) L.length c → q.block ≠ x := fun q c h0 e e2 => by
  obtain ⟨q', cap, e3, hA⟩ := h
  obtain ⟨g, h1, _, _, h4⟩ := hA 0 h0
  rw [e] at e3
  injection e3 with e3 _ _
  rw [← e3] at h1
  injection h1 with h1
  subst h1
  have e2' : g = x := e2
  subst e2'
  have h5 := hb.cell 1
  rw [Nat.zero_mul] at h4
  simp only [List.getElem?_toArray, List.getElem?_cons_succ, List.getElem?_nil] at h5
  rw [h5] at h4
  cases h4


set_option maxHeartbeats 400000 in
theorem num_any (n : Int) (w : World) : Calls Tryz.prog 29 #[.int .i64 n] w fun e w' => e = .returned (.int .i64 n) ∧ w = w' := by
  go_enter Tryz.func29, Tryz.ntmps29
  go_wp2
  go_ret
  exact ⟨rfl, rfl⟩
set_option maxHeartbeats 400000 in
theorem lcode_any (p : Int) (w : World) : Calls Tryz.prog 30 #[.int .i64 p] w fun e w' => e = .returned (.agg #[.int .i64 2, .int .i64 p]) ∧ Below w.heap.size w w' := by
  go_enter Tryz.func30, Tryz.ntmps30
  go_wp2
  have b := Blk.new w 37 #[.int .i64 2, .int .i64 p]
  have c0 := b.cell 0
  have c1 := b.cell 1
  simp only [List.getElem?_toArray, List.getElem?_cons_zero, List.getElem?_cons_succ] at c0 c1
  exact bodyPost_ret (v := .agg #[.int .i64 2, .int .i64 p]) (by simp [results, Tryz.results30, go_sem, c0, c1]) rfl ⟨rfl, below_one w _⟩
/-- The first m of three columns, as a row. -/
theorem rows3 (w : World) (m : Nat) (hm : m ≤ 3) : RowC (fun _ => True) (allocs w (os3 w)) w.heap.size (.slice (some ⟨w.heap.size + 9, 0, none⟩) m 3) (css3.take m) := by
  have b9 := allocs_blk w (os3 w) 9 _ _ rfl
  have hsz := allocs_size w (os3 w)
  have hos : (os3 w).length = 10 := rfl
  have hl3 : css3.length = 3 := rfl
  refine ⟨[.slice (some ⟨w.heap.size + 2, 0, none⟩) 2 2, .slice (some ⟨w.heap.size + 5, 0, none⟩) 2 2, .slice (some ⟨w.heap.size + 8, 0, none⟩) 2 2].take m, ?_, by rw [List.length_take, List.length_take, hl3]; rfl, fun j u hu => ?_⟩
  · have hml : ([.slice (some ⟨w.heap.size + 2, 0, none⟩) 2 2, .slice (some ⟨w.heap.size + 5, 0, none⟩) 2 2, .slice (some ⟨w.heap.size + 8, 0, none⟩) 2 2] : List Value).length = 3 := rfl
    refine ⟨by rw [Nat.mul_one], .inr ⟨w.heap.size + 9, 3, _, by rw [List.length_take, hml, Nat.min_eq_left hm], by omega, b9, by rw [List.length_take, hml]; omega, by unfold maxLen; omega, rfl, by rw [Nat.mul_one, List.length_take, hml, Nat.min_eq_left hm]⟩⟩
  · have hj3 : j < m := by
      rcases Nat.lt_or_ge j m with h | h
      · exact h
      · rw [List.getElem?_eq_none (by rw [List.length_take]; omega)] at hu; cases hu
    rw [List.getElem?_take_of_lt hj3] at hu ⊢
    have two : ∀ g ga gb (a b : UInt8), Blk (allocs w (os3 w)) g 25 #[.slice (some ⟨ga, 0, none⟩) 1 1, .slice (some ⟨gb, 0, none⟩) 1 1] → Blk (allocs w (os3 w)) ga 5 #[.int .u8 (a.toNat : Int)] → Blk (allocs w (os3 w)) gb 5 #[.int .u8 (b.toNat : Int)] → g < w.heap.size + 9 → ga < w.heap.size + 9 → gb < w.heap.size + 9 →
        manyR.R (fun b => b < (allocs w (os3 w)).heap.size ∧ some b ≠ (Value.slice (some ⟨w.heap.size + 9, 0, none⟩) m 3).ownBlock ∧ True) (allocs w (os3 w)) (.slice (some ⟨g, 0, none⟩) 2 2) [[a], [b]] := fun g ga gb a b h h1 h2 k k1 k2 => by
      have hP : ∀ x, x < w.heap.size + 9 → (x < (allocs w (os3 w)).heap.size ∧ some x ≠ (Value.slice (some ⟨w.heap.size + 9, 0, none⟩) m 3).ownBlock ∧ True) := fun x hx => ⟨by omega, fun e => by injection e with e; have e2 : x = w.heap.size + 9 := e; omega, trivial⟩
      have hone : ∀ {gx : Nat} {c : UInt8}, Blk (allocs w (os3 w)) gx 5 #[.int .u8 (c.toNat : Int)] → gx < w.heap.size + 9 → BytesP (fun b => b < (allocs w (os3 w)).heap.size ∧ some b ≠ (Value.slice (some ⟨w.heap.size + 9, 0, none⟩) m 3).ownBlock ∧ True) (allocs w (os3 w)) (.slice (some ⟨gx, 0, none⟩) 1 1) [c] := fun {gx c} hb hg => ⟨_, 1, rfl, Nat.le_refl _, fun _ => ⟨gx, 0, rfl, hP gx hg, fun j hj => by
        have : j = 0 := by simp at hj; omega
        subst this
        exact hb.one⟩⟩
      refine ⟨_, 2, rfl, Nat.le_refl _, fun _ => ⟨g, 0, rfl, hP g k, fun j hj => ?_⟩⟩
      have hj2 : j = 0 ∨ j = 1 := by have : j < 2 := hj; omega
      rcases hj2 with rfl | rfl
      · exact ⟨_, h.cell 0, hone h1 k1⟩
      · exact ⟨_, h.cell 1, hone h2 k2⟩
    have hj4 : j = 0 ∨ j = 1 ∨ j = 2 := by omega
    rcases hj4 with rfl | rfl | rfl <;> cases hu
    · exact two _ _ _ 1 2 (allocs_blk w (os3 w) 2 _ _ rfl) (allocs_blk w (os3 w) 0 _ _ rfl) (allocs_blk w (os3 w) 1 _ _ rfl) (by omega) (by omega) (by omega)
    · exact two _ _ _ 4 8 (allocs_blk w (os3 w) 5 _ _ rfl) (allocs_blk w (os3 w) 3 _ _ rfl) (allocs_blk w (os3 w) 4 _ _ rfl) (by omega) (by omega) (by omega)
    · exact two _ _ _ 16 32 (allocs_blk w (os3 w) 8 _ _ rfl) (allocs_blk w (os3 w) 6 _ _ rfl) (allocs_blk w (os3 w) 7 _ _ rfl) (by omega) (by omega) (by omega)
set_option maxRecDepth 100000 in
set_option maxHeartbeats 1000000 in
theorem three_any (m : Nat) (hm : m ≤ 3) (w : World) : Calls Tryz.prog 64 #[.int .i64 (m : Int)] w fun e w' => ∃ g, e = .returned (.slice (some ⟨g, 0, none⟩) m 3) ∧ RowC (fun _ => True) w' w.heap.size (.slice (some ⟨g, 0, none⟩) m 3) (css3.take m) ∧ Below w.heap.size w w' := by
  have hc := rows3 w m hm
  have hb := allocs_below w (os3 w)
  have i1 : (0 : Int) ≤ (m : Int) := by omega
  have i2 : (m : Int) ≤ 3 := by omega
  go_enter Tryz.func64, Tryz.ntmps64
  go_wp2
  go_ret
  exact ⟨_, rfl, hc, hb⟩
end Go.Proofs.YtggdlklkjnbbjaaGreatDoor.R

namespace Go.Proofs.YtggdlklkjnbbjaaGreatDoor.R
open Go.RowKit Go.Shelf Go.Proofs.YtggdlklkjnbbjaaGreatDoor.C Go.Proofs.YtggdlklkjnbbjaaGreatDoor.E
set_option linter.unusedSimpArgs false
set_option linter.unusedVariables false

theorem four_cols {w W : World} {a b c d : UInt8} {t t1 t2 u0 u1 u2 u3 : TypeId} (hs : W.heap.size = w.heap.size + 7)
    (h6 : Blk W (w.heap.size + 6) t #[.slice (some ⟨w.heap.size + 2, 0, none⟩) 2 2, .slice (some ⟨w.heap.size + 5, 0, none⟩) 2 2])
    (h2 : Blk W (w.heap.size + 2) t1 #[.slice (some ⟨w.heap.size + 0, 0, none⟩) 1 1, .slice (some ⟨w.heap.size + 1, 0, none⟩) 1 1])
    (h5 : Blk W (w.heap.size + 5) t2 #[.slice (some ⟨w.heap.size + 3, 0, none⟩) 1 1, .slice (some ⟨w.heap.size + 4, 0, none⟩) 1 1])
    (h0 : Blk W (w.heap.size + 0) u0 #[.int .u8 (a.toNat : Int)]) (h1 : Blk W (w.heap.size + 1) u1 #[.int .u8 (b.toNat : Int)]) (h3 : Blk W (w.heap.size + 3) u2 #[.int .u8 (c.toNat : Int)]) (h4 : Blk W (w.heap.size + 4) u3 #[.int .u8 (d.toNat : Int)]) :
    colsR.R (fun b => w.heap.size ≤ b ∧ b < W.heap.size) W (.slice (some ⟨w.heap.size + 6, 0, none⟩) 2 2) [[[a], [b]], [[c], [d]]] := by
  have hone : ∀ {gx : Nat} {tt : TypeId} {c : UInt8}, Blk W gx tt #[.int .u8 (c.toNat : Int)] → w.heap.size ≤ gx → gx < W.heap.size → BytesP (fun b => w.heap.size ≤ b ∧ b < W.heap.size) W (.slice (some ⟨gx, 0, none⟩) 1 1) [c] := fun {gx tt c} hb hg hg2 => ⟨_, 1, rfl, Nat.le_refl _, fun _ => ⟨gx, 0, rfl, ⟨hg, hg2⟩, fun j hj => by
    have : j = 0 := by simp at hj; omega
    subst this
    exact hb.one⟩⟩
  have two : ∀ {g ga gb : Nat} {tt ta tb : TypeId} {a b : UInt8}, Blk W g tt #[.slice (some ⟨ga, 0, none⟩) 1 1, .slice (some ⟨gb, 0, none⟩) 1 1] → Blk W ga ta #[.int .u8 (a.toNat : Int)] → Blk W gb tb #[.int .u8 (b.toNat : Int)] → w.heap.size ≤ g → g < W.heap.size → w.heap.size ≤ ga → ga < W.heap.size → w.heap.size ≤ gb → gb < W.heap.size →
      manyR.R (fun b => w.heap.size ≤ b ∧ b < W.heap.size) W (.slice (some ⟨g, 0, none⟩) 2 2) [[a], [b]] := fun {g ga gb tt ta tb a b} h h1 h2 k k0 k1 k2 k3 k4 => by
    refine ⟨_, 2, rfl, Nat.le_refl _, fun _ => ⟨g, 0, rfl, ⟨k, k0⟩, fun j hj => ?_⟩⟩
    have hj2 : j = 0 ∨ j = 1 := by have : j < 2 := hj; omega
    rcases hj2 with rfl | rfl
    · exact ⟨_, h.cell 0, hone h1 k1 k2⟩
    · exact ⟨_, h.cell 1, hone h2 k3 k4⟩
  refine ⟨_, 2, rfl, Nat.le_refl _, fun _ => ⟨w.heap.size + 6, 0, rfl, ⟨by omega, by omega⟩, fun j hj => ?_⟩⟩
  have hj2 : j = 0 ∨ j = 1 := by have : j < 2 := hj; omega
  rcases hj2 with rfl | rfl
  · exact ⟨_, h6.cell 0, two h2 h0 h1 (by omega) (by omega) (by omega) (by omega) (by omega) (by omega)⟩
  · exact ⟨_, h6.cell 1, two h5 h3 h4 (by omega) (by omega) (by omega) (by omega) (by omega) (by omega)⟩
def os56 (w : World) : List Obj := [.cells #[.int .u8 5] 5,
  .cells #[.int .u8 10] 5,
  .cells #[.slice (some ⟨w.heap.size + 0, 0, none⟩) 1 1, .slice (some ⟨w.heap.size + 1, 0, none⟩) 1 1] 25,
  .cells #[.int .u8 11] 5,
  .cells #[.int .u8 6] 5,
  .cells #[.slice (some ⟨w.heap.size + 3, 0, none⟩) 1 1, .slice (some ⟨w.heap.size + 4, 0, none⟩) 1 1] 25,
  .cells #[.slice (some ⟨w.heap.size + 2, 0, none⟩) 2 2, .slice (some ⟨w.heap.size + 5, 0, none⟩) 2 2] 44]
theorem os56_cols (w : World) : colsR.R (fun b => w.heap.size ≤ b ∧ b < (allocs w (os56 w)).heap.size) (allocs w (os56 w)) (.slice (some ⟨w.heap.size + 6, 0, none⟩) 2 2) [[[5], [10]], [[11], [6]]] :=
  four_cols (allocs_size w (os56 w)) (allocs_blk w (os56 w) 6 _ _ rfl) (allocs_blk w (os56 w) 2 _ _ rfl) (allocs_blk w (os56 w) 5 _ _ rfl) (allocs_blk w (os56 w) 0 _ _ rfl) (allocs_blk w (os56 w) 1 _ _ rfl) (allocs_blk w (os56 w) 3 _ _ rfl) (allocs_blk w (os56 w) 4 _ _ rfl)
def os51 (w : World) : List Obj := [.cells #[.int .u8 5] 5,
  .cells #[.int .u8 10] 5,
  .cells #[.slice (some ⟨w.heap.size + 0, 0, none⟩) 1 1, .slice (some ⟨w.heap.size + 1, 0, none⟩) 1 1] 25,
  .cells #[.int .u8 11] 5,
  .cells #[.int .u8 1] 5,
  .cells #[.slice (some ⟨w.heap.size + 3, 0, none⟩) 1 1, .slice (some ⟨w.heap.size + 4, 0, none⟩) 1 1] 25,
  .cells #[.slice (some ⟨w.heap.size + 2, 0, none⟩) 2 2, .slice (some ⟨w.heap.size + 5, 0, none⟩) 2 2] 44]
theorem os51_cols (w : World) : colsR.R (fun b => w.heap.size ≤ b ∧ b < (allocs w (os51 w)).heap.size) (allocs w (os51 w)) (.slice (some ⟨w.heap.size + 6, 0, none⟩) 2 2) [[[5], [10]], [[11], [1]]] :=
  four_cols (allocs_size w (os51 w)) (allocs_blk w (os51 w) 6 _ _ rfl) (allocs_blk w (os51 w) 2 _ _ rfl) (allocs_blk w (os51 w) 5 _ _ rfl) (allocs_blk w (os51 w) 0 _ _ rfl) (allocs_blk w (os51 w) 1 _ _ rfl) (allocs_blk w (os51 w) 3 _ _ rfl) (allocs_blk w (os51 w) 4 _ _ rfl)

def whole3 : List (List (List UInt8)) := css3.take 2 ++ [[[5], [10]], [[11], [6]]]
def bad3 : List (List (List UInt8)) := css3.take 2 ++ [[[5], [10]], [[11], [1]]]
theorem rdp3 : rdpOf 3 (css3.take 2) = [[[5], [10]], [[11], [6]]] := by decide +kernel
theorem left3 : adjOf 3 (whole3.take (3 : Int).toNat) = [13] := by decide +kernel
theorem wrong3 : wrongL 3 bad3 = [(3, 1)] := by decide +kernel
theorem data3 : DataR 3 (css3.take 2) := ⟨⟨by decide, by decide, fun j hj => by
  have hj3 : j = 0 ∨ j = 1 := by have : j < 2 := hj; omega
  rcases hj3 with rfl | rfl <;> exact ⟨rfl, by decide, fun k hk => by
    have hk2 : k = 0 ∨ k = 1 := by have : k < 2 := hk; omega
    rcases hk2 with rfl | rfl <;> rfl⟩⟩, by decide⟩
theorem all3 : AllR 3 whole3 := ⟨⟨by decide, by decide, fun j hj => by
  have hj3 : j = 0 ∨ j = 1 ∨ j = 2 ∨ j = 3 := by have : j < 4 := hj; omega
  rcases hj3 with rfl | rfl | rfl | rfl <;> exact ⟨rfl, by decide, fun k hk => by
    have hk2 : k = 0 ∨ k = 1 := by have : k < 2 := hk; omega
    rcases hk2 with rfl | rfl <;> rfl⟩⟩, by decide⟩
theorem allb3 : AllR 3 bad3 := ⟨⟨by decide, by decide, fun j hj => by
  have hj3 : j = 0 ∨ j = 1 ∨ j = 2 ∨ j = 3 := by have : j < 4 := hj; omega
  rcases hj3 with rfl | rfl | rfl | rfl <;> exact ⟨rfl, by decide, fun k hk => by
    have hk2 : k = 0 ∨ k = 1 := by have : k < 2 := hk; omega
    rcases hk2 with rfl | rfl <;> rfl⟩⟩, by decide⟩
/-- Columns of the call's own, and two more. -/
theorem app_cols {w1 W : World} {base g : Nat} {ds : List (List (List UInt8))} {x : Value} (hB : Below w1.heap.size w1 W) (h : RowC (fun _ => True) w1 base (.slice (some ⟨g, 0, none⟩) 2 3) (css3.take 2)) (hd : colsR.R (fun b => w1.heap.size ≤ b ∧ b < W.heap.size) W x ds) :
    RowC (fun _ => True) W base (.slice (some ⟨g, 0, none⟩) 2 3) (css3.take 2) ∧ colsR.R (fun b => b < W.heap.size ∧ some b ≠ (Value.slice (some ⟨g, 0, none⟩) 2 3).ownBlock ∧ True) W x ds :=
  ⟨RowG.below h hB, colsR.imp hd fun b hb => ⟨hb.2, fun e => by have h1 := RowG.own_lt h b e.symm; have h2 := hb.1; omega, trivial⟩⟩
theorem eql_wrongs (g : Nat) (W : World) : (binOp .eql 53 (.func (.func 124) #[] #[.pointer (some ⟨g, 0, none⟩)]) .nilFunc).run Tryz.prog W = .ok (.bool false) W := by kernel_rfl
theorem enter_values0 : ∀ args W, (callFunc 124 args).run Tryz.prog W = .ok (.enter 124 args) W := enters_of Tryz.func124 (by kernel_rfl) rfl
def stepN (n : Int) (z : Int × Int) : Int := wrap64 (wrap64 (wrap64 (100 * n) + wrap64 (10 * z.1)) + z.2)
def nv (l : List (Int × Int)) : Int := l.foldl stepN 0
theorem nv_snoc (l : List (Int × Int)) (z : Int × Int) : nv (l ++ [z]) = stepN (nv l) z := by unfold nv; rw [List.foldl_append]; rfl
attribute [local go_sem] Oper.semAt_some
set_option maxRecDepth 100000 in
set_option maxHeartbeats 4000000 in
theorem works_any (w : World) (hL : Laid w) : Calls Tryz.prog 26 #[] w fun e w' => e = .returned (.bool true) ∧ Below w.heap.size w w' := by
  have HT2 := Lib.hid (fun U => three_any 2 (by omega) U)
  have HE := Lib.hid (fun (U : World) (v : Value) (hU : Laid U) (hC : Cols U.heap.size U v (css3.take 2)) => encode_yes 3 v (css3.take 2) data3 U hU (Nat.le_refl _) hC)
  rw [rdp3] at HE
  have HLF := Lib.hid (fun (U : World) (v : Value) (hU : Laid U) (hC : Cols U.heap.size U v whole3) => left_yes 3 v whole3 all3 U hU (Nat.le_refl _) hC)
  rw [left3] at HLF
  have HWR := Lib.hid (fun (U : World) (v : Value) (hU : Laid U) (hC : Cols U.heap.size U v bad3) => wrongs_yes 3 v bad3 allb3 U hU (Nat.le_refl _) hC)
  rw [wrong3] at HWR
  have HS := Lib.hid (fun (U : World) (v v2 : Value) (h1 : Cols U.heap.size U v [[[5], [10]], [[11], [6]]]) (h2 : Cols U.heap.size U v2 [[[5], [10]], [[11], [6]]]) => same6_any v v2 _ _ U h1 h2 (Nat.le_refl _) (Nat.le_refl _) (fun j => (by rcases j with _ | _ | j <;> simp)) (fun j => (by rcases j with _ | _ | j <;> simp)) (by simp) (by simp))
  simp only [decide_true] at HS
  have hl2 : (css3.take 2).length = 2 := rfl
  refine (callsIn_wide (n := 9)).1 ?_
  refine callsIn_of_wp_marks Tryz.func26 rfl trivial ?_ rfl
  simp only [Tryz.ntmps26, List.size_toArray, List.length_cons, List.length_nil, Nat.reduceAdd, Nat.reduceSub, Array.replicate_succ, Array.replicate_zero, List.push_toArray, List.append_toArray, List.nil_append, List.cons_append]
  refine (wpIn_wide (n := 9)).2 ?_
  go_wp2_with fail
  refine (HT2.out _).mono ?_
  rintro e w1 ⟨g1, rfl, hr1, hB⟩
  have hBw := hB
  go_wp2_with fail
  refine (HE.out _ _ (hL.next hBw) (RowC.cols hr1)).mono ?_
  rintro e w2 ⟨l, rfl, hl, hB⟩
  have hB2 := below_in hBw hB
  have hBx := Below.refl w2.heap.size w2
  obtain ⟨Al, cl, hle, _, _⟩ := id hl
  have hle2 : l = .slice Al 2 cl := hle
  subst hle2
  clear hr1 hB hle hBw
  go_wp2_with fail
  refine (HT2.out _).mono ?_
  rintro e w3 ⟨g3, rfl, hr3, hB⟩
  replace hBx := below_in hBx hB
  have hB4 := allocs_below w3 (os56 w3)
  obtain ⟨hr4, hd4⟩ := app_cols hB4 hr3 (os56_cols w3)
  replace hBx := below_in hBx hB4
  have HR4 := Lib.hid hr4
  have HD4 := Lib.hid hd4
  have HS4 := Lib.hid hBx.size
  have HBX := Lib.hid hBx
  clear hr3 hr4 hd4 hB hB4 hBx
  go_wp2_with (at_builtin; refine wpList_appC (T := 22) _ rfl _ _ rfl Tryz.underlying22 (css3.take 2) [[[5], [10]], [[11], [6]]] rfl HR4.out rfl HD4.out (by simp) (by rw [hl2]; omega) (by simp) HS4.out ?_; intro v5 w5 hr5 hg5 ho5)
  have hBx := below_grown HBX.out hg5 HS4.out (fun r e => by have := RowG.own_le HR4.out r e; omega)
  clear HBX HR4 HD4 HS4 ho5 hg5
  have hC5 : Cols w5.heap.size w5 v5 whole3 := RowC.cols hr5
  refine (HLF.out _ _ (hL.next (below_in hB2 hBx)) hC5).mono ?_
  rintro e w6 ⟨s6, rfl, hs6, hB⟩
  replace hBx := below_in hBx hB
  obtain ⟨As, cs6, hse, _, _⟩ := id hs6
  have hse2 : s6 = .slice As 1 cs6 := hse
  subst hse2
  have hB6 := hBx
  replace hBx := Below.refl w6.heap.size w6
  clear hr5 hC5 hB hse
  go_wp2_with fail
  refine (HT2.out _).mono ?_
  rintro e w7 ⟨g7, rfl, hr7, hB⟩
  replace hBx := below_in hBx hB
  have hB4 := allocs_below w7 (os51 w7)
  obtain ⟨hr4, hd4⟩ := app_cols hB4 hr7 (os51_cols w7)
  replace hBx := below_in hBx hB4
  have HR4 := Lib.hid hr4
  have HD4 := Lib.hid hd4
  have HS4 := Lib.hid hBx.size
  have HBX := Lib.hid hBx
  clear hr7 hr4 hd4 hB hB4 hBx
  go_wp2_with (at_builtin; refine wpList_appC (T := 22) _ rfl _ _ rfl Tryz.underlying22 (css3.take 2) [[[5], [10]], [[11], [1]]] rfl HR4.out rfl HD4.out (by simp) (by rw [hl2]; omega) (by simp) HS4.out ?_; intro v8 w8 hr8 hg8 ho8; have hBx := below_grown HBX.out hg8 HS4.out (fun r e => by have := RowG.own_le HR4.out r e; omega); clear HBX HR4 HD4 HS4 ho8 hg8)
  have hC9 : Cols (w8.alloc (.cells #[.int .i64 0] 3)).heap.size (w8.alloc (.cells #[.int .i64 0] 3)) v8 bad3 := ((RowC.cols hr8).below (below_one w8 _)).more (by simp)
  have hb9 := Blk.new w8 3 #[.int .i64 0]
  have HS8 := Lib.hid hBx.size
  replace hBx := below_in hBx (below_one w8 (.cells #[.int .i64 0] 3))
  have hBk := hBx
  replace hBx := Below.refl w8.heap.size w8
  replace hBx := hBx.alloc (Nat.le_refl _) (.cells #[.int .i64 0] 3)
  have hgn := hb9.lt
  generalize hw9 : w8.alloc (.cells #[.int .i64 0] 3) = w9 at *
  clear hw9
  have hL9 := hL.next (below_in hB2 (below_in hB6 hBk))
  refine (HWR.out _ _ hL9 hC9).mono ?_
  rintro e w10 ⟨gw, uw, rfl, hbw, hrw, hB⟩
  have hC10 := (hC9.below hB).more hB.size
  have hb10 := hb9.below hB hb9.lt
  have hB10 := hB
  clear hr8 hbw hrw hC9
  have hef := eql_wrongs gw w10
  go_wp2_with fail
  refine (HWR.out _ _ (hL9.next hB10) hC10).mono ?_
  rintro e w11 ⟨g, u, rfl, hbw, hrw, hB⟩
  have hb11 := hb10.below hB hb10.lt
  have hB11 := below_in hB10 hB
  have hsgn := Nat.lt_of_lt_of_le hgn hB11.size
  have hBk11 := below_in hBk hB11
  have hgg := blk_ne hbw hb11 (by decide)
  have hSQ := Lib.hid (fun n => values_seqP g w8.heap.size u [(3, 1)] (by simp) w11 hbw hgg hrw (read_apart hrw hb11) n)
  clear hC10 hb9 hb10 hB10 hB hBk hrw
  go_wp2_with fail
  refine (wpIn_wide (n := 9)).1 ?_
  have hse11 := hBk11.size
  have hFI : Hid (FarO w11.heap.size (fun (pre : List (Int × Int)) (o : Option Nat) X => o = none ∧ Blk X w8.heap.size 3 #[.int .i64 (nv pre)] ∧ Below w6.heap.size w6 X)) := by
    rintro s o X Y row ⟨h2, h3, h4⟩ hgr hr
    exact ⟨h2, farO_blkV (by omega) h3 hgr hr, h4.grown hgr h4.size (fun r e => by have := (hr r e).1; omega)⟩
  refine wpIn_rangeQ rfl (by omega) (gf := 124) (lb := #[.pointer (some ⟨g, 0, none⟩)]) rfl trivial enter_values1 (hSQ.out _ (by omega)) (fun h h' => h.trans h') (fun V l ob hl _ hlp => KeepP.putFar V (by omega) ob) (Below.refl _ _) (fun _ => rfl)
    (fun pre o X => o = none ∧ Blk X w8.heap.size 3 #[.int .i64 (nv pre)] ∧ Below w6.heap.size w6 X)
    (fun _ _ _ _ => False) ?hI (fun c s o X Y row hs _ _ => hs) none (fun b e => by cases e) ⟨rfl, hb11, hBk11⟩
    (fun z o a' X => ∃ gx, a' = { tmps := #[Value.bool false, Value.slice Al 2 cl, Value.int IntKind.i64 0, v5, Value.slice As 1 cs6, Value.int IntKind.i64 0, v8, Value.pointer (some ⟨w8.heap.size, 0, none⟩), .pointer (some ⟨gx, 0, none⟩), Value.tuple #[Value.slice Al 2 cl, Value.int IntKind.i64 0], Value.slice (some ⟨g1, 0, none⟩) 2 3, Value.tuple #[Value.slice Al 2 cl, Value.int IntKind.i64 0], Value.slice Al 2 cl, Value.int IntKind.i64 0, Value.slice (some ⟨g3, 0, none⟩) 2 3, Value.slice (some ⟨w3.heap.size, 0, none⟩) 1 1, Value.slice (some ⟨w3.heap.size + 1, 0, none⟩) 1 1, Value.slice (some ⟨w3.heap.size + 1 + 1, 0, none⟩) 2 2, Value.slice (some ⟨w3.heap.size + 1 + 1 + 1, 0, none⟩) 1 1, Value.slice (some ⟨w3.heap.size + 1 + 1 + 1 + 1, 0, none⟩) 1 1, Value.slice (some ⟨w3.heap.size + 1 + 1 + 1 + 1 + 1, 0, none⟩) 2 2, Value.slice (some ⟨w3.heap.size + 1 + 1 + 1 + 1 + 1 + 1, 0, none⟩) 2 2, v5, Value.tuple #[Value.slice As 1 cs6, Value.int IntKind.i64 0], v5, Value.tuple #[Value.slice As 1 cs6, Value.int IntKind.i64 0], Value.slice As 1 cs6, Value.int IntKind.i64 0, Value.slice (some ⟨g7, 0, none⟩) 2 3, Value.slice (some ⟨w7.heap.size, 0, none⟩) 1 1, Value.slice (some ⟨w7.heap.size + 1, 0, none⟩) 1 1, Value.slice (some ⟨w7.heap.size + 1 + 1, 0, none⟩) 2 2, Value.slice (some ⟨w7.heap.size + 1 + 1 + 1, 0, none⟩) 1 1, Value.slice (some ⟨w7.heap.size + 1 + 1 + 1 + 1, 0, none⟩) 1 1, Value.slice (some ⟨w7.heap.size + 1 + 1 + 1 + 1 + 1, 0, none⟩) 2 2, Value.slice (some ⟨w7.heap.size + 1 + 1 + 1 + 1 + 1 + 1, 0, none⟩) 2 2, v8, v8, Value.func (Fn.func 124) #[] #[Value.pointer (some ⟨gw, 0, none⟩)], Value.bool false, v8, Value.func (Fn.func 124) #[] #[Value.pointer (some ⟨g, 0, none⟩)], .agg #[.int .i64 z.1, .int .i64 z.2], undef, undef, undef, undef, undef, undef, undef, undef, undef, undef, undef, undef, undef, undef, undef, undef, undef, undef, undef, undef, undef, undef, undef, undef, undef, undef, undef, undef, undef, undef, undef, undef, undef, undef, undef], defers := [] } ∧ Blk X gx 56 #[.int .i64 z.1, .int .i64 z.2])
    (fun z o a' X l ob r hl h => by obtain ⟨gx, e, hb⟩ := h; exact ⟨gx, e, (World.putObj_heap_other (fun e2 => by subst e2; rw [show X.heap[gx]? = _ from hb] at hl; cases hl)).trans hb⟩)
    ?assign (fun pre o X h => by obtain ⟨rfl, _⟩ := h; intro b e; cases e) (fun c pre o X h => h.elim) ?body ?done (fun D c pre o X _ _ _ h => h.elim)
  case hI => exact hFI.out
  case assign =>
    intro l' pre z o X K hsz ho hI2 hok hK
    have hlay := below_one X (.cells #[.int .i64 z.1, .int .i64 z.2] 56)
    have hbz := Blk.new X 56 #[.int .i64 z.1, .int .i64 z.2]
    have hkp : KeepP (fun b => b < w11.heap.size ∧ b ≠ w8.heap.size) X (X.alloc (.cells #[.int .i64 z.1, .int .i64 z.2] 56)) := KeepP.below hlay (fun b hb => by have := hb.1; omega)
    unfold encA
    gi_wp2_with fail
    exact hK _ _ (SinceO.below hlay) hkp (hFI.out.lay hI2 _) ⟨_, rfl, hbz⟩
  case body =>
    rintro l' pre z o a' X hsz ⟨rfl, hb1, hBX⟩ ⟨gx, rfl, hbg⟩ hlen
    obtain ⟨zx, zy⟩ := z
    have c1 := hb1.one
    have f1 := hb1.frozen 0
    have k0 := hbg.cell 0
    have k1 := hbg.cell 1
    simp only [List.getElem?_toArray, List.getElem?_cons_zero, List.getElem?_cons_succ] at k0 k1
    gi_wp2
    have hsi : SinceO w11.heap.size none X (X.setCell ⟨w8.heap.size, 0, none⟩ (.int .i64 (stepN (nv pre) (zx, zy)))) := ⟨by simp, fun b h1 h2 h3 => Below.heap_setCell X _ (.int .i64 (stepN (nv pre) (zx, zy))) b (by simp; omega)⟩
    have hke : KeepP (fun b => b < w11.heap.size ∧ ¬ b = w8.heap.size) X (X.setCell ⟨w8.heap.size, 0, none⟩ (.int .i64 (stepN (nv pre) (zx, zy)))) := KeepP.setFar X (by simp) (.int .i64 (stepN (nv pre) (zx, zy)))
    have hbe : Below w6.heap.size w6 (X.setCell ⟨w8.heap.size, 0, none⟩ (.int .i64 (stepN (nv pre) (zx, zy)))) := hBX.setCell (by simpa using HS8.out) _
    have hb2 := hb1.set_ 0 (.int .i64 (stepN (nv pre) (zx, zy)))
    exact ⟨none, .inl rfl, hsi, hke, rfl, by rw [nv_snoc]; exact hb2, hbe⟩
  case done =>
    rintro D xs o X hD hfo rfl ⟨rfl, hb1, hBX⟩ hK hne
    rw [show nv [(3, 1)] = 31 by decide +kernel] at hb1
    have c1 := hb1.one
    have hBX2 := below_in hB6 hBX
    have hBY := allocs_below X (os56 X)
    have hl1 : Cols (allocs X (os56 X)).heap.size (allocs X (os56 X)) (.slice Al 2 cl) [[[5], [10]], [[11], [6]]] := (hl.below (below_in hBX2 hBY)).more (below_in hBX2 hBY).size
    have hl3 : Cols (allocs X (os56 X)).heap.size (allocs X (os56 X)) (.slice (some ⟨X.heap.size + 6, 0, none⟩) 2 2) [[[5], [10]], [[11], [6]]] := colsR.imp (os56_cols X) fun b hb => hb.2
    have HSM := Lib.hid (HS.out _ _ _ hl1 hl3)
    have HBY := Lib.hid hBY
    clear hl1 hl3 hBY
    have ht13 : (text [13]).toList = [13] := by decide +kernel
    go_wp2_with (first
      | (go_at_call 29; refine (num_any _ _).mono ?_; rintro e w' ⟨rfl, rfl⟩)
      | (refine HSM.out.mono ?_; rintro e w12 ⟨rfl, hB12⟩; have hBZ := below_in HBY.out hB12; have hcv := run_txt w12 (hs6.below (below_in hBX hBZ)); have c2 := (hBZ.cell (p := ⟨w8.heap.size, 0, none⟩) hb1.lt).trans c1))
    refine leaves_blks w [D] w12 ⟨by simp, fun E hE => ?_⟩ (below_in hB2 (below_in hBX2 hBZ)) (fun W' hB' hk => ?_)
    · obtain rfl := List.mem_singleton.1 hE
      have hDX : E < X.heap.size := by
        rcases Nat.lt_or_ge E X.heap.size with h | h
        · exact h
        · rw [Array.getElem?_eq_none h] at hK; cases hK
      exact ⟨by have := (below_in hB2 hB6).size; omega, (hBZ.block E hDX).trans hK⟩
    · exact ⟨.bool true, by simp [results, Tryz.results26, go_sem], rfl, hB'⟩
end Go.Proofs.YtggdlklkjnbbjaaGreatDoor.R

namespace Go.Proofs.YtggdlklkjnbbjaaGreatDoor.R
open Go.RowKit Go.Shelf Go.Proofs.YtggdlklkjnbbjaaGreatDoor.C Go.Proofs.YtggdlklkjnbbjaaGreatDoor.E
set_option linter.unusedSimpArgs false
set_option linter.unusedVariables false

theorem Grid.put {R n : Nat} {a b : List (List (List UInt8))} (ha : Grid R n a) : Grid R n (putOf a b) := by
  intro j hj
  rw [putOf_len] at hj
  refine ⟨by rw [putOf_col hj, putCol_len]; exact (ha j hj).1, fun i hi => ?_⟩
  have hc := cell_put (a := a) (b := b) j i hj (by rw [(ha j hj).1]; exact hi)
  unfold cellOf_ at hc
  rw [hc, xorB_len]
  exact (ha j hj).2 i hi
section
variable {p : Int} {a b : List (List (List UInt8))}
end
end Go.Proofs.YtggdlklkjnbbjaaGreatDoor.R

namespace Go.Proofs.YtggdlklkjnbbjaaGreatDoor.R
open Go.RowKit Go.Shelf Go.Proofs.YtggdlklkjnbbjaaGreatDoor.C Go.Proofs.YtggdlklkjnbbjaaGreatDoor.E
set_option linter.unusedSimpArgs false
set_option linter.unusedVariables false
end Go.Proofs.YtggdlklkjnbbjaaGreatDoor.R

