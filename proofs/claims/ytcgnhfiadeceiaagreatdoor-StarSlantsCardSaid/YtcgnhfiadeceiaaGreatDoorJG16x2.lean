/- RDP's laws: what they range over; numbers, the code, columns that are right. RDP's laws: the chapter's rows. The laws of STAR: the chapter's rows. The document's answers for STAR: Slant, Over. The laws of EVENODD: columns that came in. The laws of STAR: place, cell, turned. -/
import Derived.Test.YtcgnhfiadeceiaaGreatDoorJG15
import Derived.Test.YtcgnhfiadeceiaaGreatDoorJG15x1
import Derived.Test.YtcgnhfiadeceiaaGreatDoorJG8
import Derived.Test.YtcgnhfiadeceiaaGreatDoorJG8x2
import Derived.Test.YtcgnhfiadeceiaaGreatDoorJG11
import Derived.Test.YtcgnhfiadeceiaaGreatDoorJSA
import Derived.Test.YtcgnhfiadeceiaaGreatDoorJG1
import Derived.Deep.Matrix
import Derived.ShutString
import Derived.ChangeOld
import Derived.Test.YtcgnhfiadeceiaaGreatDoorJG6
import Derived.Test.YtcgnhfiadeceiaaGreatDoorJG6x1
import Derived.Test.YtcgnhfiadeceiaaGreatDoorJG6x2
import Derived.Test.YtcgnhfiadeceiaaGreatDoorJG16
namespace Go.Proofs.YtcgnhfiadeceiaaGreatDoor.T
open Go.RowKit Go.Shelf Go.Proofs.YtcgnhfiadeceiaaGreatDoor.C Go.Proofs.YtcgnhfiadeceiaaGreatDoor.E
set_option linter.unusedSimpArgs false
set_option linter.unusedVariables false

theorem tmod_mod (n p : Int) : (n.tmod p + p) % p = n % p := by
  rw [Int.tmod_def, show n - p * n.tdiv p + p = n + p * (1 - n.tdiv p) by rw [Int.mul_sub, Int.mul_one]; omega, Int.add_mul_emod_self_left]
set_option maxHeartbeats 400000 in
theorem place8_any (p n : Int) (hp : 3 ≤ p ∧ p ≤ 17) (hn : -100 ≤ n ∧ n ≤ 100) (w : World) : Calls Tryz.prog 59 #[.int .i64 p, .int .i64 n] w fun e w' => e = .returned (.int .i64 (n % p)) ∧ w = w' := by
  have h1 : -p < n.tmod p := Int.lt_tmod_of_pos n (by omega)
  have h2 : n.tmod p < p := Int.tmod_lt_of_pos n (by omega)
  have HE := Lib.hid (tmod_mod n p)
  have h0 : ¬ p = 0 := by omega
  go_enter Tryz.func59, Tryz.ntmps59
  go_wp2
  go_ret
  exact ⟨ret_i64 HE.out, rfl⟩
set_option maxRecDepth 100000 in
set_option maxHeartbeats 1000000 in
theorem cell8_any {B : Nat} (v : Value) (ls : List (List UInt8)) (row : Nat) (w : World) (hB : B ≤ w.heap.size) (hM : Many B w v ls) (h0 : 0 < ls.length) (hlen : ls.length ≤ 1000) (hl0 : (ls[0]?.getD []).length ≤ 1000) (hr : row ≤ 1000) :
    Calls Tryz.prog 58 #[v, .int .i64 (row : Int)] w fun e w' => ∃ u, e = .returned u ∧ Bytes w'.heap.size w' u (cellX ls row) ∧ Below w.heap.size w w' := by
  obtain ⟨A, cap, rfl, _, _⟩ := id hM
  obtain ⟨b2, off2, rfl, hb2, hrow⟩ := many_at hM h0
  by_cases hlt : row < ls.length
  · have hdec : decide ((row : Int) < (ls.length : Int)) = true := by simp; omega
    obtain ⟨A4, cp4, hc3, hby⟩ := hrow row hlt
    have HX : Hid (cellX ls row = ls[row]?.getD []) := if_pos hlt
    have j1 : (0 : Int) ≤ (row : Int) := by omega
    have j2 : (row : Int) < (ls.length : Int) := by omega
    clear hrow hM
    generalize ls[row]?.getD [] = x at *
    go_enter Tryz.func58, Tryz.ntmps58
    go_wp2
    go_ret
    exact ⟨_, rfl, by rw [HX.out]; exact hby.more hB, Below.refl _ _⟩
  · have hdec : decide ((row : Int) < (ls.length : Int)) = false := by simp; omega
    obtain ⟨A4, cp4, hc3, hby⟩ := hrow 0 h0
    rw [Nat.add_zero] at hc3
    have HX : Hid (cellX ls row = List.replicate (ls[0]?.getD []).length 0) := if_neg hlt
    have j2 : (0 : Int) < (ls.length : Int) := by omega
    clear hrow hM hby
    generalize (ls[0]?.getD []).length = n at *
    obtain ⟨i0, hi, hz0, hz1, hz2⟩ := info_parts Tryz.infoByte
    have hmk := fun W : World => run_make (P := Tryz.prog) W 28 5 i0 (.int .u8 0) Tryz.underlying28 hi hz0 .i64 .i64 (n : Int) (n : Int) (by omega) (by omega) (by rw [hz2]; omega) (by omega)
    simp only [hz1, Nat.mul_one, Int.toNat_natCast] at hmk
    have hR := Row.made w n
    have hBz := below_one w (.cells (madeCells #[.int .u8 0] n) 5)
    go_enter Tryz.func58, Tryz.ntmps58
    go_wp2
    go_ret
    exact ⟨_, rfl, by rw [HX.out]; exact Row.bytes hR (by simp), hBz⟩
set_option maxRecDepth 100000 in
set_option maxHeartbeats 2000000 in
theorem turned8_any {B : Nat} (p by' : Int) (R : Nat) (hp : 3 ≤ p ∧ p ≤ 17) (hb' : -5 ≤ by' ∧ by' ≤ 5) (hpR : p - 1 = (R : Int)) (v : Value) (ls : List (List UInt8)) (n : Nat) (hn : n ≤ 1000) (w : World) (hB : B ≤ w.heap.size) (hM : Many B w v ls) (hR : ls.length = R) (hall : ∀ i, i < R → (ls[i]?.getD []).length = n) :
    Calls Tryz.prog 28 #[.int .i64 p, v, .int .i64 by'] w fun e w' => ∃ u, e = .returned u ∧ Many w'.heap.size w' u (turnedOf p by' ls) ∧ Below w.heap.size w w' := by
  obtain ⟨i0, hi, hz0, hz1, hz2⟩ := info_parts Tryz.infoByte
  obtain ⟨A, cap, rfl, _, _⟩ := id hM
  have hRR : R ≤ 16 ∧ 2 ≤ R := by omega
  have hcx : ∀ k, (cellX ls k).length = n := fun k => by
    unfold cellX
    split
    · exact hall k (by omega)
    · rw [List.length_replicate]; exact hall 0 (by omega)
  have HCX := Lib.hid hcx
  have HPL := Lib.hid (fun (m : Int) (hm : -100 ≤ m ∧ m ≤ 100) (U : World) => place8_any p m hp hm U)
  have HCE := Lib.hid (fun (k : Nat) (hk : k ≤ 1000) (U : World) (hU : Below w.heap.size w U) => cell8_any (B := B) (.slice A ls.length cap) ls k U (Nat.le_trans hB hU.size) (hM.below (hU.mono hB)) (by omega) (by omega) (by rw [hall 0 (by omega)]; exact hn) hk)
  have HTL : Hid ((turnedOf p by' ls).length = R) := by unfold Hid turnedOf; rw [List.length_map, List.length_range]; omega
  have HTN : Hid (∀ k, k < R → (turnedOf p by' ls).take (k + 1) = (turnedOf p by' ls).take k ++ [xorB (cellX ls (((k : Int) - by') % p).toNat) (cellX ls (((R : Int) - by') % p).toNat)]) := fun k hk => by
    rw [← hpR]
    unfold turnedOf
    rw [map_next _ 0 _ (by rw [List.length_range]; omega), List.getElem?_range (by omega)]
    rfl
  clear hM hall hR hcx
  generalize ls.length = N at *
  generalize turnedOf p by' ls = tu at *
  go_enter Tryz.func28, Tryz.ntmps28
  go_wp2
  go_loopw [7, 8] (fun v i wr => ∃ m : Nat, m ≤ R ∧ i = .int .i64 m ∧ RowM (fun _ => True) wr w.heap.size v (tu.take m) ∧ Below w.heap.size w wr) (fun _ i _ => R - (intOf i).toNat)
  case atStart => exact ⟨0, Nat.zero_le _, rfl, RowG.nil _ _ _ _ _ _, Below.refl _ _⟩
  case round =>
    obtain ⟨m, hm, rfl, hrow, hBr⟩ := hrel
    by_cases hlt : m < R
    · have hdec : decide ((m : Int) < (R : Int)) = true := by simp; omega
      have HNX := Lib.hid (HTN.out m hlt)
      have HPR : Hid ((tu.take m).length ≤ 1000) := by unfold Hid; rw [List.length_take]; omega
      generalize tu.take m = pre at *
      have hq1 : 0 ≤ ((m : Int) - by') % p ∧ ((m : Int) - by') % p < p := ⟨Int.emod_nonneg _ (by omega), Int.emod_lt_of_pos _ (by omega)⟩
      have hq2 : 0 ≤ ((R : Int) - by') % p ∧ ((R : Int) - by') % p < p := ⟨Int.emod_nonneg _ (by omega), Int.emod_lt_of_pos _ (by omega)⟩
      have P1 := HPL.out ((m : Int) - by') (by omega)
      have P2 := HPL.out ((R : Int) - by') (by omega)
      generalize ((m : Int) - by') % p = q1 at *
      generalize ((R : Int) - by') % p = q2 at *
      obtain ⟨k1, rfl⟩ : ∃ k : Nat, q1 = (k : Int) := ⟨q1.toNat, by omega⟩
      obtain ⟨k2, rfl⟩ : ∃ k : Nat, q2 = (k : Int) := ⟨q2.toNat, by omega⟩
      replace P1 := Lib.hid P1
      replace P2 := Lib.hid P2
      rw [Int.toNat_natCast, Int.toNat_natCast] at HNX
      have HROW := Lib.hid hrow
      have HVLT := Lib.hid (fun b e => RowG.own_lt hrow b e)
      have HVLE := Lib.hid (fun b e => RowG.own_le hrow b e)
      clear hrow
      go_wp2_with fail
      refine (P1.out _).mono ?_
      rintro e w' ⟨rfl, rfl⟩
      go_wp2_with fail
      refine (HCE.out k1 (by omega) _ hBr).mono ?_
      rintro e w1 ⟨a, rfl, ha, hB1⟩
      obtain ⟨Aa, ca, hae, _, _⟩ := id ha
      rw [HCX.out] at hae
      subst hae
      go_wp2_with fail
      refine (P2.out _).mono ?_
      rintro e w' ⟨rfl, rfl⟩
      go_wp2_with fail
      refine (HCE.out k2 (by omega) _ (below_in hBr hB1)).mono ?_
      rintro e w2 ⟨b, rfl, hb, hB2⟩
      obtain ⟨Ab, cb, hbe, _, _⟩ := id hb
      rw [HCX.out] at hbe
      subst hbe
      have ha2 := (ha.below hB2).more hB2.size
      have hBw2 := below_in (below_in hBr hB1) hB2
      have hB02 := below_in hB1 hB2
      have hL1 := Lib.hid (HCX.out k1)
      have hL2 := Lib.hid (HCX.out k2)
      clear ha hB1 hB2 P1 P2
      generalize cellX ls k1 = xa1 at *
      generalize cellX ls k2 = xb1 at *
      have hs02 := hB02.size
      have hsr := hBr.size
      obtain ⟨_, _, e1, _, hA1⟩ := ha2
      injection e1 with e1 _ _
      subst e1
      obtain ⟨_, _, e1, _, hA2⟩ := hb
      injection e1 with e1 _ _
      subst e1
      rw [hL1.out] at hA1
      rw [hL2.out] at hA2
      have HA1 := Lib.hid hA1
      have HA2 := Lib.hid hA2
      clear hA1 hA2
      have HXL : Hid ((xorB xa1 xb1).length = n) := by unfold Hid; rw [xorB_len]; exact hL1.out
      go_wp2
      obtain ⟨wq, hwq⟩ : ∃ x, x = wr := ⟨_, rfl⟩
      subst hwq
      go_loopw [11, 12] (fun v2 i wr => ∃ k : Nat, k ≤ n ∧ i = .int .i64 k ∧ OwnB wr w2.heap.size v2 ((xorB xa1 xb1).take k) ∧ Below w2.heap.size w2 wr) (fun _ i _ => n - (intOf i).toNat)
      case atStart => exact ⟨0, Nat.zero_le _, rfl, own_nil _ _, Below.refl _ _⟩
      case round =>
        obtain ⟨k, hk, rfl, hown, hBs⟩ := hrel
        by_cases hlt2 : k < n
        · have hdec2 : decide ((k : Int) < (n : Int)) = true := by simp; omega
          obtain ⟨b1, o1, rfl, hb1, hcell1⟩ := HA1.out (by omega)
          obtain ⟨b2, o2, rfl, hb2, hcell2⟩ := HA2.out (by omega)
          have hc1 : wr.cell? ⟨b1, o1 + k, none⟩ = some (.int .u8 ((at_ xa1 k).toNat : Int)) := (hBs.cell (p := ⟨b1, o1 + k, none⟩) hb1).trans (hcell1 k hlt2)
          have hc2 : wr.cell? ⟨b2, o2 + k, none⟩ = some (.int .u8 ((at_ xb1 k).toNat : Int)) := (hBs.cell (p := ⟨b2, o2 + k, none⟩) hb2).trans (hcell2 k hlt2)
          have HN := Lib.hid (xorB_take xa1 xb1 k (by have := hL1.out; omega))
          have hx := bits_u8 (at_ xa1 k) (at_ xb1 k)
          have hpl : ((xorB xa1 xb1).take k).length ≤ 1000000 := by rw [List.length_take]; omega
          have hs := hBs.size
          clear hcell1 hcell2
          generalize at_ xa1 k = x at *
          generalize at_ xb1 k = y at *
          generalize (xorB xa1 xb1).take k = pp at *
          have HO := Lib.hid (hown.grown_ ((grown_drew (World.grownBy.refl wr none)).trans (World.grownBy_alloc wr.drew (.cells #[.int .u8 ((x ^^^ y).toNat : Int)] 5) none)))
          have HY := Lib.hid (one_bytes wr.drew (x ^^^ y))
          have hbl1 : b1 < wr.heap.size := by omega
          have hbl2 : b2 < wr.heap.size := by omega
          have hkk1 : (0 : Int) ≤ (k : Int) := by omega
          have hkk2 : (k : Int) < (n : Int) := by omega
          go_wp2
          go_region_law (refine step_app _ rfl (.tmp 40) (.tmp 50) rfl w2.heap.size i0 Tryz.underlying28 hi hz0 hz1 hz2 _ pp rfl HO.out (wr.drew.heap.size + 1) _ [x ^^^ y] rfl HY.out (by simp; omega) (by simp; omega) ?_; intro v2 w3 hown2 hgrow2 _)
          all_goals go_wp2
          all_goals go_roundw
          all_goals (first
            | exact ⟨k + 1, by omega, by go_num, by rw [HN.out]; exact hown2, below_grown (hBs.drew.alloc hBs.size _) hgrow2 (by simp; omega) (fun g e => (World.ownsRow.lt hown g e).1)⟩
            | (simp [intOf]; omega))
        · obtain rfl : k = n := by omega
          have e1 : decide ((k : Int) < (k : Int)) = false := by simp
          rw [List.take_of_length_le (by rw [HXL.out]; exact Nat.le_refl _)] at hown
          have hfr := hown.fresh
          obtain ⟨A7, cp7, hu7, _, _⟩ := id hfr
          subst hu7
          generalize (xorB xa1 xb1).length = n7 at *
          have hcells : Below wr.heap.size wr (wr.alloc (.cells #[.slice A7 n7 cp7] 28)) := below_one wr _
          have hss := hBs.size
          have hcs := hcells.size
          have HROWM := Lib.hid (RowG.below HROW.out (below_in (below_in hB02 hBs) hcells))
          have HBLK := Lib.hid (Blk.new wr 28 #[.slice A7 n7 cp7])
          have HBY : Hid (BytesP (fun b => b < (wr.alloc (.cells #[.slice A7 n7 cp7] 28)).heap.size ∧ some b ≠ u7.ownBlock ∧ True) (wr.alloc (.cells #[.slice A7 n7 cp7] 28)) (.slice A7 n7 cp7) (xorB xa1 xb1)) := by
            obtain ⟨A8, cp8, e8, h8, hA8⟩ := hfr.below hcells
            refine ⟨A8, cp8, e8, h8, fun hp => ?_⟩
            obtain ⟨b, off, q1, q2, q3, q4⟩ := hA8 hp
            exact ⟨b, off, q1, ⟨q3, fun e => by have := HVLT.out b e.symm; omega, trivial⟩, q4⟩
          clear hfr hown
          go_wp2_with (at_builtin; refine wpList_pushM (T := 50) _ rfl _ _ rfl Tryz.underlying50 pre rfl HROWM.out wr.heap.size 28 _ (xorB xa1 xb1) rfl HBLK.out HBY.out (by have := HPR.out; omega) (by omega) ?_; intro v' w3 hrow4 hgrow hown)
          go_roundw
          case rel => exact ⟨m + 1, by omega, by go_num, by rw [HNX.out]; exact hrow4, below_grown (below_in hBr (below_in (below_in hB02 hBs) hcells)) hgrow (by omega) (fun g e => HVLE.out g e)⟩
          case measure => simp [intOf]; omega
    · obtain rfl : m = R := by omega
      have e1 : decide ((m : Int) < (m : Int)) = false := by simp
      have HE : Hid (tu.take m = tu) := by unfold Hid; rw [List.take_of_length_le]; rw [HTL.out]; exact Nat.le_refl _
      rw [HE.out] at hrow
      go_wp2
      go_ret
      exact ⟨_, rfl, RowM.many hrow fun b hb _ => hb, hBr⟩
set_option maxRecDepth 100000 in
/-- append of columns at an operation of a drawn region. -/
theorem opIn_appC {F : Fence} {nF : Nat} {T : TypeId} {Q : Nat → Prop} {base : Nat} {v v2 : Value} (w : World) {o : Oper} {a : Act} {K : Act → World → Prop} {QQ : Exit → Act → World → Prop} (s x : Operand)
    (ho : o.op = .call { callee := .builtin .append, args := #[s, x], argTypes := #[T, T] }) (hT : Tryz.prog.underlying T = some (.slice 50)) (css ds : List (List (List UInt8))) (hs : a.eval s = v) (h : RowC Q w base v css) (hx : a.eval x = v2)
    (h2 : colsR.R (fun b => b < w.heap.size ∧ some b ≠ v.ownBlock ∧ Q b) w v2 ds) (h0 : 0 < ds.length) (hlen : css.length ≤ 100000) (hlen2 : ds.length ≤ 100000) (hbase : base ≤ w.heap.size)
    (hK : ∀ v' w', RowC Q w' base v' (css ++ ds) → w.grownBy w' v.ownBlock → K (a.put o.dst v') w') : Oper.wpIn F nF Tryz.prog o a w K QQ := by
  obtain ⟨i, hi, hz0, hz1, hz2⟩ := info_parts Tryz.infoCol
  obtain ⟨v', w', hrun, h1, h3, h4⟩ := RowG.append i hi hz0 hz1 hz2 T o.type hT h h2 (fun A cap e hA => by
    obtain ⟨A2, c2, e2, _, hA2⟩ := h2
    rw [e] at e2
    injection e2 with _ e3 _
    omega) hlen hlen2 hbase
  unfold Oper.wpIn
  refine ⟨by simp [Oper.about, ho, resolve, Target.leads, Sem.run_pure], ?_⟩
  rw [Oper.semAt_plain F _ _ (by rw [ho]; intro c hc'; cases hc')]
  simp [execOp, ho, resolve, invoke, builtin, hs, hx, hrun, Result.andThen, Oper.uponIn]
  exact hK v' w' h1 h3
end Go.Proofs.YtcgnhfiadeceiaaGreatDoor.T

