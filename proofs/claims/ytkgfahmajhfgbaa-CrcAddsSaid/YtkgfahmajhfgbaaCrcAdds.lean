/- The law CrcAdds answers true for every input and leaves its arguments as they were. -/
import Derived.Test.YtkgfahmajhfgbaaRowKit
import Derived.ShutString
import Derived.ChangeOld
namespace Go.Proofs.Ytkgfahmajhfgbaa.crcAdds
open Go.ChangeShapes Go.WideShapes Go.ChangeAt Go.RowKit
open Go.ChangeMaps (open_string shut_string)
set_option linter.unusedVariables false


/-- What the loop has made of the three lists when k rounds are over. -/
def Adds (b : List UInt8) (Bc Bd Ba k : Nat) (W : World) : Prop :=
  ∃ cl dl al : List UInt8, cl.length = b.length ∧ dl.length = b.length ∧ al.length = b.length ∧ Row W Bc cl ∧ Row W Bd dl ∧ Row W Ba al ∧
    ∀ i, i < k → al[i]?.getD 0 = (b[i]?.getD 0) ^^^ (cl[i]?.getD 0) ^^^ (dl[i]?.getD 0)

theorem adds_start {b : List UInt8} {Bc Bd Ba : Nat} {W : World} (h1 : Row W Bc (List.replicate b.length 0)) (h2 : Row W Bd (List.replicate b.length 0)) (h3 : Row W Ba (List.replicate b.length 0)) : Adds b Bc Bd Ba 0 W :=
  ⟨_, _, _, List.length_replicate, List.length_replicate, List.length_replicate, h1, h2, h3, fun i hi => absurd hi (Nat.not_lt_zero i)⟩

theorem Adds.next {b cl dl al : List UInt8} {Bc Bd Ba k : Nat} {W : World} (rc : Row W Bc cl) (rd : Row W Bd dl) (ra : Row W Ba al) (h1 : cl.length = b.length) (h2 : dl.length = b.length) (h3 : al.length = b.length)
    (n1 : Bc ≠ Bd) (n2 : Bc ≠ Ba) (n3 : Bd ≠ Ba) (hx : ∀ i, i < k → al[i]?.getD 0 = (b[i]?.getD 0) ^^^ (cl[i]?.getD 0) ^^^ (dl[i]?.getD 0)) (hk : k < b.length) {x p q : UInt8} (hq : (b[k]?.getD 0) ^^^ x ^^^ p = q) :
    Adds b Bc Bd Ba (k + 1) ((((W.setCell ⟨Bc, k, none⟩ (.int .u8 (x.toNat : Int))).setCell ⟨Bd, k, none⟩ (.int .u8 (p.toNat : Int))).setCell ⟨Ba, k, none⟩ (.int .u8 (q.toNat : Int)))) := by
  refine ⟨cl.set k x, dl.set k p, al.set k q, by simp [h1], by simp [h2], by simp [h3], ((rc.set_ k x).far n1 _).far n2 _, ((rd.far n1.symm _).set_ k p).far n3 _, ((ra.far n2.symm _).far n3.symm _).set_ k q, fun i hi => ?_⟩
  by_cases h : i = k
  · subst h
    rw [List.getElem?_set_self (by omega), List.getElem?_set_self (by omega), List.getElem?_set_self (by omega)]
    exact hq.symm
  · have := hx i (by omega)
    have hne : k ≠ i := fun e => h e.symm
    rw [List.getElem?_set_ne hne, List.getElem?_set_ne hne, List.getElem?_set_ne hne]
    exact this

set_option maxRecDepth 100000 in
set_option maxHeartbeats 1000000 in
theorem walk (a0 : Option Addr) (len0 cap0 : Nat) (z0 : List Int) (a1 a2 : Int) (w : World) (w0 : IsRow .u8 w a0 len0 cap0 z0) (w1 : (Lit.int .u8 a1).wf = true) (w2 : (Lit.int .u8 a2).wf = true) :
    Calls Try.prog 8 #[.slice a0 len0 cap0, .int .u8 a1, .int .u8 a2] w fun e w' => e = .returned (.bool true) ∧ Below w.heap.size w w' := by
  obtain ⟨l, rfl, hb⟩ := row_bytes w0
  by_cases hl : l.length ≤ 2000
  · have hdec : decide ((2000 : Int) < (l.length : Int)) = false := by simp; omega
    obtain ⟨i0, hi, hz0, hz1, hz2⟩ := info_parts Try.infoByte
    have hmk : ∀ W : World, (Instr.makeSlice 24 (.int .i64 (l.length : Int)) (.int .i64 (l.length : Int))).run Try.prog W = .ok (.slice (some ⟨W.heap.size, 0, none⟩) l.length l.length) (W.alloc (.cells (madeCells #[.int .u8 0] l.length) 5)) := by
      intro W
      have := run_make (P := Try.prog) W 24 5 i0 (.int .u8 0) Try.underlying24 hi hz0 .i64 .i64 (l.length : Int) (l.length : Int) (by omega) (by omega) (by rw [hz2]; omega) (by omega)
      rw [hz1, Nat.mul_one, show ((l.length : Int)).toNat = l.length by omega] at this
      exact this
    go_enter Try.func8, Try.ntmps8
    go_upto_region 3 with fail
    go_cut [7, 8, 9] (fun c d al wx => ∃ Bc Bd Ba : Nat, c = .slice (some ⟨Bc, 0, none⟩) l.length l.length ∧ d = .slice (some ⟨Bd, 0, none⟩) l.length l.length ∧ al = .slice (some ⟨Ba, 0, none⟩) l.length l.length ∧ Bc ≠ Bd ∧ Bc ≠ Ba ∧ Bd ≠ Ba ∧ w.heap.size ≤ Bc ∧ w.heap.size ≤ Bd ∧ w.heap.size ≤ Ba ∧ Hid (Adds l Bc Bd Ba 0 wx) ∧ Below w.heap.size w wx)
    case first =>
      have r0 : Row (((w.alloc (.cells (madeCells #[.int .u8 0] l.length) 5)).alloc (.cells (madeCells #[.int .u8 0] l.length) 5)).alloc (.cells (madeCells #[.int .u8 0] l.length) 5)) w.heap.size (List.replicate l.length 0) := ((Row.made w _).alloc _).alloc _
      have r1 : Row (((w.alloc (.cells (madeCells #[.int .u8 0] l.length) 5)).alloc (.cells (madeCells #[.int .u8 0] l.length) 5)).alloc (.cells (madeCells #[.int .u8 0] l.length) 5)) (w.heap.size + 1) (List.replicate l.length 0) := by
        have := (Row.made (w.alloc (.cells (madeCells #[.int .u8 0] l.length) 5)) l.length).alloc (.cells (madeCells #[.int .u8 0] l.length) 5)
        rwa [World.size_alloc] at this
      have r2 : Row (((w.alloc (.cells (madeCells #[.int .u8 0] l.length) 5)).alloc (.cells (madeCells #[.int .u8 0] l.length) 5)).alloc (.cells (madeCells #[.int .u8 0] l.length) 5)) (w.heap.size + 1 + 1) (List.replicate l.length 0) := by
        have := Row.made ((w.alloc (.cells (madeCells #[.int .u8 0] l.length) 5)).alloc (.cells (madeCells #[.int .u8 0] l.length) 5)) l.length
        rwa [World.size_alloc, World.size_alloc] at this
      have hB : Below w.heap.size w (((w.alloc (.cells (madeCells #[.int .u8 0] l.length) 5)).alloc (.cells (madeCells #[.int .u8 0] l.length) 5)).alloc (.cells (madeCells #[.int .u8 0] l.length) 5)).drew :=
        ((((Below.refl _ w).alloc (Nat.le_refl _) _).alloc (by simp) _).alloc (by simp; omega) _).drew
      have R0 := Lib.hid r0
      have R1 := Lib.hid r1
      have R2 := Lib.hid r2
      clear r0 r1 r2
      go_region
      all_goals (go_wp2_with fail; go_meet; exact ⟨_, _, _, rfl, rfl, rfl, by omega, by omega, by omega, by omega, by omega, by omega, Lib.hid (adds_start (by first | exact R0.out | exact R1.out | exact R2.out) (by first | exact R0.out | exact R1.out | exact R2.out) (by first | exact R0.out | exact R1.out | exact R2.out)), hB⟩)
    case rest =>
      obtain ⟨Bc, Bd, Ba, rfl, rfl, rfl, n1, n2, n3, n4, n5, n6, HA, hBw⟩ := hcut
      obtain ⟨X0, rfl⟩ := u8_of w1
      obtain ⟨Y0, rfl⟩ := u8_of w2
      clear w0 w1 w2 hmk hi hz0 hz1 hz2
      have HBY := Lib.hid hb
      obtain ⟨_, _, hEA, _, hA⟩ := id hb
      injection hEA with hE1 hE2 hE3
      subst hE1 hE3
      clear hb
      go_wp2
      go_loopw [1, 2, 10] (fun x y i wr => ∃ (k : Nat) (X Y : UInt8), k ≤ l.length ∧ i = .int .i64 k ∧ x = .int .u8 (X.toNat : Int) ∧ y = .int .u8 (Y.toNat : Int) ∧ Hid (Adds l Bc Bd Ba k wr) ∧ Below w.heap.size w wr) (fun _ _ i _ => l.length - (intOf i).toNat)
      case atStart => exact ⟨0, X0, Y0, Nat.zero_le _, rfl, rfl, rfl, HA, hBw⟩
      case round =>
        obtain ⟨k, X, Y, hk, rfl, rfl, rfl, HK, hBk⟩ := hrel
        by_cases hlt : k < l.length
        · have hdec2 : decide ((k : Int) < (l.length : Int)) = true := by simp; omega
          obtain ⟨b, off, rfl, hbl, hcell⟩ := hA (by omega)
          obtain ⟨cl, dl, al, h1, h2, h3, rc, rd, ra, hx⟩ := HK.out
          have cb1 : wr.cell? ⟨b, off + (l.length - 1 - k), none⟩ = some (.int .u8 ((l[l.length - 1 - k]?.getD 0).toNat : Int)) := (hBk.cell (p := ⟨b, off + (l.length - 1 - k), none⟩) hbl).trans (hcell _ (by omega))
          have cbk : wr.cell? ⟨b, off + k, none⟩ = some (.int .u8 ((l[k]?.getD 0).toNat : Int)) := (hBk.cell (p := ⟨b, off + k, none⟩) hbl).trans (hcell _ hlt)
          generalize l[l.length - 1 - k]?.getD 0 = c1 at cb1
          generalize hck : l[k]?.getD 0 = ck at cbk
          obtain ⟨X1, hX1⟩ := u8_mod ((5 * (X.toNat : Int) % 256 + 3))
          obtain ⟨Y1, hY1⟩ := u8_mod ((13 * (Y.toNat : Int) % 256 + 7))
          have hxp := bits_u8 Y1 c1
          generalize Y1 ^^^ c1 = p at hxp
          have hxq := bits_u8 ck X1
          generalize hq1 : ck ^^^ X1 = q1 at hxq
          have hxr := bits_u8 q1 p
          generalize hq : q1 ^^^ p = q at hxr
          have HN := Lib.hid (Adds.next rc rd ra h1 h2 h3 n1 n2 n3 hx hlt (x := X1) (p := p) (q := q) (by rw [hck, hq1, hq]))
          have cc := rc.cell (k := k) (by omega)
          have cd := rd.cell (k := k) (by omega)
          have ca := ra.cell (k := k) (by omega)
          have fc := rc.frozen k
          have fd := rd.frozen k
          have fa := ra.frozen k
          have e1 : ((wr.setCell ⟨Bc, k, none⟩ (.int .u8 (X1.toNat : Int))).setCell ⟨Bd, k, none⟩ (.int .u8 (p.toNat : Int))).cell? ⟨b, off + k, none⟩ = some (.int .u8 (ck.toNat : Int)) := by
            rw [World.cell?_setCell_other _ _ _ _ (fun e => by injection e; omega), World.cell?_setCell_other _ _ _ _ (fun e => by injection e; omega)]; exact cbk
          have e2 : ((wr.setCell ⟨Bc, k, none⟩ (.int .u8 (X1.toNat : Int))).setCell ⟨Bd, k, none⟩ (.int .u8 (p.toNat : Int))).cell? ⟨Bc, k, none⟩ = some (.int .u8 (X1.toNat : Int)) := by
            rw [World.cell?_setCell_other _ _ _ _ (fun e => by injection e; omega)]; exact World.cell?_setCell_same' _ _ _ (by rw [cc]; rfl)
          have e3 : ((wr.setCell ⟨Bc, k, none⟩ (.int .u8 (X1.toNat : Int))).setCell ⟨Bd, k, none⟩ (.int .u8 (p.toNat : Int))).cell? ⟨Bd, k, none⟩ = some (.int .u8 (p.toNat : Int)) :=
            World.cell?_setCell_same' _ _ _ (by rw [World.cell?_setCell_other _ _ _ _ (fun e => by injection e; omega), cd]; rfl)
          have e4 : ((wr.setCell ⟨Bc, k, none⟩ (.int .u8 (X1.toNat : Int))).setCell ⟨Bd, k, none⟩ (.int .u8 (p.toNat : Int))).cell? ⟨Ba, k, none⟩ = some (.int .u8 ((al[k]?.getD 0).toNat : Int)) := by
            rw [World.cell?_setCell_other _ _ _ _ (fun e => by injection e; omega), World.cell?_setCell_other _ _ _ _ (fun e => by injection e; omega)]; exact ca
          clear hck hq1 hq hcell hA rc rd ra hx HK h1 h2 h3
          go_wp2
          go_region
          all_goals go_wp2
          go_roundw
          case rel => exact ⟨k + 1, X1, Y1, by omega, by go_num, by rw [hX1], by rw [hY1], Lib.hid HN.out, (((hBk.setCell n4 _).setCell n5 _).setCell n6 _).drew⟩
          case measure => simp [intOf]; omega
        · obtain rfl : k = l.length := by omega
          obtain ⟨cl, dl, al, h1, h2, h3, rc, rd, ra, hx⟩ := HK.out
          have hs := sum_xor3 l cl dl al h1.symm h2.symm h3.symm hx
          have b1 := sum_lt l
          have b2 := sum_lt cl
          have b3 := sum_lt dl
          have q1 := u32_xor_nat _ _ b1 b2
          have q2 := u32_xor_nat _ _ (xor_lt b1 b2) b3
          rw [← hs] at q2
          have y1 := Lib.hid (ra.bytes h3)
          have y2 := Lib.hid ((HBY.out.below hBk).more hBk.size)
          have y3 := Lib.hid (rc.bytes h1)
          have y4 := Lib.hid (rd.bytes h2)
          have l1 : al.length ≤ 140737488351232 := by omega
          have l2 : l.length ≤ 140737488351232 := by omega
          have l3 : cl.length ≤ 140737488351232 := by omega
          have l4 : dl.length ≤ 140737488351232 := by omega
          clear hs hx h1 h2 h3 rc rd ra HK hA
          generalize sum l ^^^ sum cl = s1 at q1 q2
          go_wp2_with fail
          refine (sum_one l1 y1.out).mono ?_
          rintro e w1 ⟨rfl, hB1⟩
          go_wp2_with fail
          refine (sum_one l2 ((y2.out.below hB1).more hB1.size)).mono ?_
          rintro e w2 ⟨rfl, hB2⟩
          have hB12 := Below.next hB1 hB2
          go_wp2_with fail
          refine (sum_one l3 ((y3.out.below hB12).more hB12.size)).mono ?_
          rintro e w3 ⟨rfl, hB3⟩
          have hB13 := Below.next hB12 hB3
          go_wp2_with fail
          refine (sum_one l4 ((y4.out.below hB13).more hB13.size)).mono ?_
          rintro e w4 ⟨rfl, hB4⟩
          have hB14 := Below.next hB13 hB4
          go_wp2_with (go_at_call 10; refine (works_any _).mono ?_; rintro e w5 ⟨rfl, hB5⟩)
          go_ret
          exact ⟨rfl, Below.next hBk (Below.next hB14 hB5)⟩
  · have hdec : decide ((2000 : Int) < (l.length : Int)) = true := by simp; omega
    clear hl
    go_enter Try.func8, Try.ntmps8
    go_wp2_with (go_at_call 10; refine (works_any _).mono ?_; rintro e w3 ⟨rfl, hB3⟩)
    go_ret
    exact ⟨rfl, hB3⟩

set_option maxRecDepth 100000 in
theorem lifted (os : Os) (started : os.Started) (H : Type) (enc : TypeId × Value → H) :
    ReturnsInHanded {} Try.checked os 8 .any (Rows.crcAddsSpec.pre6 enc Try.prog Try.f8 Rows.crcAddsRow.domain false) (Rows.crcAddsSpec.post enc Try.prog Try.f8 false true false false) := by
  refine returnsInHanded_of_change (C := Try.checked) own started (by kernel_rfl) Try.func8
    (ChangeSpec.witness6 (enc := enc) (C := Try.checked) false ⟨#[], #[.slice none 0 0, .int .u8 0, .int .u8 0], []⟩ 8 (by kernel_rfl) (by kernel_rfl) (by kernel_rfl) (by kernel_rfl)) ?_
  intro W base args ds gs before hval0 hW hcnd _
  have hval : ∀ (j : Nat) t v, Try.f8.params[j]? = some t → args[j]? = some v → Value.okWide Try.prog W .any base t v := hval0
  have hW' := hW
  obtain ⟨p, q, hA0, hV, rfl, hfz, hnd⟩ := hW
  have hA : DataW.TrodAll enc Try.prog W 0 (fun _ => true) true Try.f8.params.toList args.toList ds p := hA0
  rw [Try.params8] at hA hval
  obtain ⟨v0, vs0, d0, ds0, p0, q0, hargs, rfl, rfl, h0, r0⟩ := trodAll_cons hA
  obtain ⟨v1, vs1, d1, ds1, p1, q1, rfl, rfl, rfl, h1, r1⟩ := trodAll_cons r0
  obtain ⟨v2, vs2, d2, ds2, p2, q2, rfl, rfl, rfl, h2, r2⟩ := trodAll_cons r1
  obtain ⟨rfl, rfl, rfl⟩ := trodAll_nil r2
  obtain rfl : args = #[v0, v1, v2] := by cases args; simp_all
  obtain ⟨rfl, rfl⟩ := trodVars_none hV
  obtain ⟨a0, len0, cap0, rfl⟩ := okWide_slice Try.underlying24 (hval 0 24 v0 rfl rfl)
  have k0 := h0
  have lt0 : ∀ x ∈ p0, x.block < W.heap.size := by obtain ⟨m, hm⟩ := k0; exact DataW.trod_lt m _ _ _ hm
  obtain ⟨z0, w0⟩ : ∃ zs, IsRow .u8 W a0 len0 cap0 zs := by
    obtain ⟨fuel, hf⟩ := h0
    rcases open_ints Try.underlying24 Try.underlying5 (by kernel_rfl) hf with ⟨hcs, _⟩ | ⟨x, l, c, zs, hcs, _, hl, hm, hz, _, hcell, hwz⟩
    · simp [Value.cells] at hcs
      obtain ⟨rfl, rfl, rfl⟩ := hcs
      exact ⟨[], .inl ⟨rfl, rfl, rfl, rfl⟩⟩
    · simp [Value.cells] at hcs
      obtain ⟨rfl, rfl, rfl⟩ := hcs
      exact ⟨zs, .inr ⟨_, rfl, hl, hm, by simpa using hz, hcell, hwz⟩⟩
  obtain ⟨a1, rfl, rfl, rfl, w1⟩ := open_int Try.underlying5 (hval 1 5 v1 rfl rfl) h1
  obtain ⟨a2, rfl, rfl, rfl, w2⟩ := open_int Try.underlying5 (hval 2 5 v2 rfl rfl) h2
  clear hA0 hval0
  refine (walk a0 len0 cap0 z0 a1 a2 W w0 w1 w2).mono fun e W' ⟨he, bel⟩ => ?_
  subst he
  exact ⟨_, rfl, _, _, _, [], _, [], hW', trodAll_mk1 (shut_bool Try.underlying4 _), (trodAll_cons_mk (Below.trod laidOut (by kernel_rfl) (of_decide_eq_true (by kernel_rfl)) k0 bel lt0) (trodAll_cons_mk (shut_int Try.underlying5 w1) (trodAll_cons_mk (shut_int Try.underlying5 w2) trodAll_mk0))), rfl, bel.frame _, fun h => by cases h⟩

theorem over : Rows.crcAddsRow.holds Try.pinned (OpenSpec.ofChange Rows.crcAddsSpec) :=
  OpenClaim.holds_of_wide 8 Try.f8 rfl rfl rfl rfl rfl rfl rfl ⟨rfl, rfl, rfl, rfl, rfl⟩ rfl rfl rfl rfl rfl (by kernel_rfl) Try.func8 (by kernel_rfl)
    (of_decide_eq_true (by kernel_rfl)) (by unfold Func.isWrapper; first | (rw [if_pos (by decide +kernel)]; kernel_rfl) | (rw [if_neg (by decide +kernel)]; exact ⟨rfl, rfl⟩))
    (fun os started H enc _ => lifted os started H enc)

theorem crcAdds_holds : Rows.CrcAddsSaid := over
end Go.Proofs.Ytkgfahmajhfgbaa.crcAdds
