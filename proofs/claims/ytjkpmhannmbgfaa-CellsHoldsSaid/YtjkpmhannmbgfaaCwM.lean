/- Rows of the call's own: numbers, lists; one more laid behind. -/
import Derived.Test.YtjkpmhannmbgfaaCwL
namespace Go.Proofs.Ytjkpmhannmbgfaa
open Go.RowKit Go.Shelf

theorem Try.infoInt : (Try.prog.info? 3).map (fun i => (i.zero, i.size, i.bytes)) = some (some (.int .i64 0), 1, 8) := by kernel_rfl

/-- append of one more to a row of the call's own, of elements of one cell. -/
theorem wpList_one (w : World) {ops : Array Oper} {rest : List Oper} {o : Oper} {a : Act} {Q : Exit → Act → World → Prop} (hgd : o.guard = none) (s x : Operand) (t e : TypeId) (z : Value) (bytes : Nat)
    (ho : o.op = .call { callee := .builtin .append, args := #[s, x], argTypes := #[t, t] }) (ht : Try.prog.underlying t = some (.slice e)) (hinfo : (Try.prog.info? e).map (fun i => (i.zero, i.size, i.bytes)) = some (some z, 1, bytes)) (hzs : z.cells.size = 1)
    (base : Nat) (v : Value) (xs : List Value) (hs : a.eval s = v) (n : Nat) (hown : w.ownsRow base e 1 v n xs) (ad : Addr) (c : Nat) (u : Value) (hx : a.eval x = .slice (some ad) 1 c) (hu : w.cell? (ad.add 0) = some u) (h1 : u.oneCell' = true)
    (hlen : n ≤ 1000000000) (hby2 : bytes ≤ 100) (hbase : base ≤ w.heap.size)
    (h : ∀ v' w', w'.ownsRow base e 1 v' (n + 1) (xs ++ [u]) → w.grownBy w' v.ownBlock → (v'.ownBlock = v.ownBlock ∨ v'.ownBlock = some w.heap.size) → wpList Try.prog ops Q rest (a.put o.dst v') w') : wpList Try.prog ops Q (o :: rest) a w :=
  wpList_plain hgd fun K hK => by
    obtain ⟨i, hi, hz0, hz1, hz2⟩ := info_parts hinfo
    have hb : (n + 1) * bytes ≤ 140737488355328 := by
      have := Nat.mul_le_mul (show n + 1 ≤ 1000000001 by omega) hby2
      omega
    obtain ⟨v', w', hrun, r1, r2, _, r3⟩ := run_append_own_at (P := Try.prog) w base t o.type e i z 1 bytes ht hi hz0 hz1 hz2 hzs (by omega) v n xs hown ad 1 c [u] (by simp) (by
      intro j y hy
      match j with
      | 0 => simp at hy; subst hy; exact hu
      | j + 1 => simp at hy) (by intro y hy; obtain rfl : y = u := (by simpa using hy); exact h1) (by unfold maxLen; omega) hb hbase
    unfold Oper.wp execOp
    simp only [ho, resolve, invoke, builtin, Sem.run_bind, Sem.run_pure, Result.andThen_ok, List.map_toArray, List.map_cons, List.map_nil, hs, hx, hrun]
    exact hK _ _ (h v' w' r1 r2 r3)

/-- The value v owns a row of its own, whose cells are the numbers l. -/
def OwnI (w : World) (base : Nat) (v : Value) (l : List Nat) : Prop := w.ownsRow base 3 1 v l.length (l.map fun n : Nat => Value.int .i64 (n : Int))
theorem ownI_nil (w : World) (base : Nat) : OwnI w base (.slice none 0 0) [] := World.ownsRow_nil w base _ 1
theorem OwnI.grown_ {w w' : World} {base : Nat} {v : Value} {l : List Nat} (h : OwnI w base v l) (hg : w.grownBy w' none) : OwnI w' base v l :=
  World.ownsRow.kept h hg (by cases hv : v.ownBlock <;> simp)

/-- What the document tells of bits. -/
def bitsL (l : List UInt8) : List Nat := places (cellBytes l)

theorem bit_rem (x : UInt8) (i : Nat) : ((x.toNat : Int) / 2 ^ i).tmod 2 = if bit x i = true then 1 else 0 := by
  rw [show (x.toNat : Int) / 2 ^ i = ((x.toNat / 2 ^ i : Nat) : Int) by push_cast; rfl, show (2 : Int) = ((2 : Nat) : Int) from rfl, ← Int.ofNat_tmod]
  unfold bit
  by_cases h : x.toNat / 2 ^ i % 2 = 1
  · rw [h]; simp
  · rw [show x.toNat / 2 ^ i % 2 = 0 by omega]; simp

set_option maxHeartbeats 400000 in
theorem rbits_any (v : Value) (l : List UInt8) (w : World) (hb : Bytes w.heap.size w v l) :
    Calls Try.prog 17 #[v] w fun e w' => ∃ v', e = .returned v' ∧ OwnI w' w.heap.size v' (bitsL l) ∧ Below w.heap.size w w' := by
  have HR := fun (W : World) (hB : Below w.heap.size w W) => right_any v l W (hb.below hB)
  obtain ⟨A, cap, rfl, _, hA⟩ := hb
  by_cases hc : Cell l
  · have HP : bitsL l = places l := by unfold bitsL cellBytes; rw [if_pos hc]
    rw [HP]
    rw [decide_eq_true hc] at HR
    have HR' := Lib.hid HR
    have h64 := hc.2
    clear HR hc HP
    go_enter Try.func17, Try.ntmps17
    go_wp2_with fail
    go_loopw [3, 4] (fun v i wr => ∃ k : Nat, k ≤ l.length ∧ i = .int .i64 k ∧ OwnI wr w.heap.size v (came l k 0) ∧ Below w.heap.size w wr) (fun _ i _ => l.length - (intOf i).toNat)
    case atStart => exact ⟨0, Nat.zero_le _, rfl, ownI_nil _ _, Below.refl _ _⟩
    case round =>
      obtain ⟨k, hk, rfl, hown, hB⟩ := hrel
      by_cases hlt : k < l.length
      · have hdec : decide ((k : Int) < (l.length : Int)) = true := by simp; omega
        obtain ⟨b1, off, rfl, hb1, hcell⟩ := hA (by omega)
        have hck := hcell k hlt
        have HY := Lib.hid (fun i => came_yes l k i)
        have HN := Lib.hid (fun i => came_no l k i)
        have HO := Lib.hid (came_over l k 8 (bitLen_le _))
        have HLen := Lib.hid (fun i => came_len l k i)
        have hck2 : w.cell? ⟨b1, off + k, none⟩ = some (.int .u8 ((at_ l k).toNat : Int)) := hck
        clear hck hcell
        generalize at_ l k = x at *
        go_wp2_with (go_at_call 19; refine (HR'.out _ hB).mono ?_; rintro e w' ⟨rfl, rfl⟩)
        go_loopw [3, 5] (fun v j wi => ∃ i : Nat, i ≤ 8 ∧ j = .int .i64 i ∧ OwnI wi w.heap.size v (came l k i) ∧ Below w.heap.size w wi) (fun _ j _ => 8 - (intOf j).toNat)
        case atStart => exact ⟨0, Nat.zero_le _, rfl, hown, hB⟩
        case round =>
          obtain ⟨i, hi, rfl, hown, hB⟩ := hrel
          have hcx := (hB.cell (p := ⟨b1, off + k, none⟩) hb1).trans hck2
          by_cases hl8 : i < 8
          · have hd8 : decide ((i : Int) < 8) = true := by simp; omega
            have hx8 := byte_lt x
            have hbr := bit_rem x i
            by_cases hbit : bit x i = true
            · rw [if_pos hbit] at hbr
              have HC := Lib.hid (HY.out i hbit)
              have HO2 := Lib.hid (hown.grown_ (World.grownBy_alloc wr (.cells #[.int .i64 (8 * (k : Int) + (i : Int))] 3) none))
              have HU := Lib.hid (Blk.one (Blk.new wr 3 #[.int .i64 (8 * (k : Int) + (i : Int))]))
              have hcl := HLen.out i
              have hBs := hB.size
              go_wp2_with (at_builtin; refine wpList_one _ rfl _ _ 34 3 (.int .i64 0) 8 rfl Try.underlying34 Try.infoInt rfl w.heap.size _ _ rfl _ HO2.out ⟨wr.heap.size, 0, none⟩ 1 _ rfl HU.out rfl (by omega) (by omega) (by simp; omega) ?_; intro v2 w2 hown2 hgrow2 _)
              go_roundw
              case rel =>
                refine ⟨i + 1, by omega, by go_num, ?_, below_grown (hB.alloc hB.size _) hgrow2 (by simp; omega) (fun g e => (World.ownsRow.lt HO2.out g e).1)⟩
                unfold OwnI
                rw [HC.out, List.map_append, List.length_append]
                exact hown2
              case measure => simp [intOf]; omega
            · rw [if_neg hbit] at hbr
              have HC := Lib.hid (HN.out i (by simpa using hbit))
              go_wp2
              go_roundw
              case rel => exact ⟨i + 1, by omega, by go_num, by rw [HC.out]; exact hown, hB⟩
              case measure => simp [intOf]; omega
          · obtain rfl : i = 8 := by omega
            rw [HO.out] at hown
            go_wp2
            go_roundw
            case rel => exact ⟨k + 1, by omega, by go_num, hown, hB⟩
            case measure => simp [intOf]; omega
      · obtain rfl : k = l.length := by omega
        have e1 : decide ((l.length : Int) < (l.length : Int)) = false := by simp
        rw [came_all] at hown
        go_wp2
        go_ret
        exact ⟨_, rfl, hown, hB⟩
  · have HP : bitsL l = [] := by unfold bitsL cellBytes; rw [if_neg hc]; rfl
    rw [HP]
    rw [decide_eq_false hc] at HR
    have HR' := Lib.hid HR
    clear HR hc HP
    go_enter Try.func17, Try.ntmps17
    go_wp2_with fail
    go_loopw [3, 4] (fun v i wr => v = .slice none 0 0 ∧ i = .int .i64 0 ∧ wr = w) (fun _ _ _ => 0)
    case atStart => exact ⟨rfl, rfl, rfl⟩
    case round =>
      obtain ⟨rfl, rfl, rfl⟩ := hrel
      by_cases hlt : 0 < l.length
      · have hdec : decide ((0 : Int) < (l.length : Int)) = true := by simp; omega
        go_wp2_with (go_at_call 19; refine (HR'.out _ (Below.refl _ _)).mono ?_; rintro e w' ⟨rfl, rfl⟩)
        go_ret
        exact ⟨_, rfl, ownI_nil _ _, Below.refl _ _⟩
      · have hdec : decide ((0 : Int) < (l.length : Int)) = false := decide_eq_false (by omega)
        go_wp2
        go_ret
        exact ⟨_, rfl, ownI_nil _ _, Below.refl _ _⟩
end Go.Proofs.Ytjkpmhannmbgfaa
