/- - -/
import Derived.Test.YtcahoigdoohjaaaGreatDoorVG20
import Derived.Test.YtcahoigdoohjaaaGreatDoorVG11
import Derived.Test.YtcahoigdoohjaaaGreatDoorVG13
import Derived.Lib.AppendZeros
import Derived.Laws.OwnMore
namespace Go.Proofs.YtcahoigdoohjaaaGreatDoor.Cd
open Go.RowKit Go.Shelf Go.Proofs.YtcahoigdoohjaaaGreatDoor.C Go.Proofs.YtcahoigdoohjaaaGreatDoor.E
set_option linter.unusedSimpArgs false
set_option linter.unusedVariables false

theorem flat_nextA {α : Type} (uss : List (List α)) (k : Nat) (hk : k < uss.length) : (uss.take (k + 1)).flatten = (uss.take k).flatten ++ (uss[k]?.getD []) := by
  rw [List.take_succ_eq_append_getElem hk, List.flatten_append, List.getElem?_eq_getElem hk]; simp
theorem flat_leA {α : Type} (uss : List (List α)) (k : Nat) : (uss.take k).flatten.length ≤ uss.flatten.length := by
  have h : uss.flatten = (uss.take k).flatten ++ (uss.drop k).flatten := by rw [← List.flatten_append, List.take_append_drop]
  rw [h, List.length_append]
  omega
theorem wpList_zerosA (w : World) {ops : Array Oper} {rest : List Oper} {o : Oper} {a : Act} {Q : Exit → Act → World → Prop} (hgd : o.guard = none) (s x : Operand)
    (ho : o.op = .call { callee := .builtin .append, args := #[s, x], argTypes := #[51, 3] }) (n : Nat) (h0 : 0 < n) (hn : n ≤ 1000000)
    (hs : a.eval s = .slice none 0 0) (hx : a.eval x = .int .i64 (n : Int))
    (h : ∀ c w', OwnA w' w.heap.size (.slice (some ⟨w.heap.size, 0, none⟩) 0 c) [] → Below w.heap.size w w' → n ≤ c → wpList Tryz.prog ops Q rest (a.put o.dst (.slice (some ⟨w.heap.size, 0, none⟩) n c)) w') : wpList Tryz.prog ops Q (o :: rest) a w :=
  wpList_plain hgd fun K hK => by
    obtain ⟨i0, hi, hz0, hz1, hz2⟩ := info_parts Tryz.infoAt
    have hrun := Lib.run_append_nil_zeros (P := Tryz.prog) w 51 3 o.type 57 i0 (.agg #[.int .i64 0, .int .i64 0]) .i64 .i64 Tryz.underlying51 Tryz.underlying3 hi hz0 n h0 (by omega) (by omega) (by rw [hz2]; omega)
    have hge := grownCap_ge w n 0 57
    have hle := grownCap_le_maxLen w n 0 57 (by unfold maxLen; omega)
    generalize grownCap w n 0 57 = c at *
    have hsz : (Builtin.zeroCells (Value.agg #[.int .i64 0, .int .i64 0]).cells n ++ Builtin.zeroCells (Value.agg #[.int .i64 0, .int .i64 0]).cells (c - n)).size = c * 2 := by
      rw [Array.size_append, show (Value.agg #[.int .i64 0, .int .i64 0]).cells = #[.int .i64 0, .int .i64 0] from rfl, size_zeroCells, size_zeroCells]; simp; omega
    generalize Builtin.zeroCells (Value.agg #[.int .i64 0, .int .i64 0]).cells n ++ Builtin.zeroCells (Value.agg #[.int .i64 0, .int .i64 0]).cells (c - n) = cs at *
    unfold Oper.wp execOp
    simp only [ho, resolve, invoke, builtin, Sem.run_bind, Sem.run_pure, Result.andThen_ok, List.map_toArray, List.map_cons, List.map_nil, hs, hx, hrun]
    exact hK _ _ (h c _ (World.ownsRow_made w.drew cs c (Nat.le_refl _) hle hsz) ((Below.refl w.heap.size w).drew.alloc (Nat.le_refl _) _) hge)
set_option maxHeartbeats 400000 in
theorem growA_any (n : Nat) (hn : n ≤ 1000000) (w : World) :
    Calls Tryz.prog 154 #[.slice none 0 0, .int .i64 (n : Int)] w fun e w' => ∃ v, e = .returned v ∧ OwnA w' w.heap.size v [] ∧ Below w.heap.size w w' := by
  by_cases h0 : n = 0
  · subst h0
    go_enter Tryz.func154, Tryz.ntmps154
    go_wp2
    go_ret
    exact ⟨_, rfl, ownA_nil _ _, Below.refl _ _⟩
  · have hp : 0 < n := by omega
    have d1 : decide ((n : Int) < 0) = false := by simp
    have d2 : decide (0 < (n : Int)) = true := by simp; omega
    go_enter Tryz.func154, Tryz.ntmps154
    go_wp2_with (at_builtin; refine wpList_zerosA _ rfl _ _ rfl n hp hn rfl rfl ?_; intro c w1 hown hB1 hc)
    go_ret
    exact ⟨_, rfl, hown, hB1⟩
theorem readP_cell {B : Nat} {w : World} {g cap : Nat} {l : List (Int × Int)} (h : ReadP B w (.slice (some ⟨g, 0, none⟩) l.length cap) l) (j : Nat) (u : Value) (hu : (codeCells l)[j]? = some u) : w.cell? ⟨g, j, none⟩ = some u := by
  obtain ⟨g2, cap2, e, hg, hc⟩ := h
  injection e with e1 _ _
  injection e1 with e1
  injection e1 with e1 _ _
  subst e1
  have hj : j < 2 * l.length := by rw [← codeCells_len]; exact (List.getElem?_eq_some_iff.1 hu).1
  obtain ⟨i, hi⟩ : ∃ i, j = i * 2 ∨ j = i * 2 + 1 := ⟨j / 2, by omega⟩
  have hil : i < l.length := by omega
  have h3 := hc i hil
  have h4 := codeCells_at l i hil
  rcases hi with rfl | rfl
  · rw [Nat.mul_comm i 2, h4.1] at hu
    rw [h3.1]
    exact hu
  · rw [Nat.mul_comm i 2, h4.2] at hu
    rw [h3.2]
    exact hu
theorem wpList_placesA (w : World) {ops : Array Oper} {rest : List Oper} {o : Oper} {a : Act} {Q : Exit → Act → World → Prop} (hgd : o.guard = none) (s x : Operand)
    (ho : o.op = .call { callee := .builtin .append, args := #[s, x], argTypes := #[51, 51] })
    (base : Nat) (v : Value) (l : List (Int × Int)) (hs : a.eval s = v) (hown : OwnA w base v l) (B2 : Nat) (v2 : Value) (l2 : List (Int × Int)) (hx : a.eval x = v2) (hv2 : ReadP B2 w v2 l2) (hlen : l.length ≤ 1000) (hlen2 : l2.length ≤ 1000) (hbase : base ≤ w.heap.size)
    (h : ∀ v' w', OwnA w' base v' (l ++ l2) → w.grownBy w' v.ownBlock → wpList Tryz.prog ops Q rest (a.put o.dst v') w') : wpList Tryz.prog ops Q (o :: rest) a w :=
  wpList_plain hgd fun K hK => by
    obtain ⟨i, hi, hz0, hz1, hz2⟩ := info_parts Tryz.infoAt
    obtain ⟨g, cap, rfl, _⟩ := id hv2
    obtain ⟨v', w', hrun, r1, r2, _, r3⟩ := run_append_own_at (P := Tryz.prog) w base 51 o.type 57 i (.agg #[.int .i64 0, .int .i64 0]) 2 16 Tryz.underlying51 hi hz0 hz1 hz2 rfl (by omega) v l.length (codeCells l) hown ⟨g, 0, none⟩ l2.length cap (codeCells l2) (by rw [codeCells_len]; omega)
      (by intro j u hu; rw [addr_add, Nat.zero_add]; exact readP_cell hv2 j u hu)
      (by intro u hu'; unfold codeCells at hu'; obtain ⟨z, _, hz⟩ := List.mem_flatMap.1 hu'; simp only [List.mem_cons, List.not_mem_nil, or_false] at hz; rcases hz with rfl | rfl <;> rfl) (by unfold maxLen; omega) (by omega) hbase
    unfold Oper.wp execOp
    simp only [ho, resolve, invoke, builtin, Sem.run_bind, Sem.run_pure, Result.andThen_ok, List.map_toArray, List.map_cons, List.map_nil, hs, hx, hrun]
    refine hK _ _ (h v' w' ?_ r2)
    unfold OwnA
    rw [List.length_append]
    unfold codeCells at *
    rw [List.flatMap_append]
    exact r1
set_option maxRecDepth 100000 in
set_option maxHeartbeats 1000000 in
theorem concatA_any (b off cap : Nat) (uss : List (List (Int × Int))) (hls : uss.length ≤ 1000) (htot : uss.flatten.length ≤ 1000) (w : World) {B : Nat} (hB : B ≤ w.heap.size) (hb : b < w.heap.size)
    (hcell : ∀ j, j < uss.length → ∃ s, w.cell? ⟨b, off + j, none⟩ = some s ∧ ReadP B w s (uss[j]?.getD [])) :
    Calls Tryz.prog 112 #[.slice (some ⟨b, off, none⟩) uss.length cap] w fun e w' => ∃ v', e = .returned v' ∧ OwnA w' w.heap.size v' uss.flatten ∧ Below w.heap.size w w' := by
  have HCE := Lib.hid hcell
  clear hcell
  go_enter Tryz.func112, Tryz.ntmps112
  go_wp2_with fail
  go_loop [3, 11] (fun s i => ∃ k : Nat, k ≤ uss.length ∧ i = .int .i64 k ∧ s = .int .i64 ((uss.take k).flatten.length : Int)) (fun _ i => uss.length - (intOf i).toNat)
  case atStart => exact ⟨0, Nat.zero_le _, rfl, rfl⟩
  case round =>
    obtain ⟨k, hk, rfl, rfl⟩ := hrel
    by_cases hlt : k < uss.length
    · have hdec : decide ((k : Int) < (uss.length : Int)) = true := by simp; omega
      obtain ⟨sv, hc, hv⟩ := HCE.out k hlt
      obtain ⟨g1, cp, rfl, _⟩ := id hv
      have HF : Hid ((uss.take (k + 1)).flatten.length = (uss.take k).flatten.length + (uss[k]?.getD []).length) := by
        unfold Hid; rw [flat_nextA uss k hlt, List.length_append]
      have hle := flat_leA uss (k + 1)
      rw [HF.out] at hle
      clear hv
      generalize (uss[k]?.getD []).length = m at hc HF hle
      generalize (uss.take k).flatten.length = s at HF hle
      have d1 : decide (((s : Int) + (m : Int)) < 0) = false := by simp; omega
      go_wp2
      go_round
      case rel => exact ⟨k + 1, by omega, by go_num, by rw [HF.out]; go_num⟩
      case measure => simp [intOf]; omega
    · obtain rfl : k = uss.length := by omega
      have e1 : decide ((uss.length : Int) < (uss.length : Int)) = false := by simp
      rw [List.take_length]
      have HT := Lib.hid htot
      have HLE := Lib.hid (fun k => flat_leA uss k)
      generalize uss.flatten.length = T at HT HLE htot
      have HG := Lib.hid (growA_any T (by omega) w)
      go_wp2_with (go_at_call 154; refine HG.out.mono ?_; rintro e w1 ⟨v1, rfl, hown1, hB1⟩)
      go_loopw [6, 27] (fun v i wr => ∃ k : Nat, k ≤ uss.length ∧ i = .int .i64 k ∧ OwnA wr w.heap.size v (uss.take k).flatten ∧ Below w.heap.size w wr) (fun _ i _ => uss.length - (intOf i).toNat)
      case atStart => exact ⟨0, Nat.zero_le _, rfl, hown1, hB1⟩
      case round =>
        obtain ⟨k, hk, rfl, hown, hBr⟩ := hrel
        by_cases hlt : k < uss.length
        · have hdec : decide ((k : Int) < (uss.length : Int)) = true := by simp; omega
          obtain ⟨sv, hc, hv⟩ := HCE.out k hlt
          have hc1 := (hBr.cell (p := ⟨b, off + k, none⟩) hb).trans hc
          have hv1 := hv.below (hBr.mono hB)
          have HF := Lib.hid (flat_nextA uss k hlt)
          have hle := HLE.out (k + 1)
          rw [HF.out, List.length_append] at hle
          obtain ⟨g1, cp, rfl, _⟩ := id hv
          clear hc hv
          generalize uss[k]?.getD [] = r at hc1 hv1 HF hle
          generalize (uss.take k).flatten = p at HF hle hown
          have HO := Lib.hid hown
          have HV := Lib.hid hv1
          clear hown hv1
          go_wp2_with (at_builtin; refine wpList_placesA _ rfl _ _ rfl w.heap.size _ p rfl HO.out B _ r rfl HV.out (by have := HT.out; omega) (by have := HT.out; omega) hBr.size ?_; intro v' w2 hown2 hgrow2)
          go_roundw
          case rel => exact ⟨k + 1, by omega, by go_num, by rw [HF.out]; exact hown2, below_grown hBr hgrow2 hBr.size (fun g e => (World.ownsRow.lt HO.out g e).1)⟩
          case measure => simp [intOf]; omega
        · obtain rfl : k = uss.length := by omega
          have e1 : decide ((uss.length : Int) < (uss.length : Int)) = false := by simp
          rw [List.take_length] at hown
          go_wp2
          go_ret
          exact ⟨_, rfl, hown, hBr⟩
end Go.Proofs.YtcahoigdoohjaaaGreatDoor.Cd

namespace Go.Proofs.YtcahoigdoohjaaaGreatDoor.Q
open Go.RowKit Go.Shelf Go.Proofs.YtcahoigdoohjaaaGreatDoor.C Go.Proofs.YtcahoigdoohjaaaGreatDoor.E
set_option linter.unusedSimpArgs false
set_option linter.unusedVariables false

def put1 (both : List UInt8) (s : List (List (List UInt8))) (z : Int × Int) : List (List (List UInt8)) := setQ s z.1.toNat z.2.toNat (xorB (cellI s z) both)
def putL (both : List UInt8) (s : List (List (List UInt8))) (l : List (Int × Int)) : List (List (List UInt8)) := l.foldl (put1 both) s
def InS (k p : Int) (z : Int × Int) : Prop := (0 ≤ z.1 ∧ z.1 < p - shortN k + madeN k) ∧ (0 ≤ z.2 ∧ z.2 < p - 1)
variable {k p : Int} {n : Nat} {s : List (List (List UInt8))} {both : List UInt8}

theorem put1_ok (h : StripeK k p n s) {z : Int × Int} (hz : InS k p z) : StripeK k p n (put1 both s z) := by
  obtain ⟨hc, h1, h2⟩ := stripe_cell h hz.1 hz.2
  exact setQ_ok h h1 (by have := hz.2; omega) (by rw [xorB_len]; exact hc)
theorem put1_at (h : StripeK k p n s) {z y : Int × Int} (hz : InS k p z) (hy : InS k p y) : cellI (put1 both s z) y = if y = z then xorB (cellI s z) both else cellI s y := by
  obtain ⟨hc, h1, h2⟩ := stripe_cell h hz.1 hz.2
  have h3 : cellI (put1 both s z) y = if y.1.toNat = z.1.toNat ∧ y.2.toNat = z.2.toNat then xorB (cellI s z) both else cellOf_ s y.1.toNat y.2.toNat := setQ_cell h1 h2 y.1.toNat y.2.toNat
  rw [h3]
  by_cases e : y = z
  · subst e
    rw [if_pos ⟨rfl, rfl⟩, if_pos rfl]
  · rw [if_neg e, if_neg (fun he => e (Prod.ext (by have h5 := hz.1.1; have h6 := hy.1.1; omega) (by have h5 := hz.2.1; have h6 := hy.2.1; omega)))]
    rfl
theorem putL_ok : ∀ (l : List (Int × Int)) {s : List (List (List UInt8))}, StripeK k p n s → (∀ z ∈ l, InS k p z) → StripeK k p n (putL both s l)
  | [], _, h, _ => h
  | z :: l, _, h, hl => putL_ok l (put1_ok h (hl z (List.mem_cons_self ..))) fun y hy => hl y (List.mem_cons_of_mem _ hy)
theorem putL_at : ∀ (l : List (Int × Int)) {s : List (List (List UInt8))}, StripeK k p n s → (∀ z ∈ l, InS k p z) → l.Nodup → ∀ y, InS k p y → cellI (putL both s l) y = if y ∈ l then xorB (cellI s y) both else cellI s y
  | [], _, _, _, _, y, _ => by rw [if_neg (List.not_mem_nil)]; rfl
  | z :: l, s, h, hl, hn, y, hy => by
    have hz := hl z (List.mem_cons_self ..)
    have hn2 := List.nodup_cons.1 hn
    have ih := putL_at l (put1_ok (both := both) h hz) (fun y hy => hl y (List.mem_cons_of_mem _ hy)) hn2.2 y hy
    have e1 := put1_at (both := both) h hz hy
    show cellI (putL both (put1 both s z) l) y = _
    rw [ih, e1]
    by_cases e : y = z
    · subst e
      rw [if_neg hn2.1, if_pos rfl, if_pos (List.mem_cons_self ..)]
    · rw [if_neg e]
      have em : (y ∈ z :: l) ↔ y ∈ l := by rw [List.mem_cons]; exact ⟨fun h => h.elim (fun h => absurd h e) id, .inr⟩
      by_cases hm : y ∈ l
      · rw [if_pos hm, if_pos (em.2 hm)]
      · rw [if_neg hm, if_neg (fun h => hm (em.1 h))]
theorem putL_next (s : List (List (List UInt8))) (l : List (Int × Int)) (j : Nat) (hj : j < l.length) : putL both s (l.take (j + 1)) = put1 both (putL both s (l.take j)) l[j] := by
  unfold putL
  rw [List.take_succ_eq_append_getElem hj, List.foldl_append]
  rfl
theorem tou_nodup (k p x y : Int) : (touL k p x y).Nodup := sorted_nodup ((flatC_sorted p _ (spanL_sorted _ _)).filter _)
theorem chg_list {x y : Int} (hR : RightC k p) (hx : 0 ≤ x ∧ x < p - shortN k) (hy : 0 ≤ y ∧ y < p - 1) : (∀ z ∈ (x, y) :: touL k p x y, InS k p z) ∧ ((x, y) :: touL k p x y).Nodup ∧ touL k p x y ≠ [] := by
  obtain ⟨p1, p2, s1, s2, m1, m2⟩ := hR.und
  refine ⟨fun z hz => ?_, ?_, ?_⟩
  · rcases List.mem_cons.1 hz with rfl | hz
    · exact ⟨⟨hx.1, by show x < _; omega⟩, hy⟩
    · have h1 := par_of (tou_of.1 hz).1
      exact ⟨⟨by omega, h1.1.2⟩, h1.2⟩
  · refine List.nodup_cons.2 ⟨fun hz => ?_, tou_nodup _ _ _ _⟩
    have h1 := par_of (tou_of.1 hz).1
    have h2 : p - shortN k ≤ x := h1.1.1
    omega
  · have h1 : ((p - shortN k, y) : Int × Int) ∈ touL k p x y := tou_of.2 ⟨par_mk ⟨Int.le_refl _, by omega⟩ hy, .inl (by rw [memB_rowself hx.2]; exact decide_eq_true rfl)⟩
    intro e
    rw [e] at h1
    cases h1
theorem putL_chg (h : StripeK k p n s) {x y : Int} {c : List UInt8} (hx : 0 ≤ x ∧ x < p - shortN k) (hy : 0 ≤ y ∧ y < p - 1) (hc : c.length = n) : putL (xorB (cellI s (x, y)) c) s ((x, y) :: touL k p x y) = chgK k p s x y c := by
  obtain ⟨hin, hnd, _⟩ := chg_list h.1 hx hy
  obtain ⟨p1, p2, hp, s1, s2, m1, m2⟩ := stripe_n h
  have hcx := (stripe_cell h (z := (x, y)) ⟨hx.1, by show x < _; omega⟩ hy).1
  refine stripe_ext (putL_ok _ h hin) (chgK_ok h hx hy hc) fun z hz hz2 j => ?_
  rw [putL_at _ h hin hnd z ⟨hz, hz2⟩, chgK_at h hz hz2]
  by_cases e : z = (x, y)
  · rw [if_pos e, if_pos (by rw [e]; exact List.mem_cons_self ..), e, at_xorB _ _ _ (by rw [xorB_len]), at_xorB _ _ _ (by rw [hc, hcx]), ← UInt8.xor_assoc, UInt8.xor_self, UInt8.zero_xor]
  · rw [if_neg e]
    have em : (z ∈ (x, y) :: touL k p x y) ↔ z ∈ touL k p x y := by rw [List.mem_cons]; exact ⟨fun h => h.elim (fun h => absurd h e) id, .inr⟩
    by_cases hm : z ∈ touL k p x y
    · rw [if_pos hm, if_pos (em.2 hm)]
    · rw [if_neg hm, if_neg (fun h => hm (em.1 h))]
end Go.Proofs.YtcahoigdoohjaaaGreatDoor.Q

