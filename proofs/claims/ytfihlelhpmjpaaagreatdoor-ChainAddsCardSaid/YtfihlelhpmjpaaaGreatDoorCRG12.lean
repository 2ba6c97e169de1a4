/- chain: a cell repeated. ring: the document's Put. ring: the mathematics of turned, stretched and slackened columns, byte by byte. The laws of ring: contracts as the laws want them. chain: the mathemat -/
import Derived.Laws.CopyOwn
import Derived.Test.YtfihlelhpmjpaaaGreatDoorCRG11
namespace Go.Proofs.YtfihlelhpmjpaaaGreatDoor.Ch
open Go.RowKit Go.Shelf Go.Proofs.YtfihlelhpmjpaaaGreatDoor.C Go.Proofs.YtfihlelhpmjpaaaGreatDoor.E
set_option linter.unusedSimpArgs false
set_option linter.unusedVariables false
attribute [local go_sem] Oper.semAt_some

set_option maxRecDepth 100000 in
set_option maxHeartbeats 1000000 in
theorem mul_any (q : Nat) (h : q ∈ [2, 4, 6, 10, 12, 16]) (w : World) : Calls Tryz.prog 159 #[.int .u64 1, .int .u64 (q : Int)] w fun e w' => e = .returned (.tuple #[.int .u64 0, .int .u64 (q : Int)]) ∧ w' = w := by
  simp only [List.mem_cons, List.not_mem_nil, or_false] at h
  rcases h with rfl | rfl | rfl | rfl | rfl | rfl
  all_goals go_enter Tryz.func159, Tryz.ntmps159
  all_goals go_wp2
  all_goals go_ret2
  all_goals exact ⟨rfl, rfl⟩
/-- So many cells are one value, the others nil. -/
def repV (q m : Nat) (nv : Value) : List Value := List.replicate m nv ++ List.replicate (q - m) (.slice none 0 0)
theorem repV_len (q m : Nat) (nv : Value) (h : m ≤ q) : (repV q m nv).length = q := by unfold repV; simp; omega
theorem repV_splice (q m : Nat) (nv : Value) (k : Nat) (h : m + k ≤ q) : splice (repV q m nv) m (List.replicate k nv) = repV q (m + k) nv := by
  unfold splice repV
  rw [List.length_replicate, List.take_append_of_le_length (by simp), List.take_of_length_le (by simp), List.drop_append, List.drop_eq_nil_of_le (by simp), List.nil_append, List.length_replicate, List.drop_replicate, ← List.append_assoc, List.replicate_append_replicate]
  congr 2
  omega
theorem repV_at (q m : Nat) (nv : Value) {j : Nat} (hj : j < m) : (repV q m nv)[j]? = some nv := by
  unfold repV
  rw [List.getElem?_append_left (by simpa using hj), List.getElem?_replicate, if_pos hj]
set_option maxRecDepth 100000 in
set_option maxHeartbeats 4000000 in
theorem repeat_any (g : Nat) (nv : Value) (h1 : nv.oneCell' = true) (q : Nat) (hq : q ∈ [2, 4, 6, 10, 12, 16]) (w : World) (hc : w.cell? ⟨g, 0, none⟩ = some nv) (hgw : g < w.heap.size) :
    Calls Tryz.prog 99 #[.slice (some ⟨g, 0, none⟩) 1 1, .int .i64 (q : Int)] w fun e w' => ∃ g', e = .returned (.slice (some ⟨g', 0, none⟩) q q) ∧ w.heap.size ≤ g' ∧ Blk w' g' 57 (List.replicate q nv).toArray ∧ Below w.heap.size w w' := by
  have hqb : 2 ≤ q ∧ q ≤ 16 := by simp only [List.mem_cons, List.not_mem_nil, or_false] at hq; omega
  have HM := Lib.hid (fun U => mul_any q hq U)
  obtain ⟨i0, hi0, hz0, hz1, hz2⟩ := info_parts Tryz.infoSlcE
  have hmk := fun W : World => run_make (P := Tryz.prog) W 37 57 i0 (.slice none 0 0) Tryz.underlying37 hi0 hz0 .i64 .i64 (q : Int) (q : Int) (by omega) (by omega) (by rw [hz2]; omega) (by omega)
  simp only [hz1, Nat.mul_one, Int.toNat_natCast, show (Value.slice none 0 0).cells = #[.slice none 0 0] from rfl] at hmk
  clear hz0 hz1 hz2 hi0
  have d1 : decide ((q : Int) < 0) = false := by simp
  have u1 : IntKind.u64.wrap (q : Int) = (q : Int) := (by decide : ∀ z ∈ [2, 4, 6, 10, 12, 16], IntKind.u64.wrap ((z : Nat) : Int) = ((z : Nat) : Int)) q hq
  have u2 : IntKind.i64.wrap (q : Int) = (q : Int) := IntWalk.i64_in _ (by omega)
  have d2 : decide ((9223372036854775807 : Int) < (q : Int)) = false := by simp; omega
  clear hq
  refine (callsIn_wide (n := 9)).1 ?_
  refine callsIn_of_wp_marks Tryz.func99 rfl trivial ?_ rfl
  simp only [Tryz.ntmps99, List.size_toArray, List.length_cons, List.length_nil, Nat.reduceAdd, Nat.reduceSub, Array.replicate_succ, Array.replicate_zero, List.push_toArray, List.append_toArray, List.nil_append, List.cons_append]
  gi_wp2_with fail
  refine ⟨trivial, (callsIn_wide.2 (HM.out _)).mono ?_⟩
  rintro e w1 ⟨rfl, rfl⟩
  gi_wp2_with fail
  obtain ⟨w2, hw2⟩ : ∃ x, w1.alloc (.cells (madeCells #[.slice none 0 0] q) 57) = x := ⟨_, rfl⟩
  have hB2 : Below w1.heap.size w1 w2 := by rw [← hw2]; exact below_one w1 _
  have b2 : Blk w2 w1.heap.size 57 (repV q 0 nv).toArray := by
    rw [← hw2]
    have e : madeCells #[.slice none 0 0] q = (repV q 0 nv).toArray := by
      apply Array.toList_inj.1
      rw [toList_madeCells_one]
      rfl
    rw [e]
    exact Blk.new w1 _ _
  rw [hw2]
  have hcp := run_copy_row (P := Tryz.prog) w2 37 37 3 57 w1.heap.size 0 q q ⟨g, 0, none⟩ 1 1 (repV q 0 nv).toArray 57 [nv] Tryz.underlying37 (by kernel_rfl) b2 (show 1 = min 1 q by omega) (fun j v hv => by
      have : j = 0 := by
        by_cases h : j = 0
        · exact h
        · rw [List.getElem?_eq_none (by simp; omega)] at hv; cases hv
      subst this
      cases hv
      rw [addr_add]
      exact (hB2.cell (p := ⟨g, 0, none⟩) hgw).trans hc) (by simp [repV_len]; omega) (by intro v hv; rw [List.mem_singleton.1 hv]; exact h1)
  rw [show ((repV q 0 nv).toArray.toList.take 0 ++ [nv] ++ (repV q 0 nv).toArray.toList.drop (0 + [nv].length)) = repV q 1 nv from repV_splice q 0 nv 1 (by omega)] at hcp
  obtain ⟨w3, hw3⟩ : ∃ x, w2.setRow w1.heap.size (repV q 1 nv).toArray = x := ⟨_, rfl⟩
  rw [hw3] at hcp
  have hB3 : Below w1.heap.size w1 w3 := by rw [← hw3]; exact C.below_setRow hB2 (Nat.le_refl _) _
  have b3 : Blk w3 w1.heap.size 57 (repV q 1 nv).toArray := by rw [← hw3]; exact b2.setRow _
  rw [hcp]
  clear hw2 b2 hB2 hw3 hmk hcp
  gi_wp2_with fail
  gi_loopw [8] (fun v wr => ∃ m : Nat, 1 ≤ m ∧ m ≤ q ∧ v = .int .i64 (m : Int) ∧ Blk wr w1.heap.size 57 (repV q m nv).toArray ∧ Below w1.heap.size w1 wr) (fun v _ => q - (intOf v).toNat)
  case atStart => exact ⟨1, by omega, by omega, rfl, b3, hB3⟩
  case round =>
    obtain ⟨m, hm1, hm2, rfl, hb, hBr⟩ := hrel
    by_cases hlt : m < q
    · have hdec : decide ((m : Int) < (q : Int)) = true := by simp; omega
      obtain ⟨wd, hwd⟩ : ∃ x, wr.drew = x := ⟨_, rfl⟩
      have hBd : Below w1.heap.size w1 wd := by rw [← hwd]; exact hBr.drew
      have hbd : Blk wd w1.heap.size 57 (repV q m nv).toArray := by rw [← hwd]; exact hb
      obtain ⟨k, hk⟩ : ∃ k, min m (q - m) = k := ⟨_, rfl⟩
      have hk2 : m + k ≤ q ∧ 1 ≤ k ∧ k ≤ m := by omega
      have hcp := fun ty => run_copy_row (P := Tryz.prog) wd 37 37 ty 57 w1.heap.size m (q - m) (q - m) ⟨w1.heap.size, 0, none⟩ m q (repV q m nv).toArray 57 (List.replicate k nv) Tryz.underlying37 (by kernel_rfl) hbd (by rw [List.length_replicate]; exact hk.symm) (fun j v hv => by
        have hj : j < k := by
          rcases Nat.lt_or_ge j k with h | h
          · exact h
          · rw [List.getElem?_eq_none (by simp; omega)] at hv; cases hv
        rw [List.getElem?_replicate, if_pos hj] at hv
        cases hv
        rw [addr_add, Nat.zero_add, hbd.cell j, List.getElem?_toArray]
        exact repV_at q m nv (by omega)) (by simp [repV_len _ _ _ hm2]; omega) (by intro v hv; rw [(List.mem_replicate.1 hv).2]; exact h1)
      have e : List.take m (repV q m nv) ++ List.replicate k nv ++ List.drop (m + k) (repV q m nv) = repV q (m + k) nv := by
        have := repV_splice q m nv k hk2.1
        unfold splice at this
        rw [List.length_replicate] at this
        rw [List.append_assoc]
        exact this
      simp only [List.length_replicate, e] at hcp
      obtain ⟨w3', hw3'⟩ : ∃ x, wd.setRow w1.heap.size (repV q (m + k) nv).toArray = x := ⟨_, rfl⟩
      rw [hw3'] at hcp
      have hB3' : Below w1.heap.size w1 w3' := by rw [← hw3']; exact C.below_setRow hBd (Nat.le_refl _) _
      have b3' : Blk w3' w1.heap.size 57 (repV q (m + k) nv).toArray := by rw [← hw3']; exact hbd.setRow _
      have hqm : ¬ q = m := by omega
      have i1 : (0 : Int) ≤ (m : Int) := by omega
      have i2 : (m : Int) ≤ (q : Int) := by omega
      have hsum : IntKind.i64.wrap ((m : Int) + (k : Int)) = ((m + k : Nat) : Int) := by rw [← Int.natCast_add]; exact IntWalk.i64_in _ (by omega)
      have HB := Lib.hid (And.intro b3' hB3')
      clear hw3' hb hBr b3' hB3' hbd hBd
      gi_wp2_with fail
      refine wpIn_mono (region_HF (Q := NoPanic _) (S := fun _ => True) (by kernel_rfl) ?_) NoPanic.imp
      refine anyHF_take (i := 0) (d := 38) (v := .int .i64 (m : Int)) (by kernel_rfl) rfl (by kernel_rfl) (by kernel_rfl) (by kernel_rfl) rfl (fun _ _ _ h => h) ⟨Or.inl ⟨by rfl, fun w hS => by go_simp⟩, fun _ => rfl⟩ trivial ?_
      simp only [List.setIfInBounds_toArray, List.set_cons_zero, List.set_cons_succ]
      refine anyHF_take (i := 1) (d := 39) (v := .slice (some ⟨w1.heap.size, 0, none⟩) q q) (by kernel_rfl) rfl (by kernel_rfl) (by kernel_rfl) (by kernel_rfl) rfl (fun _ _ _ h => h) ⟨Or.inl ⟨by rfl, fun w hS => by go_simp⟩, fun _ => rfl⟩ trivial ?_
      simp only [List.setIfInBounds_toArray, List.set_cons_zero, List.set_cons_succ]
      refine anyHF_take (i := 2) (d := 40) (v := .int .i64 (m : Int)) (by kernel_rfl) rfl (by kernel_rfl) (by kernel_rfl) (by kernel_rfl) rfl (fun _ _ _ h => h) ⟨Or.inl ⟨by rfl, fun w hS => by go_simp⟩, fun _ => rfl⟩ trivial ?_
      simp only [List.setIfInBounds_toArray, List.set_cons_zero, List.set_cons_succ]
      refine anyHF_take (i := 3) (d := 41) (v := .slice (some ⟨w1.heap.size, m, none⟩) (q - m) (q - m)) (by kernel_rfl) rfl (by kernel_rfl) (by kernel_rfl) (by kernel_rfl) rfl (fun _ _ _ h => h) ⟨Or.inl ⟨by rfl, fun w hS => by go_simp⟩, fun _ => rfl⟩ trivial ?_
      simp only [List.setIfInBounds_toArray, List.set_cons_zero, List.set_cons_succ]
      refine anyHF_take (i := 4) (d := 42) (v := .slice (some ⟨w1.heap.size, 0, none⟩) q q) (by kernel_rfl) rfl (by kernel_rfl) (by kernel_rfl) (by kernel_rfl) rfl (fun _ _ _ h => h) ⟨Or.inl ⟨by rfl, fun w hS => by go_simp⟩, fun _ => rfl⟩ trivial ?_
      simp only [List.setIfInBounds_toArray, List.set_cons_zero, List.set_cons_succ]
      refine anyHF_take (i := 5) (d := 43) (v := .int .i64 (m : Int)) (by kernel_rfl) rfl (by kernel_rfl) (by kernel_rfl) (by kernel_rfl) rfl (fun _ _ _ h => h) ⟨Or.inl ⟨by rfl, fun w hS => by go_simp⟩, fun _ => rfl⟩ trivial ?_
      simp only [List.setIfInBounds_toArray, List.set_cons_zero, List.set_cons_succ]
      refine anyHF_take (i := 6) (d := 44) (v := .slice (some ⟨w1.heap.size, 0, none⟩) m q) (by kernel_rfl) rfl (by kernel_rfl) (by kernel_rfl) (by kernel_rfl) rfl (fun _ _ _ h => h) ⟨Or.inl ⟨by rfl, fun w hS => by go_simp⟩, fun _ => rfl⟩ trivial ?_
      simp only [List.setIfInBounds_toArray, List.set_cons_zero, List.set_cons_succ]
      refine anyHF_one (i := 7) (by kernel_rfl) rfl (by kernel_rfl) (by rfl) ?_
      gi_wp2_with fail
      try (refine ⟨trivial, ?_⟩)
      refine anyHF_take (i := 8) (d := 46) (v := .int .i64 ((m + k : Nat) : Int)) (by kernel_rfl) rfl (by kernel_rfl) (by kernel_rfl) (by kernel_rfl) rfl (fun _ _ _ h => h) ⟨Or.inl ⟨by rfl, fun w hS => by go_simp⟩, fun _ => rfl⟩ trivial ?_
      simp only [List.setIfInBounds_toArray, List.set_cons_zero, List.set_cons_succ]
      refine anyHF_one (i := 9) (by kernel_rfl) rfl (by kernel_rfl) (by rfl) ?_
      gi_wp2
      refine anyHF_done (by kernel_rfl) ?_ _
      refine NoPanic.normal ?_
      gi_wp2_with fail
      go_roundw
      case rel => exact ⟨m + k, by omega, by omega, rfl, HB.out.1, HB.out.2⟩
      case measure => simp [intOf]; omega
    · obtain rfl : m = q := by omega
      have hdec : decide ((m : Int) < (m : Int)) = false := by simp
      gi_wp2_with fail
      have HE : Hid (Blk wr w1.heap.size 57 (List.replicate m nv).toArray) := by unfold repV at hb; rwa [Nat.sub_self, List.replicate_zero, List.append_nil] at hb
      exact ⟨_, by simp [results, Tryz.results99, go_sem], _, rfl, Nat.le_refl _, HE.out, hBr⟩
end Go.Proofs.YtfihlelhpmjpaaaGreatDoor.Ch

namespace Go.Proofs.YtfihlelhpmjpaaaGreatDoor.Rg
open Go.RowKit Go.Shelf Go.Maps Go.Proofs.YtfihlelhpmjpaaaGreatDoor.C Go.Proofs.YtfihlelhpmjpaaaGreatDoor.E
set_option linter.unusedSimpArgs false
set_option linter.unusedVariables false
attribute [local go_sem] Oper.semAt_some

theorem RowG.own_lt {α : Type} {r : Rep α} {t : TypeId} {d : α} {Q : Nat → Prop} {W : World} {base : Nat} {v : Value} {xs : List α} (h : RowG r t d Q W base v xs) (k : Nat) (e : v.ownBlock = some k) : k < W.heap.size := by
  obtain ⟨us, ho, _⟩ := h
  exact (World.ownsRow.lt ho k e).2
theorem map_next {α β : Type} (g : α → β) (d : α) (xs : List α) {k : Nat} (hk : k < xs.length) : (xs.map g).take (k + 1) = (xs.map g).take k ++ [g (xs[k]?.getD d)] := by
  rw [List.take_succ_eq_append_getElem (by rw [List.length_map]; exact hk), List.getElem_map, List.getElem?_eq_getElem hk]
  rfl
section
variable {Q : Nat → Prop} {base : Nat} {v : Value}
theorem opIn_pushM {F : Fence} {nF : Nat} {T : TypeId} (w : World) {o : Oper} {a : Act} {K : Act → World → Prop} {QQ : Exit → Act → World → Prop} (s x : Operand)
    (ho : o.op = .call { callee := .builtin .append, args := #[s, x], argTypes := #[T, T] }) (hT : Tryz.prog.underlying T = some (.slice 57)) (ls : List (List UInt8)) (hs : a.eval s = v) (h : RowM Q w base v ls)
    (g : Nat) (tg : TypeId) (u : Value) (l : List UInt8) (hx : a.eval x = .slice (some ⟨g, 0, none⟩) 1 1) (hg : Blk w g tg #[u]) (hu : BytesP (fun b => b < w.heap.size ∧ some b ≠ v.ownBlock ∧ Q b) w u l) (hlen : ls.length ≤ 100000) (hbase : base ≤ w.heap.size)
    (hK : ∀ v' w', RowM Q w' base v' (ls ++ [l]) → w.grownBy w' v.ownBlock → (v'.ownBlock = v.ownBlock ∨ v'.ownBlock = some w.heap.size) → K (a.put o.dst v') w') : Oper.wpIn F nF Tryz.prog o a w K QQ := by
  obtain ⟨i, hi, hz0, hz1, hz2⟩ := info_parts Tryz.infoSlcE
  obtain ⟨v', w', hrun, h1, h2, h3⟩ := RowG.push i hi hz0 hz1 hz2 T o.type hT h g tg u l hg hu hlen hbase
  unfold Oper.wpIn
  refine ⟨by simp [Oper.about, ho, resolve, Target.leads, Sem.run_pure], ?_⟩
  rw [Oper.semAt_plain F _ _ (by rw [ho]; intro c hc'; cases hc')]
  simp [execOp, ho, resolve, invoke, builtin, hs, hx, hrun, Result.andThen, Oper.uponIn]
  exact hK v' w' h1 h2 h3
end
theorem RowM.many_ {Q : Nat → Prop} {W : World} {base : Nat} {v : Value} {ls : List (List UInt8)} (h : RowM Q W base v ls) : Many W.heap.size W v ls := manyR_iff.1 (RowM.many h fun b hb _ => hb)
end Go.Proofs.YtfihlelhpmjpaaaGreatDoor.Rg

namespace Go.Proofs.YtfihlelhpmjpaaaGreatDoor.Rg
open Go.RowKit Go.Shelf Go.Proofs.YtfihlelhpmjpaaaGreatDoor.C Go.Proofs.YtfihlelhpmjpaaaGreatDoor.E
set_option linter.unusedSimpArgs false
set_option linter.unusedVariables false

theorem xx (a b : UInt8) : a ^^^ (a ^^^ b) = b := by rw [← UInt8.xor_assoc, UInt8.xor_self, UInt8.zero_xor]
theorem xlc (a b c : UInt8) : a ^^^ (b ^^^ c) = b ^^^ (a ^^^ c) := by rw [← UInt8.xor_assoc, UInt8.xor_comm a b, UInt8.xor_assoc]
/-- A function of rows, whatever number they are told by; nought in the last one. -/
def Per (P : Nat) (x : Int → UInt8) : Prop := (∀ r s : Int, r % (P : Int) = s % (P : Int) → x r = x s) ∧ x (-1) = 0
def tu (a : Int) (x : Int → UInt8) (r : Int) : UInt8 := x (r - a) ^^^ x (-1 - a)
def st (a : Int) (x : Int → UInt8) (r : Int) : UInt8 := x r ^^^ tu a x r
theorem mod_sub {P : Nat} {r s : Int} (h : r % (P : Int) = s % (P : Int)) (a : Int) : (r - a) % (P : Int) = (s - a) % (P : Int) := by
  rw [Int.sub_emod, h, ← Int.sub_emod]
theorem Per.tu {P : Nat} {x : Int → UInt8} (h : Per P x) (a : Int) : Per P (tu a x) :=
  ⟨fun r s e => by unfold Rg.tu; rw [h.1 _ _ (mod_sub e a)], by unfold Rg.tu; exact UInt8.xor_self⟩
theorem Per.add {P : Nat} {x y : Int → UInt8} (h : Per P x) (h' : Per P y) : Per P (fun r => x r ^^^ y r) :=
  ⟨fun r s e => by show x r ^^^ y r = x s ^^^ y s; rw [h.1 _ _ e, h'.1 _ _ e], by show x (-1) ^^^ y (-1) = 0; rw [h.2, h'.2]; rfl⟩
theorem Per.st {P : Nat} {x : Int → UInt8} (h : Per P x) (a : Int) : Per P (st a x) := h.add (h.tu a)
theorem prm_odd {P Q : Nat} (hQ : P = Q + 1) (hp : (P : Int) ∈ prm) : Q % 2 = 0 := by
  have h : ∀ p ∈ prm, (p - 1) % 2 = 0 := by decide
  have := h _ hp
  omega
/-- What the cells of all rows come to. -/
def al (P : Nat) (x : Int → UInt8) : UInt8 := xa ((List.range P).map fun i : Nat => x (i : Int))
theorem tu_tu {P : Nat} {x : Int → UInt8} (a b : Int) (r : Int) : tu b (tu a x) r = tu (a + b) x r := by
  unfold tu
  rw [show r - b - a = r - (a + b) by omega, show -1 - b - a = -1 - (a + b) by omega]
  simp only [UInt8.xor_assoc, UInt8.xor_comm, xlc, xx, UInt8.xor_self, UInt8.xor_zero, UInt8.zero_xor]
/-- A column's byte, its row told by any number. -/
def Bt (P Q n : Nat) (c : List (List UInt8)) (j : Nat) (r : Int) : UInt8 := at_ (wholeF Q n c (r % (P : Int)).toNat) j
theorem at_nought (n j : Nat) : at_ (List.replicate n 0) j = 0 := by
  unfold at_
  rw [List.getElem?_replicate]
  split <;> rfl
theorem last_mod {P Q : Nat} (hQ : P = Q + 1) : (-1 : Int) % (P : Int) = (Q : Int) := by
  rw [show (-1 : Int) = (Q : Int) + (P : Int) * (-1) by omega, Int.add_mul_emod_self_left, Int.emod_eq_of_lt (by omega) (by omega)]
theorem Bt.per {P Q n : Nat} (hQ : P = Q + 1) (c : List (List UInt8)) (j : Nat) : Per P (Bt P Q n c j) :=
  ⟨fun r s e => by unfold Bt; rw [e], by unfold Bt wholeF; rw [last_mod hQ, Int.toNat_natCast, if_neg (Nat.lt_irrefl _)]; exact at_nought n j⟩
theorem row_lt {P Q : Nat} (hQ : P = Q + 1) (r : Int) : (∃ i : Nat, i < Q ∧ r % (P : Int) = (i : Int)) ∨ r % (P : Int) = (-1) % (P : Int) := by
  have h2 := Int.emod_nonneg r (show (P : Int) ≠ 0 by omega)
  have h3 := Int.emod_lt_of_pos r (show (0 : Int) < P by omega)
  rw [last_mod hQ]
  by_cases h : r % (P : Int) = (Q : Int)
  · exact .inr h
  · exact .inl ⟨(r % (P : Int)).toNat, by omega, by omega⟩
theorem row_get (Q : Nat) (F : Nat → List UInt8) {i : Nat} (hi : i < Q) : (((List.range Q).map F)[i]?).getD [] = F i := by
  rw [List.getElem?_map, List.getElem?_range hi]
  rfl
theorem made_good {Q n : Nat} (h1 : 1 ≤ n) (h64 : n ≤ 64) (F : Nat → List UInt8) (hF : ∀ i, i < Q → (F i).length = n) : GoodC Q n ((List.range Q).map F) :=
  ⟨by simp, fun r hr => by rw [row_get Q F hr]; exact ⟨by unfold Cell; rw [hF r hr]; exact ⟨h1, h64⟩, hF r hr⟩⟩
theorem bt_at {P Q n : Nat} (hQ : P = Q + 1) (c : List (List UInt8)) (j : Nat) {i : Nat} (hi : i < Q) {r : Int} (hr : r % (P : Int) = (i : Int)) : Bt P Q n c j r = at_ (c[i]?.getD []) j := by
  unfold Bt wholeF
  rw [hr, Int.toNat_natCast, if_pos hi]
/-- What is made row by row, its bytes told by a function of any row's number. -/
theorem bt_made {P Q n : Nat} (hQ : P = Q + 1) (F : Nat → List UInt8) (j : Nat) (G : Int → UInt8) (hG : Per P G) (h : ∀ i, i < Q → at_ (F i) j = G (i : Int)) (r : Int) : Bt P Q n ((List.range Q).map F) j r = G r := by
  rcases row_lt hQ r with ⟨i, hi, e⟩ | e
  · rw [bt_at hQ _ j hi e, row_get Q F hi, h i hi]
    exact hG.1 _ _ (by rw [e, Int.emod_eq_of_lt (by omega) (by omega)])
  · rw [(Bt.per hQ _ j).1 _ _ e, (Bt.per hQ _ j).2, hG.1 _ _ e, hG.2]
theorem col_ext {P Q n : Nat} (hQ : P = Q + 1) {c d : List (List UInt8)} (hc : GoodC Q n c) (hd : GoodC Q n d) (h : ∀ j r, Bt P Q n c j r = Bt P Q n d j r) : c = d := by
  refine List.ext_getElem? fun i => ?_
  by_cases hi : i < Q
  · have h1 : (c[i]?.getD []) = (d[i]?.getD []) := ext_at ((hc.2 i hi).2.trans (hd.2 i hi).2.symm) fun j => by
      have := h j (i : Int)
      rwa [bt_at hQ c j hi (Int.emod_eq_of_lt (by omega) (by omega)), bt_at hQ d j hi (Int.emod_eq_of_lt (by omega) (by omega))] at this
    obtain ⟨u, hu⟩ : ∃ u, c[i]? = some u := ⟨_, List.getElem?_eq_getElem (by rw [hc.1]; exact hi)⟩
    obtain ⟨v, hv⟩ : ∃ v, d[i]? = some v := ⟨_, List.getElem?_eq_getElem (by rw [hd.1]; exact hi)⟩
    rw [hu, hv] at h1 ⊢
    exact congrArg some h1
  · rw [List.getElem?_eq_none (by rw [hc.1]; omega), List.getElem?_eq_none (by rw [hd.1]; omega)]
theorem whole_len {Q n : Nat} {c : List (List UInt8)} (hc : GoodC Q n c) (r : Nat) : (wholeF Q n c r).length = n := by
  unfold wholeF
  split
  · exact (hc.2 r ‹_›).2
  · simp
theorem mv_len {P Q n : Nat} {c : List (List UInt8)} (hc : GoodC Q n c) (b : Int) (r : Nat) : (mvF P b (wholeF Q n c) r).length = n := whole_len hc _
theorem at_mv {P Q n : Nat} (c : List (List UInt8)) (b : Int) (r j : Nat) : at_ (mvF P b (wholeF Q n c) r) j = Bt P Q n c j ((r : Int) - b) := rfl
theorem at_two {n : Nat} {a b : List UInt8} (ha : a.length = n) (hb : b.length = n) (j : Nat) : at_ (xorOf [a, b]) j = at_ a j ^^^ at_ b j := by
  rw [at_xorOf (n := n) (by simp) (by intro l hl; simp only [List.mem_cons, List.not_mem_nil, or_false] at hl; rcases hl with rfl | rfl <;> assumption)]
  simp [xa]
theorem len_two {n : Nat} {a b : List UInt8} (ha : a.length = n) (hb : b.length = n) : (xorOf [a, b]).length = n :=
  xorOf_len_of (by simp) (by intro l hl; simp only [List.mem_cons, List.not_mem_nil, or_false] at hl; rcases hl with rfl | rfl <;> assumption)
/-- The column turned, as it is told. -/
def turnC (P Q n : Nat) (c : List (List UInt8)) (b : Int) : List (List UInt8) := (List.range Q).map fun r => xorOf [mvF P b (wholeF Q n c) r, mvF P b (wholeF Q n c) Q]
theorem turn_good {P Q n : Nat} (h1 : 1 ≤ n) (h64 : n ≤ 64) {c : List (List UInt8)} (hc : GoodC Q n c) (b : Int) : GoodC Q n (turnC P Q n c b) :=
  made_good h1 h64 _ fun i _ => len_two (mv_len hc b i) (mv_len hc b Q)
theorem bt_turn {P Q n : Nat} (hQ : P = Q + 1) {c : List (List UInt8)} (hc : GoodC Q n c) (b : Int) (j : Nat) (r : Int) : Bt P Q n (turnC P Q n c b) j r = tu b (Bt P Q n c j) r := by
  refine bt_made hQ _ j _ ((Bt.per hQ c j).tu b) (fun i hi => ?_) r
  rw [at_two (mv_len hc b i) (mv_len hc b Q), at_mv, at_mv]
  unfold tu
  rw [(Bt.per hQ c j).1 ((Q : Int) - b) (-1 - b) (mod_sub (by rw [last_mod hQ, Int.emod_eq_of_lt (by omega) (by omega)]) b)]
/-- Columns put upon one another. -/
theorem sum_good {Q n : Nat} (h1 : 1 ≤ n) (h64 : n ≤ 64) {css : List (List (List UInt8))} (h0 : 0 < css.length) (hc : ∀ c ∈ css, GoodC Q n c) : GoodC Q n (rowK css.length Q (fun i r => (css[i]?.getD [])[r]?.getD [])) := by
  refine made_good h1 h64 _ fun r hr => xorOf_len_of (by simpa using h0) fun l hl => ?_
  obtain ⟨i, hi, rfl⟩ := List.mem_map.1 hl
  have hi2 := List.mem_range.1 hi
  show ((css[i]?.getD [])[r]?.getD []).length = n
  rw [List.getElem?_eq_getElem hi2]
  exact ((hc _ (List.getElem_mem hi2)).2 r hr).2
theorem get_map {α β : Type} (l : List α) (d : α) (g : α → β) : (List.range l.length).map (fun i => g (l[i]?.getD d)) = l.map g := by
  refine List.ext_getElem? fun i => ?_
  rw [List.getElem?_map, List.getElem?_map]
  by_cases hi : i < l.length
  · rw [List.getElem?_range hi, List.getElem?_eq_getElem hi]; simp [List.getElem?_eq_getElem hi]
  · rw [List.getElem?_eq_none (by simpa using Nat.le_of_not_lt hi), List.getElem?_eq_none (Nat.le_of_not_lt hi)]; rfl
theorem xa_zero : ∀ k : Nat, xa (List.replicate k 0) = 0 := by
  intro k
  induction k with
  | zero => rfl
  | succ k ih => rw [List.replicate_succ, xa_cons, ih]; rfl
theorem per_sum {P : Nat} {α : Type} (l : List α) (x : α → Int → UInt8) (h : ∀ a ∈ l, Per P (x a)) : Per P (fun r => xa (l.map fun a => x a r)) := by
  refine ⟨fun r s e => ?_, ?_⟩
  · show xa _ = xa _
    congr 1
    exact List.map_congr_left fun a ha => (h a ha).1 _ _ e
  · show xa _ = 0
    rw [List.map_congr_left (g := fun _ => (0 : UInt8)) fun a ha => (h a ha).2]
    rw [List.map_const']
    exact xa_zero _
theorem bt_sum {P Q n : Nat} (hQ : P = Q + 1) {css : List (List (List UInt8))} (h0 : 0 < css.length) (hc : ∀ c ∈ css, GoodC Q n c) (j : Nat) (r : Int) : Bt P Q n (rowK css.length Q (fun i r => (css[i]?.getD [])[r]?.getD [])) j r = xa (css.map fun c => Bt P Q n c j r) := by
  refine bt_made hQ _ j _ (per_sum css (fun c => Bt P Q n c j) fun c _ => Bt.per hQ c j) (fun i hi => ?_) r
  rw [at_xorOf (n := n) (by simpa using h0) (fun l hl => by
    obtain ⟨k, hk, rfl⟩ := List.mem_map.1 hl
    have hi2 := List.mem_range.1 hk
    show ((css[k]?.getD [])[i]?.getD []).length = n
    rw [List.getElem?_eq_getElem hi2]
    exact ((hc _ (List.getElem_mem hi2)).2 i hi).2), List.map_map]
  congr 1
  rw [← get_map css [] (fun c => Bt P Q n c j (i : Int))]
  refine List.map_congr_left fun k _ => ?_
  exact (bt_at hQ _ j hi (Int.emod_eq_of_lt (by omega) (by omega))).symm
/-- The rows in the order of steps, the last one left out. -/
theorem rows_fin : ∀ p ∈ prm, ∀ s ∈ List.range 17, (s : Int) < p → s ≠ 0 → rowsF p (walkL p.toNat (p - 1) (s : Int)) = (List.range (p - 1).toNat).map (fun k : Nat => (p - 1 + ((k : Int) + 1) * (s : Int)) % p) := by decide +kernel
theorem mul_mod (P : Nat) (x m b : Int) : (x + m * (b % (P : Int))) % (P : Int) = (x + m * b) % (P : Int) := by
  rw [Int.add_emod, Int.mul_emod, Int.emod_emod_of_dvd _ (Int.dvd_refl _), ← Int.mul_emod, ← Int.add_emod]
theorem rows_are {P Q : Nat} (hQ : P = Q + 1) (hp : (P : Int) ∈ prm) {b : Int} (hb : b % (P : Int) ≠ 0) : rowsF P (walkN P ((P : Int) - 1) b) = (List.range Q).map (fun k : Nat => ((P : Int) - 1 + ((k : Int) + 1) * b) % (P : Int)) := by
  have hpb := prm_bounds hp
  have h0 := Int.emod_nonneg b (show (P : Int) ≠ 0 by omega)
  have h1 := Int.emod_lt_of_pos b (show (0 : Int) < P by omega)
  obtain ⟨s, hs⟩ : ∃ s : Nat, b % (P : Int) = (s : Int) := ⟨(b % (P : Int)).toNat, by omega⟩
  have h := rows_fin _ hp s (List.mem_range.2 (by omega)) (by omega) (by omega)
  rw [walkN_yes (fine_one.2 ⟨hp, by omega, by omega⟩), hs, h, show ((P : Int) - 1).toNat = Q by omega]
  refine List.map_congr_left fun k _ => ?_
  rw [← hs, mul_mod]
theorem al_whole {P Q n : Nat} (hQ : P = Q + 1) {c : List (List UInt8)} (hc : GoodC Q n c) (j : Nat) : at_ (xorOf ((List.range P).map (wholeF Q n c))) j = al P (Bt P Q n c j) := by
  rw [at_xorOf (n := n) (by simp; omega) (fun l hl => by obtain ⟨i, _, rfl⟩ := List.mem_map.1 hl; exact whole_len hc i), List.map_map]
  unfold al
  congr 1
  refine List.map_congr_left fun i hi => ?_
  have := List.mem_range.1 hi
  show at_ (wholeF Q n c i) j = _
  unfold Bt
  rw [Int.emod_eq_of_lt (by omega) (by omega), Int.toNat_natCast]
/-- Columns of one list put upon one another, as it is told. -/
def sumC (Q : Nat) (css : List (List (List UInt8))) : List (List UInt8) := rowK css.length Q (fun i r => (css[i]?.getD [])[r]?.getD [])
end Go.Proofs.YtfihlelhpmjpaaaGreatDoor.Rg

namespace Go.Proofs.YtfihlelhpmjpaaaGreatDoor.Rg
open Go.RowKit Go.Shelf Go.Proofs.YtfihlelhpmjpaaaGreatDoor.C Go.Proofs.YtfihlelhpmjpaaaGreatDoor.E
set_option linter.unusedSimpArgs false
set_option linter.unusedVariables false
attribute [local go_sem] Oper.semAt_some

theorem cols_two {W : World} {B g : Nat} {va vb : Value} {a b : List (List UInt8)} (h : Blk W g 37 #[va, vb]) (h1 : Many B W va a) (h2 : Many B W vb b) (hg : g < B) : Cols B W (.slice (some ⟨g, 0, none⟩) 2 2) [a, b] := by
  obtain ⟨A, cap, rfl, _, _⟩ := id h1
  obtain ⟨A', cap', rfl, _, _⟩ := id h2
  exact ⟨some ⟨g, 0, none⟩, 2, rfl, Nat.le_refl _, fun _ => ⟨g, 0, rfl, hg, fun j hj => by
    have hj2 : j = 0 ∨ j = 1 := (by have : j < 2 := hj; omega)
    rcases hj2 with rfl | rfl
    · exact ⟨_, h.cell 0, h1⟩
    · exact ⟨_, h.cell 1, h2⟩⟩⟩
/-- What columns are that may be. -/
theorem right_yes {p : Int} {css : List (List (List UInt8))} (h : RightD p css) (h0 : 0 < css.length) : ∃ P Q n : Nat, p = (P : Int) ∧ P = Q + 1 ∧ (P : Int) ∈ prm ∧ 1 ≤ n ∧ n ≤ 64 ∧ (firstC css).length = n ∧ ∀ j, j < css.length → GoodC Q n (css[j]?.getD []) := by
  have hb := prm_bounds h.1
  have hg := (rightD_iff h.1 h0).1 h
  obtain ⟨P, rfl⟩ : ∃ P : Nat, p = (P : Int) := ⟨p.toNat, by omega⟩
  have h1 := ((hg 0 h0).2 0 (by omega))
  refine ⟨P, P - 1, _, rfl, by omega, h.1, ?_, ?_, rfl, fun j hj => ?_⟩
  · rw [← h1.2]; exact h1.1.1
  · rw [← h1.2]; exact h1.1.2
  · have := hg j hj
    rwa [show ((P : Int) - 1).toNat = P - 1 by omega] at this
theorem right_of_good {P Q n : Nat} (hQ : P = Q + 1) (hp : (P : Int) ∈ prm) {css : List (List (List UInt8))} (h0 : 0 < css.length) (hg : ∀ j, j < css.length → GoodC Q n (css[j]?.getD [])) : RightD (P : Int) css ∧ (firstC css).length = n := by
  have hb := prm_bounds hp
  have hf : (firstC css).length = n := by
    have := ((hg 0 h0).2 0 (by omega)).2
    unfold firstC
    exact this
  refine ⟨(rightD_iff hp h0).2 fun j hj => ?_, hf⟩
  rw [hf, show ((P : Int) - 1).toNat = Q by omega]
  exact hg j hj
/-- A prime, the number of its rows, a cell's length. -/
structure Dims (P Q n : Nat) : Prop where
  hQ : P = Q + 1
  hp : (P : Int) ∈ prm
  h1 : 1 ≤ n
  h64 : n ≤ 64
variable {P Q n : Nat}
/-- The same, its room told. -/
theorem sumZ (d : Dims P Q n) (css : List (List (List UInt8))) (h0 : 0 < css.length) (hl : css.length ≤ 100) (hg : ∀ j, j < css.length → GoodC Q n (css[j]?.getD [])) (v : Value) (w : World) (hL : Laid w) (hC : Cols w.heap.size w v css) :
    Calls Tryz.prog 168 #[.int .i64 (P : Int), v] w fun e w' => ∃ A, e = .returned (.tuple #[.slice A Q Q, .int .i64 0]) ∧ Many w'.heap.size w' (.slice A Q Q) (sumC Q css) ∧ Below w.heap.size w w' := by
  obtain ⟨hr, hf⟩ := right_of_good d.hQ d.hp h0 hg
  have hgs : GoodC Q n (sumC Q css) := sum_good d.h1 d.h64 h0 fun c hc => by
    obtain ⟨i, hi, rfl⟩ := List.mem_iff_getElem.1 hc
    have := hg i hi
    rwa [List.getElem?_eq_getElem hi] at this
  refine (sum_yes P Q n d.hQ css v hr hf d.h1 d.h64 h0 hl w hL (Nat.le_refl _) hC).mono ?_
  rintro e w' ⟨u, rfl, ⟨hu, A, rfl⟩, hB⟩
  exact ⟨A, rfl, hu.many, hB⟩
end Go.Proofs.YtfihlelhpmjpaaaGreatDoor.Rg

namespace Go.Proofs.YtfihlelhpmjpaaaGreatDoor.Ch
open Go.RowKit Go.Shelf Go.Proofs.YtfihlelhpmjpaaaGreatDoor.C Go.Proofs.YtfihlelhpmjpaaaGreatDoor.E Go.Proofs.YtfihlelhpmjpaaaGreatDoor.Rg
set_option linter.unusedSimpArgs false
set_option linter.unusedVariables false

theorem xa_add {α : Type} (l : List α) (f g : α → UInt8) : xa (l.map fun x => f x ^^^ g x) = xa (l.map f) ^^^ xa (l.map g) := by
  induction l with
  | nil => simp [xa_nil]
  | cons a l ih =>
    rw [List.map_cons, List.map_cons, List.map_cons, xa_cons, xa_cons, xa_cons, ih]
    simp only [UInt8.xor_assoc, UInt8.xor_comm, xlc, xx, UInt8.xor_self, UInt8.xor_zero, UInt8.zero_xor]
theorem xa_filter {α : Type} (l : List α) (q : α → Bool) (f : α → UInt8) : xa ((l.filter q).map f) = xa (l.map fun x => if q x then f x else 0) := by
  induction l with
  | nil => rfl
  | cons a l ih =>
    rw [List.filter_cons, List.map_cons, xa_cons]
    by_cases h : q a = true
    · rw [if_pos h, List.map_cons, xa_cons, ih, if_pos h]
    · rw [if_neg h, if_neg h, ih, UInt8.zero_xor]
theorem al_add {P : Nat} (x y : Int → UInt8) : al P (fun r => x r ^^^ y r) = al P x ^^^ al P y := by
  unfold al
  exact xa_add _ _ _
theorem al_one {P Q : Nat} (hQ : P = Q + 1) {x : Int → UInt8} (hx : ∀ r s : Int, r % (P : Int) = s % (P : Int) → x r = x s) : al P (fun r => x (r - 1)) = al P x := by
  unfold al
  subst hQ
  rw [List.range_succ_eq_map, List.map_cons, xa_cons, ← List.range_succ_eq_map, List.range_succ, List.map_append, xa_append, List.map_map, List.map_cons, List.map_nil, xa_cons, xa_nil, UInt8.xor_zero, UInt8.xor_comm]
  congr 1
  · congr 1
    refine List.map_congr_left fun i _ => ?_
    show x (((i + 1 : Nat) : Int) - 1) = x (i : Int)
    rw [show ((i + 1 : Nat) : Int) - 1 = (i : Int) by omega]
  · refine hx _ _ ?_
    rw [show ((0 : Nat) : Int) - 1 = (Q : Int) + ((Q + 1 : Nat) : Int) * (-1) by omega, Int.add_mul_emod_self_left]
theorem al_shift {P Q : Nat} (hQ : P = Q + 1) {x : Int → UInt8} (hx : ∀ r s : Int, r % (P : Int) = s % (P : Int) → x r = x s) (a : Int) : al P (fun r => x (r - a)) = al P x := by
  have key : ∀ m : Nat, al P (fun r => x (r - (m : Int))) = al P x := by
    intro m
    induction m with
    | zero => simp
    | succ m ih =>
      rw [← ih, ← al_one hQ (x := fun r => x (r - (m : Int))) (fun r s e => hx _ _ (mod_sub e _))]
      congr 1
      funext r
      show x _ = x _
      rw [show r - 1 - (m : Int) = r - ((m + 1 : Nat) : Int) by omega]
  rw [← key (a % (P : Int)).toNat]
  congr 1
  funext r
  refine hx _ _ ?_
  have h2 := Int.emod_nonneg a (show (P : Int) ≠ 0 by omega)
  rw [Int.toNat_of_nonneg h2, Int.sub_emod, Int.sub_emod r (a % (P : Int)), Int.emod_emod_of_dvd _ (Int.dvd_refl _)]
/-- What all cells of a turned column come to. -/
theorem al_const {P Q : Nat} (hQ : P = Q + 1) (hp : (P : Int) ∈ prm) (c : UInt8) : al P (fun _ => c) = c := by
  have h := prm_odd hQ hp
  unfold al
  rw [List.map_const', List.length_range]
  have key : ∀ m : Nat, xa (List.replicate m c) = if m % 2 = 0 then 0 else c := by
    intro m
    induction m with
    | zero => rfl
    | succ m ih =>
      rw [List.replicate_succ, xa_cons, ih]
      rcases Nat.mod_two_eq_zero_or_one m with h2 | h2
      · rw [if_pos h2, if_neg (by omega), UInt8.xor_zero]
      · rw [if_neg (by omega), if_pos (by omega), UInt8.xor_self]
  rw [key, if_neg (by omega)]
theorem al_tu {P Q : Nat} (hQ : P = Q + 1) (hp : (P : Int) ∈ prm) {x : Int → UInt8} (hx : Per P x) (a : Int) : al P (tu a x) = al P x ^^^ x (-1 - a) := by
  have e : tu a x = fun r => (fun r => x (r - a)) r ^^^ (fun _ => x (-1 - a)) r := rfl
  rw [e, al_add, al_const hQ hp, al_shift hQ hx.1]
section
variable {P Q : Nat} {A B R D : Int → UInt8} {a b : Int}
/-- Upon the diagonals lies what was left out. -/
theorem adj_is (hQ : P = Q + 1) (hp : (P : Int) ∈ prm) (hA : Per P A) (hB : Per P B) (hR : ∀ r, R r = A r ^^^ B r) (hD : ∀ r, D r = tu a A r ^^^ tu b B r) : al P R ^^^ al P D = A (-1 - a) ^^^ B (-1 - b) := by
  rw [show R = fun r => A r ^^^ B r from funext hR, show D = fun r => tu a A r ^^^ tu b B r from funext hD, al_add, al_add, al_tu hQ hp hA, al_tu hQ hp hB]
  simp only [UInt8.xor_assoc, UInt8.xor_comm, xlc, xx, UInt8.xor_self, UInt8.xor_zero, UInt8.zero_xor]
/-- The next cell of the second column. -/
theorem next_b (hQ : P = Q + 1) (hp : (P : Int) ∈ prm) (hA : Per P A) (hB : Per P B) (hR : ∀ r, R r = A r ^^^ B r) (hD : ∀ r, D r = tu a A r ^^^ tu b B r) (x : Int) : A (x - (a - b)) ^^^ (D (b + x) ^^^ (al P R ^^^ al P D)) = B x := by
  rw [adj_is hQ hp hA hB hR hD, hD]
  unfold tu
  rw [show x - (a - b) = b + x - a by omega, show b + x - b = x by omega]
  simp only [UInt8.xor_assoc, UInt8.xor_comm, xlc, xx, UInt8.xor_self, UInt8.xor_zero, UInt8.zero_xor]
theorem next_a (hR : ∀ r, R r = A r ^^^ B r) (x : Int) : B x ^^^ R x = A x := by
  rw [hR]
  simp only [UInt8.xor_assoc, UInt8.xor_comm, xlc, xx, UInt8.xor_self, UInt8.xor_zero, UInt8.zero_xor]
theorem tu_zero {X : Int → UInt8} (hX : X (-1) = 0) (r : Int) : tu 0 X r = X r := by
  unfold tu
  rw [Int.sub_zero, Int.sub_zero, hX, UInt8.xor_zero]
end
/- The columns that EVENODD makes, byte by byte. -/
section
variable {P Q n : Nat} {css : List (List (List UInt8))}
theorem good_of (d : Dims P Q n) (hok : DataOk (P : Int) css) (hn : (firstC css).length = n) (c : Nat) (hc : c < P) : GoodC Q n (css[c]?.getD []) := by
  have hQ := d.hQ
  have hl := (dataOk_n hok).1
  have h0 : 0 < css.length := by omega
  have hr : RightD (P : Int) css := ⟨d.hp, hok.2.2⟩
  have := (rightD_iff d.hp h0).1 hr c (by omega)
  rwa [hn, show ((P : Int) - 1).toNat = Q by omega] at this
theorem by_bt (d : Dims P Q n) (c r j : Nat) (hr : r < Q) : by_ css j c r = Bt P Q n (css[c]?.getD []) j (r : Int) := by
  have hQ := d.hQ
  rw [bt_at hQ _ j hr (Int.emod_eq_of_lt (by omega) (by omega))]
  rfl
theorem bt_rows (d : Dims P Q n) (hok : DataOk (P : Int) css) (hn : (firstC css).length = n) (j : Nat) (r : Int) : Bt P Q n (rowsMade Q css) j r = xa ((List.range P).map fun c : Nat => Bt P Q n (css[c]?.getD []) j r) := by
  have hQ := d.hQ
  refine bt_made hQ _ j _ (per_sum _ (fun c : Nat => Bt P Q n (css[c]?.getD []) j) fun c _ => Bt.per hQ _ j) (fun i hi => ?_) r
  rw [at_row hok (by omega)]
  rw [show (P : Int).toNat = P from Int.toNat_natCast P]
  congr 1
  exact List.map_congr_left fun c _ => by_bt d c i j hi
theorem dg_bt (d : Dims P Q n) (j : Nat) (k : Int) : dg_ (P : Int) css j k = xa ((List.range P).map fun c : Nat => Bt P Q n (css[c]?.getD []) j (k - (c : Int))) := by
  have hQ := d.hQ
  unfold dg_ diagAt
  rw [List.map_map, xa_filter, show (P : Int).toNat = P from Int.toNat_natCast P]
  congr 1
  refine List.map_congr_left fun c _ => ?_
  show (if decide ((k - (c : Int)) % (P : Int) < (P : Int) - 1) then by_ css j c ((k - (c : Int)) % (P : Int)).toNat else 0) = _
  rcases row_lt hQ (k - (c : Int)) with ⟨i, hi, e⟩ | e
  · rw [e, if_pos (by simp; omega), Int.toNat_natCast, by_bt d c i j hi]
    exact (Bt.per hQ _ j).1 _ _ (by rw [e, Int.emod_eq_of_lt (by omega) (by omega)])
  · rw [(Bt.per hQ _ j).1 _ _ e, (Bt.per hQ _ j).2, e, last_mod hQ, if_neg (by simp; omega)]
theorem bt_diags (d : Dims P Q n) (hok : DataOk (P : Int) css) (hn : (firstC css).length = n) (j : Nat) (r : Int) : Bt P Q n (diagsMade (P : Int) Q css) j r = xa ((List.range P).map fun c : Nat => tu (c : Int) (Bt P Q n (css[c]?.getD []) j) r) := by
  have hQ := d.hQ
  refine bt_made hQ _ j _ (per_sum _ (fun c : Nat => tu (c : Int) (Bt P Q n (css[c]?.getD []) j)) fun c _ => (Bt.per hQ _ j).tu _) (fun i hi => ?_) r
  rw [at_diagMade hok (by omega), dg_bt d, dg_bt d, ← xa_add]
  congr 1
  refine List.map_congr_left fun c _ => ?_
  unfold tu
  rw [UInt8.xor_comm]
  congr 1
  exact (Bt.per hQ _ j).1 _ _ (mod_sub (by rw [last_mod hQ, show (P : Int) - 1 = (Q : Int) by omega, Int.emod_eq_of_lt (by omega) (by omega)]) _)
theorem rowsMade_good (d : Dims P Q n) (hok : DataOk (P : Int) css) (hn : (firstC css).length = n) : GoodC Q n (rowsMade Q css) :=
  made_good d.h1 d.h64 _ fun i hi => by have hQ := d.hQ; rw [row_len hok (by omega), hn]
theorem diagsMade_good (d : Dims P Q n) (hok : DataOk (P : Int) css) (hn : (firstC css).length = n) : GoodC Q n (diagsMade (P : Int) Q css) :=
  made_good d.h1 d.h64 _ fun i hi => by have hQ := d.hQ; rw [diag_len hok (by omega), hn]
end
/- Two columns put upon one another. -/
section
variable {P Q n : Nat} {c e : List (List UInt8)}
theorem sum2_good (d : Dims P Q n) (hc : GoodC Q n c) (he : GoodC Q n e) : GoodC Q n (sumC Q [c, e]) :=
  sum_good d.h1 d.h64 (by simp) (by intro x hx; simp only [List.mem_cons, List.not_mem_nil, or_false] at hx; rcases hx with rfl | rfl <;> assumption)
theorem bt_sum2 (d : Dims P Q n) (hc : GoodC Q n c) (he : GoodC Q n e) (j : Nat) (r : Int) : Bt P Q n (sumC Q [c, e]) j r = Bt P Q n c j r ^^^ Bt P Q n e j r := by
  refine (bt_sum d.hQ (css := [c, e]) (by simp) (by intro x hx; simp only [List.mem_cons, List.not_mem_nil, or_false] at hx; rcases hx with rfl | rfl <;> assumption) j r).trans ?_
  simp only [List.map_cons, List.map_nil, xa_cons, xa_nil, UInt8.xor_zero]
end
/-- The nought column. -/
def noC (Q n : Nat) : List (List UInt8) := List.replicate Q (List.replicate n 0)
theorem noC_good {Q n : Nat} (h1 : 1 ≤ n) (h64 : n ≤ 64) : GoodC Q n (noC Q n) := by
  refine ⟨by unfold noC; simp, fun r hr => ?_⟩
  unfold noC
  rw [List.getElem?_replicate, if_pos hr]
  exact ⟨by unfold Cell; simp; exact ⟨h1, h64⟩, by simp⟩
theorem bt_noC {P Q n : Nat} (hQ : P = Q + 1) (j : Nat) (r : Int) : Bt P Q n (noC Q n) j r = 0 := by
  unfold Bt wholeF noC
  split
  · rw [List.getElem?_replicate]
    split <;> exact at_nought _ _
  · exact at_nought _ _
end Go.Proofs.YtfihlelhpmjpaaaGreatDoor.Ch

