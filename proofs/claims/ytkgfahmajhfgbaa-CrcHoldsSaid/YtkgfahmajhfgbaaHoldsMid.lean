/- The law CrcHolds answers true for every input and leaves its arguments as they were. -/
import Derived.Test.YtkgfahmajhfgbaaLawKit
import Derived.ShutString
import Derived.ChangeOld
import Derived.Laws.IdiomArrays
namespace Go.Proofs.Ytkgfahmajhfgbaa.crcHolds
open Go.ChangeShapes Go.WideShapes Go.ChangeAt Go.RowKit
set_option linter.unusedVariables false

theorem OwnB.at_ {w : World} {base : Nat} {A : Option Addr} {n cap : Nat} {l : List UInt8} (h : OwnB w base (.slice A n cap) l) (hn : l.length = n) (hp : 0 < n) : ∃ g, A = some ⟨g, 0, none⟩ ∧ base ≤ g ∧ g < w.heap.size := by
  subst hn
  obtain ⟨g, cap', e, hb, hlt⟩ := World.ownsRow.form h hp
  injection e with e1 _ _
  exact ⟨g, e1, hb, hlt⟩
theorem OwnB.cell {w : World} {base g n cap : Nat} {l : List UInt8} (h : OwnB w base (.slice (some ⟨g, 0, none⟩) n cap) l) (hn : l.length = n) {j : Nat} (hj : j < n) : w.cell? ⟨g, j, none⟩ = some (.int .u8 ((l[j]?.getD 0).toNat : Int)) := by
  subst hn
  rw [World.ownsRow.cellAt h j (by omega), List.getElem?_map, List.getElem?_eq_getElem hj]; rfl
theorem OwnB.frozen {w : World} {base g n cap : Nat} {l : List UInt8} (h : OwnB w base (.slice (some ⟨g, 0, none⟩) n cap) l) (hn : l.length = n) (j : Nat) : w.frozen? ⟨g, j, none⟩ = false := by
  subst hn
  exact World.ownsRow.frozenAt h j
theorem OwnB.set_ {w : World} {base g n cap : Nat} {l : List UInt8} (h : OwnB w base (.slice (some ⟨g, 0, none⟩) n cap) l) (hn : l.length = n) (j : Nat) (c : UInt8) : OwnB (w.setCell ⟨g, j, none⟩ (.int .u8 (c.toNat : Int))) base (.slice (some ⟨g, 0, none⟩) n cap) (l.set j c) := by
  subst hn
  have := (World.ownsRow.stored h j (.int .u8 (c.toNat : Int))).1
  unfold OwnB
  rw [List.length_set, List.map_set]
  exact this
theorem OwnB.far {w : World} {base : Nat} {v : Value} {l : List UInt8} (h : OwnB w base v l) {g : Nat} (hg : v.ownBlock ≠ some g) (j : Nat) (u : Value) : OwnB (w.setCell ⟨g, j, none⟩ u) base v l :=
  World.ownsRow.kept h (grown_set g j u) (.inr hg)
theorem OwnB.drew_ {w : World} {base : Nat} {v : Value} {l : List UInt8} (h : OwnB w base v l) : OwnB w.drew base v l := h

theorem xw_step (b : List UInt8) (p : Nat) (bs : List UInt8) (k : Nat) (hk : k < bs.length) : xw b p (bs.take (k + 1)) = (xw b p (bs.take k)).set (p + k) (((xw b p (bs.take k))[p + k]?.getD 0) ^^^ (bs[k]?.getD 0)) := by
  have e : (bs.take k).length = k := by rw [List.length_take]; omega
  rw [List.take_succ_eq_append_getElem hk, xw_snoc, e, List.getElem?_eq_getElem hk]
  rfl

/-- What lies in memory when k rounds are over: b's copy (its length n), s's copy, the four bytes. -/
def Put (b s bs : List UInt8) (p Bb bo bt n gt : Nat) (Ao : Option Addr) (co ct k : Nat) (W : World) : Prop :=
  OwnB W bo (.slice Ao n co) (xw b p (bs.take k)) ∧ OwnB W bt (.slice (some ⟨gt, 0, none⟩) (n + 4) ct) (xw s p (bs.take k)) ∧ Blk W Bb 40 (bs.map enc).toArray

theorem Put.drew_ {b s bs : List UInt8} {p Bb bo bt n gt : Nat} {Ao : Option Addr} {co ct k : Nat} {W : World} (h : Put b s bs p Bb bo bt n gt Ao co ct k W) : Put b s bs p Bb bo bt n gt Ao co ct k W.drew := h

theorem Put.both {b s bs : List UInt8} {p Bb bo bt gt go n : Nat} {co ct k : Nat} {W : World} (h : Put b s bs p Bb bo bt n gt (some ⟨go, 0, none⟩) co ct k W) (hk : k < bs.length) (hn : b.length = n) (hs : s.length = n + 4) (h1 : go ≠ gt) (h2 : Bb ≠ gt) (h3 : Bb ≠ go)
    {x y : UInt8} (hx : ((xw s p (bs.take k))[p + k]?.getD 0) ^^^ (bs[k]?.getD 0) = x) (hy : ((xw b p (bs.take k))[p + k]?.getD 0) ^^^ (bs[k]?.getD 0) = y) :
    Put b s bs p Bb bo bt n gt (some ⟨go, 0, none⟩) co ct (k + 1) ((W.setCell ⟨gt, p + k, none⟩ (.int .u8 (x.toNat : Int))).setCell ⟨go, p + k, none⟩ (.int .u8 (y.toNat : Int))) := by
  obtain ⟨q1, q2, q3⟩ := h
  unfold Put
  rw [xw_step b p bs k hk, xw_step s p bs k hk, hx, hy]
  refine ⟨?_, ?_, (Blk.far q3 (by simpa using h2) _).far (by simpa using h3) _⟩
  · exact OwnB.set_ (OwnB.far q1 (by simpa [Value.ownBlock] using h1) _ _) (by rw [xw_len, hn]) _ _
  · exact OwnB.far (OwnB.set_ q2 (by rw [xw_len, hs]) _ _) (by simpa [Value.ownBlock] using h1.symm) _ _

theorem Put.one {b s bs : List UInt8} {p Bb bo bt gt n : Nat} {Ao : Option Addr} {co ct k : Nat} {W : World} (h : Put b s bs p Bb bo bt n gt Ao co ct k W) (hk : k < bs.length) (hn : b.length = n) (hs : s.length = n + 4) (h1 : Value.ownBlock (.slice Ao n co) ≠ some gt) (h2 : Bb ≠ gt) (hp : n ≤ p + k)
    {x : UInt8} (hx : ((xw s p (bs.take k))[p + k]?.getD 0) ^^^ (bs[k]?.getD 0) = x) :
    Put b s bs p Bb bo bt n gt Ao co ct (k + 1) (W.setCell ⟨gt, p + k, none⟩ (.int .u8 (x.toNat : Int))) := by
  obtain ⟨q1, q2, q3⟩ := h
  unfold Put
  rw [xw_step b p bs k hk, xw_step s p bs k hk, hx, List.set_eq_of_length_le (by rw [xw_len, hn]; exact hp)]
  exact ⟨OwnB.far q1 h1 _ _, OwnB.set_ q2 (by rw [xw_len, hs]) _ _, Blk.far q3 (by simpa using h2) _⟩

set_option maxRecDepth 100000 in
set_option maxHeartbeats 2000000 in
theorem mid (l : List UInt8) (A0 : Option Addr) (cap0 p : Nat) (c0 c1 c2 c3 : UInt8) (w : World) (hl : l.length ≤ 2000) (hp : p ≤ l.length) (hne : ¬ [c0, c1, c2, c3] = [0, 0, 0, 0]) (hb : Bytes w.heap.size w (.slice A0 l.length cap0) l) :
    Calls Try.prog 7 #[.slice A0 l.length cap0, .int .i64 (p : Int), .agg #[.int .u8 (c0.toNat : Int), .int .u8 (c1.toNat : Int), .int .u8 (c2.toNat : Int), .int .u8 (c3.toNat : Int)]] w fun e w' => e = .returned (.bool true) ∧ Below w.heap.size w w' := by
  have d1 : decide ((2000 : Int) < (l.length : Int)) = false := by simp; omega
  have d2 : decide ((p : Int) < 0) = false := by simp
  have d3 : decide ((l.length : Int) < (p : Int)) = false := by simp; omega
  obtain ⟨i0, hi, hz0, hz1, hz2⟩ := info_parts Try.infoByte
  have d4 : decide (l.length < p) = false := by simp; omega
  have hz4 : ∀ W : World, (Op.equalIn 10000 40 (.agg #[.int .u8 (c0.toNat : Int), .int .u8 (c1.toNat : Int), .int .u8 (c2.toNat : Int), .int .u8 (c3.toNat : Int)]) (.agg #[.int .u8 0, .int .u8 0, .int .u8 0, .int .u8 0])).run Try.prog W = .ok false W := by
    intro W
    have := eq4 c0.toNat c1.toNat c2.toNat c3.toNat 0 0 0 0 W
    rw [this]
    congr 1
    rw [Bool.eq_false_iff]
    intro h
    simp only [Bool.and_eq_true, beq_iff_eq] at h
    obtain ⟨e0, e1, e2, e3⟩ := h
    apply hne
    rw [show c0 = 0 from UInt8.toNat_inj.1 (by simpa using e0), show c1 = 0 from UInt8.toNat_inj.1 (by simpa using e1), show c2 = 0 from UInt8.toNat_inj.1 (by simpa using e2), show c3 = 0 from UInt8.toNat_inj.1 (by simpa using e3)]
  have hbk := Blk.new w 40 #[.int .u8 (c0.toNat : Int), .int .u8 (c1.toNat : Int), .int .u8 (c2.toNat : Int), .int .u8 (c3.toNat : Int)]
  have S1 := Lib.hid (fun (W : World) (hB : Below w.heap.size w W) => seal_yes (.slice A0 l.length cap0) l (by omega) W ((hb.below hB).more hB.size))
  have HB := Lib.hid hb
  have HN := Lib.hid hne
  have HK := Lib.hid hbk
  have hs4 : (l ++ le4 (sum l)).length = l.length + 4 := by rw [List.length_append, le4_len]
  have HSL := Lib.hid (seals_seal l)
  have hS := Lib.hid hs4
  clear hb hne hbk hs4
  generalize l ++ le4 (sum l) = s at S1 HSL hS
  go_enter Try.func7, Try.ntmps7
  go_wp2_with (first
    | (go_at_call 15; refine (S1.out _ ((Below.refl _ w).alloc (Nat.le_refl _) _)).mono ?_; rintro e w1 ⟨v1, rfl, hown1, hB1⟩; obtain ⟨A1, cap1, rfl⟩ := hown1.bytes.form (n := l.length + 4) hS.out)
    | (go_at_call 18; refine (num_any _ _).mono ?_; rintro e wn ⟨rfl, rfl⟩)
    | (refine wpList_app _ rfl (.const (.slice none 0 0)) (.tmp 49) rfl w1.heap.size i0 Try.underlying24 hi hz0 hz1 hz2 (.slice none 0 0) [] rfl (own_nil _ _) w.heap.size _ l rfl (HB.out.below (Below.trans ((Below.refl _ w).alloc (Nat.le_refl _) _) (hB1.mono (by simp)))) (by simp; omega) (Nat.le_refl _) ?_; intro vo w2 hown2 hgrow2 hat2)
    | (refine wpList_app _ rfl (.const (.slice none 0 0)) (.tmp 51) rfl w2.heap.size i0 Try.underlying24 hi hz0 hz1 hz2 (.slice none 0 0) [] rfl (own_nil _ _) w1.heap.size _ s rfl (hown1.bytes.below (below_grown (Below.refl _ w1) hgrow2 (Nat.le_refl _) (fun k e => by simp [Value.ownBlock] at e))) (by have := hS.out; simp; omega) (Nat.le_refl _) ?_; intro vt w3 hown3 hgrow3 hat3))
  simp only [List.nil_append] at hown2 hown3
  obtain ⟨Ao, co, rfl⟩ := hown2.bytes.form (n := l.length) rfl
  obtain ⟨At, ct, rfl⟩ := hown3.bytes.form (n := l.length + 4) hS.out
  obtain ⟨gt, rfl, hgt, hgt2⟩ := OwnB.at_ hown3 hS.out (by omega)
  have HGO : 0 < l.length → ∃ go, Ao = some ⟨go, 0, none⟩ ∧ w1.heap.size ≤ go ∧ go < w2.heap.size := fun h => OwnB.at_ hown2 rfl h
  have HNE : Value.ownBlock (.slice Ao l.length co) ≠ some gt := by
    intro e
    have := (World.ownsRow.lt hown2 gt e).2
    omega
  have z1 : w.heap.size + 1 ≤ w1.heap.size := by have := hB1.size; simpa using this
  have z2 : w1.heap.size ≤ w2.heap.size := hgrow2.size
  have b1 : Below w.heap.size w w1 := Below.trans ((Below.refl _ w).alloc (Nat.le_refl _) _) (hB1.mono (by simp))
  have b2 : Below w1.heap.size w1 w2 := below_grown (Below.refl _ w1) hgrow2 (Nat.le_refl _) (fun k e => by simp [Value.ownBlock] at e)
  have b3 : Below w2.heap.size w2 w3 := below_grown (Below.refl _ w2) hgrow3 (Nat.le_refl _) (fun k e => by simp [Value.ownBlock] at e)
  have b13 := Below.next b1 (Below.next b2 b3)
  have hp0 : Put l s [c0, c1, c2, c3] p w.heap.size w1.heap.size w2.heap.size l.length gt Ao co ct 0 w3 := by
    refine ⟨World.ownsRow.kept hown2 hgrow3 ?_, hown3, ?_⟩
    · cases h : Value.ownBlock (.slice Ao l.length co) with
      | none => exact .inl rfl
      | some g => exact .inr (by simp [Value.ownBlock])
    · exact ((Blk.below HK.out hB1 (by simp)).below b2 (by omega)).below b3 (by omega)
  have HP := Lib.hid hp0
  clear hp0 hown1 hown2 hown3 hgrow2 hgrow3 hat2 hat3 hB1 hi hz0 hz1 hz2 b1 b2 b3
  go_loopw [11] (fun i wr => ∃ k : Nat, k ≤ 4 ∧ i = .int .i64 k ∧ Hid (Put l s [c0, c1, c2, c3] p w.heap.size w1.heap.size w2.heap.size l.length gt Ao co ct k wr) ∧ Below w.heap.size w wr) (fun i _ => 4 - (intOf i).toNat)
  case atStart => exact ⟨0, by omega, rfl, HP, b13⟩
  case round =>
    obtain ⟨k, hk, rfl, HQ, hBk⟩ := hrel
    by_cases hlt : k < 4
    · have e1 : decide ((k : Int) < 4) = true := by simp; omega
      have ls := hS.out
      have cT := OwnB.cell HQ.out.2.1 (by rw [xw_len]; exact ls) (j := p + k) (by omega)
      have fT := OwnB.frozen HQ.out.2.1 (by rw [xw_len]; exact ls) (p + k)
      have cB : wr.cell? ⟨w.heap.size, k, none⟩ = some (.int .u8 (([c0, c1, c2, c3][k]?.getD 0).toNat : Int)) := by
        rw [Blk.cell HQ.out.2.2 k, List.getElem?_toArray, List.getElem?_map, List.getElem?_eq_getElem (by simpa using hlt)]; rfl
      have hxT := bits_u8 ((xw s p ([c0, c1, c2, c3].take k))[p + k]?.getD 0) ([c0, c1, c2, c3][k]?.getD 0)
      generalize hx : ((xw s p ([c0, c1, c2, c3].take k))[p + k]?.getD 0) ^^^ ([c0, c1, c2, c3][k]?.getD 0) = x at hxT
      have HX := Lib.hid hx
      clear hx ls
      by_cases hin : p + k < l.length
      · obtain ⟨go, rfl, hgo1, hgo2⟩ := HGO (by omega)
        have cO := OwnB.cell HQ.out.1 (xw_len _ _ _) hin
        have fO := OwnB.frozen HQ.out.1 (xw_len _ _ _) (p + k)
        have hyO := bits_u8 ((xw l p ([c0, c1, c2, c3].take k))[p + k]?.getD 0) ([c0, c1, c2, c3][k]?.getD 0)
        generalize hy : ((xw l p ([c0, c1, c2, c3].take k))[p + k]?.getD 0) ^^^ ([c0, c1, c2, c3][k]?.getD 0) = y at hyO
        have HR := Lib.hid (Put.both HQ.out (by simpa using hlt) rfl hS.out (by omega) (by omega) (by omega) HX.out hy)
        clear hy
        generalize (xw s p ([c0, c1, c2, c3].take k))[p + k]?.getD 0 = u1 at cT hxT
        generalize (xw l p ([c0, c1, c2, c3].take k))[p + k]?.getD 0 = u2 at cO hyO
        generalize [c0, c1, c2, c3][k]?.getD 0 = u3 at cB hxT hyO
        have c1' : (wr.setCell ⟨gt, p + k, none⟩ (.int .u8 (x.toNat : Int))).cell? ⟨go, p + k, none⟩ = some (.int .u8 (u2.toNat : Int)) := by
          rw [World.cell?_setCell_other _ _ _ _ (fun e => by injection e; omega)]; exact cO
        have c2' : (wr.setCell ⟨gt, p + k, none⟩ (.int .u8 (x.toNat : Int))).cell? ⟨w.heap.size, k, none⟩ = some (.int .u8 (u3.toNat : Int)) := by
          rw [World.cell?_setCell_other _ _ _ _ (fun e => by injection e; omega)]; exact cB
        have e2 : decide ((p : Int) + (k : Int) < (l.length : Int)) = true := by simp; omega
        have e3 : decide (p + k < l.length) = true := by simpa using hin
        go_wp2
        go_region
        all_goals go_wp2
        all_goals go_region
        all_goals go_wp2
        all_goals exact ⟨⟨k + 1, by omega, by go_num, Lib.hid HR.out.drew_.drew_, ((hBk.setCell (p := ⟨gt, p + k, none⟩) (by show w.heap.size ≤ gt; omega) _).setCell (p := ⟨go, p + k, none⟩) (by show w.heap.size ≤ go; omega) _).drew.drew⟩, by simp [intOf]; omega⟩
      · have HR := Lib.hid (Put.one HQ.out (by simpa using hlt) rfl hS.out HNE (by omega) (by omega) HX.out)
        generalize (xw s p ([c0, c1, c2, c3].take k))[p + k]?.getD 0 = u1 at cT hxT
        generalize [c0, c1, c2, c3][k]?.getD 0 = u3 at cB hxT
        have e2 : decide ((p : Int) + (k : Int) < (l.length : Int)) = false := by simp; omega
        have e3 : decide (p + k < l.length) = false := by simpa using hin
        go_wp2
        go_region
        all_goals go_wp2
        all_goals exact ⟨⟨k + 1, by omega, by go_num, Lib.hid HR.out.drew_, (hBk.setCell (p := ⟨gt, p + k, none⟩) (by show w.heap.size ≤ gt; omega) _).drew⟩, by simp [intOf]; omega⟩
    · obtain rfl : k = 4 := by omega
      have e1 : decide (((4 : Nat) : Int) < 4) = false := by decide
      have q1 : OwnB wr w1.heap.size (.slice Ao l.length co) (xw l p [c0, c1, c2, c3]) := HQ.out.1
      have q2 : OwnB wr w2.heap.size (.slice (some ⟨gt, 0, none⟩) (l.length + 4) ct) (xw s p [c0, c1, c2, c3]) := HQ.out.2.1
      have OT := Lib.hid (open_no _ (xw s p [c0, c1, c2, c3]) (by rw [xw_len, hS.out]; omega) wr q2.bytes (xw_seals HSL.out rfl (by rw [hS.out]; omega) HN.out))
      have BX := q1.bytes
      have BL := (HB.out.below hBk).more hBk.size
      have hX2 : (xw l p [c0, c1, c2, c3]).length ≤ 140737488351232 := by rw [xw_len]; omega
      have hXS : sum (xw l p [c0, c1, c2, c3]) = sum l → xw l p [c0, c1, c2, c3] = l := xw_sum rfl
      clear q1 q2 HQ HP HGO HNE HSL HN HK
      generalize xw l p [c0, c1, c2, c3] = X at BX hX2 hXS
      go_wp2_with fail
      refine OT.out.mono ?_
      rintro e w5 ⟨rfl, hB5⟩
      have BX5 := (BX.below hB5).more hB5.size
      have BL5 := (BL.below hB5).more hB5.size
      have tX := text_in BX5
      have tL := text_in BL5
      have SX := Lib.hid (sum_row1 _ X BX5 hX2)
      have SL := Lib.hid (sum_row1 _ l BL5 (by omega))
      have hxd := @sums_differ X l
      have htd : ¬ X = l → ((text X).toList == (text l).toList) = false := fun h => texts_differ (fun e => h (text_inj e))
      have BZ := Below.next hBk hB5
      clear BX BL BX5 BL5 hX2 HB
      by_cases hXL : X = l
      · subst hXL
        clear htd hxd hXS
        generalize text X = tx at tX tL
        generalize sum X = sx at SX SL
        go_wp2_with (go_at_call 18; refine (num_any _ _).mono ?_; rintro e wm ⟨rfl, rfl⟩)
        go_region_held_law (fun W => (convert 24 9 (.slice Ao X.length co)).run Try.prog W = .ok (.string tx) W ∧ (convert 24 9 (.slice A0 X.length cap0)).run Try.prog W = .ok (.string tx) W)
          (first | exact ⟨tX _ (Below.refl _ w5).drew, tL _ (Below.refl _ w5).drew⟩ | exact ⟨tX _ ((Below.refl _ w5).alloc (Nat.le_refl _) _).drew, tL _ ((Below.refl _ w5).alloc (Nat.le_refl _) _).drew⟩ | exact ⟨tX _ (((Below.refl _ w5).alloc (Nat.le_refl _) _).alloc (by simp) _).drew, tL _ (((Below.refl _ w5).alloc (Nat.le_refl _) _).alloc (by simp) _).drew⟩ | exact ⟨tX _ hB6, tL _ hB6⟩ | exact ⟨tX _ (hB6.alloc hB6.size _), tL _ (hB6.alloc hB6.size _)⟩ | exact ⟨tX _ (hB6.alloc hB6.size _).drew, tL _ (hB6.alloc hB6.size _).drew⟩ | exact ⟨tX _ hB7, tL _ hB7⟩ | exact ⟨tX _ hB8, tL _ hB8⟩) (first
          | (go_at_call 11; refine (SX.out _ _ ?_ ?_).mono ?_; exact below_one w5 _; exact (Blk.new w5 _ _).drew_; rintro e w6 ⟨rfl, hB6v⟩; have hB6 := Below.next (below_one w5 _) hB6v)
          | (go_at_call 11; refine (SX.out _ _ ?_ ?_).mono ?_; exact below_two w5 _ _; (first | exact blk_first w5 _ _ _ | exact blk_second w5 _ _ _); rintro e w6 ⟨rfl, hB6v⟩; have hB6 := Below.next (below_two w5 _ _) hB6v)
          | (go_at_call 11; refine (SX.out _ _ ?_ ?_).mono ?_; exact hB6; (first | exact (blk_first w5 _ _ _).below hB6v (two_lt0 w5 _ _) | exact (blk_second w5 _ _ _).below hB6v (two_lt1 w5 _ _)); rintro e w7 ⟨rfl, hB7v⟩; have hB7 := Below.next hB6 hB7v)
          | (go_at_call 11; refine (SX.out _ _ ?_ ?_).mono ?_; exact hB6.alloc hB6.size _; exact Blk.new w6 _ _; rintro e w7 ⟨rfl, hB7v⟩; have hB7 := Below.next (hB6.alloc hB6.size _) hB7v)
          | (go_at_call 11; refine (SL.out _ _ ?_ ?_).mono ?_; exact below_one w5 _; exact (Blk.new w5 _ _).drew_; rintro e w6 ⟨rfl, hB6v⟩; have hB6 := Below.next (below_one w5 _) hB6v)
          | (go_at_call 11; refine (SL.out _ _ ?_ ?_).mono ?_; exact below_two w5 _ _; (first | exact blk_first w5 _ _ _ | exact blk_second w5 _ _ _); rintro e w6 ⟨rfl, hB6v⟩; have hB6 := Below.next (below_two w5 _ _) hB6v)
          | (go_at_call 11; refine (SL.out _ _ ?_ ?_).mono ?_; exact hB6; (first | exact (blk_first w5 _ _ _).below hB6v (two_lt0 w5 _ _) | exact (blk_second w5 _ _ _).below hB6v (two_lt1 w5 _ _)); rintro e w7 ⟨rfl, hB7v⟩; have hB7 := Below.next hB6 hB7v)
          | (go_at_call 11; refine (SL.out _ _ ?_ ?_).mono ?_; exact hB6.alloc hB6.size _; exact Blk.new w6 _ _; rintro e w7 ⟨rfl, hB7v⟩; have hB7 := Below.next (hB6.alloc hB6.size _) hB7v)
          | (go_at_call 10; refine (works_in (w := w5) _ ?_).mono ?_; exact hB7; rintro e w8 ⟨rfl, hB8⟩))
        all_goals go_wp2
        all_goals go_ret
        all_goals exact ⟨rfl, Below.next BZ hB8⟩
      · have hx1 := hxd (fun e => hXL (hXS e))
        have hx2 : decide (sum X = sum l) = false := decide_eq_false (fun e => hXL (hXS e))
        have hx3 : (((sum X : Nat) : Int) == ((sum l : Nat) : Int)) = false := by rw [beq_eq_false_iff_ne]; intro e; exact hXL (hXS (by exact_mod_cast e))
        have ht1 := htd hXL
        clear htd hxd hXS
        generalize text X = tx at tX ht1
        generalize text l = tl at tL ht1
        generalize sum X = sx at SX hx1 hx2 hx3
        generalize sum l = sl at SL hx1 hx2 hx3
        go_wp2_with (go_at_call 18; refine (num_any _ _).mono ?_; rintro e wm ⟨rfl, rfl⟩)
        go_region_held_law (fun W => (convert 24 9 (.slice Ao l.length co)).run Try.prog W = .ok (.string tx) W ∧ (convert 24 9 (.slice A0 l.length cap0)).run Try.prog W = .ok (.string tl) W)
          (first | exact ⟨tX _ (Below.refl _ w5).drew, tL _ (Below.refl _ w5).drew⟩ | exact ⟨tX _ ((Below.refl _ w5).alloc (Nat.le_refl _) _).drew, tL _ ((Below.refl _ w5).alloc (Nat.le_refl _) _).drew⟩ | exact ⟨tX _ (((Below.refl _ w5).alloc (Nat.le_refl _) _).alloc (by simp) _).drew, tL _ (((Below.refl _ w5).alloc (Nat.le_refl _) _).alloc (by simp) _).drew⟩ | exact ⟨tX _ hB6, tL _ hB6⟩ | exact ⟨tX _ (hB6.alloc hB6.size _), tL _ (hB6.alloc hB6.size _)⟩ | exact ⟨tX _ (hB6.alloc hB6.size _).drew, tL _ (hB6.alloc hB6.size _).drew⟩ | exact ⟨tX _ hB7, tL _ hB7⟩ | exact ⟨tX _ hB8, tL _ hB8⟩) (first
          | (go_at_call 11; refine (SX.out _ _ ?_ ?_).mono ?_; exact below_one w5 _; exact (Blk.new w5 _ _).drew_; rintro e w6 ⟨rfl, hB6v⟩; have hB6 := Below.next (below_one w5 _) hB6v)
          | (go_at_call 11; refine (SX.out _ _ ?_ ?_).mono ?_; exact below_two w5 _ _; (first | exact blk_first w5 _ _ _ | exact blk_second w5 _ _ _); rintro e w6 ⟨rfl, hB6v⟩; have hB6 := Below.next (below_two w5 _ _) hB6v)
          | (go_at_call 11; refine (SX.out _ _ ?_ ?_).mono ?_; exact hB6; (first | exact (blk_first w5 _ _ _).below hB6v (two_lt0 w5 _ _) | exact (blk_second w5 _ _ _).below hB6v (two_lt1 w5 _ _)); rintro e w7 ⟨rfl, hB7v⟩; have hB7 := Below.next hB6 hB7v)
          | (go_at_call 11; refine (SX.out _ _ ?_ ?_).mono ?_; exact hB6.alloc hB6.size _; exact Blk.new w6 _ _; rintro e w7 ⟨rfl, hB7v⟩; have hB7 := Below.next (hB6.alloc hB6.size _) hB7v)
          | (go_at_call 11; refine (SL.out _ _ ?_ ?_).mono ?_; exact below_one w5 _; exact (Blk.new w5 _ _).drew_; rintro e w6 ⟨rfl, hB6v⟩; have hB6 := Below.next (below_one w5 _) hB6v)
          | (go_at_call 11; refine (SL.out _ _ ?_ ?_).mono ?_; exact below_two w5 _ _; (first | exact blk_first w5 _ _ _ | exact blk_second w5 _ _ _); rintro e w6 ⟨rfl, hB6v⟩; have hB6 := Below.next (below_two w5 _ _) hB6v)
          | (go_at_call 11; refine (SL.out _ _ ?_ ?_).mono ?_; exact hB6; (first | exact (blk_first w5 _ _ _).below hB6v (two_lt0 w5 _ _) | exact (blk_second w5 _ _ _).below hB6v (two_lt1 w5 _ _)); rintro e w7 ⟨rfl, hB7v⟩; have hB7 := Below.next hB6 hB7v)
          | (go_at_call 11; refine (SL.out _ _ ?_ ?_).mono ?_; exact hB6.alloc hB6.size _; exact Blk.new w6 _ _; rintro e w7 ⟨rfl, hB7v⟩; have hB7 := Below.next (hB6.alloc hB6.size _) hB7v)
          | (go_at_call 10; refine (works_in (w := w5) _ ?_).mono ?_; exact hB7; rintro e w8 ⟨rfl, hB8⟩))
        all_goals go_wp2
        all_goals go_ret
        all_goals exact ⟨rfl, Below.next BZ hB8⟩
end Go.Proofs.Ytkgfahmajhfgbaa.crcHolds
