/- The document's own Open. -/
import Derived.Test.YtkgfahmajhfgbaaRowKit
import Derived.Deep.RegionHeldLaw
namespace Go.Proofs.Ytkgfahmajhfgbaa
open Go.RowKit

def text (l : List UInt8) : ByteArray := ⟨l.toArray⟩
theorem text_inj {a b : List UInt8} (h : text a = text b) : a = b := by
  have : (text a).data.toList = (text b).data.toList := by rw [h]
  simpa [text] using this

theorem texts_differ {a b : ByteArray} (h : ¬ a = b) : (a.toList == b.toList) = false := by
  rw [beq_eq_false_iff_ne]
  intro e
  rw [ByteArray.toList_eq, ByteArray.toList_eq] at e
  exact h (WideShapes.bytes_inj e)
theorem Bytes.slice_form {B : Nat} {w : World} {v : Value} {l : List UInt8} (h : Bytes B w v l) : ∃ A cap, v = .slice A l.length cap ∧ l.length ≤ cap := by
  obtain ⟨A, cap, e, hc, _⟩ := h
  exact ⟨A, cap, e, hc⟩
theorem own_nil (w : World) (base : Nat) : OwnB w base (.slice none 0 0) [] := World.ownsRow_nil w base _ 1

/-- What the document's Open does, up to its test. -/
def Opened (l : List UInt8) (w : World) (e : Ending) (w' : World) : Prop :=
  (Seals l → ∃ v', e = .returned (.tuple #[v', .bool true]) ∧ OwnB w' w.heap.size v' (body l)) ∧ (¬ Seals l → e = .returned (.tuple #[.slice none 0 0, .bool false])) ∧ Below w.heap.size w w'

set_option maxHeartbeats 1000000 in
theorem ropen_mid (A A2 : Option Addr) (l : List UInt8) (cap k : Nat) (w : World) (hl : l.length ≤ 140737488351232) (hk : k + 4 = l.length) (hcap : l.length ≤ cap) (hb : Bytes w.heap.size w (.slice A l.length cap) l)
    (hif : (if cap = k then A else Option.map (fun x => x.add k) A) = A2) (b2 : Bytes w.heap.size w (.slice A2 (l.length - k) (cap - k)) (tail l)) :
    Calls Try.prog 17 #[.slice A l.length cap] w (Opened l w) := by
  have hkk : l.length - 4 = k := by omega
  have hbd : body l = l.take k := by unfold body; rw [hkk]
  have b1 : Bytes w.heap.size w (.slice A k cap) (body l) := by rw [hbd]; exact hb.take_ (by omega)
  have hlb := body_le l
  have R1 := Lib.hid (fun (W : World) (hB : Below w.heap.size w W) => rsum_any _ (body l) (by omega) W ((b1.below hB).more hB.size))
  have f1 := four_any (sum (body l)) (sum_lt _)
  have hfb := four_bytes (sum (body l)) w
  have hiff : (text (le4 (sum (body l))) = text (tail l)) ↔ Seals l := ⟨fun h => ⟨by omega, (text_inj h).symm⟩, fun h => by rw [h.2]⟩
  obtain ⟨i0, hi, hz0, hz1, hz2⟩ := info_parts Try.infoByte
  generalize ((le4 (sum (body l))).map enc).toArray = C4 at f1 hfb
  have c1 := run_text (P := Try.prog) ((w.alloc (.cells C4 5)).drew) 9 Try.underlying24 Try.underlying5 Try.underlying9 hfb
  have c2 := run_text (P := Try.prog) w.drew 9 Try.underlying24 Try.underlying5 Try.underlying9 b2
  have c3 := run_text (P := Try.prog) ((w.alloc (.cells C4 5)).drew) 9 Try.underlying24 Try.underlying5 Try.underlying9 (b2.below ((Below.refl _ w).alloc (Nat.le_refl _) (.cells C4 5)).drew)
  rw [show (⟨(le4 (sum (body l))).toArray⟩ : ByteArray) = text (le4 (sum (body l))) from rfl] at c1
  rw [show (⟨(tail l).toArray⟩ : ByteArray) = text (tail l) from rfl] at c2 c3
  generalize text (le4 (sum (body l))) = s1 at c1 hiff
  generalize text (tail l) = s2 at c2 c3 hiff
  have F1 := Lib.hid f1
  have B1 := Lib.hid b1
  have i1 : (0 : Int) ≤ (k : Int) := by omega
  have i2 : (k : Int) ≤ (cap : Int) := by omega
  have i3 : (k : Int) ≤ (l.length : Int) := by omega
  have e4 : (l.length : Int) - 4 = (k : Int) := by omega
  have d1 : decide ((k : Int) < 0) = false := by simp
  have hbl : (body l).length ≤ 140737488351232 := by omega
  by_cases hs : Seals l
  · have heq : s1 = s2 := hiff.2 hs
    subst heq
    clear hiff hkk hbd hlb f1 hfb b1 b2 hb
    go_enter Try.func17, Try.ntmps17
    go_wp2
    go_region_held_law (fun W => (convert 24 9 (.slice A2 (l.length - k) (cap - k))).run Try.prog W = .ok (.string s1) W) (first | exact c2 | exact c3) (first
      | (go_at_call 13; refine (R1.out _ ?_).mono ?_; exact (Below.refl _ w).drew; rintro e w1 ⟨rfl, rfl⟩)
      | (go_at_call 19; refine (F1.out _).mono ?_; rintro e w2 ⟨rfl, rfl⟩))
    all_goals go_wp2_with (at_builtin; refine wpList_app _ rfl _ _ rfl w.heap.size i0 Try.underlying24 hi hz0 hz1 hz2 _ [] rfl (own_nil _ _) w.heap.size _ (body l) rfl ((B1.out.below ((Below.refl _ w).alloc (Nat.le_refl _) (.cells C4 5)).drew)) (by simp; omega) ((((Below.refl w.heap.size w).alloc (Nat.le_refl _) (.cells C4 5)).drew).size) ?_; intro v' w3 hown3 hgrow3 _)
    all_goals go_ret2
    all_goals exact ⟨fun _ => ⟨v', rfl, by simpa using hown3⟩, fun h => absurd hs h, below_grown ((Below.refl _ w).alloc (Nat.le_refl _) (.cells C4 5)).drew hgrow3 ((((Below.refl w.heap.size w).alloc (Nat.le_refl _) (.cells C4 5)).drew).size) (fun k e => by cases e)⟩
  · have hneq : ¬ s1 = s2 := fun h => hs (hiff.1 h)
    have hn1 : (s1.toList == s2.toList) = false := texts_differ hneq
    clear hiff hkk hbd hlb f1 hfb b1 b2 hb
    go_enter Try.func17, Try.ntmps17
    go_wp2
    go_region_held_law (fun W => (convert 24 9 (.slice A2 (l.length - k) (cap - k))).run Try.prog W = .ok (.string s2) W) (first | exact c2 | exact c3) (first
      | (go_at_call 13; refine (R1.out _ ?_).mono ?_; exact (Below.refl _ w).drew; rintro e w1 ⟨rfl, rfl⟩)
      | (go_at_call 19; refine (F1.out _).mono ?_; rintro e w2 ⟨rfl, rfl⟩))
    all_goals go_wp2
    all_goals go_ret2
    all_goals exact ⟨fun h => absurd h hs, fun _ => rfl, by first | exact ((Below.refl _ w).alloc (Nat.le_refl _) (.cells C4 5)).drew | exact ((Below.refl _ w).alloc (Nat.le_refl _) (.cells C4 5)).drew.drew⟩

theorem ropen_any (v : Value) (l : List UInt8) (hl : l.length ≤ 140737488351232) (w : World) (hb : Bytes w.heap.size w v l) :
    Calls Try.prog 17 #[v] w (Opened l w) := by
  obtain ⟨A, cap, rfl, hcap⟩ := hb.slice_form
  by_cases h4 : 4 ≤ l.length
  · obtain ⟨k, hk⟩ : ∃ k, k + 4 = l.length := ⟨l.length - 4, by omega⟩
    have ht : tail l = l.drop k := by unfold tail; rw [show l.length - 4 = k by omega]
    by_cases hne : cap = k
    · omega
    · exact ropen_mid A _ l cap k w hl hk hcap hb (if_neg hne) (by rw [ht]; exact hb.drop_ (by omega) hne)
  · have d1 : decide ((l.length : Int) - 4 < 0) = true := by simp; omega
    have d2 : (l.length : Int) - 4 < 0 := by omega
    have hs : ¬ Seals l := fun h => h4 h.1
    go_enter Try.func17, Try.ntmps17
    go_wp2
    go_quiet (fail)
    go_wp2
    go_ret2
    exact ⟨fun h => absurd h hs, fun _ => rfl, ⟨rfl, rfl, rfl, Nat.le_refl _, fun _ _ => rfl⟩⟩
end Go.Proofs.Ytkgfahmajhfgbaa
