/- CellsAsks where what came in is too long. -/
import Derived.Test.YtklmkaafogekaaaCAskKit
namespace Go.Proofs.Ytklmkaafogekaaa.cellsAsks
open Go.ChangeShapes Go.WideShapes Go.ChangeAt Go.RowKit Go.Shelf
set_option linter.unusedVariables false

attribute [local go_sem] Oper.semAt_some
set_option maxRecDepth 100000 in
set_option maxHeartbeats 1000000 in
theorem midBig (v : Value) (l : List UInt8) (n : Int) (many : Int) (w : World) (hb : Bytes w.heap.size w v l) (h100 : 100 < l.length) (wm1 : -9223372036854775808 ≤ many) (wm2 : many ≤ 9223372036854775807) :
    Calls Try.prog 4 #[v, .int .i64 n, .int .i64 many] w fun e w' => e = .returned (.bool true) ∧ Below w.heap.size w w' := by
  refine (callsIn_wide (n := 5)).1 ?_
  refine callsIn_of_wp_marks Try.func4 rfl trivial ?_ rfl
  simp only [Try.ntmps4, List.size_toArray, List.length_cons, List.length_nil, Nat.reduceAdd, Nat.reduceSub, Array.replicate_succ, Array.replicate_zero, List.push_toArray, List.append_toArray, List.nil_append, List.cons_append]
  have d1 : decide ((100 : Int) < (l.length : Int)) = true := by simp; omega
  have hbt := Lib.hid hb
  obtain ⟨A, cap, rfl, _, _⟩ := id hb
  clear hb
  gi_wp2_with fail
  obtain ⟨W0, hW0⟩ : ∃ W0, (w.alloc (.cells #[.int .i64 many] 3)).alloc (.cells #[.bool false] 4) = W0 := ⟨_, rfl⟩
  have b1 : Blk W0 (w.heap.size + 1) 4 #[.bool false] := by
    rw [← hW0]; have := Blk.new (w.alloc (.cells #[.int .i64 many] 3)) 4 #[.bool false]; rwa [World.size_alloc] at this
  have hB0 : Below w.heap.size w W0 := by rw [← hW0]; exact ((Below.refl _ w).alloc (Nat.le_refl _) _).alloc (by simp) _
  rw [hW0]
  clear hW0
  refine ⟨trivial, (callsIn_wide.2 (works_any W0)).mono ?_⟩
  rintro e wf ⟨rfl, hBf⟩
  have b1f := b1.below hBf b1.lt
  have crx := b1f.one
  have frx := b1f.frozen 0
  gi_wp2
  have c5 := (b1f.set_ 0 (.bool true)).one
  refine ⟨.bool true, by simp [results, Try.results4, go_sem, c5], rfl, (Below.next hB0 hBf).setCell (by simp) _⟩

end Go.Proofs.Ytklmkaafogekaaa.cellsAsks
