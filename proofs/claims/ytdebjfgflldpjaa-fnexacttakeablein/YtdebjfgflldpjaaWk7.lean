/-
  Walks: the faces of the chapter: the specification's, the queue's, the values'.
-/
import Derived.Test.YtdebjfgflldpjaaWk6
namespace Go.Proofs.Ytdebjfgflldpjaa
open Go.RowKit
set_option maxRecDepth 100000
set_option linter.unusedVariables false
set_option linter.unusedSimpArgs false
theorem gives.n {w w' : World} {e : Ending} (h : gives w w' e none) : ∃ g m cc, e = .returned (.tuple #[.slice (some ⟨g, 0, none⟩) m cc, .bool false]) ∧ w.heap.size ≤ g ∧ Is w' g m cc [] ∧ m ≤ 250 ∧ Below w.heap.size w w' := h
theorem gives.y {w w' : World} {e : Ending} {ys : List Int} (h : gives w w' e (some ys)) : ∃ g m cc, e = .returned (.tuple #[.slice (some ⟨g, 0, none⟩) m cc, .bool true]) ∧ w.heap.size ≤ g ∧ Is w' g m cc ys ∧ m ≤ 250 ∧ Below w.heap.size w w' := h
theorem nodes_y {p s l c k : Int} {n : Nat} {xs : List Int} {r : Int} {ys : List Int} (h : nodes p s l c k n xs r = some ys) : aOk p s l c k n = true := by
  unfold nodes at h
  split at h
  · assumption
  · cases h
theorem nodes_n {p s l c k : Int} {n : Nat} {xs : List Int} {r : Int} (h : aOk p s l c k n = false) : nodes p s l c k n xs r = none := by unfold nodes; rw [h]; simp
set_option maxHeartbeats 2000000 in
theorem sFree (p s l c k q : Int) (a : Option Addr) (n cap : Nat) (xs : List Int) (w : World) (h : Src w a n xs) (bd : ∀ x ∈ xs, 0 ≤ x ∧ x ≤ 18446744073709551615) (hn : n ≤ 16777216) :
    Calls Try.prog 9 #[.agg #[.int .i64 p, .int .i64 s, .int .i64 l, .int .i64 c, .int .i64 k], .slice a n cap, .int .i64 q] w fun e w' => gives w w' e (freeIn p s l c k n xs q) := by
  have z : Below w.heap.size w (w.alloc (Obj.cells #[.int .i64 p, .int .i64 s, .int .i64 l, .int .i64 c, .int .i64 k] 26)) := (Below.refl _ _).alloc (Nat.le_refl _) _
  have B := Box5.new w (.int .i64 p) (.int .i64 s) (.int .i64 l) (.int .i64 c) (.int .i64 k) 26
  replace h := h.keep z
  obtain ⟨c0, c1, c2, c3, c4⟩ := B.five
  cases ha : aOk p s l c k n
  · have e : freeIn p s l c k n xs q = none := by unfold freeIn; split <;> first | exact nodes_n ha | rfl
    rw [e]
    go_enter Try.func9, Try.ntmps9
    go_wp2_with (go_at_call 11; refine (sArena _ _ _ _ _ _ _ _ _ (by omega)).mono ?_; rintro e w1 ⟨rfl, hb⟩; rw [ha]; replace B := B.keep hb; replace z := z.trans (hb.mono z.size); replace h := h.keep hb; clear hb c0 c1 c2 c3 c4; obtain ⟨c0, c1, c2, c3, c4⟩ := B.five)
    go_returns
    exact gives.none_lit z
  · cases hq : inB q 0 1
    · have hq' : ¬ (0 ≤ q ∧ q ≤ 1) := of_decide_eq_false hq
      have e : freeIn p s l c k n xs q = none := by unfold freeIn; rw [if_neg (by omega)]
      rw [e]
      go_enter Try.func9, Try.ntmps9
      go_wp2_with (first
        | (go_at_call 11; refine (sArena _ _ _ _ _ _ _ _ _ (by omega)).mono ?_; rintro e w1 ⟨rfl, hb⟩; rw [ha]; replace B := B.keep hb; replace z := z.trans (hb.mono z.size); replace h := h.keep hb; clear hb c0 c1 c2 c3 c4; obtain ⟨c0, c1, c2, c3, c4⟩ := B.five)
        | (go_at_call 12; refine (sIn _ _ _ _).mono ?_; rintro e w2 ⟨rfl, rfl⟩; rw [hq]))
      go_returns
      exact gives.none_lit z
    · have hq' : 0 ≤ q ∧ q ≤ 1 := of_decide_eq_true hq
      have e : freeIn p s l c k n xs q = wlk p s l c k xs q := by unfold freeIn; rw [if_pos (by omega)]; unfold nodes; rw [ha]; simp
      rw [e]
      have h' := ok_iff.1 (aOk_y ha).1
      go_enter Try.func9, Try.ntmps9
      go_wp2_with (first
        | (go_at_call 11; refine (sArena _ _ _ _ _ _ _ _ _ (by omega)).mono ?_; rintro e w1 ⟨rfl, hb⟩; rw [ha]; replace B := B.keep hb; replace z := z.trans (hb.mono z.size); replace h := h.keep hb; clear hb c0 c1 c2 c3 c4; obtain ⟨c0, c1, c2, c3, c4⟩ := B.five)
        | (go_at_call 12; refine (sIn _ _ _ _).mono ?_; rintro e w2 ⟨rfl, rfl⟩; rw [hq])
        | (go_at_call 13; refine (sWalk _ _ _ _ _ _ _ _ _ xs _ h bd hn ha (by omega) (by omega)).mono ?_; rintro e w3 ⟨g, m, cc, rfl, hg⟩))
      go_returns
      exact gives.after ⟨g, m, cc, rfl, hg⟩ z
end Go.Proofs.Ytdebjfgflldpjaa
