/-
  What the program's own test of a word answers: whether the four fields are within their widths.
-/
import Derived.Test.YtkfmlamokcgcdaaCore
import Derived.Deep.RegionWith
namespace Go.Proofs.Ytkfmlamokcgcdaa
open Go.RowKit
set_option linter.unusedVariables false
theorem ok_u (k p i s : Int) : (wOk k p i s = true ∧ uK (jn k p i s) = k ∧ uP (jn k p i s) = p ∧ uI (jn k p i s) = i ∧ uS (jn k p i s) = s) ∨
    (wOk k p i s = false ∧ (¬ uK (jn k p i s) = k ∨ (uK (jn k p i s) = k ∧ ¬ uP (jn k p i s) = p) ∨ (uK (jn k p i s) = k ∧ uP (jn k p i s) = p ∧ ¬ uI (jn k p i s) = i) ∨ (uK (jn k p i s) = k ∧ uP (jn k p i s) = p ∧ uI (jn k p i s) = i ∧ ¬ uS (jn k p i s) = s))) := by
  obtain ⟨e1, e2, e3, e4⟩ := unpk k p i s
  rw [e1, e2, e3, e4]
  by_cases h : wOk k p i s = true
  · have h' := wOk_iff.1 h; left; exact ⟨h, by omega, by omega, by omega, by omega⟩
  · have h' := mt wOk_iff.2 h
    right; refine ⟨by simpa using h, ?_⟩; omega

set_option maxHeartbeats 4000000 in
theorem iWordOk (k p i s : Int) (w : World) :
    Calls Try.prog 17 #[.agg #[.int .i64 k, .int .i64 p, .int .i64 i, .int .i64 s]] w fun e w' => e = .returned (.bool (wOk k p i s)) ∧ Below w.heap.size w w' := by
  have hj := jn_bd k p i s
  rcases ok_u k p i s with ⟨ho, e1, e2, e3, e4⟩ | ⟨ho, e1 | ⟨e1, e2⟩ | ⟨e1, e2, e3⟩ | ⟨e1, e2, e3, e4⟩⟩ <;> rw [ho] <;> clear ho
  all_goals
    go_enter Try.func17, Try.ntmps17
    go_wp2
    go_region_with (first
      | (go_at_call 24; refine (iJoined k p i s _).mono ?_; rintro e w1 ⟨rfl, hb⟩; have B1 := (Box4.new _ _ _ _ _ _).draw.keep hb; have c0 := B1.c0; have c1 := B1.c1; have c2 := B1.c2; have c3 := B1.c3)
      | (go_at_call 13; refine (iUnpack _ hj.1 hj.2 _).mono ?_; rintro e w2 ⟨rfl, hb2⟩; have B2 := B1.keep hb2; have d0 := B2.c0; have d1 := B2.c1; have d2 := B2.c2; have d3 := B2.c3))
    all_goals
      go_wp2
      go_returns
      exact ⟨rfl, ((((Below.refl _ _).alloc (Nat.le_refl _) _).drew).trans (hb.mono (by simp))).trans (hb2.mono (by have := hb.size; simp at this; omega))⟩
end Go.Proofs.Ytkfmlamokcgcdaa
