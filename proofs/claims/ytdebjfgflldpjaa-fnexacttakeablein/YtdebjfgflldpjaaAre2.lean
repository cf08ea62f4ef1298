/-
  Whether a list of words is an arena of a plan.
-/
import Derived.Test.YtdebjfgflldpjaaAre
import Derived.Test.YtdebjfgflldpjaaPlan3
namespace Go.Proofs.Ytdebjfgflldpjaa
open Go.RowKit
set_option linter.unusedVariables false
/-- Is a list of n words an arena of the plan? -/
def aOk (p s l c k : Int) (n : Nat) : Bool := decide ((n : Int) = vSize p s l c k)
theorem aOk_n {p s l c k : Int} {n : Nat} (h : ok p s l c k = false) : aOk p s l c k n = false := by
  unfold aOk vSize
  rw [h]
  exact decide_eq_false (by simp)
set_option maxHeartbeats 1000000 in
theorem iArena (p s l c k : Int) (a : Option Addr) (n cap : Nat) (w : World) (hn : n ≤ 9223372036854775807) :
    Calls Try.prog 22 #[.agg #[.int .i64 p, .int .i64 s, .int .i64 l, .int .i64 c, .int .i64 k], .slice a n cap] w fun e w' => e = .returned (.bool (aOk p s l c k n)) ∧ Below w.heap.size w w' := by
  have z : Below w.heap.size w (w.alloc (Obj.cells #[.int .i64 p, .int .i64 s, .int .i64 l, .int .i64 c, .int .i64 k] 26)) := (Below.refl _ _).alloc (Nat.le_refl _) _
  go_enter Try.func22, Try.ntmps22
  go_wp2_with (go_at_call 28; refine (iSize _ _ _ _ _ _).mono ?_; rintro e w1 ⟨rfl, hb⟩; replace z := z.trans (hb.mono z.size); clear hb)
  go_ret
  refine ⟨?_, z⟩
  exact ret_b (by unfold aOk; rw [Bool.eq_iff_iff]; simp)
set_option maxHeartbeats 1000000 in
theorem sArena (p s l c k : Int) (a : Option Addr) (n cap : Nat) (w : World) (hn : n ≤ 9223372036854775807) :
    Calls Try.prog 11 #[.agg #[.int .i64 p, .int .i64 s, .int .i64 l, .int .i64 c, .int .i64 k], .slice a n cap] w fun e w' => e = .returned (.bool (aOk p s l c k n)) ∧ Below w.heap.size w w' := by
  have z : Below w.heap.size w (w.alloc (Obj.cells #[.int .i64 p, .int .i64 s, .int .i64 l, .int .i64 c, .int .i64 k] 26)) := (Below.refl _ _).alloc (Nat.le_refl _) _
  have B := Box5.new w (.int .i64 p) (.int .i64 s) (.int .i64 l) (.int .i64 c) (.int .i64 k) 26
  cases ho : ok p s l c k
  · go_enter Try.func11, Try.ntmps11
    go_wp2_with (go_at_call 15; refine (sPlanOk _ _ _ _ _ _).mono ?_; rintro e w1 ⟨rfl, hb⟩; rw [ho]; replace z := z.trans (hb.mono z.size); clear hb)
    go_ret
    exact ⟨ret_f (aOk_n ho), z⟩
  · go_enter Try.func11, Try.ntmps11
    go_wp2_with (first
      | (go_at_call 15; refine (sPlanOk _ _ _ _ _ _).mono ?_; rintro e w1 ⟨rfl, hb⟩; rw [ho]; replace z := z.trans (hb.mono z.size); replace B := B.keep hb; obtain ⟨c0, c1, c2, c3, c4⟩ := B.five; clear hb)
      | (go_at_call 16; refine (sSize _ _ _ _ _ _).mono ?_; rintro e w1 ⟨rfl, hb⟩; replace z := z.trans (hb.mono z.size); clear hb))
    go_ret
    refine ⟨?_, z⟩
    exact ret_b (by unfold aOk; rw [Bool.eq_iff_iff]; simp)
end Go.Proofs.Ytdebjfgflldpjaa
