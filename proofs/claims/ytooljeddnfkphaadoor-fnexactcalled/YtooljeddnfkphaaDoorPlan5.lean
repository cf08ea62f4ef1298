/-
  The place of a block's field in the model: it adds up the widths of the blocks ahead, and comes to the same number.
-/
import Derived.Test.YtooljeddnfkphaaDoorPlan4
namespace Go.Proofs.YtooljeddnfkphaaDoor
open Go.RowKit
set_option linter.unusedVariables false
set_option linter.unusedSimpArgs false
theorem sF_bd {p c : Int} (h0 : 1 ≤ p) (h1 : p ≤ 64) (h2 : 1 ≤ c) (h3 : c ≤ 8) : 0 ≤ sF p c ∧ sF p c ≤ 5000 := by
  have := sq_bd h0 h1
  unfold sF
  omega
def wid (s b : Int) : Int := if b ≤ s then 3 else 5
def wS (s n : Int) : Int := if n ≤ s then 3 * n else 3 * s + 5 * (n - s)
theorem wS_succ (s b : Int) : wS s (b - 1) + wid s b = wS s b := by unfold wS wid; (repeat' split) <;> omega
theorem vBlock_of {p s l c k b f : Int} (h : ok p s l c k = true) (hb : 1 ≤ b ∧ b ≤ s + l) (hf : 0 ≤ f) : vBlock p s l c k b f = if f < wid s b then sF p c + wS s (b - 1) + f else -1 := by
  unfold vBlock wid wS lF sF
  rw [if_pos ⟨h, hb, hf⟩]
  (repeat' split) <;> omega
set_option maxHeartbeats 400000 in
theorem sWidth (p s l c k b : Int) (w : World) :
    Calls Tryd.prog 32 #[.agg #[.int .i64 p, .int .i64 s, .int .i64 l, .int .i64 c, .int .i64 k], .int .i64 b] w fun e w' => e = .returned (.int .i64 (wid s b)) ∧ Below w.heap.size w w' := by
  by_cases hs : b ≤ s
  all_goals
    go_enter Tryd.func32, Tryd.ntmps32
    go_wp2
    go_returns
    refine ⟨ret_i ?_, by go_grown⟩
    unfold wid
    split <;> omega
end Go.Proofs.YtooljeddnfkphaaDoor
