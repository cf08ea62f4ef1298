/-
  The draw of a plan for the blank arena.
-/
import Derived.Test.YtmldeigbaafclaaDrawP
import Derived.Test.YtmldeigbaafclaaRowUp
namespace Go.Proofs.Ytmldeigbaafclaa
open Go.RowKit
set_option linter.unusedVariables false
set_option linter.unusedSimpArgs false
set_option maxHeartbeats 2000000 in
theorem drawBlank (a : Option Addr) (len cap : Nat) (w : World) (hl : len ≤ 4096) (hr : Row w.heap.size w a len) :
    Calls Try.prog 11 #[.slice a len cap] w fun e w' => ∃ p s l c k : Int, e = .returned (.agg #[.int .i64 p, .int .i64 s, .int .i64 l, .int .i64 c, .int .i64 k]) ∧ Below w.heap.size w w' := by
  go_enter Try.func11, Try.ntmps11
  go_wp2_with fail
  have hb0 : Below w.heap.size w (w.alloc (Obj.cells #[.int .i64 0, .int .i64 0, .int .i64 0, .int .i64 0, .int .i64 0] 25)) := (Below.refl _ _).alloc (Nat.le_refl _) _
  have ar := At.new w #[.int .i64 0, .int .i64 0, .int .i64 0, .int .i64 0, .int .i64 0] 25
  refine (new_any a len cap _ hl (hr.up hb0 hb0.size)).mono ?_
  rintro e w1 ⟨c, rfl, hc, b1⟩
  replace ar := ar.keep b1
  have z := hb0.trans (b1.mono hb0.size)
  have hcg := hc.ge
  have rc : w.heap.size ≠ c := by simp at hcg; omega
  have cg : w.heap.size ≤ c := by simp at hcg; omega
  clear hb0 b1 hr
  generalize (w.alloc (Obj.cells #[.int .i64 0, .int .i64 0, .int .i64 0, .int .i64 0, .int .i64 0] 25)).heap.size = B at *
  go_wp2_with fail
  refine (plan_any _ c _ hc).mono ?_
  rintro e w2 ⟨y0, y1, y2, y3, y4, rfl, -, hc2, k2⟩
  replace ar := ar.kept k2 rc
  replace z := z.trans (k2.below cg z.size)
  obtain ⟨d0, d1, d2, d3, d4, g0, g1, g2, g3, g4⟩ := ar.five
  go_wp2
  have fin := ((((ar.set 0 (.int .i64 y0)).set 1 (.int .i64 y1)).set 2 (.int .i64 y2)).set 3 (.int .i64 y3)).set 4 (.int .i64 y4)
  obtain ⟨r0, r1, r2, r3, r4, -⟩ := (show At _ _ #[.int .i64 y0, .int .i64 y1, .int .i64 y2, .int .i64 y3, .int .i64 y4] _ from fin).five
  exact bodyPost_ret (v := .agg #[.int .i64 y0, .int .i64 y1, .int .i64 y2, .int .i64 y3, .int .i64 y4]) (by simp [results, Try.results11, go_sem, r0, r1, r2, r3, r4]) rfl ⟨_, _, _, _, _, rfl, ((((z.setCell (p := ⟨w.heap.size, 0, none⟩) (Nat.le_refl _) _).setCell (p := ⟨w.heap.size, 1, none⟩) (Nat.le_refl _) _).setCell (p := ⟨w.heap.size, 2, none⟩) (Nat.le_refl _) _).setCell (p := ⟨w.heap.size, 3, none⟩) (Nat.le_refl _) _).setCell (p := ⟨w.heap.size, 4, none⟩) (Nat.le_refl _) _⟩
end Go.Proofs.Ytmldeigbaafclaa
