/-
  How many blocks there are to take.
-/
import Derived.Test.YtdebjfgflldpjaaWk8
namespace Go.Proofs.Ytdebjfgflldpjaa
open Go.RowKit
set_option maxRecDepth 100000
set_option linter.unusedVariables false
def takeable (p s l c k : Int) (n : Nat) (xs : List Int) (q : Int) : Int := match freeIn p s l c k n xs q with | some ys => (ys.length : Int) | none => -1
set_option maxHeartbeats 1000000 in
theorem sTake (p s l c k q : Int) (a : Option Addr) (n cap : Nat) (xs : List Int) (w : World) (h : Src w a n xs) (bd : ∀ x ∈ xs, 0 ≤ x ∧ x ≤ 18446744073709551615) (hn : n ≤ 16777216) :
    Calls Try.prog 4 #[.agg #[.int .i64 p, .int .i64 s, .int .i64 l, .int .i64 c, .int .i64 k], .slice a n cap, .int .i64 q] w fun e w' => e = .returned (.int .i64 (takeable p s l c k n xs q)) ∧ Below w.heap.size w w' := by
  have z : Below w.heap.size w (w.alloc (Obj.cells #[.int .i64 p, .int .i64 s, .int .i64 l, .int .i64 c, .int .i64 k] 26)) := (Below.refl _ _).alloc (Nat.le_refl _) _
  have B := Box5.new w (.int .i64 p) (.int .i64 s) (.int .i64 l) (.int .i64 c) (.int .i64 k) 26
  replace h := h.keep z
  obtain ⟨c0, c1, c2, c3, c4⟩ := B.five
  unfold takeable
  cases hf : freeIn p s l c k n xs q with
  | none =>
    go_enter Try.func4, Try.ntmps4
    go_wp2_with (refine (sFree _ _ _ _ _ _ _ _ _ xs _ h bd hn).mono ?_; rintro e w2 ⟨g, m, cc, rfl, -, S, sn, hb⟩; rw [hf]; simp only [Option.isSome_none])
    go_ret
    exact ⟨rfl, z.trans (hb.mono z.size)⟩
  | some ys =>
    go_enter Try.func4, Try.ntmps4
    go_wp2_with (refine (sFree _ _ _ _ _ _ _ _ _ xs _ h bd hn).mono ?_; rintro e w2 ⟨g, m, cc, rfl, -, S, sn, hb⟩; rw [hf] at S; rw [hf]; simp only [Option.isSome_some]; have hm : (ys.length : Int) = (m : Int) := congrArg _ S.len)
    go_ret
    exact ⟨congrArg (fun x => Ending.returned (Value.int IntKind.i64 x)) hm.symm, z.trans (hb.mono z.size)⟩
set_option maxHeartbeats 1000000 in
theorem iTake (p s l c k q : Int) (a : Option Addr) (n cap : Nat) (xs : List Int) (w : World) (h : Src w a n xs) (bd : ∀ x ∈ xs, 0 ≤ x ∧ x ≤ 18446744073709551615) (hn : n ≤ 16777216) :
    Calls Try.prog 7 #[.agg #[.int .i64 p, .int .i64 s, .int .i64 l, .int .i64 c, .int .i64 k], .slice a n cap, .int .i64 q] w fun e w' => e = .returned (.int .i64 (takeable p s l c k n xs q)) ∧ Below w.heap.size w w' := by
  have z : Below w.heap.size w (w.alloc (Obj.cells #[.int .i64 p, .int .i64 s, .int .i64 l, .int .i64 c, .int .i64 k] 26)) := (Below.refl _ _).alloc (Nat.le_refl _) _
  have B := Box5.new w (.int .i64 p) (.int .i64 s) (.int .i64 l) (.int .i64 c) (.int .i64 k) 26
  replace h := h.keep z
  obtain ⟨c0, c1, c2, c3, c4⟩ := B.five
  unfold takeable
  cases hf : freeIn p s l c k n xs q with
  | none =>
    go_enter Try.func7, Try.ntmps7
    go_wp2_with (refine (iFree _ _ _ _ _ _ _ _ _ xs _ h bd hn).mono ?_; rintro e w2 ⟨g, m, cc, rfl, -, S, sn, hb⟩; rw [hf]; simp only [Option.isSome_none])
    go_ret
    exact ⟨rfl, z.trans (hb.mono z.size)⟩
  | some ys =>
    go_enter Try.func7, Try.ntmps7
    go_wp2_with (refine (iFree _ _ _ _ _ _ _ _ _ xs _ h bd hn).mono ?_; rintro e w2 ⟨g, m, cc, rfl, -, S, sn, hb⟩; rw [hf] at S; rw [hf]; simp only [Option.isSome_some]; have hm : (ys.length : Int) = (m : Int) := congrArg _ S.len)
    go_ret
    exact ⟨congrArg (fun x => Ending.returned (Value.int IntKind.i64 x)) hm.symm, z.trans (hb.mono z.size)⟩
end Go.Proofs.Ytdebjfgflldpjaa
