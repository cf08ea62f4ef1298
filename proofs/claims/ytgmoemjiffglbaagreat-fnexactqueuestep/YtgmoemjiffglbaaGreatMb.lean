/-
  What the program's and the model's test of a plan answer: whether its five numbers are within their bounds.
  Where the regions of a right plan begin, in the program and in the model: the same five sums.
  What the functions of the plans' chapter answer, in the program and in the model: one number each.
  The place of a block's field, in the program and in the model: the same number.
  The place of a block's field in the model: it adds up the widths of the blocks ahead, and comes to the same number.
  The model's cursor over a code: what drawing one byte does.
-/
import Derived.Test.YtgmoemjiffglbaaGreatMa
import Derived.Test.YtgmoemjiffglbaaGreatChecked
import Derived.WalkKit
import Derived.ProofKit
import Derived.Below
import Derived.Handy
import Derived.Deep.RegionHeld3
import Derived.Deep.QuietTactic
import Derived.BigQuiet
namespace Go.Proofs.YtgmoemjiffglbaaGreat
open Go.RowKit
set_option linter.unusedVariables false
def inB (n a b : Int) : Bool := decide (a ≤ n ∧ n ≤ b)
def ok (p s l c k : Int) : Bool := decide (1 ≤ p ∧ p ≤ 64 ∧ 1 ≤ s ∧ s ≤ 200 ∧ 0 ≤ l ∧ l ≤ 50 ∧ 1 ≤ c ∧ c ≤ 8 ∧ 1 ≤ k ∧ k ≤ 32)
theorem ok_iff {p s l c k : Int} : ok p s l c k = true ↔ (1 ≤ p ∧ p ≤ 64 ∧ 1 ≤ s ∧ s ≤ 200 ∧ 0 ≤ l ∧ l ≤ 50 ∧ 1 ≤ c ∧ c ≤ 8 ∧ 1 ≤ k ∧ k ≤ 32) := by simp [ok]
theorem ret_b {a b : Bool} (h : a = b) : Ending.returned (.bool a) = .returned (.bool b) := by rw [h]
theorem ret_t {b : Bool} (h : b = true) : Ending.returned (.bool true) = .returned (.bool b) := by rw [h]
theorem ret_f {b : Bool} (h : b = false) : Ending.returned (.bool false) = .returned (.bool b) := by rw [h]
set_option maxHeartbeats 400000 in
theorem iWithin (n a b : Int) (w : World) :
    Calls Tryz.prog 73 #[.int .i64 n, .int .i64 a, .int .i64 b] w fun e w' => e = .returned (.bool (inB n a b)) ∧ w' = w := by
  go_enter Tryz.func73, Tryz.ntmps73
  go_wp2
  all_goals go_returns
  all_goals refine ⟨?_, rfl⟩
  all_goals first | exact ret_t (decide_eq_true (by omega)) | exact ret_f (decide_eq_false (by omega)) | (refine ret_b ?_; unfold inB; rw [decide_eq_decide]; omega)
set_option maxHeartbeats 400000 in
theorem sIn (n a b : Int) (w : World) :
    Calls Tryz.prog 60 #[.int .i64 n, .int .i64 a, .int .i64 b] w fun e w' => e = .returned (.bool (inB n a b)) ∧ w' = w := by
  go_enter Tryz.func60, Tryz.ntmps60
  go_wp2
  all_goals go_returns
  all_goals refine ⟨?_, rfl⟩
  all_goals first | exact ret_t (decide_eq_true (by omega)) | exact ret_f (decide_eq_false (by omega)) | (refine ret_b ?_; unfold inB; rw [decide_eq_decide]; omega)
set_option maxHeartbeats 1000000 in
theorem iPlanOk (p s l c k : Int) (w : World) :
    Calls Tryz.prog 74 #[.agg #[.int .i64 p, .int .i64 s, .int .i64 l, .int .i64 c, .int .i64 k]] w fun e w' => e = .returned (.bool (ok p s l c k)) ∧ Below w.heap.size w w' := by
  go_enter Tryz.func74, Tryz.ntmps74
  go_wp2_with (go_at_call 73; refine (iWithin _ _ _ _).mono ?_; rintro e w1 ⟨rfl, rfl⟩)
  all_goals go_returns
  all_goals refine ⟨?_, by go_grown⟩
  all_goals simp only [inB, decide_eq_true_eq] at *
  all_goals first | exact ret_t (ok_iff.2 (by omega)) | exact ret_f (decide_eq_false (by omega)) | (refine ret_b ?_; unfold ok; rw [decide_eq_decide]; omega)
set_option maxHeartbeats 1000000 in
theorem sPlanOk (p s l c k : Int) (w : World) :
    Calls Tryz.prog 58 #[.agg #[.int .i64 p, .int .i64 s, .int .i64 l, .int .i64 c, .int .i64 k]] w fun e w' => e = .returned (.bool (ok p s l c k)) ∧ Below w.heap.size w w' := by
  go_enter Tryz.func58, Tryz.ntmps58
  go_wp2_with (go_at_call 60; refine (sIn _ _ _ _).mono ?_; rintro e w1 ⟨rfl, rfl⟩)
  all_goals go_returns
  all_goals refine ⟨?_, by go_grown⟩
  all_goals simp only [inB, decide_eq_true_eq] at *
  all_goals first | exact ret_t (ok_iff.2 (by omega)) | exact ret_f (decide_eq_false (by omega)) | (refine ret_b ?_; unfold ok; rw [decide_eq_decide]; omega)
set_option maxHeartbeats 400000 in
theorem toP (p s l c k : Int) (w : World) :
    Calls Tryz.prog 5 #[.agg #[.int .i64 p, .int .i64 s, .int .i64 l, .int .i64 c, .int .i64 k]] w fun e w' => e = .returned (.agg #[.int .i64 p, .int .i64 s, .int .i64 l, .int .i64 c, .int .i64 k]) ∧ Below w.heap.size w w' := by
  go_enter Tryz.func5, Tryz.ntmps5
  go_wp2
  go_returns
  exact ⟨rfl, by go_grown⟩
end Go.Proofs.YtgmoemjiffglbaaGreat
namespace Go.Proofs.YtgmoemjiffglbaaGreat
open Go.RowKit
set_option linter.unusedVariables false
/-- Five cells of a block that is there. -/
structure Box5 (w : World) (b : Nat) (x0 x1 x2 x3 x4 : Value) : Prop where
  lt : b < w.heap.size
  c0 : w.cell? ⟨b, 0, none⟩ = some x0
  c1 : w.cell? ⟨b, 1, none⟩ = some x1
  c2 : w.cell? ⟨b, 2, none⟩ = some x2
  c3 : w.cell? ⟨b, 3, none⟩ = some x3
  c4 : w.cell? ⟨b, 4, none⟩ = some x4
theorem Box5.new (w : World) (x0 x1 x2 x3 x4 : Value) (t : TypeId) : Box5 (w.alloc (.cells #[x0, x1, x2, x3, x4] t)) w.heap.size x0 x1 x2 x3 x4 :=
  ⟨by simp, by go_simp, by go_simp, by go_simp, by go_simp, by go_simp⟩
theorem Box5.keep {w w' : World} {b : Nat} {x0 x1 x2 x3 x4 : Value} (h : Box5 w b x0 x1 x2 x3 x4) (hb : Below w.heap.size w w') : Box5 w' b x0 x1 x2 x3 x4 :=
  ⟨Nat.lt_of_lt_of_le h.lt hb.size, (hb.cell (p := ⟨b, 0, none⟩) h.lt).trans h.c0, (hb.cell (p := ⟨b, 1, none⟩) h.lt).trans h.c1, (hb.cell (p := ⟨b, 2, none⟩) h.lt).trans h.c2, (hb.cell (p := ⟨b, 3, none⟩) h.lt).trans h.c3, (hb.cell (p := ⟨b, 4, none⟩) h.lt).trans h.c4⟩
theorem Box5.draw {w : World} {b : Nat} {x0 x1 x2 x3 x4 : Value} (h : Box5 w b x0 x1 x2 x3 x4) : Box5 w.drew b x0 x1 x2 x3 x4 := ⟨h.lt, h.c0, h.c1, h.c2, h.c3, h.c4⟩

theorem Box5.five {w : World} {b : Nat} {x0 x1 x2 x3 x4 : Value} (h : Box5 w b x0 x1 x2 x3 x4) : w.cell? ⟨b, 0, none⟩ = some x0 ∧ w.cell? ⟨b, 1, none⟩ = some x1 ∧ w.cell? ⟨b, 2, none⟩ = some x2 ∧ w.cell? ⟨b, 3, none⟩ = some x3 ∧ w.cell? ⟨b, 4, none⟩ = some x4 := ⟨h.c0, h.c1, h.c2, h.c3, h.c4⟩
theorem ret_i {a b : Int} (h : a = b) : Ending.returned (.int .i64 a) = .returned (.int .i64 b) := by rw [h]
def nF (p : Int) : Int := 7 * p
def rF (p : Int) : Int := 7 * p + p * p
def sF (p c : Int) : Int := 7 * p + p * p + 5 + c
def lF (p s c : Int) : Int := 7 * p + p * p + 5 + c + 3 * s
def zF (p s l c : Int) : Int := 7 * p + p * p + 5 + c + 3 * s + 5 * l
theorem sq_bd {p : Int} (h0 : 1 ≤ p) (h1 : p ≤ 64) : 1 ≤ p * p ∧ p * p ≤ 4096 ∧ p ≤ p * p := by
  have a := Int.mul_le_mul h1 h1 (by omega) (by omega)
  have b := Int.mul_le_mul h0 h0 (by omega) (by omega)
  have c := Int.mul_le_mul_of_nonneg_right h0 (show 0 ≤ p by omega)
  omega

set_option maxHeartbeats 400000 in
theorem iNotes (p s l c k : Int) (h : ok p s l c k = true) (w : World) :
    Calls Tryz.prog 119 #[.agg #[.int .i64 p, .int .i64 s, .int .i64 l, .int .i64 c, .int .i64 k]] w fun e w' => e = .returned (.int .i64 (nF p)) ∧ Below w.heap.size w w' := by
  have h' := ok_iff.1 h
  go_enter Tryz.func119, Tryz.ntmps119
  go_wp2
  go_returns
  refine ⟨ret_i ?_, by go_grown⟩
  unfold nF
  omega
set_option maxHeartbeats 1000000 in
theorem iRoots (p s l c k : Int) (h : ok p s l c k = true) (w : World) :
    Calls Tryz.prog 113 #[.agg #[.int .i64 p, .int .i64 s, .int .i64 l, .int .i64 c, .int .i64 k]] w fun e w' => e = .returned (.int .i64 (rF p)) ∧ Below w.heap.size w w' := by
  have h' := ok_iff.1 h
  have hq := sq_bd h'.1 h'.2.1
  go_enter Tryz.func113, Tryz.ntmps113
  go_wp2_with fail
  have B := Box5.new w (.int .i64 p) (.int .i64 s) (.int .i64 l) (.int .i64 c) (.int .i64 k) 35
  have z := (Below.refl w.heap.size w).alloc (Nat.le_refl _) (Obj.cells #[.int .i64 p, .int .i64 s, .int .i64 l, .int .i64 c, .int .i64 k] 35)
  go_region_held3 (fun w' => w'.cell? ⟨w.heap.size, 0, none⟩ = some (.int .i64 p) ∧ w'.cell? ⟨w.heap.size, 1, none⟩ = some (.int .i64 s) ∧ w'.cell? ⟨w.heap.size, 2, none⟩ = some (.int .i64 l) ∧ w'.cell? ⟨w.heap.size, 3, none⟩ = some (.int .i64 c) ∧ w'.cell? ⟨w.heap.size, 4, none⟩ = some (.int .i64 k)) (go_keep)
    (first
    | (go_at_call 119; refine (iNotes _ _ _ _ _ h _).mono ?_; rintro e w1 ⟨rfl, hb⟩; replace B := B.draw.keep hb; replace z := z.drew.trans (hb.mono z.size); clear hb; obtain ⟨c0, c1, c2, c3, c4⟩ := B.five))
  go_wp2
  go_returns
  refine ⟨ret_i ?_, z⟩
  simp only [IntKind.wrap_i64, nF, rF]
  omega
set_option maxHeartbeats 1000000 in
theorem iSmall (p s l c k : Int) (h : ok p s l c k = true) (w : World) :
    Calls Tryz.prog 111 #[.agg #[.int .i64 p, .int .i64 s, .int .i64 l, .int .i64 c, .int .i64 k]] w fun e w' => e = .returned (.int .i64 (sF p c)) ∧ Below w.heap.size w w' := by
  have h' := ok_iff.1 h
  have hq := sq_bd h'.1 h'.2.1
  go_enter Tryz.func111, Tryz.ntmps111
  go_wp2_with fail
  have B := Box5.new w (.int .i64 p) (.int .i64 s) (.int .i64 l) (.int .i64 c) (.int .i64 k) 35
  have z := (Below.refl w.heap.size w).alloc (Nat.le_refl _) (Obj.cells #[.int .i64 p, .int .i64 s, .int .i64 l, .int .i64 c, .int .i64 k] 35)
  go_region_held3 (fun w' => w'.cell? ⟨w.heap.size, 0, none⟩ = some (.int .i64 p) ∧ w'.cell? ⟨w.heap.size, 1, none⟩ = some (.int .i64 s) ∧ w'.cell? ⟨w.heap.size, 2, none⟩ = some (.int .i64 l) ∧ w'.cell? ⟨w.heap.size, 3, none⟩ = some (.int .i64 c) ∧ w'.cell? ⟨w.heap.size, 4, none⟩ = some (.int .i64 k)) (go_keep)
    (first
    | (go_at_call 113; refine (iRoots _ _ _ _ _ h _).mono ?_; rintro e w1 ⟨rfl, hb⟩; replace B := B.draw.keep hb; replace z := z.drew.trans (hb.mono z.size); clear hb; obtain ⟨c0, c1, c2, c3, c4⟩ := B.five))
  go_wp2
  go_returns
  refine ⟨ret_i ?_, z⟩
  simp only [IntKind.wrap_i64, rF, sF]
  omega
set_option maxHeartbeats 1000000 in
theorem iLarge (p s l c k : Int) (h : ok p s l c k = true) (w : World) :
    Calls Tryz.prog 107 #[.agg #[.int .i64 p, .int .i64 s, .int .i64 l, .int .i64 c, .int .i64 k]] w fun e w' => e = .returned (.int .i64 (lF p s c)) ∧ Below w.heap.size w w' := by
  have h' := ok_iff.1 h
  have hq := sq_bd h'.1 h'.2.1
  go_enter Tryz.func107, Tryz.ntmps107
  go_wp2_with fail
  have B := Box5.new w (.int .i64 p) (.int .i64 s) (.int .i64 l) (.int .i64 c) (.int .i64 k) 35
  have z := (Below.refl w.heap.size w).alloc (Nat.le_refl _) (Obj.cells #[.int .i64 p, .int .i64 s, .int .i64 l, .int .i64 c, .int .i64 k] 35)
  go_region_held3 (fun w' => w'.cell? ⟨w.heap.size, 0, none⟩ = some (.int .i64 p) ∧ w'.cell? ⟨w.heap.size, 1, none⟩ = some (.int .i64 s) ∧ w'.cell? ⟨w.heap.size, 2, none⟩ = some (.int .i64 l) ∧ w'.cell? ⟨w.heap.size, 3, none⟩ = some (.int .i64 c) ∧ w'.cell? ⟨w.heap.size, 4, none⟩ = some (.int .i64 k)) (go_keep)
    (first
    | (go_at_call 111; refine (iSmall _ _ _ _ _ h _).mono ?_; rintro e w1 ⟨rfl, hb⟩; replace B := B.draw.keep hb; replace z := z.drew.trans (hb.mono z.size); clear hb; obtain ⟨c0, c1, c2, c3, c4⟩ := B.five))
  go_wp2
  go_returns
  refine ⟨ret_i ?_, z⟩
  simp only [IntKind.wrap_i64, sF, lF]
  omega
set_option maxHeartbeats 400000 in
theorem sNotes (p s l c k : Int) (h : ok p s l c k = true) (w : World) :
    Calls Tryz.prog 103 #[.agg #[.int .i64 p, .int .i64 s, .int .i64 l, .int .i64 c, .int .i64 k]] w fun e w' => e = .returned (.int .i64 (nF p)) ∧ Below w.heap.size w w' := by
  have h' := ok_iff.1 h
  go_enter Tryz.func103, Tryz.ntmps103
  go_wp2
  go_returns
  refine ⟨ret_i ?_, by go_grown⟩
  unfold nF
  omega
set_option maxHeartbeats 1000000 in
theorem sRoots (p s l c k : Int) (h : ok p s l c k = true) (w : World) :
    Calls Tryz.prog 64 #[.agg #[.int .i64 p, .int .i64 s, .int .i64 l, .int .i64 c, .int .i64 k]] w fun e w' => e = .returned (.int .i64 (rF p)) ∧ Below w.heap.size w w' := by
  have h' := ok_iff.1 h
  have hq := sq_bd h'.1 h'.2.1
  go_enter Tryz.func64, Tryz.ntmps64
  go_wp2_with fail
  have B := Box5.new w (.int .i64 p) (.int .i64 s) (.int .i64 l) (.int .i64 c) (.int .i64 k) 35
  have z := (Below.refl w.heap.size w).alloc (Nat.le_refl _) (Obj.cells #[.int .i64 p, .int .i64 s, .int .i64 l, .int .i64 c, .int .i64 k] 35)
  go_region_held3 (fun w' => w'.cell? ⟨w.heap.size, 0, none⟩ = some (.int .i64 p) ∧ w'.cell? ⟨w.heap.size, 1, none⟩ = some (.int .i64 s) ∧ w'.cell? ⟨w.heap.size, 2, none⟩ = some (.int .i64 l) ∧ w'.cell? ⟨w.heap.size, 3, none⟩ = some (.int .i64 c) ∧ w'.cell? ⟨w.heap.size, 4, none⟩ = some (.int .i64 k)) (go_keep)
    (first
    | (go_at_call 103; refine (sNotes _ _ _ _ _ h _).mono ?_; rintro e w1 ⟨rfl, hb⟩; replace B := B.draw.keep hb; replace z := z.drew.trans (hb.mono z.size); clear hb; obtain ⟨c0, c1, c2, c3, c4⟩ := B.five))
  go_wp2
  go_returns
  refine ⟨ret_i ?_, z⟩
  simp only [IntKind.wrap_i64, nF, rF]
  omega
set_option maxHeartbeats 1000000 in
theorem sSmall (p s l c k : Int) (h : ok p s l c k = true) (w : World) :
    Calls Tryz.prog 96 #[.agg #[.int .i64 p, .int .i64 s, .int .i64 l, .int .i64 c, .int .i64 k]] w fun e w' => e = .returned (.int .i64 (sF p c)) ∧ Below w.heap.size w w' := by
  have h' := ok_iff.1 h
  have hq := sq_bd h'.1 h'.2.1
  go_enter Tryz.func96, Tryz.ntmps96
  go_wp2_with fail
  have B := Box5.new w (.int .i64 p) (.int .i64 s) (.int .i64 l) (.int .i64 c) (.int .i64 k) 35
  have z := (Below.refl w.heap.size w).alloc (Nat.le_refl _) (Obj.cells #[.int .i64 p, .int .i64 s, .int .i64 l, .int .i64 c, .int .i64 k] 35)
  go_region_held3 (fun w' => w'.cell? ⟨w.heap.size, 0, none⟩ = some (.int .i64 p) ∧ w'.cell? ⟨w.heap.size, 1, none⟩ = some (.int .i64 s) ∧ w'.cell? ⟨w.heap.size, 2, none⟩ = some (.int .i64 l) ∧ w'.cell? ⟨w.heap.size, 3, none⟩ = some (.int .i64 c) ∧ w'.cell? ⟨w.heap.size, 4, none⟩ = some (.int .i64 k)) (go_keep)
    (first
    | (go_at_call 64; refine (sRoots _ _ _ _ _ h _).mono ?_; rintro e w1 ⟨rfl, hb⟩; replace B := B.draw.keep hb; replace z := z.drew.trans (hb.mono z.size); clear hb; obtain ⟨c0, c1, c2, c3, c4⟩ := B.five))
  go_wp2
  go_returns
  refine ⟨ret_i ?_, z⟩
  simp only [IntKind.wrap_i64, rF, sF]
  omega
end Go.Proofs.YtgmoemjiffglbaaGreat
namespace Go.Proofs.YtgmoemjiffglbaaGreat
open Go.RowKit
set_option linter.unusedVariables false
set_option linter.unusedSimpArgs false
def vBlocks (p s l c k : Int) : Int := if ok p s l c k = true then s + l else -1
def vSize (p s l c k : Int) : Int := if ok p s l c k = true then zF p s l c else -1
def vSlot (p s l c k i f : Int) : Int := if ok p s l c k = true ∧ (0 ≤ i ∧ i ≤ p - 1) ∧ (0 ≤ f ∧ f ≤ 6) then i * 7 + f else -1
def vNote (p s l c k i j : Int) : Int := if ok p s l c k = true ∧ (0 ≤ i ∧ i ≤ p - 1) ∧ (0 ≤ j ∧ j ≤ p - 1) then nF p + i * p + j else -1
def vRoot (p s l c k r : Int) : Int := if ok p s l c k = true ∧ (0 ≤ r ∧ r ≤ 4 + c) then rF p + r else -1
def vClass (p s l c k b : Int) : Int := if ok p s l c k = true ∧ (1 ≤ b ∧ b ≤ s + l) then (if b ≤ s then 0 else 1) else -1
def vBlock (p s l c k b f : Int) : Int := if ok p s l c k = true ∧ (1 ≤ b ∧ b ≤ s + l) ∧ 0 ≤ f then (if b ≤ s then (if f < 3 then sF p c + (b - 1) * 3 + f else -1) else (if f < 5 then lF p s c + (b - s - 1) * 5 + f else -1)) else -1
theorem inB_iff {n a b : Int} : inB n a b = true ↔ (a ≤ n ∧ n ≤ b) := by simp [inB]
theorem inB_niff {n a b : Int} : inB n a b = false ↔ ¬ (a ≤ n ∧ n ≤ b) := by simp only [inB, decide_eq_false_iff_not]
theorem nB_t {n a b : Int} : (!inB n a b) = true ↔ ¬ (a ≤ n ∧ n ≤ b) := by simp only [Bool.not_eq_true', inB_niff]
theorem nB_f {n a b : Int} : (!inB n a b) = false ↔ (a ≤ n ∧ n ≤ b) := by simp only [Bool.not_eq_false', inB_iff]
theorem mul_bd {i p : Int} (h0 : 0 ≤ i) (h1 : i ≤ p - 1) (h3 : p ≤ 64) : 0 ≤ i * p ∧ i * p ≤ 4032 ∧ i * p + p ≤ p * p := by
  have a := Int.mul_nonneg h0 (show 0 ≤ p by omega)
  have b := Int.mul_le_mul (show i ≤ 63 by omega) h3 (by omega) (by omega)
  have c := Int.mul_le_mul_of_nonneg_right h1 (show 0 ≤ p by omega)
  rw [Int.sub_mul] at c
  omega
set_option maxHeartbeats 1000000 in
theorem iBlocksY (p s l c k : Int) (h : ok p s l c k = true) (w : World) :
    Calls Tryz.prog 108 #[.agg #[.int .i64 p, .int .i64 s, .int .i64 l, .int .i64 c, .int .i64 k]] w fun e w' => e = .returned (.int .i64 (vBlocks p s l c k)) ∧ Below w.heap.size w w' := by
  have h' := ok_iff.1 h
  have hq := sq_bd h'.1 h'.2.1
  go_enter Tryz.func108, Tryz.ntmps108
  go_wp2_with fail
  have B := Box5.new w (.int .i64 p) (.int .i64 s) (.int .i64 l) (.int .i64 c) (.int .i64 k) 35
  have z := (Below.refl w.heap.size w).alloc (Nat.le_refl _) (Obj.cells #[.int .i64 p, .int .i64 s, .int .i64 l, .int .i64 c, .int .i64 k] 35)
  go_wp2_with (first
    | (go_at_call 74; refine (iPlanOk _ _ _ _ _ _).mono ?_; rintro e w1 ⟨rfl, hb⟩; replace B := B.keep hb; replace z := z.trans (hb.mono z.size); clear hb; rw [h]; obtain ⟨c0, c1, c2, c3, c4⟩ := B.five))
  go_returns
  refine ⟨ret_i ?_, z⟩
  unfold vBlocks; rw [if_pos h]
set_option maxHeartbeats 1000000 in
theorem iBlocksN (p s l c k : Int) (h : ok p s l c k = false) (w : World) :
    Calls Tryz.prog 108 #[.agg #[.int .i64 p, .int .i64 s, .int .i64 l, .int .i64 c, .int .i64 k]] w fun e w' => e = .returned (.int .i64 (vBlocks p s l c k)) ∧ Below w.heap.size w w' := by
  go_enter Tryz.func108, Tryz.ntmps108
  go_wp2_with fail
  have B := Box5.new w (.int .i64 p) (.int .i64 s) (.int .i64 l) (.int .i64 c) (.int .i64 k) 35
  have z := (Below.refl w.heap.size w).alloc (Nat.le_refl _) (Obj.cells #[.int .i64 p, .int .i64 s, .int .i64 l, .int .i64 c, .int .i64 k] 35)
  go_wp2_with (first
    | (go_at_call 74; refine (iPlanOk _ _ _ _ _ _).mono ?_; rintro e w1 ⟨rfl, hb⟩; replace B := B.keep hb; replace z := z.trans (hb.mono z.size); clear hb; rw [h]; obtain ⟨c0, c1, c2, c3, c4⟩ := B.five))
  go_returns
  refine ⟨ret_i ?_, z⟩
  unfold vBlocks
  rw [h]
  rfl
theorem iBlocks (p s l c k : Int) (w : World) :
    Calls Tryz.prog 108 #[.agg #[.int .i64 p, .int .i64 s, .int .i64 l, .int .i64 c, .int .i64 k]] w fun e w' => e = .returned (.int .i64 (vBlocks p s l c k)) ∧ Below w.heap.size w w' := by
  cases h : ok p s l c k
  · exact iBlocksN p s l c k h w
  · exact iBlocksY p s l c k h w
set_option maxHeartbeats 1000000 in
theorem sBlocksY (p s l c k : Int) (h : ok p s l c k = true) (w : World) :
    Calls Tryz.prog 102 #[.agg #[.int .i64 p, .int .i64 s, .int .i64 l, .int .i64 c, .int .i64 k]] w fun e w' => e = .returned (.int .i64 (vBlocks p s l c k)) ∧ Below w.heap.size w w' := by
  have h' := ok_iff.1 h
  have hq := sq_bd h'.1 h'.2.1
  go_enter Tryz.func102, Tryz.ntmps102
  go_wp2_with fail
  have B := Box5.new w (.int .i64 p) (.int .i64 s) (.int .i64 l) (.int .i64 c) (.int .i64 k) 35
  have z := (Below.refl w.heap.size w).alloc (Nat.le_refl _) (Obj.cells #[.int .i64 p, .int .i64 s, .int .i64 l, .int .i64 c, .int .i64 k] 35)
  go_wp2_with (first
    | (go_at_call 58; refine (sPlanOk _ _ _ _ _ _).mono ?_; rintro e w1 ⟨rfl, hb⟩; replace B := B.keep hb; replace z := z.trans (hb.mono z.size); clear hb; rw [h]; obtain ⟨c0, c1, c2, c3, c4⟩ := B.five))
  go_returns
  refine ⟨ret_i ?_, z⟩
  unfold vBlocks; rw [if_pos h]
set_option maxHeartbeats 1000000 in
theorem sBlocksN (p s l c k : Int) (h : ok p s l c k = false) (w : World) :
    Calls Tryz.prog 102 #[.agg #[.int .i64 p, .int .i64 s, .int .i64 l, .int .i64 c, .int .i64 k]] w fun e w' => e = .returned (.int .i64 (vBlocks p s l c k)) ∧ Below w.heap.size w w' := by
  go_enter Tryz.func102, Tryz.ntmps102
  go_wp2_with fail
  have B := Box5.new w (.int .i64 p) (.int .i64 s) (.int .i64 l) (.int .i64 c) (.int .i64 k) 35
  have z := (Below.refl w.heap.size w).alloc (Nat.le_refl _) (Obj.cells #[.int .i64 p, .int .i64 s, .int .i64 l, .int .i64 c, .int .i64 k] 35)
  go_wp2_with (first
    | (go_at_call 58; refine (sPlanOk _ _ _ _ _ _).mono ?_; rintro e w1 ⟨rfl, hb⟩; replace B := B.keep hb; replace z := z.trans (hb.mono z.size); clear hb; rw [h]; obtain ⟨c0, c1, c2, c3, c4⟩ := B.five))
  go_returns
  refine ⟨ret_i ?_, z⟩
  unfold vBlocks
  rw [h]
  rfl
theorem sBlocks (p s l c k : Int) (w : World) :
    Calls Tryz.prog 102 #[.agg #[.int .i64 p, .int .i64 s, .int .i64 l, .int .i64 c, .int .i64 k]] w fun e w' => e = .returned (.int .i64 (vBlocks p s l c k)) ∧ Below w.heap.size w w' := by
  cases h : ok p s l c k
  · exact sBlocksN p s l c k h w
  · exact sBlocksY p s l c k h w
set_option maxHeartbeats 1000000 in
theorem iSizeY (p s l c k : Int) (h : ok p s l c k = true) (w : World) :
    Calls Tryz.prog 72 #[.agg #[.int .i64 p, .int .i64 s, .int .i64 l, .int .i64 c, .int .i64 k]] w fun e w' => e = .returned (.int .i64 (vSize p s l c k)) ∧ Below w.heap.size w w' := by
  have h' := ok_iff.1 h
  have hq := sq_bd h'.1 h'.2.1
  go_enter Tryz.func72, Tryz.ntmps72
  go_wp2_with fail
  have B := Box5.new w (.int .i64 p) (.int .i64 s) (.int .i64 l) (.int .i64 c) (.int .i64 k) 35
  have z := (Below.refl w.heap.size w).alloc (Nat.le_refl _) (Obj.cells #[.int .i64 p, .int .i64 s, .int .i64 l, .int .i64 c, .int .i64 k] 35)
  go_wp2_with (first
    | (go_at_call 74; refine (iPlanOk _ _ _ _ _ _).mono ?_; rintro e w1 ⟨rfl, hb⟩; replace B := B.keep hb; replace z := z.trans (hb.mono z.size); clear hb; rw [h]; obtain ⟨c0, c1, c2, c3, c4⟩ := B.five))
  go_region_held3 (fun w' => w'.cell? ⟨w.heap.size, 0, none⟩ = some (.int .i64 p) ∧ w'.cell? ⟨w.heap.size, 1, none⟩ = some (.int .i64 s) ∧ w'.cell? ⟨w.heap.size, 2, none⟩ = some (.int .i64 l) ∧ w'.cell? ⟨w.heap.size, 3, none⟩ = some (.int .i64 c) ∧ w'.cell? ⟨w.heap.size, 4, none⟩ = some (.int .i64 k)) (go_keep)
    (first
    | (go_at_call 107; refine (iLarge _ _ _ _ _ h _).mono ?_; rintro e w1 ⟨rfl, hb⟩; replace B := B.draw.keep hb; replace z := z.drew.trans (hb.mono z.size); clear hb; obtain ⟨c0, c1, c2, c3, c4⟩ := B.five))
  go_wp2
  go_returns
  refine ⟨ret_i ?_, z⟩
  unfold vSize; rw [if_pos h]; simp only [IntKind.wrap_i64, lF, zF]
  omega
set_option maxHeartbeats 1000000 in
theorem iSizeN (p s l c k : Int) (h : ok p s l c k = false) (w : World) :
    Calls Tryz.prog 72 #[.agg #[.int .i64 p, .int .i64 s, .int .i64 l, .int .i64 c, .int .i64 k]] w fun e w' => e = .returned (.int .i64 (vSize p s l c k)) ∧ Below w.heap.size w w' := by
  go_enter Tryz.func72, Tryz.ntmps72
  go_wp2_with fail
  have B := Box5.new w (.int .i64 p) (.int .i64 s) (.int .i64 l) (.int .i64 c) (.int .i64 k) 35
  have z := (Below.refl w.heap.size w).alloc (Nat.le_refl _) (Obj.cells #[.int .i64 p, .int .i64 s, .int .i64 l, .int .i64 c, .int .i64 k] 35)
  go_wp2_with (first
    | (go_at_call 74; refine (iPlanOk _ _ _ _ _ _).mono ?_; rintro e w1 ⟨rfl, hb⟩; replace B := B.keep hb; replace z := z.trans (hb.mono z.size); clear hb; rw [h]; obtain ⟨c0, c1, c2, c3, c4⟩ := B.five))
  go_returns
  refine ⟨ret_i ?_, z⟩
  unfold vSize
  rw [h]
  rfl
theorem iSize (p s l c k : Int) (w : World) :
    Calls Tryz.prog 72 #[.agg #[.int .i64 p, .int .i64 s, .int .i64 l, .int .i64 c, .int .i64 k]] w fun e w' => e = .returned (.int .i64 (vSize p s l c k)) ∧ Below w.heap.size w w' := by
  cases h : ok p s l c k
  · exact iSizeN p s l c k h w
  · exact iSizeY p s l c k h w
set_option maxHeartbeats 1000000 in
theorem sSizeY (p s l c k : Int) (h : ok p s l c k = true) (w : World) :
    Calls Tryz.prog 59 #[.agg #[.int .i64 p, .int .i64 s, .int .i64 l, .int .i64 c, .int .i64 k]] w fun e w' => e = .returned (.int .i64 (vSize p s l c k)) ∧ Below w.heap.size w w' := by
  have h' := ok_iff.1 h
  have hq := sq_bd h'.1 h'.2.1
  go_enter Tryz.func59, Tryz.ntmps59
  go_wp2_with fail
  have B := Box5.new w (.int .i64 p) (.int .i64 s) (.int .i64 l) (.int .i64 c) (.int .i64 k) 35
  have z := (Below.refl w.heap.size w).alloc (Nat.le_refl _) (Obj.cells #[.int .i64 p, .int .i64 s, .int .i64 l, .int .i64 c, .int .i64 k] 35)
  go_wp2_with (first
    | (go_at_call 58; refine (sPlanOk _ _ _ _ _ _).mono ?_; rintro e w1 ⟨rfl, hb⟩; replace B := B.keep hb; replace z := z.trans (hb.mono z.size); clear hb; rw [h]; obtain ⟨c0, c1, c2, c3, c4⟩ := B.five))
  go_region_held3 (fun w' => w'.cell? ⟨w.heap.size, 0, none⟩ = some (.int .i64 p) ∧ w'.cell? ⟨w.heap.size, 1, none⟩ = some (.int .i64 s) ∧ w'.cell? ⟨w.heap.size, 2, none⟩ = some (.int .i64 l) ∧ w'.cell? ⟨w.heap.size, 3, none⟩ = some (.int .i64 c) ∧ w'.cell? ⟨w.heap.size, 4, none⟩ = some (.int .i64 k)) (go_keep)
    (first
    | (go_at_call 96; refine (sSmall _ _ _ _ _ h _).mono ?_; rintro e w1 ⟨rfl, hb⟩; replace B := B.draw.keep hb; replace z := z.drew.trans (hb.mono z.size); clear hb; obtain ⟨c0, c1, c2, c3, c4⟩ := B.five))
  go_wp2
  go_returns
  refine ⟨ret_i ?_, z⟩
  unfold vSize; rw [if_pos h]; simp only [IntKind.wrap_i64, sF, zF]
  omega
set_option maxHeartbeats 1000000 in
theorem sSizeN (p s l c k : Int) (h : ok p s l c k = false) (w : World) :
    Calls Tryz.prog 59 #[.agg #[.int .i64 p, .int .i64 s, .int .i64 l, .int .i64 c, .int .i64 k]] w fun e w' => e = .returned (.int .i64 (vSize p s l c k)) ∧ Below w.heap.size w w' := by
  go_enter Tryz.func59, Tryz.ntmps59
  go_wp2_with fail
  have B := Box5.new w (.int .i64 p) (.int .i64 s) (.int .i64 l) (.int .i64 c) (.int .i64 k) 35
  have z := (Below.refl w.heap.size w).alloc (Nat.le_refl _) (Obj.cells #[.int .i64 p, .int .i64 s, .int .i64 l, .int .i64 c, .int .i64 k] 35)
  go_wp2_with (first
    | (go_at_call 58; refine (sPlanOk _ _ _ _ _ _).mono ?_; rintro e w1 ⟨rfl, hb⟩; replace B := B.keep hb; replace z := z.trans (hb.mono z.size); clear hb; rw [h]; obtain ⟨c0, c1, c2, c3, c4⟩ := B.five))
  go_returns
  refine ⟨ret_i ?_, z⟩
  unfold vSize
  rw [h]
  rfl
theorem sSize (p s l c k : Int) (w : World) :
    Calls Tryz.prog 59 #[.agg #[.int .i64 p, .int .i64 s, .int .i64 l, .int .i64 c, .int .i64 k]] w fun e w' => e = .returned (.int .i64 (vSize p s l c k)) ∧ Below w.heap.size w w' := by
  cases h : ok p s l c k
  · exact sSizeN p s l c k h w
  · exact sSizeY p s l c k h w
set_option maxHeartbeats 1000000 in
theorem iHas (p s l c k : Int) (i : Int) (h : ok p s l c k = true) (w : World) :
    Calls Tryz.prog 42 #[.agg #[.int .i64 p, .int .i64 s, .int .i64 l, .int .i64 c, .int .i64 k], .int .i64 i] w fun e w' => e = .returned (.bool (inB i 0 (p - 1))) ∧ Below w.heap.size w w' := by
  have h' := ok_iff.1 h
  have hq := sq_bd h'.1 h'.2.1
  go_enter Tryz.func42, Tryz.ntmps42
  go_wp2_with fail
  have B := Box5.new w (.int .i64 p) (.int .i64 s) (.int .i64 l) (.int .i64 c) (.int .i64 k) 35
  have z := (Below.refl w.heap.size w).alloc (Nat.le_refl _) (Obj.cells #[.int .i64 p, .int .i64 s, .int .i64 l, .int .i64 c, .int .i64 k] 35)
  go_wp2_with (first
    | (go_at_call 73; refine (iWithin _ _ _ _).mono ?_; rintro e w1 ⟨rfl, rfl⟩))
  go_returns
  exact ⟨rfl, z⟩
set_option maxHeartbeats 1000000 in
theorem sHas (p s l c k : Int) (i : Int) (h : ok p s l c k = true) (w : World) :
    Calls Tryz.prog 26 #[.agg #[.int .i64 p, .int .i64 s, .int .i64 l, .int .i64 c, .int .i64 k], .int .i64 i] w fun e w' => e = .returned (.bool (inB i 0 (p - 1))) ∧ Below w.heap.size w w' := by
  have h' := ok_iff.1 h
  have hq := sq_bd h'.1 h'.2.1
  go_enter Tryz.func26, Tryz.ntmps26
  go_wp2_with fail
  have B := Box5.new w (.int .i64 p) (.int .i64 s) (.int .i64 l) (.int .i64 c) (.int .i64 k) 35
  have z := (Below.refl w.heap.size w).alloc (Nat.le_refl _) (Obj.cells #[.int .i64 p, .int .i64 s, .int .i64 l, .int .i64 c, .int .i64 k] 35)
  go_wp2_with (first
    | (go_at_call 58; refine (sPlanOk _ _ _ _ _ _).mono ?_; rintro e w1 ⟨rfl, hb⟩; replace B := B.keep hb; replace z := z.trans (hb.mono z.size); clear hb; rw [h]; obtain ⟨c0, c1, c2, c3, c4⟩ := B.five)
    | (go_at_call 60; refine (sIn _ _ _ _).mono ?_; rintro e w1 ⟨rfl, rfl⟩))
  go_returns
  exact ⟨rfl, z⟩
set_option maxHeartbeats 1000000 in
theorem sHasN (p s l c k : Int) (i : Int) (h : ok p s l c k = false) (w : World) :
    Calls Tryz.prog 26 #[.agg #[.int .i64 p, .int .i64 s, .int .i64 l, .int .i64 c, .int .i64 k], .int .i64 i] w fun e w' => e = .returned (.bool false) ∧ Below w.heap.size w w' := by
  go_enter Tryz.func26, Tryz.ntmps26
  go_wp2_with fail
  have B := Box5.new w (.int .i64 p) (.int .i64 s) (.int .i64 l) (.int .i64 c) (.int .i64 k) 35
  have z := (Below.refl w.heap.size w).alloc (Nat.le_refl _) (Obj.cells #[.int .i64 p, .int .i64 s, .int .i64 l, .int .i64 c, .int .i64 k] 35)
  go_wp2_with (first
    | (go_at_call 58; refine (sPlanOk _ _ _ _ _ _).mono ?_; rintro e w1 ⟨rfl, hb⟩; replace B := B.keep hb; replace z := z.trans (hb.mono z.size); clear hb; rw [h]; obtain ⟨c0, c1, c2, c3, c4⟩ := B.five))
  go_returns
  exact ⟨rfl, z⟩
set_option maxHeartbeats 1000000 in
theorem sBlk (p s l c k : Int) (i : Int) (h : ok p s l c k = true) (w : World) :
    Calls Tryz.prog 105 #[.agg #[.int .i64 p, .int .i64 s, .int .i64 l, .int .i64 c, .int .i64 k], .int .i64 i] w fun e w' => e = .returned (.bool (inB i 1 (s + l))) ∧ Below w.heap.size w w' := by
  have h' := ok_iff.1 h
  have hq := sq_bd h'.1 h'.2.1
  go_enter Tryz.func105, Tryz.ntmps105
  go_wp2_with fail
  have B := Box5.new w (.int .i64 p) (.int .i64 s) (.int .i64 l) (.int .i64 c) (.int .i64 k) 35
  have z := (Below.refl w.heap.size w).alloc (Nat.le_refl _) (Obj.cells #[.int .i64 p, .int .i64 s, .int .i64 l, .int .i64 c, .int .i64 k] 35)
  go_wp2_with (first
    | (go_at_call 58; refine (sPlanOk _ _ _ _ _ _).mono ?_; rintro e w1 ⟨rfl, hb⟩; replace B := B.keep hb; replace z := z.trans (hb.mono z.size); clear hb; rw [h]; obtain ⟨c0, c1, c2, c3, c4⟩ := B.five)
    | (go_at_call 60; refine (sIn _ _ _ _).mono ?_; rintro e w1 ⟨rfl, rfl⟩))
  go_returns
  exact ⟨rfl, z⟩
set_option maxHeartbeats 1000000 in
theorem sBlkN (p s l c k : Int) (i : Int) (h : ok p s l c k = false) (w : World) :
    Calls Tryz.prog 105 #[.agg #[.int .i64 p, .int .i64 s, .int .i64 l, .int .i64 c, .int .i64 k], .int .i64 i] w fun e w' => e = .returned (.bool false) ∧ Below w.heap.size w w' := by
  go_enter Tryz.func105, Tryz.ntmps105
  go_wp2_with fail
  have B := Box5.new w (.int .i64 p) (.int .i64 s) (.int .i64 l) (.int .i64 c) (.int .i64 k) 35
  have z := (Below.refl w.heap.size w).alloc (Nat.le_refl _) (Obj.cells #[.int .i64 p, .int .i64 s, .int .i64 l, .int .i64 c, .int .i64 k] 35)
  go_wp2_with (first
    | (go_at_call 58; refine (sPlanOk _ _ _ _ _ _).mono ?_; rintro e w1 ⟨rfl, hb⟩; replace B := B.keep hb; replace z := z.trans (hb.mono z.size); clear hb; rw [h]; obtain ⟨c0, c1, c2, c3, c4⟩ := B.five))
  go_returns
  exact ⟨rfl, z⟩
set_option maxHeartbeats 1000000 in
theorem iSlotY (p s l c k : Int) (i : Int) (f : Int) (h : ok p s l c k = true) (w : World) :
    Calls Tryz.prog 114 #[.agg #[.int .i64 p, .int .i64 s, .int .i64 l, .int .i64 c, .int .i64 k], .int .i64 i, .int .i64 f] w fun e w' => e = .returned (.int .i64 (vSlot p s l c k i f)) ∧ Below w.heap.size w w' := by
  have h' := ok_iff.1 h
  have hq := sq_bd h'.1 h'.2.1
  go_enter Tryz.func114, Tryz.ntmps114
  go_wp2_with fail
  have B := Box5.new w (.int .i64 p) (.int .i64 s) (.int .i64 l) (.int .i64 c) (.int .i64 k) 35
  have z := (Below.refl w.heap.size w).alloc (Nat.le_refl _) (Obj.cells #[.int .i64 p, .int .i64 s, .int .i64 l, .int .i64 c, .int .i64 k] 35)
  go_wp2_with (first
    | (go_at_call 74; refine (iPlanOk _ _ _ _ _ _).mono ?_; rintro e w1 ⟨rfl, hb⟩; replace B := B.keep hb; replace z := z.trans (hb.mono z.size); clear hb; rw [h]; obtain ⟨c0, c1, c2, c3, c4⟩ := B.five)
    | (go_at_call 42; refine (iHas _ _ _ _ _ _ h _).mono ?_; rintro e w1 ⟨rfl, hb⟩; replace B := B.keep hb; replace z := z.trans (hb.mono z.size); clear hb; obtain ⟨c0, c1, c2, c3, c4⟩ := B.five)
    | (go_at_call 73; refine (iWithin _ _ _ _).mono ?_; rintro e w1 ⟨rfl, rfl⟩))
  all_goals go_returns
  all_goals refine ⟨ret_i ?_, z⟩
  all_goals clear c0 c1 c2 c3 c4 B z
  all_goals (try simp only [inB_iff, inB_niff, nB_t, nB_f, beq_iff_eq, beq_eq_false_iff_ne] at *)
  all_goals simp only [vSlot, h, true_and, wrap64]
  all_goals (repeat' split) <;> omega
set_option maxHeartbeats 1000000 in
theorem iSlotN (p s l c k : Int) (i : Int) (f : Int) (h : ok p s l c k = false) (w : World) :
    Calls Tryz.prog 114 #[.agg #[.int .i64 p, .int .i64 s, .int .i64 l, .int .i64 c, .int .i64 k], .int .i64 i, .int .i64 f] w fun e w' => e = .returned (.int .i64 (vSlot p s l c k i f)) ∧ Below w.heap.size w w' := by
  go_enter Tryz.func114, Tryz.ntmps114
  go_wp2_with fail
  have B := Box5.new w (.int .i64 p) (.int .i64 s) (.int .i64 l) (.int .i64 c) (.int .i64 k) 35
  have z := (Below.refl w.heap.size w).alloc (Nat.le_refl _) (Obj.cells #[.int .i64 p, .int .i64 s, .int .i64 l, .int .i64 c, .int .i64 k] 35)
  go_wp2_with (first
    | (go_at_call 74; refine (iPlanOk _ _ _ _ _ _).mono ?_; rintro e w1 ⟨rfl, hb⟩; replace B := B.keep hb; replace z := z.trans (hb.mono z.size); clear hb; rw [h]; obtain ⟨c0, c1, c2, c3, c4⟩ := B.five))
  go_returns
  refine ⟨ret_i ?_, z⟩
  unfold vSlot
  rw [h]
  rfl
theorem iSlot (p s l c k : Int) (i : Int) (f : Int) (w : World) :
    Calls Tryz.prog 114 #[.agg #[.int .i64 p, .int .i64 s, .int .i64 l, .int .i64 c, .int .i64 k], .int .i64 i, .int .i64 f] w fun e w' => e = .returned (.int .i64 (vSlot p s l c k i f)) ∧ Below w.heap.size w w' := by
  cases h : ok p s l c k
  · exact iSlotN p s l c k i f h w
  · exact iSlotY p s l c k i f h w
set_option maxHeartbeats 1000000 in
theorem sSlotY (p s l c k : Int) (i : Int) (f : Int) (h : ok p s l c k = true) (w : World) :
    Calls Tryz.prog 67 #[.agg #[.int .i64 p, .int .i64 s, .int .i64 l, .int .i64 c, .int .i64 k], .int .i64 i, .int .i64 f] w fun e w' => e = .returned (.int .i64 (vSlot p s l c k i f)) ∧ Below w.heap.size w w' := by
  have h' := ok_iff.1 h
  have hq := sq_bd h'.1 h'.2.1
  go_enter Tryz.func67, Tryz.ntmps67
  go_wp2_with fail
  have B := Box5.new w (.int .i64 p) (.int .i64 s) (.int .i64 l) (.int .i64 c) (.int .i64 k) 35
  have z := (Below.refl w.heap.size w).alloc (Nat.le_refl _) (Obj.cells #[.int .i64 p, .int .i64 s, .int .i64 l, .int .i64 c, .int .i64 k] 35)
  go_wp2_with (first
    | (go_at_call 26; refine (sHas _ _ _ _ _ _ h _).mono ?_; rintro e w1 ⟨rfl, hb⟩; replace B := B.keep hb; replace z := z.trans (hb.mono z.size); clear hb; obtain ⟨c0, c1, c2, c3, c4⟩ := B.five)
    | (go_at_call 60; refine (sIn _ _ _ _).mono ?_; rintro e w1 ⟨rfl, rfl⟩))
  all_goals go_returns
  all_goals refine ⟨ret_i ?_, z⟩
  all_goals clear c0 c1 c2 c3 c4 B z
  all_goals (try simp only [inB_iff, inB_niff, nB_t, nB_f, beq_iff_eq, beq_eq_false_iff_ne] at *)
  all_goals simp only [vSlot, h, true_and, wrap64]
  all_goals (repeat' split) <;> omega
set_option maxHeartbeats 1000000 in
theorem sSlotN (p s l c k : Int) (i : Int) (f : Int) (h : ok p s l c k = false) (w : World) :
    Calls Tryz.prog 67 #[.agg #[.int .i64 p, .int .i64 s, .int .i64 l, .int .i64 c, .int .i64 k], .int .i64 i, .int .i64 f] w fun e w' => e = .returned (.int .i64 (vSlot p s l c k i f)) ∧ Below w.heap.size w w' := by
  go_enter Tryz.func67, Tryz.ntmps67
  go_wp2_with fail
  have B := Box5.new w (.int .i64 p) (.int .i64 s) (.int .i64 l) (.int .i64 c) (.int .i64 k) 35
  have z := (Below.refl w.heap.size w).alloc (Nat.le_refl _) (Obj.cells #[.int .i64 p, .int .i64 s, .int .i64 l, .int .i64 c, .int .i64 k] 35)
  go_wp2_with (first
    | (go_at_call 26; refine (sHasN _ _ _ _ _ _ h _).mono ?_; rintro e w1 ⟨rfl, hb⟩; replace B := B.keep hb; replace z := z.trans (hb.mono z.size); clear hb; obtain ⟨c0, c1, c2, c3, c4⟩ := B.five))
  go_returns
  refine ⟨ret_i ?_, z⟩
  unfold vSlot
  rw [h]
  rfl
theorem sSlot (p s l c k : Int) (i : Int) (f : Int) (w : World) :
    Calls Tryz.prog 67 #[.agg #[.int .i64 p, .int .i64 s, .int .i64 l, .int .i64 c, .int .i64 k], .int .i64 i, .int .i64 f] w fun e w' => e = .returned (.int .i64 (vSlot p s l c k i f)) ∧ Below w.heap.size w w' := by
  cases h : ok p s l c k
  · exact sSlotN p s l c k i f h w
  · exact sSlotY p s l c k i f h w
set_option maxHeartbeats 1000000 in
theorem iClassY (p s l c k : Int) (b : Int) (h : ok p s l c k = true) (w : World) :
    Calls Tryz.prog 110 #[.agg #[.int .i64 p, .int .i64 s, .int .i64 l, .int .i64 c, .int .i64 k], .int .i64 b] w fun e w' => e = .returned (.int .i64 (vClass p s l c k b)) ∧ Below w.heap.size w w' := by
  have h' := ok_iff.1 h
  have hq := sq_bd h'.1 h'.2.1
  go_enter Tryz.func110, Tryz.ntmps110
  go_wp2_with fail
  have B := Box5.new w (.int .i64 p) (.int .i64 s) (.int .i64 l) (.int .i64 c) (.int .i64 k) 35
  have z := (Below.refl w.heap.size w).alloc (Nat.le_refl _) (Obj.cells #[.int .i64 p, .int .i64 s, .int .i64 l, .int .i64 c, .int .i64 k] 35)
  go_wp2_with (first
    | (go_at_call 74; refine (iPlanOk _ _ _ _ _ _).mono ?_; rintro e w1 ⟨rfl, hb⟩; replace B := B.keep hb; replace z := z.trans (hb.mono z.size); clear hb; rw [h]; obtain ⟨c0, c1, c2, c3, c4⟩ := B.five)
    | (go_at_call 73; refine (iWithin _ _ _ _).mono ?_; rintro e w1 ⟨rfl, rfl⟩))
  all_goals go_returns
  all_goals refine ⟨ret_i ?_, z⟩
  all_goals clear c0 c1 c2 c3 c4 B z
  all_goals (try simp only [inB_iff, inB_niff, nB_t, nB_f, beq_iff_eq, beq_eq_false_iff_ne] at *)
  all_goals simp only [vClass, h, true_and, wrap64]
  all_goals (repeat' split) <;> omega
set_option maxHeartbeats 1000000 in
theorem iClassN (p s l c k : Int) (b : Int) (h : ok p s l c k = false) (w : World) :
    Calls Tryz.prog 110 #[.agg #[.int .i64 p, .int .i64 s, .int .i64 l, .int .i64 c, .int .i64 k], .int .i64 b] w fun e w' => e = .returned (.int .i64 (vClass p s l c k b)) ∧ Below w.heap.size w w' := by
  go_enter Tryz.func110, Tryz.ntmps110
  go_wp2_with fail
  have B := Box5.new w (.int .i64 p) (.int .i64 s) (.int .i64 l) (.int .i64 c) (.int .i64 k) 35
  have z := (Below.refl w.heap.size w).alloc (Nat.le_refl _) (Obj.cells #[.int .i64 p, .int .i64 s, .int .i64 l, .int .i64 c, .int .i64 k] 35)
  go_wp2_with (first
    | (go_at_call 74; refine (iPlanOk _ _ _ _ _ _).mono ?_; rintro e w1 ⟨rfl, hb⟩; replace B := B.keep hb; replace z := z.trans (hb.mono z.size); clear hb; rw [h]; obtain ⟨c0, c1, c2, c3, c4⟩ := B.five))
  go_returns
  refine ⟨ret_i ?_, z⟩
  unfold vClass
  rw [h]
  rfl
theorem iClass (p s l c k : Int) (b : Int) (w : World) :
    Calls Tryz.prog 110 #[.agg #[.int .i64 p, .int .i64 s, .int .i64 l, .int .i64 c, .int .i64 k], .int .i64 b] w fun e w' => e = .returned (.int .i64 (vClass p s l c k b)) ∧ Below w.heap.size w w' := by
  cases h : ok p s l c k
  · exact iClassN p s l c k b h w
  · exact iClassY p s l c k b h w
set_option maxHeartbeats 1000000 in
theorem iRootY (p s l c k : Int) (r : Int) (h : ok p s l c k = true) (w : World) :
    Calls Tryz.prog 89 #[.agg #[.int .i64 p, .int .i64 s, .int .i64 l, .int .i64 c, .int .i64 k], .int .i64 r] w fun e w' => e = .returned (.int .i64 (vRoot p s l c k r)) ∧ Below w.heap.size w w' := by
  have h' := ok_iff.1 h
  have hq := sq_bd h'.1 h'.2.1
  go_enter Tryz.func89, Tryz.ntmps89
  go_wp2_with fail
  have B := Box5.new w (.int .i64 p) (.int .i64 s) (.int .i64 l) (.int .i64 c) (.int .i64 k) 35
  have z := (Below.refl w.heap.size w).alloc (Nat.le_refl _) (Obj.cells #[.int .i64 p, .int .i64 s, .int .i64 l, .int .i64 c, .int .i64 k] 35)
  go_wp2_with (first
    | (go_at_call 74; refine (iPlanOk _ _ _ _ _ _).mono ?_; rintro e w1 ⟨rfl, hb⟩; replace B := B.keep hb; replace z := z.trans (hb.mono z.size); clear hb; rw [h]; obtain ⟨c0, c1, c2, c3, c4⟩ := B.five)
    | (go_at_call 113; refine (iRoots _ _ _ _ _ h _).mono ?_; rintro e w1 ⟨rfl, hb⟩; replace B := B.keep hb; replace z := z.trans (hb.mono z.size); clear hb; obtain ⟨c0, c1, c2, c3, c4⟩ := B.five)
    | (go_at_call 73; refine (iWithin _ _ _ _).mono ?_; rintro e w1 ⟨rfl, rfl⟩))
  all_goals go_returns
  all_goals refine ⟨ret_i ?_, z⟩
  all_goals clear c0 c1 c2 c3 c4 B z
  all_goals (try simp only [inB_iff, inB_niff, nB_t, nB_f, beq_iff_eq, beq_eq_false_iff_ne] at *)
  all_goals simp only [vRoot, rF, h, true_and, wrap64]
  all_goals (repeat' split) <;> omega
set_option maxHeartbeats 1000000 in
theorem iRootN (p s l c k : Int) (r : Int) (h : ok p s l c k = false) (w : World) :
    Calls Tryz.prog 89 #[.agg #[.int .i64 p, .int .i64 s, .int .i64 l, .int .i64 c, .int .i64 k], .int .i64 r] w fun e w' => e = .returned (.int .i64 (vRoot p s l c k r)) ∧ Below w.heap.size w w' := by
  go_enter Tryz.func89, Tryz.ntmps89
  go_wp2_with fail
  have B := Box5.new w (.int .i64 p) (.int .i64 s) (.int .i64 l) (.int .i64 c) (.int .i64 k) 35
  have z := (Below.refl w.heap.size w).alloc (Nat.le_refl _) (Obj.cells #[.int .i64 p, .int .i64 s, .int .i64 l, .int .i64 c, .int .i64 k] 35)
  go_wp2_with (first
    | (go_at_call 74; refine (iPlanOk _ _ _ _ _ _).mono ?_; rintro e w1 ⟨rfl, hb⟩; replace B := B.keep hb; replace z := z.trans (hb.mono z.size); clear hb; rw [h]; obtain ⟨c0, c1, c2, c3, c4⟩ := B.five))
  go_returns
  refine ⟨ret_i ?_, z⟩
  unfold vRoot
  rw [h]
  rfl
theorem iRoot (p s l c k : Int) (r : Int) (w : World) :
    Calls Tryz.prog 89 #[.agg #[.int .i64 p, .int .i64 s, .int .i64 l, .int .i64 c, .int .i64 k], .int .i64 r] w fun e w' => e = .returned (.int .i64 (vRoot p s l c k r)) ∧ Below w.heap.size w w' := by
  cases h : ok p s l c k
  · exact iRootN p s l c k r h w
  · exact iRootY p s l c k r h w
set_option maxHeartbeats 1000000 in
theorem sRootY (p s l c k : Int) (r : Int) (h : ok p s l c k = true) (w : World) :
    Calls Tryz.prog 30 #[.agg #[.int .i64 p, .int .i64 s, .int .i64 l, .int .i64 c, .int .i64 k], .int .i64 r] w fun e w' => e = .returned (.int .i64 (vRoot p s l c k r)) ∧ Below w.heap.size w w' := by
  have h' := ok_iff.1 h
  have hq := sq_bd h'.1 h'.2.1
  go_enter Tryz.func30, Tryz.ntmps30
  go_wp2_with fail
  have B := Box5.new w (.int .i64 p) (.int .i64 s) (.int .i64 l) (.int .i64 c) (.int .i64 k) 35
  have z := (Below.refl w.heap.size w).alloc (Nat.le_refl _) (Obj.cells #[.int .i64 p, .int .i64 s, .int .i64 l, .int .i64 c, .int .i64 k] 35)
  go_wp2_with (first
    | (go_at_call 58; refine (sPlanOk _ _ _ _ _ _).mono ?_; rintro e w1 ⟨rfl, hb⟩; replace B := B.keep hb; replace z := z.trans (hb.mono z.size); clear hb; rw [h]; obtain ⟨c0, c1, c2, c3, c4⟩ := B.five)
    | (go_at_call 64; refine (sRoots _ _ _ _ _ h _).mono ?_; rintro e w1 ⟨rfl, hb⟩; replace B := B.keep hb; replace z := z.trans (hb.mono z.size); clear hb; obtain ⟨c0, c1, c2, c3, c4⟩ := B.five)
    | (go_at_call 60; refine (sIn _ _ _ _).mono ?_; rintro e w1 ⟨rfl, rfl⟩))
  all_goals go_returns
  all_goals refine ⟨ret_i ?_, z⟩
  all_goals clear c0 c1 c2 c3 c4 B z
  all_goals (try simp only [inB_iff, inB_niff, nB_t, nB_f, beq_iff_eq, beq_eq_false_iff_ne] at *)
  all_goals simp only [vRoot, rF, h, true_and, wrap64]
  all_goals (repeat' split) <;> omega
set_option maxHeartbeats 1000000 in
theorem sRootN (p s l c k : Int) (r : Int) (h : ok p s l c k = false) (w : World) :
    Calls Tryz.prog 30 #[.agg #[.int .i64 p, .int .i64 s, .int .i64 l, .int .i64 c, .int .i64 k], .int .i64 r] w fun e w' => e = .returned (.int .i64 (vRoot p s l c k r)) ∧ Below w.heap.size w w' := by
  go_enter Tryz.func30, Tryz.ntmps30
  go_wp2_with fail
  have B := Box5.new w (.int .i64 p) (.int .i64 s) (.int .i64 l) (.int .i64 c) (.int .i64 k) 35
  have z := (Below.refl w.heap.size w).alloc (Nat.le_refl _) (Obj.cells #[.int .i64 p, .int .i64 s, .int .i64 l, .int .i64 c, .int .i64 k] 35)
  go_wp2_with (first
    | (go_at_call 58; refine (sPlanOk _ _ _ _ _ _).mono ?_; rintro e w1 ⟨rfl, hb⟩; replace B := B.keep hb; replace z := z.trans (hb.mono z.size); clear hb; rw [h]; obtain ⟨c0, c1, c2, c3, c4⟩ := B.five))
  go_returns
  refine ⟨ret_i ?_, z⟩
  unfold vRoot
  rw [h]
  rfl
theorem sRoot (p s l c k : Int) (r : Int) (w : World) :
    Calls Tryz.prog 30 #[.agg #[.int .i64 p, .int .i64 s, .int .i64 l, .int .i64 c, .int .i64 k], .int .i64 r] w fun e w' => e = .returned (.int .i64 (vRoot p s l c k r)) ∧ Below w.heap.size w w' := by
  cases h : ok p s l c k
  · exact sRootN p s l c k r h w
  · exact sRootY p s l c k r h w
end Go.Proofs.YtgmoemjiffglbaaGreat
namespace Go.Proofs.YtgmoemjiffglbaaGreat
open Go.RowKit
set_option linter.unusedVariables false
set_option linter.unusedSimpArgs false
set_option maxHeartbeats 1000000 in
theorem iBlk0Y (p s l c k : Int) (b : Int) (f : Int) (h : ok p s l c k = true) (hb : 1 ≤ b ∧ b ≤ s + l) (hs : b ≤ s) (hf : 0 ≤ f ∧ f ≤ 2) (w : World) :
    Calls Tryz.prog 87 #[.agg #[.int .i64 p, .int .i64 s, .int .i64 l, .int .i64 c, .int .i64 k], .int .i64 b, .int .i64 f] w fun e w' => e = .returned (.int .i64 (vBlock p s l c k b f)) ∧ Below w.heap.size w w' := by
  have h' := ok_iff.1 h
  have hq := sq_bd h'.1 h'.2.1
  go_enter Tryz.func87, Tryz.ntmps87
  go_wp2_with fail
  have B := Box5.new w (.int .i64 p) (.int .i64 s) (.int .i64 l) (.int .i64 c) (.int .i64 k) 35
  have z := (Below.refl w.heap.size w).alloc (Nat.le_refl _) (Obj.cells #[.int .i64 p, .int .i64 s, .int .i64 l, .int .i64 c, .int .i64 k] 35)
  have hc : vClass p s l c k b = 0 := by unfold vClass; rw [if_pos ⟨h, hb⟩, if_pos hs]
  go_wp2_with (first
    | (go_at_call 110; refine (iClass _ _ _ _ _ _ _).mono ?_; rintro e w1 ⟨rfl, hb⟩; replace B := B.keep hb; replace z := z.trans (hb.mono z.size); clear hb; rw [hc]; obtain ⟨c0, c1, c2, c3, c4⟩ := B.five)
    | (go_at_call 73; refine (iWithin _ _ _ _).mono ?_; rintro e w1 ⟨rfl, rfl⟩; rw [inB_iff.2 hf])
    | (go_at_call 111; refine (iSmall _ _ _ _ _ h _).mono ?_; rintro e w1 ⟨rfl, hb⟩; replace B := B.keep hb; replace z := z.trans (hb.mono z.size); clear hb; obtain ⟨c0, c1, c2, c3, c4⟩ := B.five))
  go_returns
  refine ⟨ret_i ?_, z⟩
  unfold vBlock
  rw [if_pos ⟨h, hb, hf.1⟩, if_pos hs, if_pos (by omega)]; simp only [wrap64, sF]; omega
set_option maxHeartbeats 1000000 in
theorem iBlk0N (p s l c k : Int) (b : Int) (f : Int) (h : ok p s l c k = true) (hb : 1 ≤ b ∧ b ≤ s + l) (hs : b ≤ s) (hf : ¬ (0 ≤ f ∧ f ≤ 2)) (w : World) :
    Calls Tryz.prog 87 #[.agg #[.int .i64 p, .int .i64 s, .int .i64 l, .int .i64 c, .int .i64 k], .int .i64 b, .int .i64 f] w fun e w' => e = .returned (.int .i64 (vBlock p s l c k b f)) ∧ Below w.heap.size w w' := by
  have h' := ok_iff.1 h
  have hq := sq_bd h'.1 h'.2.1
  go_enter Tryz.func87, Tryz.ntmps87
  go_wp2_with fail
  have B := Box5.new w (.int .i64 p) (.int .i64 s) (.int .i64 l) (.int .i64 c) (.int .i64 k) 35
  have z := (Below.refl w.heap.size w).alloc (Nat.le_refl _) (Obj.cells #[.int .i64 p, .int .i64 s, .int .i64 l, .int .i64 c, .int .i64 k] 35)
  have hc : vClass p s l c k b = 0 := by unfold vClass; rw [if_pos ⟨h, hb⟩, if_pos hs]
  go_wp2_with (first
    | (go_at_call 110; refine (iClass _ _ _ _ _ _ _).mono ?_; rintro e w1 ⟨rfl, hb⟩; replace B := B.keep hb; replace z := z.trans (hb.mono z.size); clear hb; rw [hc]; obtain ⟨c0, c1, c2, c3, c4⟩ := B.five)
    | (go_at_call 73; refine (iWithin _ _ _ _).mono ?_; rintro e w1 ⟨rfl, rfl⟩; rw [inB_niff.2 hf]))
  go_returns
  refine ⟨ret_i ?_, z⟩
  unfold vBlock
  repeat' split <;> omega
set_option maxHeartbeats 1000000 in
theorem iBlk1Y (p s l c k : Int) (b : Int) (f : Int) (h : ok p s l c k = true) (hb : 1 ≤ b ∧ b ≤ s + l) (hs : ¬ b ≤ s) (hf : 0 ≤ f ∧ f ≤ 4) (w : World) :
    Calls Tryz.prog 87 #[.agg #[.int .i64 p, .int .i64 s, .int .i64 l, .int .i64 c, .int .i64 k], .int .i64 b, .int .i64 f] w fun e w' => e = .returned (.int .i64 (vBlock p s l c k b f)) ∧ Below w.heap.size w w' := by
  have h' := ok_iff.1 h
  have hq := sq_bd h'.1 h'.2.1
  go_enter Tryz.func87, Tryz.ntmps87
  go_wp2_with fail
  have B := Box5.new w (.int .i64 p) (.int .i64 s) (.int .i64 l) (.int .i64 c) (.int .i64 k) 35
  have z := (Below.refl w.heap.size w).alloc (Nat.le_refl _) (Obj.cells #[.int .i64 p, .int .i64 s, .int .i64 l, .int .i64 c, .int .i64 k] 35)
  have hc : vClass p s l c k b = 1 := by unfold vClass; rw [if_pos ⟨h, hb⟩, if_neg (show ¬ b ≤ s by omega)]
  go_wp2_with (first
    | (go_at_call 110; refine (iClass _ _ _ _ _ _ _).mono ?_; rintro e w1 ⟨rfl, hb⟩; replace B := B.keep hb; replace z := z.trans (hb.mono z.size); clear hb; rw [hc]; obtain ⟨c0, c1, c2, c3, c4⟩ := B.five)
    | (go_at_call 73; refine (iWithin _ _ _ _).mono ?_; rintro e w1 ⟨rfl, rfl⟩; rw [inB_iff.2 hf]))
  go_region_held3 (fun w' => w'.cell? ⟨w.heap.size, 0, none⟩ = some (.int .i64 p) ∧ w'.cell? ⟨w.heap.size, 1, none⟩ = some (.int .i64 s) ∧ w'.cell? ⟨w.heap.size, 2, none⟩ = some (.int .i64 l) ∧ w'.cell? ⟨w.heap.size, 3, none⟩ = some (.int .i64 c) ∧ w'.cell? ⟨w.heap.size, 4, none⟩ = some (.int .i64 k)) (go_keep)
    (first
    | (go_at_call 107; refine (iLarge _ _ _ _ _ h _).mono ?_; rintro e w1 ⟨rfl, hb⟩; replace B := B.draw.keep hb; replace z := z.drew.trans (hb.mono z.size); clear hb; obtain ⟨c0, c1, c2, c3, c4⟩ := B.five))
  go_wp2
  go_returns
  refine ⟨ret_i ?_, z⟩
  unfold vBlock
  rw [if_pos ⟨h, hb, hf.1⟩, if_neg (show ¬ b ≤ s by omega), if_pos (by omega)]; simp only [IntKind.wrap_i64, lF]; omega
set_option maxHeartbeats 1000000 in
theorem iBlk1N (p s l c k : Int) (b : Int) (f : Int) (h : ok p s l c k = true) (hb : 1 ≤ b ∧ b ≤ s + l) (hs : ¬ b ≤ s) (hf : ¬ (0 ≤ f ∧ f ≤ 4)) (w : World) :
    Calls Tryz.prog 87 #[.agg #[.int .i64 p, .int .i64 s, .int .i64 l, .int .i64 c, .int .i64 k], .int .i64 b, .int .i64 f] w fun e w' => e = .returned (.int .i64 (vBlock p s l c k b f)) ∧ Below w.heap.size w w' := by
  have h' := ok_iff.1 h
  have hq := sq_bd h'.1 h'.2.1
  go_enter Tryz.func87, Tryz.ntmps87
  go_wp2_with fail
  have B := Box5.new w (.int .i64 p) (.int .i64 s) (.int .i64 l) (.int .i64 c) (.int .i64 k) 35
  have z := (Below.refl w.heap.size w).alloc (Nat.le_refl _) (Obj.cells #[.int .i64 p, .int .i64 s, .int .i64 l, .int .i64 c, .int .i64 k] 35)
  have hc : vClass p s l c k b = 1 := by unfold vClass; rw [if_pos ⟨h, hb⟩, if_neg (show ¬ b ≤ s by omega)]
  go_wp2_with (first
    | (go_at_call 110; refine (iClass _ _ _ _ _ _ _).mono ?_; rintro e w1 ⟨rfl, hb⟩; replace B := B.keep hb; replace z := z.trans (hb.mono z.size); clear hb; rw [hc]; obtain ⟨c0, c1, c2, c3, c4⟩ := B.five)
    | (go_at_call 73; refine (iWithin _ _ _ _).mono ?_; rintro e w1 ⟨rfl, rfl⟩; rw [inB_niff.2 hf]))
  go_returns
  refine ⟨ret_i ?_, z⟩
  unfold vBlock
  repeat' split <;> omega
set_option maxHeartbeats 1000000 in
theorem iBlkN (p s l c k : Int) (b : Int) (f : Int) (h : ¬ (ok p s l c k = true ∧ (1 ≤ b ∧ b ≤ s + l))) (w : World) :
    Calls Tryz.prog 87 #[.agg #[.int .i64 p, .int .i64 s, .int .i64 l, .int .i64 c, .int .i64 k], .int .i64 b, .int .i64 f] w fun e w' => e = .returned (.int .i64 (vBlock p s l c k b f)) ∧ Below w.heap.size w w' := by
  go_enter Tryz.func87, Tryz.ntmps87
  go_wp2_with fail
  have B := Box5.new w (.int .i64 p) (.int .i64 s) (.int .i64 l) (.int .i64 c) (.int .i64 k) 35
  have z := (Below.refl w.heap.size w).alloc (Nat.le_refl _) (Obj.cells #[.int .i64 p, .int .i64 s, .int .i64 l, .int .i64 c, .int .i64 k] 35)
  have hc : vClass p s l c k b = -1 := by unfold vClass; rw [if_neg h]
  go_wp2_with (first
    | (go_at_call 110; refine (iClass _ _ _ _ _ _ _).mono ?_; rintro e w1 ⟨rfl, hb⟩; replace B := B.keep hb; replace z := z.trans (hb.mono z.size); clear hb; rw [hc]; obtain ⟨c0, c1, c2, c3, c4⟩ := B.five))
  go_returns
  refine ⟨ret_i ?_, z⟩
  unfold vBlock
  rw [if_neg (fun x => h ⟨x.1, x.2.1⟩)]
theorem iBlock (p s l c k b f : Int) (w : World) :
    Calls Tryz.prog 87 #[.agg #[.int .i64 p, .int .i64 s, .int .i64 l, .int .i64 c, .int .i64 k], .int .i64 b, .int .i64 f] w fun e w' => e = .returned (.int .i64 (vBlock p s l c k b f)) ∧ Below w.heap.size w w' := by
  by_cases h0 : ok p s l c k = true ∧ (1 ≤ b ∧ b ≤ s + l)
  · obtain ⟨h, hb⟩ := h0
    by_cases hs : b ≤ s
    · by_cases hf : 0 ≤ f ∧ f ≤ 2
      · exact iBlk0Y p s l c k b f h hb hs hf w
      · exact iBlk0N p s l c k b f h hb hs hf w
    · by_cases hf : 0 ≤ f ∧ f ≤ 4
      · exact iBlk1Y p s l c k b f h hb hs hf w
      · exact iBlk1N p s l c k b f h hb hs hf w
  · exact iBlkN p s l c k b f h0 w
end Go.Proofs.YtgmoemjiffglbaaGreat
namespace Go.Proofs.YtgmoemjiffglbaaGreat
open Go.RowKit
set_option linter.unusedVariables false
set_option linter.unusedSimpArgs false
theorem sF_bd {p c : Int} (h0 : 1 ≤ p) (h1 : p ≤ 64) (h2 : 1 ≤ c) (h3 : c ≤ 8) : 0 ≤ sF p c ∧ sF p c ≤ 5000 := by
  have := sq_bd h0 h1
  unfold sF
  omega
def wid (s b : Int) : Int := if b ≤ s then 3 else 5
def wS (s n : Int) : Int := if n ≤ s then 3 * n else 3 * s + 5 * (n - s)
theorem wS_succ (s b : Int) : wS s (b - 1) + wid s b = wS s b := by unfold wS wid; (repeat' split) <;> omega
theorem vBlock_of {p s l c k b f : Int} (h : ok p s l c k = true) (hb : 1 ≤ b ∧ b ≤ s + l) (hf : 0 ≤ f) : vBlock p s l c k b f = if f < wid s b then sF p c + wS s (b - 1) + f else -1 := by
  unfold vBlock wid wS lF sF
  rw [if_pos ⟨h, hb, hf⟩]
  (repeat' split) <;> omega
set_option maxHeartbeats 400000 in
theorem sWidth (p s l c k b : Int) (w : World) :
    Calls Tryz.prog 106 #[.agg #[.int .i64 p, .int .i64 s, .int .i64 l, .int .i64 c, .int .i64 k], .int .i64 b] w fun e w' => e = .returned (.int .i64 (wid s b)) ∧ Below w.heap.size w w' := by
  by_cases hs : b ≤ s
  all_goals
    go_enter Tryz.func106, Tryz.ntmps106
    go_wp2
    go_returns
    refine ⟨ret_i ?_, by go_grown⟩
    unfold wid
    split <;> omega
set_option maxHeartbeats 1000000 in
theorem sBlockY (p s l c k : Int) (b : Int) (f : Int) (h : ok p s l c k = true) (hb : 1 ≤ b ∧ b ≤ s + l) (hf : 0 ≤ f) (w : World) :
    Calls Tryz.prog 69 #[.agg #[.int .i64 p, .int .i64 s, .int .i64 l, .int .i64 c, .int .i64 k], .int .i64 b, .int .i64 f] w fun e w' => e = .returned (.int .i64 (vBlock p s l c k b f)) ∧ Below w.heap.size w w' := by
  have h' := ok_iff.1 h
  have hq := sq_bd h'.1 h'.2.1
  go_enter Tryz.func69, Tryz.ntmps69
  go_wp2_with fail
  have B := Box5.new w (.int .i64 p) (.int .i64 s) (.int .i64 l) (.int .i64 c) (.int .i64 k) 35
  have z := (Below.refl w.heap.size w).alloc (Nat.le_refl _) (Obj.cells #[.int .i64 p, .int .i64 s, .int .i64 l, .int .i64 c, .int .i64 k] 35)
  go_wp2_with (first
    | (go_at_call 105; refine (sBlk _ _ _ _ _ _ h _).mono ?_; rintro e w1 ⟨rfl, hb⟩; replace B := B.keep hb; replace z := z.trans (hb.mono z.size); clear hb; rw [inB_iff.2 hb]; obtain ⟨c0, c1, c2, c3, c4⟩ := B.five)
    | (go_at_call 96; refine (sSmall _ _ _ _ _ h _).mono ?_; rintro e w1 ⟨rfl, hb⟩; replace B := B.keep hb; replace z := z.trans (hb.mono z.size); clear hb; obtain ⟨c0, c1, c2, c3, c4⟩ := B.five))
  have hp := sF_bd h'.1 h'.2.1 h'.2.2.2.2.2.2.1 h'.2.2.2.2.2.2.2.1
  clear hq
  go_loopw [7, 8] (fun x y wr => ∃ j : Int, (1 ≤ j ∧ j ≤ b) ∧ x = .int .i64 (sF p c + wS s (j - 1)) ∧ y = .int .i64 j ∧ Box5 wr w.heap.size (.int .i64 p) (.int .i64 s) (.int .i64 l) (.int .i64 c) (.int .i64 k) ∧ Below w.heap.size w wr) (fun _ y _ => (b - intOf y).toNat)
  case atStart => exact ⟨1, ⟨by omega, hb.1⟩, by rw [show wS s (1 - 1) = 0 from by unfold wS; split <;> omega]; simp, rfl, B, z⟩
  case round =>
    obtain ⟨j, ⟨hj0, hj1⟩, rfl, rfl, B, z⟩ := hrel
    obtain ⟨c0, c1, c2, c3, c4⟩ := B.five
    have hw : Hid (wS s (j - 1) + wid s j = wS s j) := wS_succ s j
    have hwb : Hid (0 ≤ wS s (j - 1) ∧ wS s (j - 1) ≤ 1250) := by show _ ∧ _; unfold wS; split <;> omega
    by_cases hlt : j < b
    · go_wp2_with fail
      refine (sWidth _ _ _ _ _ _ _).mono ?_
      rintro e w3 ⟨rfl, hb3⟩
      go_wp2
      go_roundw
      case rel => 
        refine ⟨j + 1, ⟨by omega, by omega⟩, ?_, by go_num, B.keep hb3, z.trans (hb3.mono z.size)⟩
        have h1 := hw.out
        have h2 := hwb.out
        have h3 : wid s j = 3 ∨ wid s j = 5 := by unfold wid; split <;> simp
        rw [show j + 1 - 1 = j from by omega]
        simp only [Value.int.injEq, true_and, wrap64]
        omega
      case measure => simp [intOf]; omega
    · obtain rfl : j = b := by omega
      go_wp2_with fail
      refine (sWidth _ _ _ _ _ _ _).mono ?_
      rintro e w3 ⟨rfl, hb3⟩
      have z3 := z.trans (hb3.mono z.size)
      by_cases hfw : f < wid s j
      · go_wp2
        go_returns
        refine ⟨ret_i ?_, z3⟩
        have h2 := hwb.out
        rw [vBlock_of h hb hf, if_pos hfw]
        have h3 : wid s j = 3 ∨ wid s j = 5 := by unfold wid; split <;> simp
        unfold wrap64
        omega
      · go_wp2
        go_returns
        refine ⟨ret_i ?_, z3⟩
        rw [vBlock_of h hb hf, if_neg (show ¬ f < wid s j by omega)]
set_option maxHeartbeats 1000000 in
theorem sBlockN1 (p s l c k : Int) (b : Int) (f : Int) (h : ok p s l c k = true) (hb : ¬ (1 ≤ b ∧ b ≤ s + l)) (w : World) :
    Calls Tryz.prog 69 #[.agg #[.int .i64 p, .int .i64 s, .int .i64 l, .int .i64 c, .int .i64 k], .int .i64 b, .int .i64 f] w fun e w' => e = .returned (.int .i64 (vBlock p s l c k b f)) ∧ Below w.heap.size w w' := by
  go_enter Tryz.func69, Tryz.ntmps69
  go_wp2_with fail
  have B := Box5.new w (.int .i64 p) (.int .i64 s) (.int .i64 l) (.int .i64 c) (.int .i64 k) 35
  have z := (Below.refl w.heap.size w).alloc (Nat.le_refl _) (Obj.cells #[.int .i64 p, .int .i64 s, .int .i64 l, .int .i64 c, .int .i64 k] 35)
  go_wp2_with (first
    | (go_at_call 105; refine (sBlk _ _ _ _ _ _ h _).mono ?_; rintro e w1 ⟨rfl, hb⟩; replace B := B.keep hb; replace z := z.trans (hb.mono z.size); clear hb; rw [inB_niff.2 hb]; obtain ⟨c0, c1, c2, c3, c4⟩ := B.five))
  go_returns
  refine ⟨ret_i ?_, z⟩
  unfold vBlock
  rw [if_neg (fun x => hb x.2.1)]
set_option maxHeartbeats 1000000 in
theorem sBlockN2 (p s l c k : Int) (b : Int) (f : Int) (h : ok p s l c k = true) (hb : 1 ≤ b ∧ b ≤ s + l) (hf : f < 0) (w : World) :
    Calls Tryz.prog 69 #[.agg #[.int .i64 p, .int .i64 s, .int .i64 l, .int .i64 c, .int .i64 k], .int .i64 b, .int .i64 f] w fun e w' => e = .returned (.int .i64 (vBlock p s l c k b f)) ∧ Below w.heap.size w w' := by
  go_enter Tryz.func69, Tryz.ntmps69
  go_wp2_with fail
  have B := Box5.new w (.int .i64 p) (.int .i64 s) (.int .i64 l) (.int .i64 c) (.int .i64 k) 35
  have z := (Below.refl w.heap.size w).alloc (Nat.le_refl _) (Obj.cells #[.int .i64 p, .int .i64 s, .int .i64 l, .int .i64 c, .int .i64 k] 35)
  go_wp2_with (first
    | (go_at_call 105; refine (sBlk _ _ _ _ _ _ h _).mono ?_; rintro e w1 ⟨rfl, hb⟩; replace B := B.keep hb; replace z := z.trans (hb.mono z.size); clear hb; rw [inB_iff.2 hb]; obtain ⟨c0, c1, c2, c3, c4⟩ := B.five))
  go_returns
  refine ⟨ret_i ?_, z⟩
  unfold vBlock
  rw [if_neg (fun x => by omega)]
set_option maxHeartbeats 1000000 in
theorem sBlockN (p s l c k : Int) (b : Int) (f : Int) (h : ok p s l c k = false) (w : World) :
    Calls Tryz.prog 69 #[.agg #[.int .i64 p, .int .i64 s, .int .i64 l, .int .i64 c, .int .i64 k], .int .i64 b, .int .i64 f] w fun e w' => e = .returned (.int .i64 (vBlock p s l c k b f)) ∧ Below w.heap.size w w' := by
  go_enter Tryz.func69, Tryz.ntmps69
  go_wp2_with fail
  have B := Box5.new w (.int .i64 p) (.int .i64 s) (.int .i64 l) (.int .i64 c) (.int .i64 k) 35
  have z := (Below.refl w.heap.size w).alloc (Nat.le_refl _) (Obj.cells #[.int .i64 p, .int .i64 s, .int .i64 l, .int .i64 c, .int .i64 k] 35)
  go_wp2_with (first
    | (go_at_call 105; refine (sBlkN _ _ _ _ _ _ h _).mono ?_; rintro e w1 ⟨rfl, hb⟩; replace B := B.keep hb; replace z := z.trans (hb.mono z.size); clear hb; obtain ⟨c0, c1, c2, c3, c4⟩ := B.five))
  go_returns
  refine ⟨ret_i ?_, z⟩
  unfold vBlock
  rw [h]
  rfl
theorem sBlock (p s l c k b f : Int) (w : World) :
    Calls Tryz.prog 69 #[.agg #[.int .i64 p, .int .i64 s, .int .i64 l, .int .i64 c, .int .i64 k], .int .i64 b, .int .i64 f] w fun e w' => e = .returned (.int .i64 (vBlock p s l c k b f)) ∧ Below w.heap.size w w' := by
  cases h : ok p s l c k
  · exact sBlockN p s l c k b f h w
  · by_cases hb : 1 ≤ b ∧ b ≤ s + l
    · by_cases hf : 0 ≤ f
      · exact sBlockY p s l c k b f h hb hf w
      · exact sBlockN2 p s l c k b f h hb (by omega) w
    · exact sBlockN1 p s l c k b f h hb w
end Go.Proofs.YtgmoemjiffglbaaGreat
namespace Go.Proofs.YtgmoemjiffglbaaGreat
open Go.RowKit
set_option linter.unusedVariables false

/-- Everything but block c is as it was. -/
structure Kept (c : Nat) (w w' : World) : Prop where
  os : w'.os = w.os
  tape : w'.tape = w.tape
  output : w'.output = w.output
  size : w.heap.size ≤ w'.heap.size
  block : ∀ k, k < w.heap.size → k ≠ c → w'.heap[k]? = w.heap[k]?
theorem Kept.refl (c : Nat) (w : World) : Kept c w w := ⟨rfl, rfl, rfl, Nat.le_refl _, fun _ _ _ => rfl⟩
theorem Kept.trans {c : Nat} {a b d : World} (h : Kept c a b) (k : Kept c b d) : Kept c a d :=
  ⟨k.os.trans h.os, k.tape.trans h.tape, k.output.trans h.output, Nat.le_trans h.size k.size, fun i hi hc => (k.block i (Nat.lt_of_lt_of_le hi h.size) hc).trans (h.block i hi hc)⟩
theorem Kept.of_below {c : Nat} {w w' : World} (h : Below w.heap.size w w') : Kept c w w' := ⟨h.os, h.tape, h.output, h.size, fun k hk _ => h.block k hk⟩
theorem Kept.below {c B : Nat} {w w' : World} (h : Kept c w w') (hc : B ≤ c) (hB : B ≤ w.heap.size) : Below B w w' :=
  ⟨h.os, h.tape, h.output, h.size, fun k hk => h.block k (by omega) (by omega)⟩
theorem Kept.drew {c : Nat} {a w : World} (h : Kept c a w) : Kept c a w.drew := ⟨h.os, h.tape, h.output, h.size, h.block⟩
theorem Kept.drewN {c : Nat} {a w : World} (h : Kept c a w) (n : Nat) : Kept c a (w.drewN n) := ⟨h.os, h.tape, h.output, h.size, h.block⟩
theorem Kept.set {c : Nat} {a w : World} (h : Kept c a w) (o : Nat) (v : Value) : Kept c a (w.setCell ⟨c, o, none⟩ v) :=
  h.trans ⟨rfl, rfl, rfl, by simp [World.setCell], fun k _ hk => Below.heap_setCell _ _ _ _ hk⟩
theorem Kept.cell {c : Nat} {w w' : World} (h : Kept c w w') {b o : Nat} (hb : b < w.heap.size) (hc : b ≠ c) : w'.cell? ⟨b, o, none⟩ = w.cell? ⟨b, o, none⟩ :=
  World.cell?_of_block (w := w) (h.block b hb hc)

theorem sand8 (x : Int) : bits .and .i64 x 255 = x % 256 := by
  show IntKind.i64.wrap (((BitVec.ofInt 64 x &&& BitVec.ofInt 64 255).toNat : Nat) : Int) = _
  rw [BitVec.toNat_and, BitVec.toNat_ofInt, BitVec.toNat_ofInt, show ((255 : Int) % (2 ^ 64 : Nat)).toNat = 2 ^ 8 - 1 from by decide, Nat.and_two_pow_sub_one_eq_mod, IntKind.wrap_i64]
  omega

/-- The bytes of a code that came in: below block B, each a byte. -/
def Row (B : Nat) (w : World) (a : Option Addr) (len : Nat) : Prop :=
  len = 0 ∨ ∃ b off, a = some ⟨b, off, none⟩ ∧ b < B ∧ ∀ j, j < len → ∃ z : Int, w.cell? ⟨b, off + j, none⟩ = some (.int .u8 z) ∧ 0 ≤ z ∧ z ≤ 255
theorem Row.kept {B c : Nat} {w w' : World} {a : Option Addr} {len : Nat} (h : Row B w a len) (k : Kept c w w') (hc : B ≤ c) (hB : B ≤ w.heap.size) : Row B w' a len := by
  rcases h with rfl | ⟨b, off, rfl, hb, hz⟩
  · exact .inl rfl
  · refine .inr ⟨b, off, rfl, hb, fun j hj => ?_⟩
    obtain ⟨z, h1, h2⟩ := hz j hj
    exact ⟨z, (k.cell (by omega) (by omega)).trans h1, h2⟩

/-- A cursor in block c, from B on. -/
structure Cur (B c : Nat) (w : World) : Prop where
  ge : B ≤ c
  lt : c < w.heap.size
  is : ∃ (a : Option Addr) (len cap i : Nat) (h : Int), w.cell? ⟨c, 0, none⟩ = some (.slice a len cap) ∧ w.cell? ⟨c, 1, none⟩ = some (.int .i64 i) ∧ w.cell? ⟨c, 2, none⟩ = some (.int .i64 h) ∧
    w.frozen? ⟨c, 1, none⟩ = false ∧ w.frozen? ⟨c, 2, none⟩ = false ∧ len ≤ 4096 ∧ Row B w a len
theorem Cur.keep {B c : Nat} {w w' : World} (h : Cur B c w) (hb : Below w.heap.size w w') : Cur B c w' := by
  obtain ⟨ge, lt, a, len, cap, i, x, h0, h1, h2, f1, f2, hl, hr⟩ := h
  refine ⟨ge, Nat.lt_of_lt_of_le lt hb.size, a, len, cap, i, x, (hb.cell (p := ⟨c, 0, none⟩) lt).trans h0, (hb.cell (p := ⟨c, 1, none⟩) lt).trans h1, (hb.cell (p := ⟨c, 2, none⟩) lt).trans h2, (hb.frozen (p := ⟨c, 1, none⟩) lt).trans f1, (hb.frozen (p := ⟨c, 2, none⟩) lt).trans f2, hl, ?_⟩
  rcases hr with rfl | ⟨b, off, rfl, hbb, hz⟩
  · exact .inl rfl
  · refine .inr ⟨b, off, rfl, hbb, fun j hj => ?_⟩
    obtain ⟨z, h1, h2⟩ := hz j hj
    exact ⟨z, (hb.cell (p := ⟨b, off + j, none⟩) (by show b < _; omega)).trans h1, h2⟩

end Go.Proofs.YtgmoemjiffglbaaGreat
