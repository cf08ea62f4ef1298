/-
  Where the regions of a right plan begin, in the program and in the model: the same five sums.
-/
import Derived.Test.YtdebjfgflldpjaaPlan
import Derived.Deep.RegionHeld3
namespace Go.Proofs.Ytdebjfgflldpjaa
open Go.RowKit
set_option linter.unusedVariables false
/-- Five cells of a block that is there. -/
structure Box5 (w : World) (b : Nat) (x0 x1 x2 x3 x4 : Value) : Prop where
  lt : b < w.heap.size
  c0 : w.cell? ⟨b, 0, none⟩ = some x0
  c1 : w.cell? ⟨b, 1, none⟩ = some x1
  c2 : w.cell? ⟨b, 2, none⟩ = some x2
  c3 : w.cell? ⟨b, 3, none⟩ = some x3
  c4 : w.cell? ⟨b, 4, none⟩ = some x4
theorem Box5.new (w : World) (x0 x1 x2 x3 x4 : Value) (t : TypeId) : Box5 (w.alloc (.cells #[x0, x1, x2, x3, x4] t)) w.heap.size x0 x1 x2 x3 x4 :=
  ⟨by simp, by go_simp, by go_simp, by go_simp, by go_simp, by go_simp⟩
theorem Box5.keep {w w' : World} {b : Nat} {x0 x1 x2 x3 x4 : Value} (h : Box5 w b x0 x1 x2 x3 x4) (hb : Below w.heap.size w w') : Box5 w' b x0 x1 x2 x3 x4 :=
  ⟨Nat.lt_of_lt_of_le h.lt hb.size, (hb.cell (p := ⟨b, 0, none⟩) h.lt).trans h.c0, (hb.cell (p := ⟨b, 1, none⟩) h.lt).trans h.c1, (hb.cell (p := ⟨b, 2, none⟩) h.lt).trans h.c2, (hb.cell (p := ⟨b, 3, none⟩) h.lt).trans h.c3, (hb.cell (p := ⟨b, 4, none⟩) h.lt).trans h.c4⟩
theorem Box5.draw {w : World} {b : Nat} {x0 x1 x2 x3 x4 : Value} (h : Box5 w b x0 x1 x2 x3 x4) : Box5 w.drew b x0 x1 x2 x3 x4 := ⟨h.lt, h.c0, h.c1, h.c2, h.c3, h.c4⟩

theorem Box5.five {w : World} {b : Nat} {x0 x1 x2 x3 x4 : Value} (h : Box5 w b x0 x1 x2 x3 x4) : w.cell? ⟨b, 0, none⟩ = some x0 ∧ w.cell? ⟨b, 1, none⟩ = some x1 ∧ w.cell? ⟨b, 2, none⟩ = some x2 ∧ w.cell? ⟨b, 3, none⟩ = some x3 ∧ w.cell? ⟨b, 4, none⟩ = some x4 := ⟨h.c0, h.c1, h.c2, h.c3, h.c4⟩
theorem ret_i {a b : Int} (h : a = b) : Ending.returned (.int .i64 a) = .returned (.int .i64 b) := by rw [h]
def nF (p : Int) : Int := 7 * p
def rF (p : Int) : Int := 7 * p + p * p
def sF (p c : Int) : Int := 7 * p + p * p + 5 + c
def lF (p s c : Int) : Int := 7 * p + p * p + 5 + c + 3 * s
def zF (p s l c : Int) : Int := 7 * p + p * p + 5 + c + 3 * s + 5 * l
theorem sq_bd {p : Int} (h0 : 1 ≤ p) (h1 : p ≤ 64) : 1 ≤ p * p ∧ p * p ≤ 4096 ∧ p ≤ p * p := by
  have a := Int.mul_le_mul h1 h1 (by omega) (by omega)
  have b := Int.mul_le_mul h0 h0 (by omega) (by omega)
  have c := Int.mul_le_mul_of_nonneg_right h0 (show 0 ≤ p by omega)
  omega

set_option maxHeartbeats 400000 in
theorem iNotes (p s l c k : Int) (h : ok p s l c k = true) (w : World) :
    Calls Try.prog 43 #[.agg #[.int .i64 p, .int .i64 s, .int .i64 l, .int .i64 c, .int .i64 k]] w fun e w' => e = .returned (.int .i64 (nF p)) ∧ Below w.heap.size w w' := by
  have h' := ok_iff.1 h
  go_enter Try.func43, Try.ntmps43
  go_wp2
  go_returns
  refine ⟨ret_i ?_, by go_grown⟩
  unfold nF
  omega
set_option maxHeartbeats 1000000 in
theorem iRoots (p s l c k : Int) (h : ok p s l c k = true) (w : World) :
    Calls Try.prog 41 #[.agg #[.int .i64 p, .int .i64 s, .int .i64 l, .int .i64 c, .int .i64 k]] w fun e w' => e = .returned (.int .i64 (rF p)) ∧ Below w.heap.size w w' := by
  have h' := ok_iff.1 h
  have hq := sq_bd h'.1 h'.2.1
  go_enter Try.func41, Try.ntmps41
  go_wp2_with fail
  have B := Box5.new w (.int .i64 p) (.int .i64 s) (.int .i64 l) (.int .i64 c) (.int .i64 k) 26
  have z := (Below.refl w.heap.size w).alloc (Nat.le_refl _) (Obj.cells #[.int .i64 p, .int .i64 s, .int .i64 l, .int .i64 c, .int .i64 k] 26)
  go_region_held3 (fun w' => w'.cell? ⟨w.heap.size, 0, none⟩ = some (.int .i64 p) ∧ w'.cell? ⟨w.heap.size, 1, none⟩ = some (.int .i64 s) ∧ w'.cell? ⟨w.heap.size, 2, none⟩ = some (.int .i64 l) ∧ w'.cell? ⟨w.heap.size, 3, none⟩ = some (.int .i64 c) ∧ w'.cell? ⟨w.heap.size, 4, none⟩ = some (.int .i64 k)) (go_keep)
    (first
    | (go_at_call 43; refine (iNotes _ _ _ _ _ h _).mono ?_; rintro e w1 ⟨rfl, hb⟩; replace B := B.draw.keep hb; replace z := z.drew.trans (hb.mono z.size); clear hb; obtain ⟨c0, c1, c2, c3, c4⟩ := B.five))
  go_wp2
  go_returns
  refine ⟨ret_i ?_, z⟩
  simp only [IntKind.wrap_i64, nF, rF]
  omega
set_option maxHeartbeats 1000000 in
theorem iSmall (p s l c k : Int) (h : ok p s l c k = true) (w : World) :
    Calls Try.prog 42 #[.agg #[.int .i64 p, .int .i64 s, .int .i64 l, .int .i64 c, .int .i64 k]] w fun e w' => e = .returned (.int .i64 (sF p c)) ∧ Below w.heap.size w w' := by
  have h' := ok_iff.1 h
  have hq := sq_bd h'.1 h'.2.1
  go_enter Try.func42, Try.ntmps42
  go_wp2_with fail
  have B := Box5.new w (.int .i64 p) (.int .i64 s) (.int .i64 l) (.int .i64 c) (.int .i64 k) 26
  have z := (Below.refl w.heap.size w).alloc (Nat.le_refl _) (Obj.cells #[.int .i64 p, .int .i64 s, .int .i64 l, .int .i64 c, .int .i64 k] 26)
  go_region_held3 (fun w' => w'.cell? ⟨w.heap.size, 0, none⟩ = some (.int .i64 p) ∧ w'.cell? ⟨w.heap.size, 1, none⟩ = some (.int .i64 s) ∧ w'.cell? ⟨w.heap.size, 2, none⟩ = some (.int .i64 l) ∧ w'.cell? ⟨w.heap.size, 3, none⟩ = some (.int .i64 c) ∧ w'.cell? ⟨w.heap.size, 4, none⟩ = some (.int .i64 k)) (go_keep)
    (first
    | (go_at_call 41; refine (iRoots _ _ _ _ _ h _).mono ?_; rintro e w1 ⟨rfl, hb⟩; replace B := B.draw.keep hb; replace z := z.drew.trans (hb.mono z.size); clear hb; obtain ⟨c0, c1, c2, c3, c4⟩ := B.five))
  go_wp2
  go_returns
  refine ⟨ret_i ?_, z⟩
  simp only [IntKind.wrap_i64, rF, sF]
  omega
set_option maxHeartbeats 1000000 in
theorem iLarge (p s l c k : Int) (h : ok p s l c k = true) (w : World) :
    Calls Try.prog 38 #[.agg #[.int .i64 p, .int .i64 s, .int .i64 l, .int .i64 c, .int .i64 k]] w fun e w' => e = .returned (.int .i64 (lF p s c)) ∧ Below w.heap.size w w' := by
  have h' := ok_iff.1 h
  have hq := sq_bd h'.1 h'.2.1
  go_enter Try.func38, Try.ntmps38
  go_wp2_with fail
  have B := Box5.new w (.int .i64 p) (.int .i64 s) (.int .i64 l) (.int .i64 c) (.int .i64 k) 26
  have z := (Below.refl w.heap.size w).alloc (Nat.le_refl _) (Obj.cells #[.int .i64 p, .int .i64 s, .int .i64 l, .int .i64 c, .int .i64 k] 26)
  go_region_held3 (fun w' => w'.cell? ⟨w.heap.size, 0, none⟩ = some (.int .i64 p) ∧ w'.cell? ⟨w.heap.size, 1, none⟩ = some (.int .i64 s) ∧ w'.cell? ⟨w.heap.size, 2, none⟩ = some (.int .i64 l) ∧ w'.cell? ⟨w.heap.size, 3, none⟩ = some (.int .i64 c) ∧ w'.cell? ⟨w.heap.size, 4, none⟩ = some (.int .i64 k)) (go_keep)
    (first
    | (go_at_call 42; refine (iSmall _ _ _ _ _ h _).mono ?_; rintro e w1 ⟨rfl, hb⟩; replace B := B.draw.keep hb; replace z := z.drew.trans (hb.mono z.size); clear hb; obtain ⟨c0, c1, c2, c3, c4⟩ := B.five))
  go_wp2
  go_returns
  refine ⟨ret_i ?_, z⟩
  simp only [IntKind.wrap_i64, sF, lF]
  omega
set_option maxHeartbeats 400000 in
theorem sNotes (p s l c k : Int) (h : ok p s l c k = true) (w : World) :
    Calls Try.prog 35 #[.agg #[.int .i64 p, .int .i64 s, .int .i64 l, .int .i64 c, .int .i64 k]] w fun e w' => e = .returned (.int .i64 (nF p)) ∧ Below w.heap.size w w' := by
  have h' := ok_iff.1 h
  go_enter Try.func35, Try.ntmps35
  go_wp2
  go_returns
  refine ⟨ret_i ?_, by go_grown⟩
  unfold nF
  omega
set_option maxHeartbeats 1000000 in
theorem sRoots (p s l c k : Int) (h : ok p s l c k = true) (w : World) :
    Calls Try.prog 26 #[.agg #[.int .i64 p, .int .i64 s, .int .i64 l, .int .i64 c, .int .i64 k]] w fun e w' => e = .returned (.int .i64 (rF p)) ∧ Below w.heap.size w w' := by
  have h' := ok_iff.1 h
  have hq := sq_bd h'.1 h'.2.1
  go_enter Try.func26, Try.ntmps26
  go_wp2_with fail
  have B := Box5.new w (.int .i64 p) (.int .i64 s) (.int .i64 l) (.int .i64 c) (.int .i64 k) 26
  have z := (Below.refl w.heap.size w).alloc (Nat.le_refl _) (Obj.cells #[.int .i64 p, .int .i64 s, .int .i64 l, .int .i64 c, .int .i64 k] 26)
  go_region_held3 (fun w' => w'.cell? ⟨w.heap.size, 0, none⟩ = some (.int .i64 p) ∧ w'.cell? ⟨w.heap.size, 1, none⟩ = some (.int .i64 s) ∧ w'.cell? ⟨w.heap.size, 2, none⟩ = some (.int .i64 l) ∧ w'.cell? ⟨w.heap.size, 3, none⟩ = some (.int .i64 c) ∧ w'.cell? ⟨w.heap.size, 4, none⟩ = some (.int .i64 k)) (go_keep)
    (first
    | (go_at_call 35; refine (sNotes _ _ _ _ _ h _).mono ?_; rintro e w1 ⟨rfl, hb⟩; replace B := B.draw.keep hb; replace z := z.drew.trans (hb.mono z.size); clear hb; obtain ⟨c0, c1, c2, c3, c4⟩ := B.five))
  go_wp2
  go_returns
  refine ⟨ret_i ?_, z⟩
  simp only [IntKind.wrap_i64, nF, rF]
  omega
set_option maxHeartbeats 1000000 in
theorem sSmall (p s l c k : Int) (h : ok p s l c k = true) (w : World) :
    Calls Try.prog 24 #[.agg #[.int .i64 p, .int .i64 s, .int .i64 l, .int .i64 c, .int .i64 k]] w fun e w' => e = .returned (.int .i64 (sF p c)) ∧ Below w.heap.size w w' := by
  have h' := ok_iff.1 h
  have hq := sq_bd h'.1 h'.2.1
  go_enter Try.func24, Try.ntmps24
  go_wp2_with fail
  have B := Box5.new w (.int .i64 p) (.int .i64 s) (.int .i64 l) (.int .i64 c) (.int .i64 k) 26
  have z := (Below.refl w.heap.size w).alloc (Nat.le_refl _) (Obj.cells #[.int .i64 p, .int .i64 s, .int .i64 l, .int .i64 c, .int .i64 k] 26)
  go_region_held3 (fun w' => w'.cell? ⟨w.heap.size, 0, none⟩ = some (.int .i64 p) ∧ w'.cell? ⟨w.heap.size, 1, none⟩ = some (.int .i64 s) ∧ w'.cell? ⟨w.heap.size, 2, none⟩ = some (.int .i64 l) ∧ w'.cell? ⟨w.heap.size, 3, none⟩ = some (.int .i64 c) ∧ w'.cell? ⟨w.heap.size, 4, none⟩ = some (.int .i64 k)) (go_keep)
    (first
    | (go_at_call 26; refine (sRoots _ _ _ _ _ h _).mono ?_; rintro e w1 ⟨rfl, hb⟩; replace B := B.draw.keep hb; replace z := z.drew.trans (hb.mono z.size); clear hb; obtain ⟨c0, c1, c2, c3, c4⟩ := B.five))
  go_wp2
  go_returns
  refine ⟨ret_i ?_, z⟩
  simp only [IntKind.wrap_i64, rF, sF]
  omega
end Go.Proofs.Ytdebjfgflldpjaa
