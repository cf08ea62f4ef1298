/-
  What the functions of the plans' chapter answer, in the program and in the model: one number each.
-/
import Derived.Test.YtdebjfgflldpjaaPlan2
namespace Go.Proofs.Ytdebjfgflldpjaa
open Go.RowKit
set_option linter.unusedVariables false
set_option linter.unusedSimpArgs false
def vBlocks (p s l c k : Int) : Int := if ok p s l c k = true then s + l else -1
def vSize (p s l c k : Int) : Int := if ok p s l c k = true then zF p s l c else -1
def vSlot (p s l c k i f : Int) : Int := if ok p s l c k = true ∧ (0 ≤ i ∧ i ≤ p - 1) ∧ (0 ≤ f ∧ f ≤ 6) then i * 7 + f else -1
def vNote (p s l c k i j : Int) : Int := if ok p s l c k = true ∧ (0 ≤ i ∧ i ≤ p - 1) ∧ (0 ≤ j ∧ j ≤ p - 1) then nF p + i * p + j else -1
def vRoot (p s l c k r : Int) : Int := if ok p s l c k = true ∧ (0 ≤ r ∧ r ≤ 4 + c) then rF p + r else -1
def vClass (p s l c k b : Int) : Int := if ok p s l c k = true ∧ (1 ≤ b ∧ b ≤ s + l) then (if b ≤ s then 0 else 1) else -1
def vBlock (p s l c k b f : Int) : Int := if ok p s l c k = true ∧ (1 ≤ b ∧ b ≤ s + l) ∧ 0 ≤ f then (if b ≤ s then (if f < 3 then sF p c + (b - 1) * 3 + f else -1) else (if f < 5 then lF p s c + (b - s - 1) * 5 + f else -1)) else -1
theorem inB_iff {n a b : Int} : inB n a b = true ↔ (a ≤ n ∧ n ≤ b) := by simp [inB]
theorem inB_niff {n a b : Int} : inB n a b = false ↔ ¬ (a ≤ n ∧ n ≤ b) := by simp only [inB, decide_eq_false_iff_not]
theorem nB_t {n a b : Int} : (!inB n a b) = true ↔ ¬ (a ≤ n ∧ n ≤ b) := by simp only [Bool.not_eq_true', inB_niff]
theorem nB_f {n a b : Int} : (!inB n a b) = false ↔ (a ≤ n ∧ n ≤ b) := by simp only [Bool.not_eq_false', inB_iff]
theorem mul_bd {i p : Int} (h0 : 0 ≤ i) (h1 : i ≤ p - 1) (h3 : p ≤ 64) : 0 ≤ i * p ∧ i * p ≤ 4032 ∧ i * p + p ≤ p * p := by
  have a := Int.mul_nonneg h0 (show 0 ≤ p by omega)
  have b := Int.mul_le_mul (show i ≤ 63 by omega) h3 (by omega) (by omega)
  have c := Int.mul_le_mul_of_nonneg_right h1 (show 0 ≤ p by omega)
  rw [Int.sub_mul] at c
  omega
set_option maxHeartbeats 1000000 in
theorem iBlocksY (p s l c k : Int) (h : ok p s l c k = true) (w : World) :
    Calls Try.prog 30 #[.agg #[.int .i64 p, .int .i64 s, .int .i64 l, .int .i64 c, .int .i64 k]] w fun e w' => e = .returned (.int .i64 (vBlocks p s l c k)) ∧ Below w.heap.size w w' := by
  have h' := ok_iff.1 h
  have hq := sq_bd h'.1 h'.2.1
  go_enter Try.func30, Try.ntmps30
  go_wp2_with fail
  have B := Box5.new w (.int .i64 p) (.int .i64 s) (.int .i64 l) (.int .i64 c) (.int .i64 k) 26
  have z := (Below.refl w.heap.size w).alloc (Nat.le_refl _) (Obj.cells #[.int .i64 p, .int .i64 s, .int .i64 l, .int .i64 c, .int .i64 k] 26)
  go_wp2_with (first
    | (go_at_call 37; refine (iPlanOk _ _ _ _ _ _).mono ?_; rintro e w1 ⟨rfl, hb⟩; replace B := B.keep hb; replace z := z.trans (hb.mono z.size); clear hb; rw [h]; obtain ⟨c0, c1, c2, c3, c4⟩ := B.five))
  go_returns
  refine ⟨ret_i ?_, z⟩
  unfold vBlocks; rw [if_pos h]
set_option maxHeartbeats 1000000 in
theorem iBlocksN (p s l c k : Int) (h : ok p s l c k = false) (w : World) :
    Calls Try.prog 30 #[.agg #[.int .i64 p, .int .i64 s, .int .i64 l, .int .i64 c, .int .i64 k]] w fun e w' => e = .returned (.int .i64 (vBlocks p s l c k)) ∧ Below w.heap.size w w' := by
  go_enter Try.func30, Try.ntmps30
  go_wp2_with fail
  have B := Box5.new w (.int .i64 p) (.int .i64 s) (.int .i64 l) (.int .i64 c) (.int .i64 k) 26
  have z := (Below.refl w.heap.size w).alloc (Nat.le_refl _) (Obj.cells #[.int .i64 p, .int .i64 s, .int .i64 l, .int .i64 c, .int .i64 k] 26)
  go_wp2_with (first
    | (go_at_call 37; refine (iPlanOk _ _ _ _ _ _).mono ?_; rintro e w1 ⟨rfl, hb⟩; replace B := B.keep hb; replace z := z.trans (hb.mono z.size); clear hb; rw [h]; obtain ⟨c0, c1, c2, c3, c4⟩ := B.five))
  go_returns
  refine ⟨ret_i ?_, z⟩
  unfold vBlocks
  rw [h]
  rfl
theorem iBlocks (p s l c k : Int) (w : World) :
    Calls Try.prog 30 #[.agg #[.int .i64 p, .int .i64 s, .int .i64 l, .int .i64 c, .int .i64 k]] w fun e w' => e = .returned (.int .i64 (vBlocks p s l c k)) ∧ Below w.heap.size w w' := by
  cases h : ok p s l c k
  · exact iBlocksN p s l c k h w
  · exact iBlocksY p s l c k h w
set_option maxHeartbeats 1000000 in
theorem iSizeY (p s l c k : Int) (h : ok p s l c k = true) (w : World) :
    Calls Try.prog 28 #[.agg #[.int .i64 p, .int .i64 s, .int .i64 l, .int .i64 c, .int .i64 k]] w fun e w' => e = .returned (.int .i64 (vSize p s l c k)) ∧ Below w.heap.size w w' := by
  have h' := ok_iff.1 h
  have hq := sq_bd h'.1 h'.2.1
  go_enter Try.func28, Try.ntmps28
  go_wp2_with fail
  have B := Box5.new w (.int .i64 p) (.int .i64 s) (.int .i64 l) (.int .i64 c) (.int .i64 k) 26
  have z := (Below.refl w.heap.size w).alloc (Nat.le_refl _) (Obj.cells #[.int .i64 p, .int .i64 s, .int .i64 l, .int .i64 c, .int .i64 k] 26)
  go_wp2_with (first
    | (go_at_call 37; refine (iPlanOk _ _ _ _ _ _).mono ?_; rintro e w1 ⟨rfl, hb⟩; replace B := B.keep hb; replace z := z.trans (hb.mono z.size); clear hb; rw [h]; obtain ⟨c0, c1, c2, c3, c4⟩ := B.five))
  go_region_held3 (fun w' => w'.cell? ⟨w.heap.size, 0, none⟩ = some (.int .i64 p) ∧ w'.cell? ⟨w.heap.size, 1, none⟩ = some (.int .i64 s) ∧ w'.cell? ⟨w.heap.size, 2, none⟩ = some (.int .i64 l) ∧ w'.cell? ⟨w.heap.size, 3, none⟩ = some (.int .i64 c) ∧ w'.cell? ⟨w.heap.size, 4, none⟩ = some (.int .i64 k)) (go_keep)
    (first
    | (go_at_call 38; refine (iLarge _ _ _ _ _ h _).mono ?_; rintro e w1 ⟨rfl, hb⟩; replace B := B.draw.keep hb; replace z := z.drew.trans (hb.mono z.size); clear hb; obtain ⟨c0, c1, c2, c3, c4⟩ := B.five))
  go_wp2
  go_returns
  refine ⟨ret_i ?_, z⟩
  unfold vSize; rw [if_pos h]; simp only [IntKind.wrap_i64, lF, zF]
  omega
set_option maxHeartbeats 1000000 in
theorem iSizeN (p s l c k : Int) (h : ok p s l c k = false) (w : World) :
    Calls Try.prog 28 #[.agg #[.int .i64 p, .int .i64 s, .int .i64 l, .int .i64 c, .int .i64 k]] w fun e w' => e = .returned (.int .i64 (vSize p s l c k)) ∧ Below w.heap.size w w' := by
  go_enter Try.func28, Try.ntmps28
  go_wp2_with fail
  have B := Box5.new w (.int .i64 p) (.int .i64 s) (.int .i64 l) (.int .i64 c) (.int .i64 k) 26
  have z := (Below.refl w.heap.size w).alloc (Nat.le_refl _) (Obj.cells #[.int .i64 p, .int .i64 s, .int .i64 l, .int .i64 c, .int .i64 k] 26)
  go_wp2_with (first
    | (go_at_call 37; refine (iPlanOk _ _ _ _ _ _).mono ?_; rintro e w1 ⟨rfl, hb⟩; replace B := B.keep hb; replace z := z.trans (hb.mono z.size); clear hb; rw [h]; obtain ⟨c0, c1, c2, c3, c4⟩ := B.five))
  go_returns
  refine ⟨ret_i ?_, z⟩
  unfold vSize
  rw [h]
  rfl
theorem iSize (p s l c k : Int) (w : World) :
    Calls Try.prog 28 #[.agg #[.int .i64 p, .int .i64 s, .int .i64 l, .int .i64 c, .int .i64 k]] w fun e w' => e = .returned (.int .i64 (vSize p s l c k)) ∧ Below w.heap.size w w' := by
  cases h : ok p s l c k
  · exact iSizeN p s l c k h w
  · exact iSizeY p s l c k h w
set_option maxHeartbeats 1000000 in
theorem sSizeY (p s l c k : Int) (h : ok p s l c k = true) (w : World) :
    Calls Try.prog 16 #[.agg #[.int .i64 p, .int .i64 s, .int .i64 l, .int .i64 c, .int .i64 k]] w fun e w' => e = .returned (.int .i64 (vSize p s l c k)) ∧ Below w.heap.size w w' := by
  have h' := ok_iff.1 h
  have hq := sq_bd h'.1 h'.2.1
  go_enter Try.func16, Try.ntmps16
  go_wp2_with fail
  have B := Box5.new w (.int .i64 p) (.int .i64 s) (.int .i64 l) (.int .i64 c) (.int .i64 k) 26
  have z := (Below.refl w.heap.size w).alloc (Nat.le_refl _) (Obj.cells #[.int .i64 p, .int .i64 s, .int .i64 l, .int .i64 c, .int .i64 k] 26)
  go_wp2_with (first
    | (go_at_call 15; refine (sPlanOk _ _ _ _ _ _).mono ?_; rintro e w1 ⟨rfl, hb⟩; replace B := B.keep hb; replace z := z.trans (hb.mono z.size); clear hb; rw [h]; obtain ⟨c0, c1, c2, c3, c4⟩ := B.five))
  go_region_held3 (fun w' => w'.cell? ⟨w.heap.size, 0, none⟩ = some (.int .i64 p) ∧ w'.cell? ⟨w.heap.size, 1, none⟩ = some (.int .i64 s) ∧ w'.cell? ⟨w.heap.size, 2, none⟩ = some (.int .i64 l) ∧ w'.cell? ⟨w.heap.size, 3, none⟩ = some (.int .i64 c) ∧ w'.cell? ⟨w.heap.size, 4, none⟩ = some (.int .i64 k)) (go_keep)
    (first
    | (go_at_call 24; refine (sSmall _ _ _ _ _ h _).mono ?_; rintro e w1 ⟨rfl, hb⟩; replace B := B.draw.keep hb; replace z := z.drew.trans (hb.mono z.size); clear hb; obtain ⟨c0, c1, c2, c3, c4⟩ := B.five))
  go_wp2
  go_returns
  refine ⟨ret_i ?_, z⟩
  unfold vSize; rw [if_pos h]; simp only [IntKind.wrap_i64, sF, zF]
  omega
set_option maxHeartbeats 1000000 in
theorem sSizeN (p s l c k : Int) (h : ok p s l c k = false) (w : World) :
    Calls Try.prog 16 #[.agg #[.int .i64 p, .int .i64 s, .int .i64 l, .int .i64 c, .int .i64 k]] w fun e w' => e = .returned (.int .i64 (vSize p s l c k)) ∧ Below w.heap.size w w' := by
  go_enter Try.func16, Try.ntmps16
  go_wp2_with fail
  have B := Box5.new w (.int .i64 p) (.int .i64 s) (.int .i64 l) (.int .i64 c) (.int .i64 k) 26
  have z := (Below.refl w.heap.size w).alloc (Nat.le_refl _) (Obj.cells #[.int .i64 p, .int .i64 s, .int .i64 l, .int .i64 c, .int .i64 k] 26)
  go_wp2_with (first
    | (go_at_call 15; refine (sPlanOk _ _ _ _ _ _).mono ?_; rintro e w1 ⟨rfl, hb⟩; replace B := B.keep hb; replace z := z.trans (hb.mono z.size); clear hb; rw [h]; obtain ⟨c0, c1, c2, c3, c4⟩ := B.five))
  go_returns
  refine ⟨ret_i ?_, z⟩
  unfold vSize
  rw [h]
  rfl
theorem sSize (p s l c k : Int) (w : World) :
    Calls Try.prog 16 #[.agg #[.int .i64 p, .int .i64 s, .int .i64 l, .int .i64 c, .int .i64 k]] w fun e w' => e = .returned (.int .i64 (vSize p s l c k)) ∧ Below w.heap.size w w' := by
  cases h : ok p s l c k
  · exact sSizeN p s l c k h w
  · exact sSizeY p s l c k h w
set_option maxHeartbeats 1000000 in
theorem sBlk (p s l c k : Int) (i : Int) (h : ok p s l c k = true) (w : World) :
    Calls Try.prog 19 #[.agg #[.int .i64 p, .int .i64 s, .int .i64 l, .int .i64 c, .int .i64 k], .int .i64 i] w fun e w' => e = .returned (.bool (inB i 1 (s + l))) ∧ Below w.heap.size w w' := by
  have h' := ok_iff.1 h
  have hq := sq_bd h'.1 h'.2.1
  go_enter Try.func19, Try.ntmps19
  go_wp2_with fail
  have B := Box5.new w (.int .i64 p) (.int .i64 s) (.int .i64 l) (.int .i64 c) (.int .i64 k) 26
  have z := (Below.refl w.heap.size w).alloc (Nat.le_refl _) (Obj.cells #[.int .i64 p, .int .i64 s, .int .i64 l, .int .i64 c, .int .i64 k] 26)
  go_wp2_with (first
    | (go_at_call 15; refine (sPlanOk _ _ _ _ _ _).mono ?_; rintro e w1 ⟨rfl, hb⟩; replace B := B.keep hb; replace z := z.trans (hb.mono z.size); clear hb; rw [h]; obtain ⟨c0, c1, c2, c3, c4⟩ := B.five)
    | (go_at_call 12; refine (sIn _ _ _ _).mono ?_; rintro e w1 ⟨rfl, rfl⟩))
  go_returns
  exact ⟨rfl, z⟩
set_option maxHeartbeats 1000000 in
theorem sBlkN (p s l c k : Int) (i : Int) (h : ok p s l c k = false) (w : World) :
    Calls Try.prog 19 #[.agg #[.int .i64 p, .int .i64 s, .int .i64 l, .int .i64 c, .int .i64 k], .int .i64 i] w fun e w' => e = .returned (.bool false) ∧ Below w.heap.size w w' := by
  go_enter Try.func19, Try.ntmps19
  go_wp2_with fail
  have B := Box5.new w (.int .i64 p) (.int .i64 s) (.int .i64 l) (.int .i64 c) (.int .i64 k) 26
  have z := (Below.refl w.heap.size w).alloc (Nat.le_refl _) (Obj.cells #[.int .i64 p, .int .i64 s, .int .i64 l, .int .i64 c, .int .i64 k] 26)
  go_wp2_with (first
    | (go_at_call 15; refine (sPlanOk _ _ _ _ _ _).mono ?_; rintro e w1 ⟨rfl, hb⟩; replace B := B.keep hb; replace z := z.trans (hb.mono z.size); clear hb; rw [h]; obtain ⟨c0, c1, c2, c3, c4⟩ := B.five))
  go_returns
  exact ⟨rfl, z⟩
set_option maxHeartbeats 1000000 in
theorem iClassY (p s l c k : Int) (b : Int) (h : ok p s l c k = true) (w : World) :
    Calls Try.prog 33 #[.agg #[.int .i64 p, .int .i64 s, .int .i64 l, .int .i64 c, .int .i64 k], .int .i64 b] w fun e w' => e = .returned (.int .i64 (vClass p s l c k b)) ∧ Below w.heap.size w w' := by
  have h' := ok_iff.1 h
  have hq := sq_bd h'.1 h'.2.1
  go_enter Try.func33, Try.ntmps33
  go_wp2_with fail
  have B := Box5.new w (.int .i64 p) (.int .i64 s) (.int .i64 l) (.int .i64 c) (.int .i64 k) 26
  have z := (Below.refl w.heap.size w).alloc (Nat.le_refl _) (Obj.cells #[.int .i64 p, .int .i64 s, .int .i64 l, .int .i64 c, .int .i64 k] 26)
  go_wp2_with (first
    | (go_at_call 37; refine (iPlanOk _ _ _ _ _ _).mono ?_; rintro e w1 ⟨rfl, hb⟩; replace B := B.keep hb; replace z := z.trans (hb.mono z.size); clear hb; rw [h]; obtain ⟨c0, c1, c2, c3, c4⟩ := B.five)
    | (go_at_call 40; refine (iWithin _ _ _ _).mono ?_; rintro e w1 ⟨rfl, rfl⟩))
  all_goals go_returns
  all_goals refine ⟨ret_i ?_, z⟩
  all_goals clear c0 c1 c2 c3 c4 B z
  all_goals (try simp only [inB_iff, inB_niff, nB_t, nB_f, beq_iff_eq, beq_eq_false_iff_ne] at *)
  all_goals simp only [vClass, h, true_and, wrap64]
  all_goals (repeat' split) <;> omega
set_option maxHeartbeats 1000000 in
theorem iClassN (p s l c k : Int) (b : Int) (h : ok p s l c k = false) (w : World) :
    Calls Try.prog 33 #[.agg #[.int .i64 p, .int .i64 s, .int .i64 l, .int .i64 c, .int .i64 k], .int .i64 b] w fun e w' => e = .returned (.int .i64 (vClass p s l c k b)) ∧ Below w.heap.size w w' := by
  go_enter Try.func33, Try.ntmps33
  go_wp2_with fail
  have B := Box5.new w (.int .i64 p) (.int .i64 s) (.int .i64 l) (.int .i64 c) (.int .i64 k) 26
  have z := (Below.refl w.heap.size w).alloc (Nat.le_refl _) (Obj.cells #[.int .i64 p, .int .i64 s, .int .i64 l, .int .i64 c, .int .i64 k] 26)
  go_wp2_with (first
    | (go_at_call 37; refine (iPlanOk _ _ _ _ _ _).mono ?_; rintro e w1 ⟨rfl, hb⟩; replace B := B.keep hb; replace z := z.trans (hb.mono z.size); clear hb; rw [h]; obtain ⟨c0, c1, c2, c3, c4⟩ := B.five))
  go_returns
  refine ⟨ret_i ?_, z⟩
  unfold vClass
  rw [h]
  rfl
theorem iClass (p s l c k : Int) (b : Int) (w : World) :
    Calls Try.prog 33 #[.agg #[.int .i64 p, .int .i64 s, .int .i64 l, .int .i64 c, .int .i64 k], .int .i64 b] w fun e w' => e = .returned (.int .i64 (vClass p s l c k b)) ∧ Below w.heap.size w w' := by
  cases h : ok p s l c k
  · exact iClassN p s l c k b h w
  · exact iClassY p s l c k b h w
set_option maxHeartbeats 1000000 in
theorem iRootY (p s l c k : Int) (r : Int) (h : ok p s l c k = true) (w : World) :
    Calls Try.prog 32 #[.agg #[.int .i64 p, .int .i64 s, .int .i64 l, .int .i64 c, .int .i64 k], .int .i64 r] w fun e w' => e = .returned (.int .i64 (vRoot p s l c k r)) ∧ Below w.heap.size w w' := by
  have h' := ok_iff.1 h
  have hq := sq_bd h'.1 h'.2.1
  go_enter Try.func32, Try.ntmps32
  go_wp2_with fail
  have B := Box5.new w (.int .i64 p) (.int .i64 s) (.int .i64 l) (.int .i64 c) (.int .i64 k) 26
  have z := (Below.refl w.heap.size w).alloc (Nat.le_refl _) (Obj.cells #[.int .i64 p, .int .i64 s, .int .i64 l, .int .i64 c, .int .i64 k] 26)
  go_wp2_with (first
    | (go_at_call 37; refine (iPlanOk _ _ _ _ _ _).mono ?_; rintro e w1 ⟨rfl, hb⟩; replace B := B.keep hb; replace z := z.trans (hb.mono z.size); clear hb; rw [h]; obtain ⟨c0, c1, c2, c3, c4⟩ := B.five)
    | (go_at_call 41; refine (iRoots _ _ _ _ _ h _).mono ?_; rintro e w1 ⟨rfl, hb⟩; replace B := B.keep hb; replace z := z.trans (hb.mono z.size); clear hb; obtain ⟨c0, c1, c2, c3, c4⟩ := B.five)
    | (go_at_call 40; refine (iWithin _ _ _ _).mono ?_; rintro e w1 ⟨rfl, rfl⟩))
  all_goals go_returns
  all_goals refine ⟨ret_i ?_, z⟩
  all_goals clear c0 c1 c2 c3 c4 B z
  all_goals (try simp only [inB_iff, inB_niff, nB_t, nB_f, beq_iff_eq, beq_eq_false_iff_ne] at *)
  all_goals simp only [vRoot, rF, h, true_and, wrap64]
  all_goals (repeat' split) <;> omega
set_option maxHeartbeats 1000000 in
theorem iRootN (p s l c k : Int) (r : Int) (h : ok p s l c k = false) (w : World) :
    Calls Try.prog 32 #[.agg #[.int .i64 p, .int .i64 s, .int .i64 l, .int .i64 c, .int .i64 k], .int .i64 r] w fun e w' => e = .returned (.int .i64 (vRoot p s l c k r)) ∧ Below w.heap.size w w' := by
  go_enter Try.func32, Try.ntmps32
  go_wp2_with fail
  have B := Box5.new w (.int .i64 p) (.int .i64 s) (.int .i64 l) (.int .i64 c) (.int .i64 k) 26
  have z := (Below.refl w.heap.size w).alloc (Nat.le_refl _) (Obj.cells #[.int .i64 p, .int .i64 s, .int .i64 l, .int .i64 c, .int .i64 k] 26)
  go_wp2_with (first
    | (go_at_call 37; refine (iPlanOk _ _ _ _ _ _).mono ?_; rintro e w1 ⟨rfl, hb⟩; replace B := B.keep hb; replace z := z.trans (hb.mono z.size); clear hb; rw [h]; obtain ⟨c0, c1, c2, c3, c4⟩ := B.five))
  go_returns
  refine ⟨ret_i ?_, z⟩
  unfold vRoot
  rw [h]
  rfl
theorem iRoot (p s l c k : Int) (r : Int) (w : World) :
    Calls Try.prog 32 #[.agg #[.int .i64 p, .int .i64 s, .int .i64 l, .int .i64 c, .int .i64 k], .int .i64 r] w fun e w' => e = .returned (.int .i64 (vRoot p s l c k r)) ∧ Below w.heap.size w w' := by
  cases h : ok p s l c k
  · exact iRootN p s l c k r h w
  · exact iRootY p s l c k r h w
set_option maxHeartbeats 1000000 in
theorem sRootY (p s l c k : Int) (r : Int) (h : ok p s l c k = true) (w : World) :
    Calls Try.prog 18 #[.agg #[.int .i64 p, .int .i64 s, .int .i64 l, .int .i64 c, .int .i64 k], .int .i64 r] w fun e w' => e = .returned (.int .i64 (vRoot p s l c k r)) ∧ Below w.heap.size w w' := by
  have h' := ok_iff.1 h
  have hq := sq_bd h'.1 h'.2.1
  go_enter Try.func18, Try.ntmps18
  go_wp2_with fail
  have B := Box5.new w (.int .i64 p) (.int .i64 s) (.int .i64 l) (.int .i64 c) (.int .i64 k) 26
  have z := (Below.refl w.heap.size w).alloc (Nat.le_refl _) (Obj.cells #[.int .i64 p, .int .i64 s, .int .i64 l, .int .i64 c, .int .i64 k] 26)
  go_wp2_with (first
    | (go_at_call 15; refine (sPlanOk _ _ _ _ _ _).mono ?_; rintro e w1 ⟨rfl, hb⟩; replace B := B.keep hb; replace z := z.trans (hb.mono z.size); clear hb; rw [h]; obtain ⟨c0, c1, c2, c3, c4⟩ := B.five)
    | (go_at_call 26; refine (sRoots _ _ _ _ _ h _).mono ?_; rintro e w1 ⟨rfl, hb⟩; replace B := B.keep hb; replace z := z.trans (hb.mono z.size); clear hb; obtain ⟨c0, c1, c2, c3, c4⟩ := B.five)
    | (go_at_call 12; refine (sIn _ _ _ _).mono ?_; rintro e w1 ⟨rfl, rfl⟩))
  all_goals go_returns
  all_goals refine ⟨ret_i ?_, z⟩
  all_goals clear c0 c1 c2 c3 c4 B z
  all_goals (try simp only [inB_iff, inB_niff, nB_t, nB_f, beq_iff_eq, beq_eq_false_iff_ne] at *)
  all_goals simp only [vRoot, rF, h, true_and, wrap64]
  all_goals (repeat' split) <;> omega
set_option maxHeartbeats 1000000 in
theorem sRootN (p s l c k : Int) (r : Int) (h : ok p s l c k = false) (w : World) :
    Calls Try.prog 18 #[.agg #[.int .i64 p, .int .i64 s, .int .i64 l, .int .i64 c, .int .i64 k], .int .i64 r] w fun e w' => e = .returned (.int .i64 (vRoot p s l c k r)) ∧ Below w.heap.size w w' := by
  go_enter Try.func18, Try.ntmps18
  go_wp2_with fail
  have B := Box5.new w (.int .i64 p) (.int .i64 s) (.int .i64 l) (.int .i64 c) (.int .i64 k) 26
  have z := (Below.refl w.heap.size w).alloc (Nat.le_refl _) (Obj.cells #[.int .i64 p, .int .i64 s, .int .i64 l, .int .i64 c, .int .i64 k] 26)
  go_wp2_with (first
    | (go_at_call 15; refine (sPlanOk _ _ _ _ _ _).mono ?_; rintro e w1 ⟨rfl, hb⟩; replace B := B.keep hb; replace z := z.trans (hb.mono z.size); clear hb; rw [h]; obtain ⟨c0, c1, c2, c3, c4⟩ := B.five))
  go_returns
  refine ⟨ret_i ?_, z⟩
  unfold vRoot
  rw [h]
  rfl
theorem sRoot (p s l c k : Int) (r : Int) (w : World) :
    Calls Try.prog 18 #[.agg #[.int .i64 p, .int .i64 s, .int .i64 l, .int .i64 c, .int .i64 k], .int .i64 r] w fun e w' => e = .returned (.int .i64 (vRoot p s l c k r)) ∧ Below w.heap.size w w' := by
  cases h : ok p s l c k
  · exact sRootN p s l c k r h w
  · exact sRootY p s l c k r h w
end Go.Proofs.Ytdebjfgflldpjaa
