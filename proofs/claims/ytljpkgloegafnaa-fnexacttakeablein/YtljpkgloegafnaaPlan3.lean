/-
  What the functions of the plans' chapter answer, in the program and in the model: one number each.
-/
import Derived.Test.YtljpkgloegafnaaPlan2
namespace Go.Proofs.Ytljpkgloegafnaa
open Go.RowKit
set_option linter.unusedVariables false
set_option linter.unusedSimpArgs false
def vBlocks (p s l c k : Int) : Int := if ok p s l c k = true then s + l else -1
def vSize (p s l c k : Int) : Int := if ok p s l c k = true then zF p s l c else -1
def vSlot (p s l c k i f : Int) : Int := if ok p s l c k = true ∧ (0 ≤ i ∧ i ≤ p - 1) ∧ (0 ≤ f ∧ f ≤ 6) then i * 7 + f else -1
def vNote (p s l c k i j : Int) : Int := if ok p s l c k = true ∧ (0 ≤ i ∧ i ≤ p - 1) ∧ (0 ≤ j ∧ j ≤ p - 1) then nF p + i * p + j else -1
def vRoot (p s l c k r : Int) : Int := if ok p s l c k = true ∧ (0 ≤ r ∧ r ≤ 4 + c) then rF p + r else -1
def vClass (p s l c k b : Int) : Int := if ok p s l c k = true ∧ (1 ≤ b ∧ b ≤ s + l) then (if b ≤ s then 0 else 1) else -1
def vBlock (p s l c k b f : Int) : Int := if ok p s l c k = true ∧ (1 ≤ b ∧ b ≤ s + l) ∧ 0 ≤ f then (if b ≤ s then (if f < 3 then sF p c + (b - 1) * 3 + f else -1) else (if f < 5 then lF p s c + (b - s - 1) * 5 + f else -1)) else -1
theorem inB_iff {n a b : Int} : inB n a b = true ↔ (a ≤ n ∧ n ≤ b) := by simp [inB]
theorem inB_niff {n a b : Int} : inB n a b = false ↔ ¬ (a ≤ n ∧ n ≤ b) := by simp only [inB, decide_eq_false_iff_not]
theorem nB_t {n a b : Int} : (!inB n a b) = true ↔ ¬ (a ≤ n ∧ n ≤ b) := by simp only [Bool.not_eq_true', inB_niff]
theorem nB_f {n a b : Int} : (!inB n a b) = false ↔ (a ≤ n ∧ n ≤ b) := by simp only [Bool.not_eq_false', inB_iff]
theorem mul_bd {i p : Int} (h0 : 0 ≤ i) (h1 : i ≤ p - 1) (h3 : p ≤ 64) : 0 ≤ i * p ∧ i * p ≤ 4032 ∧ i * p + p ≤ p * p := by
  have a := Int.mul_nonneg h0 (show 0 ≤ p by omega)
  have b := Int.mul_le_mul (show i ≤ 63 by omega) h3 (by omega) (by omega)
  have c := Int.mul_le_mul_of_nonneg_right h1 (show 0 ≤ p by omega)
  rw [Int.sub_mul] at c
  omega
set_option maxHeartbeats 1000000 in
theorem iBlocksY (p s l c k : Int) (h : ok p s l c k = true) (w : World) :
    Calls Try.prog 89 #[.agg #[.int .i64 p, .int .i64 s, .int .i64 l, .int .i64 c, .int .i64 k]] w fun e w' => e = .returned (.int .i64 (vBlocks p s l c k)) ∧ Below w.heap.size w w' := by
  have h' := ok_iff.1 h
  have hq := sq_bd h'.1 h'.2.1
  go_enter Try.func89, Try.ntmps89
  go_wp2_with fail
  have B := Box5.new w (.int .i64 p) (.int .i64 s) (.int .i64 l) (.int .i64 c) (.int .i64 k) 28
  have z := (Below.refl w.heap.size w).alloc (Nat.le_refl _) (Obj.cells #[.int .i64 p, .int .i64 s, .int .i64 l, .int .i64 c, .int .i64 k] 28)
  go_wp2_with (first
    | (go_at_call 64; refine (iPlanOk _ _ _ _ _ _).mono ?_; rintro e w1 ⟨rfl, hb⟩; replace B := B.keep hb; replace z := z.trans (hb.mono z.size); clear hb; rw [h]; obtain ⟨c0, c1, c2, c3, c4⟩ := B.five))
  go_returns
  refine ⟨ret_i ?_, z⟩
  unfold vBlocks; rw [if_pos h]
set_option maxHeartbeats 1000000 in
theorem iBlocksN (p s l c k : Int) (h : ok p s l c k = false) (w : World) :
    Calls Try.prog 89 #[.agg #[.int .i64 p, .int .i64 s, .int .i64 l, .int .i64 c, .int .i64 k]] w fun e w' => e = .returned (.int .i64 (vBlocks p s l c k)) ∧ Below w.heap.size w w' := by
  go_enter Try.func89, Try.ntmps89
  go_wp2_with fail
  have B := Box5.new w (.int .i64 p) (.int .i64 s) (.int .i64 l) (.int .i64 c) (.int .i64 k) 28
  have z := (Below.refl w.heap.size w).alloc (Nat.le_refl _) (Obj.cells #[.int .i64 p, .int .i64 s, .int .i64 l, .int .i64 c, .int .i64 k] 28)
  go_wp2_with (first
    | (go_at_call 64; refine (iPlanOk _ _ _ _ _ _).mono ?_; rintro e w1 ⟨rfl, hb⟩; replace B := B.keep hb; replace z := z.trans (hb.mono z.size); clear hb; rw [h]; obtain ⟨c0, c1, c2, c3, c4⟩ := B.five))
  go_returns
  refine ⟨ret_i ?_, z⟩
  unfold vBlocks
  rw [h]
  rfl
theorem iBlocks (p s l c k : Int) (w : World) :
    Calls Try.prog 89 #[.agg #[.int .i64 p, .int .i64 s, .int .i64 l, .int .i64 c, .int .i64 k]] w fun e w' => e = .returned (.int .i64 (vBlocks p s l c k)) ∧ Below w.heap.size w w' := by
  cases h : ok p s l c k
  · exact iBlocksN p s l c k h w
  · exact iBlocksY p s l c k h w
set_option maxHeartbeats 1000000 in
theorem iSizeY (p s l c k : Int) (h : ok p s l c k = true) (w : World) :
    Calls Try.prog 62 #[.agg #[.int .i64 p, .int .i64 s, .int .i64 l, .int .i64 c, .int .i64 k]] w fun e w' => e = .returned (.int .i64 (vSize p s l c k)) ∧ Below w.heap.size w w' := by
  have h' := ok_iff.1 h
  have hq := sq_bd h'.1 h'.2.1
  go_enter Try.func62, Try.ntmps62
  go_wp2_with fail
  have B := Box5.new w (.int .i64 p) (.int .i64 s) (.int .i64 l) (.int .i64 c) (.int .i64 k) 28
  have z := (Below.refl w.heap.size w).alloc (Nat.le_refl _) (Obj.cells #[.int .i64 p, .int .i64 s, .int .i64 l, .int .i64 c, .int .i64 k] 28)
  go_wp2_with (first
    | (go_at_call 64; refine (iPlanOk _ _ _ _ _ _).mono ?_; rintro e w1 ⟨rfl, hb⟩; replace B := B.keep hb; replace z := z.trans (hb.mono z.size); clear hb; rw [h]; obtain ⟨c0, c1, c2, c3, c4⟩ := B.five))
  go_region_held3 (fun w' => w'.cell? ⟨w.heap.size, 0, none⟩ = some (.int .i64 p) ∧ w'.cell? ⟨w.heap.size, 1, none⟩ = some (.int .i64 s) ∧ w'.cell? ⟨w.heap.size, 2, none⟩ = some (.int .i64 l) ∧ w'.cell? ⟨w.heap.size, 3, none⟩ = some (.int .i64 c) ∧ w'.cell? ⟨w.heap.size, 4, none⟩ = some (.int .i64 k)) (go_keep)
    (first
    | (go_at_call 88; refine (iLarge _ _ _ _ _ h _).mono ?_; rintro e w1 ⟨rfl, hb⟩; replace B := B.draw.keep hb; replace z := z.drew.trans (hb.mono z.size); clear hb; obtain ⟨c0, c1, c2, c3, c4⟩ := B.five))
  go_wp2
  go_returns
  refine ⟨ret_i ?_, z⟩
  unfold vSize; rw [if_pos h]; simp only [IntKind.wrap_i64, lF, zF]
  omega
set_option maxHeartbeats 1000000 in
theorem iSizeN (p s l c k : Int) (h : ok p s l c k = false) (w : World) :
    Calls Try.prog 62 #[.agg #[.int .i64 p, .int .i64 s, .int .i64 l, .int .i64 c, .int .i64 k]] w fun e w' => e = .returned (.int .i64 (vSize p s l c k)) ∧ Below w.heap.size w w' := by
  go_enter Try.func62, Try.ntmps62
  go_wp2_with fail
  have B := Box5.new w (.int .i64 p) (.int .i64 s) (.int .i64 l) (.int .i64 c) (.int .i64 k) 28
  have z := (Below.refl w.heap.size w).alloc (Nat.le_refl _) (Obj.cells #[.int .i64 p, .int .i64 s, .int .i64 l, .int .i64 c, .int .i64 k] 28)
  go_wp2_with (first
    | (go_at_call 64; refine (iPlanOk _ _ _ _ _ _).mono ?_; rintro e w1 ⟨rfl, hb⟩; replace B := B.keep hb; replace z := z.trans (hb.mono z.size); clear hb; rw [h]; obtain ⟨c0, c1, c2, c3, c4⟩ := B.five))
  go_returns
  refine ⟨ret_i ?_, z⟩
  unfold vSize
  rw [h]
  rfl
theorem iSize (p s l c k : Int) (w : World) :
    Calls Try.prog 62 #[.agg #[.int .i64 p, .int .i64 s, .int .i64 l, .int .i64 c, .int .i64 k]] w fun e w' => e = .returned (.int .i64 (vSize p s l c k)) ∧ Below w.heap.size w w' := by
  cases h : ok p s l c k
  · exact iSizeN p s l c k h w
  · exact iSizeY p s l c k h w
set_option maxHeartbeats 1000000 in
theorem sSizeY (p s l c k : Int) (h : ok p s l c k = true) (w : World) :
    Calls Try.prog 22 #[.agg #[.int .i64 p, .int .i64 s, .int .i64 l, .int .i64 c, .int .i64 k]] w fun e w' => e = .returned (.int .i64 (vSize p s l c k)) ∧ Below w.heap.size w w' := by
  have h' := ok_iff.1 h
  have hq := sq_bd h'.1 h'.2.1
  go_enter Try.func22, Try.ntmps22
  go_wp2_with fail
  have B := Box5.new w (.int .i64 p) (.int .i64 s) (.int .i64 l) (.int .i64 c) (.int .i64 k) 28
  have z := (Below.refl w.heap.size w).alloc (Nat.le_refl _) (Obj.cells #[.int .i64 p, .int .i64 s, .int .i64 l, .int .i64 c, .int .i64 k] 28)
  go_wp2_with (first
    | (go_at_call 21; refine (sPlanOk _ _ _ _ _ _).mono ?_; rintro e w1 ⟨rfl, hb⟩; replace B := B.keep hb; replace z := z.trans (hb.mono z.size); clear hb; rw [h]; obtain ⟨c0, c1, c2, c3, c4⟩ := B.five))
  go_region_held3 (fun w' => w'.cell? ⟨w.heap.size, 0, none⟩ = some (.int .i64 p) ∧ w'.cell? ⟨w.heap.size, 1, none⟩ = some (.int .i64 s) ∧ w'.cell? ⟨w.heap.size, 2, none⟩ = some (.int .i64 l) ∧ w'.cell? ⟨w.heap.size, 3, none⟩ = some (.int .i64 c) ∧ w'.cell? ⟨w.heap.size, 4, none⟩ = some (.int .i64 k)) (go_keep)
    (first
    | (go_at_call 37; refine (sSmall _ _ _ _ _ h _).mono ?_; rintro e w1 ⟨rfl, hb⟩; replace B := B.draw.keep hb; replace z := z.drew.trans (hb.mono z.size); clear hb; obtain ⟨c0, c1, c2, c3, c4⟩ := B.five))
  go_wp2
  go_returns
  refine ⟨ret_i ?_, z⟩
  unfold vSize; rw [if_pos h]; simp only [IntKind.wrap_i64, sF, zF]
  omega
set_option maxHeartbeats 1000000 in
theorem sSizeN (p s l c k : Int) (h : ok p s l c k = false) (w : World) :
    Calls Try.prog 22 #[.agg #[.int .i64 p, .int .i64 s, .int .i64 l, .int .i64 c, .int .i64 k]] w fun e w' => e = .returned (.int .i64 (vSize p s l c k)) ∧ Below w.heap.size w w' := by
  go_enter Try.func22, Try.ntmps22
  go_wp2_with fail
  have B := Box5.new w (.int .i64 p) (.int .i64 s) (.int .i64 l) (.int .i64 c) (.int .i64 k) 28
  have z := (Below.refl w.heap.size w).alloc (Nat.le_refl _) (Obj.cells #[.int .i64 p, .int .i64 s, .int .i64 l, .int .i64 c, .int .i64 k] 28)
  go_wp2_with (first
    | (go_at_call 21; refine (sPlanOk _ _ _ _ _ _).mono ?_; rintro e w1 ⟨rfl, hb⟩; replace B := B.keep hb; replace z := z.trans (hb.mono z.size); clear hb; rw [h]; obtain ⟨c0, c1, c2, c3, c4⟩ := B.five))
  go_returns
  refine ⟨ret_i ?_, z⟩
  unfold vSize
  rw [h]
  rfl
theorem sSize (p s l c k : Int) (w : World) :
    Calls Try.prog 22 #[.agg #[.int .i64 p, .int .i64 s, .int .i64 l, .int .i64 c, .int .i64 k]] w fun e w' => e = .returned (.int .i64 (vSize p s l c k)) ∧ Below w.heap.size w w' := by
  cases h : ok p s l c k
  · exact sSizeN p s l c k h w
  · exact sSizeY p s l c k h w
set_option maxHeartbeats 1000000 in
theorem iHas (p s l c k : Int) (i : Int) (h : ok p s l c k = true) (w : World) :
    Calls Try.prog 45 #[.agg #[.int .i64 p, .int .i64 s, .int .i64 l, .int .i64 c, .int .i64 k], .int .i64 i] w fun e w' => e = .returned (.bool (inB i 0 (p - 1))) ∧ Below w.heap.size w w' := by
  have h' := ok_iff.1 h
  have hq := sq_bd h'.1 h'.2.1
  go_enter Try.func45, Try.ntmps45
  go_wp2_with fail
  have B := Box5.new w (.int .i64 p) (.int .i64 s) (.int .i64 l) (.int .i64 c) (.int .i64 k) 28
  have z := (Below.refl w.heap.size w).alloc (Nat.le_refl _) (Obj.cells #[.int .i64 p, .int .i64 s, .int .i64 l, .int .i64 c, .int .i64 k] 28)
  go_wp2_with (first
    | (go_at_call 63; refine (iWithin _ _ _ _).mono ?_; rintro e w1 ⟨rfl, rfl⟩))
  go_returns
  exact ⟨rfl, z⟩
set_option maxHeartbeats 1000000 in
theorem sHas (p s l c k : Int) (i : Int) (h : ok p s l c k = true) (w : World) :
    Calls Try.prog 27 #[.agg #[.int .i64 p, .int .i64 s, .int .i64 l, .int .i64 c, .int .i64 k], .int .i64 i] w fun e w' => e = .returned (.bool (inB i 0 (p - 1))) ∧ Below w.heap.size w w' := by
  have h' := ok_iff.1 h
  have hq := sq_bd h'.1 h'.2.1
  go_enter Try.func27, Try.ntmps27
  go_wp2_with fail
  have B := Box5.new w (.int .i64 p) (.int .i64 s) (.int .i64 l) (.int .i64 c) (.int .i64 k) 28
  have z := (Below.refl w.heap.size w).alloc (Nat.le_refl _) (Obj.cells #[.int .i64 p, .int .i64 s, .int .i64 l, .int .i64 c, .int .i64 k] 28)
  go_wp2_with (first
    | (go_at_call 21; refine (sPlanOk _ _ _ _ _ _).mono ?_; rintro e w1 ⟨rfl, hb⟩; replace B := B.keep hb; replace z := z.trans (hb.mono z.size); clear hb; rw [h]; obtain ⟨c0, c1, c2, c3, c4⟩ := B.five)
    | (go_at_call 36; refine (sIn _ _ _ _).mono ?_; rintro e w1 ⟨rfl, rfl⟩))
  go_returns
  exact ⟨rfl, z⟩
set_option maxHeartbeats 1000000 in
theorem sHasN (p s l c k : Int) (i : Int) (h : ok p s l c k = false) (w : World) :
    Calls Try.prog 27 #[.agg #[.int .i64 p, .int .i64 s, .int .i64 l, .int .i64 c, .int .i64 k], .int .i64 i] w fun e w' => e = .returned (.bool false) ∧ Below w.heap.size w w' := by
  go_enter Try.func27, Try.ntmps27
  go_wp2_with fail
  have B := Box5.new w (.int .i64 p) (.int .i64 s) (.int .i64 l) (.int .i64 c) (.int .i64 k) 28
  have z := (Below.refl w.heap.size w).alloc (Nat.le_refl _) (Obj.cells #[.int .i64 p, .int .i64 s, .int .i64 l, .int .i64 c, .int .i64 k] 28)
  go_wp2_with (first
    | (go_at_call 21; refine (sPlanOk _ _ _ _ _ _).mono ?_; rintro e w1 ⟨rfl, hb⟩; replace B := B.keep hb; replace z := z.trans (hb.mono z.size); clear hb; rw [h]; obtain ⟨c0, c1, c2, c3, c4⟩ := B.five))
  go_returns
  exact ⟨rfl, z⟩
set_option maxHeartbeats 1000000 in
theorem sBlk (p s l c k : Int) (i : Int) (h : ok p s l c k = true) (w : World) :
    Calls Try.prog 38 #[.agg #[.int .i64 p, .int .i64 s, .int .i64 l, .int .i64 c, .int .i64 k], .int .i64 i] w fun e w' => e = .returned (.bool (inB i 1 (s + l))) ∧ Below w.heap.size w w' := by
  have h' := ok_iff.1 h
  have hq := sq_bd h'.1 h'.2.1
  go_enter Try.func38, Try.ntmps38
  go_wp2_with fail
  have B := Box5.new w (.int .i64 p) (.int .i64 s) (.int .i64 l) (.int .i64 c) (.int .i64 k) 28
  have z := (Below.refl w.heap.size w).alloc (Nat.le_refl _) (Obj.cells #[.int .i64 p, .int .i64 s, .int .i64 l, .int .i64 c, .int .i64 k] 28)
  go_wp2_with (first
    | (go_at_call 21; refine (sPlanOk _ _ _ _ _ _).mono ?_; rintro e w1 ⟨rfl, hb⟩; replace B := B.keep hb; replace z := z.trans (hb.mono z.size); clear hb; rw [h]; obtain ⟨c0, c1, c2, c3, c4⟩ := B.five)
    | (go_at_call 36; refine (sIn _ _ _ _).mono ?_; rintro e w1 ⟨rfl, rfl⟩))
  go_returns
  exact ⟨rfl, z⟩
set_option maxHeartbeats 1000000 in
theorem sBlkN (p s l c k : Int) (i : Int) (h : ok p s l c k = false) (w : World) :
    Calls Try.prog 38 #[.agg #[.int .i64 p, .int .i64 s, .int .i64 l, .int .i64 c, .int .i64 k], .int .i64 i] w fun e w' => e = .returned (.bool false) ∧ Below w.heap.size w w' := by
  go_enter Try.func38, Try.ntmps38
  go_wp2_with fail
  have B := Box5.new w (.int .i64 p) (.int .i64 s) (.int .i64 l) (.int .i64 c) (.int .i64 k) 28
  have z := (Below.refl w.heap.size w).alloc (Nat.le_refl _) (Obj.cells #[.int .i64 p, .int .i64 s, .int .i64 l, .int .i64 c, .int .i64 k] 28)
  go_wp2_with (first
    | (go_at_call 21; refine (sPlanOk _ _ _ _ _ _).mono ?_; rintro e w1 ⟨rfl, hb⟩; replace B := B.keep hb; replace z := z.trans (hb.mono z.size); clear hb; rw [h]; obtain ⟨c0, c1, c2, c3, c4⟩ := B.five))
  go_returns
  exact ⟨rfl, z⟩
set_option maxHeartbeats 1000000 in
theorem iSlotY (p s l c k : Int) (i : Int) (f : Int) (h : ok p s l c k = true) (w : World) :
    Calls Try.prog 78 #[.agg #[.int .i64 p, .int .i64 s, .int .i64 l, .int .i64 c, .int .i64 k], .int .i64 i, .int .i64 f] w fun e w' => e = .returned (.int .i64 (vSlot p s l c k i f)) ∧ Below w.heap.size w w' := by
  have h' := ok_iff.1 h
  have hq := sq_bd h'.1 h'.2.1
  go_enter Try.func78, Try.ntmps78
  go_wp2_with fail
  have B := Box5.new w (.int .i64 p) (.int .i64 s) (.int .i64 l) (.int .i64 c) (.int .i64 k) 28
  have z := (Below.refl w.heap.size w).alloc (Nat.le_refl _) (Obj.cells #[.int .i64 p, .int .i64 s, .int .i64 l, .int .i64 c, .int .i64 k] 28)
  go_wp2_with (first
    | (go_at_call 64; refine (iPlanOk _ _ _ _ _ _).mono ?_; rintro e w1 ⟨rfl, hb⟩; replace B := B.keep hb; replace z := z.trans (hb.mono z.size); clear hb; rw [h]; obtain ⟨c0, c1, c2, c3, c4⟩ := B.five)
    | (go_at_call 45; refine (iHas _ _ _ _ _ _ h _).mono ?_; rintro e w1 ⟨rfl, hb⟩; replace B := B.keep hb; replace z := z.trans (hb.mono z.size); clear hb; obtain ⟨c0, c1, c2, c3, c4⟩ := B.five)
    | (go_at_call 63; refine (iWithin _ _ _ _).mono ?_; rintro e w1 ⟨rfl, rfl⟩))
  all_goals go_returns
  all_goals refine ⟨ret_i ?_, z⟩
  all_goals clear c0 c1 c2 c3 c4 B z
  all_goals (try simp only [inB_iff, inB_niff, nB_t, nB_f, beq_iff_eq, beq_eq_false_iff_ne] at *)
  all_goals simp only [vSlot, h, true_and, wrap64]
  all_goals (repeat' split) <;> omega
set_option maxHeartbeats 1000000 in
theorem iSlotN (p s l c k : Int) (i : Int) (f : Int) (h : ok p s l c k = false) (w : World) :
    Calls Try.prog 78 #[.agg #[.int .i64 p, .int .i64 s, .int .i64 l, .int .i64 c, .int .i64 k], .int .i64 i, .int .i64 f] w fun e w' => e = .returned (.int .i64 (vSlot p s l c k i f)) ∧ Below w.heap.size w w' := by
  go_enter Try.func78, Try.ntmps78
  go_wp2_with fail
  have B := Box5.new w (.int .i64 p) (.int .i64 s) (.int .i64 l) (.int .i64 c) (.int .i64 k) 28
  have z := (Below.refl w.heap.size w).alloc (Nat.le_refl _) (Obj.cells #[.int .i64 p, .int .i64 s, .int .i64 l, .int .i64 c, .int .i64 k] 28)
  go_wp2_with (first
    | (go_at_call 64; refine (iPlanOk _ _ _ _ _ _).mono ?_; rintro e w1 ⟨rfl, hb⟩; replace B := B.keep hb; replace z := z.trans (hb.mono z.size); clear hb; rw [h]; obtain ⟨c0, c1, c2, c3, c4⟩ := B.five))
  go_returns
  refine ⟨ret_i ?_, z⟩
  unfold vSlot
  rw [h]
  rfl
theorem iSlot (p s l c k : Int) (i : Int) (f : Int) (w : World) :
    Calls Try.prog 78 #[.agg #[.int .i64 p, .int .i64 s, .int .i64 l, .int .i64 c, .int .i64 k], .int .i64 i, .int .i64 f] w fun e w' => e = .returned (.int .i64 (vSlot p s l c k i f)) ∧ Below w.heap.size w w' := by
  cases h : ok p s l c k
  · exact iSlotN p s l c k i f h w
  · exact iSlotY p s l c k i f h w
set_option maxHeartbeats 1000000 in
theorem iClassY (p s l c k : Int) (b : Int) (h : ok p s l c k = true) (w : World) :
    Calls Try.prog 98 #[.agg #[.int .i64 p, .int .i64 s, .int .i64 l, .int .i64 c, .int .i64 k], .int .i64 b] w fun e w' => e = .returned (.int .i64 (vClass p s l c k b)) ∧ Below w.heap.size w w' := by
  have h' := ok_iff.1 h
  have hq := sq_bd h'.1 h'.2.1
  go_enter Try.func98, Try.ntmps98
  go_wp2_with fail
  have B := Box5.new w (.int .i64 p) (.int .i64 s) (.int .i64 l) (.int .i64 c) (.int .i64 k) 28
  have z := (Below.refl w.heap.size w).alloc (Nat.le_refl _) (Obj.cells #[.int .i64 p, .int .i64 s, .int .i64 l, .int .i64 c, .int .i64 k] 28)
  go_wp2_with (first
    | (go_at_call 64; refine (iPlanOk _ _ _ _ _ _).mono ?_; rintro e w1 ⟨rfl, hb⟩; replace B := B.keep hb; replace z := z.trans (hb.mono z.size); clear hb; rw [h]; obtain ⟨c0, c1, c2, c3, c4⟩ := B.five)
    | (go_at_call 63; refine (iWithin _ _ _ _).mono ?_; rintro e w1 ⟨rfl, rfl⟩))
  all_goals go_returns
  all_goals refine ⟨ret_i ?_, z⟩
  all_goals clear c0 c1 c2 c3 c4 B z
  all_goals (try simp only [inB_iff, inB_niff, nB_t, nB_f, beq_iff_eq, beq_eq_false_iff_ne] at *)
  all_goals simp only [vClass, h, true_and, wrap64]
  all_goals (repeat' split) <;> omega
set_option maxHeartbeats 1000000 in
theorem iClassN (p s l c k : Int) (b : Int) (h : ok p s l c k = false) (w : World) :
    Calls Try.prog 98 #[.agg #[.int .i64 p, .int .i64 s, .int .i64 l, .int .i64 c, .int .i64 k], .int .i64 b] w fun e w' => e = .returned (.int .i64 (vClass p s l c k b)) ∧ Below w.heap.size w w' := by
  go_enter Try.func98, Try.ntmps98
  go_wp2_with fail
  have B := Box5.new w (.int .i64 p) (.int .i64 s) (.int .i64 l) (.int .i64 c) (.int .i64 k) 28
  have z := (Below.refl w.heap.size w).alloc (Nat.le_refl _) (Obj.cells #[.int .i64 p, .int .i64 s, .int .i64 l, .int .i64 c, .int .i64 k] 28)
  go_wp2_with (first
    | (go_at_call 64; refine (iPlanOk _ _ _ _ _ _).mono ?_; rintro e w1 ⟨rfl, hb⟩; replace B := B.keep hb; replace z := z.trans (hb.mono z.size); clear hb; rw [h]; obtain ⟨c0, c1, c2, c3, c4⟩ := B.five))
  go_returns
  refine ⟨ret_i ?_, z⟩
  unfold vClass
  rw [h]
  rfl
theorem iClass (p s l c k : Int) (b : Int) (w : World) :
    Calls Try.prog 98 #[.agg #[.int .i64 p, .int .i64 s, .int .i64 l, .int .i64 c, .int .i64 k], .int .i64 b] w fun e w' => e = .returned (.int .i64 (vClass p s l c k b)) ∧ Below w.heap.size w w' := by
  cases h : ok p s l c k
  · exact iClassN p s l c k b h w
  · exact iClassY p s l c k b h w
set_option maxHeartbeats 1000000 in
theorem sClassY (p s l c k : Int) (b : Int) (h : ok p s l c k = true) (w : World) :
    Calls Try.prog 26 #[.agg #[.int .i64 p, .int .i64 s, .int .i64 l, .int .i64 c, .int .i64 k], .int .i64 b] w fun e w' => e = .returned (.int .i64 (vClass p s l c k b)) ∧ Below w.heap.size w w' := by
  have h' := ok_iff.1 h
  have hq := sq_bd h'.1 h'.2.1
  go_enter Try.func26, Try.ntmps26
  go_wp2_with fail
  have B := Box5.new w (.int .i64 p) (.int .i64 s) (.int .i64 l) (.int .i64 c) (.int .i64 k) 28
  have z := (Below.refl w.heap.size w).alloc (Nat.le_refl _) (Obj.cells #[.int .i64 p, .int .i64 s, .int .i64 l, .int .i64 c, .int .i64 k] 28)
  go_wp2_with (first
    | (go_at_call 38; refine (sBlk _ _ _ _ _ _ h _).mono ?_; rintro e w1 ⟨rfl, hb⟩; replace B := B.keep hb; replace z := z.trans (hb.mono z.size); clear hb; obtain ⟨c0, c1, c2, c3, c4⟩ := B.five)
    | (go_at_call 36; refine (sIn _ _ _ _).mono ?_; rintro e w1 ⟨rfl, rfl⟩))
  all_goals go_returns
  all_goals refine ⟨ret_i ?_, z⟩
  all_goals clear c0 c1 c2 c3 c4 B z
  all_goals (try simp only [inB_iff, inB_niff, nB_t, nB_f, beq_iff_eq, beq_eq_false_iff_ne] at *)
  all_goals simp only [vClass, h, true_and, wrap64]
  all_goals (repeat' split) <;> omega
set_option maxHeartbeats 1000000 in
theorem sClassN (p s l c k : Int) (b : Int) (h : ok p s l c k = false) (w : World) :
    Calls Try.prog 26 #[.agg #[.int .i64 p, .int .i64 s, .int .i64 l, .int .i64 c, .int .i64 k], .int .i64 b] w fun e w' => e = .returned (.int .i64 (vClass p s l c k b)) ∧ Below w.heap.size w w' := by
  go_enter Try.func26, Try.ntmps26
  go_wp2_with fail
  have B := Box5.new w (.int .i64 p) (.int .i64 s) (.int .i64 l) (.int .i64 c) (.int .i64 k) 28
  have z := (Below.refl w.heap.size w).alloc (Nat.le_refl _) (Obj.cells #[.int .i64 p, .int .i64 s, .int .i64 l, .int .i64 c, .int .i64 k] 28)
  go_wp2_with (first
    | (go_at_call 38; refine (sBlkN _ _ _ _ _ _ h _).mono ?_; rintro e w1 ⟨rfl, hb⟩; replace B := B.keep hb; replace z := z.trans (hb.mono z.size); clear hb; obtain ⟨c0, c1, c2, c3, c4⟩ := B.five))
  go_returns
  refine ⟨ret_i ?_, z⟩
  unfold vClass
  rw [h]
  rfl
theorem sClass (p s l c k : Int) (b : Int) (w : World) :
    Calls Try.prog 26 #[.agg #[.int .i64 p, .int .i64 s, .int .i64 l, .int .i64 c, .int .i64 k], .int .i64 b] w fun e w' => e = .returned (.int .i64 (vClass p s l c k b)) ∧ Below w.heap.size w w' := by
  cases h : ok p s l c k
  · exact sClassN p s l c k b h w
  · exact sClassY p s l c k b h w
set_option maxHeartbeats 1000000 in
theorem iRootY (p s l c k : Int) (r : Int) (h : ok p s l c k = true) (w : World) :
    Calls Try.prog 97 #[.agg #[.int .i64 p, .int .i64 s, .int .i64 l, .int .i64 c, .int .i64 k], .int .i64 r] w fun e w' => e = .returned (.int .i64 (vRoot p s l c k r)) ∧ Below w.heap.size w w' := by
  have h' := ok_iff.1 h
  have hq := sq_bd h'.1 h'.2.1
  go_enter Try.func97, Try.ntmps97
  go_wp2_with fail
  have B := Box5.new w (.int .i64 p) (.int .i64 s) (.int .i64 l) (.int .i64 c) (.int .i64 k) 28
  have z := (Below.refl w.heap.size w).alloc (Nat.le_refl _) (Obj.cells #[.int .i64 p, .int .i64 s, .int .i64 l, .int .i64 c, .int .i64 k] 28)
  go_wp2_with (first
    | (go_at_call 64; refine (iPlanOk _ _ _ _ _ _).mono ?_; rintro e w1 ⟨rfl, hb⟩; replace B := B.keep hb; replace z := z.trans (hb.mono z.size); clear hb; rw [h]; obtain ⟨c0, c1, c2, c3, c4⟩ := B.five)
    | (go_at_call 104; refine (iRoots _ _ _ _ _ h _).mono ?_; rintro e w1 ⟨rfl, hb⟩; replace B := B.keep hb; replace z := z.trans (hb.mono z.size); clear hb; obtain ⟨c0, c1, c2, c3, c4⟩ := B.five)
    | (go_at_call 63; refine (iWithin _ _ _ _).mono ?_; rintro e w1 ⟨rfl, rfl⟩))
  all_goals go_returns
  all_goals refine ⟨ret_i ?_, z⟩
  all_goals clear c0 c1 c2 c3 c4 B z
  all_goals (try simp only [inB_iff, inB_niff, nB_t, nB_f, beq_iff_eq, beq_eq_false_iff_ne] at *)
  all_goals simp only [vRoot, rF, h, true_and, wrap64]
  all_goals (repeat' split) <;> omega
set_option maxHeartbeats 1000000 in
theorem iRootN (p s l c k : Int) (r : Int) (h : ok p s l c k = false) (w : World) :
    Calls Try.prog 97 #[.agg #[.int .i64 p, .int .i64 s, .int .i64 l, .int .i64 c, .int .i64 k], .int .i64 r] w fun e w' => e = .returned (.int .i64 (vRoot p s l c k r)) ∧ Below w.heap.size w w' := by
  go_enter Try.func97, Try.ntmps97
  go_wp2_with fail
  have B := Box5.new w (.int .i64 p) (.int .i64 s) (.int .i64 l) (.int .i64 c) (.int .i64 k) 28
  have z := (Below.refl w.heap.size w).alloc (Nat.le_refl _) (Obj.cells #[.int .i64 p, .int .i64 s, .int .i64 l, .int .i64 c, .int .i64 k] 28)
  go_wp2_with (first
    | (go_at_call 64; refine (iPlanOk _ _ _ _ _ _).mono ?_; rintro e w1 ⟨rfl, hb⟩; replace B := B.keep hb; replace z := z.trans (hb.mono z.size); clear hb; rw [h]; obtain ⟨c0, c1, c2, c3, c4⟩ := B.five))
  go_returns
  refine ⟨ret_i ?_, z⟩
  unfold vRoot
  rw [h]
  rfl
theorem iRoot (p s l c k : Int) (r : Int) (w : World) :
    Calls Try.prog 97 #[.agg #[.int .i64 p, .int .i64 s, .int .i64 l, .int .i64 c, .int .i64 k], .int .i64 r] w fun e w' => e = .returned (.int .i64 (vRoot p s l c k r)) ∧ Below w.heap.size w w' := by
  cases h : ok p s l c k
  · exact iRootN p s l c k r h w
  · exact iRootY p s l c k r h w
set_option maxHeartbeats 1000000 in
theorem sRootY (p s l c k : Int) (r : Int) (h : ok p s l c k = true) (w : World) :
    Calls Try.prog 25 #[.agg #[.int .i64 p, .int .i64 s, .int .i64 l, .int .i64 c, .int .i64 k], .int .i64 r] w fun e w' => e = .returned (.int .i64 (vRoot p s l c k r)) ∧ Below w.heap.size w w' := by
  have h' := ok_iff.1 h
  have hq := sq_bd h'.1 h'.2.1
  go_enter Try.func25, Try.ntmps25
  go_wp2_with fail
  have B := Box5.new w (.int .i64 p) (.int .i64 s) (.int .i64 l) (.int .i64 c) (.int .i64 k) 28
  have z := (Below.refl w.heap.size w).alloc (Nat.le_refl _) (Obj.cells #[.int .i64 p, .int .i64 s, .int .i64 l, .int .i64 c, .int .i64 k] 28)
  go_wp2_with (first
    | (go_at_call 21; refine (sPlanOk _ _ _ _ _ _).mono ?_; rintro e w1 ⟨rfl, hb⟩; replace B := B.keep hb; replace z := z.trans (hb.mono z.size); clear hb; rw [h]; obtain ⟨c0, c1, c2, c3, c4⟩ := B.five)
    | (go_at_call 40; refine (sRoots _ _ _ _ _ h _).mono ?_; rintro e w1 ⟨rfl, hb⟩; replace B := B.keep hb; replace z := z.trans (hb.mono z.size); clear hb; obtain ⟨c0, c1, c2, c3, c4⟩ := B.five)
    | (go_at_call 36; refine (sIn _ _ _ _).mono ?_; rintro e w1 ⟨rfl, rfl⟩))
  all_goals go_returns
  all_goals refine ⟨ret_i ?_, z⟩
  all_goals clear c0 c1 c2 c3 c4 B z
  all_goals (try simp only [inB_iff, inB_niff, nB_t, nB_f, beq_iff_eq, beq_eq_false_iff_ne] at *)
  all_goals simp only [vRoot, rF, h, true_and, wrap64]
  all_goals (repeat' split) <;> omega
set_option maxHeartbeats 1000000 in
theorem sRootN (p s l c k : Int) (r : Int) (h : ok p s l c k = false) (w : World) :
    Calls Try.prog 25 #[.agg #[.int .i64 p, .int .i64 s, .int .i64 l, .int .i64 c, .int .i64 k], .int .i64 r] w fun e w' => e = .returned (.int .i64 (vRoot p s l c k r)) ∧ Below w.heap.size w w' := by
  go_enter Try.func25, Try.ntmps25
  go_wp2_with fail
  have B := Box5.new w (.int .i64 p) (.int .i64 s) (.int .i64 l) (.int .i64 c) (.int .i64 k) 28
  have z := (Below.refl w.heap.size w).alloc (Nat.le_refl _) (Obj.cells #[.int .i64 p, .int .i64 s, .int .i64 l, .int .i64 c, .int .i64 k] 28)
  go_wp2_with (first
    | (go_at_call 21; refine (sPlanOk _ _ _ _ _ _).mono ?_; rintro e w1 ⟨rfl, hb⟩; replace B := B.keep hb; replace z := z.trans (hb.mono z.size); clear hb; rw [h]; obtain ⟨c0, c1, c2, c3, c4⟩ := B.five))
  go_returns
  refine ⟨ret_i ?_, z⟩
  unfold vRoot
  rw [h]
  rfl
theorem sRoot (p s l c k : Int) (r : Int) (w : World) :
    Calls Try.prog 25 #[.agg #[.int .i64 p, .int .i64 s, .int .i64 l, .int .i64 c, .int .i64 k], .int .i64 r] w fun e w' => e = .returned (.int .i64 (vRoot p s l c k r)) ∧ Below w.heap.size w w' := by
  cases h : ok p s l c k
  · exact sRootN p s l c k r h w
  · exact sRootY p s l c k r h w
set_option maxHeartbeats 1000000 in
theorem iNoteY (p s l c k : Int) (i : Int) (j : Int) (h : ok p s l c k = true) (hi : 0 ≤ i ∧ i ≤ p - 1) (hj : 0 ≤ j ∧ j ≤ p - 1) (w : World) :
    Calls Try.prog 93 #[.agg #[.int .i64 p, .int .i64 s, .int .i64 l, .int .i64 c, .int .i64 k], .int .i64 i, .int .i64 j] w fun e w' => e = .returned (.int .i64 (vNote p s l c k i j)) ∧ Below w.heap.size w w' := by
  have h' := ok_iff.1 h
  have hq := sq_bd h'.1 h'.2.1
  go_enter Try.func93, Try.ntmps93
  go_wp2_with fail
  have B := Box5.new w (.int .i64 p) (.int .i64 s) (.int .i64 l) (.int .i64 c) (.int .i64 k) 28
  have z := (Below.refl w.heap.size w).alloc (Nat.le_refl _) (Obj.cells #[.int .i64 p, .int .i64 s, .int .i64 l, .int .i64 c, .int .i64 k] 28)
  have hm := mul_bd hi.1 hi.2 h'.2.1
  go_wp2_with (first
    | (go_at_call 64; refine (iPlanOk _ _ _ _ _ _).mono ?_; rintro e w1 ⟨rfl, hb⟩; replace B := B.keep hb; replace z := z.trans (hb.mono z.size); clear hb; rw [h]; obtain ⟨c0, c1, c2, c3, c4⟩ := B.five)
    | (go_at_call 45; refine (iHas _ _ _ _ _ _ h _).mono ?_; rintro e w1 ⟨rfl, hb⟩; replace B := B.keep hb; replace z := z.trans (hb.mono z.size); clear hb; (first | rw [inB_iff.2 hi] | rw [inB_iff.2 hj]); obtain ⟨c0, c1, c2, c3, c4⟩ := B.five))
  go_region_held3 (fun w' => w'.cell? ⟨w.heap.size, 0, none⟩ = some (.int .i64 p) ∧ w'.cell? ⟨w.heap.size, 1, none⟩ = some (.int .i64 s) ∧ w'.cell? ⟨w.heap.size, 2, none⟩ = some (.int .i64 l) ∧ w'.cell? ⟨w.heap.size, 3, none⟩ = some (.int .i64 c) ∧ w'.cell? ⟨w.heap.size, 4, none⟩ = some (.int .i64 k)) (go_keep)
    (first
    | (go_at_call 103; refine (iNotes _ _ _ _ _ h _).mono ?_; rintro e w1 ⟨rfl, hb⟩; replace B := B.draw.keep hb; replace z := z.drew.trans (hb.mono z.size); clear hb; obtain ⟨c0, c1, c2, c3, c4⟩ := B.five))
  go_wp2
  go_returns
  refine ⟨ret_i ?_, z⟩
  unfold vNote; rw [if_pos ⟨h, hi, hj⟩]; simp only [IntKind.wrap_i64, nF]
  omega
set_option maxHeartbeats 1000000 in
theorem iNoteN1 (p s l c k : Int) (i : Int) (j : Int) (h : ok p s l c k = true) (hi : 0 ≤ i ∧ i ≤ p - 1) (hj : ¬ (0 ≤ j ∧ j ≤ p - 1)) (w : World) :
    Calls Try.prog 93 #[.agg #[.int .i64 p, .int .i64 s, .int .i64 l, .int .i64 c, .int .i64 k], .int .i64 i, .int .i64 j] w fun e w' => e = .returned (.int .i64 (vNote p s l c k i j)) ∧ Below w.heap.size w w' := by
  have h' := ok_iff.1 h
  have hq := sq_bd h'.1 h'.2.1
  go_enter Try.func93, Try.ntmps93
  go_wp2_with fail
  have B := Box5.new w (.int .i64 p) (.int .i64 s) (.int .i64 l) (.int .i64 c) (.int .i64 k) 28
  have z := (Below.refl w.heap.size w).alloc (Nat.le_refl _) (Obj.cells #[.int .i64 p, .int .i64 s, .int .i64 l, .int .i64 c, .int .i64 k] 28)
  go_wp2_with (first
    | (go_at_call 64; refine (iPlanOk _ _ _ _ _ _).mono ?_; rintro e w1 ⟨rfl, hb⟩; replace B := B.keep hb; replace z := z.trans (hb.mono z.size); clear hb; rw [h]; obtain ⟨c0, c1, c2, c3, c4⟩ := B.five)
    | (go_at_call 45; refine (iHas _ _ _ _ _ _ h _).mono ?_; rintro e w1 ⟨rfl, hb⟩; replace B := B.keep hb; replace z := z.trans (hb.mono z.size); clear hb; (first | rw [inB_iff.2 hi] | rw [inB_niff.2 hj]); obtain ⟨c0, c1, c2, c3, c4⟩ := B.five))
  go_returns
  refine ⟨ret_i ?_, z⟩
  unfold vNote
  rw [if_neg (fun x => hj x.2.2)]
set_option maxHeartbeats 1000000 in
theorem iNoteN2 (p s l c k : Int) (i : Int) (j : Int) (h : ok p s l c k = true) (hi : ¬ (0 ≤ i ∧ i ≤ p - 1)) (w : World) :
    Calls Try.prog 93 #[.agg #[.int .i64 p, .int .i64 s, .int .i64 l, .int .i64 c, .int .i64 k], .int .i64 i, .int .i64 j] w fun e w' => e = .returned (.int .i64 (vNote p s l c k i j)) ∧ Below w.heap.size w w' := by
  have h' := ok_iff.1 h
  have hq := sq_bd h'.1 h'.2.1
  go_enter Try.func93, Try.ntmps93
  go_wp2_with fail
  have B := Box5.new w (.int .i64 p) (.int .i64 s) (.int .i64 l) (.int .i64 c) (.int .i64 k) 28
  have z := (Below.refl w.heap.size w).alloc (Nat.le_refl _) (Obj.cells #[.int .i64 p, .int .i64 s, .int .i64 l, .int .i64 c, .int .i64 k] 28)
  go_wp2_with (first
    | (go_at_call 64; refine (iPlanOk _ _ _ _ _ _).mono ?_; rintro e w1 ⟨rfl, hb⟩; replace B := B.keep hb; replace z := z.trans (hb.mono z.size); clear hb; rw [h]; obtain ⟨c0, c1, c2, c3, c4⟩ := B.five)
    | (go_at_call 45; refine (iHas _ _ _ _ _ _ h _).mono ?_; rintro e w1 ⟨rfl, hb⟩; replace B := B.keep hb; replace z := z.trans (hb.mono z.size); clear hb; rw [inB_niff.2 hi]; obtain ⟨c0, c1, c2, c3, c4⟩ := B.five))
  go_returns
  refine ⟨ret_i ?_, z⟩
  unfold vNote
  rw [if_neg (fun x => hi x.2.1)]
set_option maxHeartbeats 1000000 in
theorem iNoteN (p s l c k : Int) (i : Int) (j : Int) (h : ok p s l c k = false) (w : World) :
    Calls Try.prog 93 #[.agg #[.int .i64 p, .int .i64 s, .int .i64 l, .int .i64 c, .int .i64 k], .int .i64 i, .int .i64 j] w fun e w' => e = .returned (.int .i64 (vNote p s l c k i j)) ∧ Below w.heap.size w w' := by
  go_enter Try.func93, Try.ntmps93
  go_wp2_with fail
  have B := Box5.new w (.int .i64 p) (.int .i64 s) (.int .i64 l) (.int .i64 c) (.int .i64 k) 28
  have z := (Below.refl w.heap.size w).alloc (Nat.le_refl _) (Obj.cells #[.int .i64 p, .int .i64 s, .int .i64 l, .int .i64 c, .int .i64 k] 28)
  go_wp2_with (first
    | (go_at_call 64; refine (iPlanOk _ _ _ _ _ _).mono ?_; rintro e w1 ⟨rfl, hb⟩; replace B := B.keep hb; replace z := z.trans (hb.mono z.size); clear hb; rw [h]; obtain ⟨c0, c1, c2, c3, c4⟩ := B.five))
  go_returns
  refine ⟨ret_i ?_, z⟩
  unfold vNote
  rw [h]
  rfl
theorem iNote (p s l c k i j : Int) (w : World) :
    Calls Try.prog 93 #[.agg #[.int .i64 p, .int .i64 s, .int .i64 l, .int .i64 c, .int .i64 k], .int .i64 i, .int .i64 j] w fun e w' => e = .returned (.int .i64 (vNote p s l c k i j)) ∧ Below w.heap.size w w' := by
  cases h : ok p s l c k
  · exact iNoteN p s l c k i j h w
  · by_cases hi : 0 ≤ i ∧ i ≤ p - 1
    · by_cases hj : 0 ≤ j ∧ j ≤ p - 1
      · exact iNoteY p s l c k i j h hi hj w
      · exact iNoteN1 p s l c k i j h hi hj w
    · exact iNoteN2 p s l c k i j h hi w
set_option maxHeartbeats 1000000 in
theorem sNoteY (p s l c k : Int) (i : Int) (j : Int) (h : ok p s l c k = true) (hi : 0 ≤ i ∧ i ≤ p - 1) (hj : 0 ≤ j ∧ j ≤ p - 1) (w : World) :
    Calls Try.prog 10 #[.agg #[.int .i64 p, .int .i64 s, .int .i64 l, .int .i64 c, .int .i64 k], .int .i64 i, .int .i64 j] w fun e w' => e = .returned (.int .i64 (vNote p s l c k i j)) ∧ Below w.heap.size w w' := by
  have h' := ok_iff.1 h
  have hq := sq_bd h'.1 h'.2.1
  go_enter Try.func10, Try.ntmps10
  go_wp2_with fail
  have B := Box5.new w (.int .i64 p) (.int .i64 s) (.int .i64 l) (.int .i64 c) (.int .i64 k) 28
  have z := (Below.refl w.heap.size w).alloc (Nat.le_refl _) (Obj.cells #[.int .i64 p, .int .i64 s, .int .i64 l, .int .i64 c, .int .i64 k] 28)
  have hm := mul_bd hi.1 hi.2 h'.2.1
  go_wp2_with (first
    | (go_at_call 27; refine (sHas _ _ _ _ _ _ h _).mono ?_; rintro e w1 ⟨rfl, hb⟩; replace B := B.keep hb; replace z := z.trans (hb.mono z.size); clear hb; (first | rw [inB_iff.2 hi] | rw [inB_iff.2 hj]); obtain ⟨c0, c1, c2, c3, c4⟩ := B.five))
  go_region_held3 (fun w' => w'.cell? ⟨w.heap.size, 0, none⟩ = some (.int .i64 p) ∧ w'.cell? ⟨w.heap.size, 1, none⟩ = some (.int .i64 s) ∧ w'.cell? ⟨w.heap.size, 2, none⟩ = some (.int .i64 l) ∧ w'.cell? ⟨w.heap.size, 3, none⟩ = some (.int .i64 c) ∧ w'.cell? ⟨w.heap.size, 4, none⟩ = some (.int .i64 k)) (go_keep)
    (first
    | (go_at_call 28; refine (sNotes _ _ _ _ _ h _).mono ?_; rintro e w1 ⟨rfl, hb⟩; replace B := B.draw.keep hb; replace z := z.drew.trans (hb.mono z.size); clear hb; obtain ⟨c0, c1, c2, c3, c4⟩ := B.five))
  go_wp2
  go_returns
  refine ⟨ret_i ?_, z⟩
  unfold vNote; rw [if_pos ⟨h, hi, hj⟩]; simp only [IntKind.wrap_i64, nF]
  omega
set_option maxHeartbeats 1000000 in
theorem sNoteN1 (p s l c k : Int) (i : Int) (j : Int) (h : ok p s l c k = true) (hi : 0 ≤ i ∧ i ≤ p - 1) (hj : ¬ (0 ≤ j ∧ j ≤ p - 1)) (w : World) :
    Calls Try.prog 10 #[.agg #[.int .i64 p, .int .i64 s, .int .i64 l, .int .i64 c, .int .i64 k], .int .i64 i, .int .i64 j] w fun e w' => e = .returned (.int .i64 (vNote p s l c k i j)) ∧ Below w.heap.size w w' := by
  have h' := ok_iff.1 h
  have hq := sq_bd h'.1 h'.2.1
  go_enter Try.func10, Try.ntmps10
  go_wp2_with fail
  have B := Box5.new w (.int .i64 p) (.int .i64 s) (.int .i64 l) (.int .i64 c) (.int .i64 k) 28
  have z := (Below.refl w.heap.size w).alloc (Nat.le_refl _) (Obj.cells #[.int .i64 p, .int .i64 s, .int .i64 l, .int .i64 c, .int .i64 k] 28)
  go_wp2_with (first
    | (go_at_call 27; refine (sHas _ _ _ _ _ _ h _).mono ?_; rintro e w1 ⟨rfl, hb⟩; replace B := B.keep hb; replace z := z.trans (hb.mono z.size); clear hb; (first | rw [inB_iff.2 hi] | rw [inB_niff.2 hj]); obtain ⟨c0, c1, c2, c3, c4⟩ := B.five))
  go_returns
  refine ⟨ret_i ?_, z⟩
  unfold vNote
  rw [if_neg (fun x => hj x.2.2)]
set_option maxHeartbeats 1000000 in
theorem sNoteN2 (p s l c k : Int) (i : Int) (j : Int) (h : ok p s l c k = true) (hi : ¬ (0 ≤ i ∧ i ≤ p - 1)) (w : World) :
    Calls Try.prog 10 #[.agg #[.int .i64 p, .int .i64 s, .int .i64 l, .int .i64 c, .int .i64 k], .int .i64 i, .int .i64 j] w fun e w' => e = .returned (.int .i64 (vNote p s l c k i j)) ∧ Below w.heap.size w w' := by
  have h' := ok_iff.1 h
  have hq := sq_bd h'.1 h'.2.1
  go_enter Try.func10, Try.ntmps10
  go_wp2_with fail
  have B := Box5.new w (.int .i64 p) (.int .i64 s) (.int .i64 l) (.int .i64 c) (.int .i64 k) 28
  have z := (Below.refl w.heap.size w).alloc (Nat.le_refl _) (Obj.cells #[.int .i64 p, .int .i64 s, .int .i64 l, .int .i64 c, .int .i64 k] 28)
  go_wp2_with (first
    | (go_at_call 27; refine (sHas _ _ _ _ _ _ h _).mono ?_; rintro e w1 ⟨rfl, hb⟩; replace B := B.keep hb; replace z := z.trans (hb.mono z.size); clear hb; rw [inB_niff.2 hi]; obtain ⟨c0, c1, c2, c3, c4⟩ := B.five))
  go_returns
  refine ⟨ret_i ?_, z⟩
  unfold vNote
  rw [if_neg (fun x => hi x.2.1)]
set_option maxHeartbeats 1000000 in
theorem sNoteN (p s l c k : Int) (i : Int) (j : Int) (h : ok p s l c k = false) (w : World) :
    Calls Try.prog 10 #[.agg #[.int .i64 p, .int .i64 s, .int .i64 l, .int .i64 c, .int .i64 k], .int .i64 i, .int .i64 j] w fun e w' => e = .returned (.int .i64 (vNote p s l c k i j)) ∧ Below w.heap.size w w' := by
  go_enter Try.func10, Try.ntmps10
  go_wp2_with fail
  have B := Box5.new w (.int .i64 p) (.int .i64 s) (.int .i64 l) (.int .i64 c) (.int .i64 k) 28
  have z := (Below.refl w.heap.size w).alloc (Nat.le_refl _) (Obj.cells #[.int .i64 p, .int .i64 s, .int .i64 l, .int .i64 c, .int .i64 k] 28)
  go_wp2_with (first
    | (go_at_call 27; refine (sHasN _ _ _ _ _ _ h _).mono ?_; rintro e w1 ⟨rfl, hb⟩; replace B := B.keep hb; replace z := z.trans (hb.mono z.size); clear hb; obtain ⟨c0, c1, c2, c3, c4⟩ := B.five))
  go_returns
  refine ⟨ret_i ?_, z⟩
  unfold vNote
  rw [h]
  rfl
theorem sNote (p s l c k i j : Int) (w : World) :
    Calls Try.prog 10 #[.agg #[.int .i64 p, .int .i64 s, .int .i64 l, .int .i64 c, .int .i64 k], .int .i64 i, .int .i64 j] w fun e w' => e = .returned (.int .i64 (vNote p s l c k i j)) ∧ Below w.heap.size w w' := by
  cases h : ok p s l c k
  · exact sNoteN p s l c k i j h w
  · by_cases hi : 0 ≤ i ∧ i ≤ p - 1
    · by_cases hj : 0 ≤ j ∧ j ≤ p - 1
      · exact sNoteY p s l c k i j h hi hj w
      · exact sNoteN1 p s l c k i j h hi hj w
    · exact sNoteN2 p s l c k i j h hi w
end Go.Proofs.Ytljpkgloegafnaa
