/-
  What a call is called, and how many numbers it takes: both sides.
-/
import Derived.Test.YtooljeddnfkphaaDoorCal1
import Derived.Deep.LoopGhost
namespace Go.Proofs.YtooljeddnfkphaaDoor
open Go.RowKit
set_option linter.unusedVariables false
def nameR (code : Int) : ByteArray := ⟨(rowR code).1.toArray⟩
set_option maxHeartbeats 4000000 in
theorem iName (code : Int) (w : World) (T : Tab w) : Calls Tryd.prog 15 #[.int .i64 code] w fun e w' => e = .returned (.string (nameR code)) ∧ Below w.heap.size w w' := by
  obtain ⟨r, hr⟩ : ∃ r, Hid (rowR code = r) := ⟨_, rfl⟩
  obtain ⟨u, hu⟩ : ∃ u, Hid (inB code 1 14 = u) := ⟨_, rfl⟩
  have z : Below w.heap.size w w := Below.refl _ _
  go_enter Tryd.func15, Tryd.ntmps15
  go_upto_region 2 with (first
    | (go_at_call 25; refine (iRow _ _ T).mono ?_; rintro e w1 ⟨rfl, hb⟩; rw [hr.out, hu.out]; replace z := z.trans (hb.mono z.size); clear hb)
    | (refine newR (vs := rowV r) infoRow (rowV_one _) rfl (.tmp 3) (.tmp 8) rfl rfl rfl rfl ?_; intro w2 Z hb; replace z := z.trans (hb.mono z.size); clear hb))
  have c0 : w2.cell? ⟨w1.heap.size, 0, none⟩ = some (.string ⟨r.1.toArray⟩) := Z.cell 0
  go_wp2
  go_returns
  refine ⟨?_, z⟩
  unfold nameR
  rw [hr.out]
  rfl
set_option maxHeartbeats 4000000 in
theorem sNameN (code : Int) (hc : inB code 1 14 = false) (w : World) : Calls Tryd.prog 14 #[.int .i64 code] w fun e w' => e = .returned (.string ⟨#[]⟩) ∧ Below w.heap.size w w' := by
  go_enter Tryd.func14, Tryd.ntmps14
  go_wp2_with (go_at_call 19; refine (sIn _ _ _ _).mono ?_; rintro e w1 ⟨rfl, rfl⟩; rw [hc])
  go_returns
  exact ⟨rfl, Below.refl _ _⟩
set_option maxHeartbeats 4000000 in
theorem sName1 (w : World) : Calls Tryd.prog 14 #[.int .i64 1] w fun e w' => e = .returned (.string ⟨#[115, 116, 97, 114, 116]⟩) ∧ Below w.heap.size w w' := by
  have hc : inB 1 1 14 = true := rfl
  go_enter Tryd.func14, Tryd.ntmps14
  go_wp2_with (go_at_call 19; refine (sIn _ _ _ _).mono ?_; rintro e w1 ⟨rfl, rfl⟩; rw [hc])
  go_returns
  exact ⟨rfl, (Below.refl _ _).alloc (Nat.le_refl _) _⟩
set_option maxHeartbeats 4000000 in
theorem sName2 (w : World) : Calls Tryd.prog 14 #[.int .i64 2] w fun e w' => e = .returned (.string ⟨#[97, 108, 108, 111, 99]⟩) ∧ Below w.heap.size w w' := by
  have hc : inB 2 1 14 = true := rfl
  go_enter Tryd.func14, Tryd.ntmps14
  go_wp2_with (go_at_call 19; refine (sIn _ _ _ _).mono ?_; rintro e w1 ⟨rfl, rfl⟩; rw [hc])
  go_returns
  exact ⟨rfl, (Below.refl _ _).alloc (Nat.le_refl _) _⟩
set_option maxHeartbeats 4000000 in
theorem sName3 (w : World) : Calls Tryd.prog 14 #[.int .i64 3] w fun e w' => e = .returned (.string ⟨#[102, 114, 101, 101]⟩) ∧ Below w.heap.size w w' := by
  have hc : inB 3 1 14 = true := rfl
  go_enter Tryd.func14, Tryd.ntmps14
  go_wp2_with (go_at_call 19; refine (sIn _ _ _ _).mono ?_; rintro e w1 ⟨rfl, rfl⟩; rw [hc])
  go_returns
  exact ⟨rfl, (Below.refl _ _).alloc (Nat.le_refl _) _⟩
set_option maxHeartbeats 4000000 in
theorem sName4 (w : World) : Calls Tryd.prog 14 #[.int .i64 4] w fun e w' => e = .returned (.string ⟨#[119, 114, 105, 116, 101]⟩) ∧ Below w.heap.size w w' := by
  have hc : inB 4 1 14 = true := rfl
  go_enter Tryd.func14, Tryd.ntmps14
  go_wp2_with (go_at_call 19; refine (sIn _ _ _ _).mono ?_; rintro e w1 ⟨rfl, rfl⟩; rw [hc])
  go_returns
  exact ⟨rfl, (Below.refl _ _).alloc (Nat.le_refl _) _⟩
set_option maxHeartbeats 4000000 in
theorem sName5 (w : World) : Calls Tryd.prog 14 #[.int .i64 5] w fun e w' => e = .returned (.string ⟨#[108, 111, 97, 100]⟩) ∧ Below w.heap.size w w' := by
  have hc : inB 5 1 14 = true := rfl
  go_enter Tryd.func14, Tryd.ntmps14
  go_wp2_with (go_at_call 19; refine (sIn _ _ _ _).mono ?_; rintro e w1 ⟨rfl, rfl⟩; rw [hc])
  go_returns
  exact ⟨rfl, (Below.refl _ _).alloc (Nat.le_refl _) _⟩
set_option maxHeartbeats 4000000 in
theorem sName6 (w : World) : Calls Tryd.prog 14 #[.int .i64 6] w fun e w' => e = .returned (.string ⟨#[112, 117, 115, 104]⟩) ∧ Below w.heap.size w w' := by
  have hc : inB 6 1 14 = true := rfl
  go_enter Tryd.func14, Tryd.ntmps14
  go_wp2_with (go_at_call 19; refine (sIn _ _ _ _).mono ?_; rintro e w1 ⟨rfl, rfl⟩; rw [hc])
  go_returns
  exact ⟨rfl, (Below.refl _ _).alloc (Nat.le_refl _) _⟩
set_option maxHeartbeats 4000000 in
theorem sName7 (w : World) : Calls Tryd.prog 14 #[.int .i64 7] w fun e w' => e = .returned (.string ⟨#[112, 111, 112]⟩) ∧ Below w.heap.size w w' := by
  have hc : inB 7 1 14 = true := rfl
  go_enter Tryd.func14, Tryd.ntmps14
  go_wp2_with (go_at_call 19; refine (sIn _ _ _ _).mono ?_; rintro e w1 ⟨rfl, rfl⟩; rw [hc])
  go_returns
  exact ⟨rfl, (Below.refl _ _).alloc (Nat.le_refl _) _⟩
set_option maxHeartbeats 4000000 in
theorem sName8 (w : World) : Calls Tryd.prog 14 #[.int .i64 8] w fun e w' => e = .returned (.string ⟨#[101, 110, 113]⟩) ∧ Below w.heap.size w w' := by
  have hc : inB 8 1 14 = true := rfl
  go_enter Tryd.func14, Tryd.ntmps14
  go_wp2_with (go_at_call 19; refine (sIn _ _ _ _).mono ?_; rintro e w1 ⟨rfl, rfl⟩; rw [hc])
  go_returns
  exact ⟨rfl, (Below.refl _ _).alloc (Nat.le_refl _) _⟩
set_option maxHeartbeats 4000000 in
theorem sName9 (w : World) : Calls Tryd.prog 14 #[.int .i64 9] w fun e w' => e = .returned (.string ⟨#[100, 101, 113]⟩) ∧ Below w.heap.size w w' := by
  have hc : inB 9 1 14 = true := rfl
  go_enter Tryd.func14, Tryd.ntmps14
  go_wp2_with (go_at_call 19; refine (sIn _ _ _ _).mono ?_; rintro e w1 ⟨rfl, rfl⟩; rw [hc])
  go_returns
  exact ⟨rfl, (Below.refl _ _).alloc (Nat.le_refl _) _⟩
set_option maxHeartbeats 4000000 in
theorem sName10 (w : World) : Calls Tryd.prog 14 #[.int .i64 10] w fun e w' => e = .returned (.string ⟨#[99, 97, 115]⟩) ∧ Below w.heap.size w w' := by
  have hc : inB 10 1 14 = true := rfl
  go_enter Tryd.func14, Tryd.ntmps14
  go_wp2_with (go_at_call 19; refine (sIn _ _ _ _).mono ?_; rintro e w1 ⟨rfl, rfl⟩; rw [hc])
  go_returns
  exact ⟨rfl, (Below.refl _ _).alloc (Nat.le_refl _) _⟩
set_option maxHeartbeats 4000000 in
theorem sName11 (w : World) : Calls Tryd.prog 14 #[.int .i64 11] w fun e w' => e = .returned (.string ⟨#[115, 101, 101]⟩) ∧ Below w.heap.size w w' := by
  have hc : inB 11 1 14 = true := rfl
  go_enter Tryd.func14, Tryd.ntmps14
  go_wp2_with (go_at_call 19; refine (sIn _ _ _ _).mono ?_; rintro e w1 ⟨rfl, rfl⟩; rw [hc])
  go_returns
  exact ⟨rfl, (Below.refl _ _).alloc (Nat.le_refl _) _⟩
set_option maxHeartbeats 4000000 in
theorem sName12 (w : World) : Calls Tryd.prog 14 #[.int .i64 12] w fun e w' => e = .returned (.string ⟨#[115, 99, 97, 110]⟩) ∧ Below w.heap.size w w' := by
  have hc : inB 12 1 14 = true := rfl
  go_enter Tryd.func14, Tryd.ntmps14
  go_wp2_with (go_at_call 19; refine (sIn _ _ _ _).mono ?_; rintro e w1 ⟨rfl, rfl⟩; rw [hc])
  go_returns
  exact ⟨rfl, (Below.refl _ _).alloc (Nat.le_refl _) _⟩
set_option maxHeartbeats 4000000 in
theorem sName13 (w : World) : Calls Tryd.prog 14 #[.int .i64 13] w fun e w' => e = .returned (.string ⟨#[97, 100, 111, 112, 116]⟩) ∧ Below w.heap.size w w' := by
  have hc : inB 13 1 14 = true := rfl
  go_enter Tryd.func14, Tryd.ntmps14
  go_wp2_with (go_at_call 19; refine (sIn _ _ _ _).mono ?_; rintro e w1 ⟨rfl, rfl⟩; rw [hc])
  go_returns
  exact ⟨rfl, (Below.refl _ _).alloc (Nat.le_refl _) _⟩
set_option maxHeartbeats 4000000 in
theorem sName14 (w : World) : Calls Tryd.prog 14 #[.int .i64 14] w fun e w' => e = .returned (.string ⟨#[97, 115, 107]⟩) ∧ Below w.heap.size w w' := by
  have hc : inB 14 1 14 = true := rfl
  go_enter Tryd.func14, Tryd.ntmps14
  go_wp2_with (go_at_call 19; refine (sIn _ _ _ _).mono ?_; rintro e w1 ⟨rfl, rfl⟩; rw [hc])
  go_returns
  exact ⟨rfl, (Below.refl _ _).alloc (Nat.le_refl _) _⟩
theorem sName (code : Int) (w : World) : Calls Tryd.prog 14 #[.int .i64 code] w fun e w' => e = .returned (.string (nameR code)) ∧ Below w.heap.size w w' := by
  unfold nameR
  cases hc : inB code 1 14 with
  | false =>
    have e : rowR code = ([], 0, 0, 0) := by unfold rowR; rw [hc]; rfl
    rw [e]
    exact sNameN code hc w
  | true =>
    rcases fourteen hc with rfl | rfl | rfl | rfl | rfl | rfl | rfl | rfl | rfl | rfl | rfl | rfl | rfl | rfl
    · exact sName1 w
    · exact sName2 w
    · exact sName3 w
    · exact sName4 w
    · exact sName5 w
    · exact sName6 w
    · exact sName7 w
    · exact sName8 w
    · exact sName9 w
    · exact sName10 w
    · exact sName11 w
    · exact sName12 w
    · exact sName13 w
    · exact sName14 w
def nz (x : Int) : Int := if x = 0 then 0 else 1
def cnt (a b c i : Int) : Int := if i = 0 then 0 else if i = 1 then nz a else if i = 2 then nz a + nz b else nz a + nz b + nz c
def argsR (code : Int) : Int := if inB code 1 14 = true then cnt (rowR code).2.1 (rowR code).2.2.1 (rowR code).2.2.2 3 else -1
set_option maxHeartbeats 4000000 in
theorem iArgsN (code : Int) (hu : inB code 1 14 = false) (w : World) (T : Tab w) : Calls Tryd.prog 17 #[.int .i64 code] w fun e w' => e = .returned (.int .i64 (-1)) ∧ Below w.heap.size w w' := by
  obtain ⟨r, hr⟩ : ∃ r, Hid (rowR code = r) := ⟨_, rfl⟩
  have z : Below w.heap.size w w := Below.refl _ _
  go_enter Tryd.func17, Tryd.ntmps17
  go_wp2_with (first
    | (go_at_call 25; refine (iRow _ _ T).mono ?_; rintro e w1 ⟨rfl, hb⟩; rw [hr.out, hu]; replace z := z.trans (hb.mono z.size); clear hb)
    | (refine newR (vs := rowV r) infoRow (rowV_one _) rfl (.tmp 3) (.tmp 11) rfl rfl rfl rfl ?_; intro w2 Z hb; replace z := z.trans (hb.mono z.size); clear hb))
  go_returns
  exact ⟨rfl, z⟩
theorem ix0 (x y v : Int) (w : World) : (Instr.index 44 (.agg #[.int .i64 x, .int .i64 y, .int .i64 v]) (.int .i64 0)).run Tryd.prog w = .ok (.int .i64 x) w := by
  have hu := Tryd.underlying44
  have h1 : (sizeOf 2).run Tryd.prog w = .ok 1 w := by kernel_rfl
  simp [Instr.index, go_sem, run_underlying hu, h1, part]
theorem ix1 (x y v : Int) (w : World) : (Instr.index 44 (.agg #[.int .i64 x, .int .i64 y, .int .i64 v]) (.int .i64 1)).run Tryd.prog w = .ok (.int .i64 y) w := by
  have hu := Tryd.underlying44
  have h1 : (sizeOf 2).run Tryd.prog w = .ok 1 w := by kernel_rfl
  simp [Instr.index, go_sem, run_underlying hu, h1, part]
theorem ix2 (x y v : Int) (w : World) : (Instr.index 44 (.agg #[.int .i64 x, .int .i64 y, .int .i64 v]) (.int .i64 2)).run Tryd.prog w = .ok (.int .i64 v) w := by
  have hu := Tryd.underlying44
  have h1 : (sizeOf 2).run Tryd.prog w = .ok 1 w := by kernel_rfl
  simp [Instr.index, go_sem, run_underlying hu, h1, part]
set_option maxHeartbeats 8000000 in
theorem iArgsY (code : Int) (hu : inB code 1 14 = true) (x y v : Int) (nm : List UInt8) (hr : Hid (rowR code = (nm, x, y, v))) (w : World) (T : Tab w) : Calls Tryd.prog 17 #[.int .i64 code] w fun e w' => e = .returned (.int .i64 (cnt x y v 3)) ∧ Below w.heap.size w w' := by
  have z : Below w.heap.size w w := Below.refl _ _
  go_enter Tryd.func17, Tryd.ntmps17
  go_upto_region 6 with (first
    | (go_at_call 25; refine (iRow _ _ T).mono ?_; rintro e w1 ⟨rfl, hb⟩; rw [hr.out, hu]; replace z := z.trans (hb.mono z.size); clear hb)
    | (refine newR (vs := rowV (nm, x, y, v)) infoRow (rowV_one _) rfl (.tmp 3) (.tmp 11) rfl rfl rfl rfl ?_; intro w2 Z hb; replace z := z.trans (hb.mono z.size); clear hb; have c1 : w2.cell? ⟨w1.heap.size, 1, none⟩ = some (.int .i64 x) := Z.cell 1; have c2 : w2.cell? ⟨w1.heap.size, 2, none⟩ = some (.int .i64 y) := Z.cell 2; have c3 : w2.cell? ⟨w1.heap.size, 3, none⟩ = some (.int .i64 v) := Z.cell 3))
  go_loopg [5, 17] 3 (fun g p q wr => ∃ i : Int, 0 ≤ i ∧ i ≤ 3 ∧ (g : Int) = 3 - i ∧ p = .int .i64 (cnt x y v i) ∧ q = .int .i64 i ∧ wr = w2)
  case atStart => exact ⟨0, by omega, by omega, by omega, rfl, rfl, rfl⟩
  case round =>
    obtain ⟨i, i1, i0, hg, rfl, rfl, rfl⟩ := hrel
    have hc : i = 0 ∨ i = 1 ∨ i = 2 ∨ i = 3 := by omega
    have nb : ∀ t, 0 ≤ nz t ∧ nz t ≤ 1 := fun t => by unfold nz; split <;> omega
    have n1 := nb x
    have n2 := nb y
    have n3 := nb v
    clear nb
    have r0 := ix0 x y v
    have r1 := ix1 x y v
    have r2 := ix2 x y v
    rcases hc with rfl | rfl | rfl | rfl
    all_goals simp only [cnt, Int.reduceEq, if_true, if_false]

    · by_cases h0 : x = 0
      · subst h0
        have e0 : nz 0 = 0 := rfl
        go_wp2
        go_roundg 2
        case measure => omega
        case rel => exact ⟨1, by omega, by omega, by omega, by simp [cnt, e0], by first | rfl | go_num, rfl⟩
      · have e0 : nz x = 1 := by unfold nz; rw [if_neg h0]
        go_wp2
        go_roundg 2
        case measure => omega
        case rel => exact ⟨1, by omega, by omega, by omega, by simp [cnt, e0], by first | rfl | go_num, rfl⟩
    · by_cases h0 : y = 0
      · subst h0
        have e0 : nz 0 = 0 := rfl
        go_wp2
        go_roundg 1
        case measure => omega
        case rel => exact ⟨2, by omega, by omega, by omega, by simp [cnt, e0], by first | rfl | go_num, rfl⟩
      · have e0 : nz y = 1 := by unfold nz; rw [if_neg h0]
        go_wp2
        go_roundg 1
        case measure => omega
        case rel => exact ⟨2, by omega, by omega, by omega, by simp [cnt, e0], by first | rfl | go_num, rfl⟩
    · by_cases h0 : v = 0
      · subst h0
        have e0 : nz 0 = 0 := rfl
        go_wp2
        go_roundg 0
        case measure => omega
        case rel => exact ⟨3, by omega, by omega, by omega, by simp [cnt, e0], by first | rfl | go_num, rfl⟩
      · have e0 : nz v = 1 := by unfold nz; rw [if_neg h0]
        go_wp2
        go_roundg 0
        case measure => omega
        case rel => exact ⟨3, by omega, by omega, by omega, by simp [cnt, e0], by first | rfl | go_num, rfl⟩
    · go_wp2
      go_returns
      exact ⟨rfl, z⟩
theorem iArgs (code : Int) (w : World) (T : Tab w) : Calls Tryd.prog 17 #[.int .i64 code] w fun e w' => e = .returned (.int .i64 (argsR code)) ∧ Below w.heap.size w w' := by
  unfold argsR
  cases hu : inB code 1 14 with
  | false => exact iArgsN code hu w T
  | true => exact iArgsY code hu _ _ _ _ rfl w T
set_option maxHeartbeats 8000000 in
theorem sArgs (code : Int) (w : World) : Calls Tryd.prog 16 #[.int .i64 code] w fun e w' => e = .returned (.int .i64 (argsR code)) ∧ w' = w := by
  by_cases hc : inB code 1 14 = true
  · rcases fourteen hc with rfl | rfl | rfl | rfl | rfl | rfl | rfl | rfl | rfl | rfl | rfl | rfl | rfl | rfl
    all_goals (go_enter Tryd.func16, Tryd.ntmps16)
    all_goals go_wp2
    all_goals go_returns
    all_goals exact ⟨rfl, rfl⟩
  · have e : argsR code = -1 := by unfold argsR; rw [if_neg hc]
    rw [e]
    simp only [inB, decide_eq_true_eq] at hc
    have h1 : ¬ code = 1 := by omega
    have h2 : ¬ code = 2 := by omega
    have h3 : ¬ code = 3 := by omega
    have h4 : ¬ code = 4 := by omega
    have h5 : ¬ code = 5 := by omega
    have h6 : ¬ code = 6 := by omega
    have h7 : ¬ code = 7 := by omega
    have h8 : ¬ code = 8 := by omega
    have h9 : ¬ code = 9 := by omega
    have h10 : ¬ code = 10 := by omega
    have h11 : ¬ code = 11 := by omega
    have h12 : ¬ code = 12 := by omega
    have h13 : ¬ code = 13 := by omega
    have h14 : ¬ code = 14 := by omega
    go_enter Tryd.func16, Tryd.ntmps16
    go_wp2
    go_returns
    exact ⟨rfl, rfl⟩
end Go.Proofs.YtooljeddnfkphaaDoor
