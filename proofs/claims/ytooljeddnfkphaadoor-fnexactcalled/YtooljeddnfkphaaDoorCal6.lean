/-
  Whether a call fits: the specification's side.
-/
import Derived.Test.YtooljeddnfkphaaDoorCal5
import Derived.Test.YtooljeddnfkphaaDoorPlan5
namespace Go.Proofs.YtooljeddnfkphaaDoor
open Go.RowKit
set_option linter.unusedVariables false
def valB (s l a b : Int) : Bool := inB a 1 (s + l) && inB b 0 (wid s a - 3)
set_option maxHeartbeats 4000000 in
theorem sVal (p s l c k a b : Int) (ho : ok p s l c k = true) (w : World) : Calls Tryd.prog 21 #[.agg #[.int .i64 p, .int .i64 s, .int .i64 l, .int .i64 c, .int .i64 k], .int .i64 a, .int .i64 b] w fun e w' => e = .returned (.bool (valB s l a b)) ∧ Below w.heap.size w w' := by
  obtain ⟨v, hv⟩ : ∃ v, Hid (wid s a = v) := ⟨_, rfl⟩
  have vb : 3 ≤ v ∧ v ≤ 5 := by rw [← hv.out]; unfold wid; split <;> omega
  go_enter Tryd.func21, Tryd.ntmps21
  go_upto_region 1 with fail
  refine wp_at (fun W => At W w.heap.size #[.int .i64 p, .int .i64 s, .int .i64 l, .int .i64 c, .int .i64 k] 25 ∧ Below w.heap.size w W) ⟨At.new w _ _, (Below.refl _ _).alloc (Nat.le_refl _) _⟩ ?_
  rintro W ⟨P, z⟩
  obtain ⟨d0, d1, d2, d3, d4⟩ := P.five
  cases hb0 : inB a 1 (s + l)
  all_goals (go_wp2_with (first
    | (go_at_call 20; refine (sBlk _ _ _ _ _ _ ho _).mono ?_; rintro e w1 ⟨rfl, hb⟩; rw [hb0]; clear d0 d1 d2 d3 d4; replace P := P.keep hb; replace z := z.trans (hb.mono z.size); clear hb; obtain ⟨d0, d1, d2, d3, d4⟩ := P.five)
    | (go_at_call 32; refine (sWidth _ _ _ _ _ _ _).mono ?_; rintro e w1 ⟨rfl, hb⟩; rw [hv.out]; clear d0 d1 d2 d3 d4; replace P := P.keep hb; replace z := z.trans (hb.mono z.size); clear hb; obtain ⟨d0, d1, d2, d3, d4⟩ := P.five)
    | (go_at_call 19; refine (sIn _ _ _ _).mono ?_; rintro e w1 ⟨rfl, rfl⟩)))
  all_goals go_returns
  all_goals refine ⟨ret_b ?_, z⟩
  all_goals (unfold valB; rw [hb0, hv.out])
  all_goals first | rfl | (rw [show v - 1 - 2 = v - 3 by omega]; rfl)
theorem f0 (p s l c k slot a n : Int) : fit1 p s l c k slot a 0 n = inB n 0 0 := by simp [fit1, rLo, rHi]
theorem f1 (p s l c k slot a n : Int) : fit1 p s l c k slot a 1 n = inB n 0 1 := by simp [fit1, rLo, rHi]
theorem f2 (p s l c k slot a n : Int) : fit1 p s l c k slot a 2 n = inB n 1 (s + l) := by simp [fit1, rLo, rHi]
theorem f3 (p s l c k slot a n : Int) : fit1 p s l c k slot a 3 n = inB n 0 (lastV p s l c k a) := by simp [fit1, rLo, rHi]
theorem f4 (p s l c k slot a n : Int) : fit1 p s l c k slot a 4 n = inB n 0 65535 := by simp [fit1, rLo, rHi]
theorem f5 (p s l c k slot a n : Int) : fit1 p s l c k slot a 5 n = inB n 0 (c - 1) := by simp [fit1, rLo, rHi]
theorem f6 (p s l c k slot a n : Int) : fit1 p s l c k slot a 6 n = inB n 0 (p - 1) := by simp [fit1, rLo, rHi]
theorem f7 (p s l c k slot a n : Int) : fit1 p s l c k slot a 7 n = (inB n 0 (p - 1) && !decide (n = slot)) := by simp [fit1, rLo, rHi]
theorem f8 (p s l c k slot a n : Int) : fit1 p s l c k slot a 8 n = inB n 1 4294967295 := by simp [fit1, rLo, rHi]
theorem val_eq {p s l c k a b : Int} (ho : ok p s l c k = true) : (inB a 1 (s + l) && inB b 0 (lastV p s l c k a)) = valB s l a b := by
  unfold valB
  cases hb : inB a 1 (s + l) with
  | false => rfl
  | true =>
    have e : lastV p s l c k a = wid s a - 3 := by
      simp only [inB, decide_eq_true_eq] at hb
      have e1 : vClass p s l c k a = if a ≤ s then 0 else 1 := by unfold vClass; rw [if_pos ⟨ho, hb⟩]
      unfold lastV wid
      rw [e1]
      by_cases h : a ≤ s <;> simp [h]
    rw [e]
theorem in00 {n : Int} : inB n 0 0 = (n == 0) := by
  rw [Bool.eq_iff_iff]; simp only [inB, decide_eq_true_eq, beq_iff_eq]; omega
def ScPost (p s l c k slot code a b d : Int) (w : World) (v : Bool) : Prop := Calls Tryd.prog 7 #[.agg #[.int .i64 p, .int .i64 s, .int .i64 l, .int .i64 c, .int .i64 k], .int .i64 slot, .int .i64 code, .int .i64 a, .int .i64 b, .int .i64 d] w fun e w' => e = .returned (.bool v) ∧ Below w.heap.size w w'

set_option maxHeartbeats 4000000 in
theorem sCfN (p s l c k slot code a b d : Int) (ho : ok p s l c k = false) (w : World) : ScPost p s l c k slot code a b d w false := by
  unfold ScPost
  go_enter Tryd.func7, Tryd.ntmps7
  go_upto_region 1 with fail
  refine wp_at (fun W => At W w.heap.size #[.int .i64 p, .int .i64 s, .int .i64 l, .int .i64 c, .int .i64 k] 25 ∧ Below w.heap.size w W) ⟨At.new w _ _, (Below.refl _ _).alloc (Nat.le_refl _) _⟩ ?_
  rintro W ⟨P, z⟩
  obtain ⟨d0, d1, d2, d3, d4⟩ := P.five
  go_wp2_with (first
    | (go_at_call 18; refine (sHasN _ _ _ _ _ _ ho _).mono ?_; rintro e w1 ⟨rfl, hb⟩; clear d0 d1 d2 d3 d4; replace P := P.keep hb; replace z := z.trans (hb.mono z.size); clear hb; obtain ⟨d0, d1, d2, d3, d4⟩ := P.five))
  go_returns
  exact ⟨rfl, z⟩
set_option maxHeartbeats 4000000 in
theorem sCfS (p s l c k slot code a b d : Int) (ho : ok p s l c k = true) (hs : inB slot 0 (p - 1) = false) (w : World) : ScPost p s l c k slot code a b d w false := by
  unfold ScPost
  go_enter Tryd.func7, Tryd.ntmps7
  go_upto_region 1 with fail
  refine wp_at (fun W => At W w.heap.size #[.int .i64 p, .int .i64 s, .int .i64 l, .int .i64 c, .int .i64 k] 25 ∧ Below w.heap.size w W) ⟨At.new w _ _, (Below.refl _ _).alloc (Nat.le_refl _) _⟩ ?_
  rintro W ⟨P, z⟩
  obtain ⟨d0, d1, d2, d3, d4⟩ := P.five
  go_wp2_with (first
    | (go_at_call 18; refine (sHas _ _ _ _ _ _ ho _).mono ?_; rintro e w1 ⟨rfl, hb⟩; rw [hs]; clear d0 d1 d2 d3 d4; replace P := P.keep hb; replace z := z.trans (hb.mono z.size); clear hb; obtain ⟨d0, d1, d2, d3, d4⟩ := P.five))
  go_returns
  exact ⟨rfl, z⟩
set_option maxHeartbeats 4000000 in
theorem sCfC (p s l c k slot code a b d : Int) (ho : ok p s l c k = true) (hs : inB slot 0 (p - 1) = true) (hc : inB code 1 14 = false) (w : World) : ScPost p s l c k slot code a b d w false := by
  simp only [inB, decide_eq_false_iff_not] at hc
  have n1 : ¬ code = 1 := by omega
  have n2 : ¬ code = 2 := by omega
  have n3 : ¬ code = 3 := by omega
  have n4 : ¬ code = 4 := by omega
  have n5 : ¬ code = 5 := by omega
  have n6 : ¬ code = 6 := by omega
  have n7 : ¬ code = 7 := by omega
  have n8 : ¬ code = 8 := by omega
  have n9 : ¬ code = 9 := by omega
  have n10 : ¬ code = 10 := by omega
  have n11 : ¬ code = 11 := by omega
  have n12 : ¬ code = 12 := by omega
  have n13 : ¬ code = 13 := by omega
  have n14 : ¬ code = 14 := by omega
  clear hc
  unfold ScPost
  go_enter Tryd.func7, Tryd.ntmps7
  go_upto_region 1 with fail
  refine wp_at (fun W => At W w.heap.size #[.int .i64 p, .int .i64 s, .int .i64 l, .int .i64 c, .int .i64 k] 25 ∧ Below w.heap.size w W) ⟨At.new w _ _, (Below.refl _ _).alloc (Nat.le_refl _) _⟩ ?_
  rintro W ⟨P, z⟩
  obtain ⟨d0, d1, d2, d3, d4⟩ := P.five
  go_wp2_with (first
    | (go_at_call 18; refine (sHas _ _ _ _ _ _ ho _).mono ?_; rintro e w1 ⟨rfl, hb⟩; rw [hs]; clear d0 d1 d2 d3 d4; replace P := P.keep hb; replace z := z.trans (hb.mono z.size); clear hb; obtain ⟨d0, d1, d2, d3, d4⟩ := P.five))
  go_returns
  exact ⟨rfl, z⟩
set_option maxHeartbeats 8000000 in
theorem sCf1 (p s l c k slot a b d : Int) (ho : ok p s l c k = true) (hs : inB slot 0 (p - 1) = true) (w : World) : ScPost p s l c k slot 1 a b d w ((a == 0) && (b == 0) && (d == 0)) := by
  have h' := ok_iff.1 ho
  unfold ScPost
  go_enter Tryd.func7, Tryd.ntmps7
  go_upto_region 1 with fail
  refine wp_at (fun W => At W w.heap.size #[.int .i64 p, .int .i64 s, .int .i64 l, .int .i64 c, .int .i64 k] 25 ∧ Below w.heap.size w W) ⟨At.new w _ _, (Below.refl _ _).alloc (Nat.le_refl _) _⟩ ?_
  rintro W ⟨P, z⟩
  obtain ⟨d0, d1, d2, d3, d4⟩ := P.five
  go_wp2_with (first
    | (go_at_call 18; refine (sHas _ _ _ _ _ _ ho _).mono ?_; rintro e w1 ⟨rfl, hb⟩; (try rw [hs]); clear d0 d1 d2 d3 d4; replace P := P.keep hb; replace z := z.trans (hb.mono z.size); clear hb; obtain ⟨d0, d1, d2, d3, d4⟩ := P.five)
    | (go_at_call 19; refine (sIn _ _ _ _).mono ?_; rintro e w1 ⟨rfl, rfl⟩)
    | (go_at_call 22; refine (sInd _ _).mono ?_; rintro e w1 ⟨rfl, rfl⟩)
    | (go_at_call 20; refine (sBlk _ _ _ _ _ _ ho _).mono ?_; rintro e w1 ⟨rfl, hb⟩; clear d0 d1 d2 d3 d4; replace P := P.keep hb; replace z := z.trans (hb.mono z.size); clear hb; obtain ⟨d0, d1, d2, d3, d4⟩ := P.five)
    | (go_at_call 21; refine (sVal _ _ _ _ _ _ _ ho _).mono ?_; rintro e w1 ⟨rfl, hb⟩; clear d0 d1 d2 d3 d4; replace P := P.keep hb; replace z := z.trans (hb.mono z.size); clear hb; obtain ⟨d0, d1, d2, d3, d4⟩ := P.five))
  all_goals go_returns
  all_goals refine ⟨ret_b ?_, z⟩
  all_goals (clear d0 d1 d2 d3 d4 z P; simp_all)
theorem fe1 (p s l c k slot a b d : Int) (ho : ok p s l c k = true) : fit3 p s l c k slot 1 a b d = ((a == 0) && (b == 0) && (d == 0)) := by
  have e : rowR 1 = ([115, 116, 97, 114, 116], 0, 0, 0) := rfl
  unfold fit3
  rw [e]
  simp only [f0, in00]
  (try rfl)
set_option maxHeartbeats 8000000 in
theorem sCf2 (p s l c k slot a b d : Int) (ho : ok p s l c k = true) (hs : inB slot 0 (p - 1) = true) (w : World) : ScPost p s l c k slot 2 a b d w (inB a 0 1 && (b == 0) && (d == 0)) := by
  have h' := ok_iff.1 ho
  unfold ScPost
  go_enter Tryd.func7, Tryd.ntmps7
  go_upto_region 1 with fail
  refine wp_at (fun W => At W w.heap.size #[.int .i64 p, .int .i64 s, .int .i64 l, .int .i64 c, .int .i64 k] 25 ∧ Below w.heap.size w W) ⟨At.new w _ _, (Below.refl _ _).alloc (Nat.le_refl _) _⟩ ?_
  rintro W ⟨P, z⟩
  obtain ⟨d0, d1, d2, d3, d4⟩ := P.five
  go_wp2_with (first
    | (go_at_call 18; refine (sHas _ _ _ _ _ _ ho _).mono ?_; rintro e w1 ⟨rfl, hb⟩; (try rw [hs]); clear d0 d1 d2 d3 d4; replace P := P.keep hb; replace z := z.trans (hb.mono z.size); clear hb; obtain ⟨d0, d1, d2, d3, d4⟩ := P.five)
    | (go_at_call 19; refine (sIn _ _ _ _).mono ?_; rintro e w1 ⟨rfl, rfl⟩)
    | (go_at_call 22; refine (sInd _ _).mono ?_; rintro e w1 ⟨rfl, rfl⟩)
    | (go_at_call 20; refine (sBlk _ _ _ _ _ _ ho _).mono ?_; rintro e w1 ⟨rfl, hb⟩; clear d0 d1 d2 d3 d4; replace P := P.keep hb; replace z := z.trans (hb.mono z.size); clear hb; obtain ⟨d0, d1, d2, d3, d4⟩ := P.five)
    | (go_at_call 21; refine (sVal _ _ _ _ _ _ _ ho _).mono ?_; rintro e w1 ⟨rfl, hb⟩; clear d0 d1 d2 d3 d4; replace P := P.keep hb; replace z := z.trans (hb.mono z.size); clear hb; obtain ⟨d0, d1, d2, d3, d4⟩ := P.five))
  all_goals go_returns
  all_goals refine ⟨ret_b ?_, z⟩
  all_goals (clear d0 d1 d2 d3 d4 z P; simp_all)
theorem fe2 (p s l c k slot a b d : Int) (ho : ok p s l c k = true) : fit3 p s l c k slot 2 a b d = (inB a 0 1 && (b == 0) && (d == 0)) := by
  have e : rowR 2 = ([97, 108, 108, 111, 99], 1, 0, 0) := rfl
  unfold fit3
  rw [e]
  simp only [f0, f1, in00]
  (try rfl)
set_option maxHeartbeats 8000000 in
theorem sCf3 (p s l c k slot a b d : Int) (ho : ok p s l c k = true) (hs : inB slot 0 (p - 1) = true) (w : World) : ScPost p s l c k slot 3 a b d w (inB a 1 (s + l) && (b == 0) && (d == 0)) := by
  have h' := ok_iff.1 ho
  unfold ScPost
  go_enter Tryd.func7, Tryd.ntmps7
  go_upto_region 1 with fail
  refine wp_at (fun W => At W w.heap.size #[.int .i64 p, .int .i64 s, .int .i64 l, .int .i64 c, .int .i64 k] 25 ∧ Below w.heap.size w W) ⟨At.new w _ _, (Below.refl _ _).alloc (Nat.le_refl _) _⟩ ?_
  rintro W ⟨P, z⟩
  obtain ⟨d0, d1, d2, d3, d4⟩ := P.five
  go_wp2_with (first
    | (go_at_call 18; refine (sHas _ _ _ _ _ _ ho _).mono ?_; rintro e w1 ⟨rfl, hb⟩; (try rw [hs]); clear d0 d1 d2 d3 d4; replace P := P.keep hb; replace z := z.trans (hb.mono z.size); clear hb; obtain ⟨d0, d1, d2, d3, d4⟩ := P.five)
    | (go_at_call 19; refine (sIn _ _ _ _).mono ?_; rintro e w1 ⟨rfl, rfl⟩)
    | (go_at_call 22; refine (sInd _ _).mono ?_; rintro e w1 ⟨rfl, rfl⟩)
    | (go_at_call 20; refine (sBlk _ _ _ _ _ _ ho _).mono ?_; rintro e w1 ⟨rfl, hb⟩; clear d0 d1 d2 d3 d4; replace P := P.keep hb; replace z := z.trans (hb.mono z.size); clear hb; obtain ⟨d0, d1, d2, d3, d4⟩ := P.five)
    | (go_at_call 21; refine (sVal _ _ _ _ _ _ _ ho _).mono ?_; rintro e w1 ⟨rfl, hb⟩; clear d0 d1 d2 d3 d4; replace P := P.keep hb; replace z := z.trans (hb.mono z.size); clear hb; obtain ⟨d0, d1, d2, d3, d4⟩ := P.five))
  all_goals go_returns
  all_goals refine ⟨ret_b ?_, z⟩
  all_goals (clear d0 d1 d2 d3 d4 z P; simp_all)
theorem fe3 (p s l c k slot a b d : Int) (ho : ok p s l c k = true) : fit3 p s l c k slot 3 a b d = (inB a 1 (s + l) && (b == 0) && (d == 0)) := by
  have e : rowR 3 = ([102, 114, 101, 101], 2, 0, 0) := rfl
  unfold fit3
  rw [e]
  simp only [f0, f2, in00]
  (try rfl)
set_option maxHeartbeats 8000000 in
theorem sCf4 (p s l c k slot a b d : Int) (ho : ok p s l c k = true) (hs : inB slot 0 (p - 1) = true) (w : World) : ScPost p s l c k slot 4 a b d w (valB s l a b && inB d 0 65535) := by
  have h' := ok_iff.1 ho
  unfold ScPost
  go_enter Tryd.func7, Tryd.ntmps7
  go_upto_region 1 with fail
  refine wp_at (fun W => At W w.heap.size #[.int .i64 p, .int .i64 s, .int .i64 l, .int .i64 c, .int .i64 k] 25 ∧ Below w.heap.size w W) ⟨At.new w _ _, (Below.refl _ _).alloc (Nat.le_refl _) _⟩ ?_
  rintro W ⟨P, z⟩
  obtain ⟨d0, d1, d2, d3, d4⟩ := P.five
  go_wp2_with (first
    | (go_at_call 18; refine (sHas _ _ _ _ _ _ ho _).mono ?_; rintro e w1 ⟨rfl, hb⟩; (try rw [hs]); clear d0 d1 d2 d3 d4; replace P := P.keep hb; replace z := z.trans (hb.mono z.size); clear hb; obtain ⟨d0, d1, d2, d3, d4⟩ := P.five)
    | (go_at_call 19; refine (sIn _ _ _ _).mono ?_; rintro e w1 ⟨rfl, rfl⟩)
    | (go_at_call 22; refine (sInd _ _).mono ?_; rintro e w1 ⟨rfl, rfl⟩)
    | (go_at_call 20; refine (sBlk _ _ _ _ _ _ ho _).mono ?_; rintro e w1 ⟨rfl, hb⟩; clear d0 d1 d2 d3 d4; replace P := P.keep hb; replace z := z.trans (hb.mono z.size); clear hb; obtain ⟨d0, d1, d2, d3, d4⟩ := P.five)
    | (go_at_call 21; refine (sVal _ _ _ _ _ _ _ ho _).mono ?_; rintro e w1 ⟨rfl, hb⟩; clear d0 d1 d2 d3 d4; replace P := P.keep hb; replace z := z.trans (hb.mono z.size); clear hb; obtain ⟨d0, d1, d2, d3, d4⟩ := P.five))
  all_goals go_returns
  all_goals refine ⟨ret_b ?_, z⟩
  all_goals (clear d0 d1 d2 d3 d4 z P; simp_all)
theorem fe4 (p s l c k slot a b d : Int) (ho : ok p s l c k = true) : fit3 p s l c k slot 4 a b d = (valB s l a b && inB d 0 65535) := by
  have e : rowR 4 = ([119, 114, 105, 116, 101], 2, 3, 4) := rfl
  unfold fit3
  rw [e]
  simp only [f2, f3, f4]
  rw [val_eq ho]
set_option maxHeartbeats 8000000 in
theorem sCf5 (p s l c k slot a b d : Int) (ho : ok p s l c k = true) (hs : inB slot 0 (p - 1) = true) (w : World) : ScPost p s l c k slot 5 a b d w (valB s l a b && (d == 0)) := by
  have h' := ok_iff.1 ho
  unfold ScPost
  go_enter Tryd.func7, Tryd.ntmps7
  go_upto_region 1 with fail
  refine wp_at (fun W => At W w.heap.size #[.int .i64 p, .int .i64 s, .int .i64 l, .int .i64 c, .int .i64 k] 25 ∧ Below w.heap.size w W) ⟨At.new w _ _, (Below.refl _ _).alloc (Nat.le_refl _) _⟩ ?_
  rintro W ⟨P, z⟩
  obtain ⟨d0, d1, d2, d3, d4⟩ := P.five
  go_wp2_with (first
    | (go_at_call 18; refine (sHas _ _ _ _ _ _ ho _).mono ?_; rintro e w1 ⟨rfl, hb⟩; (try rw [hs]); clear d0 d1 d2 d3 d4; replace P := P.keep hb; replace z := z.trans (hb.mono z.size); clear hb; obtain ⟨d0, d1, d2, d3, d4⟩ := P.five)
    | (go_at_call 19; refine (sIn _ _ _ _).mono ?_; rintro e w1 ⟨rfl, rfl⟩)
    | (go_at_call 22; refine (sInd _ _).mono ?_; rintro e w1 ⟨rfl, rfl⟩)
    | (go_at_call 20; refine (sBlk _ _ _ _ _ _ ho _).mono ?_; rintro e w1 ⟨rfl, hb⟩; clear d0 d1 d2 d3 d4; replace P := P.keep hb; replace z := z.trans (hb.mono z.size); clear hb; obtain ⟨d0, d1, d2, d3, d4⟩ := P.five)
    | (go_at_call 21; refine (sVal _ _ _ _ _ _ _ ho _).mono ?_; rintro e w1 ⟨rfl, hb⟩; clear d0 d1 d2 d3 d4; replace P := P.keep hb; replace z := z.trans (hb.mono z.size); clear hb; obtain ⟨d0, d1, d2, d3, d4⟩ := P.five))
  all_goals go_returns
  all_goals refine ⟨ret_b ?_, z⟩
  all_goals (clear d0 d1 d2 d3 d4 z P; simp_all)
theorem fe5 (p s l c k slot a b d : Int) (ho : ok p s l c k = true) : fit3 p s l c k slot 5 a b d = (valB s l a b && (d == 0)) := by
  have e : rowR 5 = ([108, 111, 97, 100], 2, 3, 0) := rfl
  unfold fit3
  rw [e]
  simp only [f0, f2, f3, in00]
  rw [val_eq ho]
set_option maxHeartbeats 8000000 in
theorem sCf6 (p s l c k slot a b d : Int) (ho : ok p s l c k = true) (hs : inB slot 0 (p - 1) = true) (w : World) : ScPost p s l c k slot 6 a b d w ((a == 0) && inB b 0 65535 && (d == 0)) := by
  have h' := ok_iff.1 ho
  unfold ScPost
  go_enter Tryd.func7, Tryd.ntmps7
  go_upto_region 1 with fail
  refine wp_at (fun W => At W w.heap.size #[.int .i64 p, .int .i64 s, .int .i64 l, .int .i64 c, .int .i64 k] 25 ∧ Below w.heap.size w W) ⟨At.new w _ _, (Below.refl _ _).alloc (Nat.le_refl _) _⟩ ?_
  rintro W ⟨P, z⟩
  obtain ⟨d0, d1, d2, d3, d4⟩ := P.five
  go_wp2_with (first
    | (go_at_call 18; refine (sHas _ _ _ _ _ _ ho _).mono ?_; rintro e w1 ⟨rfl, hb⟩; (try rw [hs]); clear d0 d1 d2 d3 d4; replace P := P.keep hb; replace z := z.trans (hb.mono z.size); clear hb; obtain ⟨d0, d1, d2, d3, d4⟩ := P.five)
    | (go_at_call 19; refine (sIn _ _ _ _).mono ?_; rintro e w1 ⟨rfl, rfl⟩)
    | (go_at_call 22; refine (sInd _ _).mono ?_; rintro e w1 ⟨rfl, rfl⟩)
    | (go_at_call 20; refine (sBlk _ _ _ _ _ _ ho _).mono ?_; rintro e w1 ⟨rfl, hb⟩; clear d0 d1 d2 d3 d4; replace P := P.keep hb; replace z := z.trans (hb.mono z.size); clear hb; obtain ⟨d0, d1, d2, d3, d4⟩ := P.five)
    | (go_at_call 21; refine (sVal _ _ _ _ _ _ _ ho _).mono ?_; rintro e w1 ⟨rfl, hb⟩; clear d0 d1 d2 d3 d4; replace P := P.keep hb; replace z := z.trans (hb.mono z.size); clear hb; obtain ⟨d0, d1, d2, d3, d4⟩ := P.five))
  all_goals go_returns
  all_goals refine ⟨ret_b ?_, z⟩
  all_goals (clear d0 d1 d2 d3 d4 z P; simp_all)
theorem fe6 (p s l c k slot a b d : Int) (ho : ok p s l c k = true) : fit3 p s l c k slot 6 a b d = ((a == 0) && inB b 0 65535 && (d == 0)) := by
  have e : rowR 6 = ([112, 117, 115, 104], 0, 4, 0) := rfl
  unfold fit3
  rw [e]
  simp only [f0, f4, in00]
  (try rfl)
set_option maxHeartbeats 8000000 in
theorem sCf7 (p s l c k slot a b d : Int) (ho : ok p s l c k = true) (hs : inB slot 0 (p - 1) = true) (w : World) : ScPost p s l c k slot 7 a b d w ((a == 0) && (b == 0) && (d == 0)) := by
  have h' := ok_iff.1 ho
  unfold ScPost
  go_enter Tryd.func7, Tryd.ntmps7
  go_upto_region 1 with fail
  refine wp_at (fun W => At W w.heap.size #[.int .i64 p, .int .i64 s, .int .i64 l, .int .i64 c, .int .i64 k] 25 ∧ Below w.heap.size w W) ⟨At.new w _ _, (Below.refl _ _).alloc (Nat.le_refl _) _⟩ ?_
  rintro W ⟨P, z⟩
  obtain ⟨d0, d1, d2, d3, d4⟩ := P.five
  go_wp2_with (first
    | (go_at_call 18; refine (sHas _ _ _ _ _ _ ho _).mono ?_; rintro e w1 ⟨rfl, hb⟩; (try rw [hs]); clear d0 d1 d2 d3 d4; replace P := P.keep hb; replace z := z.trans (hb.mono z.size); clear hb; obtain ⟨d0, d1, d2, d3, d4⟩ := P.five)
    | (go_at_call 19; refine (sIn _ _ _ _).mono ?_; rintro e w1 ⟨rfl, rfl⟩)
    | (go_at_call 22; refine (sInd _ _).mono ?_; rintro e w1 ⟨rfl, rfl⟩)
    | (go_at_call 20; refine (sBlk _ _ _ _ _ _ ho _).mono ?_; rintro e w1 ⟨rfl, hb⟩; clear d0 d1 d2 d3 d4; replace P := P.keep hb; replace z := z.trans (hb.mono z.size); clear hb; obtain ⟨d0, d1, d2, d3, d4⟩ := P.five)
    | (go_at_call 21; refine (sVal _ _ _ _ _ _ _ ho _).mono ?_; rintro e w1 ⟨rfl, hb⟩; clear d0 d1 d2 d3 d4; replace P := P.keep hb; replace z := z.trans (hb.mono z.size); clear hb; obtain ⟨d0, d1, d2, d3, d4⟩ := P.five))
  all_goals go_returns
  all_goals refine ⟨ret_b ?_, z⟩
  all_goals (clear d0 d1 d2 d3 d4 z P; simp_all)
theorem fe7 (p s l c k slot a b d : Int) (ho : ok p s l c k = true) : fit3 p s l c k slot 7 a b d = ((a == 0) && (b == 0) && (d == 0)) := by
  have e : rowR 7 = ([112, 111, 112], 0, 0, 0) := rfl
  unfold fit3
  rw [e]
  simp only [f0, in00]
  (try rfl)
set_option maxHeartbeats 8000000 in
theorem sCf8 (p s l c k slot a b d : Int) (ho : ok p s l c k = true) (hs : inB slot 0 (p - 1) = true) (w : World) : ScPost p s l c k slot 8 a b d w ((a == 0) && inB b 0 65535 && (d == 0)) := by
  have h' := ok_iff.1 ho
  unfold ScPost
  go_enter Tryd.func7, Tryd.ntmps7
  go_upto_region 1 with fail
  refine wp_at (fun W => At W w.heap.size #[.int .i64 p, .int .i64 s, .int .i64 l, .int .i64 c, .int .i64 k] 25 ∧ Below w.heap.size w W) ⟨At.new w _ _, (Below.refl _ _).alloc (Nat.le_refl _) _⟩ ?_
  rintro W ⟨P, z⟩
  obtain ⟨d0, d1, d2, d3, d4⟩ := P.five
  go_wp2_with (first
    | (go_at_call 18; refine (sHas _ _ _ _ _ _ ho _).mono ?_; rintro e w1 ⟨rfl, hb⟩; (try rw [hs]); clear d0 d1 d2 d3 d4; replace P := P.keep hb; replace z := z.trans (hb.mono z.size); clear hb; obtain ⟨d0, d1, d2, d3, d4⟩ := P.five)
    | (go_at_call 19; refine (sIn _ _ _ _).mono ?_; rintro e w1 ⟨rfl, rfl⟩)
    | (go_at_call 22; refine (sInd _ _).mono ?_; rintro e w1 ⟨rfl, rfl⟩)
    | (go_at_call 20; refine (sBlk _ _ _ _ _ _ ho _).mono ?_; rintro e w1 ⟨rfl, hb⟩; clear d0 d1 d2 d3 d4; replace P := P.keep hb; replace z := z.trans (hb.mono z.size); clear hb; obtain ⟨d0, d1, d2, d3, d4⟩ := P.five)
    | (go_at_call 21; refine (sVal _ _ _ _ _ _ _ ho _).mono ?_; rintro e w1 ⟨rfl, hb⟩; clear d0 d1 d2 d3 d4; replace P := P.keep hb; replace z := z.trans (hb.mono z.size); clear hb; obtain ⟨d0, d1, d2, d3, d4⟩ := P.five))
  all_goals go_returns
  all_goals refine ⟨ret_b ?_, z⟩
  all_goals (clear d0 d1 d2 d3 d4 z P; simp_all)
theorem fe8 (p s l c k slot a b d : Int) (ho : ok p s l c k = true) : fit3 p s l c k slot 8 a b d = ((a == 0) && inB b 0 65535 && (d == 0)) := by
  have e : rowR 8 = ([101, 110, 113], 0, 4, 0) := rfl
  unfold fit3
  rw [e]
  simp only [f0, f4, in00]
  (try rfl)
set_option maxHeartbeats 8000000 in
theorem sCf9 (p s l c k slot a b d : Int) (ho : ok p s l c k = true) (hs : inB slot 0 (p - 1) = true) (w : World) : ScPost p s l c k slot 9 a b d w ((a == 0) && (b == 0) && (d == 0)) := by
  have h' := ok_iff.1 ho
  unfold ScPost
  go_enter Tryd.func7, Tryd.ntmps7
  go_upto_region 1 with fail
  refine wp_at (fun W => At W w.heap.size #[.int .i64 p, .int .i64 s, .int .i64 l, .int .i64 c, .int .i64 k] 25 ∧ Below w.heap.size w W) ⟨At.new w _ _, (Below.refl _ _).alloc (Nat.le_refl _) _⟩ ?_
  rintro W ⟨P, z⟩
  obtain ⟨d0, d1, d2, d3, d4⟩ := P.five
  go_wp2_with (first
    | (go_at_call 18; refine (sHas _ _ _ _ _ _ ho _).mono ?_; rintro e w1 ⟨rfl, hb⟩; (try rw [hs]); clear d0 d1 d2 d3 d4; replace P := P.keep hb; replace z := z.trans (hb.mono z.size); clear hb; obtain ⟨d0, d1, d2, d3, d4⟩ := P.five)
    | (go_at_call 19; refine (sIn _ _ _ _).mono ?_; rintro e w1 ⟨rfl, rfl⟩)
    | (go_at_call 22; refine (sInd _ _).mono ?_; rintro e w1 ⟨rfl, rfl⟩)
    | (go_at_call 20; refine (sBlk _ _ _ _ _ _ ho _).mono ?_; rintro e w1 ⟨rfl, hb⟩; clear d0 d1 d2 d3 d4; replace P := P.keep hb; replace z := z.trans (hb.mono z.size); clear hb; obtain ⟨d0, d1, d2, d3, d4⟩ := P.five)
    | (go_at_call 21; refine (sVal _ _ _ _ _ _ _ ho _).mono ?_; rintro e w1 ⟨rfl, hb⟩; clear d0 d1 d2 d3 d4; replace P := P.keep hb; replace z := z.trans (hb.mono z.size); clear hb; obtain ⟨d0, d1, d2, d3, d4⟩ := P.five))
  all_goals go_returns
  all_goals refine ⟨ret_b ?_, z⟩
  all_goals (clear d0 d1 d2 d3 d4 z P; simp_all)
theorem fe9 (p s l c k slot a b d : Int) (ho : ok p s l c k = true) : fit3 p s l c k slot 9 a b d = ((a == 0) && (b == 0) && (d == 0)) := by
  have e : rowR 9 = ([100, 101, 113], 0, 0, 0) := rfl
  unfold fit3
  rw [e]
  simp only [f0, in00]
  (try rfl)
set_option maxHeartbeats 8000000 in
theorem sCf10 (p s l c k slot a b d : Int) (ho : ok p s l c k = true) (hs : inB slot 0 (p - 1) = true) (w : World) : ScPost p s l c k slot 10 a b d w (inB a 0 (c - 1) && inB b 0 65535 && inB d 0 65535) := by
  have h' := ok_iff.1 ho
  unfold ScPost
  go_enter Tryd.func7, Tryd.ntmps7
  go_upto_region 1 with fail
  refine wp_at (fun W => At W w.heap.size #[.int .i64 p, .int .i64 s, .int .i64 l, .int .i64 c, .int .i64 k] 25 ∧ Below w.heap.size w W) ⟨At.new w _ _, (Below.refl _ _).alloc (Nat.le_refl _) _⟩ ?_
  rintro W ⟨P, z⟩
  obtain ⟨d0, d1, d2, d3, d4⟩ := P.five
  go_wp2_with (first
    | (go_at_call 18; refine (sHas _ _ _ _ _ _ ho _).mono ?_; rintro e w1 ⟨rfl, hb⟩; (try rw [hs]); clear d0 d1 d2 d3 d4; replace P := P.keep hb; replace z := z.trans (hb.mono z.size); clear hb; obtain ⟨d0, d1, d2, d3, d4⟩ := P.five)
    | (go_at_call 19; refine (sIn _ _ _ _).mono ?_; rintro e w1 ⟨rfl, rfl⟩)
    | (go_at_call 22; refine (sInd _ _).mono ?_; rintro e w1 ⟨rfl, rfl⟩)
    | (go_at_call 20; refine (sBlk _ _ _ _ _ _ ho _).mono ?_; rintro e w1 ⟨rfl, hb⟩; clear d0 d1 d2 d3 d4; replace P := P.keep hb; replace z := z.trans (hb.mono z.size); clear hb; obtain ⟨d0, d1, d2, d3, d4⟩ := P.five)
    | (go_at_call 21; refine (sVal _ _ _ _ _ _ _ ho _).mono ?_; rintro e w1 ⟨rfl, hb⟩; clear d0 d1 d2 d3 d4; replace P := P.keep hb; replace z := z.trans (hb.mono z.size); clear hb; obtain ⟨d0, d1, d2, d3, d4⟩ := P.five))
  all_goals go_returns
  all_goals refine ⟨ret_b ?_, z⟩
  all_goals (clear d0 d1 d2 d3 d4 z P; simp_all)
theorem fe10 (p s l c k slot a b d : Int) (ho : ok p s l c k = true) : fit3 p s l c k slot 10 a b d = (inB a 0 (c - 1) && inB b 0 65535 && inB d 0 65535) := by
  have e : rowR 10 = ([99, 97, 115], 5, 4, 4) := rfl
  unfold fit3
  rw [e]
  simp only [f4, f5]
  (try rfl)
set_option maxHeartbeats 8000000 in
theorem sCf11 (p s l c k slot a b d : Int) (ho : ok p s l c k = true) (hs : inB slot 0 (p - 1) = true) (w : World) : ScPost p s l c k slot 11 a b d w (inB a 0 (c - 1) && (b == 0) && (d == 0)) := by
  have h' := ok_iff.1 ho
  unfold ScPost
  go_enter Tryd.func7, Tryd.ntmps7
  go_upto_region 1 with fail
  refine wp_at (fun W => At W w.heap.size #[.int .i64 p, .int .i64 s, .int .i64 l, .int .i64 c, .int .i64 k] 25 ∧ Below w.heap.size w W) ⟨At.new w _ _, (Below.refl _ _).alloc (Nat.le_refl _) _⟩ ?_
  rintro W ⟨P, z⟩
  obtain ⟨d0, d1, d2, d3, d4⟩ := P.five
  go_wp2_with (first
    | (go_at_call 18; refine (sHas _ _ _ _ _ _ ho _).mono ?_; rintro e w1 ⟨rfl, hb⟩; (try rw [hs]); clear d0 d1 d2 d3 d4; replace P := P.keep hb; replace z := z.trans (hb.mono z.size); clear hb; obtain ⟨d0, d1, d2, d3, d4⟩ := P.five)
    | (go_at_call 19; refine (sIn _ _ _ _).mono ?_; rintro e w1 ⟨rfl, rfl⟩)
    | (go_at_call 22; refine (sInd _ _).mono ?_; rintro e w1 ⟨rfl, rfl⟩)
    | (go_at_call 20; refine (sBlk _ _ _ _ _ _ ho _).mono ?_; rintro e w1 ⟨rfl, hb⟩; clear d0 d1 d2 d3 d4; replace P := P.keep hb; replace z := z.trans (hb.mono z.size); clear hb; obtain ⟨d0, d1, d2, d3, d4⟩ := P.five)
    | (go_at_call 21; refine (sVal _ _ _ _ _ _ _ ho _).mono ?_; rintro e w1 ⟨rfl, hb⟩; clear d0 d1 d2 d3 d4; replace P := P.keep hb; replace z := z.trans (hb.mono z.size); clear hb; obtain ⟨d0, d1, d2, d3, d4⟩ := P.five))
  all_goals go_returns
  all_goals refine ⟨ret_b ?_, z⟩
  all_goals (clear d0 d1 d2 d3 d4 z P; simp_all)
theorem fe11 (p s l c k slot a b d : Int) (ho : ok p s l c k = true) : fit3 p s l c k slot 11 a b d = (inB a 0 (c - 1) && (b == 0) && (d == 0)) := by
  have e : rowR 11 = ([115, 101, 101], 5, 0, 0) := rfl
  unfold fit3
  rw [e]
  simp only [f0, f5, in00]
  (try rfl)
set_option maxHeartbeats 8000000 in
theorem sCf12 (p s l c k slot a b d : Int) (ho : ok p s l c k = true) (hs : inB slot 0 (p - 1) = true) (w : World) : ScPost p s l c k slot 12 a b d w ((a == 0) && (b == 0) && (d == 0)) := by
  have h' := ok_iff.1 ho
  unfold ScPost
  go_enter Tryd.func7, Tryd.ntmps7
  go_upto_region 1 with fail
  refine wp_at (fun W => At W w.heap.size #[.int .i64 p, .int .i64 s, .int .i64 l, .int .i64 c, .int .i64 k] 25 ∧ Below w.heap.size w W) ⟨At.new w _ _, (Below.refl _ _).alloc (Nat.le_refl _) _⟩ ?_
  rintro W ⟨P, z⟩
  obtain ⟨d0, d1, d2, d3, d4⟩ := P.five
  go_wp2_with (first
    | (go_at_call 18; refine (sHas _ _ _ _ _ _ ho _).mono ?_; rintro e w1 ⟨rfl, hb⟩; (try rw [hs]); clear d0 d1 d2 d3 d4; replace P := P.keep hb; replace z := z.trans (hb.mono z.size); clear hb; obtain ⟨d0, d1, d2, d3, d4⟩ := P.five)
    | (go_at_call 19; refine (sIn _ _ _ _).mono ?_; rintro e w1 ⟨rfl, rfl⟩)
    | (go_at_call 22; refine (sInd _ _).mono ?_; rintro e w1 ⟨rfl, rfl⟩)
    | (go_at_call 20; refine (sBlk _ _ _ _ _ _ ho _).mono ?_; rintro e w1 ⟨rfl, hb⟩; clear d0 d1 d2 d3 d4; replace P := P.keep hb; replace z := z.trans (hb.mono z.size); clear hb; obtain ⟨d0, d1, d2, d3, d4⟩ := P.five)
    | (go_at_call 21; refine (sVal _ _ _ _ _ _ _ ho _).mono ?_; rintro e w1 ⟨rfl, hb⟩; clear d0 d1 d2 d3 d4; replace P := P.keep hb; replace z := z.trans (hb.mono z.size); clear hb; obtain ⟨d0, d1, d2, d3, d4⟩ := P.five))
  all_goals go_returns
  all_goals refine ⟨ret_b ?_, z⟩
  all_goals (clear d0 d1 d2 d3 d4 z P; simp_all)
theorem fe12 (p s l c k slot a b d : Int) (ho : ok p s l c k = true) : fit3 p s l c k slot 12 a b d = ((a == 0) && (b == 0) && (d == 0)) := by
  have e : rowR 12 = ([115, 99, 97, 110], 0, 0, 0) := rfl
  unfold fit3
  rw [e]
  simp only [f0, in00]
  (try rfl)
set_option maxHeartbeats 8000000 in
theorem sCf13 (p s l c k slot a b d : Int) (ho : ok p s l c k = true) (hs : inB slot 0 (p - 1) = true) (w : World) : ScPost p s l c k slot 13 a b d w (inB a 0 (p - 1) && !(a == slot) && (b == 0) && (d == 0)) := by
  have h' := ok_iff.1 ho
  unfold ScPost
  go_enter Tryd.func7, Tryd.ntmps7
  go_upto_region 1 with fail
  refine wp_at (fun W => At W w.heap.size #[.int .i64 p, .int .i64 s, .int .i64 l, .int .i64 c, .int .i64 k] 25 ∧ Below w.heap.size w W) ⟨At.new w _ _, (Below.refl _ _).alloc (Nat.le_refl _) _⟩ ?_
  rintro W ⟨P, z⟩
  obtain ⟨d0, d1, d2, d3, d4⟩ := P.five
  go_wp2_with (first
    | (go_at_call 18; refine (sHas _ _ _ _ _ _ ho _).mono ?_; rintro e w1 ⟨rfl, hb⟩; (try rw [hs]); clear d0 d1 d2 d3 d4; replace P := P.keep hb; replace z := z.trans (hb.mono z.size); clear hb; obtain ⟨d0, d1, d2, d3, d4⟩ := P.five)
    | (go_at_call 19; refine (sIn _ _ _ _).mono ?_; rintro e w1 ⟨rfl, rfl⟩)
    | (go_at_call 22; refine (sInd _ _).mono ?_; rintro e w1 ⟨rfl, rfl⟩)
    | (go_at_call 20; refine (sBlk _ _ _ _ _ _ ho _).mono ?_; rintro e w1 ⟨rfl, hb⟩; clear d0 d1 d2 d3 d4; replace P := P.keep hb; replace z := z.trans (hb.mono z.size); clear hb; obtain ⟨d0, d1, d2, d3, d4⟩ := P.five)
    | (go_at_call 21; refine (sVal _ _ _ _ _ _ _ ho _).mono ?_; rintro e w1 ⟨rfl, hb⟩; clear d0 d1 d2 d3 d4; replace P := P.keep hb; replace z := z.trans (hb.mono z.size); clear hb; obtain ⟨d0, d1, d2, d3, d4⟩ := P.five))
  all_goals go_returns
  all_goals refine ⟨ret_b ?_, z⟩
  all_goals (clear d0 d1 d2 d3 d4 z P; simp_all [bne])
theorem fe13 (p s l c k slot a b d : Int) (ho : ok p s l c k = true) : fit3 p s l c k slot 13 a b d = (inB a 0 (p - 1) && !(a == slot) && (b == 0) && (d == 0)) := by
  have e : rowR 13 = ([97, 100, 111, 112, 116], 7, 0, 0) := rfl
  unfold fit3
  rw [e]
  simp only [f0, f7, in00]
  rw [show decide (a = slot) = (a == slot) from by rw [Bool.eq_iff_iff]; simp]
set_option maxHeartbeats 8000000 in
theorem sCf14 (p s l c k slot a b d : Int) (ho : ok p s l c k = true) (hs : inB slot 0 (p - 1) = true) (w : World) : ScPost p s l c k slot 14 a b d w (inB a 0 (p - 1) && inB b 1 4294967295 && (d == 0)) := by
  have h' := ok_iff.1 ho
  unfold ScPost
  go_enter Tryd.func7, Tryd.ntmps7
  go_upto_region 1 with fail
  refine wp_at (fun W => At W w.heap.size #[.int .i64 p, .int .i64 s, .int .i64 l, .int .i64 c, .int .i64 k] 25 ∧ Below w.heap.size w W) ⟨At.new w _ _, (Below.refl _ _).alloc (Nat.le_refl _) _⟩ ?_
  rintro W ⟨P, z⟩
  obtain ⟨d0, d1, d2, d3, d4⟩ := P.five
  go_wp2_with (first
    | (go_at_call 18; refine (sHas _ _ _ _ _ _ ho _).mono ?_; rintro e w1 ⟨rfl, hb⟩; (try rw [hs]); clear d0 d1 d2 d3 d4; replace P := P.keep hb; replace z := z.trans (hb.mono z.size); clear hb; obtain ⟨d0, d1, d2, d3, d4⟩ := P.five)
    | (go_at_call 19; refine (sIn _ _ _ _).mono ?_; rintro e w1 ⟨rfl, rfl⟩)
    | (go_at_call 22; refine (sInd _ _).mono ?_; rintro e w1 ⟨rfl, rfl⟩)
    | (go_at_call 20; refine (sBlk _ _ _ _ _ _ ho _).mono ?_; rintro e w1 ⟨rfl, hb⟩; clear d0 d1 d2 d3 d4; replace P := P.keep hb; replace z := z.trans (hb.mono z.size); clear hb; obtain ⟨d0, d1, d2, d3, d4⟩ := P.five)
    | (go_at_call 21; refine (sVal _ _ _ _ _ _ _ ho _).mono ?_; rintro e w1 ⟨rfl, hb⟩; clear d0 d1 d2 d3 d4; replace P := P.keep hb; replace z := z.trans (hb.mono z.size); clear hb; obtain ⟨d0, d1, d2, d3, d4⟩ := P.five))
  all_goals go_returns
  all_goals refine ⟨ret_b ?_, z⟩
  all_goals (clear d0 d1 d2 d3 d4 z P; simp_all)
theorem fe14 (p s l c k slot a b d : Int) (ho : ok p s l c k = true) : fit3 p s l c k slot 14 a b d = (inB a 0 (p - 1) && inB b 1 4294967295 && (d == 0)) := by
  have e : rowR 14 = ([97, 115, 107], 6, 8, 0) := rfl
  unfold fit3
  rw [e]
  simp only [f0, f6, f8, in00]
  (try rfl)
theorem sFits (p s l c k slot code a b d : Int) (w : World) : ScPost p s l c k slot code a b d w (fitsC p s l c k slot code a b d) := by
  unfold fitsC
  cases ho : ok p s l c k with
  | false => exact sCfN p s l c k slot code a b d ho w
  | true =>
    cases hs : inB slot 0 (p - 1) with
    | false => exact sCfS p s l c k slot code a b d ho hs w
    | true =>
      cases hc : inB code 1 14 with
      | false => exact sCfC p s l c k slot code a b d ho hs hc w
      | true =>
        simp only [Bool.true_and]
        rcases fourteen hc with rfl | rfl | rfl | rfl | rfl | rfl | rfl | rfl | rfl | rfl | rfl | rfl | rfl | rfl
        · rw [fe1 p s l c k slot a b d ho]; exact sCf1 p s l c k slot a b d ho hs w
        · rw [fe2 p s l c k slot a b d ho]; exact sCf2 p s l c k slot a b d ho hs w
        · rw [fe3 p s l c k slot a b d ho]; exact sCf3 p s l c k slot a b d ho hs w
        · rw [fe4 p s l c k slot a b d ho]; exact sCf4 p s l c k slot a b d ho hs w
        · rw [fe5 p s l c k slot a b d ho]; exact sCf5 p s l c k slot a b d ho hs w
        · rw [fe6 p s l c k slot a b d ho]; exact sCf6 p s l c k slot a b d ho hs w
        · rw [fe7 p s l c k slot a b d ho]; exact sCf7 p s l c k slot a b d ho hs w
        · rw [fe8 p s l c k slot a b d ho]; exact sCf8 p s l c k slot a b d ho hs w
        · rw [fe9 p s l c k slot a b d ho]; exact sCf9 p s l c k slot a b d ho hs w
        · rw [fe10 p s l c k slot a b d ho]; exact sCf10 p s l c k slot a b d ho hs w
        · rw [fe11 p s l c k slot a b d ho]; exact sCf11 p s l c k slot a b d ho hs w
        · rw [fe12 p s l c k slot a b d ho]; exact sCf12 p s l c k slot a b d ho hs w
        · rw [fe13 p s l c k slot a b d ho]; exact sCf13 p s l c k slot a b d ho hs w
        · rw [fe14 p s l c k slot a b d ho]; exact sCf14 p s l c k slot a b d ho hs w
end Go.Proofs.YtooljeddnfkphaaDoor
