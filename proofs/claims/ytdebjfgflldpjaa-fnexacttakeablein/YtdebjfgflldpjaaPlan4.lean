/-
  The place of a block's field, in the program and in the model: the same number.
-/
import Derived.Test.YtdebjfgflldpjaaPlan3
namespace Go.Proofs.Ytdebjfgflldpjaa
open Go.RowKit
set_option linter.unusedVariables false
set_option linter.unusedSimpArgs false
set_option maxHeartbeats 1000000 in
theorem iBlk0Y (p s l c k : Int) (b : Int) (f : Int) (h : ok p s l c k = true) (hb : 1 ≤ b ∧ b ≤ s + l) (hs : b ≤ s) (hf : 0 ≤ f ∧ f ≤ 2) (w : World) :
    Calls Try.prog 34 #[.agg #[.int .i64 p, .int .i64 s, .int .i64 l, .int .i64 c, .int .i64 k], .int .i64 b, .int .i64 f] w fun e w' => e = .returned (.int .i64 (vBlock p s l c k b f)) ∧ Below w.heap.size w w' := by
  have h' := ok_iff.1 h
  have hq := sq_bd h'.1 h'.2.1
  go_enter Try.func34, Try.ntmps34
  go_wp2_with fail
  have B := Box5.new w (.int .i64 p) (.int .i64 s) (.int .i64 l) (.int .i64 c) (.int .i64 k) 26
  have z := (Below.refl w.heap.size w).alloc (Nat.le_refl _) (Obj.cells #[.int .i64 p, .int .i64 s, .int .i64 l, .int .i64 c, .int .i64 k] 26)
  have hc : vClass p s l c k b = 0 := by unfold vClass; rw [if_pos ⟨h, hb⟩, if_pos hs]
  go_wp2_with (first
    | (go_at_call 33; refine (iClass _ _ _ _ _ _ _).mono ?_; rintro e w1 ⟨rfl, hb⟩; replace B := B.keep hb; replace z := z.trans (hb.mono z.size); clear hb; rw [hc]; obtain ⟨c0, c1, c2, c3, c4⟩ := B.five)
    | (go_at_call 40; refine (iWithin _ _ _ _).mono ?_; rintro e w1 ⟨rfl, rfl⟩; rw [inB_iff.2 hf])
    | (go_at_call 42; refine (iSmall _ _ _ _ _ h _).mono ?_; rintro e w1 ⟨rfl, hb⟩; replace B := B.keep hb; replace z := z.trans (hb.mono z.size); clear hb; obtain ⟨c0, c1, c2, c3, c4⟩ := B.five))
  go_returns
  refine ⟨ret_i ?_, z⟩
  unfold vBlock
  rw [if_pos ⟨h, hb, hf.1⟩, if_pos hs, if_pos (by omega)]; simp only [wrap64, sF]; omega
set_option maxHeartbeats 1000000 in
theorem iBlk0N (p s l c k : Int) (b : Int) (f : Int) (h : ok p s l c k = true) (hb : 1 ≤ b ∧ b ≤ s + l) (hs : b ≤ s) (hf : ¬ (0 ≤ f ∧ f ≤ 2)) (w : World) :
    Calls Try.prog 34 #[.agg #[.int .i64 p, .int .i64 s, .int .i64 l, .int .i64 c, .int .i64 k], .int .i64 b, .int .i64 f] w fun e w' => e = .returned (.int .i64 (vBlock p s l c k b f)) ∧ Below w.heap.size w w' := by
  have h' := ok_iff.1 h
  have hq := sq_bd h'.1 h'.2.1
  go_enter Try.func34, Try.ntmps34
  go_wp2_with fail
  have B := Box5.new w (.int .i64 p) (.int .i64 s) (.int .i64 l) (.int .i64 c) (.int .i64 k) 26
  have z := (Below.refl w.heap.size w).alloc (Nat.le_refl _) (Obj.cells #[.int .i64 p, .int .i64 s, .int .i64 l, .int .i64 c, .int .i64 k] 26)
  have hc : vClass p s l c k b = 0 := by unfold vClass; rw [if_pos ⟨h, hb⟩, if_pos hs]
  go_wp2_with (first
    | (go_at_call 33; refine (iClass _ _ _ _ _ _ _).mono ?_; rintro e w1 ⟨rfl, hb⟩; replace B := B.keep hb; replace z := z.trans (hb.mono z.size); clear hb; rw [hc]; obtain ⟨c0, c1, c2, c3, c4⟩ := B.five)
    | (go_at_call 40; refine (iWithin _ _ _ _).mono ?_; rintro e w1 ⟨rfl, rfl⟩; rw [inB_niff.2 hf]))
  go_returns
  refine ⟨ret_i ?_, z⟩
  unfold vBlock
  repeat' split <;> omega
set_option maxHeartbeats 1000000 in
theorem iBlk1Y (p s l c k : Int) (b : Int) (f : Int) (h : ok p s l c k = true) (hb : 1 ≤ b ∧ b ≤ s + l) (hs : ¬ b ≤ s) (hf : 0 ≤ f ∧ f ≤ 4) (w : World) :
    Calls Try.prog 34 #[.agg #[.int .i64 p, .int .i64 s, .int .i64 l, .int .i64 c, .int .i64 k], .int .i64 b, .int .i64 f] w fun e w' => e = .returned (.int .i64 (vBlock p s l c k b f)) ∧ Below w.heap.size w w' := by
  have h' := ok_iff.1 h
  have hq := sq_bd h'.1 h'.2.1
  go_enter Try.func34, Try.ntmps34
  go_wp2_with fail
  have B := Box5.new w (.int .i64 p) (.int .i64 s) (.int .i64 l) (.int .i64 c) (.int .i64 k) 26
  have z := (Below.refl w.heap.size w).alloc (Nat.le_refl _) (Obj.cells #[.int .i64 p, .int .i64 s, .int .i64 l, .int .i64 c, .int .i64 k] 26)
  have hc : vClass p s l c k b = 1 := by unfold vClass; rw [if_pos ⟨h, hb⟩, if_neg (show ¬ b ≤ s by omega)]
  go_wp2_with (first
    | (go_at_call 33; refine (iClass _ _ _ _ _ _ _).mono ?_; rintro e w1 ⟨rfl, hb⟩; replace B := B.keep hb; replace z := z.trans (hb.mono z.size); clear hb; rw [hc]; obtain ⟨c0, c1, c2, c3, c4⟩ := B.five)
    | (go_at_call 40; refine (iWithin _ _ _ _).mono ?_; rintro e w1 ⟨rfl, rfl⟩; rw [inB_iff.2 hf]))
  go_region_held3 (fun w' => w'.cell? ⟨w.heap.size, 0, none⟩ = some (.int .i64 p) ∧ w'.cell? ⟨w.heap.size, 1, none⟩ = some (.int .i64 s) ∧ w'.cell? ⟨w.heap.size, 2, none⟩ = some (.int .i64 l) ∧ w'.cell? ⟨w.heap.size, 3, none⟩ = some (.int .i64 c) ∧ w'.cell? ⟨w.heap.size, 4, none⟩ = some (.int .i64 k)) (go_keep)
    (first
    | (go_at_call 38; refine (iLarge _ _ _ _ _ h _).mono ?_; rintro e w1 ⟨rfl, hb⟩; replace B := B.draw.keep hb; replace z := z.drew.trans (hb.mono z.size); clear hb; obtain ⟨c0, c1, c2, c3, c4⟩ := B.five))
  go_wp2
  go_returns
  refine ⟨ret_i ?_, z⟩
  unfold vBlock
  rw [if_pos ⟨h, hb, hf.1⟩, if_neg (show ¬ b ≤ s by omega), if_pos (by omega)]; simp only [IntKind.wrap_i64, lF]; omega
set_option maxHeartbeats 1000000 in
theorem iBlk1N (p s l c k : Int) (b : Int) (f : Int) (h : ok p s l c k = true) (hb : 1 ≤ b ∧ b ≤ s + l) (hs : ¬ b ≤ s) (hf : ¬ (0 ≤ f ∧ f ≤ 4)) (w : World) :
    Calls Try.prog 34 #[.agg #[.int .i64 p, .int .i64 s, .int .i64 l, .int .i64 c, .int .i64 k], .int .i64 b, .int .i64 f] w fun e w' => e = .returned (.int .i64 (vBlock p s l c k b f)) ∧ Below w.heap.size w w' := by
  have h' := ok_iff.1 h
  have hq := sq_bd h'.1 h'.2.1
  go_enter Try.func34, Try.ntmps34
  go_wp2_with fail
  have B := Box5.new w (.int .i64 p) (.int .i64 s) (.int .i64 l) (.int .i64 c) (.int .i64 k) 26
  have z := (Below.refl w.heap.size w).alloc (Nat.le_refl _) (Obj.cells #[.int .i64 p, .int .i64 s, .int .i64 l, .int .i64 c, .int .i64 k] 26)
  have hc : vClass p s l c k b = 1 := by unfold vClass; rw [if_pos ⟨h, hb⟩, if_neg (show ¬ b ≤ s by omega)]
  go_wp2_with (first
    | (go_at_call 33; refine (iClass _ _ _ _ _ _ _).mono ?_; rintro e w1 ⟨rfl, hb⟩; replace B := B.keep hb; replace z := z.trans (hb.mono z.size); clear hb; rw [hc]; obtain ⟨c0, c1, c2, c3, c4⟩ := B.five)
    | (go_at_call 40; refine (iWithin _ _ _ _).mono ?_; rintro e w1 ⟨rfl, rfl⟩; rw [inB_niff.2 hf]))
  go_returns
  refine ⟨ret_i ?_, z⟩
  unfold vBlock
  repeat' split <;> omega
set_option maxHeartbeats 1000000 in
theorem iBlkN (p s l c k : Int) (b : Int) (f : Int) (h : ¬ (ok p s l c k = true ∧ (1 ≤ b ∧ b ≤ s + l))) (w : World) :
    Calls Try.prog 34 #[.agg #[.int .i64 p, .int .i64 s, .int .i64 l, .int .i64 c, .int .i64 k], .int .i64 b, .int .i64 f] w fun e w' => e = .returned (.int .i64 (vBlock p s l c k b f)) ∧ Below w.heap.size w w' := by
  go_enter Try.func34, Try.ntmps34
  go_wp2_with fail
  have B := Box5.new w (.int .i64 p) (.int .i64 s) (.int .i64 l) (.int .i64 c) (.int .i64 k) 26
  have z := (Below.refl w.heap.size w).alloc (Nat.le_refl _) (Obj.cells #[.int .i64 p, .int .i64 s, .int .i64 l, .int .i64 c, .int .i64 k] 26)
  have hc : vClass p s l c k b = -1 := by unfold vClass; rw [if_neg h]
  go_wp2_with (first
    | (go_at_call 33; refine (iClass _ _ _ _ _ _ _).mono ?_; rintro e w1 ⟨rfl, hb⟩; replace B := B.keep hb; replace z := z.trans (hb.mono z.size); clear hb; rw [hc]; obtain ⟨c0, c1, c2, c3, c4⟩ := B.five))
  go_returns
  refine ⟨ret_i ?_, z⟩
  unfold vBlock
  rw [if_neg (fun x => h ⟨x.1, x.2.1⟩)]
theorem iBlock (p s l c k b f : Int) (w : World) :
    Calls Try.prog 34 #[.agg #[.int .i64 p, .int .i64 s, .int .i64 l, .int .i64 c, .int .i64 k], .int .i64 b, .int .i64 f] w fun e w' => e = .returned (.int .i64 (vBlock p s l c k b f)) ∧ Below w.heap.size w w' := by
  by_cases h0 : ok p s l c k = true ∧ (1 ≤ b ∧ b ≤ s + l)
  · obtain ⟨h, hb⟩ := h0
    by_cases hs : b ≤ s
    · by_cases hf : 0 ≤ f ∧ f ≤ 2
      · exact iBlk0Y p s l c k b f h hb hs hf w
      · exact iBlk0N p s l c k b f h hb hs hf w
    · by_cases hf : 0 ≤ f ∧ f ≤ 4
      · exact iBlk1Y p s l c k b f h hb hs hf w
      · exact iBlk1N p s l c k b f h hb hs hf w
  · exact iBlkN p s l c k b f h0 w
end Go.Proofs.Ytdebjfgflldpjaa
