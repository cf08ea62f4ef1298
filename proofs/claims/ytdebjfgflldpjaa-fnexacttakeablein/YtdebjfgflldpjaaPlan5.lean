/-
  The place of a block's field in the model: it adds up the widths of the blocks ahead, and comes to the same number.
-/
import Derived.Test.YtdebjfgflldpjaaPlan4
namespace Go.Proofs.Ytdebjfgflldpjaa
open Go.RowKit
set_option linter.unusedVariables false
set_option linter.unusedSimpArgs false
theorem sF_bd {p c : Int} (h0 : 1 ≤ p) (h1 : p ≤ 64) (h2 : 1 ≤ c) (h3 : c ≤ 8) : 0 ≤ sF p c ∧ sF p c ≤ 5000 := by
  have := sq_bd h0 h1
  unfold sF
  omega
def wid (s b : Int) : Int := if b ≤ s then 3 else 5
def wS (s n : Int) : Int := if n ≤ s then 3 * n else 3 * s + 5 * (n - s)
theorem wS_succ (s b : Int) : wS s (b - 1) + wid s b = wS s b := by unfold wS wid; (repeat' split) <;> omega
theorem vBlock_of {p s l c k b f : Int} (h : ok p s l c k = true) (hb : 1 ≤ b ∧ b ≤ s + l) (hf : 0 ≤ f) : vBlock p s l c k b f = if f < wid s b then sF p c + wS s (b - 1) + f else -1 := by
  unfold vBlock wid wS lF sF
  rw [if_pos ⟨h, hb, hf⟩]
  (repeat' split) <;> omega
set_option maxHeartbeats 400000 in
theorem sWidth (p s l c k b : Int) (w : World) :
    Calls Try.prog 36 #[.agg #[.int .i64 p, .int .i64 s, .int .i64 l, .int .i64 c, .int .i64 k], .int .i64 b] w fun e w' => e = .returned (.int .i64 (wid s b)) ∧ Below w.heap.size w w' := by
  by_cases hs : b ≤ s
  all_goals
    go_enter Try.func36, Try.ntmps36
    go_wp2
    go_returns
    refine ⟨ret_i ?_, by go_grown⟩
    unfold wid
    split <;> omega
set_option maxHeartbeats 1000000 in
theorem sBlockY (p s l c k : Int) (b : Int) (f : Int) (h : ok p s l c k = true) (hb : 1 ≤ b ∧ b ≤ s + l) (hf : 0 ≤ f) (w : World) :
    Calls Try.prog 27 #[.agg #[.int .i64 p, .int .i64 s, .int .i64 l, .int .i64 c, .int .i64 k], .int .i64 b, .int .i64 f] w fun e w' => e = .returned (.int .i64 (vBlock p s l c k b f)) ∧ Below w.heap.size w w' := by
  have h' := ok_iff.1 h
  have hq := sq_bd h'.1 h'.2.1
  go_enter Try.func27, Try.ntmps27
  go_wp2_with fail
  have B := Box5.new w (.int .i64 p) (.int .i64 s) (.int .i64 l) (.int .i64 c) (.int .i64 k) 26
  have z := (Below.refl w.heap.size w).alloc (Nat.le_refl _) (Obj.cells #[.int .i64 p, .int .i64 s, .int .i64 l, .int .i64 c, .int .i64 k] 26)
  go_wp2_with (first
    | (go_at_call 19; refine (sBlk _ _ _ _ _ _ h _).mono ?_; rintro e w1 ⟨rfl, hb⟩; replace B := B.keep hb; replace z := z.trans (hb.mono z.size); clear hb; rw [inB_iff.2 hb]; obtain ⟨c0, c1, c2, c3, c4⟩ := B.five)
    | (go_at_call 24; refine (sSmall _ _ _ _ _ h _).mono ?_; rintro e w1 ⟨rfl, hb⟩; replace B := B.keep hb; replace z := z.trans (hb.mono z.size); clear hb; obtain ⟨c0, c1, c2, c3, c4⟩ := B.five))
  have hp := sF_bd h'.1 h'.2.1 h'.2.2.2.2.2.2.1 h'.2.2.2.2.2.2.2.1
  clear hq
  go_loopw [7, 8] (fun x y wr => ∃ j : Int, (1 ≤ j ∧ j ≤ b) ∧ x = .int .i64 (sF p c + wS s (j - 1)) ∧ y = .int .i64 j ∧ Box5 wr w.heap.size (.int .i64 p) (.int .i64 s) (.int .i64 l) (.int .i64 c) (.int .i64 k) ∧ Below w.heap.size w wr) (fun _ y _ => (b - intOf y).toNat)
  case atStart => exact ⟨1, ⟨by omega, hb.1⟩, by rw [show wS s (1 - 1) = 0 from by unfold wS; split <;> omega]; simp, rfl, B, z⟩
  case round =>
    obtain ⟨j, ⟨hj0, hj1⟩, rfl, rfl, B, z⟩ := hrel
    obtain ⟨c0, c1, c2, c3, c4⟩ := B.five
    have hw : Hid (wS s (j - 1) + wid s j = wS s j) := wS_succ s j
    have hwb : Hid (0 ≤ wS s (j - 1) ∧ wS s (j - 1) ≤ 1250) := by show _ ∧ _; unfold wS; split <;> omega
    by_cases hlt : j < b
    · go_wp2_with fail
      refine (sWidth _ _ _ _ _ _ _).mono ?_
      rintro e w3 ⟨rfl, hb3⟩
      go_wp2
      go_roundw
      case rel => 
        refine ⟨j + 1, ⟨by omega, by omega⟩, ?_, by go_num, B.keep hb3, z.trans (hb3.mono z.size)⟩
        have h1 := hw.out
        have h2 := hwb.out
        have h3 : wid s j = 3 ∨ wid s j = 5 := by unfold wid; split <;> simp
        rw [show j + 1 - 1 = j from by omega]
        simp only [Value.int.injEq, true_and, wrap64]
        omega
      case measure => simp [intOf]; omega
    · obtain rfl : j = b := by omega
      go_wp2_with fail
      refine (sWidth _ _ _ _ _ _ _).mono ?_
      rintro e w3 ⟨rfl, hb3⟩
      have z3 := z.trans (hb3.mono z.size)
      by_cases hfw : f < wid s j
      · go_wp2
        go_returns
        refine ⟨ret_i ?_, z3⟩
        have h2 := hwb.out
        rw [vBlock_of h hb hf, if_pos hfw]
        have h3 : wid s j = 3 ∨ wid s j = 5 := by unfold wid; split <;> simp
        unfold wrap64
        omega
      · go_wp2
        go_returns
        refine ⟨ret_i ?_, z3⟩
        rw [vBlock_of h hb hf, if_neg (show ¬ f < wid s j by omega)]
set_option maxHeartbeats 1000000 in
theorem sBlockN1 (p s l c k : Int) (b : Int) (f : Int) (h : ok p s l c k = true) (hb : ¬ (1 ≤ b ∧ b ≤ s + l)) (w : World) :
    Calls Try.prog 27 #[.agg #[.int .i64 p, .int .i64 s, .int .i64 l, .int .i64 c, .int .i64 k], .int .i64 b, .int .i64 f] w fun e w' => e = .returned (.int .i64 (vBlock p s l c k b f)) ∧ Below w.heap.size w w' := by
  go_enter Try.func27, Try.ntmps27
  go_wp2_with fail
  have B := Box5.new w (.int .i64 p) (.int .i64 s) (.int .i64 l) (.int .i64 c) (.int .i64 k) 26
  have z := (Below.refl w.heap.size w).alloc (Nat.le_refl _) (Obj.cells #[.int .i64 p, .int .i64 s, .int .i64 l, .int .i64 c, .int .i64 k] 26)
  go_wp2_with (first
    | (go_at_call 19; refine (sBlk _ _ _ _ _ _ h _).mono ?_; rintro e w1 ⟨rfl, hb⟩; replace B := B.keep hb; replace z := z.trans (hb.mono z.size); clear hb; rw [inB_niff.2 hb]; obtain ⟨c0, c1, c2, c3, c4⟩ := B.five))
  go_returns
  refine ⟨ret_i ?_, z⟩
  unfold vBlock
  rw [if_neg (fun x => hb x.2.1)]
set_option maxHeartbeats 1000000 in
theorem sBlockN2 (p s l c k : Int) (b : Int) (f : Int) (h : ok p s l c k = true) (hb : 1 ≤ b ∧ b ≤ s + l) (hf : f < 0) (w : World) :
    Calls Try.prog 27 #[.agg #[.int .i64 p, .int .i64 s, .int .i64 l, .int .i64 c, .int .i64 k], .int .i64 b, .int .i64 f] w fun e w' => e = .returned (.int .i64 (vBlock p s l c k b f)) ∧ Below w.heap.size w w' := by
  go_enter Try.func27, Try.ntmps27
  go_wp2_with fail
  have B := Box5.new w (.int .i64 p) (.int .i64 s) (.int .i64 l) (.int .i64 c) (.int .i64 k) 26
  have z := (Below.refl w.heap.size w).alloc (Nat.le_refl _) (Obj.cells #[.int .i64 p, .int .i64 s, .int .i64 l, .int .i64 c, .int .i64 k] 26)
  go_wp2_with (first
    | (go_at_call 19; refine (sBlk _ _ _ _ _ _ h _).mono ?_; rintro e w1 ⟨rfl, hb⟩; replace B := B.keep hb; replace z := z.trans (hb.mono z.size); clear hb; rw [inB_iff.2 hb]; obtain ⟨c0, c1, c2, c3, c4⟩ := B.five))
  go_returns
  refine ⟨ret_i ?_, z⟩
  unfold vBlock
  rw [if_neg (fun x => by omega)]
set_option maxHeartbeats 1000000 in
theorem sBlockN (p s l c k : Int) (b : Int) (f : Int) (h : ok p s l c k = false) (w : World) :
    Calls Try.prog 27 #[.agg #[.int .i64 p, .int .i64 s, .int .i64 l, .int .i64 c, .int .i64 k], .int .i64 b, .int .i64 f] w fun e w' => e = .returned (.int .i64 (vBlock p s l c k b f)) ∧ Below w.heap.size w w' := by
  go_enter Try.func27, Try.ntmps27
  go_wp2_with fail
  have B := Box5.new w (.int .i64 p) (.int .i64 s) (.int .i64 l) (.int .i64 c) (.int .i64 k) 26
  have z := (Below.refl w.heap.size w).alloc (Nat.le_refl _) (Obj.cells #[.int .i64 p, .int .i64 s, .int .i64 l, .int .i64 c, .int .i64 k] 26)
  go_wp2_with (first
    | (go_at_call 19; refine (sBlkN _ _ _ _ _ _ h _).mono ?_; rintro e w1 ⟨rfl, hb⟩; replace B := B.keep hb; replace z := z.trans (hb.mono z.size); clear hb; obtain ⟨c0, c1, c2, c3, c4⟩ := B.five))
  go_returns
  refine ⟨ret_i ?_, z⟩
  unfold vBlock
  rw [h]
  rfl
theorem sBlock (p s l c k b f : Int) (w : World) :
    Calls Try.prog 27 #[.agg #[.int .i64 p, .int .i64 s, .int .i64 l, .int .i64 c, .int .i64 k], .int .i64 b, .int .i64 f] w fun e w' => e = .returned (.int .i64 (vBlock p s l c k b f)) ∧ Below w.heap.size w w' := by
  cases h : ok p s l c k
  · exact sBlockN p s l c k b f h w
  · by_cases hb : 1 ≤ b ∧ b ≤ s + l
    · by_cases hf : 0 ≤ f
      · exact sBlockY p s l c k b f h hb hf w
      · exact sBlockN2 p s l c k b f h hb (by omega) w
    · exact sBlockN1 p s l c k b f h hb w
end Go.Proofs.Ytdebjfgflldpjaa
