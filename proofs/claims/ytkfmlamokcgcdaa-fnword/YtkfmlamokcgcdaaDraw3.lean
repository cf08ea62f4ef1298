/-
  The model's draws of 64 bits and of words, and the draws that the words' laws begin with.
-/
import Derived.Test.YtkfmlamokcgcdaaDraw2
import Derived.Test.YtkfmlamokcgcdaaAt
namespace Go.Proofs.Ytkfmlamokcgcdaa
open Go.RowKit
set_option linter.unusedVariables false
theorem bor_bd (x y : Int) : 0 ≤ bits .or .u64 x y ∧ bits .or .u64 x y ≤ 18446744073709551615 := by
  unfold bits
  simp only [IntKind.wrap_u64]
  omega
set_option maxHeartbeats 400000 in
theorem raw_any (B c : Nat) (w : World) (hc : Cur B c w) :
    Calls Try.prog 28 #[.pointer (some ⟨c, 0, none⟩)] w fun e w' => ∃ v : Int, e = .returned (.int .u64 v) ∧ (0 ≤ v ∧ v ≤ 18446744073709551615) ∧ Cur B c w' ∧ Kept c w w' := by
  go_enter Try.func28, Try.ntmps28
  go_wp2
  go_loopw [3, 4] (fun x i wr => ∃ (k : Nat) (v : Int), k ≤ 8 ∧ x = .int .u64 v ∧ i = .int .i64 k ∧ 0 ≤ v ∧ v ≤ 18446744073709551615 ∧ Cur B c wr ∧ Kept c w wr) (fun _ i _ => 8 - (intOf i).toNat)
  case atStart => exact ⟨0, 0, by omega, rfl, rfl, by omega, by omega, hc, Kept.refl _ _⟩
  case round =>
    obtain ⟨k, v, hk, rfl, rfl, v0, v1, hcr, kr⟩ := hrel
    by_cases hlt : (k : Int) < 8
    · go_wp2_with fail
      refine (byte_any B c _ hcr).mono ?_
      rintro e w1 ⟨y, rfl, ⟨y0, y1⟩, hc1, k1⟩
      go_wp2
      go_roundw
      case rel => exact ⟨k + 1, _, by omega, rfl, by go_num, (bor_bd _ _).1, (bor_bd _ _).2, hc1, kr.trans k1⟩
      case measure => simp [intOf]; omega
    · go_wp2
      go_ret
      exact ⟨v, rfl, ⟨v0, v1⟩, hcr, kr⟩
set_option maxHeartbeats 400000 in
theorem drawUnpack (a : Option Addr) (len cap : Nat) (w : World) (hl : len ≤ 4096) (hr : Row w.heap.size w a len) :
    Calls Try.prog 15 #[.slice a len cap] w fun e w' => ∃ v : Int, e = .returned (.int .u64 v) ∧ (0 ≤ v ∧ v ≤ 18446744073709551615) ∧ Below w.heap.size w w' := by
  go_enter Try.func15, Try.ntmps15
  go_wp2_with fail
  refine (new_any a len cap _ hl hr).mono ?_
  rintro e w1 ⟨c, rfl, hc, b1⟩
  go_wp2_with fail
  refine (raw_any _ c _ hc).mono ?_
  rintro e w2 ⟨v, rfl, hv, hc2, k2⟩
  go_wp2
  go_ret
  exact ⟨v, rfl, hv, b1.trans (k2.below hc.ge b1.size)⟩
/-- The state of a word's draw: the cursor, the result's cells, the word's cells. -/
structure WSt (B c r s : Nat) (w0 w : World) (x0 x1 x2 x3 : Int) : Prop where
  cur : Cur B c w
  kept : Kept c w0 w
  atS : At w s #[.int .i64 x0, .int .i64 x1, .int .i64 x2, .int .i64 x3] 25
  atR : At w r #[.int .i64 0, .int .i64 0, .int .i64 0, .int .i64 0] 25
  rc : r ≠ c
  sc : s ≠ c
  sr : s ≠ r
  rge : w0.heap.size ≤ r
  sge : w0.heap.size ≤ s
  bge : B ≤ s
  brge : B ≤ r
theorem WSt.go {B c r s : Nat} {w0 w w' : World} {x0 x1 x2 x3 : Int} (h : WSt B c r s w0 w x0 x1 x2 x3) (hc : Cur B c w') (k : Kept c w w') : WSt B c r s w0 w' x0 x1 x2 x3 :=
  ⟨hc, h.kept.trans k, h.atS.kept k h.sc, h.atR.kept k h.rc, h.rc, h.sc, h.sr, h.rge, h.sge, h.bge, h.brge⟩
theorem WSt.set0 {B c r s : Nat} {w0 w : World} {x0 x1 x2 x3 : Int} (h : WSt B c r s w0 w x0 x1 x2 x3) (y : Int) : WSt B c r s w0 (w.setCell ⟨s, 0, none⟩ (.int .i64 y)) y x1 x2 x3 :=
  ⟨h.cur.other h.sc h.bge _, h.kept.put h.sge _, h.atS.set 0 _, h.atR.other (Ne.symm h.sr) _, h.rc, h.sc, h.sr, h.rge, h.sge, h.bge, h.brge⟩
theorem WSt.set1 {B c r s : Nat} {w0 w : World} {x0 x1 x2 x3 : Int} (h : WSt B c r s w0 w x0 x1 x2 x3) (y : Int) : WSt B c r s w0 (w.setCell ⟨s, 1, none⟩ (.int .i64 y)) x0 y x2 x3 :=
  ⟨h.cur.other h.sc h.bge _, h.kept.put h.sge _, h.atS.set 1 _, h.atR.other (Ne.symm h.sr) _, h.rc, h.sc, h.sr, h.rge, h.sge, h.bge, h.brge⟩
theorem WSt.set2 {B c r s : Nat} {w0 w : World} {x0 x1 x2 x3 : Int} (h : WSt B c r s w0 w x0 x1 x2 x3) (y : Int) : WSt B c r s w0 (w.setCell ⟨s, 2, none⟩ (.int .i64 y)) x0 x1 y x3 :=
  ⟨h.cur.other h.sc h.bge _, h.kept.put h.sge _, h.atS.set 2 _, h.atR.other (Ne.symm h.sr) _, h.rc, h.sc, h.sr, h.rge, h.sge, h.bge, h.brge⟩
theorem WSt.set3 {B c r s : Nat} {w0 w : World} {x0 x1 x2 x3 : Int} (h : WSt B c r s w0 w x0 x1 x2 x3) (y : Int) : WSt B c r s w0 (w.setCell ⟨s, 3, none⟩ (.int .i64 y)) x0 x1 x2 y :=
  ⟨h.cur.other h.sc h.bge _, h.kept.put h.sge _, h.atS.set 3 _, h.atR.other (Ne.symm h.sr) _, h.rc, h.sc, h.sr, h.rge, h.sge, h.bge, h.brge⟩
/-- The end of a word's draw. -/
structure WFin (B c r : Nat) (w0 w : World) (x0 x1 x2 x3 : Int) : Prop where
  cur : Cur B c w
  kept : Kept c w0 w
  atR : At w r #[.int .i64 x0, .int .i64 x1, .int .i64 x2, .int .i64 x3] 25
theorem WSt.done {B c r s : Nat} {w0 w : World} {x0 x1 x2 x3 : Int} (h : WSt B c r s w0 w x0 x1 x2 x3) :
    WFin B c r w0 ((((w.setCell ⟨r, 0, none⟩ (.int .i64 x0)).setCell ⟨r, 1, none⟩ (.int .i64 x1)).setCell ⟨r, 2, none⟩ (.int .i64 x2)).setCell ⟨r, 3, none⟩ (.int .i64 x3)) x0 x1 x2 x3 :=
  ⟨(((h.cur.other h.rc h.brge _).other h.rc h.brge _).other h.rc h.brge _).other h.rc h.brge _, (((h.kept.put h.rge _).put h.rge _).put h.rge _).put h.rge _, (((h.atR.set 0 _).set 1 _).set 2 _).set 3 _⟩
set_option maxHeartbeats 1000000 in
theorem word_any (B c : Nat) (w : World) (hc : Cur B c w) :
    Calls Try.prog 23 #[.pointer (some ⟨c, 0, none⟩)] w fun e w' => ∃ x0 x1 x2 x3 : Int, e = .returned (.agg #[.int .i64 x0, .int .i64 x1, .int .i64 x2, .int .i64 x3]) ∧ Cur B c w' ∧ Kept c w w' := by
  go_enter Try.func23, Try.ntmps23
  go_wp2_with fail
  have hb0 : Below w.heap.size w (w.alloc (Obj.cells #[.int .i64 0, .int .i64 0, .int .i64 0, .int .i64 0] 25)) := (Below.refl _ _).alloc (Nat.le_refl _) _
  have ar0 := At.new w #[.int .i64 0, .int .i64 0, .int .i64 0, .int .i64 0] 25
  have rc : w.heap.size ≠ c := by have := hc.lt; omega
  refine (below_any B c _ _ (hc.keep hb0) (by omega)).mono ?_
  rintro e w1 ⟨x0, rfl, -, hc1, k1⟩
  go_wp2_with fail
  refine (below_any B c _ _ hc1 (by omega)).mono ?_
  rintro e w2 ⟨x1, rfl, -, hc2, k2⟩
  go_wp2_with fail
  refine (below_any B c _ _ hc2 (by omega)).mono ?_
  rintro e w3 ⟨x2, rfl, -, hc3, k3⟩
  go_wp2_with fail
  refine (below_any B c _ _ hc3 (by omega)).mono ?_
  rintro e w4 ⟨x3, rfl, -, hc4, k4⟩
  have k5 := ((k1.trans k2).trans k3).trans k4
  have ar1 := ar0.kept k5 rc
  have k6 := (Kept.of_below (c := c) hb0).trans k5
  clear k1 k2 k3 k4 k5 hc1 hc2 hc3 ar0 hb0
  go_wp2_with fail
  have hb1 : Below w4.heap.size w4 (w4.alloc (Obj.cells #[.int .i64 x0, .int .i64 x1, .int .i64 x2, .int .i64 x3] 25)) := (Below.refl _ _).alloc (Nat.le_refl _) _
  have as0 := At.new w4 #[.int .i64 x0, .int .i64 x1, .int .i64 x2, .int .i64 x3] 25
  have sc : w4.heap.size ≠ c := by have := hc4.lt; omega
  have sr : w4.heap.size ≠ w.heap.size := by have := ar1.lt; omega
  have sge := k6.size
  refine (once_any B c _ _ (hc4.keep hb1) (by omega)).mono ?_
  rintro e w5 ⟨v1, rfl, hc5, k7⟩
  have st : WSt B c w.heap.size w4.heap.size w w5 x0 x1 x2 x3 := ⟨hc5, (k6.trans (Kept.of_below hb1)).trans k7, as0.kept k7 sc, (ar1.keep hb1).kept k7 rc, rc, sc, sr, Nat.le_refl _, sge, by have := hc4.ge; have := hc4.lt; omega, by have := hc.ge; have := hc.lt; omega⟩
  clear hc4 hb1 as0 ar1 k6 k7 hc5 sc sr sge rc hc
  generalize w4.heap.size = s at *
  generalize w.heap.size = r at *
  cases v1
  · have st5 := st
    clear st
    go_wp2_with fail
    refine (once_any B c _ _ st5.cur (by omega)).mono ?_
    rintro e w9 ⟨v2, rfl, hc9, k11⟩
    have st6 := st5.go hc9 k11
    clear st5 hc9 k11
    cases v2
    · obtain ⟨d0, d1, d2, d3, g0, g1, g2, g3⟩ := st6.atS.four
      obtain ⟨r0, r1, r2, r3, q0, q1, q2, q3⟩ := st6.atR.four
      have fin := st6.done
      go_wp2
      generalize (((w9.setCell ⟨r, 0, none⟩ (.int .i64 x0)).setCell ⟨r, 1, none⟩ (.int .i64 x1)).setCell ⟨r, 2, none⟩ (.int .i64 x2)).setCell ⟨r, 3, none⟩ (.int .i64 x3) = wf at fin ⊢
      clear d0 d1 d2 d3 g0 g1 g2 g3 r0 r1 r2 r3 q0 q1 q2 q3
      obtain ⟨r0, r1, r2, r3, q0, q1, q2, q3⟩ := fin.atR.four
      refine bodyPost_ret (v := .agg #[.int .i64 x0, .int .i64 x1, .int .i64 x2, .int .i64 x3]) (by simp [results, Try.results23, go_sem, r0, r1, r2, r3]) rfl ?_
      exact ⟨_, _, _, _, rfl, fin.cur, fin.kept⟩
    · obtain ⟨c0, c1, c2, c3, f0, f1, f2, f3⟩ := st6.atS.four
      go_wp2_with fail
      refine (num_any B c _ _ st6.cur (by omega) (by omega)).mono ?_
      rintro e w10 ⟨a2, rfl, -, hc10, k12⟩
      have st7 := st6.go hc10 k12
      clear c0 c1 c2 c3 f0 f1 f2 f3
      obtain ⟨d0, d1, d2, d3, g0, g1, g2, g3⟩ := st7.atS.four
      go_wp2_with fail
      have st8 := st7.set2 a2
      generalize w10.setCell ⟨s, 2, none⟩ (.int .i64 a2) = w11 at st8 ⊢
      clear d0 d1 d2 d3 g0 g1 g2 g3
      refine (num_any B c _ _ st8.cur (by omega) (by omega)).mono ?_
      rintro e w12 ⟨a3, rfl, -, hc12, k13⟩
      have st9 := st8.go hc12 k13
      clear st6 st7 st8 hc10 k12 hc12 k13
      obtain ⟨d0, d1, d2, d3, g0, g1, g2, g3⟩ := st9.atS.four
      obtain ⟨r0, r1, r2, r3, q0, q1, q2, q3⟩ := st9.atR.four
      have sr := st9.sr
      have rs := Ne.symm st9.sr
      have fin := (st9.set3 a3).done
      go_wp2
      generalize ((((w12.setCell ⟨s, 3, none⟩ (.int .i64 a3)).setCell ⟨r, 0, none⟩ (.int .i64 x0)).setCell ⟨r, 1, none⟩ (.int .i64 x1)).setCell ⟨r, 2, none⟩ (.int .i64 a2)).setCell ⟨r, 3, none⟩ (.int .i64 a3) = wf at fin ⊢
      clear d0 d1 d2 d3 g0 g1 g2 g3 r0 r1 r2 r3 q0 q1 q2 q3
      obtain ⟨r0, r1, r2, r3, q0, q1, q2, q3⟩ := fin.atR.four
      refine bodyPost_ret (v := .agg #[.int .i64 x0, .int .i64 x1, .int .i64 a2, .int .i64 a3]) (by simp [results, Try.results23, go_sem, r0, r1, r2, r3]) rfl ?_
      exact ⟨_, _, _, _, rfl, fin.cur, fin.kept⟩
  · obtain ⟨c0, c1, c2, c3, f0, f1, f2, f3⟩ := st.atS.four
    go_wp2_with fail
    refine (num_any B c _ _ st.cur (by omega) (by omega)).mono ?_
    rintro e w6 ⟨a0, rfl, -, hc6, k9⟩
    have st2 := st.go hc6 k9
    obtain ⟨d0, d1, d2, d3, g0, g1, g2, g3⟩ := st2.atS.four
    go_wp2_with fail
    have st3 := st2.set0 a0
    generalize w6.setCell ⟨s, 0, none⟩ (.int .i64 a0) = w7 at st3 ⊢
    clear d0 d1 d2 d3 g0 g1 g2 g3 c0 c1 c2 c3 f0 f1 f2 f3
    refine (num_any B c _ _ st3.cur (by omega) (by omega)).mono ?_
    rintro e w8 ⟨a1, rfl, -, hc8, k10⟩
    have st4 := st3.go hc8 k10
    obtain ⟨d0, d1, d2, d3, g0, g1, g2, g3⟩ := st4.atS.four
    go_wp2_with fail
    have st5 := st4.set1 a1
    generalize w8.setCell ⟨s, 1, none⟩ (.int .i64 a1) = wr at st5 ⊢
    clear d0 d1 d2 d3 g0 g1 g2 g3 st st2 st3 st4 hc6 hc8 k9 k10
    refine (once_any B c _ _ st5.cur (by omega)).mono ?_
    rintro e w9 ⟨v2, rfl, hc9, k11⟩
    have st6 := st5.go hc9 k11
    clear st5 hc9 k11
    cases v2
    · obtain ⟨d0, d1, d2, d3, g0, g1, g2, g3⟩ := st6.atS.four
      obtain ⟨r0, r1, r2, r3, q0, q1, q2, q3⟩ := st6.atR.four
      have fin := st6.done
      go_wp2
      generalize (((w9.setCell ⟨r, 0, none⟩ (.int .i64 a0)).setCell ⟨r, 1, none⟩ (.int .i64 a1)).setCell ⟨r, 2, none⟩ (.int .i64 x2)).setCell ⟨r, 3, none⟩ (.int .i64 x3) = wf at fin ⊢
      clear d0 d1 d2 d3 g0 g1 g2 g3 r0 r1 r2 r3 q0 q1 q2 q3
      obtain ⟨r0, r1, r2, r3, q0, q1, q2, q3⟩ := fin.atR.four
      refine bodyPost_ret (v := .agg #[.int .i64 a0, .int .i64 a1, .int .i64 x2, .int .i64 x3]) (by simp [results, Try.results23, go_sem, r0, r1, r2, r3]) rfl ?_
      exact ⟨_, _, _, _, rfl, fin.cur, fin.kept⟩
    · obtain ⟨c0, c1, c2, c3, f0, f1, f2, f3⟩ := st6.atS.four
      go_wp2_with fail
      refine (num_any B c _ _ st6.cur (by omega) (by omega)).mono ?_
      rintro e w10 ⟨a2, rfl, -, hc10, k12⟩
      have st7 := st6.go hc10 k12
      clear c0 c1 c2 c3 f0 f1 f2 f3
      obtain ⟨d0, d1, d2, d3, g0, g1, g2, g3⟩ := st7.atS.four
      go_wp2_with fail
      have st8 := st7.set2 a2
      generalize w10.setCell ⟨s, 2, none⟩ (.int .i64 a2) = w11 at st8 ⊢
      clear d0 d1 d2 d3 g0 g1 g2 g3
      refine (num_any B c _ _ st8.cur (by omega) (by omega)).mono ?_
      rintro e w12 ⟨a3, rfl, -, hc12, k13⟩
      have st9 := st8.go hc12 k13
      clear st6 st7 st8 hc10 k12 hc12 k13
      obtain ⟨d0, d1, d2, d3, g0, g1, g2, g3⟩ := st9.atS.four
      obtain ⟨r0, r1, r2, r3, q0, q1, q2, q3⟩ := st9.atR.four
      have sr := st9.sr
      have rs := Ne.symm st9.sr
      have fin := (st9.set3 a3).done
      go_wp2
      generalize ((((w12.setCell ⟨s, 3, none⟩ (.int .i64 a3)).setCell ⟨r, 0, none⟩ (.int .i64 a0)).setCell ⟨r, 1, none⟩ (.int .i64 a1)).setCell ⟨r, 2, none⟩ (.int .i64 a2)).setCell ⟨r, 3, none⟩ (.int .i64 a3) = wf at fin ⊢
      clear d0 d1 d2 d3 g0 g1 g2 g3 r0 r1 r2 r3 q0 q1 q2 q3
      obtain ⟨r0, r1, r2, r3, q0, q1, q2, q3⟩ := fin.atR.four
      refine bodyPost_ret (v := .agg #[.int .i64 a0, .int .i64 a1, .int .i64 a2, .int .i64 a3]) (by simp [results, Try.results23, go_sem, r0, r1, r2, r3]) rfl ?_
      exact ⟨_, _, _, _, rfl, fin.cur, fin.kept⟩
theorem Row.up {B B' : Nat} {w w' : World} {a : Option Addr} {len : Nat} (h : Row B w a len) (hb : Below B w w') (hB : B ≤ B') : Row B' w' a len := by
  rcases h with rfl | ⟨b, off, rfl, hbb, hz⟩
  · exact .inl rfl
  · refine .inr ⟨b, off, rfl, by omega, fun j hj => ?_⟩
    obtain ⟨z, h1, h2⟩ := hz j hj
    exact ⟨z, (hb.cell (p := ⟨b, off + j, none⟩) hbb).trans h1, h2⟩
set_option maxHeartbeats 400000 in
theorem drawPack (a : Option Addr) (len cap : Nat) (w : World) (hl : len ≤ 4096) (hr : Row w.heap.size w a len) :
    Calls Try.prog 10 #[.slice a len cap] w fun e w' => ∃ x0 x1 x2 x3 : Int, e = .returned (.agg #[.int .i64 x0, .int .i64 x1, .int .i64 x2, .int .i64 x3]) ∧ Below w.heap.size w w' := by
  go_enter Try.func10, Try.ntmps10
  go_wp2_with fail
  have hb0 : Below w.heap.size w (w.alloc (Obj.cells #[.int .i64 0, .int .i64 0, .int .i64 0, .int .i64 0] 25)) := (Below.refl _ _).alloc (Nat.le_refl _) _
  have ar0 := At.new w #[.int .i64 0, .int .i64 0, .int .i64 0, .int .i64 0] 25
  refine (new_any a len cap _ hl (hr.up hb0 (by simp))).mono ?_
  rintro e w1 ⟨c, rfl, hc, b1⟩
  have ar1 := ar0.keep b1
  go_wp2_with fail
  refine (word_any _ c _ hc).mono ?_
  rintro e w2 ⟨x0, x1, x2, x3, rfl, hc2, k2⟩
  have rc : w.heap.size ≠ c := by have := hc.ge; simp at this; omega
  have ar2 := ar1.kept k2 rc
  have z : Below w.heap.size w w2 := (hb0.trans (b1.mono (by simp))).trans (k2.below (by have := hc.ge; simp at this; omega) (by have := b1.size; simp at this; omega))
  obtain ⟨r0, r1, r2, r3, q0, q1, q2, q3⟩ := ar2.four
  have fin := (((ar2.set 0 (.int .i64 x0)).set 1 (.int .i64 x1)).set 2 (.int .i64 x2)).set 3 (.int .i64 x3)
  have zf := (((z.setCell (p := ⟨w.heap.size, 0, none⟩) (Nat.le_refl _) (.int .i64 x0)).setCell (p := ⟨w.heap.size, 1, none⟩) (Nat.le_refl _) (.int .i64 x1)).setCell (p := ⟨w.heap.size, 2, none⟩) (Nat.le_refl _) (.int .i64 x2)).setCell (p := ⟨w.heap.size, 3, none⟩) (Nat.le_refl _) (.int .i64 x3)
  go_wp2
  generalize (((w2.setCell ⟨w.heap.size, 0, none⟩ (.int .i64 x0)).setCell ⟨w.heap.size, 1, none⟩ (.int .i64 x1)).setCell ⟨w.heap.size, 2, none⟩ (.int .i64 x2)).setCell ⟨w.heap.size, 3, none⟩ (.int .i64 x3) = wf at fin zf ⊢
  obtain ⟨t0, t1, t2, t3, -⟩ := At.four fin
  refine bodyPost_ret (v := .agg #[.int .i64 x0, .int .i64 x1, .int .i64 x2, .int .i64 x3]) (by simp [results, Try.results10, go_sem, t0, t1, t2, t3]) rfl ?_
  exact ⟨_, _, _, _, rfl, zf⟩
end Go.Proofs.Ytkfmlamokcgcdaa
