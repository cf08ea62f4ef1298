/-
  The model's draw of a plan and a place.
-/
import Derived.Test.YteikophkacagoaaDrawP
import Derived.Test.YteikophkacagoaaRowUp
import Derived.Test.YteikophkacagoaaPlan3
namespace Go.Proofs.Yteikophkacagoaa
open Go.RowKit
set_option linter.unusedVariables false
set_option maxHeartbeats 400000 in
theorem from_any (B c : Nat) (lo hi : Int) (w : World) (hc : Cur B c w) (h0 : -1000000 ≤ lo) (h1 : lo ≤ hi) (h2 : hi ≤ 1000000) :
    Calls Try.prog 42 #[.pointer (some ⟨c, 0, none⟩), .int .i64 lo, .int .i64 hi] w fun e w' => ∃ v : Int, e = .returned (.int .i64 v) ∧ (lo ≤ v ∧ v ≤ hi) ∧ Cur B c w' ∧ Kept c w w' := by
  go_enter Try.func42, Try.ntmps42
  go_wp2_with fail
  refine (below_any B c _ _ hc (by omega)).mono ?_
  rintro e w1 ⟨v, rfl, ⟨v0, v1, -⟩, hc1, k1⟩
  replace v1 := v1 (by omega)
  go_wp2
  go_ret
  exact ⟨_, rfl, by omega, hc1, k1⟩
set_option maxHeartbeats 400000 in
theorem max_any (a b : Int) (w : World) :
    Calls Try.prog 43 #[.int .i64 a, .int .i64 b] w fun e w' => (∃ v : Int, e = .returned (.int .i64 v) ∧ ((v = a ∧ b < a) ∨ (v = b ∧ a ≤ b))) ∧ w' = w := by
  by_cases h : b < a
  all_goals
    go_enter Try.func43, Try.ntmps43
    go_wp2
    go_ret
    exact ⟨⟨_, rfl, by omega⟩, rfl⟩
theorem vSize_bd (p s l c k : Int) : -1 ≤ vSize p s l c k ∧ vSize p s l c k ≤ 6000 := by
  unfold vSize
  split
  · rename_i h
    have h' := ok_iff.1 h
    have hq := sq_bd h'.1 h'.2.1
    unfold zF
    omega
  · omega
theorem rFin {w0 w1 : World} {B r : Nat} {T : Array Value} {t : TypeId} {x0 x1 x2 x3 x4 : Value} (R : At w1 r #[x0, x1, x2, x3, x4] t) (z : Below B w0 w1) (hB : B ≤ r) (hT : T[2]?.getD undef = .pointer (some ⟨r, 0, none⟩)) {y0 y1 y2 y3 y4 n : Int} (hN : T[3]?.getD undef = .int .i64 n) :
    bodyPost Try.prog Try.f15 (fun e w' => ∃ p s l c k n : Int, e = .returned (.tuple #[.agg #[.int .i64 p, .int .i64 s, .int .i64 l, .int .i64 c, .int .i64 k], .int .i64 n]) ∧ Below B w0 w') .ret ⟨T, []⟩ (((((w1.setCell ⟨r, 0, none⟩ (.int .i64 y0)).setCell ⟨r, 1, none⟩ (.int .i64 y1)).setCell ⟨r, 2, none⟩ (.int .i64 y2)).setCell ⟨r, 3, none⟩ (.int .i64 y3)).setCell ⟨r, 4, none⟩ (.int .i64 y4)) := by
  have fin : At (((((w1.setCell ⟨r, 0, none⟩ (.int .i64 y0)).setCell ⟨r, 1, none⟩ (.int .i64 y1)).setCell ⟨r, 2, none⟩ (.int .i64 y2)).setCell ⟨r, 3, none⟩ (.int .i64 y3)).setCell ⟨r, 4, none⟩ (.int .i64 y4)) r #[.int .i64 y0, .int .i64 y1, .int .i64 y2, .int .i64 y3, .int .i64 y4] t := ((((R.set 0 _).set 1 _).set 2 _).set 3 _).set 4 _
  obtain ⟨r0, r1, r2, r3, r4, -⟩ := fin.five
  exact bodyPost_ret (v := .tuple #[.agg #[.int .i64 y0, .int .i64 y1, .int .i64 y2, .int .i64 y3, .int .i64 y4], .int .i64 n]) (by simp [results, Try.results15, go_sem, hT, hN, r0, r1, r2, r3, r4]) rfl ⟨_, _, _, _, _, _, rfl, ((((z.setCell (p := ⟨r, 0, none⟩) hB _).setCell (p := ⟨r, 1, none⟩) hB _).setCell (p := ⟨r, 2, none⟩) hB _).setCell (p := ⟨r, 3, none⟩) hB _).setCell (p := ⟨r, 4, none⟩) hB _⟩
set_option maxHeartbeats 1000000 in
theorem drawRegionOf (a : Option Addr) (len cap : Nat) (w : World) (hl : len ≤ 4096) (hr : Row w.heap.size w a len) :
    Calls Try.prog 15 #[.slice a len cap] w fun e w' => ∃ p s l c k n : Int, e = .returned (.tuple #[.agg #[.int .i64 p, .int .i64 s, .int .i64 l, .int .i64 c, .int .i64 k], .int .i64 n]) ∧ Below w.heap.size w w' := by
  go_enter Try.func15, Try.ntmps15
  go_wp2_with fail
  have hb0 : Below w.heap.size w (w.alloc (Obj.cells #[.int .i64 0, .int .i64 0, .int .i64 0, .int .i64 0, .int .i64 0] 25)) := (Below.refl _ _).alloc (Nat.le_refl _) _
  have ar := At.new w #[.int .i64 0, .int .i64 0, .int .i64 0, .int .i64 0, .int .i64 0] 25
  refine (new_any a len cap _ hl (hr.up hb0 hb0.size)).mono ?_
  rintro e w1 ⟨c, rfl, hc, b1⟩
  replace ar := ar.keep b1
  have z := hb0.trans (b1.mono hb0.size)
  have hcg := hc.ge
  have rc : w.heap.size ≠ c := by simp at hcg; omega
  have cg : w.heap.size ≤ c := by simp at hcg; omega
  clear hb0 b1 hr
  generalize (w.alloc (Obj.cells #[.int .i64 0, .int .i64 0, .int .i64 0, .int .i64 0, .int .i64 0] 25)).heap.size = B at *
  go_wp2_with fail
  refine (plan_any _ c _ hc).mono ?_
  rintro e w2 ⟨x0, x1, x2, x3, x4, rfl, -, hc2, k2⟩
  replace ar := ar.kept k2 rc
  replace z := z.trans (k2.below cg z.size)
  clear hc k2
  go_wp2_with fail
  have hb1 : Below w2.heap.size w2 (w2.alloc (Obj.cells #[.int .i64 x0, .int .i64 x1, .int .i64 x2, .int .i64 x3, .int .i64 x4] 25)) := (Below.refl _ _).alloc (Nat.le_refl _) _
  have as0 := At.new w2 #[.int .i64 x0, .int .i64 x1, .int .i64 x2, .int .i64 x3, .int .i64 x4] 25
  have sc : w2.heap.size ≠ c := by have := hc2.lt; omega
  have sr : w2.heap.size ≠ w.heap.size := by have := ar.lt; omega
  replace ar := ar.keep hb1
  replace z := z.trans (hb1.mono z.size)
  replace hc2 := hc2.keep hb1
  clear hb1
  refine (below_any _ c _ _ hc2 (by omega)).mono ?_
  rintro e w3 ⟨n, rfl, -, hc3, k3⟩
  replace ar := ar.kept k3 rc
  replace as0 := as0.kept k3 sc
  replace z := z.trans (k3.below cg z.size)
  clear hc2 k3
  go_wp2_with fail
  refine (once_any _ c _ _ hc3 (by omega)).mono ?_
  rintro e w4 ⟨v, rfl, hc4, k4⟩
  replace ar := ar.kept k4 rc
  replace as0 := as0.kept k4 sc
  replace z := z.trans (k4.below cg z.size)
  clear hc3 k4
  generalize w2.heap.size = s at *
  obtain ⟨c0, c1, c2, c3, c4, f0, f1, f2, f3, f4⟩ := as0.five
  cases v
  · obtain ⟨d0, d1, d2, d3, d4, g0, g1, g2, g3, g4⟩ := ar.five
    go_wp2
    exact rFin ar z (Nat.le_refl _) (by rfl) (by rfl)
  · go_wp2_with fail
    refine (sSize _ _ _ _ _ _).mono ?_
    rintro e w5 ⟨rfl, b5⟩
    replace ar := ar.keep b5
    replace as0 := as0.keep b5
    replace z := z.trans (b5.mono z.size)
    have hc5 := hc4.keep b5
    clear b5 hc4 c0 c1 c2 c3 c4 f0 f1 f2 f3 f4
    have hbd := vSize_bd x0 x1 x2 x3 x4
    generalize vSize x0 x1 x2 x3 x4 = sz at *
    go_wp2_with fail
    refine (max_any _ _ _).mono ?_
    rintro e w6 ⟨⟨m, rfl, hm⟩, rfl⟩
    have hm' : 0 ≤ m ∧ m ≤ 6000 := by omega
    clear hm
    go_wp2_with fail
    refine (from_any _ c _ _ _ hc5 (by omega) (by omega) (by omega)).mono ?_
    rintro e w7 ⟨n2, rfl, -, hc7, k7⟩
    replace ar := ar.kept k7 rc
    replace as0 := as0.kept k7 sc
    replace z := z.trans (k7.below cg z.size)
    obtain ⟨c0, c1, c2, c3, c4, f0, f1, f2, f3, f4⟩ := as0.five
    obtain ⟨d0, d1, d2, d3, d4, g0, g1, g2, g3, g4⟩ := ar.five
    go_wp2
    exact rFin ar z (Nat.le_refl _) (by rfl) (by rfl)
end Go.Proofs.Yteikophkacagoaa
