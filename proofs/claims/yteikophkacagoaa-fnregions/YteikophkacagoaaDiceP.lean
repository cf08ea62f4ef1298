/-
  The laws' own plan of dice: a right one, small.
-/
import Derived.Test.YteikophkacagoaaDice
import Derived.Test.YteikophkacagoaaPlan
namespace Go.Proofs.Yteikophkacagoaa
open Go.RowKit
set_option linter.unusedVariables false
theorem At.fiveD {w : World} {b : Nat} {x0 x1 x2 x3 x4 : Value} {t : TypeId} (h : At w b #[x0, x1, x2, x3, x4] t) :
    w.cell? ⟨b, 0, none⟩ = some x0 ∧ w.cell? ⟨b, 1, none⟩ = some x1 ∧ w.cell? ⟨b, 2, none⟩ = some x2 ∧ w.cell? ⟨b, 3, none⟩ = some x3 ∧ w.cell? ⟨b, 4, none⟩ = some x4 ∧
    w.frozen? ⟨b, 0, none⟩ = false ∧ w.frozen? ⟨b, 1, none⟩ = false ∧ w.frozen? ⟨b, 2, none⟩ = false ∧ w.frozen? ⟨b, 3, none⟩ = false ∧ w.frozen? ⟨b, 4, none⟩ = false :=
  ⟨h.cell 0, h.cell 1, h.cell 2, h.cell 3, h.cell 4, h.frozen 0, h.frozen 1, h.frozen 2, h.frozen 3, h.frozen 4⟩
/-- A right plan, small. -/
def okS (p s l c k : Int) : Prop := (1 ≤ p ∧ p ≤ 4) ∧ (2 ≤ s ∧ s ≤ 7) ∧ (0 ≤ l ∧ l ≤ 2) ∧ (1 ≤ c ∧ c ≤ 2) ∧ 1 ≤ k ∧ k ≤ 3
theorem okS.ok {p s l c k : Int} (h : okS p s l c k) : ok p s l c k = true := by unfold okS at h; exact ok_iff.2 (by omega)
theorem Dice.other {B c : Nat} {w : World} (h : Dice B c w) {p : Addr} (hp : p.block ≠ c) (hB : B ≤ p.block) (v : Value) : Dice B c (w.setCell p v) := by
  obtain ⟨ge, lt, a, len, cap, i, x, h0, h1, h2, f1, f2, hl, hr⟩ := h
  have e : (w.setCell p v).heap[c]? = w.heap[c]? := Below.heap_setCell _ _ _ _ (fun h => hp h.symm)
  have hcell : ∀ o, (w.setCell p v).cell? ⟨c, o, none⟩ = w.cell? ⟨c, o, none⟩ := fun o => World.cell?_of_block (w := w) e
  have hfr : ∀ o, (w.setCell p v).frozen? ⟨c, o, none⟩ = w.frozen? ⟨c, o, none⟩ := fun o => World.frozen?_of_block (w := w) e
  refine ⟨ge, by simpa [World.setCell] using lt, a, len, cap, i, x, (hcell 0).trans h0, (hcell 1).trans h1, (hcell 2).trans h2, (hfr 1).trans f1, (hfr 2).trans f2, hl, ?_⟩
  rcases hr with rfl | ⟨b, off, rfl, hbb, hz⟩
  · exact .inl rfl
  · refine .inr ⟨b, off, rfl, hbb, fun j hj => ?_⟩
    obtain ⟨z, h1, h2⟩ := hz j hj
    exact ⟨z, (World.cell?_of_block (w := w) (Below.heap_setCell _ _ _ _ (by show b ≠ _; omega))).trans h1, h2⟩
theorem pFin {B c r : Nat} {w0 w1 : World} {T : Array Value} {t : TypeId} {x0 x1 x2 x3 x4 : Value} (R : At w1 r #[x0, x1, x2, x3, x4] t) (D : Dice B c w1) (K : Kept c w0 w1) (rc : r ≠ c) (hB : B ≤ r) (hr : w0.heap.size ≤ r) (hT : T[2]?.getD undef = .pointer (some ⟨r, 0, none⟩)) {y0 y1 y2 y3 y4 : Int} (hQ : okS y0 y1 y2 y3 y4) :
    bodyPost Try.prog Try.f23 (fun e w' => ∃ p s l c' k : Int, e = .returned (.agg #[.int .i64 p, .int .i64 s, .int .i64 l, .int .i64 c', .int .i64 k]) ∧ okS p s l c' k ∧ Dice B c w' ∧ Kept c w0 w') .ret ⟨T, []⟩ (((((w1.setCell ⟨r, 0, none⟩ (.int .i64 y0)).setCell ⟨r, 1, none⟩ (.int .i64 y1)).setCell ⟨r, 2, none⟩ (.int .i64 y2)).setCell ⟨r, 3, none⟩ (.int .i64 y3)).setCell ⟨r, 4, none⟩ (.int .i64 y4)) := by
  have fin : At (((((w1.setCell ⟨r, 0, none⟩ (.int .i64 y0)).setCell ⟨r, 1, none⟩ (.int .i64 y1)).setCell ⟨r, 2, none⟩ (.int .i64 y2)).setCell ⟨r, 3, none⟩ (.int .i64 y3)).setCell ⟨r, 4, none⟩ (.int .i64 y4)) r #[.int .i64 y0, .int .i64 y1, .int .i64 y2, .int .i64 y3, .int .i64 y4] t := ((((R.set 0 _).set 1 _).set 2 _).set 3 _).set 4 _
  obtain ⟨r0, r1, r2, r3, r4, -⟩ := fin.fiveD
  exact bodyPost_ret (v := .agg #[.int .i64 y0, .int .i64 y1, .int .i64 y2, .int .i64 y3, .int .i64 y4]) (by simp [results, Try.results23, go_sem, hT, r0, r1, r2, r3, r4]) rfl ⟨_, _, _, _, _, rfl, hQ, ((((D.other rc hB _).other rc hB _).other rc hB _).other rc hB _).other rc hB _, ((((K.put hr _).put hr _).put hr _).put hr _).put hr _⟩
set_option maxHeartbeats 1000000 in
theorem plan_dice (B c : Nat) (w : World) (hc : Dice B c w) :
    Calls Try.prog 23 #[.pointer (some ⟨c, 0, none⟩)] w fun e w' => ∃ p s l c' k : Int, e = .returned (.agg #[.int .i64 p, .int .i64 s, .int .i64 l, .int .i64 c', .int .i64 k]) ∧ okS p s l c' k ∧ Dice B c w' ∧ Kept c w w' := by
  go_enter Try.func23, Try.ntmps23
  go_wp2_with fail
  have hb0 : Below w.heap.size w (w.alloc (Obj.cells #[.int .i64 0, .int .i64 0, .int .i64 0, .int .i64 0, .int .i64 0] 25)) := (Below.refl _ _).alloc (Nat.le_refl _) _
  have ar := At.new w #[.int .i64 0, .int .i64 0, .int .i64 0, .int .i64 0, .int .i64 0] 25
  have rc : w.heap.size ≠ c := by have := hc.lt; omega
  have hcb := hc.ge
  have hcl := hc.lt
  have k0 := Kept.of_below (c := c) hb0
  have hc0 := hc.keep hb0
  clear hc hb0
  refine (throw_any B c _ _ hc0 (by omega) (by omega)).mono ?_
  rintro e w1 ⟨x0, rfl, e0, hc1, k1⟩
  replace ar := ar.kept k1 rc
  replace k0 := k0.trans k1
  clear hc0 k1
  have hc0 := hc1
  clear hc1
  go_wp2_with fail
  refine (throw_any B c _ _ hc0 (by omega) (by omega)).mono ?_
  rintro e w1 ⟨x1, rfl, e1, hc1, k1⟩
  replace ar := ar.kept k1 rc
  replace k0 := k0.trans k1
  clear hc0 k1
  have hc0 := hc1
  clear hc1
  go_wp2_with fail
  refine (throw_any B c _ _ hc0 (by omega) (by omega)).mono ?_
  rintro e w1 ⟨x2, rfl, e2, hc1, k1⟩
  replace ar := ar.kept k1 rc
  replace k0 := k0.trans k1
  clear hc0 k1
  have hc0 := hc1
  clear hc1
  go_wp2_with fail
  refine (throw_any B c _ _ hc0 (by omega) (by omega)).mono ?_
  rintro e w1 ⟨x3, rfl, e3, hc1, k1⟩
  replace ar := ar.kept k1 rc
  replace k0 := k0.trans k1
  clear hc0 k1
  have hc0 := hc1
  clear hc1
  go_wp2_with fail
  refine (throw_any B c _ _ hc0 (by omega) (by omega)).mono ?_
  rintro e w1 ⟨x4, rfl, e4, hc1, k1⟩
  replace ar := ar.kept k1 rc
  replace k0 := k0.trans k1
  clear hc0 k1
  have hc0 := hc1
  clear hc1
  obtain ⟨c0, c1, c2, c3, c4, f0, f1, f2, f3, f4⟩ := ar.fiveD
  go_wp2
  exact pFin ar hc0 k0 rc (by omega) (Nat.le_refl _) (by rfl) (by unfold okS; omega)
end Go.Proofs.Yteikophkacagoaa
