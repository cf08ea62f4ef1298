/-
  The model's draws of plans: a right one, and any one; each moves the cursor alone.
-/
import Derived.Test.YtmldeigbaafclaaAt
import Derived.Test.YtmldeigbaafclaaOdd
import Derived.Test.YtmldeigbaafclaaPlan
import Derived.Deep.Cut
namespace Go.Proofs.Ytmldeigbaafclaa
open Go.RowKit
set_option linter.unusedVariables false
/-- The state of a struct's draw: the cursor, the struct's cells, the result's cells. -/
structure DSt (B c r s : Nat) (w0 w : World) (cs rs : Array Value) (t : TypeId) : Prop where
  cur : Cur B c w
  kept : Kept c w0 w
  atS : At w s cs t
  atR : At w r rs t
  rc : r ≠ c
  sc : s ≠ c
  sr : s ≠ r
  rge : w0.heap.size ≤ r
  sge : w0.heap.size ≤ s
  bge : B ≤ s
  brge : B ≤ r
theorem DSt.go {B c r s : Nat} {w0 w w' : World} {cs rs : Array Value} {t : TypeId} (h : DSt B c r s w0 w cs rs t) (hc : Cur B c w') (k : Kept c w w') : DSt B c r s w0 w' cs rs t :=
  ⟨hc, h.kept.trans k, h.atS.kept k h.sc, h.atR.kept k h.rc, h.rc, h.sc, h.sr, h.rge, h.sge, h.bge, h.brge⟩
theorem DSt.set {B c r s : Nat} {w0 w : World} {cs rs : Array Value} {t : TypeId} (h : DSt B c r s w0 w cs rs t) (i : Nat) (y : Value) : DSt B c r s w0 (w.setCell ⟨s, i, none⟩ y) (cs.setIfInBounds i y) rs t :=
  ⟨h.cur.other h.sc h.bge _, h.kept.put h.sge _, h.atS.set i _, h.atR.other (Ne.symm h.sr) _, h.rc, h.sc, h.sr, h.rge, h.sge, h.bge, h.brge⟩
theorem DSt.setR {B c r s : Nat} {w0 w : World} {cs rs : Array Value} {t : TypeId} (h : DSt B c r s w0 w cs rs t) (i : Nat) (y : Value) : DSt B c r s w0 (w.setCell ⟨r, i, none⟩ y) cs (rs.setIfInBounds i y) t :=
  ⟨h.cur.other h.rc h.brge _, h.kept.put h.rge _, h.atS.other h.sr _, h.atR.set i _, h.rc, h.sc, h.sr, h.rge, h.sge, h.bge, h.brge⟩
theorem At.five {w : World} {b : Nat} {x0 x1 x2 x3 x4 : Value} {t : TypeId} (h : At w b #[x0, x1, x2, x3, x4] t) :
    w.cell? ⟨b, 0, none⟩ = some x0 ∧ w.cell? ⟨b, 1, none⟩ = some x1 ∧ w.cell? ⟨b, 2, none⟩ = some x2 ∧ w.cell? ⟨b, 3, none⟩ = some x3 ∧ w.cell? ⟨b, 4, none⟩ = some x4 ∧
    w.frozen? ⟨b, 0, none⟩ = false ∧ w.frozen? ⟨b, 1, none⟩ = false ∧ w.frozen? ⟨b, 2, none⟩ = false ∧ w.frozen? ⟨b, 3, none⟩ = false ∧ w.frozen? ⟨b, 4, none⟩ = false :=
  ⟨h.cell 0, h.cell 1, h.cell 2, h.cell 3, h.cell 4, h.frozen 0, h.frozen 1, h.frozen 2, h.frozen 3, h.frozen 4⟩
theorem DSt.allR {B c r s : Nat} {w0 w : World} {cs : Array Value} {x0 x1 x2 x3 x4 : Value} {t : TypeId} (h : DSt B c r s w0 w cs #[x0, x1, x2, x3, x4] t) (y0 y1 y2 y3 y4 : Value) :
    DSt B c r s w0 (((((w.setCell ⟨r, 0, none⟩ y0).setCell ⟨r, 1, none⟩ y1).setCell ⟨r, 2, none⟩ y2).setCell ⟨r, 3, none⟩ y3).setCell ⟨r, 4, none⟩ y4) cs #[y0, y1, y2, y3, y4] t :=
  ((((h.setR 0 y0).setR 1 y1).setR 2 y2).setR 3 y3).setR 4 y4
theorem DSt.allS {B c r s : Nat} {w0 w : World} {rs : Array Value} {x0 x1 x2 x3 x4 : Value} {t : TypeId} (h : DSt B c r s w0 w #[x0, x1, x2, x3, x4] rs t) (y0 y1 y2 y3 y4 : Value) :
    DSt B c r s w0 (((((w.setCell ⟨s, 0, none⟩ y0).setCell ⟨s, 1, none⟩ y1).setCell ⟨s, 2, none⟩ y2).setCell ⟨s, 3, none⟩ y3).setCell ⟨s, 4, none⟩ y4) #[y0, y1, y2, y3, y4] rs t :=
  ((((h.set 0 y0).set 1 y1).set 2 y2).set 3 y3).set 4 y4
theorem dFin {B c r s : Nat} {w0 w1 : World} {cs : Array Value} {T : Array Value} {t : TypeId} {x0 x1 x2 x3 x4 : Value} (st : DSt B c r s w0 w1 cs #[x0, x1, x2, x3, x4] t) (hT : T[2]?.getD undef = .pointer (some ⟨r, 0, none⟩)) {y0 y1 y2 y3 y4 : Int} {Q : Int → Int → Int → Int → Int → Prop} (hQ : Q y0 y1 y2 y3 y4) :
    bodyPost Try.prog Try.f54 (fun e w' => ∃ p s l c' k : Int, e = .returned (.agg #[.int .i64 p, .int .i64 s, .int .i64 l, .int .i64 c', .int .i64 k]) ∧ Q p s l c' k ∧ Cur B c w' ∧ Kept c w0 w') .ret ⟨T, []⟩ (((((w1.setCell ⟨r, 0, none⟩ (.int .i64 y0)).setCell ⟨r, 1, none⟩ (.int .i64 y1)).setCell ⟨r, 2, none⟩ (.int .i64 y2)).setCell ⟨r, 3, none⟩ (.int .i64 y3)).setCell ⟨r, 4, none⟩ (.int .i64 y4)) := by
  have fin := st.allR (.int .i64 y0) (.int .i64 y1) (.int .i64 y2) (.int .i64 y3) (.int .i64 y4)
  obtain ⟨r0, r1, r2, r3, r4, -⟩ := fin.atR.five
  exact bodyPost_ret (v := .agg #[.int .i64 y0, .int .i64 y1, .int .i64 y2, .int .i64 y3, .int .i64 y4]) (by simp [results, Try.results54, go_sem, hT, r0, r1, r2, r3, r4]) rfl ⟨_, _, _, _, _, rfl, hQ, fin.cur, fin.kept⟩
theorem aFin {B c r s : Nat} {w0 w1 : World} {cs : Array Value} {T : Array Value} {t : TypeId} {x0 x1 x2 x3 x4 : Value} (st : DSt B c r s w0 w1 cs #[x0, x1, x2, x3, x4] t) (hT : T[2]?.getD undef = .pointer (some ⟨r, 0, none⟩)) {y0 y1 y2 y3 y4 : Int} {Q : Int → Int → Int → Int → Int → Prop} (hQ : Q y0 y1 y2 y3 y4) :
    bodyPost Try.prog Try.f35 (fun e w' => ∃ p s l c' k : Int, e = .returned (.agg #[.int .i64 p, .int .i64 s, .int .i64 l, .int .i64 c', .int .i64 k]) ∧ Q p s l c' k ∧ Cur B c w' ∧ Kept c w0 w') .ret ⟨T, []⟩ (((((w1.setCell ⟨r, 0, none⟩ (.int .i64 y0)).setCell ⟨r, 1, none⟩ (.int .i64 y1)).setCell ⟨r, 2, none⟩ (.int .i64 y2)).setCell ⟨r, 3, none⟩ (.int .i64 y3)).setCell ⟨r, 4, none⟩ (.int .i64 y4)) := by
  have fin := st.allR (.int .i64 y0) (.int .i64 y1) (.int .i64 y2) (.int .i64 y3) (.int .i64 y4)
  obtain ⟨r0, r1, r2, r3, r4, -⟩ := fin.atR.five
  exact bodyPost_ret (v := .agg #[.int .i64 y0, .int .i64 y1, .int .i64 y2, .int .i64 y3, .int .i64 y4]) (by simp [results, Try.results35, go_sem, hT, r0, r1, r2, r3, r4]) rfl ⟨_, _, _, _, _, rfl, hQ, fin.cur, fin.kept⟩
set_option maxHeartbeats 1000000 in
theorem plan_right (B c : Nat) (w : World) (hc : Cur B c w) :
    Calls Try.prog 54 #[.pointer (some ⟨c, 0, none⟩)] w fun e w' => ∃ p s l c' k : Int, e = .returned (.agg #[.int .i64 p, .int .i64 s, .int .i64 l, .int .i64 c', .int .i64 k]) ∧ ok p s l c' k = true ∧ Cur B c w' ∧ Kept c w w' := by
  go_enter Try.func54, Try.ntmps54
  go_wp2_with fail
  have hb0 : Below w.heap.size w (w.alloc (Obj.cells #[.int .i64 0, .int .i64 0, .int .i64 0, .int .i64 0, .int .i64 0] 25)) := (Below.refl _ _).alloc (Nat.le_refl _) _
  have ar := At.new w #[.int .i64 0, .int .i64 0, .int .i64 0, .int .i64 0, .int .i64 0] 25
  have rc : w.heap.size ≠ c := by have := hc.lt; omega
  have hcb := hc.ge
  have hcl := hc.lt
  have k0 := Kept.of_below (c := c) hb0
  have hc0 := hc.keep hb0
  clear hc hb0
  refine (below_any B c _ _ hc0 (by omega)).mono ?_
  rintro e w1 ⟨x0, rfl, ⟨u0, u1, -⟩, hc1, k1⟩
  replace u1 := u1 (by omega)
  replace ar := ar.kept k1 rc
  replace k0 := k0.trans k1
  clear hc0 k1
  have hc0 := hc1
  have e0 : 0 ≤ x0 ∧ x0 < 4 := ⟨u0, u1⟩
  clear hc1 u0 u1
  go_wp2_with fail
  refine (below_any B c _ _ hc0 (by omega)).mono ?_
  rintro e w1 ⟨x1, rfl, ⟨u0, u1, -⟩, hc1, k1⟩
  replace u1 := u1 (by omega)
  replace ar := ar.kept k1 rc
  replace k0 := k0.trans k1
  clear hc0 k1
  have hc0 := hc1
  have e1 : 0 ≤ x1 ∧ x1 < 6 := ⟨u0, u1⟩
  clear hc1 u0 u1
  go_wp2_with fail
  refine (below_any B c _ _ hc0 (by omega)).mono ?_
  rintro e w1 ⟨x2, rfl, ⟨u0, u1, -⟩, hc1, k1⟩
  replace u1 := u1 (by omega)
  replace ar := ar.kept k1 rc
  replace k0 := k0.trans k1
  clear hc0 k1
  have hc0 := hc1
  have e2 : 0 ≤ x2 ∧ x2 < 3 := ⟨u0, u1⟩
  clear hc1 u0 u1
  go_wp2_with fail
  refine (below_any B c _ _ hc0 (by omega)).mono ?_
  rintro e w1 ⟨x3, rfl, ⟨u0, u1, -⟩, hc1, k1⟩
  replace u1 := u1 (by omega)
  replace ar := ar.kept k1 rc
  replace k0 := k0.trans k1
  clear hc0 k1
  have hc0 := hc1
  have e3 : 0 ≤ x3 ∧ x3 < 2 := ⟨u0, u1⟩
  clear hc1 u0 u1
  go_wp2_with fail
  refine (below_any B c _ _ hc0 (by omega)).mono ?_
  rintro e w1 ⟨x4, rfl, ⟨u0, u1, -⟩, hc1, k1⟩
  replace u1 := u1 (by omega)
  replace ar := ar.kept k1 rc
  replace k0 := k0.trans k1
  clear hc0 k1
  have hc0 := hc1
  have e4 : 0 ≤ x4 ∧ x4 < 3 := ⟨u0, u1⟩
  clear hc1 u0 u1
  go_wp2_with fail
  have hb1 : Below w1.heap.size w1 (w1.alloc (Obj.cells #[.int .i64 (1 + x0), .int .i64 (1 + x1), .int .i64 x2, .int .i64 (1 + x3), .int .i64 (1 + x4)] 25)) := (Below.refl _ _).alloc (Nat.le_refl _) _
  have as0 := At.new w1 #[.int .i64 (1 + x0), .int .i64 (1 + x1), .int .i64 x2, .int .i64 (1 + x3), .int .i64 (1 + x4)] 25
  have sc : w1.heap.size ≠ c := by have := hc0.lt; omega
  have sr : w1.heap.size ≠ w.heap.size := by have := ar.lt; omega
  have sge := k0.size
  refine (once_any B c _ _ (hc0.keep hb1) (by omega)).mono ?_
  rintro e w5 ⟨v1, rfl, hc5, k7⟩
  have st : DSt B c w.heap.size w1.heap.size w w5 #[.int .i64 (1 + x0), .int .i64 (1 + x1), .int .i64 x2, .int .i64 (1 + x3), .int .i64 (1 + x4)] #[.int .i64 0, .int .i64 0, .int .i64 0, .int .i64 0, .int .i64 0] 25 := ⟨hc5, (k0.trans (Kept.of_below hb1)).trans k7, as0.kept k7 sc, (ar.keep hb1).kept k7 rc, rc, sc, sr, Nat.le_refl _, sge, by omega, by omega⟩
  clear hc0 hb1 as0 ar k0 k7 hc5 sc sr sge rc
  generalize w1.heap.size = s at *
  generalize w.heap.size = r at *
  cases v1
  · obtain ⟨c0, c1, c2, c3, c4, f0, f1, f2, f3, f4⟩ := st.atS.five
    obtain ⟨d0, d1, d2, d3, d4, g0, g1, g2, g3, g4⟩ := st.atR.five
    go_wp2
    exact dFin st (by rfl) (ok_iff.2 (by omega))
  · obtain ⟨c0, c1, c2, c3, c4, f0, f1, f2, f3, f4⟩ := st.atS.five
    obtain ⟨d0, d1, d2, d3, d4, g0, g1, g2, g3, g4⟩ := st.atR.five
    have sr := st.sr
    have rs := Ne.symm st.sr
    go_upto_region 4 with fail
    have st2 := st.allS (.int .i64 64) (.int .i64 200) (.int .i64 50) (.int .i64 8) (.int .i64 32)
    clear c0 c1 c2 c3 c4 f0 f1 f2 f3 f4 d0 d1 d2 d3 d4 g0 g1 g2 g3 g4
    clear st
    generalize (((((w5.setCell ⟨s, 0, none⟩ (.int .i64 64)).setCell ⟨s, 1, none⟩ (.int .i64 200)).setCell ⟨s, 2, none⟩ (.int .i64 50)).setCell ⟨s, 3, none⟩ (.int .i64 8)).setCell ⟨s, 4, none⟩ (.int .i64 32)) = w6 at st2 ⊢
    obtain ⟨c0, c1, c2, c3, c4, f0, f1, f2, f3, f4⟩ := st2.atS.five
    obtain ⟨d0, d1, d2, d3, d4, g0, g1, g2, g3, g4⟩ := st2.atR.five
    go_wp2
    exact dFin st2 (by rfl) (ok_iff.2 (by omega))
set_option maxHeartbeats 2000000 in
theorem plan_any (B c : Nat) (w : World) (hc : Cur B c w) :
    Calls Try.prog 35 #[.pointer (some ⟨c, 0, none⟩)] w fun e w' => ∃ p s l c' k : Int, e = .returned (.agg #[.int .i64 p, .int .i64 s, .int .i64 l, .int .i64 c', .int .i64 k]) ∧ True ∧ Cur B c w' ∧ Kept c w w' := by
  go_enter Try.func35, Try.ntmps35
  go_wp2_with fail
  have hb0 : Below w.heap.size w (w.alloc (Obj.cells #[.int .i64 0, .int .i64 0, .int .i64 0, .int .i64 0, .int .i64 0] 25)) := (Below.refl _ _).alloc (Nat.le_refl _) _
  have ar := At.new w #[.int .i64 0, .int .i64 0, .int .i64 0, .int .i64 0, .int .i64 0] 25
  have rc : w.heap.size ≠ c := by have := hc.lt; omega
  have hcb := hc.ge
  have hcl := hc.lt
  refine (plan_right B c _ (hc.keep hb0)).mono ?_
  rintro e w1 ⟨x0, x1, x2, x3, x4, rfl, -, hc0, k1⟩
  replace ar := ar.kept k1 rc
  have k0 := (Kept.of_below (c := c) hb0).trans k1
  clear hc hb0 k1
  go_wp2_with fail
  have hb1 : Below w1.heap.size w1 (w1.alloc (Obj.cells #[.int .i64 x0, .int .i64 x1, .int .i64 x2, .int .i64 x3, .int .i64 x4] 25)) := (Below.refl _ _).alloc (Nat.le_refl _) _
  have as0 := At.new w1 #[.int .i64 x0, .int .i64 x1, .int .i64 x2, .int .i64 x3, .int .i64 x4] 25
  have sc : w1.heap.size ≠ c := by have := hc0.lt; omega
  have sr : w1.heap.size ≠ w.heap.size := by have := ar.lt; omega
  have sge := k0.size
  refine (once_any B c _ _ (hc0.keep hb1) (by omega)).mono ?_
  rintro e w5 ⟨v1, rfl, hc5, k7⟩
  have st : DSt B c w.heap.size w1.heap.size w w5 #[.int .i64 x0, .int .i64 x1, .int .i64 x2, .int .i64 x3, .int .i64 x4] #[.int .i64 0, .int .i64 0, .int .i64 0, .int .i64 0, .int .i64 0] 25 := ⟨hc5, (k0.trans (Kept.of_below hb1)).trans k7, as0.kept k7 sc, (ar.keep hb1).kept k7 rc, rc, sc, sr, Nat.le_refl _, sge, by omega, by omega⟩
  clear hc0 hb1 as0 ar k0 k7 hc5 sc sr sge rc
  generalize w1.heap.size = s at *
  generalize w.heap.size = r at *
  cases v1
  · obtain ⟨c0, c1, c2, c3, c4, f0, f1, f2, f3, f4⟩ := st.atS.five
    obtain ⟨d0, d1, d2, d3, d4, g0, g1, g2, g3, g4⟩ := st.atR.five
    go_wp2
    exact aFin (Q := fun _ _ _ _ _ => True) st (by rfl) trivial
  · go_wp2_with fail
    refine (below_any B c _ _ st.cur (by omega)).mono ?_
    rintro e w6 ⟨v, rfl, ⟨v0, v1, -⟩, hc6, k6⟩
    replace v1 := v1 (by omega)
    replace st := st.go hc6 k6
    clear hc6 k6
    rcases (by omega : v = 0 ∨ v = 1 ∨ v = 2 ∨ v = 3 ∨ v = 4) with rfl | rfl | rfl | rfl | rfl
    · go_wp2_with fail
      refine (odd_any B c _ st.cur).mono ?_
      rintro e w7 ⟨od, rfl, -, hc7, k7⟩
      replace st := st.go hc7 k7
      have hlt := hc7.lt
      clear hc7 k7
      go_wp2_with fail
      have hb : Below w7.heap.size w7 (w7.alloc (Obj.cells #[.int .i64 0, .int .i64 64, .int .i64 65, .int .i64 od] 2)) := (Below.refl _ _).alloc (Nat.le_refl _) _
      replace st := st.go (st.cur.keep hb) (Kept.of_below hb)
      refine (below_any B c 4 _ st.cur (by omega)).mono ?_
      rintro e w8 ⟨u, rfl, ⟨u0, u1, -⟩, hc8, k8⟩
      replace u1 := u1 (by omega)
      replace st := st.go hc8 k8
      have hy : ∃ y : Int, w8.cell? ⟨w7.heap.size, u.toNat, none⟩ = some (.int .i64 y) := by
        rw [k8.cell (by simp) (by omega)]
        rcases (by omega : u.toNat = 0 ∨ u.toNat = 1 ∨ u.toNat = 2 ∨ u.toNat = 3) with h | h | h | h <;> rw [h] <;> exact ⟨_, by go_simp; rfl⟩
      obtain ⟨y, hy⟩ := hy
      clear hc8 k8 hb hlt
      obtain ⟨c0, c1, c2, c3, c4, f0, f1, f2, f3, f4⟩ := st.atS.five
      obtain ⟨d0, d1, d2, d3, d4, g0, g1, g2, g3, g4⟩ := st.atR.five
      have sr := st.sr
      have rs := Ne.symm st.sr
      have st2 := st.set 0 (.int .i64 y)
      go_wp2
      exact aFin (Q := fun _ _ _ _ _ => True) st2 (by rfl) trivial
    · go_wp2_with fail
      refine (odd_any B c _ st.cur).mono ?_
      rintro e w7 ⟨od, rfl, -, hc7, k7⟩
      replace st := st.go hc7 k7
      have hlt := hc7.lt
      clear hc7 k7
      go_wp2_with fail
      have hb : Below w7.heap.size w7 (w7.alloc (Obj.cells #[.int .i64 0, .int .i64 200, .int .i64 201, .int .i64 od] 2)) := (Below.refl _ _).alloc (Nat.le_refl _) _
      replace st := st.go (st.cur.keep hb) (Kept.of_below hb)
      refine (below_any B c 4 _ st.cur (by omega)).mono ?_
      rintro e w8 ⟨u, rfl, ⟨u0, u1, -⟩, hc8, k8⟩
      replace u1 := u1 (by omega)
      replace st := st.go hc8 k8
      have hy : ∃ y : Int, w8.cell? ⟨w7.heap.size, u.toNat, none⟩ = some (.int .i64 y) := by
        rw [k8.cell (by simp) (by omega)]
        rcases (by omega : u.toNat = 0 ∨ u.toNat = 1 ∨ u.toNat = 2 ∨ u.toNat = 3) with h | h | h | h <;> rw [h] <;> exact ⟨_, by go_simp; rfl⟩
      obtain ⟨y, hy⟩ := hy
      clear hc8 k8 hb hlt
      obtain ⟨c0, c1, c2, c3, c4, f0, f1, f2, f3, f4⟩ := st.atS.five
      obtain ⟨d0, d1, d2, d3, d4, g0, g1, g2, g3, g4⟩ := st.atR.five
      have sr := st.sr
      have rs := Ne.symm st.sr
      have st2 := st.set 1 (.int .i64 y)
      go_wp2
      exact aFin (Q := fun _ _ _ _ _ => True) st2 (by rfl) trivial
    · go_wp2_with fail
      refine (odd_any B c _ st.cur).mono ?_
      rintro e w7 ⟨od, rfl, -, hc7, k7⟩
      replace st := st.go hc7 k7
      have hlt := hc7.lt
      clear hc7 k7
      go_wp2_with fail
      have hb : Below w7.heap.size w7 (w7.alloc (Obj.cells #[.int .i64 (-1), .int .i64 50, .int .i64 51, .int .i64 od] 2)) := (Below.refl _ _).alloc (Nat.le_refl _) _
      replace st := st.go (st.cur.keep hb) (Kept.of_below hb)
      refine (below_any B c 4 _ st.cur (by omega)).mono ?_
      rintro e w8 ⟨u, rfl, ⟨u0, u1, -⟩, hc8, k8⟩
      replace u1 := u1 (by omega)
      replace st := st.go hc8 k8
      have hy : ∃ y : Int, w8.cell? ⟨w7.heap.size, u.toNat, none⟩ = some (.int .i64 y) := by
        rw [k8.cell (by simp) (by omega)]
        rcases (by omega : u.toNat = 0 ∨ u.toNat = 1 ∨ u.toNat = 2 ∨ u.toNat = 3) with h | h | h | h <;> rw [h] <;> exact ⟨_, by go_simp; rfl⟩
      obtain ⟨y, hy⟩ := hy
      clear hc8 k8 hb hlt
      obtain ⟨c0, c1, c2, c3, c4, f0, f1, f2, f3, f4⟩ := st.atS.five
      obtain ⟨d0, d1, d2, d3, d4, g0, g1, g2, g3, g4⟩ := st.atR.five
      have sr := st.sr
      have rs := Ne.symm st.sr
      have st2 := st.set 2 (.int .i64 y)
      go_wp2
      exact aFin (Q := fun _ _ _ _ _ => True) st2 (by rfl) trivial
    · go_wp2_with fail
      refine (odd_any B c _ st.cur).mono ?_
      rintro e w7 ⟨od, rfl, -, hc7, k7⟩
      replace st := st.go hc7 k7
      have hlt := hc7.lt
      clear hc7 k7
      go_wp2_with fail
      have hb : Below w7.heap.size w7 (w7.alloc (Obj.cells #[.int .i64 0, .int .i64 8, .int .i64 9, .int .i64 od] 2)) := (Below.refl _ _).alloc (Nat.le_refl _) _
      replace st := st.go (st.cur.keep hb) (Kept.of_below hb)
      refine (below_any B c 4 _ st.cur (by omega)).mono ?_
      rintro e w8 ⟨u, rfl, ⟨u0, u1, -⟩, hc8, k8⟩
      replace u1 := u1 (by omega)
      replace st := st.go hc8 k8
      have hy : ∃ y : Int, w8.cell? ⟨w7.heap.size, u.toNat, none⟩ = some (.int .i64 y) := by
        rw [k8.cell (by simp) (by omega)]
        rcases (by omega : u.toNat = 0 ∨ u.toNat = 1 ∨ u.toNat = 2 ∨ u.toNat = 3) with h | h | h | h <;> rw [h] <;> exact ⟨_, by go_simp; rfl⟩
      obtain ⟨y, hy⟩ := hy
      clear hc8 k8 hb hlt
      obtain ⟨c0, c1, c2, c3, c4, f0, f1, f2, f3, f4⟩ := st.atS.five
      obtain ⟨d0, d1, d2, d3, d4, g0, g1, g2, g3, g4⟩ := st.atR.five
      have sr := st.sr
      have rs := Ne.symm st.sr
      have st2 := st.set 3 (.int .i64 y)
      go_wp2
      exact aFin (Q := fun _ _ _ _ _ => True) st2 (by rfl) trivial
    · go_wp2_with fail
      refine (odd_any B c _ st.cur).mono ?_
      rintro e w7 ⟨od, rfl, -, hc7, k7⟩
      replace st := st.go hc7 k7
      have hlt := hc7.lt
      clear hc7 k7
      go_wp2_with fail
      have hb : Below w7.heap.size w7 (w7.alloc (Obj.cells #[.int .i64 0, .int .i64 32, .int .i64 33, .int .i64 od] 2)) := (Below.refl _ _).alloc (Nat.le_refl _) _
      replace st := st.go (st.cur.keep hb) (Kept.of_below hb)
      refine (below_any B c 4 _ st.cur (by omega)).mono ?_
      rintro e w8 ⟨u, rfl, ⟨u0, u1, -⟩, hc8, k8⟩
      replace u1 := u1 (by omega)
      replace st := st.go hc8 k8
      have hy : ∃ y : Int, w8.cell? ⟨w7.heap.size, u.toNat, none⟩ = some (.int .i64 y) := by
        rw [k8.cell (by simp) (by omega)]
        rcases (by omega : u.toNat = 0 ∨ u.toNat = 1 ∨ u.toNat = 2 ∨ u.toNat = 3) with h | h | h | h <;> rw [h] <;> exact ⟨_, by go_simp; rfl⟩
      obtain ⟨y, hy⟩ := hy
      clear hc8 k8 hb hlt
      obtain ⟨c0, c1, c2, c3, c4, f0, f1, f2, f3, f4⟩ := st.atS.five
      obtain ⟨d0, d1, d2, d3, d4, g0, g1, g2, g3, g4⟩ := st.atR.five
      have sr := st.sr
      have rs := Ne.symm st.sr
      have st2 := st.set 4 (.int .i64 y)
      go_wp2
      exact aFin (Q := fun _ _ _ _ _ => True) st2 (by rfl) trivial
end Go.Proofs.Ytmldeigbaafclaa
