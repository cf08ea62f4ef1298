/-
  Hands: copied field by field, compared field by field.
-/
import Derived.Test.YtooljeddnfkphaaDoorHan
namespace Go.Proofs.YtooljeddnfkphaaDoor
open Go.RowKit
set_option linter.unusedVariables false
def Hd.mix (h : Hd) (i : Nat) : Array Value := (h.vs.take i ++ Hd.zero.vs.drop i).toArray
theorem Hd.mix_size {h : Hd} {i : Nat} (hi : i ≤ 36) : (h.mix i).size = 36 := by
  have := h.len
  have := Hd.zero.len
  simp [Hd.mix]; omega
theorem Hd.mix_set {h : Hd} {i : Nat} {v : Value} (hv : h.vs[i]? = some v) : (h.mix i).setIfInBounds i v = h.mix (i + 1) := by
  have hl := h.len
  have zl := Hd.zero.len
  have hi : i < 36 := by
    have := (List.getElem?_eq_some_iff.1 hv).1
    omega
  apply Array.ext_getElem?
  intro j
  rw [Array.getElem?_setIfInBounds]
  unfold Hd.mix
  by_cases e : i = j
  · subst e
    rw [if_pos rfl, if_pos (by simp; omega)]
    simp only [List.getElem?_toArray]
    rw [List.getElem?_append_left (by simp; omega), List.getElem?_take, if_pos (by omega), hv]
  · rw [if_neg e]
    simp only [List.getElem?_toArray]
    by_cases hj : j < i
    · rw [List.getElem?_append_left (by simp; omega), List.getElem?_append_left (by simp; omega), List.getElem?_take, List.getElem?_take, if_pos hj, if_pos (by omega)]
    · rw [List.getElem?_append_right (by simp; omega), List.getElem?_append_right (by simp; omega), List.getElem?_drop, List.getElem?_drop]
      congr 1
      simp [hl]
      omega
theorem At.put {w : World} {b : Nat} {h : Hd} {i : Nat} {t : TypeId} (Z : At w b (h.mix i) t) {v : Value} (hv : h.vs[i]? = some v) : At (w.setCell ⟨b, i, none⟩ v) b (h.mix (i + 1)) t := by
  rw [← Hd.mix_set hv]; exact Z.set i v
theorem three_new (w : World) (h : Hd) (t t' : TypeId) : At (((w.alloc (.cells h.ar t)).alloc (.cells Hd.zero.ar t')).alloc (.cells Hd.zero.ar t')) w.heap.size h.ar t ∧ At (((w.alloc (.cells h.ar t)).alloc (.cells Hd.zero.ar t')).alloc (.cells Hd.zero.ar t')) (w.heap.size + 1) Hd.zero.ar t' ∧ At (((w.alloc (.cells h.ar t)).alloc (.cells Hd.zero.ar t')).alloc (.cells Hd.zero.ar t')) (w.heap.size + 2) (h.mix 0) t' ∧ Below w.heap.size w (((w.alloc (.cells h.ar t)).alloc (.cells Hd.zero.ar t')).alloc (.cells Hd.zero.ar t')) := by
  obtain ⟨x, y, z⟩ := two_new w h.ar t t'
  have e : ((w.alloc (.cells h.ar t)).alloc (.cells Hd.zero.ar t')).heap.size = w.heap.size + 2 := by simp
  refine ⟨x.keep ((Below.refl _ _).alloc (Nat.le_refl _) _), y.keep ((Below.refl _ _).alloc (Nat.le_refl _) _), ?_, z.alloc (by omega) _⟩
  have := At.new ((w.alloc (.cells h.ar t)).alloc (.cells Hd.zero.ar t')) Hd.zero.ar t'
  rw [e] at this
  exact this
theorem loadHl {ops : Array Oper} {rest : List Oper} {op : Oper} {a : Act} {w : World} {Q : Exit → Act → World → Prop} (hgd : op.guard = none) (x : Operand) (ho : op.op = .load 31 x)
    (b : Nat) (k : Hd) (hx : a.eval x = .pointer (some ⟨b, 0, none⟩)) {t : TypeId} (Z : At w b k.ar t)
    (h : wpList Tryd.prog ops Q rest (a.put op.dst (.agg k.ar)) w) : wpList Tryd.prog ops Q (op :: rest) a w :=
  wpList_load_mid hgd 31 x ho b 0 hx k.vs _ Z.range Tryd.underlying31 rfl infoH h
set_option maxHeartbeats 16000000 in
theorem toH (h : Hd) (w : World) : Calls Tryd.prog 11 #[.agg h.ar] w fun e w' => e = .returned (.agg h.ar) ∧ Below w.heap.size w w' := by
  go_enter Tryd.func11, Tryd.ntmps11
  go_upto_region 2 with fail
  refine wp_at (fun W => At W w.heap.size h.ar 30 ∧ At W (w.heap.size + 1) Hd.zero.ar 31 ∧ At W (w.heap.size + 2) (h.mix 0) 31 ∧ Below w.heap.size w W) (three_new w h _ _) ?_
  rintro W0 ⟨A0, Y0, Z0, B0⟩
  have c : W0.cell? ⟨w.heap.size, 0, none⟩ = some (.bool h.up) := A0.cell 0
  have d : W0.cell? ⟨w.heap.size + 2, 0, none⟩ = some _ := (Z0.cell 0).trans rfl
  have f : W0.frozen? ⟨w.heap.size + 2, 0, none⟩ = false := Z0.frozen 0
  go_upto_region 3 with fail
  refine wp_at (fun W => At W w.heap.size h.ar 30 ∧ At W (w.heap.size + 1) Hd.zero.ar 31 ∧ At W (w.heap.size + 2) (h.mix 1) 31 ∧ Below w.heap.size w W) ⟨A0.other (show w.heap.size ≠ w.heap.size + 2 by omega) _, Y0.other (show w.heap.size + 1 ≠ w.heap.size + 2 by omega) _, Z0.put rfl, B0.setCell (show w.heap.size ≤ w.heap.size + 2 by omega) _⟩ ?_
  clear c d f A0 Y0 Z0 B0
  rintro W1 ⟨A1, Y1, Z1, B1⟩
  have c : W1.cell? ⟨w.heap.size, 1, none⟩ = some (.bool h.inn) := A1.cell 1
  have d : W1.cell? ⟨w.heap.size + 2, 1, none⟩ = some _ := (Z1.cell 1).trans rfl
  have f : W1.frozen? ⟨w.heap.size + 2, 1, none⟩ = false := Z1.frozen 1
  go_upto_region 4 with fail
  refine wp_at (fun W => At W w.heap.size h.ar 30 ∧ At W (w.heap.size + 1) Hd.zero.ar 31 ∧ At W (w.heap.size + 2) (h.mix 2) 31 ∧ Below w.heap.size w W) ⟨A1.other (show w.heap.size ≠ w.heap.size + 2 by omega) _, Y1.other (show w.heap.size + 1 ≠ w.heap.size + 2 by omega) _, Z1.put rfl, B1.setCell (show w.heap.size ≤ w.heap.size + 2 by omega) _⟩ ?_
  clear c d f A1 Y1 Z1 B1
  rintro W2 ⟨A2, Y2, Z2, B2⟩
  have c : W2.cell? ⟨w.heap.size, 2, none⟩ = some (.bool h.sure) := A2.cell 2
  have d : W2.cell? ⟨w.heap.size + 2, 2, none⟩ = some _ := (Z2.cell 2).trans rfl
  have f : W2.frozen? ⟨w.heap.size + 2, 2, none⟩ = false := Z2.frozen 2
  go_upto_region 5 with fail
  refine wp_at (fun W => At W w.heap.size h.ar 30 ∧ At W (w.heap.size + 1) Hd.zero.ar 31 ∧ At W (w.heap.size + 2) (h.mix 3) 31 ∧ Below w.heap.size w W) ⟨A2.other (show w.heap.size ≠ w.heap.size + 2 by omega) _, Y2.other (show w.heap.size + 1 ≠ w.heap.size + 2 by omega) _, Z2.put rfl, B2.setCell (show w.heap.size ≤ w.heap.size + 2 by omega) _⟩ ?_
  clear c d f A2 Y2 Z2 B2
  rintro W3 ⟨A3, Y3, Z3, B3⟩
  have c : W3.cell? ⟨w.heap.size, 3, none⟩ = some (.bool h.known) := A3.cell 3
  have d : W3.cell? ⟨w.heap.size + 2, 3, none⟩ = some _ := (Z3.cell 3).trans rfl
  have f : W3.frozen? ⟨w.heap.size + 2, 3, none⟩ = false := Z3.frozen 3
  go_upto_region 6 with fail
  refine wp_at (fun W => At W w.heap.size h.ar 30 ∧ At W (w.heap.size + 1) Hd.zero.ar 31 ∧ At W (w.heap.size + 2) (h.mix 4) 31 ∧ Below w.heap.size w W) ⟨A3.other (show w.heap.size ≠ w.heap.size + 2 by omega) _, Y3.other (show w.heap.size + 1 ≠ w.heap.size + 2 by omega) _, Z3.put rfl, B3.setCell (show w.heap.size ≤ w.heap.size + 2 by omega) _⟩ ?_
  clear c d f A3 Y3 Z3 B3
  rintro W4 ⟨A4, Y4, Z4, B4⟩
  have c : W4.cell? ⟨w.heap.size, 4, none⟩ = some (.int .i64 h.life) := A4.cell 4
  have d : W4.cell? ⟨w.heap.size + 2, 4, none⟩ = some _ := (Z4.cell 4).trans rfl
  have f : W4.frozen? ⟨w.heap.size + 2, 4, none⟩ = false := Z4.frozen 4
  go_upto_region 7 with fail
  refine wp_at (fun W => At W w.heap.size h.ar 30 ∧ At W (w.heap.size + 1) Hd.zero.ar 31 ∧ At W (w.heap.size + 2) (h.mix 5) 31 ∧ Below w.heap.size w W) ⟨A4.other (show w.heap.size ≠ w.heap.size + 2 by omega) _, Y4.other (show w.heap.size + 1 ≠ w.heap.size + 2 by omega) _, Z4.put rfl, B4.setCell (show w.heap.size ≤ w.heap.size + 2 by omega) _⟩ ?_
  clear c d f A4 Y4 Z4 B4
  rintro W5 ⟨A5, Y5, Z5, B5⟩
  have c : W5.cell? ⟨w.heap.size, 5, none⟩ = some (.int .i64 h.at_) := A5.cell 5
  have d : W5.cell? ⟨w.heap.size + 2, 5, none⟩ = some _ := (Z5.cell 5).trans rfl
  have f : W5.frozen? ⟨w.heap.size + 2, 5, none⟩ = false := Z5.frozen 5
  go_upto_region 8 with fail
  refine wp_at (fun W => At W w.heap.size h.ar 30 ∧ At W (w.heap.size + 1) Hd.zero.ar 31 ∧ At W (w.heap.size + 2) (h.mix 6) 31 ∧ Below w.heap.size w W) ⟨A5.other (show w.heap.size ≠ w.heap.size + 2 by omega) _, Y5.other (show w.heap.size + 1 ≠ w.heap.size + 2 by omega) _, Z5.put rfl, B5.setCell (show w.heap.size ≤ w.heap.size + 2 by omega) _⟩ ?_
  clear c d f A5 Y5 Z5 B5
  rintro W6 ⟨A6, Y6, Z6, B6⟩
  have c : W6.cell? ⟨w.heap.size, 6, none⟩ = some (.int .i64 h.code) := A6.cell 6
  have d : W6.cell? ⟨w.heap.size + 2, 6, none⟩ = some _ := (Z6.cell 6).trans rfl
  have f : W6.frozen? ⟨w.heap.size + 2, 6, none⟩ = false := Z6.frozen 6
  go_upto_region 9 with fail
  refine wp_at (fun W => At W w.heap.size h.ar 30 ∧ At W (w.heap.size + 1) Hd.zero.ar 31 ∧ At W (w.heap.size + 2) (h.mix 7) 31 ∧ Below w.heap.size w W) ⟨A6.other (show w.heap.size ≠ w.heap.size + 2 by omega) _, Y6.other (show w.heap.size + 1 ≠ w.heap.size + 2 by omega) _, Z6.put rfl, B6.setCell (show w.heap.size ≤ w.heap.size + 2 by omega) _⟩ ?_
  clear c d f A6 Y6 Z6 B6
  rintro W7 ⟨A7, Y7, Z7, B7⟩
  have c : W7.cell? ⟨w.heap.size, 7, none⟩ = some (.int .i64 h.a) := A7.cell 7
  have d : W7.cell? ⟨w.heap.size + 2, 7, none⟩ = some _ := (Z7.cell 7).trans rfl
  have f : W7.frozen? ⟨w.heap.size + 2, 7, none⟩ = false := Z7.frozen 7
  go_upto_region 10 with fail
  refine wp_at (fun W => At W w.heap.size h.ar 30 ∧ At W (w.heap.size + 1) Hd.zero.ar 31 ∧ At W (w.heap.size + 2) (h.mix 8) 31 ∧ Below w.heap.size w W) ⟨A7.other (show w.heap.size ≠ w.heap.size + 2 by omega) _, Y7.other (show w.heap.size + 1 ≠ w.heap.size + 2 by omega) _, Z7.put rfl, B7.setCell (show w.heap.size ≤ w.heap.size + 2 by omega) _⟩ ?_
  clear c d f A7 Y7 Z7 B7
  rintro W8 ⟨A8, Y8, Z8, B8⟩
  have c : W8.cell? ⟨w.heap.size, 8, none⟩ = some (.int .i64 h.b) := A8.cell 8
  have d : W8.cell? ⟨w.heap.size + 2, 8, none⟩ = some _ := (Z8.cell 8).trans rfl
  have f : W8.frozen? ⟨w.heap.size + 2, 8, none⟩ = false := Z8.frozen 8
  go_upto_region 11 with fail
  refine wp_at (fun W => At W w.heap.size h.ar 30 ∧ At W (w.heap.size + 1) Hd.zero.ar 31 ∧ At W (w.heap.size + 2) (h.mix 9) 31 ∧ Below w.heap.size w W) ⟨A8.other (show w.heap.size ≠ w.heap.size + 2 by omega) _, Y8.other (show w.heap.size + 1 ≠ w.heap.size + 2 by omega) _, Z8.put rfl, B8.setCell (show w.heap.size ≤ w.heap.size + 2 by omega) _⟩ ?_
  clear c d f A8 Y8 Z8 B8
  rintro W9 ⟨A9, Y9, Z9, B9⟩
  have c : W9.cell? ⟨w.heap.size, 9, none⟩ = some (.int .i64 h.c) := A9.cell 9
  have d : W9.cell? ⟨w.heap.size + 2, 9, none⟩ = some _ := (Z9.cell 9).trans rfl
  have f : W9.frozen? ⟨w.heap.size + 2, 9, none⟩ = false := Z9.frozen 9
  go_upto_region 12 with fail
  refine wp_at (fun W => At W w.heap.size h.ar 30 ∧ At W (w.heap.size + 1) Hd.zero.ar 31 ∧ At W (w.heap.size + 2) (h.mix 10) 31 ∧ Below w.heap.size w W) ⟨A9.other (show w.heap.size ≠ w.heap.size + 2 by omega) _, Y9.other (show w.heap.size + 1 ≠ w.heap.size + 2 by omega) _, Z9.put rfl, B9.setCell (show w.heap.size ≤ w.heap.size + 2 by omega) _⟩ ?_
  clear c d f A9 Y9 Z9 B9
  rintro W10 ⟨A10, Y10, Z10, B10⟩
  have c : W10.cell? ⟨w.heap.size, 10, none⟩ = some (.int .i64 h.number) := A10.cell 10
  have d : W10.cell? ⟨w.heap.size + 2, 10, none⟩ = some _ := (Z10.cell 10).trans rfl
  have f : W10.frozen? ⟨w.heap.size + 2, 10, none⟩ = false := Z10.frozen 10
  go_upto_region 13 with fail
  refine wp_at (fun W => At W w.heap.size h.ar 30 ∧ At W (w.heap.size + 1) Hd.zero.ar 31 ∧ At W (w.heap.size + 2) (h.mix 11) 31 ∧ Below w.heap.size w W) ⟨A10.other (show w.heap.size ≠ w.heap.size + 2 by omega) _, Y10.other (show w.heap.size + 1 ≠ w.heap.size + 2 by omega) _, Z10.put rfl, B10.setCell (show w.heap.size ≤ w.heap.size + 2 by omega) _⟩ ?_
  clear c d f A10 Y10 Z10 B10
  rintro W11 ⟨A11, Y11, Z11, B11⟩
  have c : W11.cell? ⟨w.heap.size, 11, none⟩ = some (.int .i64 h.for_) := A11.cell 11
  have d : W11.cell? ⟨w.heap.size + 2, 11, none⟩ = some _ := (Z11.cell 11).trans rfl
  have f : W11.frozen? ⟨w.heap.size + 2, 11, none⟩ = false := Z11.frozen 11
  go_upto_region 14 with fail
  refine wp_at (fun W => At W w.heap.size h.ar 30 ∧ At W (w.heap.size + 1) Hd.zero.ar 31 ∧ At W (w.heap.size + 2) (h.mix 12) 31 ∧ Below w.heap.size w W) ⟨A11.other (show w.heap.size ≠ w.heap.size + 2 by omega) _, Y11.other (show w.heap.size + 1 ≠ w.heap.size + 2 by omega) _, Z11.put rfl, B11.setCell (show w.heap.size ≤ w.heap.size + 2 by omega) _⟩ ?_
  clear c d f A11 Y11 Z11 B11
  rintro W12 ⟨A12, Y12, Z12, B12⟩
  have c : W12.cell? ⟨w.heap.size, 12, none⟩ = some (.int .i64 h.last) := A12.cell 12
  have d : W12.cell? ⟨w.heap.size + 2, 12, none⟩ = some _ := (Z12.cell 12).trans rfl
  have f : W12.frozen? ⟨w.heap.size + 2, 12, none⟩ = false := Z12.frozen 12
  go_upto_region 15 with fail
  refine wp_at (fun W => At W w.heap.size h.ar 30 ∧ At W (w.heap.size + 1) Hd.zero.ar 31 ∧ At W (w.heap.size + 2) (h.mix 13) 31 ∧ Below w.heap.size w W) ⟨A12.other (show w.heap.size ≠ w.heap.size + 2 by omega) _, Y12.other (show w.heap.size + 1 ≠ w.heap.size + 2 by omega) _, Z12.put rfl, B12.setCell (show w.heap.size ≤ w.heap.size + 2 by omega) _⟩ ?_
  clear c d f A12 Y12 Z12 B12
  rintro W13 ⟨A13, Y13, Z13, B13⟩
  have c : W13.cell? ⟨w.heap.size, 13, none⟩ = some (.int .i64 h.mine) := A13.cell 13
  have d : W13.cell? ⟨w.heap.size + 2, 13, none⟩ = some _ := (Z13.cell 13).trans rfl
  have f : W13.frozen? ⟨w.heap.size + 2, 13, none⟩ = false := Z13.frozen 13
  go_upto_region 16 with fail
  refine wp_at (fun W => At W w.heap.size h.ar 30 ∧ At W (w.heap.size + 1) Hd.zero.ar 31 ∧ At W (w.heap.size + 2) (h.mix 14) 31 ∧ Below w.heap.size w W) ⟨A13.other (show w.heap.size ≠ w.heap.size + 2 by omega) _, Y13.other (show w.heap.size + 1 ≠ w.heap.size + 2 by omega) _, Z13.put rfl, B13.setCell (show w.heap.size ≤ w.heap.size + 2 by omega) _⟩ ?_
  clear c d f A13 Y13 Z13 B13
  rintro W14 ⟨A14, Y14, Z14, B14⟩
  have c : W14.cell? ⟨w.heap.size, 14, none⟩ = some (.int .i64 h.addr) := A14.cell 14
  have d : W14.cell? ⟨w.heap.size + 2, 14, none⟩ = some _ := (Z14.cell 14).trans rfl
  have f : W14.frozen? ⟨w.heap.size + 2, 14, none⟩ = false := Z14.frozen 14
  go_upto_region 17 with fail
  refine wp_at (fun W => At W w.heap.size h.ar 30 ∧ At W (w.heap.size + 1) Hd.zero.ar 31 ∧ At W (w.heap.size + 2) (h.mix 15) 31 ∧ Below w.heap.size w W) ⟨A14.other (show w.heap.size ≠ w.heap.size + 2 by omega) _, Y14.other (show w.heap.size + 1 ≠ w.heap.size + 2 by omega) _, Z14.put rfl, B14.setCell (show w.heap.size ≤ w.heap.size + 2 by omega) _⟩ ?_
  clear c d f A14 Y14 Z14 B14
  rintro W15 ⟨A15, Y15, Z15, B15⟩
  have c : W15.cell? ⟨w.heap.size, 15, none⟩ = some (.int .u64 h.seen) := A15.cell 15
  have d : W15.cell? ⟨w.heap.size + 2, 15, none⟩ = some _ := (Z15.cell 15).trans rfl
  have f : W15.frozen? ⟨w.heap.size + 2, 15, none⟩ = false := Z15.frozen 15
  go_upto_region 18 with fail
  refine wp_at (fun W => At W w.heap.size h.ar 30 ∧ At W (w.heap.size + 1) Hd.zero.ar 31 ∧ At W (w.heap.size + 2) (h.mix 16) 31 ∧ Below w.heap.size w W) ⟨A15.other (show w.heap.size ≠ w.heap.size + 2 by omega) _, Y15.other (show w.heap.size + 1 ≠ w.heap.size + 2 by omega) _, Z15.put rfl, B15.setCell (show w.heap.size ≤ w.heap.size + 2 by omega) _⟩ ?_
  clear c d f A15 Y15 Z15 B15
  rintro W16 ⟨A16, Y16, Z16, B16⟩
  have c : W16.cell? ⟨w.heap.size, 16, none⟩ = some (.int .u64 h.put) := A16.cell 16
  have d : W16.cell? ⟨w.heap.size + 2, 16, none⟩ = some _ := (Z16.cell 16).trans rfl
  have f : W16.frozen? ⟨w.heap.size + 2, 16, none⟩ = false := Z16.frozen 16
  go_upto_region 19 with fail
  refine wp_at (fun W => At W w.heap.size h.ar 30 ∧ At W (w.heap.size + 1) Hd.zero.ar 31 ∧ At W (w.heap.size + 2) (h.mix 17) 31 ∧ Below w.heap.size w W) ⟨A16.other (show w.heap.size ≠ w.heap.size + 2 by omega) _, Y16.other (show w.heap.size + 1 ≠ w.heap.size + 2 by omega) _, Z16.put rfl, B16.setCell (show w.heap.size ≤ w.heap.size + 2 by omega) _⟩ ?_
  clear c d f A16 Y16 Z16 B16
  rintro W17 ⟨A17, Y17, Z17, B17⟩
  have c : W17.cell? ⟨w.heap.size, 17, none⟩ = some (.int .i64 h.good) := A17.cell 17
  have d : W17.cell? ⟨w.heap.size + 2, 17, none⟩ = some _ := (Z17.cell 17).trans rfl
  have f : W17.frozen? ⟨w.heap.size + 2, 17, none⟩ = false := Z17.frozen 17
  go_upto_region 20 with fail
  refine wp_at (fun W => At W w.heap.size h.ar 30 ∧ At W (w.heap.size + 1) Hd.zero.ar 31 ∧ At W (w.heap.size + 2) (h.mix 18) 31 ∧ Below w.heap.size w W) ⟨A17.other (show w.heap.size ≠ w.heap.size + 2 by omega) _, Y17.other (show w.heap.size + 1 ≠ w.heap.size + 2 by omega) _, Z17.put rfl, B17.setCell (show w.heap.size ≤ w.heap.size + 2 by omega) _⟩ ?_
  clear c d f A17 Y17 Z17 B17
  rintro W18 ⟨A18, Y18, Z18, B18⟩
  have c : W18.cell? ⟨w.heap.size, 18, none⟩ = some (.int .i64 h.bad) := A18.cell 18
  have d : W18.cell? ⟨w.heap.size + 2, 18, none⟩ = some _ := (Z18.cell 18).trans rfl
  have f : W18.frozen? ⟨w.heap.size + 2, 18, none⟩ = false := Z18.frozen 18
  go_upto_region 21 with fail
  refine wp_at (fun W => At W w.heap.size h.ar 30 ∧ At W (w.heap.size + 1) Hd.zero.ar 31 ∧ At W (w.heap.size + 2) (h.mix 19) 31 ∧ Below w.heap.size w W) ⟨A18.other (show w.heap.size ≠ w.heap.size + 2 by omega) _, Y18.other (show w.heap.size + 1 ≠ w.heap.size + 2 by omega) _, Z18.put rfl, B18.setCell (show w.heap.size ≤ w.heap.size + 2 by omega) _⟩ ?_
  clear c d f A18 Y18 Z18 B18
  rintro W19 ⟨A19, Y19, Z19, B19⟩
  have c : W19.cell? ⟨w.heap.size, 19, none⟩ = some (.int .i64 h.does) := A19.cell 19
  have d : W19.cell? ⟨w.heap.size + 2, 19, none⟩ = some _ := (Z19.cell 19).trans rfl
  have f : W19.frozen? ⟨w.heap.size + 2, 19, none⟩ = false := Z19.frozen 19
  go_upto_region 22 with fail
  refine wp_at (fun W => At W w.heap.size h.ar 30 ∧ At W (w.heap.size + 1) Hd.zero.ar 31 ∧ At W (w.heap.size + 2) (h.mix 20) 31 ∧ Below w.heap.size w W) ⟨A19.other (show w.heap.size ≠ w.heap.size + 2 by omega) _, Y19.other (show w.heap.size + 1 ≠ w.heap.size + 2 by omega) _, Z19.put rfl, B19.setCell (show w.heap.size ≤ w.heap.size + 2 by omega) _⟩ ?_
  clear c d f A19 Y19 Z19 B19
  rintro W20 ⟨A20, Y20, Z20, B20⟩
  have c : W20.cell? ⟨w.heap.size, 20, none⟩ = some (.int .i64 h.block) := A20.cell 20
  have d : W20.cell? ⟨w.heap.size + 2, 20, none⟩ = some _ := (Z20.cell 20).trans rfl
  have f : W20.frozen? ⟨w.heap.size + 2, 20, none⟩ = false := Z20.frozen 20
  go_upto_region 23 with fail
  refine wp_at (fun W => At W w.heap.size h.ar 30 ∧ At W (w.heap.size + 1) Hd.zero.ar 31 ∧ At W (w.heap.size + 2) (h.mix 21) 31 ∧ Below w.heap.size w W) ⟨A20.other (show w.heap.size ≠ w.heap.size + 2 by omega) _, Y20.other (show w.heap.size + 1 ≠ w.heap.size + 2 by omega) _, Z20.put rfl, B20.setCell (show w.heap.size ≤ w.heap.size + 2 by omega) _⟩ ?_
  clear c d f A20 Y20 Z20 B20
  rintro W21 ⟨A21, Y21, Z21, B21⟩
  have c : W21.cell? ⟨w.heap.size, 21, none⟩ = some (.int .i64 h.from_) := A21.cell 21
  have d : W21.cell? ⟨w.heap.size + 2, 21, none⟩ = some _ := (Z21.cell 21).trans rfl
  have f : W21.frozen? ⟨w.heap.size + 2, 21, none⟩ = false := Z21.frozen 21
  go_upto_region 24 with fail
  refine wp_at (fun W => At W w.heap.size h.ar 30 ∧ At W (w.heap.size + 1) Hd.zero.ar 31 ∧ At W (w.heap.size + 2) (h.mix 22) 31 ∧ Below w.heap.size w W) ⟨A21.other (show w.heap.size ≠ w.heap.size + 2 by omega) _, Y21.other (show w.heap.size + 1 ≠ w.heap.size + 2 by omega) _, Z21.put rfl, B21.setCell (show w.heap.size ≤ w.heap.size + 2 by omega) _⟩ ?_
  clear c d f A21 Y21 Z21 B21
  rintro W22 ⟨A22, Y22, Z22, B22⟩
  have c : W22.cell? ⟨w.heap.size, 22, none⟩ = some (.int .i64 h.next) := A22.cell 22
  have d : W22.cell? ⟨w.heap.size + 2, 22, none⟩ = some _ := (Z22.cell 22).trans rfl
  have f : W22.frozen? ⟨w.heap.size + 2, 22, none⟩ = false := Z22.frozen 22
  go_upto_region 25 with fail
  refine wp_at (fun W => At W w.heap.size h.ar 30 ∧ At W (w.heap.size + 1) Hd.zero.ar 31 ∧ At W (w.heap.size + 2) (h.mix 23) 31 ∧ Below w.heap.size w W) ⟨A22.other (show w.heap.size ≠ w.heap.size + 2 by omega) _, Y22.other (show w.heap.size + 1 ≠ w.heap.size + 2 by omega) _, Z22.put rfl, B22.setCell (show w.heap.size ≤ w.heap.size + 2 by omega) _⟩ ?_
  clear c d f A22 Y22 Z22 B22
  rintro W23 ⟨A23, Y23, Z23, B23⟩
  have c : W23.cell? ⟨w.heap.size, 23, none⟩ = some (.int .i64 h.value) := A23.cell 23
  have d : W23.cell? ⟨w.heap.size + 2, 23, none⟩ = some _ := (Z23.cell 23).trans rfl
  have f : W23.frozen? ⟨w.heap.size + 2, 23, none⟩ = false := Z23.frozen 23
  go_upto_region 26 with fail
  refine wp_at (fun W => At W w.heap.size h.ar 30 ∧ At W (w.heap.size + 1) Hd.zero.ar 31 ∧ At W (w.heap.size + 2) (h.mix 24) 31 ∧ Below w.heap.size w W) ⟨A23.other (show w.heap.size ≠ w.heap.size + 2 by omega) _, Y23.other (show w.heap.size + 1 ≠ w.heap.size + 2 by omega) _, Z23.put rfl, B23.setCell (show w.heap.size ≤ w.heap.size + 2 by omega) _⟩ ?_
  clear c d f A23 Y23 Z23 B23
  rintro W24 ⟨A24, Y24, Z24, B24⟩
  have c : W24.cell? ⟨w.heap.size, 24, none⟩ = some (.int .i64 h.index) := A24.cell 24
  have d : W24.cell? ⟨w.heap.size + 2, 24, none⟩ = some _ := (Z24.cell 24).trans rfl
  have f : W24.frozen? ⟨w.heap.size + 2, 24, none⟩ = false := Z24.frozen 24
  go_upto_region 27 with fail
  refine wp_at (fun W => At W w.heap.size h.ar 30 ∧ At W (w.heap.size + 1) Hd.zero.ar 31 ∧ At W (w.heap.size + 2) (h.mix 25) 31 ∧ Below w.heap.size w W) ⟨A24.other (show w.heap.size ≠ w.heap.size + 2 by omega) _, Y24.other (show w.heap.size + 1 ≠ w.heap.size + 2 by omega) _, Z24.put rfl, B24.setCell (show w.heap.size ≤ w.heap.size + 2 by omega) _⟩ ?_
  clear c d f A24 Y24 Z24 B24
  rintro W25 ⟨A25, Y25, Z25, B25⟩
  have c : W25.cell? ⟨w.heap.size, 25, none⟩ = some (.int .i64 h.which) := A25.cell 25
  have d : W25.cell? ⟨w.heap.size + 2, 25, none⟩ = some _ := (Z25.cell 25).trans rfl
  have f : W25.frozen? ⟨w.heap.size + 2, 25, none⟩ = false := Z25.frozen 25
  go_upto_region 28 with fail
  refine wp_at (fun W => At W w.heap.size h.ar 30 ∧ At W (w.heap.size + 1) Hd.zero.ar 31 ∧ At W (w.heap.size + 2) (h.mix 26) 31 ∧ Below w.heap.size w W) ⟨A25.other (show w.heap.size ≠ w.heap.size + 2 by omega) _, Y25.other (show w.heap.size + 1 ≠ w.heap.size + 2 by omega) _, Z25.put rfl, B25.setCell (show w.heap.size ≤ w.heap.size + 2 by omega) _⟩ ?_
  clear c d f A25 Y25 Z25 B25
  rintro W26 ⟨A26, Y26, Z26, B26⟩
  have c : W26.cell? ⟨w.heap.size, 26, none⟩ = some (.int .i64 h.kept) := A26.cell 26
  have d : W26.cell? ⟨w.heap.size + 2, 26, none⟩ = some _ := (Z26.cell 26).trans rfl
  have f : W26.frozen? ⟨w.heap.size + 2, 26, none⟩ = false := Z26.frozen 26
  go_upto_region 29 with fail
  refine wp_at (fun W => At W w.heap.size h.ar 30 ∧ At W (w.heap.size + 1) Hd.zero.ar 31 ∧ At W (w.heap.size + 2) (h.mix 27) 31 ∧ Below w.heap.size w W) ⟨A26.other (show w.heap.size ≠ w.heap.size + 2 by omega) _, Y26.other (show w.heap.size + 1 ≠ w.heap.size + 2 by omega) _, Z26.put rfl, B26.setCell (show w.heap.size ≤ w.heap.size + 2 by omega) _⟩ ?_
  clear c d f A26 Y26 Z26 B26
  rintro W27 ⟨A27, Y27, Z27, B27⟩
  have c : W27.cell? ⟨w.heap.size, 27, none⟩ = some (.int .i64 h.wasCode) := A27.cell 27
  have d : W27.cell? ⟨w.heap.size + 2, 27, none⟩ = some _ := (Z27.cell 27).trans rfl
  have f : W27.frozen? ⟨w.heap.size + 2, 27, none⟩ = false := Z27.frozen 27
  go_upto_region 30 with fail
  refine wp_at (fun W => At W w.heap.size h.ar 30 ∧ At W (w.heap.size + 1) Hd.zero.ar 31 ∧ At W (w.heap.size + 2) (h.mix 28) 31 ∧ Below w.heap.size w W) ⟨A27.other (show w.heap.size ≠ w.heap.size + 2 by omega) _, Y27.other (show w.heap.size + 1 ≠ w.heap.size + 2 by omega) _, Z27.put rfl, B27.setCell (show w.heap.size ≤ w.heap.size + 2 by omega) _⟩ ?_
  clear c d f A27 Y27 Z27 B27
  rintro W28 ⟨A28, Y28, Z28, B28⟩
  have c : W28.cell? ⟨w.heap.size, 28, none⟩ = some (.int .i64 h.wasItem) := A28.cell 28
  have d : W28.cell? ⟨w.heap.size + 2, 28, none⟩ = some _ := (Z28.cell 28).trans rfl
  have f : W28.frozen? ⟨w.heap.size + 2, 28, none⟩ = false := Z28.frozen 28
  go_upto_region 31 with fail
  refine wp_at (fun W => At W w.heap.size h.ar 30 ∧ At W (w.heap.size + 1) Hd.zero.ar 31 ∧ At W (w.heap.size + 2) (h.mix 29) 31 ∧ Below w.heap.size w W) ⟨A28.other (show w.heap.size ≠ w.heap.size + 2 by omega) _, Y28.other (show w.heap.size + 1 ≠ w.heap.size + 2 by omega) _, Z28.put rfl, B28.setCell (show w.heap.size ≤ w.heap.size + 2 by omega) _⟩ ?_
  clear c d f A28 Y28 Z28 B28
  rintro W29 ⟨A29, Y29, Z29, B29⟩
  have c : W29.cell? ⟨w.heap.size, 29, none⟩ = some (.int .i64 h.wasNumber) := A29.cell 29
  have d : W29.cell? ⟨w.heap.size + 2, 29, none⟩ = some _ := (Z29.cell 29).trans rfl
  have f : W29.frozen? ⟨w.heap.size + 2, 29, none⟩ = false := Z29.frozen 29
  go_upto_region 32 with fail
  refine wp_at (fun W => At W w.heap.size h.ar 30 ∧ At W (w.heap.size + 1) Hd.zero.ar 31 ∧ At W (w.heap.size + 2) (h.mix 30) 31 ∧ Below w.heap.size w W) ⟨A29.other (show w.heap.size ≠ w.heap.size + 2 by omega) _, Y29.other (show w.heap.size + 1 ≠ w.heap.size + 2 by omega) _, Z29.put rfl, B29.setCell (show w.heap.size ≤ w.heap.size + 2 by omega) _⟩ ?_
  clear c d f A29 Y29 Z29 B29
  rintro W30 ⟨A30, Y30, Z30, B30⟩
  have c : W30.cell? ⟨w.heap.size, 30, none⟩ = some (.int .i64 h.wasKind) := A30.cell 30
  have d : W30.cell? ⟨w.heap.size + 2, 30, none⟩ = some _ := (Z30.cell 30).trans rfl
  have f : W30.frozen? ⟨w.heap.size + 2, 30, none⟩ = false := Z30.frozen 30
  go_upto_region 33 with fail
  refine wp_at (fun W => At W w.heap.size h.ar 30 ∧ At W (w.heap.size + 1) Hd.zero.ar 31 ∧ At W (w.heap.size + 2) (h.mix 31) 31 ∧ Below w.heap.size w W) ⟨A30.other (show w.heap.size ≠ w.heap.size + 2 by omega) _, Y30.other (show w.heap.size + 1 ≠ w.heap.size + 2 by omega) _, Z30.put rfl, B30.setCell (show w.heap.size ≤ w.heap.size + 2 by omega) _⟩ ?_
  clear c d f A30 Y30 Z30 B30
  rintro W31 ⟨A31, Y31, Z31, B31⟩
  have c : W31.cell? ⟨w.heap.size, 31, none⟩ = some (.int .i64 h.wasTag) := A31.cell 31
  have d : W31.cell? ⟨w.heap.size + 2, 31, none⟩ = some _ := (Z31.cell 31).trans rfl
  have f : W31.frozen? ⟨w.heap.size + 2, 31, none⟩ = false := Z31.frozen 31
  go_upto_region 34 with fail
  refine wp_at (fun W => At W w.heap.size h.ar 30 ∧ At W (w.heap.size + 1) Hd.zero.ar 31 ∧ At W (w.heap.size + 2) (h.mix 32) 31 ∧ Below w.heap.size w W) ⟨A31.other (show w.heap.size ≠ w.heap.size + 2 by omega) _, Y31.other (show w.heap.size + 1 ≠ w.heap.size + 2 by omega) _, Z31.put rfl, B31.setCell (show w.heap.size ≤ w.heap.size + 2 by omega) _⟩ ?_
  clear c d f A31 Y31 Z31 B31
  rintro W32 ⟨A32, Y32, Z32, B32⟩
  have c : W32.cell? ⟨w.heap.size, 32, none⟩ = some (.int .i64 h.reply) := A32.cell 32
  have d : W32.cell? ⟨w.heap.size + 2, 32, none⟩ = some _ := (Z32.cell 32).trans rfl
  have f : W32.frozen? ⟨w.heap.size + 2, 32, none⟩ = false := Z32.frozen 32
  go_upto_region 35 with fail
  refine wp_at (fun W => At W w.heap.size h.ar 30 ∧ At W (w.heap.size + 1) Hd.zero.ar 31 ∧ At W (w.heap.size + 2) (h.mix 33) 31 ∧ Below w.heap.size w W) ⟨A32.other (show w.heap.size ≠ w.heap.size + 2 by omega) _, Y32.other (show w.heap.size + 1 ≠ w.heap.size + 2 by omega) _, Z32.put rfl, B32.setCell (show w.heap.size ≤ w.heap.size + 2 by omega) _⟩ ?_
  clear c d f A32 Y32 Z32 B32
  rintro W33 ⟨A33, Y33, Z33, B33⟩
  have c : W33.cell? ⟨w.heap.size, 33, none⟩ = some (.int .i64 h.out) := A33.cell 33
  have d : W33.cell? ⟨w.heap.size + 2, 33, none⟩ = some _ := (Z33.cell 33).trans rfl
  have f : W33.frozen? ⟨w.heap.size + 2, 33, none⟩ = false := Z33.frozen 33
  go_upto_region 36 with fail
  refine wp_at (fun W => At W w.heap.size h.ar 30 ∧ At W (w.heap.size + 1) Hd.zero.ar 31 ∧ At W (w.heap.size + 2) (h.mix 34) 31 ∧ Below w.heap.size w W) ⟨A33.other (show w.heap.size ≠ w.heap.size + 2 by omega) _, Y33.other (show w.heap.size + 1 ≠ w.heap.size + 2 by omega) _, Z33.put rfl, B33.setCell (show w.heap.size ≤ w.heap.size + 2 by omega) _⟩ ?_
  clear c d f A33 Y33 Z33 B33
  rintro W34 ⟨A34, Y34, Z34, B34⟩
  have c : W34.cell? ⟨w.heap.size, 34, none⟩ = some (.int .i64 h.mark) := A34.cell 34
  have d : W34.cell? ⟨w.heap.size + 2, 34, none⟩ = some _ := (Z34.cell 34).trans rfl
  have f : W34.frozen? ⟨w.heap.size + 2, 34, none⟩ = false := Z34.frozen 34
  go_upto_region 37 with fail
  refine wp_at (fun W => At W w.heap.size h.ar 30 ∧ At W (w.heap.size + 1) Hd.zero.ar 31 ∧ At W (w.heap.size + 2) (h.mix 35) 31 ∧ Below w.heap.size w W) ⟨A34.other (show w.heap.size ≠ w.heap.size + 2 by omega) _, Y34.other (show w.heap.size + 1 ≠ w.heap.size + 2 by omega) _, Z34.put rfl, B34.setCell (show w.heap.size ≤ w.heap.size + 2 by omega) _⟩ ?_
  clear c d f A34 Y34 Z34 B34
  rintro W35 ⟨A35, Y35, Z35, B35⟩
  have c : W35.cell? ⟨w.heap.size, 35, none⟩ = some (.int .i64 h.begin_) := A35.cell 35
  have d : W35.cell? ⟨w.heap.size + 2, 35, none⟩ = some _ := (Z35.cell 35).trans rfl
  have f : W35.frozen? ⟨w.heap.size + 2, 35, none⟩ = false := Z35.frozen 35
  go_upto_region 38 with fail
  refine wp_at (fun W => At W w.heap.size h.ar 30 ∧ At W (w.heap.size + 1) Hd.zero.ar 31 ∧ At W (w.heap.size + 2) (h.mix 36) 31 ∧ Below w.heap.size w W) ⟨A35.other (show w.heap.size ≠ w.heap.size + 2 by omega) _, Y35.other (show w.heap.size + 1 ≠ w.heap.size + 2 by omega) _, Z35.put rfl, B35.setCell (show w.heap.size ≤ w.heap.size + 2 by omega) _⟩ ?_
  clear c d f A35 Y35 Z35 B35
  rintro W36 ⟨A36, Y36, Z36, B36⟩
  replace Z36 : At W36 (w.heap.size + 2) h.ar 31 := Z36
  go_wp2_with (first
    | (refine loadHl rfl (.tmp 3) rfl (w.heap.size + 2) h rfl Z36 ?_)
    | (refine storeH rfl (.tmp 2) (.tmp 112) rfl (w.heap.size + 1) h rfl rfl Y36 rfl ?_; intro W2 Z2 kk; replace B36 := B36.trans (kk.below (Nat.le_succ _) B36.size)))
  exact bodyPost_ret (v := .agg h.ar) (resH 2 Tryd.results11 rfl Z2) rfl ⟨rfl, B36⟩
theorem two_same (w : World) (h : Hd) (t : TypeId) : At ((w.alloc (.cells h.ar t)).alloc (.cells h.ar t)) w.heap.size h.ar t ∧ At ((w.alloc (.cells h.ar t)).alloc (.cells h.ar t)) (w.heap.size + 1) h.ar t ∧ Below w.heap.size w ((w.alloc (.cells h.ar t)).alloc (.cells h.ar t)) := by
  have e : (w.alloc (.cells h.ar t)).heap.size = w.heap.size + 1 := by simp
  refine ⟨(At.new w h.ar t).keep ((Below.refl _ _).alloc (Nat.le_refl _) _), ?_, ((Below.refl _ _).alloc (Nat.le_refl _) _).alloc (by omega) _⟩
  have := At.new (w.alloc (.cells h.ar t)) h.ar t
  rwa [e] at this
set_option maxRecDepth 20000 in
set_option maxHeartbeats 16000000 in
theorem eqH (h : Hd) (w : World) : Calls Tryd.prog 13 #[.agg h.ar, .agg h.ar] w fun e w' => e = .returned (.bool true) ∧ Below w.heap.size w w' := by
  go_enter Tryd.func13, Tryd.ntmps13
  go_upto_region 1 with fail
  refine wp_at (fun W => At W w.heap.size h.ar 31 ∧ At W (w.heap.size + 1) h.ar 31 ∧ Below w.heap.size w W) (two_same w h _) ?_
  rintro W ⟨A, Z, B⟩
  have c : W.cell? ⟨w.heap.size, 0, none⟩ = some (.bool h.up) := A.cell 0
  have d : W.cell? ⟨w.heap.size + 1, 0, none⟩ = some (.bool h.up) := Z.cell 0
  go_upto_region 3 with fail
  clear c d
  have c : W.cell? ⟨w.heap.size, 1, none⟩ = some (.bool h.inn) := A.cell 1
  have d : W.cell? ⟨w.heap.size + 1, 1, none⟩ = some (.bool h.inn) := Z.cell 1
  go_upto_region 5 with fail
  clear c d
  have c : W.cell? ⟨w.heap.size, 2, none⟩ = some (.bool h.sure) := A.cell 2
  have d : W.cell? ⟨w.heap.size + 1, 2, none⟩ = some (.bool h.sure) := Z.cell 2
  go_upto_region 7 with fail
  clear c d
  have c : W.cell? ⟨w.heap.size, 3, none⟩ = some (.bool h.known) := A.cell 3
  have d : W.cell? ⟨w.heap.size + 1, 3, none⟩ = some (.bool h.known) := Z.cell 3
  go_upto_region 9 with fail
  clear c d
  have c : W.cell? ⟨w.heap.size, 4, none⟩ = some (.int .i64 h.life) := A.cell 4
  have d : W.cell? ⟨w.heap.size + 1, 4, none⟩ = some (.int .i64 h.life) := Z.cell 4
  go_upto_region 11 with fail
  clear c d
  have c : W.cell? ⟨w.heap.size, 5, none⟩ = some (.int .i64 h.at_) := A.cell 5
  have d : W.cell? ⟨w.heap.size + 1, 5, none⟩ = some (.int .i64 h.at_) := Z.cell 5
  go_upto_region 13 with fail
  clear c d
  have c : W.cell? ⟨w.heap.size, 6, none⟩ = some (.int .i64 h.code) := A.cell 6
  have d : W.cell? ⟨w.heap.size + 1, 6, none⟩ = some (.int .i64 h.code) := Z.cell 6
  go_upto_region 15 with fail
  clear c d
  have c : W.cell? ⟨w.heap.size, 7, none⟩ = some (.int .i64 h.a) := A.cell 7
  have d : W.cell? ⟨w.heap.size + 1, 7, none⟩ = some (.int .i64 h.a) := Z.cell 7
  go_upto_region 17 with fail
  clear c d
  have c : W.cell? ⟨w.heap.size, 8, none⟩ = some (.int .i64 h.b) := A.cell 8
  have d : W.cell? ⟨w.heap.size + 1, 8, none⟩ = some (.int .i64 h.b) := Z.cell 8
  go_upto_region 19 with fail
  clear c d
  have c : W.cell? ⟨w.heap.size, 9, none⟩ = some (.int .i64 h.c) := A.cell 9
  have d : W.cell? ⟨w.heap.size + 1, 9, none⟩ = some (.int .i64 h.c) := Z.cell 9
  go_upto_region 21 with fail
  clear c d
  have c : W.cell? ⟨w.heap.size, 10, none⟩ = some (.int .i64 h.number) := A.cell 10
  have d : W.cell? ⟨w.heap.size + 1, 10, none⟩ = some (.int .i64 h.number) := Z.cell 10
  go_upto_region 23 with fail
  clear c d
  have c : W.cell? ⟨w.heap.size, 11, none⟩ = some (.int .i64 h.for_) := A.cell 11
  have d : W.cell? ⟨w.heap.size + 1, 11, none⟩ = some (.int .i64 h.for_) := Z.cell 11
  go_upto_region 25 with fail
  clear c d
  have c : W.cell? ⟨w.heap.size, 12, none⟩ = some (.int .i64 h.last) := A.cell 12
  have d : W.cell? ⟨w.heap.size + 1, 12, none⟩ = some (.int .i64 h.last) := Z.cell 12
  go_upto_region 27 with fail
  clear c d
  have c : W.cell? ⟨w.heap.size, 13, none⟩ = some (.int .i64 h.mine) := A.cell 13
  have d : W.cell? ⟨w.heap.size + 1, 13, none⟩ = some (.int .i64 h.mine) := Z.cell 13
  go_upto_region 29 with fail
  clear c d
  have c : W.cell? ⟨w.heap.size, 14, none⟩ = some (.int .i64 h.addr) := A.cell 14
  have d : W.cell? ⟨w.heap.size + 1, 14, none⟩ = some (.int .i64 h.addr) := Z.cell 14
  go_upto_region 31 with fail
  clear c d
  have c : W.cell? ⟨w.heap.size, 15, none⟩ = some (.int .u64 h.seen) := A.cell 15
  have d : W.cell? ⟨w.heap.size + 1, 15, none⟩ = some (.int .u64 h.seen) := Z.cell 15
  go_upto_region 33 with fail
  clear c d
  have c : W.cell? ⟨w.heap.size, 16, none⟩ = some (.int .u64 h.put) := A.cell 16
  have d : W.cell? ⟨w.heap.size + 1, 16, none⟩ = some (.int .u64 h.put) := Z.cell 16
  go_upto_region 35 with fail
  clear c d
  have c : W.cell? ⟨w.heap.size, 17, none⟩ = some (.int .i64 h.good) := A.cell 17
  have d : W.cell? ⟨w.heap.size + 1, 17, none⟩ = some (.int .i64 h.good) := Z.cell 17
  go_upto_region 37 with fail
  clear c d
  have c : W.cell? ⟨w.heap.size, 18, none⟩ = some (.int .i64 h.bad) := A.cell 18
  have d : W.cell? ⟨w.heap.size + 1, 18, none⟩ = some (.int .i64 h.bad) := Z.cell 18
  go_upto_region 39 with fail
  clear c d
  have c : W.cell? ⟨w.heap.size, 19, none⟩ = some (.int .i64 h.does) := A.cell 19
  have d : W.cell? ⟨w.heap.size + 1, 19, none⟩ = some (.int .i64 h.does) := Z.cell 19
  go_upto_region 41 with fail
  clear c d
  have c : W.cell? ⟨w.heap.size, 20, none⟩ = some (.int .i64 h.block) := A.cell 20
  have d : W.cell? ⟨w.heap.size + 1, 20, none⟩ = some (.int .i64 h.block) := Z.cell 20
  go_upto_region 43 with fail
  clear c d
  have c : W.cell? ⟨w.heap.size, 21, none⟩ = some (.int .i64 h.from_) := A.cell 21
  have d : W.cell? ⟨w.heap.size + 1, 21, none⟩ = some (.int .i64 h.from_) := Z.cell 21
  go_upto_region 45 with fail
  clear c d
  have c : W.cell? ⟨w.heap.size, 22, none⟩ = some (.int .i64 h.next) := A.cell 22
  have d : W.cell? ⟨w.heap.size + 1, 22, none⟩ = some (.int .i64 h.next) := Z.cell 22
  go_upto_region 47 with fail
  clear c d
  have c : W.cell? ⟨w.heap.size, 23, none⟩ = some (.int .i64 h.value) := A.cell 23
  have d : W.cell? ⟨w.heap.size + 1, 23, none⟩ = some (.int .i64 h.value) := Z.cell 23
  go_upto_region 49 with fail
  clear c d
  have c : W.cell? ⟨w.heap.size, 24, none⟩ = some (.int .i64 h.index) := A.cell 24
  have d : W.cell? ⟨w.heap.size + 1, 24, none⟩ = some (.int .i64 h.index) := Z.cell 24
  go_upto_region 51 with fail
  clear c d
  have c : W.cell? ⟨w.heap.size, 25, none⟩ = some (.int .i64 h.which) := A.cell 25
  have d : W.cell? ⟨w.heap.size + 1, 25, none⟩ = some (.int .i64 h.which) := Z.cell 25
  go_upto_region 53 with fail
  clear c d
  have c : W.cell? ⟨w.heap.size, 26, none⟩ = some (.int .i64 h.kept) := A.cell 26
  have d : W.cell? ⟨w.heap.size + 1, 26, none⟩ = some (.int .i64 h.kept) := Z.cell 26
  go_upto_region 55 with fail
  clear c d
  have c : W.cell? ⟨w.heap.size, 27, none⟩ = some (.int .i64 h.wasCode) := A.cell 27
  have d : W.cell? ⟨w.heap.size + 1, 27, none⟩ = some (.int .i64 h.wasCode) := Z.cell 27
  go_upto_region 57 with fail
  clear c d
  have c : W.cell? ⟨w.heap.size, 28, none⟩ = some (.int .i64 h.wasItem) := A.cell 28
  have d : W.cell? ⟨w.heap.size + 1, 28, none⟩ = some (.int .i64 h.wasItem) := Z.cell 28
  go_upto_region 59 with fail
  clear c d
  have c : W.cell? ⟨w.heap.size, 29, none⟩ = some (.int .i64 h.wasNumber) := A.cell 29
  have d : W.cell? ⟨w.heap.size + 1, 29, none⟩ = some (.int .i64 h.wasNumber) := Z.cell 29
  go_upto_region 61 with fail
  clear c d
  have c : W.cell? ⟨w.heap.size, 30, none⟩ = some (.int .i64 h.wasKind) := A.cell 30
  have d : W.cell? ⟨w.heap.size + 1, 30, none⟩ = some (.int .i64 h.wasKind) := Z.cell 30
  go_upto_region 63 with fail
  clear c d
  have c : W.cell? ⟨w.heap.size, 31, none⟩ = some (.int .i64 h.wasTag) := A.cell 31
  have d : W.cell? ⟨w.heap.size + 1, 31, none⟩ = some (.int .i64 h.wasTag) := Z.cell 31
  go_upto_region 65 with fail
  clear c d
  have c : W.cell? ⟨w.heap.size, 32, none⟩ = some (.int .i64 h.reply) := A.cell 32
  have d : W.cell? ⟨w.heap.size + 1, 32, none⟩ = some (.int .i64 h.reply) := Z.cell 32
  go_upto_region 67 with fail
  clear c d
  have c : W.cell? ⟨w.heap.size, 33, none⟩ = some (.int .i64 h.out) := A.cell 33
  have d : W.cell? ⟨w.heap.size + 1, 33, none⟩ = some (.int .i64 h.out) := Z.cell 33
  go_upto_region 69 with fail
  clear c d
  have c : W.cell? ⟨w.heap.size, 34, none⟩ = some (.int .i64 h.mark) := A.cell 34
  have d : W.cell? ⟨w.heap.size + 1, 34, none⟩ = some (.int .i64 h.mark) := Z.cell 34
  go_upto_region 71 with fail
  clear c d
  have c : W.cell? ⟨w.heap.size, 35, none⟩ = some (.int .i64 h.begin_) := A.cell 35
  have d : W.cell? ⟨w.heap.size + 1, 35, none⟩ = some (.int .i64 h.begin_) := Z.cell 35
  go_upto_region 73 with fail
  clear c d
  go_wp2
  go_ret
  exact ⟨rfl, B⟩
end Go.Proofs.YtooljeddnfkphaaDoor
