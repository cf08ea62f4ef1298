/-
  A call begins: the hand as it is then; what Called answers.
-/
import Derived.Test.YtooljeddnfkphaaDoorCal6
namespace Go.Proofs.YtooljeddnfkphaaDoor
open Go.RowKit
set_option linter.unusedVariables false
def Hd.mid (h : Hd) (slot code a b d : Int) : Hd := { h.resting with code := code, a := a, b := b, c := d, for_ := slot, at_ := 1 }
def Hd.begun (h : Hd) (slot code a b d : Int) : Hd := if code = 1 then { h.resting with code := code, a := a, b := b, c := d, for_ := slot, at_ := 52, kept := 0 } else h.mid slot code a b d
theorem mid_ar (h : Hd) (slot code a b d : Int) : (((((h.resting.ar.setIfInBounds 6 (.int .i64 code)).setIfInBounds 7 (.int .i64 a)).setIfInBounds 8 (.int .i64 b)).setIfInBounds 9 (.int .i64 d)).setIfInBounds 11 (.int .i64 slot)).setIfInBounds 5 (.int .i64 1) = (h.mid slot code a b d).ar := by rfl
theorem start_ar (h : Hd) (slot a b d : Int) : ((h.mid slot 1 a b d).ar.setIfInBounds 5 (.int .i64 52)).setIfInBounds 26 (.int .i64 0) = (h.begun slot 1 a b d).ar := by rfl
theorem begun_n {h : Hd} {slot code a b d : Int} (hc : ¬ code = 1) : h.begun slot code a b d = h.mid slot code a b d := if_neg hc
theorem bZero : Tryd.prog.built 31 [] = some Hd.zero.ar := by kernel_rfl
theorem putsB {B : Nat} {a w : World} (i : Nat) (v : Value) (z : Below B a w) : Below B a (w.setCell ⟨B, i, none⟩ v) := z.setCell (p := ⟨B, i, none⟩) (Nat.le_refl _) v
set_option maxHeartbeats 8000000 in
theorem iBegunAt (h : Hd) (slot code a b d : Int) (w : World) : Calls Tryd.prog 30 #[.agg h.ar, .int .i64 slot, .int .i64 code, .int .i64 a, .int .i64 b, .int .i64 d] w fun e w' => e = .returned (.agg (h.begun slot code a b d).ar) ∧ Below w.heap.size w w' := by
  go_enter Tryd.func30, Tryd.ntmps30
  go_upto_region 1 with fail
  refine wp_at (fun W => At W w.heap.size h.ar 31 ∧ At W (w.heap.size + 1) Hd.zero.ar 31 ∧ Below w.heap.size w W) (two_new w h.ar _ _) ?_
  rintro W ⟨A, Z, B⟩
  go_upto_region 2 with (first
    | (refine loadHl rfl (.tmp 6) rfl w.heap.size h rfl A ?_)
    | (go_at_call 46; refine (iResting h _).mono ?_; rintro e w1 ⟨rfl, hb⟩; replace A := A.keep hb; replace Z := Z.keep hb; replace B := B.trans (hb.mono B.size); clear hb)
    | (refine storeH rfl (.tmp 6) (.tmp 14) rfl w.heap.size h.resting rfl rfl A rfl ?_; intro w2 A2 kk; replace Z := Z.kept kk (by omega); replace B := B.trans (kk.below (Nat.le_refl _) B.size)))
  clear A kk
  have c5 : w2.cell? ⟨w.heap.size, 5, none⟩ = some _ := (A2.cell 5).trans rfl
  have g5 : w2.frozen? ⟨w.heap.size, 5, none⟩ = false := A2.frozen 5
  have c6 : w2.cell? ⟨w.heap.size, 6, none⟩ = some _ := (A2.cell 6).trans rfl
  have g6 : w2.frozen? ⟨w.heap.size, 6, none⟩ = false := A2.frozen 6
  have c7 : w2.cell? ⟨w.heap.size, 7, none⟩ = some _ := (A2.cell 7).trans rfl
  have g7 : w2.frozen? ⟨w.heap.size, 7, none⟩ = false := A2.frozen 7
  have c8 : w2.cell? ⟨w.heap.size, 8, none⟩ = some _ := (A2.cell 8).trans rfl
  have g8 : w2.frozen? ⟨w.heap.size, 8, none⟩ = false := A2.frozen 8
  have c9 : w2.cell? ⟨w.heap.size, 9, none⟩ = some _ := (A2.cell 9).trans rfl
  have g9 : w2.frozen? ⟨w.heap.size, 9, none⟩ = false := A2.frozen 9
  have c11 : w2.cell? ⟨w.heap.size, 11, none⟩ = some _ := (A2.cell 11).trans rfl
  have g11 : w2.frozen? ⟨w.heap.size, 11, none⟩ = false := A2.frozen 11
  go_upto_region 4 with fail
  refine wp_at (fun W => At W w.heap.size (h.mid slot code a b d).ar 31 ∧ At W (w.heap.size + 1) Hd.zero.ar 31 ∧ Below w.heap.size w W) (by
    refine ⟨?_, ?_, ?_⟩
    · rw [← mid_ar]; exact (((((A2.set 6 _).set 7 _).set 8 _).set 9 _).set 11 _).set 5 _
    · exact (((((Z.other (show w.heap.size + 1 ≠ w.heap.size by omega) _).other (show w.heap.size + 1 ≠ w.heap.size by omega) _).other (show w.heap.size + 1 ≠ w.heap.size by omega) _).other (show w.heap.size + 1 ≠ w.heap.size by omega) _).other (show w.heap.size + 1 ≠ w.heap.size by omega) _).other (show w.heap.size + 1 ≠ w.heap.size by omega) _
    · exact putsB 5 _ (putsB 11 _ (putsB 9 _ (putsB 8 _ (putsB 7 _ (putsB 6 _ B)))))) ?_
  clear c5 g5 c6 g6 c7 g7 c8 g8 c9 g9 c11 g11 A2 Z B
  rintro W3 ⟨A, Z, B⟩
  by_cases hc : code = 1
  · subst hc
    have c5 : W3.cell? ⟨w.heap.size, 5, none⟩ = some _ := (A.cell 5).trans rfl
    have g5 : W3.frozen? ⟨w.heap.size, 5, none⟩ = false := A.frozen 5
    have c26 : W3.cell? ⟨w.heap.size, 26, none⟩ = some _ := (A.cell 26).trans rfl
    have g26 : W3.frozen? ⟨w.heap.size, 26, none⟩ = false := A.frozen 26
    go_upto_region 6 with fail
    refine wp_at (fun W => At W w.heap.size (h.begun slot 1 a b d).ar 31 ∧ At W (w.heap.size + 1) Hd.zero.ar 31 ∧ Below w.heap.size w W) (by
      refine ⟨?_, ?_, ?_⟩
      · rw [← start_ar]; exact (A.set 5 _).set 26 _
      · exact (Z.other (show w.heap.size + 1 ≠ w.heap.size by omega) _).other (show w.heap.size + 1 ≠ w.heap.size by omega) _
      · exact putsB 26 _ (putsB 5 _ B)) ?_
    clear c5 g5 c26 g26 A Z B
    rintro W4 ⟨A, Z, B⟩
    go_wp2_with (first
      | (refine loadHl rfl (.tmp 6) rfl w.heap.size (h.begun slot 1 a b d) rfl A ?_)
      | (refine storeH rfl (.tmp 12) (.tmp 30) rfl (w.heap.size + 1) (h.begun slot 1 a b d) rfl rfl Z rfl ?_; intro W5 Z5 kk; replace B := B.trans (kk.below (Nat.le_succ _) B.size)))
    exact bodyPost_ret (v := .agg (h.begun slot 1 a b d).ar) (resH 12 Tryd.results30 rfl Z5) rfl ⟨rfl, B⟩
  · go_wp2_with (first
      | (refine loadHl rfl (.tmp 6) rfl w.heap.size (h.mid slot code a b d) rfl A ?_)
      | (refine storeH rfl (.tmp 12) (.tmp 30) rfl (w.heap.size + 1) (h.mid slot code a b d) rfl rfl Z rfl ?_; intro W5 Z5 kk; replace B := B.trans (kk.below (Nat.le_succ _) B.size)))
    exact bodyPost_ret (v := .agg (h.mid slot code a b d).ar) (resH 12 Tryd.results30 rfl Z5) rfl ⟨by rw [begun_n hc], B⟩
theorem three_box (w : World) (cs ds es : Array Value) (t t' t2 : TypeId) : At (((w.alloc (.cells cs t)).alloc (.cells ds t')).alloc (.cells es t2)) w.heap.size cs t ∧ At (((w.alloc (.cells cs t)).alloc (.cells ds t')).alloc (.cells es t2)) (w.heap.size + 1) ds t' ∧ At (((w.alloc (.cells cs t)).alloc (.cells ds t')).alloc (.cells es t2)) (w.heap.size + 2) es t2 ∧ Below w.heap.size w (((w.alloc (.cells cs t)).alloc (.cells ds t')).alloc (.cells es t2)) := by
  obtain ⟨x, y, z⟩ := two_box w cs ds t t'
  have e : ((w.alloc (.cells cs t)).alloc (.cells ds t')).heap.size = w.heap.size + 2 := by simp
  refine ⟨x.keep ((Below.refl _ _).alloc (Nat.le_refl _) _), y.keep ((Below.refl _ _).alloc (Nat.le_refl _) _), ?_, z.alloc (by omega) _⟩
  have := At.new ((w.alloc (.cells cs t)).alloc (.cells ds t')) es t2
  rwa [e] at this
set_option maxHeartbeats 1000000 in
theorem iHasW (p s l c k i : Int) (w : World) : Calls Tryd.prog 24 #[.agg #[.int .i64 p, .int .i64 s, .int .i64 l, .int .i64 c, .int .i64 k], .int .i64 i] w fun e w' => e = .returned (.bool (inB i 0 (wrap64 (p - 1)))) ∧ Below w.heap.size w w' := by
  go_enter Tryd.func24, Tryd.ntmps24
  go_wp2_with fail
  have z := (Below.refl w.heap.size w).alloc (Nat.le_refl _) (Obj.cells #[.int .i64 p, .int .i64 s, .int .i64 l, .int .i64 c, .int .i64 k] 25)
  go_wp2_with (first
    | (go_at_call 33; refine (iWithin _ _ _ _).mono ?_; rintro e w1 ⟨rfl, rfl⟩))
  go_returns
  exact ⟨rfl, z⟩
end Go.Proofs.YtooljeddnfkphaaDoor
