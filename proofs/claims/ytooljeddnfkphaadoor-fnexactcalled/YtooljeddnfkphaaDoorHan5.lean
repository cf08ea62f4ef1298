/-
  The ranges of a hand: the specification's own side.
-/
import Derived.Test.YtooljeddnfkphaaDoorHan3
import Derived.Test.YtooljeddnfkphaaDoorPlan3
import Derived.BigQuiet
namespace Go.Proofs.YtooljeddnfkphaaDoor
open Go.RowKit
set_option linter.unusedVariables false
def Hd.own (h : Hd) (p : Int) : Bool := inB h.at_ 0 70 && inB h.code 0 14 && inB h.a 0 65535 && inB h.b 0 4294967295 && inB h.c 0 65535 && inB h.number 0 4294967295 && inB h.for_ 0 (p - 1) && inB h.last 0 4294967295 && inB h.mine 0 4294967295 && inB h.kept 0 65535 && inB h.reply 0 255 && inB h.out 0 65535 && inB h.mark 0 20000 && inB h.begin_ 0 20000
def Hd.swap (h : Hd) (p s l c : Int) : Bool := inB h.addr 0 (zF p s l c - 1) && inB h.good 0 70 && inB h.bad 0 70 && inB h.does 0 7 && inB h.block 0 65535 && inB h.from_ 0 65535 && inB h.next 0 65535 && inB h.value 0 65535 && inB h.index 0 (s + l + 1) && inB h.which 0 (2 * p - 1)
def Hd.was (h : Hd) : Bool := inB h.wasCode 0 255 && inB h.wasItem 0 65535 && inB h.wasNumber 0 4294967295 && inB h.wasKind 0 255 && inB h.wasTag 0 4294967295
set_option maxHeartbeats 400000 in
theorem sAt6 (n : Int) (w : World) : Calls Tryd.prog 49 #[.int .i64 n] w fun e w' => e = .returned (.bool (inB n 0 70)) ∧ w' = w := by
  go_enter Tryd.func49, Tryd.ntmps49
  go_wp2_with (go_at_call 19; refine (sIn _ _ _ _).mono ?_; rintro e w1 ⟨rfl, rfl⟩)
  go_returns
  exact ⟨rfl, rfl⟩
set_option maxHeartbeats 400000 in
theorem sInd (n : Int) (w : World) : Calls Tryd.prog 22 #[.int .i64 n] w fun e w' => e = .returned (.bool (inB n 0 65535)) ∧ w' = w := by
  go_enter Tryd.func22, Tryd.ntmps22
  go_wp2_with (go_at_call 19; refine (sIn _ _ _ _).mono ?_; rintro e w1 ⟨rfl, rfl⟩)
  go_returns
  exact ⟨rfl, rfl⟩
set_option maxHeartbeats 400000 in
theorem sSeq (n : Int) (w : World) : Calls Tryd.prog 50 #[.int .i64 n] w fun e w' => e = .returned (.bool (inB n 0 4294967295)) ∧ w' = w := by
  go_enter Tryd.func50, Tryd.ntmps50
  go_wp2_with (go_at_call 19; refine (sIn _ _ _ _).mono ?_; rintro e w1 ⟨rfl, rfl⟩)
  go_returns
  exact ⟨rfl, rfl⟩
set_option maxHeartbeats 400000 in
theorem sByt (n : Int) (w : World) : Calls Tryd.prog 51 #[.int .i64 n] w fun e w' => e = .returned (.bool (inB n 0 255)) ∧ w' = w := by
  go_enter Tryd.func51, Tryd.ntmps51
  go_wp2_with (go_at_call 19; refine (sIn _ _ _ _).mono ?_; rintro e w1 ⟨rfl, rfl⟩)
  go_returns
  exact ⟨rfl, rfl⟩
set_option maxHeartbeats 400000 in
theorem sClk (n : Int) (w : World) : Calls Tryd.prog 52 #[.int .i64 n] w fun e w' => e = .returned (.bool (inB n 0 20000)) ∧ w' = w := by
  go_enter Tryd.func52, Tryd.ntmps52
  go_wp2_with (go_at_call 19; refine (sIn _ _ _ _).mono ?_; rintro e w1 ⟨rfl, rfl⟩)
  go_returns
  exact ⟨rfl, rfl⟩
theorem two_box (w : World) (cs ds : Array Value) (t t' : TypeId) : At ((w.alloc (.cells cs t)).alloc (.cells ds t')) w.heap.size cs t ∧ At ((w.alloc (.cells cs t)).alloc (.cells ds t')) (w.heap.size + 1) ds t' ∧ Below w.heap.size w ((w.alloc (.cells cs t)).alloc (.cells ds t')) := by
  have e : (w.alloc (.cells cs t)).heap.size = w.heap.size + 1 := by simp
  refine ⟨(At.new w cs t).keep ((Below.refl _ _).alloc (Nat.le_refl _) _), ?_, ((Below.refl _ _).alloc (Nat.le_refl _) _).alloc (by omega) _⟩
  have := At.new (w.alloc (.cells cs t)) ds t'
  rwa [e] at this
theorem At.five {w : World} {b : Nat} {x0 x1 x2 x3 x4 : Value} {t : TypeId} (h : At w b #[x0, x1, x2, x3, x4] t) : w.cell? ⟨b, 0, none⟩ = some x0 ∧ w.cell? ⟨b, 1, none⟩ = some x1 ∧ w.cell? ⟨b, 2, none⟩ = some x2 ∧ w.cell? ⟨b, 3, none⟩ = some x3 ∧ w.cell? ⟨b, 4, none⟩ = some x4 := ⟨h.cell 0, h.cell 1, h.cell 2, h.cell 3, h.cell 4⟩
set_option maxHeartbeats 8000000 in
theorem sWas (h : Hd) (w : World) : Calls Tryd.prog 37 #[.agg h.ar] w fun e w' => e = .returned (.bool h.was) ∧ Below w.heap.size w w' := by
  go_enter Tryd.func37, Tryd.ntmps37
  go_upto_region 1 with fail
  refine wp_at (fun W => At W w.heap.size h.ar 31 ∧ Below w.heap.size w W) ⟨At.new w h.ar _, (Below.refl _ _).alloc (Nat.le_refl _) _⟩ ?_
  rintro W ⟨A, z⟩
  have c27 : W.cell? ⟨w.heap.size, 27, none⟩ = some (.int .i64 h.wasCode) := A.cell 27
  have c28 : W.cell? ⟨w.heap.size, 28, none⟩ = some (.int .i64 h.wasItem) := A.cell 28
  have c29 : W.cell? ⟨w.heap.size, 29, none⟩ = some (.int .i64 h.wasNumber) := A.cell 29
  have c30 : W.cell? ⟨w.heap.size, 30, none⟩ = some (.int .i64 h.wasKind) := A.cell 30
  have c31 : W.cell? ⟨w.heap.size, 31, none⟩ = some (.int .i64 h.wasTag) := A.cell 31
  go_wp2_with (first
    | (go_at_call 49; refine (sAt6 _ _).mono ?_; rintro e w1 ⟨rfl, rfl⟩)
    | (go_at_call 22; refine (sInd _ _).mono ?_; rintro e w1 ⟨rfl, rfl⟩)
    | (go_at_call 50; refine (sSeq _ _).mono ?_; rintro e w1 ⟨rfl, rfl⟩)
    | (go_at_call 51; refine (sByt _ _).mono ?_; rintro e w1 ⟨rfl, rfl⟩)
    | (go_at_call 52; refine (sClk _ _).mono ?_; rintro e w1 ⟨rfl, rfl⟩)
    | (go_at_call 19; refine (sIn _ _ _ _).mono ?_; rintro e w1 ⟨rfl, rfl⟩))
  all_goals go_returns
  all_goals refine ⟨ret_b ?_, z⟩
  all_goals simp_all [Hd.was]
set_option maxHeartbeats 16000000 in
theorem sOwn (p s l c k : Int) (h : Hd) (ho : ok p s l c k = true) (w : World) : Calls Tryd.prog 35 #[.agg #[.int .i64 p, .int .i64 s, .int .i64 l, .int .i64 c, .int .i64 k], .agg h.ar] w fun e w' => e = .returned (.bool (h.own p)) ∧ Below w.heap.size w w' := by
  obtain ⟨P, A, z⟩ := two_box w #[.int .i64 p, .int .i64 s, .int .i64 l, .int .i64 c, .int .i64 k] h.ar 25 31
  have c5 : ((w.alloc (.cells #[.int .i64 p, .int .i64 s, .int .i64 l, .int .i64 c, .int .i64 k] 25)).alloc (.cells h.ar 31)).cell? ⟨w.heap.size + 1, 5, none⟩ = some (.int .i64 h.at_) := A.cell 5
  have c6 : ((w.alloc (.cells #[.int .i64 p, .int .i64 s, .int .i64 l, .int .i64 c, .int .i64 k] 25)).alloc (.cells h.ar 31)).cell? ⟨w.heap.size + 1, 6, none⟩ = some (.int .i64 h.code) := A.cell 6
  have c7 : ((w.alloc (.cells #[.int .i64 p, .int .i64 s, .int .i64 l, .int .i64 c, .int .i64 k] 25)).alloc (.cells h.ar 31)).cell? ⟨w.heap.size + 1, 7, none⟩ = some (.int .i64 h.a) := A.cell 7
  have c8 : ((w.alloc (.cells #[.int .i64 p, .int .i64 s, .int .i64 l, .int .i64 c, .int .i64 k] 25)).alloc (.cells h.ar 31)).cell? ⟨w.heap.size + 1, 8, none⟩ = some (.int .i64 h.b) := A.cell 8
  have c9 : ((w.alloc (.cells #[.int .i64 p, .int .i64 s, .int .i64 l, .int .i64 c, .int .i64 k] 25)).alloc (.cells h.ar 31)).cell? ⟨w.heap.size + 1, 9, none⟩ = some (.int .i64 h.c) := A.cell 9
  have c10 : ((w.alloc (.cells #[.int .i64 p, .int .i64 s, .int .i64 l, .int .i64 c, .int .i64 k] 25)).alloc (.cells h.ar 31)).cell? ⟨w.heap.size + 1, 10, none⟩ = some (.int .i64 h.number) := A.cell 10
  have c11 : ((w.alloc (.cells #[.int .i64 p, .int .i64 s, .int .i64 l, .int .i64 c, .int .i64 k] 25)).alloc (.cells h.ar 31)).cell? ⟨w.heap.size + 1, 11, none⟩ = some (.int .i64 h.for_) := A.cell 11
  have c12 : ((w.alloc (.cells #[.int .i64 p, .int .i64 s, .int .i64 l, .int .i64 c, .int .i64 k] 25)).alloc (.cells h.ar 31)).cell? ⟨w.heap.size + 1, 12, none⟩ = some (.int .i64 h.last) := A.cell 12
  have c13 : ((w.alloc (.cells #[.int .i64 p, .int .i64 s, .int .i64 l, .int .i64 c, .int .i64 k] 25)).alloc (.cells h.ar 31)).cell? ⟨w.heap.size + 1, 13, none⟩ = some (.int .i64 h.mine) := A.cell 13
  have c26 : ((w.alloc (.cells #[.int .i64 p, .int .i64 s, .int .i64 l, .int .i64 c, .int .i64 k] 25)).alloc (.cells h.ar 31)).cell? ⟨w.heap.size + 1, 26, none⟩ = some (.int .i64 h.kept) := A.cell 26
  have c32 : ((w.alloc (.cells #[.int .i64 p, .int .i64 s, .int .i64 l, .int .i64 c, .int .i64 k] 25)).alloc (.cells h.ar 31)).cell? ⟨w.heap.size + 1, 32, none⟩ = some (.int .i64 h.reply) := A.cell 32
  have c33 : ((w.alloc (.cells #[.int .i64 p, .int .i64 s, .int .i64 l, .int .i64 c, .int .i64 k] 25)).alloc (.cells h.ar 31)).cell? ⟨w.heap.size + 1, 33, none⟩ = some (.int .i64 h.out) := A.cell 33
  have c34 : ((w.alloc (.cells #[.int .i64 p, .int .i64 s, .int .i64 l, .int .i64 c, .int .i64 k] 25)).alloc (.cells h.ar 31)).cell? ⟨w.heap.size + 1, 34, none⟩ = some (.int .i64 h.mark) := A.cell 34
  have c35 : ((w.alloc (.cells #[.int .i64 p, .int .i64 s, .int .i64 l, .int .i64 c, .int .i64 k] 25)).alloc (.cells h.ar 31)).cell? ⟨w.heap.size + 1, 35, none⟩ = some (.int .i64 h.begin_) := A.cell 35
  obtain ⟨d0, d1, d2, d3, d4⟩ := P.five
  go_enter Tryd.func35, Tryd.ntmps35
  go_wp2_with (first
    | (go_at_call 49; refine (sAt6 _ _).mono ?_; rintro e w1 ⟨rfl, rfl⟩)
    | (go_at_call 22; refine (sInd _ _).mono ?_; rintro e w1 ⟨rfl, rfl⟩)
    | (go_at_call 50; refine (sSeq _ _).mono ?_; rintro e w1 ⟨rfl, rfl⟩)
    | (go_at_call 51; refine (sByt _ _).mono ?_; rintro e w1 ⟨rfl, rfl⟩)
    | (go_at_call 52; refine (sClk _ _).mono ?_; rintro e w1 ⟨rfl, rfl⟩)
    | (go_at_call 19; refine (sIn _ _ _ _).mono ?_; rintro e w1 ⟨rfl, rfl⟩)
    | (go_at_call 18; refine (sHas _ _ _ _ _ _ ho _).mono ?_; rintro e w2 ⟨rfl, hb⟩; clear d0 d1 d2 d3 d4 c5 c6 c7 c8 c9 c10 c11 c12 c13 c26 c32 c33 c34 c35; replace A := A.keep hb; replace z := z.trans (hb.mono z.size); clear hb; have c12 : w2.cell? ⟨w.heap.size + 1, 12, none⟩ = some (.int .i64 h.last) := A.cell 12; have c13 : w2.cell? ⟨w.heap.size + 1, 13, none⟩ = some (.int .i64 h.mine) := A.cell 13; have c26 : w2.cell? ⟨w.heap.size + 1, 26, none⟩ = some (.int .i64 h.kept) := A.cell 26; have c32 : w2.cell? ⟨w.heap.size + 1, 32, none⟩ = some (.int .i64 h.reply) := A.cell 32; have c33 : w2.cell? ⟨w.heap.size + 1, 33, none⟩ = some (.int .i64 h.out) := A.cell 33; have c34 : w2.cell? ⟨w.heap.size + 1, 34, none⟩ = some (.int .i64 h.mark) := A.cell 34; have c35 : w2.cell? ⟨w.heap.size + 1, 35, none⟩ = some (.int .i64 h.begin_) := A.cell 35))
  all_goals go_returns
  all_goals refine ⟨ret_b ?_, z⟩
  all_goals simp_all [Hd.own]
end Go.Proofs.YtooljeddnfkphaaDoor
