/-
  The program's tests of the parts of a hand.
-/
import Derived.Test.YtooljeddnfkphaaDoorHan9
namespace Go.Proofs.YtooljeddnfkphaaDoor
open Go.RowKit
set_option linter.unusedVariables false
def Hd.aliveB (h : Hd) : Bool := inB h.life 1 65535 && allUp 70 [h.at_] && allUp 4294967295 [h.last] && allUp 65535 [h.kept]
def Hd.callB (h : Hd) : Bool := allUp 14 [h.code] && allUp 65535 [h.a, h.c, h.out] && allUp 4294967295 [h.b, h.number, h.mine] && allUp 255 [h.reply] && allUp 20000 [h.mark, h.begin_]
def Hd.swapB (h : Hd) : Bool := allUp 70 [h.good, h.bad] && allUp 7 [h.does] && allUp 65535 [h.block, h.from_, h.next, h.value]
def Hd.mendB (h : Hd) : Bool := allUp 255 [h.wasCode, h.wasKind] && allUp 65535 [h.wasItem] && allUp 4294967295 [h.wasNumber, h.wasTag]
set_option maxHeartbeats 16000000 in
theorem iAlive (h : Hd) (w : World) : Calls Tryd.prog 41 #[.agg h.ps.toArray] w fun e w' => e = .returned (.bool h.aliveB) ∧ Below w.heap.size w w' := by
  go_enter Tryd.func41, Tryd.ntmps41
  go_upto_region 1 with fail
  refine wp_at (fun W => At W w.heap.size h.ps.toArray 68 ∧ Below w.heap.size w W) ⟨At.new w _ _, (Below.refl _ _).alloc (Nat.le_refl _) _⟩ ?_
  rintro W ⟨A, z⟩
  have c2 : World.cell? W ⟨w.heap.size, 2, none⟩ = some (.int .i64 h.life) := A.cell 2
  have c3 : World.cell? W ⟨w.heap.size, 3, none⟩ = some (.int .i64 h.at_) := A.cell 3
  have c4 : World.cell? W ⟨w.heap.size, 4, none⟩ = some (.int .i64 h.last) := A.cell 4
  have c5 : World.cell? W ⟨w.heap.size, 5, none⟩ = some (.int .i64 h.kept) := A.cell 5
  go_wp2_with (first
    | (go_at_call 33; refine (iWithin _ _ _ _).mono ?_; rintro e w1 ⟨rfl, rfl⟩)
    | (go_at_call 38; (with_reducible refine (iUpTo1 _ _ _ _).mono ?_); rintro e w1 ⟨rfl, hb⟩; clear c2 c3 c4 c5; replace A := A.keep hb; replace z := z.trans (hb.mono z.size); clear hb; have c2 : World.cell? w1 ⟨w.heap.size, 2, none⟩ = some (.int .i64 h.life) := A.cell 2; have c3 : World.cell? w1 ⟨w.heap.size, 3, none⟩ = some (.int .i64 h.at_) := A.cell 3; have c4 : World.cell? w1 ⟨w.heap.size, 4, none⟩ = some (.int .i64 h.last) := A.cell 4; have c5 : World.cell? w1 ⟨w.heap.size, 5, none⟩ = some (.int .i64 h.kept) := A.cell 5))
  all_goals go_returns
  all_goals refine ⟨ret_b ?_, z⟩
  all_goals simp_all [Hd.aliveB]
set_option maxHeartbeats 16000000 in
theorem iCall (h : Hd) (w : World) : Calls Tryd.prog 42 #[.agg h.cp.toArray] w fun e w' => e = .returned (.bool h.callB) ∧ Below w.heap.size w w' := by
  go_enter Tryd.func42, Tryd.ntmps42
  go_upto_region 1 with fail
  refine wp_at (fun W => At W w.heap.size h.cp.toArray 62 ∧ Below w.heap.size w W) ⟨At.new w _ _, (Below.refl _ _).alloc (Nat.le_refl _) _⟩ ?_
  rintro W ⟨A, z⟩
  have c0 : World.cell? W ⟨w.heap.size, 0, none⟩ = some (.int .i64 h.code) := A.cell 0
  have c1 : World.cell? W ⟨w.heap.size, 1, none⟩ = some (.int .i64 h.a) := A.cell 1
  have c3 : World.cell? W ⟨w.heap.size, 3, none⟩ = some (.int .i64 h.c) := A.cell 3
  have c8 : World.cell? W ⟨w.heap.size, 8, none⟩ = some (.int .i64 h.out) := A.cell 8
  have c2 : World.cell? W ⟨w.heap.size, 2, none⟩ = some (.int .i64 h.b) := A.cell 2
  have c4 : World.cell? W ⟨w.heap.size, 4, none⟩ = some (.int .i64 h.number) := A.cell 4
  have c6 : World.cell? W ⟨w.heap.size, 6, none⟩ = some (.int .i64 h.mine) := A.cell 6
  have c7 : World.cell? W ⟨w.heap.size, 7, none⟩ = some (.int .i64 h.reply) := A.cell 7
  have c9 : World.cell? W ⟨w.heap.size, 9, none⟩ = some (.int .i64 h.mark) := A.cell 9
  have c10 : World.cell? W ⟨w.heap.size, 10, none⟩ = some (.int .i64 h.begin_) := A.cell 10
  go_wp2_with (first
    | (go_at_call 38; (with_reducible refine (iUpTo1 _ _ _ _).mono ?_); rintro e w1 ⟨rfl, hb⟩; clear c0 c1 c3 c8 c2 c4 c6 c7 c9 c10; replace A := A.keep hb; replace z := z.trans (hb.mono z.size); clear hb; have c0 : World.cell? w1 ⟨w.heap.size, 0, none⟩ = some (.int .i64 h.code) := A.cell 0; have c1 : World.cell? w1 ⟨w.heap.size, 1, none⟩ = some (.int .i64 h.a) := A.cell 1; have c3 : World.cell? w1 ⟨w.heap.size, 3, none⟩ = some (.int .i64 h.c) := A.cell 3; have c8 : World.cell? w1 ⟨w.heap.size, 8, none⟩ = some (.int .i64 h.out) := A.cell 8; have c2 : World.cell? w1 ⟨w.heap.size, 2, none⟩ = some (.int .i64 h.b) := A.cell 2; have c4 : World.cell? w1 ⟨w.heap.size, 4, none⟩ = some (.int .i64 h.number) := A.cell 4; have c6 : World.cell? w1 ⟨w.heap.size, 6, none⟩ = some (.int .i64 h.mine) := A.cell 6; have c7 : World.cell? w1 ⟨w.heap.size, 7, none⟩ = some (.int .i64 h.reply) := A.cell 7; have c9 : World.cell? w1 ⟨w.heap.size, 9, none⟩ = some (.int .i64 h.mark) := A.cell 9; have c10 : World.cell? w1 ⟨w.heap.size, 10, none⟩ = some (.int .i64 h.begin_) := A.cell 10)
    | (go_at_call 38; (with_reducible refine (iUpTo2 _ _ _ _ _).mono ?_); rintro e w1 ⟨rfl, hb⟩; clear c0 c1 c3 c8 c2 c4 c6 c7 c9 c10; replace A := A.keep hb; replace z := z.trans (hb.mono z.size); clear hb; have c0 : World.cell? w1 ⟨w.heap.size, 0, none⟩ = some (.int .i64 h.code) := A.cell 0; have c1 : World.cell? w1 ⟨w.heap.size, 1, none⟩ = some (.int .i64 h.a) := A.cell 1; have c3 : World.cell? w1 ⟨w.heap.size, 3, none⟩ = some (.int .i64 h.c) := A.cell 3; have c8 : World.cell? w1 ⟨w.heap.size, 8, none⟩ = some (.int .i64 h.out) := A.cell 8; have c2 : World.cell? w1 ⟨w.heap.size, 2, none⟩ = some (.int .i64 h.b) := A.cell 2; have c4 : World.cell? w1 ⟨w.heap.size, 4, none⟩ = some (.int .i64 h.number) := A.cell 4; have c6 : World.cell? w1 ⟨w.heap.size, 6, none⟩ = some (.int .i64 h.mine) := A.cell 6; have c7 : World.cell? w1 ⟨w.heap.size, 7, none⟩ = some (.int .i64 h.reply) := A.cell 7; have c9 : World.cell? w1 ⟨w.heap.size, 9, none⟩ = some (.int .i64 h.mark) := A.cell 9; have c10 : World.cell? w1 ⟨w.heap.size, 10, none⟩ = some (.int .i64 h.begin_) := A.cell 10)
    | (go_at_call 38; (with_reducible refine (iUpTo3 _ _ _ _ _ _).mono ?_); rintro e w1 ⟨rfl, hb⟩; clear c0 c1 c3 c8 c2 c4 c6 c7 c9 c10; replace A := A.keep hb; replace z := z.trans (hb.mono z.size); clear hb; have c0 : World.cell? w1 ⟨w.heap.size, 0, none⟩ = some (.int .i64 h.code) := A.cell 0; have c1 : World.cell? w1 ⟨w.heap.size, 1, none⟩ = some (.int .i64 h.a) := A.cell 1; have c3 : World.cell? w1 ⟨w.heap.size, 3, none⟩ = some (.int .i64 h.c) := A.cell 3; have c8 : World.cell? w1 ⟨w.heap.size, 8, none⟩ = some (.int .i64 h.out) := A.cell 8; have c2 : World.cell? w1 ⟨w.heap.size, 2, none⟩ = some (.int .i64 h.b) := A.cell 2; have c4 : World.cell? w1 ⟨w.heap.size, 4, none⟩ = some (.int .i64 h.number) := A.cell 4; have c6 : World.cell? w1 ⟨w.heap.size, 6, none⟩ = some (.int .i64 h.mine) := A.cell 6; have c7 : World.cell? w1 ⟨w.heap.size, 7, none⟩ = some (.int .i64 h.reply) := A.cell 7; have c9 : World.cell? w1 ⟨w.heap.size, 9, none⟩ = some (.int .i64 h.mark) := A.cell 9; have c10 : World.cell? w1 ⟨w.heap.size, 10, none⟩ = some (.int .i64 h.begin_) := A.cell 10))
  all_goals go_returns
  all_goals refine ⟨ret_b ?_, z⟩
  all_goals simp_all [Hd.callB]
set_option maxHeartbeats 16000000 in
theorem iSwp (h : Hd) (w : World) : Calls Tryd.prog 43 #[.agg h.sp.toArray] w fun e w' => e = .returned (.bool h.swapB) ∧ Below w.heap.size w w' := by
  go_enter Tryd.func43, Tryd.ntmps43
  go_upto_region 1 with fail
  refine wp_at (fun W => At W w.heap.size h.sp.toArray 64 ∧ Below w.heap.size w W) ⟨At.new w _ _, (Below.refl _ _).alloc (Nat.le_refl _) _⟩ ?_
  rintro W ⟨A, z⟩
  have c3 : World.cell? W ⟨w.heap.size, 3, none⟩ = some (.int .i64 h.good) := A.cell 3
  have c4 : World.cell? W ⟨w.heap.size, 4, none⟩ = some (.int .i64 h.bad) := A.cell 4
  have c5 : World.cell? W ⟨w.heap.size, 5, none⟩ = some (.int .i64 h.does) := A.cell 5
  have c6 : World.cell? W ⟨w.heap.size, 6, none⟩ = some (.int .i64 h.block) := A.cell 6
  have c7 : World.cell? W ⟨w.heap.size, 7, none⟩ = some (.int .i64 h.from_) := A.cell 7
  have c8 : World.cell? W ⟨w.heap.size, 8, none⟩ = some (.int .i64 h.next) := A.cell 8
  have c9 : World.cell? W ⟨w.heap.size, 9, none⟩ = some (.int .i64 h.value) := A.cell 9
  go_wp2_with (first
    | (go_at_call 38; (with_reducible refine (iUpTo1 _ _ _ _).mono ?_); rintro e w1 ⟨rfl, hb⟩; clear c3 c4 c5 c6 c7 c8 c9; replace A := A.keep hb; replace z := z.trans (hb.mono z.size); clear hb; have c3 : World.cell? w1 ⟨w.heap.size, 3, none⟩ = some (.int .i64 h.good) := A.cell 3; have c4 : World.cell? w1 ⟨w.heap.size, 4, none⟩ = some (.int .i64 h.bad) := A.cell 4; have c5 : World.cell? w1 ⟨w.heap.size, 5, none⟩ = some (.int .i64 h.does) := A.cell 5; have c6 : World.cell? w1 ⟨w.heap.size, 6, none⟩ = some (.int .i64 h.block) := A.cell 6; have c7 : World.cell? w1 ⟨w.heap.size, 7, none⟩ = some (.int .i64 h.from_) := A.cell 7; have c8 : World.cell? w1 ⟨w.heap.size, 8, none⟩ = some (.int .i64 h.next) := A.cell 8; have c9 : World.cell? w1 ⟨w.heap.size, 9, none⟩ = some (.int .i64 h.value) := A.cell 9)
    | (go_at_call 38; (with_reducible refine (iUpTo2 _ _ _ _ _).mono ?_); rintro e w1 ⟨rfl, hb⟩; clear c3 c4 c5 c6 c7 c8 c9; replace A := A.keep hb; replace z := z.trans (hb.mono z.size); clear hb; have c3 : World.cell? w1 ⟨w.heap.size, 3, none⟩ = some (.int .i64 h.good) := A.cell 3; have c4 : World.cell? w1 ⟨w.heap.size, 4, none⟩ = some (.int .i64 h.bad) := A.cell 4; have c5 : World.cell? w1 ⟨w.heap.size, 5, none⟩ = some (.int .i64 h.does) := A.cell 5; have c6 : World.cell? w1 ⟨w.heap.size, 6, none⟩ = some (.int .i64 h.block) := A.cell 6; have c7 : World.cell? w1 ⟨w.heap.size, 7, none⟩ = some (.int .i64 h.from_) := A.cell 7; have c8 : World.cell? w1 ⟨w.heap.size, 8, none⟩ = some (.int .i64 h.next) := A.cell 8; have c9 : World.cell? w1 ⟨w.heap.size, 9, none⟩ = some (.int .i64 h.value) := A.cell 9)
    | (go_at_call 38; (with_reducible refine (iUpTo4 _ _ _ _ _ _ _).mono ?_); rintro e w1 ⟨rfl, hb⟩; clear c3 c4 c5 c6 c7 c8 c9; replace A := A.keep hb; replace z := z.trans (hb.mono z.size); clear hb; have c3 : World.cell? w1 ⟨w.heap.size, 3, none⟩ = some (.int .i64 h.good) := A.cell 3; have c4 : World.cell? w1 ⟨w.heap.size, 4, none⟩ = some (.int .i64 h.bad) := A.cell 4; have c5 : World.cell? w1 ⟨w.heap.size, 5, none⟩ = some (.int .i64 h.does) := A.cell 5; have c6 : World.cell? w1 ⟨w.heap.size, 6, none⟩ = some (.int .i64 h.block) := A.cell 6; have c7 : World.cell? w1 ⟨w.heap.size, 7, none⟩ = some (.int .i64 h.from_) := A.cell 7; have c8 : World.cell? w1 ⟨w.heap.size, 8, none⟩ = some (.int .i64 h.next) := A.cell 8; have c9 : World.cell? w1 ⟨w.heap.size, 9, none⟩ = some (.int .i64 h.value) := A.cell 9))
  all_goals go_returns
  all_goals refine ⟨ret_b ?_, z⟩
  all_goals simp_all [Hd.swapB]
set_option maxHeartbeats 16000000 in
theorem iMnd (h : Hd) (w : World) : Calls Tryd.prog 44 #[.agg h.mp.toArray] w fun e w' => e = .returned (.bool h.mendB) ∧ Below w.heap.size w w' := by
  go_enter Tryd.func44, Tryd.ntmps44
  go_upto_region 1 with fail
  refine wp_at (fun W => At W w.heap.size h.mp.toArray 66 ∧ Below w.heap.size w W) ⟨At.new w _ _, (Below.refl _ _).alloc (Nat.le_refl _) _⟩ ?_
  rintro W ⟨A, z⟩
  have c4 : World.cell? W ⟨w.heap.size, 4, none⟩ = some (.int .i64 h.wasCode) := A.cell 4
  have c7 : World.cell? W ⟨w.heap.size, 7, none⟩ = some (.int .i64 h.wasKind) := A.cell 7
  have c5 : World.cell? W ⟨w.heap.size, 5, none⟩ = some (.int .i64 h.wasItem) := A.cell 5
  have c6 : World.cell? W ⟨w.heap.size, 6, none⟩ = some (.int .i64 h.wasNumber) := A.cell 6
  have c8 : World.cell? W ⟨w.heap.size, 8, none⟩ = some (.int .i64 h.wasTag) := A.cell 8
  go_wp2_with (first
    | (go_at_call 38; (with_reducible refine (iUpTo1 _ _ _ _).mono ?_); rintro e w1 ⟨rfl, hb⟩; clear c4 c7 c5 c6 c8; replace A := A.keep hb; replace z := z.trans (hb.mono z.size); clear hb; have c4 : World.cell? w1 ⟨w.heap.size, 4, none⟩ = some (.int .i64 h.wasCode) := A.cell 4; have c7 : World.cell? w1 ⟨w.heap.size, 7, none⟩ = some (.int .i64 h.wasKind) := A.cell 7; have c5 : World.cell? w1 ⟨w.heap.size, 5, none⟩ = some (.int .i64 h.wasItem) := A.cell 5; have c6 : World.cell? w1 ⟨w.heap.size, 6, none⟩ = some (.int .i64 h.wasNumber) := A.cell 6; have c8 : World.cell? w1 ⟨w.heap.size, 8, none⟩ = some (.int .i64 h.wasTag) := A.cell 8)
    | (go_at_call 38; (with_reducible refine (iUpTo2 _ _ _ _ _).mono ?_); rintro e w1 ⟨rfl, hb⟩; clear c4 c7 c5 c6 c8; replace A := A.keep hb; replace z := z.trans (hb.mono z.size); clear hb; have c4 : World.cell? w1 ⟨w.heap.size, 4, none⟩ = some (.int .i64 h.wasCode) := A.cell 4; have c7 : World.cell? w1 ⟨w.heap.size, 7, none⟩ = some (.int .i64 h.wasKind) := A.cell 7; have c5 : World.cell? w1 ⟨w.heap.size, 5, none⟩ = some (.int .i64 h.wasItem) := A.cell 5; have c6 : World.cell? w1 ⟨w.heap.size, 6, none⟩ = some (.int .i64 h.wasNumber) := A.cell 6; have c8 : World.cell? w1 ⟨w.heap.size, 8, none⟩ = some (.int .i64 h.wasTag) := A.cell 8))
  all_goals go_returns
  all_goals refine ⟨ret_b ?_, z⟩
  all_goals simp_all [Hd.mendB]
end Go.Proofs.YtooljeddnfkphaaDoor
