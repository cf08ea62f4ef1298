/-
  Whether the numbers of a call fit: the program's side.
-/
import Derived.Test.YtooljeddnfkphaaDoorCal2
namespace Go.Proofs.YtooljeddnfkphaaDoor
open Go.RowKit
set_option linter.unusedVariables false
def lastV (p s l c k b : Int) : Int := if vClass p s l c k b = 0 then 0 else 2
def rLo (place : Int) : Int := if place = 2 then 1 else if place = 8 then 1 else 0
def rHi (p s l c k place b : Int) : Int := if place = 1 then 1 else if place = 2 then s + l else if place = 3 then lastV p s l c k b else if place = 4 then 65535 else if place = 5 then c - 1 else if place = 6 then p - 1 else if place = 7 then p - 1 else if place = 8 then 4294967295 else 0
def fit1 (p s l c k slot b place n : Int) : Bool := inB n (rLo place) (rHi p s l c k place b) && !(decide (place = 7) && decide (n = slot))
set_option maxHeartbeats 2000000 in
theorem iLast (p s l c k b : Int) (w : World) : Calls Tryd.prog 48 #[.agg #[.int .i64 p, .int .i64 s, .int .i64 l, .int .i64 c, .int .i64 k], .int .i64 b] w fun e w' => e = .returned (.int .i64 (lastV p s l c k b)) ∧ Below w.heap.size w w' := by
  have z : Below w.heap.size w (w.alloc (Obj.cells #[.int .i64 p, .int .i64 s, .int .i64 l, .int .i64 c, .int .i64 k] 25)) := (Below.refl _ _).alloc (Nat.le_refl _) _
  by_cases hv : vClass p s l c k b = 0
  · have e : lastV p s l c k b = 0 := if_pos hv
    rw [e]
    go_enter Tryd.func48, Tryd.ntmps48
    go_wp2_with (go_at_call 56; refine (iClass _ _ _ _ _ _ _).mono ?_; rintro e w1 ⟨rfl, hb⟩; rw [hv]; replace z := z.trans (hb.mono z.size); clear hb)
    go_returns
    exact ⟨rfl, z⟩
  · have e : lastV p s l c k b = 2 := if_neg hv
    rw [e]
    obtain ⟨v, hv2⟩ : ∃ v, Hid (vClass p s l c k b = v) := ⟨_, rfl⟩
    have hv3 : ¬ v = 0 := by rw [← hv2.out]; exact hv
    clear hv e
    go_enter Tryd.func48, Tryd.ntmps48
    go_wp2_with (go_at_call 56; refine (iClass _ _ _ _ _ _ _).mono ?_; rintro e w1 ⟨rfl, hb⟩; rw [hv2.out]; replace z := z.trans (hb.mono z.size); clear hb)
    go_returns
    exact ⟨rfl, z⟩
set_option maxHeartbeats 2000000 in
theorem iRange0 (p s l c k b : Int) (ho : ok p s l c k = true) (w : World) : Calls Tryd.prog 34 #[.agg #[.int .i64 p, .int .i64 s, .int .i64 l, .int .i64 c, .int .i64 k], .int .i64 0, .int .i64 b] w fun e w' => e = .returned (.tuple #[.int .i64 0, .int .i64 0]) ∧ Below w.heap.size w w' := by
  have h' := ok_iff.1 ho
  have z : Below w.heap.size w (w.alloc (Obj.cells #[.int .i64 p, .int .i64 s, .int .i64 l, .int .i64 c, .int .i64 k] 25)) := (Below.refl _ _).alloc (Nat.le_refl _) _
  go_enter Tryd.func34, Tryd.ntmps34
  go_wp2
  go_returns
  exact ⟨rfl, z⟩
set_option maxHeartbeats 2000000 in
theorem iRange1 (p s l c k b : Int) (ho : ok p s l c k = true) (w : World) : Calls Tryd.prog 34 #[.agg #[.int .i64 p, .int .i64 s, .int .i64 l, .int .i64 c, .int .i64 k], .int .i64 1, .int .i64 b] w fun e w' => e = .returned (.tuple #[.int .i64 0, .int .i64 1]) ∧ Below w.heap.size w w' := by
  have h' := ok_iff.1 ho
  have z : Below w.heap.size w (w.alloc (Obj.cells #[.int .i64 p, .int .i64 s, .int .i64 l, .int .i64 c, .int .i64 k] 25)) := (Below.refl _ _).alloc (Nat.le_refl _) _
  go_enter Tryd.func34, Tryd.ntmps34
  go_wp2
  go_returns
  exact ⟨rfl, z⟩
set_option maxHeartbeats 2000000 in
theorem iRange2 (p s l c k b : Int) (ho : ok p s l c k = true) (w : World) : Calls Tryd.prog 34 #[.agg #[.int .i64 p, .int .i64 s, .int .i64 l, .int .i64 c, .int .i64 k], .int .i64 2, .int .i64 b] w fun e w' => e = .returned (.tuple #[.int .i64 1, .int .i64 (s + l)]) ∧ Below w.heap.size w w' := by
  have h' := ok_iff.1 ho
  have z : Below w.heap.size w (w.alloc (Obj.cells #[.int .i64 p, .int .i64 s, .int .i64 l, .int .i64 c, .int .i64 k] 25)) := (Below.refl _ _).alloc (Nat.le_refl _) _
  have eB : vBlocks p s l c k = s + l := by unfold vBlocks; rw [ho]; rfl
  go_enter Tryd.func34, Tryd.ntmps34
  go_wp2_with (go_at_call 47; refine (iBlocks _ _ _ _ _ _).mono ?_; rintro e w1 ⟨rfl, hb⟩; rw [eB]; replace z := z.trans (hb.mono z.size); clear hb)
  go_returns
  exact ⟨rfl, z⟩
set_option maxHeartbeats 2000000 in
theorem iRange3 (p s l c k b : Int) (ho : ok p s l c k = true) (w : World) : Calls Tryd.prog 34 #[.agg #[.int .i64 p, .int .i64 s, .int .i64 l, .int .i64 c, .int .i64 k], .int .i64 3, .int .i64 b] w fun e w' => e = .returned (.tuple #[.int .i64 0, .int .i64 (lastV p s l c k b)]) ∧ Below w.heap.size w w' := by
  have h' := ok_iff.1 ho
  have z : Below w.heap.size w (w.alloc (Obj.cells #[.int .i64 p, .int .i64 s, .int .i64 l, .int .i64 c, .int .i64 k] 25)) := (Below.refl _ _).alloc (Nat.le_refl _) _
  go_enter Tryd.func34, Tryd.ntmps34
  go_wp2_with (go_at_call 48; refine (iLast _ _ _ _ _ _ _).mono ?_; rintro e w1 ⟨rfl, hb⟩; replace z := z.trans (hb.mono z.size); clear hb)
  go_returns
  exact ⟨rfl, z⟩
set_option maxHeartbeats 2000000 in
theorem iRange4 (p s l c k b : Int) (ho : ok p s l c k = true) (w : World) : Calls Tryd.prog 34 #[.agg #[.int .i64 p, .int .i64 s, .int .i64 l, .int .i64 c, .int .i64 k], .int .i64 4, .int .i64 b] w fun e w' => e = .returned (.tuple #[.int .i64 0, .int .i64 65535]) ∧ Below w.heap.size w w' := by
  have h' := ok_iff.1 ho
  have z : Below w.heap.size w (w.alloc (Obj.cells #[.int .i64 p, .int .i64 s, .int .i64 l, .int .i64 c, .int .i64 k] 25)) := (Below.refl _ _).alloc (Nat.le_refl _) _
  go_enter Tryd.func34, Tryd.ntmps34
  go_wp2
  go_returns
  exact ⟨rfl, z⟩
set_option maxHeartbeats 2000000 in
theorem iRange5 (p s l c k b : Int) (ho : ok p s l c k = true) (w : World) : Calls Tryd.prog 34 #[.agg #[.int .i64 p, .int .i64 s, .int .i64 l, .int .i64 c, .int .i64 k], .int .i64 5, .int .i64 b] w fun e w' => e = .returned (.tuple #[.int .i64 0, .int .i64 (c - 1)]) ∧ Below w.heap.size w w' := by
  have h' := ok_iff.1 ho
  go_enter Tryd.func34, Tryd.ntmps34
  go_upto_region 11 with fail
  refine wp_at (fun W => At W w.heap.size #[.int .i64 p, .int .i64 s, .int .i64 l, .int .i64 c, .int .i64 k] 25 ∧ Below w.heap.size w W) ⟨At.new w _ _, (Below.refl _ _).alloc (Nat.le_refl _) _⟩ ?_
  rintro W ⟨P, z⟩
  obtain ⟨d0, d1, d2, d3, d4⟩ := P.five
  go_quiet (fail)
  go_wp2
  go_returns
  exact ⟨rfl, z.trans ⟨rfl, rfl, rfl, Nat.le_refl _, fun _ _ => rfl⟩⟩
set_option maxHeartbeats 2000000 in
theorem iRange6 (p s l c k b : Int) (ho : ok p s l c k = true) (w : World) : Calls Tryd.prog 34 #[.agg #[.int .i64 p, .int .i64 s, .int .i64 l, .int .i64 c, .int .i64 k], .int .i64 6, .int .i64 b] w fun e w' => e = .returned (.tuple #[.int .i64 0, .int .i64 (p - 1)]) ∧ Below w.heap.size w w' := by
  have h' := ok_iff.1 ho
  go_enter Tryd.func34, Tryd.ntmps34
  go_upto_region 14 with fail
  refine wp_at (fun W => At W w.heap.size #[.int .i64 p, .int .i64 s, .int .i64 l, .int .i64 c, .int .i64 k] 25 ∧ Below w.heap.size w W) ⟨At.new w _ _, (Below.refl _ _).alloc (Nat.le_refl _) _⟩ ?_
  rintro W ⟨P, z⟩
  obtain ⟨d0, d1, d2, d3, d4⟩ := P.five
  go_quiet (fail)
  go_wp2
  go_returns
  exact ⟨rfl, z.trans ⟨rfl, rfl, rfl, Nat.le_refl _, fun _ _ => rfl⟩⟩
set_option maxHeartbeats 2000000 in
theorem iRange7 (p s l c k b : Int) (ho : ok p s l c k = true) (w : World) : Calls Tryd.prog 34 #[.agg #[.int .i64 p, .int .i64 s, .int .i64 l, .int .i64 c, .int .i64 k], .int .i64 7, .int .i64 b] w fun e w' => e = .returned (.tuple #[.int .i64 0, .int .i64 (p - 1)]) ∧ Below w.heap.size w w' := by
  have h' := ok_iff.1 ho
  go_enter Tryd.func34, Tryd.ntmps34
  go_upto_region 14 with fail
  refine wp_at (fun W => At W w.heap.size #[.int .i64 p, .int .i64 s, .int .i64 l, .int .i64 c, .int .i64 k] 25 ∧ Below w.heap.size w W) ⟨At.new w _ _, (Below.refl _ _).alloc (Nat.le_refl _) _⟩ ?_
  rintro W ⟨P, z⟩
  obtain ⟨d0, d1, d2, d3, d4⟩ := P.five
  go_quiet (fail)
  go_wp2
  go_returns
  exact ⟨rfl, z.trans ⟨rfl, rfl, rfl, Nat.le_refl _, fun _ _ => rfl⟩⟩
set_option maxHeartbeats 2000000 in
theorem iRange8 (p s l c k b : Int) (ho : ok p s l c k = true) (w : World) : Calls Tryd.prog 34 #[.agg #[.int .i64 p, .int .i64 s, .int .i64 l, .int .i64 c, .int .i64 k], .int .i64 8, .int .i64 b] w fun e w' => e = .returned (.tuple #[.int .i64 1, .int .i64 4294967295]) ∧ Below w.heap.size w w' := by
  have h' := ok_iff.1 ho
  have z : Below w.heap.size w (w.alloc (Obj.cells #[.int .i64 p, .int .i64 s, .int .i64 l, .int .i64 c, .int .i64 k] 25)) := (Below.refl _ _).alloc (Nat.le_refl _) _
  go_enter Tryd.func34, Tryd.ntmps34
  go_wp2
  go_returns
  exact ⟨rfl, z⟩
theorem iRange (p s l c k place b : Int) (ho : ok p s l c k = true) (hp : 0 ≤ place ∧ place ≤ 8) (w : World) : Calls Tryd.prog 34 #[.agg #[.int .i64 p, .int .i64 s, .int .i64 l, .int .i64 c, .int .i64 k], .int .i64 place, .int .i64 b] w fun e w' => e = .returned (.tuple #[.int .i64 (rLo place), .int .i64 (rHi p s l c k place b)]) ∧ Below w.heap.size w w' := by
  have hc : place = 0 ∨ place = 1 ∨ place = 2 ∨ place = 3 ∨ place = 4 ∨ place = 5 ∨ place = 6 ∨ place = 7 ∨ place = 8 := by omega
  rcases hc with rfl | rfl | rfl | rfl | rfl | rfl | rfl | rfl | rfl
  · exact iRange0 p s l c k b ho w
  · exact iRange1 p s l c k b ho w
  · exact iRange2 p s l c k b ho w
  · exact iRange3 p s l c k b ho w
  · exact iRange4 p s l c k b ho w
  · exact iRange5 p s l c k b ho w
  · exact iRange6 p s l c k b ho w
  · exact iRange7 p s l c k b ho w
  · exact iRange8 p s l c k b ho w
end Go.Proofs.YtooljeddnfkphaaDoor
