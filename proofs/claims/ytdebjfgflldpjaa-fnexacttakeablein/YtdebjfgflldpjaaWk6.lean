/-
  Walks: the faces of the chapter, in the specification and in the program.
-/
import Derived.Test.YtdebjfgflldpjaaWk5
namespace Go.Proofs.Ytdebjfgflldpjaa
open Go.RowKit
set_option maxRecDepth 100000
set_option linter.unusedVariables false
set_option linter.unusedSimpArgs false
def cellsOf (p s l c k : Int) (n : Nat) (xs : List Int) : List Int :=
  if aOk p s l c k n then (List.range c.toNat).map (fun i : Nat => rt p s l c k xs (5 + (i : Int))) else []
theorem range_snoc {f : Nat → Int} {i : Nat} : (List.range (i + 1)).map f = (List.range i).map f ++ [f i] := by rw [List.range_succ]; simp
theorem cells_len (p s l c k : Int) (n : Nat) (xs : List Int) : (cellsOf p s l c k n xs).length ≤ 250 := by
  unfold cellsOf
  split
  · rename_i h
    have h' := ok_iff.1 (aOk_y h).1
    simp
    omega
  · simp
/-- The blocks of a walk, of a right arena. -/
def nodes (p s l c k : Int) (n : Nat) (xs : List Int) (r : Int) : Option (List Int) := if aOk p s l c k n then wlk p s l c k xs r else none
def freeIn (p s l c k : Int) (n : Nat) (xs : List Int) (q : Int) : Option (List Int) := if q = 0 ∨ q = 1 then nodes p s l c k n xs q else none
def lineNodes (p s l c k : Int) (n : Nat) (xs : List Int) : Option (List Int) := (nodes p s l c k n xs 3).bind (fun ys => if rt p s l c k xs 4 ∈ ys then some ys else none)
def stackOf (p s l c k : Int) (n : Nat) (xs : List Int) : Option (List Int) := (nodes p s l c k n xs 2).map (fun ys => ys.map (lnk p s l c k xs 2))
def lineOf (p s l c k : Int) (n : Nat) (xs : List Int) : Option (List Int) := (lineNodes p s l c k n xs).map (fun ys => (ys.drop 1).map (lnk p s l c k xs 2))
theorem nodes_ok {p s l c k : Int} {n : Nat} {xs : List Int} {r : Int} : ∀ y ∈ (nodes p s l c k n xs r).getD [], ∃ i : Nat, vBlock p s l c k y 2 = (i : Int) ∧ i < n := by
  intro y hy
  unfold nodes at hy
  split at hy
  · rename_i ha
    cases h : wlk p s l c k xs r with
    | none => rw [h] at hy; simp at hy
    | some ys =>
      rw [h] at hy
      have hf := wk_fresh _ _ _ _ (Fresh.nil _) h
      have hb := hf.bd y hy
      exact link_in ha hb.1 hb.2 (by omega) (by omega)
  · simp at hy
theorem iNodes (p s l c k r : Int) (a : Option Addr) (n cap : Nat) (xs : List Int) (w : World) (h : Src w a n xs) (bd : ∀ x ∈ xs, 0 ≤ x ∧ x ≤ 18446744073709551615) (hn : n ≤ 16777216) (r0 : 0 ≤ r) (r1 : r ≤ 4) :
    Calls Try.prog 14 #[.agg #[.int .i64 p, .int .i64 s, .int .i64 l, .int .i64 c, .int .i64 k], .slice a n cap, .int .i64 r] w fun e w' => gives w w' e (nodes p s l c k n xs r) := by
  unfold nodes
  cases ha : aOk p s l c k n
  · exact iWalkN p s l c k r a n cap w hn ha
  · have h' := ok_iff.1 (aOk_y ha).1
    exact iWalk p s l c k r a n cap xs w h bd hn ha r0 (by omega)
theorem gives.after {w w1 w' : World} {e : Ending} {R : Option (List Int)} (h : gives w1 w' e R) (z : Below w.heap.size w w1) : gives w w' e R := by
  obtain ⟨g, m, cc, h1, h2, h3, h4, h5⟩ := h
  exact ⟨g, m, cc, h1, Nat.le_trans z.size h2, h3, h4, z.trans (h5.mono z.size)⟩
theorem gives.none_lit {w w1 : World} (z : Below w.heap.size w w1) : gives w (w1.alloc (.cells #[] 2)) (.returned (.tuple #[.slice (some ⟨w1.heap.size, 0, none⟩) 0 0, .bool false])) none :=
  ⟨_, 0, 0, rfl, z.size, Is.lit _, Nat.zero_le _, z.alloc z.size _⟩
theorem e_tuple {v v' : Value} {t t' : Bool} (h : v = v') (h2 : t = t') : Ending.returned (.tuple #[v, .bool t]) = .returned (.tuple #[v', .bool t']) := by rw [h, h2]
set_option maxHeartbeats 2000000 in
theorem iFree (p s l c k q : Int) (a : Option Addr) (n cap : Nat) (xs : List Int) (w : World) (h : Src w a n xs) (bd : ∀ x ∈ xs, 0 ≤ x ∧ x ≤ 18446744073709551615) (hn : n ≤ 16777216) :
    Calls Try.prog 10 #[.agg #[.int .i64 p, .int .i64 s, .int .i64 l, .int .i64 c, .int .i64 k], .slice a n cap, .int .i64 q] w fun e w' => gives w w' e (freeIn p s l c k n xs q) := by
  have z : Below w.heap.size w (w.alloc (Obj.cells #[.int .i64 p, .int .i64 s, .int .i64 l, .int .i64 c, .int .i64 k] 26)) := (Below.refl _ _).alloc (Nat.le_refl _) _
  have B := Box5.new w (.int .i64 p) (.int .i64 s) (.int .i64 l) (.int .i64 c) (.int .i64 k) 26
  have h2 := h.keep z
  by_cases h0 : q = 0
  · subst h0
    rw [show freeIn p s l c k n xs 0 = nodes p s l c k n xs 0 from by unfold freeIn; simp]
    go_enter Try.func10, Try.ntmps10
    go_wp2_with (go_at_call 14; refine (iNodes _ _ _ _ _ _ _ _ _ xs _ h2 bd hn (by omega) (by omega)).mono ?_; rintro e w1 ⟨g, m, cc, rfl, hg⟩)
    go_returns
    exact gives.after ⟨g, m, cc, rfl, hg⟩ z
  · by_cases h1 : q = 1
    · subst h1
      rw [show freeIn p s l c k n xs 1 = nodes p s l c k n xs 1 from by unfold freeIn; simp]
      go_enter Try.func10, Try.ntmps10
      go_wp2_with (go_at_call 14; refine (iNodes _ _ _ _ _ _ _ _ _ xs _ h2 bd hn (by omega) (by omega)).mono ?_; rintro e w1 ⟨g, m, cc, rfl, hg⟩)
      go_returns
      exact gives.after ⟨g, m, cc, rfl, hg⟩ z
    · rw [show freeIn p s l c k n xs q = none from by unfold freeIn; simp [h0, h1]]
      go_enter Try.func10, Try.ntmps10
      go_wp2
      go_returns
      have := gives.none_lit z
      rw [World.size_alloc] at this
      exact this
end Go.Proofs.Ytdebjfgflldpjaa
