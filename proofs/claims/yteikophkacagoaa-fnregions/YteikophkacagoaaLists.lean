/-
  A list of numbers that a law gathers: its cells in memory, and that its numbers are told apart.
-/
import Derived.Test.YteikophkacagoaaPlan2
import Derived.Test.YteikophkacagoaaAt
import Derived.WalkKit
namespace Go.Proofs.Yteikophkacagoaa
open Go.RowKit
set_option linter.unusedVariables false
/-- The slice v owns just the numbers Z, in blocks from base on. -/
def Own (w : World) (base : Nat) (v : Value) (Z : List Int) : Prop := w.ownsRow base 2 1 v Z.length (Z.map (Value.int .i64))
theorem Own.keep {w w' : World} {base : Nat} {v : Value} {Z : List Int} (h : Own w base v Z) (hb : Below w.heap.size w w') : Own w' base v Z :=
  World.ownsRow.kept (row := none) h ⟨hb.os, hb.tape, hb.output, hb.size, fun k hk _ => hb.block k hk⟩ (by cases v.ownBlock <;> simp)
theorem Own.lit (w : World) (base : Nat) (hb : base ≤ w.heap.size) : Own (w.alloc (.cells #[] 2)) base (.slice (some ⟨w.heap.size, 0, none⟩) 0 0) [] :=
  ⟨by simp, .inr ⟨w.heap.size, 0, #[], rfl, hb, by show (w.heap.push _)[w.heap.size]? = _; simp, Nat.le_refl _, Nat.zero_le _, by simp, by simp⟩⟩
/-- What stands while the list is gathered: the plan's cells, the list, nothing old changed. -/
structure St (w0 w : World) (q base : Nat) (p s l c k : Int) (v : Value) (Z : List Int) : Prop where
  own : Own w base v Z
  box : Box5 w q (.int .i64 p) (.int .i64 s) (.int .i64 l) (.int .i64 c) (.int .i64 k)
  qb : q < base
  bs : base ≤ w.heap.size
  wb : w0.heap.size ≤ base
  low : Below w0.heap.size w0 w
theorem St.keep {w0 w w' : World} {q base : Nat} {p s l c k : Int} {v : Value} {Z : List Int} (h : St w0 w q base p s l c k v Z) (hb : Below w.heap.size w w') : St w0 w' q base p s l c k v Z :=
  ⟨h.own.keep hb, h.box.keep hb, h.qb, Nat.le_trans h.bs hb.size, h.wb, h.low.trans (hb.mono (Nat.le_trans h.wb h.bs))⟩
theorem St.app {w0 w w' : World} {q base : Nat} {p s l c k x : Int} {v v' : Value} {Z : List Int} (h : St w0 w q base p s l c k v Z)
    (ho : w'.ownsRow base 2 1 v' (Z.length + 1) (Z.map (Value.int .i64) ++ [.int .i64 x])) (hg : w.grownBy w' v.ownBlock) : St w0 w' q base p s l c k v' (Z ++ [x]) := by
  have hne : ∀ j, v.ownBlock = some j → base ≤ j := fun j hj => (World.ownsRow.lt h.own j hj).1
  have hq : ∀ i, w'.cell? ⟨q, i, none⟩ = w.cell? ⟨q, i, none⟩ := fun i => World.cell?_of_block (w := w) (hg.block q h.box.lt (fun e => by have := hne q e.symm; have := h.qb; omega))
  refine ⟨by unfold Own; simpa using ho, ⟨Nat.lt_of_lt_of_le h.box.lt hg.size, (hq 0).trans h.box.c0, (hq 1).trans h.box.c1, (hq 2).trans h.box.c2, (hq 3).trans h.box.c3, (hq 4).trans h.box.c4⟩, h.qb, Nat.le_trans h.bs hg.size, h.wb, ?_⟩
  exact h.low.grown hg (Nat.le_trans h.wb h.bs) (fun j hj => Nat.le_trans h.wb (hne j hj))
/-- The numbers of Z are told apart; there are n; they lie in [0, a) and [b, e). -/
structure Gd (Z : List Int) (n a b e : Int) : Prop where
  len : (Z.length : Int) = n
  nod : Z.Nodup
  mem : ∀ x ∈ Z, (0 ≤ x ∧ x < a) ∨ (b ≤ x ∧ x < e)
theorem Gd.nil (b : Int) : Gd [] 0 0 b b := ⟨rfl, List.nodup_nil, fun x hx => by cases hx⟩
theorem Gd.new {Z : List Int} {n a b e : Int} (h : Gd Z n a b e) {x : Int} (h1 : ¬ (0 ≤ x ∧ x < a)) (h2 : ¬ (b ≤ x ∧ x < e)) : (Z ++ [x]).Nodup := by
  rw [List.nodup_append]
  refine ⟨h.nod, by simp, fun y hy z hz => ?_⟩
  obtain rfl : z = x := by simpa using hz
  rintro rfl
  rcases h.mem y hy with h | h
  · exact h1 h
  · exact h2 h
theorem Gd.push1 {Z : List Int} {n a b e : Int} (h : Gd Z n a b e) (ha : 0 ≤ a) (h2 : ¬ (b ≤ a ∧ a < e)) : Gd (Z ++ [a]) (n + 1) (a + 1) b e := by
  refine ⟨by have := h.len; simp; omega, h.new (by omega) h2, fun x hx => ?_⟩
  rcases List.mem_append.1 hx with hx | hx
  · rcases h.mem x hx with h | h <;> omega
  · obtain rfl : x = a := by simpa using hx
    omega
theorem Gd.push2 {Z : List Int} {n a b e : Int} (h : Gd Z n a b e) (hb : b ≤ e) (h2 : ¬ (0 ≤ e ∧ e < a)) : Gd (Z ++ [e]) (n + 1) a b (e + 1) := by
  refine ⟨by have := h.len; simp; omega, h.new h2 (by omega), fun x hx => ?_⟩
  rcases List.mem_append.1 hx with hx | hx
  · rcases h.mem x hx with h | h <;> omega
  · obtain rfl : x = e := by simpa using hx
    omega
theorem Gd.join {Z : List Int} {n b e : Int} (h : Gd Z n b b e) (hb : 0 ≤ b) (he : b ≤ e) : Gd Z n e e e :=
  ⟨h.len, h.nod, fun x hx => by rcases h.mem x hx with h | h <;> omega⟩
end Go.Proofs.Yteikophkacagoaa
