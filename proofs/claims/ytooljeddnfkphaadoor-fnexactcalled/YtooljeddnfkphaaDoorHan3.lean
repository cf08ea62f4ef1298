/-
  Hands: what the laws read; ranges from 0 on; birth; layers.
-/
import Derived.Test.YtooljeddnfkphaaDoorHan2
import Derived.Test.YtooljeddnfkphaaDoorOpenH
import Derived.Test.YtooljeddnfkphaaDoorPlan
import Derived.Deep.LoopGhost
namespace Go.Proofs.YtooljeddnfkphaaDoor
open Go.RowKit
set_option linter.unusedVariables false
theorem infoL : (Tryd.prog.info? 30).map (·.size) = some 36 := by kernel_rfl
theorem loadHL {ops : Array Oper} {rest : List Oper} {op : Oper} {a : Act} {w : World} {Q : Exit → Act → World → Prop} (hgd : op.guard = none) (x : Operand) (ho : op.op = .load 30 x)
    (b : Nat) (k : Hd) (hx : a.eval x = .pointer (some ⟨b, 0, none⟩)) {t : TypeId} (Z : At w b k.ar t)
    (h : wpList Tryd.prog ops Q rest (a.put op.dst (.agg k.ar)) w) : wpList Tryd.prog ops Q (op :: rest) a w :=
  wpList_load_mid hgd 30 x ho b 0 hx k.vs _ Z.range Tryd.underlying30 rfl infoL h
/-- A value laid into a new block. -/
theorem newH {ops : Array Oper} {rest : List Oper} {op : Oper} {a : Act} {w : World} {cs : Array Value} {t : TypeId} {Q : Exit → Act → World → Prop} (hgd : op.guard = none) (x y : Operand) (ho : op.op = .store 31 x y)
    (k : Hd) (hx : a.eval x = .pointer (some ⟨w.heap.size, 0, none⟩)) (hy : a.eval y = .agg k.ar) (hs : cs.size = 36)
    (h : ∀ w', At w' w.heap.size k.ar t → Below w.heap.size w w' → w.heap.size < w'.heap.size → wpList Tryd.prog ops Q rest (a.put op.dst undef) w') : wpList Tryd.prog ops Q (op :: rest) a (w.alloc (.cells cs t)) :=
  storeH hgd x y ho w.heap.size k hx hy (At.new w cs t) hs fun w' Z kk => h w' Z (((Below.refl _ _).alloc (Nat.le_refl _) _).trans (kk.below (Nat.le_refl _) (by simp))) Z.lt
def allUp (m : Int) (xs : List Int) : Bool := xs.all fun x => decide (0 ≤ x ∧ x ≤ m)
theorem allUp_t {m : Int} {xs : List Int} (h : ∀ j, j < xs.length → 0 ≤ xs.getD j 0 ∧ xs.getD j 0 ≤ m) : allUp m xs = true := by
  unfold allUp
  rw [List.all_eq_true]
  intro x hx
  obtain ⟨j, hj, rfl⟩ := List.mem_iff_getElem.1 hx
  have := h j hj
  simp [hj] at this
  simp [this]
theorem allUp_f {m : Int} {xs : List Int} {j : Nat} (hj : j < xs.length) (h : ¬ (0 ≤ xs.getD j 0 ∧ xs.getD j 0 ≤ m)) : allUp m xs = false := by
  cases e : allUp m xs with
  | false => rfl
  | true =>
    unfold allUp at e
    rw [List.all_eq_true] at e
    have := e xs[j] (List.getElem_mem hj)
    simp [hj] at h
    simp at this
    omega
set_option maxHeartbeats 2000000 in
theorem iUpTo (m : Int) (b n : Nat) (xs : List Int) (hl : Hid (xs.length = n)) (hn : n ≤ 1000) (w : World) (hx : Hid (∀ i, i < n → w.cell? ⟨b, i, none⟩ = some (.int .i64 (xs.getD i 0)))) :
    Calls Tryd.prog 38 #[.int .i64 m, .slice (some ⟨b, 0, none⟩) n n] w fun e w' => e = .returned (.bool (allUp m xs)) ∧ w' = w := by
  go_enter Tryd.func38, Tryd.ntmps38
  go_wp2
  go_loopg [9] n (fun g y wr => ∃ i : Nat, i ≤ n ∧ g = n - i ∧ y = .int .i64 i ∧ Hid (∀ j, j < i → 0 ≤ xs.getD j 0 ∧ xs.getD j 0 ≤ m) ∧ wr = w)
  case atStart => exact ⟨0, Nat.zero_le _, rfl, rfl, fun j hj => by omega, rfl⟩
  case round =>
    obtain ⟨i, i0, hg, rfl, hj, rfl⟩ := hrel
    by_cases hi : i < n
    · have hi' : (i : Int) < n := by omega
      have c1 := hx.out i hi
      obtain ⟨x, hxx⟩ : ∃ x : Int, Hid (xs.getD i 0 = x) := ⟨_, rfl⟩
      rw [hxx.out] at c1
      by_cases hxy : 0 ≤ x ∧ x ≤ m
      · have e1 : inB x 0 m = true := decide_eq_true hxy
        go_wp2_with (go_at_call 33; refine (iWithin _ _ _ _).mono ?_; rintro e w1 ⟨rfl, rfl⟩; rw [e1])
        go_roundg (gk - 1)
        case measure => omega
        case rel =>
          refine ⟨i + 1, by omega, by omega, by go_num, fun j hj2 => ?_, rfl⟩
          by_cases hji : j = i
          · subst hji; rw [hxx.out]; exact hxy
          · exact hj.out j (by omega)
      · have e1 : inB x 0 m = false := decide_eq_false hxy
        go_wp2_with (go_at_call 33; refine (iWithin _ _ _ _).mono ?_; rintro e w1 ⟨rfl, rfl⟩; rw [e1])
        go_ret
        exact ⟨ret_f (allUp_f (j := i) (by rw [hl.out]; exact hi) (by rw [hxx.out]; exact hxy)), rfl⟩
    · obtain rfl : i = n := by omega
      go_wp2
      go_ret
      exact ⟨ret_t (allUp_t fun j hj2 => hj.out j (by rw [hl.out] at hj2; exact hj2)), rfl⟩
end Go.Proofs.YtooljeddnfkphaaDoor
