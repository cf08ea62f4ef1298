/-
  A region that draws its order and makes memory: what may be taken first, and what must be gone through in every order.
  Hands: what the laws read; ranges from 0 on; birth; layers.
  Layers: the chapter of a step.
  Birth, on both sides.
  The ranges of a hand: the specification's own side.
  The ranges of a hand: the specification's swap part, by one walk of a region that draws its order.
-/
import Derived.Test.YtgmoemjiffglbaaGreatMe
import Derived.Deep.RegionHeld3
import Derived.Deep.LoopGhost
import Derived.Deep.Cut
import Derived.BigQuiet
namespace Go.Proofs.YtgmoemjiffglbaaGreat
open Go.RowKit
set_option linter.unusedVariables false
section
variable {P : Program} {md : Region.Mode} {ops : Array Oper} {Q : Exit → Act → World → Prop} {S : World → Prop}
theorem tk_load {i : Nat} {oi : Oper} {v : Value} {fuel : Nat} {listed : Array Bool} {a : Act} {w : World} (hi : ops[i]? = some oi) (hs : Region.noSelect ops = true) (hf : Region.free md ops listed i = true) (hr : (Region.ready md ops listed).contains i = true)
    (hQ : ∀ c a w, Q (.panic c) (a.put oi.dst v) w → Q (.panic c) a w) (hw : Region.wanted oi (yielded ops a.tmps) = true) (t : TypeId) (x : Operand) (p : Addr) (ho : oi.op = .load t x) (hx : a.eval x = .pointer (some p))
    (hl : ∀ w, S w → (loadVar t p).run P w = .ok v w) (hS : S w) (h : wpAnyH P md ops Q S fuel (listed.setIfInBounds i true) (a.put oi.dst v) w) : wpAnyH P md ops Q S (fuel + 1) listed a w :=
  wpAnyH_take hi hs hf hr hQ (.inl ⟨hw, fun w hw' => by
    unfold execOp
    simp only [ho, hx, Instr.loadAt, Instr.sureAddr, Sem.run_bind, Sem.run_pure, Result.andThen_ok, hl w hw']⟩) hS h
theorem tk_skip {i : Nat} {oi : Oper} {fuel : Nat} {listed : Array Bool} {a : Act} {w : World} (hi : ops[i]? = some oi) (hs : Region.noSelect ops = true) (hf : Region.free md ops listed i = true) (hr : (Region.ready md ops listed).contains i = true)
    (hQ : ∀ c a w, Q (.panic c) (a.put oi.dst undef) w → Q (.panic c) a w) (hw : Region.wanted oi (yielded ops a.tmps) = false)
    (hS : S w) (h : wpAnyH P md ops Q S fuel (listed.setIfInBounds i true) (a.put oi.dst undef) w) : wpAnyH P md ops Q S (fuel + 1) listed a w :=
  wpAnyH_take hi hs hf hr hQ (.inr ⟨hw, rfl⟩) hS h
theorem tk_pure {i : Nat} {oi : Oper} {v : Value} {fuel : Nat} {listed : Array Bool} {a : Act} {w : World} (hi : ops[i]? = some oi) (hs : Region.noSelect ops = true) (hf : Region.free md ops listed i = true) (hr : (Region.ready md ops listed).contains i = true)
    (hQ : ∀ c a w, Q (.panic c) (a.put oi.dst v) w → Q (.panic c) a w) (hw : Region.wanted oi (yielded ops a.tmps) = true) (hS : S w)
    (hv : ∀ w, (execOp a.eval oi).run P w = .ok (.value v) w) (h : wpAnyH P md ops Q S fuel (listed.setIfInBounds i true) (a.put oi.dst v) w) : wpAnyH P md ops Q S (fuel + 1) listed a w :=
  wpAnyH_take hi hs hf hr hQ (.inl ⟨hw, fun w _ => hv w⟩) hS h
theorem nzA {α : Type} (l : List α) (i : Nat) (x : α) : l.toArray.setIfInBounds i x = (l.set i x).toArray := List.setIfInBounds_toArray l i x
theorem nzB {α : Type} (x y : α) (l : List α) : (x :: l).set 0 y = y :: l := List.set_cons_zero
theorem nzC {α : Type} (x y : α) (l : List α) (n : Nat) : (x :: l).set (n + 1) y = x :: l.set n y := List.set_cons_succ
/-- The same, what is reckoned left to Lean. -/
theorem tkL {i : Nat} {oi : Oper} {v : Value} {fuel : Nat} {listed : Array Bool} {a : Act} {w : World} (hS : S w) {t : TypeId} {x : Operand} {p : Addr} (ho : oi.op = .load t x) (hx : a.eval x = .pointer (some p)) (hl : ∀ w, S w → (loadVar t p).run P w = .ok v w) (h : wpAnyH P md ops Q S fuel (listed.setIfInBounds i true) (a.put oi.dst v) w) (hi : ops[i]? = some oi := by rfl) (hs : Region.noSelect ops = true := by kernel_rfl) (hf : Region.free md ops listed i = true := by kernel_rfl) (hr : (Region.ready md ops listed).contains i = true := by kernel_rfl)
    (hQ : ∀ c a w, Q (.panic c) (a.put oi.dst v) w → Q (.panic c) a w := by exact fun _ _ _ h => h) (hw : Region.wanted oi (yielded ops a.tmps) = true := by rfl) : wpAnyH P md ops Q S (fuel + 1) listed a w := tk_load hi hs hf hr hQ hw t x p ho hx hl hS h
theorem tkS {i : Nat} {oi : Oper} {fuel : Nat} {listed : Array Bool} {a : Act} {w : World} (hS : S w) (h : wpAnyH P md ops Q S fuel (listed.setIfInBounds i true) (a.put oi.dst undef) w) (hi : ops[i]? = some oi := by rfl) (hs : Region.noSelect ops = true := by kernel_rfl) (hf : Region.free md ops listed i = true := by kernel_rfl) (hr : (Region.ready md ops listed).contains i = true := by kernel_rfl)
    (hQ : ∀ c a w, Q (.panic c) (a.put oi.dst undef) w → Q (.panic c) a w := by exact fun _ _ _ h => h) (hw : Region.wanted oi (yielded ops a.tmps) = false := by rfl) : wpAnyH P md ops Q S (fuel + 1) listed a w := tk_skip hi hs hf hr hQ hw hS h
theorem tkP {i : Nat} {oi : Oper} {v : Value} {fuel : Nat} {listed : Array Bool} {a : Act} {w : World} (hS : S w) (hv : ∀ w, (execOp a.eval oi).run P w = .ok (.value v) w) (h : wpAnyH P md ops Q S fuel (listed.setIfInBounds i true) (a.put oi.dst v) w) (hi : ops[i]? = some oi := by rfl) (hs : Region.noSelect ops = true := by kernel_rfl) (hf : Region.free md ops listed i = true := by kernel_rfl) (hr : (Region.ready md ops listed).contains i = true := by kernel_rfl)
    (hQ : ∀ c a w, Q (.panic c) (a.put oi.dst v) w → Q (.panic c) a w := by exact fun _ _ _ h => h) (hw : Region.wanted oi (yielded ops a.tmps) = true := by rfl) : wpAnyH P md ops Q S (fuel + 1) listed a w := tk_pure hi hs hf hr hQ hw hS hv h
end
end Go.Proofs.YtgmoemjiffglbaaGreat
namespace Go.Proofs.YtgmoemjiffglbaaGreat
open Go.RowKit
set_option linter.unusedVariables false
theorem infoL : (Tryz.prog.info? 27).map (·.size) = some 36 := by kernel_rfl
theorem loadHL {ops : Array Oper} {rest : List Oper} {op : Oper} {a : Act} {w : World} {Q : Exit → Act → World → Prop} (hgd : op.guard = none) (x : Operand) (ho : op.op = .load 27 x)
    (b : Nat) (k : Hd) (hx : a.eval x = .pointer (some ⟨b, 0, none⟩)) {t : TypeId} (Z : At w b k.ar t)
    (h : wpList Tryz.prog ops Q rest (a.put op.dst (.agg k.ar)) w) : wpList Tryz.prog ops Q (op :: rest) a w :=
  wpList_load_mid hgd 27 x ho b 0 hx k.vs _ Z.range Tryz.underlying27 rfl infoL h
/-- A value laid into a new block. -/
theorem newH {ops : Array Oper} {rest : List Oper} {op : Oper} {a : Act} {w : World} {cs : Array Value} {t : TypeId} {Q : Exit → Act → World → Prop} (hgd : op.guard = none) (x y : Operand) (ho : op.op = .store 28 x y)
    (k : Hd) (hx : a.eval x = .pointer (some ⟨w.heap.size, 0, none⟩)) (hy : a.eval y = .agg k.ar) (hs : cs.size = 36)
    (h : ∀ w', At w' w.heap.size k.ar t → Below w.heap.size w w' → w.heap.size < w'.heap.size → wpList Tryz.prog ops Q rest (a.put op.dst undef) w') : wpList Tryz.prog ops Q (op :: rest) a (w.alloc (.cells cs t)) :=
  storeH hgd x y ho w.heap.size k hx hy (At.new w cs t) hs fun w' Z kk => h w' Z (((Below.refl _ _).alloc (Nat.le_refl _) _).trans (kk.below (Nat.le_refl _) (by simp))) Z.lt
def allUp (m : Int) (xs : List Int) : Bool := xs.all fun x => decide (0 ≤ x ∧ x ≤ m)
theorem allUp_t {m : Int} {xs : List Int} (h : ∀ j, j < xs.length → 0 ≤ xs.getD j 0 ∧ xs.getD j 0 ≤ m) : allUp m xs = true := by
  unfold allUp
  rw [List.all_eq_true]
  intro x hx
  obtain ⟨j, hj, rfl⟩ := List.mem_iff_getElem.1 hx
  have := h j hj
  simp [hj] at this
  simp [this]
theorem allUp_f {m : Int} {xs : List Int} {j : Nat} (hj : j < xs.length) (h : ¬ (0 ≤ xs.getD j 0 ∧ xs.getD j 0 ≤ m)) : allUp m xs = false := by
  cases e : allUp m xs with
  | false => rfl
  | true =>
    unfold allUp at e
    rw [List.all_eq_true] at e
    have := e xs[j] (List.getElem_mem hj)
    simp [hj] at h
    simp at this
    omega
set_option maxHeartbeats 2000000 in
theorem iUpTo (m : Int) (b n : Nat) (xs : List Int) (hl : Hid (xs.length = n)) (hn : n ≤ 1000) (w : World) (hx : Hid (∀ i, i < n → w.cell? ⟨b, i, none⟩ = some (.int .i64 (xs.getD i 0)))) :
    Calls Tryz.prog 75 #[.int .i64 m, .slice (some ⟨b, 0, none⟩) n n] w fun e w' => e = .returned (.bool (allUp m xs)) ∧ w' = w := by
  go_enter Tryz.func75, Tryz.ntmps75
  go_wp2
  go_loopg [9] n (fun g y wr => ∃ i : Nat, i ≤ n ∧ g = n - i ∧ y = .int .i64 i ∧ Hid (∀ j, j < i → 0 ≤ xs.getD j 0 ∧ xs.getD j 0 ≤ m) ∧ wr = w)
  case atStart => exact ⟨0, Nat.zero_le _, rfl, rfl, fun j hj => by omega, rfl⟩
  case round =>
    obtain ⟨i, i0, hg, rfl, hj, rfl⟩ := hrel
    by_cases hi : i < n
    · have hi' : (i : Int) < n := by omega
      have c1 := hx.out i hi
      obtain ⟨x, hxx⟩ : ∃ x : Int, Hid (xs.getD i 0 = x) := ⟨_, rfl⟩
      rw [hxx.out] at c1
      by_cases hxy : 0 ≤ x ∧ x ≤ m
      · have e1 : inB x 0 m = true := decide_eq_true hxy
        go_wp2_with (go_at_call 73; refine (iWithin _ _ _ _).mono ?_; rintro e w1 ⟨rfl, rfl⟩; rw [e1])
        go_roundg (gk - 1)
        case measure => omega
        case rel =>
          refine ⟨i + 1, by omega, by omega, by go_num, fun j hj2 => ?_, rfl⟩
          by_cases hji : j = i
          · subst hji; rw [hxx.out]; exact hxy
          · exact hj.out j (by omega)
      · have e1 : inB x 0 m = false := decide_eq_false hxy
        go_wp2_with (go_at_call 73; refine (iWithin _ _ _ _).mono ?_; rintro e w1 ⟨rfl, rfl⟩; rw [e1])
        go_ret
        exact ⟨ret_f (allUp_f (j := i) (by rw [hl.out]; exact hi) (by rw [hxx.out]; exact hxy)), rfl⟩
    · obtain rfl : i = n := by omega
      go_wp2
      go_ret
      exact ⟨ret_t (allUp_t fun j hj2 => hj.out j (by rw [hl.out] at hj2; exact hj2)), rfl⟩
end Go.Proofs.YtgmoemjiffglbaaGreat
namespace Go.Proofs.YtgmoemjiffglbaaGreat
open Go.RowKit
set_option linter.unusedVariables false
def layer (a : Int) : Int := if a = 0 then 0 else if a < 0 then -1 else if a ≤ 8 then 8 else if a ≤ 20 then 9 else if a ≤ 32 then 10 else if a ≤ 48 then 11 else if a ≤ 51 then 12 else if a ≤ 54 then 13 else if a ≤ 68 then 14 else if a ≤ 70 then 15 else -1
def lastv (i : Nat) : Int := match i with | 0 => 8 | 1 => 20 | 2 => 32 | 3 => 48 | 4 => 51 | 5 => 54 | 6 => 68 | _ => 70
theorem ret_iL {a b : Int} (h : a = b) : Ending.returned (.int .i64 a) = .returned (.int .i64 b) := by rw [h]
set_option maxHeartbeats 2000000 in
theorem iLayer (a : Int) (w : World) : Calls Tryz.prog 44 #[.int .i64 a] w fun e w' => e = .returned (.int .i64 (layer a)) ∧ w' = w := by
  go_enter Tryz.func44, Tryz.ntmps44
  go_wp2_with (go_at_call 73; refine (iWithin _ _ _ _).mono ?_; rintro e w1 ⟨rfl, rfl⟩)
  all_goals go_returns
  all_goals refine ⟨ret_iL ?_, rfl⟩
  all_goals (try simp only [inB, decide_eq_true_eq, decide_eq_false_iff_not, beq_eq_false_iff_ne, ne_eq, beq_iff_eq] at *)
  all_goals (unfold layer; (repeat' split) <;> first | rfl | omega)
set_option maxHeartbeats 4000000 in
theorem sLayer (a : Int) (w : World) : Calls Tryz.prog 28 #[.int .i64 a] w fun e w' => e = .returned (.int .i64 (layer a)) ∧ Below w.heap.size w w' := by
  by_cases h0 : a = 0
  · go_enter Tryz.func28, Tryz.ntmps28
    go_wp2
    go_returns
    exact ⟨ret_iL (by subst h0; rfl), Below.refl _ _⟩
  by_cases h1 : a < 0
  · go_enter Tryz.func28, Tryz.ntmps28
    go_wp2
    all_goals go_returns
    all_goals exact ⟨ret_iL (by unfold layer; rw [if_neg h0, if_pos h1]), Below.refl _ _⟩
  by_cases h2 : 70 < a
  · go_enter Tryz.func28, Tryz.ntmps28
    go_wp2
    all_goals go_returns
    all_goals exact ⟨ret_iL (by unfold layer; (repeat' split) <;> omega), Below.refl _ _⟩
  have h3 : 0 < a := by omega
  have h4 : a ≤ 70 := by omega
  clear h0 h1 h2
  have h5 : ¬ a = 0 := by omega
  have h6 : ¬ a < 0 := by omega
  have h7 : ¬ 70 < a := by omega
  go_enter Tryz.func28, Tryz.ntmps28
  go_upto_region 7 with fail
  refine wp_at (fun W => At W w.heap.size #[.int .i64 8, .int .i64 20, .int .i64 32, .int .i64 48, .int .i64 51, .int .i64 54, .int .i64 68, .int .i64 70] 2 ∧ Below w.heap.size w W) ⟨At.new w _ _, (Below.refl _ _).alloc (Nat.le_refl _) _⟩ ?_
  rintro W ⟨A, z⟩
  go_loopg [4] 7 (fun g y wr => ∃ i : Nat, i ≤ 7 ∧ g = 7 - i ∧ y = .int .i64 i ∧ Hid (i = 0 ∨ lastv (i - 1) < a) ∧ wr = W)
  case atStart => exact ⟨0, by omega, rfl, rfl, .inl rfl, rfl⟩
  case round =>
    obtain ⟨i, i0, hg, rfl, hj, rfl⟩ := hrel
    have hc : i = 0 ∨ i = 1 ∨ i = 2 ∨ i = 3 ∨ i = 4 ∨ i = 5 ∨ i = 6 ∨ i = 7 := by omega
    rcases hc with rfl | rfl | rfl | rfl | rfl | rfl | rfl | rfl
    · have c : wr.cell? ⟨w.heap.size, 0, none⟩ = some (.int .i64 8) := A.cell 0
      have hj := hj.out
      simp only [lastv] at hj
      by_cases hx : 8 < a
      · have HJ : Hid (8 < a) := hx
        clear hj
        go_wp2
        go_roundg (gk - 1)
        case measure => omega
        case rel => exact ⟨1, by omega, by omega, rfl, .inr HJ.out, rfl⟩
      · have HJ : Hid (layer a = 8) := by
          show layer a = _
          unfold layer; (repeat' split) <;> omega
        clear hj
        go_wp2
        go_ret
        exact ⟨ret_iL HJ.out.symm, z⟩
    · have c : wr.cell? ⟨w.heap.size, 1, none⟩ = some (.int .i64 20) := A.cell 1
      have hj := hj.out
      simp only [lastv] at hj
      by_cases hx : 20 < a
      · have HJ : Hid (20 < a) := hx
        clear hj
        go_wp2
        go_roundg (gk - 1)
        case measure => omega
        case rel => exact ⟨2, by omega, by omega, rfl, .inr HJ.out, rfl⟩
      · have HJ : Hid (layer a = 9) := by
          show layer a = _
          unfold layer; (repeat' split) <;> omega
        clear hj
        go_wp2
        go_ret
        exact ⟨ret_iL HJ.out.symm, z⟩
    · have c : wr.cell? ⟨w.heap.size, 2, none⟩ = some (.int .i64 32) := A.cell 2
      have hj := hj.out
      simp only [lastv] at hj
      by_cases hx : 32 < a
      · have HJ : Hid (32 < a) := hx
        clear hj
        go_wp2
        go_roundg (gk - 1)
        case measure => omega
        case rel => exact ⟨3, by omega, by omega, rfl, .inr HJ.out, rfl⟩
      · have HJ : Hid (layer a = 10) := by
          show layer a = _
          unfold layer; (repeat' split) <;> omega
        clear hj
        go_wp2
        go_ret
        exact ⟨ret_iL HJ.out.symm, z⟩
    · have c : wr.cell? ⟨w.heap.size, 3, none⟩ = some (.int .i64 48) := A.cell 3
      have hj := hj.out
      simp only [lastv] at hj
      by_cases hx : 48 < a
      · have HJ : Hid (48 < a) := hx
        clear hj
        go_wp2
        go_roundg (gk - 1)
        case measure => omega
        case rel => exact ⟨4, by omega, by omega, rfl, .inr HJ.out, rfl⟩
      · have HJ : Hid (layer a = 11) := by
          show layer a = _
          unfold layer; (repeat' split) <;> omega
        clear hj
        go_wp2
        go_ret
        exact ⟨ret_iL HJ.out.symm, z⟩
    · have c : wr.cell? ⟨w.heap.size, 4, none⟩ = some (.int .i64 51) := A.cell 4
      have hj := hj.out
      simp only [lastv] at hj
      by_cases hx : 51 < a
      · have HJ : Hid (51 < a) := hx
        clear hj
        go_wp2
        go_roundg (gk - 1)
        case measure => omega
        case rel => exact ⟨5, by omega, by omega, rfl, .inr HJ.out, rfl⟩
      · have HJ : Hid (layer a = 12) := by
          show layer a = _
          unfold layer; (repeat' split) <;> omega
        clear hj
        go_wp2
        go_ret
        exact ⟨ret_iL HJ.out.symm, z⟩
    · have c : wr.cell? ⟨w.heap.size, 5, none⟩ = some (.int .i64 54) := A.cell 5
      have hj := hj.out
      simp only [lastv] at hj
      by_cases hx : 54 < a
      · have HJ : Hid (54 < a) := hx
        clear hj
        go_wp2
        go_roundg (gk - 1)
        case measure => omega
        case rel => exact ⟨6, by omega, by omega, rfl, .inr HJ.out, rfl⟩
      · have HJ : Hid (layer a = 13) := by
          show layer a = _
          unfold layer; (repeat' split) <;> omega
        clear hj
        go_wp2
        go_ret
        exact ⟨ret_iL HJ.out.symm, z⟩
    · have c : wr.cell? ⟨w.heap.size, 6, none⟩ = some (.int .i64 68) := A.cell 6
      have hj := hj.out
      simp only [lastv] at hj
      by_cases hx : 68 < a
      · have HJ : Hid (68 < a) := hx
        clear hj
        go_wp2
        go_roundg (gk - 1)
        case measure => omega
        case rel => exact ⟨7, by omega, by omega, rfl, .inr HJ.out, rfl⟩
      · have HJ : Hid (layer a = 14) := by
          show layer a = _
          unfold layer; (repeat' split) <;> omega
        clear hj
        go_wp2
        go_ret
        exact ⟨ret_iL HJ.out.symm, z⟩
    · have c : wr.cell? ⟨w.heap.size, 7, none⟩ = some (.int .i64 70) := A.cell 7
      have hj := hj.out
      simp only [lastv] at hj
      have hx : ¬ 70 < a := by omega
      have HJ : Hid (layer a = 15) := by
        show layer a = _
        unfold layer; (repeat' split) <;> omega
      clear hj
      go_wp2
      go_ret
      exact ⟨ret_iL HJ.out.symm, z⟩
end Go.Proofs.YtgmoemjiffglbaaGreat
namespace Go.Proofs.YtgmoemjiffglbaaGreat
open Go.RowKit
set_option linter.unusedVariables false
def Hd.born (h : Hd) : Hd := { Hd.zero with up := true, life := h.life + 1 }
def Hd.may (h : Hd) : Bool := decide (h.up = false ∧ 0 ≤ h.life ∧ h.life ≤ 65534)
def Hd.raised (h : Hd) : Hd := if h.may = true then h.born else h
theorem bBorn (h : Hd) : Tryz.prog.built 28 [(0, .bool true), (4, .int .i64 (h.life + 1))] = some h.born.ar := by kernel_rfl
theorem slices (W : World) (xs : List Int) (t : TypeId) (n : Nat) (hn : xs.length = n) : Hid (∀ i, i < n → (W.alloc (.cells (xs.map (Value.int .i64)).toArray t)).cell? ⟨W.heap.size, i, none⟩ = some (.int .i64 (xs.getD i 0))) := by
  show ∀ i, i < n → _
  intro i hi
  rw [(At.new W _ t).cell i]
  simp [hn, hi]
end Go.Proofs.YtgmoemjiffglbaaGreat
namespace Go.Proofs.YtgmoemjiffglbaaGreat
open Go.RowKit
set_option linter.unusedVariables false
def Hd.own (h : Hd) (p : Int) : Bool := inB h.at_ 0 70 && inB h.code 0 14 && inB h.a 0 65535 && inB h.b 0 4294967295 && inB h.c 0 65535 && inB h.number 0 4294967295 && inB h.for_ 0 (p - 1) && inB h.last 0 4294967295 && inB h.mine 0 4294967295 && inB h.kept 0 65535 && inB h.reply 0 255 && inB h.out 0 65535 && inB h.mark 0 20000 && inB h.begin_ 0 20000
def Hd.swap (h : Hd) (p s l c : Int) : Bool := inB h.addr 0 (zF p s l c - 1) && inB h.good 0 70 && inB h.bad 0 70 && inB h.does 0 7 && inB h.block 0 65535 && inB h.from_ 0 65535 && inB h.next 0 65535 && inB h.value 0 65535 && inB h.index 0 (s + l + 1) && inB h.which 0 (2 * p - 1)
def Hd.was (h : Hd) : Bool := inB h.wasCode 0 255 && inB h.wasItem 0 65535 && inB h.wasNumber 0 4294967295 && inB h.wasKind 0 255 && inB h.wasTag 0 4294967295
set_option maxHeartbeats 400000 in
theorem sAt6 (n : Int) (w : World) : Calls Tryz.prog 97 #[.int .i64 n] w fun e w' => e = .returned (.bool (inB n 0 70)) ∧ w' = w := by
  go_enter Tryz.func97, Tryz.ntmps97
  go_wp2_with (go_at_call 60; refine (sIn _ _ _ _).mono ?_; rintro e w1 ⟨rfl, rfl⟩)
  go_returns
  exact ⟨rfl, rfl⟩
set_option maxHeartbeats 400000 in
theorem sInd (n : Int) (w : World) : Calls Tryz.prog 98 #[.int .i64 n] w fun e w' => e = .returned (.bool (inB n 0 65535)) ∧ w' = w := by
  go_enter Tryz.func98, Tryz.ntmps98
  go_wp2_with (go_at_call 60; refine (sIn _ _ _ _).mono ?_; rintro e w1 ⟨rfl, rfl⟩)
  go_returns
  exact ⟨rfl, rfl⟩
set_option maxHeartbeats 400000 in
theorem sSeq (n : Int) (w : World) : Calls Tryz.prog 99 #[.int .i64 n] w fun e w' => e = .returned (.bool (inB n 0 4294967295)) ∧ w' = w := by
  go_enter Tryz.func99, Tryz.ntmps99
  go_wp2_with (go_at_call 60; refine (sIn _ _ _ _).mono ?_; rintro e w1 ⟨rfl, rfl⟩)
  go_returns
  exact ⟨rfl, rfl⟩
set_option maxHeartbeats 400000 in
theorem sByt (n : Int) (w : World) : Calls Tryz.prog 100 #[.int .i64 n] w fun e w' => e = .returned (.bool (inB n 0 255)) ∧ w' = w := by
  go_enter Tryz.func100, Tryz.ntmps100
  go_wp2_with (go_at_call 60; refine (sIn _ _ _ _).mono ?_; rintro e w1 ⟨rfl, rfl⟩)
  go_returns
  exact ⟨rfl, rfl⟩
set_option maxHeartbeats 400000 in
theorem sClk (n : Int) (w : World) : Calls Tryz.prog 101 #[.int .i64 n] w fun e w' => e = .returned (.bool (inB n 0 20000)) ∧ w' = w := by
  go_enter Tryz.func101, Tryz.ntmps101
  go_wp2_with (go_at_call 60; refine (sIn _ _ _ _).mono ?_; rintro e w1 ⟨rfl, rfl⟩)
  go_returns
  exact ⟨rfl, rfl⟩
theorem two_box (w : World) (cs ds : Array Value) (t t' : TypeId) : At ((w.alloc (.cells cs t)).alloc (.cells ds t')) w.heap.size cs t ∧ At ((w.alloc (.cells cs t)).alloc (.cells ds t')) (w.heap.size + 1) ds t' ∧ Below w.heap.size w ((w.alloc (.cells cs t)).alloc (.cells ds t')) := by
  have e : (w.alloc (.cells cs t)).heap.size = w.heap.size + 1 := by simp
  refine ⟨(At.new w cs t).keep ((Below.refl _ _).alloc (Nat.le_refl _) _), ?_, ((Below.refl _ _).alloc (Nat.le_refl _) _).alloc (by omega) _⟩
  have := At.new (w.alloc (.cells cs t)) ds t'
  rwa [e] at this
theorem At.five {w : World} {b : Nat} {x0 x1 x2 x3 x4 : Value} {t : TypeId} (h : At w b #[x0, x1, x2, x3, x4] t) : w.cell? ⟨b, 0, none⟩ = some x0 ∧ w.cell? ⟨b, 1, none⟩ = some x1 ∧ w.cell? ⟨b, 2, none⟩ = some x2 ∧ w.cell? ⟨b, 3, none⟩ = some x3 ∧ w.cell? ⟨b, 4, none⟩ = some x4 := ⟨h.cell 0, h.cell 1, h.cell 2, h.cell 3, h.cell 4⟩
set_option maxHeartbeats 8000000 in
theorem sWas (h : Hd) (w : World) : Calls Tryz.prog 63 #[.agg h.ar] w fun e w' => e = .returned (.bool h.was) ∧ Below w.heap.size w w' := by
  go_enter Tryz.func63, Tryz.ntmps63
  go_upto_region 1 with fail
  refine wp_at (fun W => At W w.heap.size h.ar 28 ∧ Below w.heap.size w W) ⟨At.new w h.ar _, (Below.refl _ _).alloc (Nat.le_refl _) _⟩ ?_
  rintro W ⟨A, z⟩
  have c27 : W.cell? ⟨w.heap.size, 27, none⟩ = some (.int .i64 h.wasCode) := A.cell 27
  have c28 : W.cell? ⟨w.heap.size, 28, none⟩ = some (.int .i64 h.wasItem) := A.cell 28
  have c29 : W.cell? ⟨w.heap.size, 29, none⟩ = some (.int .i64 h.wasNumber) := A.cell 29
  have c30 : W.cell? ⟨w.heap.size, 30, none⟩ = some (.int .i64 h.wasKind) := A.cell 30
  have c31 : W.cell? ⟨w.heap.size, 31, none⟩ = some (.int .i64 h.wasTag) := A.cell 31
  go_wp2_with (first
    | (go_at_call 97; refine (sAt6 _ _).mono ?_; rintro e w1 ⟨rfl, rfl⟩)
    | (go_at_call 98; refine (sInd _ _).mono ?_; rintro e w1 ⟨rfl, rfl⟩)
    | (go_at_call 99; refine (sSeq _ _).mono ?_; rintro e w1 ⟨rfl, rfl⟩)
    | (go_at_call 100; refine (sByt _ _).mono ?_; rintro e w1 ⟨rfl, rfl⟩)
    | (go_at_call 101; refine (sClk _ _).mono ?_; rintro e w1 ⟨rfl, rfl⟩)
    | (go_at_call 60; refine (sIn _ _ _ _).mono ?_; rintro e w1 ⟨rfl, rfl⟩))
  all_goals go_returns
  all_goals refine ⟨ret_b ?_, z⟩
  all_goals simp_all [Hd.was]
set_option maxHeartbeats 16000000 in
theorem sOwn (p s l c k : Int) (h : Hd) (ho : ok p s l c k = true) (w : World) : Calls Tryz.prog 61 #[.agg #[.int .i64 p, .int .i64 s, .int .i64 l, .int .i64 c, .int .i64 k], .agg h.ar] w fun e w' => e = .returned (.bool (h.own p)) ∧ Below w.heap.size w w' := by
  obtain ⟨P, A, z⟩ := two_box w #[.int .i64 p, .int .i64 s, .int .i64 l, .int .i64 c, .int .i64 k] h.ar 35 28
  have c5 : ((w.alloc (.cells #[.int .i64 p, .int .i64 s, .int .i64 l, .int .i64 c, .int .i64 k] 35)).alloc (.cells h.ar 28)).cell? ⟨w.heap.size + 1, 5, none⟩ = some (.int .i64 h.at_) := A.cell 5
  have c6 : ((w.alloc (.cells #[.int .i64 p, .int .i64 s, .int .i64 l, .int .i64 c, .int .i64 k] 35)).alloc (.cells h.ar 28)).cell? ⟨w.heap.size + 1, 6, none⟩ = some (.int .i64 h.code) := A.cell 6
  have c7 : ((w.alloc (.cells #[.int .i64 p, .int .i64 s, .int .i64 l, .int .i64 c, .int .i64 k] 35)).alloc (.cells h.ar 28)).cell? ⟨w.heap.size + 1, 7, none⟩ = some (.int .i64 h.a) := A.cell 7
  have c8 : ((w.alloc (.cells #[.int .i64 p, .int .i64 s, .int .i64 l, .int .i64 c, .int .i64 k] 35)).alloc (.cells h.ar 28)).cell? ⟨w.heap.size + 1, 8, none⟩ = some (.int .i64 h.b) := A.cell 8
  have c9 : ((w.alloc (.cells #[.int .i64 p, .int .i64 s, .int .i64 l, .int .i64 c, .int .i64 k] 35)).alloc (.cells h.ar 28)).cell? ⟨w.heap.size + 1, 9, none⟩ = some (.int .i64 h.c) := A.cell 9
  have c10 : ((w.alloc (.cells #[.int .i64 p, .int .i64 s, .int .i64 l, .int .i64 c, .int .i64 k] 35)).alloc (.cells h.ar 28)).cell? ⟨w.heap.size + 1, 10, none⟩ = some (.int .i64 h.number) := A.cell 10
  have c11 : ((w.alloc (.cells #[.int .i64 p, .int .i64 s, .int .i64 l, .int .i64 c, .int .i64 k] 35)).alloc (.cells h.ar 28)).cell? ⟨w.heap.size + 1, 11, none⟩ = some (.int .i64 h.for_) := A.cell 11
  have c12 : ((w.alloc (.cells #[.int .i64 p, .int .i64 s, .int .i64 l, .int .i64 c, .int .i64 k] 35)).alloc (.cells h.ar 28)).cell? ⟨w.heap.size + 1, 12, none⟩ = some (.int .i64 h.last) := A.cell 12
  have c13 : ((w.alloc (.cells #[.int .i64 p, .int .i64 s, .int .i64 l, .int .i64 c, .int .i64 k] 35)).alloc (.cells h.ar 28)).cell? ⟨w.heap.size + 1, 13, none⟩ = some (.int .i64 h.mine) := A.cell 13
  have c26 : ((w.alloc (.cells #[.int .i64 p, .int .i64 s, .int .i64 l, .int .i64 c, .int .i64 k] 35)).alloc (.cells h.ar 28)).cell? ⟨w.heap.size + 1, 26, none⟩ = some (.int .i64 h.kept) := A.cell 26
  have c32 : ((w.alloc (.cells #[.int .i64 p, .int .i64 s, .int .i64 l, .int .i64 c, .int .i64 k] 35)).alloc (.cells h.ar 28)).cell? ⟨w.heap.size + 1, 32, none⟩ = some (.int .i64 h.reply) := A.cell 32
  have c33 : ((w.alloc (.cells #[.int .i64 p, .int .i64 s, .int .i64 l, .int .i64 c, .int .i64 k] 35)).alloc (.cells h.ar 28)).cell? ⟨w.heap.size + 1, 33, none⟩ = some (.int .i64 h.out) := A.cell 33
  have c34 : ((w.alloc (.cells #[.int .i64 p, .int .i64 s, .int .i64 l, .int .i64 c, .int .i64 k] 35)).alloc (.cells h.ar 28)).cell? ⟨w.heap.size + 1, 34, none⟩ = some (.int .i64 h.mark) := A.cell 34
  have c35 : ((w.alloc (.cells #[.int .i64 p, .int .i64 s, .int .i64 l, .int .i64 c, .int .i64 k] 35)).alloc (.cells h.ar 28)).cell? ⟨w.heap.size + 1, 35, none⟩ = some (.int .i64 h.begin_) := A.cell 35
  obtain ⟨d0, d1, d2, d3, d4⟩ := P.five
  go_enter Tryz.func61, Tryz.ntmps61
  go_wp2_with (first
    | (go_at_call 97; refine (sAt6 _ _).mono ?_; rintro e w1 ⟨rfl, rfl⟩)
    | (go_at_call 98; refine (sInd _ _).mono ?_; rintro e w1 ⟨rfl, rfl⟩)
    | (go_at_call 99; refine (sSeq _ _).mono ?_; rintro e w1 ⟨rfl, rfl⟩)
    | (go_at_call 100; refine (sByt _ _).mono ?_; rintro e w1 ⟨rfl, rfl⟩)
    | (go_at_call 101; refine (sClk _ _).mono ?_; rintro e w1 ⟨rfl, rfl⟩)
    | (go_at_call 60; refine (sIn _ _ _ _).mono ?_; rintro e w1 ⟨rfl, rfl⟩)
    | (go_at_call 26; refine (sHas _ _ _ _ _ _ ho _).mono ?_; rintro e w2 ⟨rfl, hb⟩; clear d0 d1 d2 d3 d4 c5 c6 c7 c8 c9 c10 c11 c12 c13 c26 c32 c33 c34 c35; replace A := A.keep hb; replace z := z.trans (hb.mono z.size); clear hb; have c12 : w2.cell? ⟨w.heap.size + 1, 12, none⟩ = some (.int .i64 h.last) := A.cell 12; have c13 : w2.cell? ⟨w.heap.size + 1, 13, none⟩ = some (.int .i64 h.mine) := A.cell 13; have c26 : w2.cell? ⟨w.heap.size + 1, 26, none⟩ = some (.int .i64 h.kept) := A.cell 26; have c32 : w2.cell? ⟨w.heap.size + 1, 32, none⟩ = some (.int .i64 h.reply) := A.cell 32; have c33 : w2.cell? ⟨w.heap.size + 1, 33, none⟩ = some (.int .i64 h.out) := A.cell 33; have c34 : w2.cell? ⟨w.heap.size + 1, 34, none⟩ = some (.int .i64 h.mark) := A.cell 34; have c35 : w2.cell? ⟨w.heap.size + 1, 35, none⟩ = some (.int .i64 h.begin_) := A.cell 35))
  all_goals go_returns
  all_goals refine ⟨ret_b ?_, z⟩
  all_goals simp_all [Hd.own]
end Go.Proofs.YtgmoemjiffglbaaGreat
namespace Go.Proofs.YtgmoemjiffglbaaGreat
open Go.RowKit
set_option maxRecDepth 100000
set_option linter.unusedVariables false
set_option maxHeartbeats 32000000 in
theorem sSwp (p s l c k : Int) (h : Hd) (ho : ok p s l c k = true) (w : World) : Calls Tryz.prog 62 #[.agg #[.int .i64 p, .int .i64 s, .int .i64 l, .int .i64 c, .int .i64 k], .agg h.ar] w fun e w' => e = .returned (.bool (h.swap p s l c)) ∧ Below w.heap.size w w' := by
  have h' := ok_iff.1 ho
  obtain ⟨z0, ez⟩ : ∃ z0 : Int, Hid (zF p s l c = z0) := ⟨_, rfl⟩
  have eS : Hid (vSize p s l c k = z0) := by rw [← ez.out]; unfold vSize; rw [ho]; rfl
  have eB : Hid (vBlocks p s l c k = s + l) := by unfold vBlocks; rw [ho]; rfl
  have zb : 0 ≤ z0 ∧ z0 ≤ 100000 := by
    have hq := sq_bd h'.1 h'.2.1
    rw [← ez.out]; unfold zF; (try unfold sF); (try unfold rF); (try unfold nF); omega
  go_enter Tryz.func62, Tryz.ntmps62
  go_upto_region 1 with fail
  refine wp_at (fun W => At W w.heap.size #[.int .i64 p, .int .i64 s, .int .i64 l, .int .i64 c, .int .i64 k] 35 ∧ At W (w.heap.size + 1) h.ar 28 ∧ Below w.heap.size w W) (two_box w _ _ _ _) ?_
  rintro W ⟨P, A, z⟩
  have l14 : ∀ w', Cls W w' → (loadVar 2 ⟨w.heap.size + 1, 14, none⟩).run Tryz.prog w' = .ok (.int .i64 h.addr) w' := ld_i A Tryz.underlying2 rfl
  have l17 : ∀ w', Cls W w' → (loadVar 2 ⟨w.heap.size + 1, 17, none⟩).run Tryz.prog w' = .ok (.int .i64 h.good) w' := ld_i A Tryz.underlying2 rfl
  have l18 : ∀ w', Cls W w' → (loadVar 2 ⟨w.heap.size + 1, 18, none⟩).run Tryz.prog w' = .ok (.int .i64 h.bad) w' := ld_i A Tryz.underlying2 rfl
  have l19 : ∀ w', Cls W w' → (loadVar 2 ⟨w.heap.size + 1, 19, none⟩).run Tryz.prog w' = .ok (.int .i64 h.does) w' := ld_i A Tryz.underlying2 rfl
  have l20 : ∀ w', Cls W w' → (loadVar 2 ⟨w.heap.size + 1, 20, none⟩).run Tryz.prog w' = .ok (.int .i64 h.block) w' := ld_i A Tryz.underlying2 rfl
  have l21 : ∀ w', Cls W w' → (loadVar 2 ⟨w.heap.size + 1, 21, none⟩).run Tryz.prog w' = .ok (.int .i64 h.from_) w' := ld_i A Tryz.underlying2 rfl
  have l22 : ∀ w', Cls W w' → (loadVar 2 ⟨w.heap.size + 1, 22, none⟩).run Tryz.prog w' = .ok (.int .i64 h.next) w' := ld_i A Tryz.underlying2 rfl
  have l23 : ∀ w', Cls W w' → (loadVar 2 ⟨w.heap.size + 1, 23, none⟩).run Tryz.prog w' = .ok (.int .i64 h.value) w' := ld_i A Tryz.underlying2 rfl
  have l24 : ∀ w', Cls W w' → (loadVar 2 ⟨w.heap.size + 1, 24, none⟩).run Tryz.prog w' = .ok (.int .i64 h.index) w' := ld_i A Tryz.underlying2 rfl
  have l25 : ∀ w', Cls W w' → (loadVar 2 ⟨w.heap.size + 1, 25, none⟩).run Tryz.prog w' = .ok (.int .i64 h.which) w' := ld_i A Tryz.underlying2 rfl
  have lp : ∀ w', Cls W w' → (loadVar 35 ⟨w.heap.size, 0, none⟩).run Tryz.prog w' = .ok (.agg #[.int .i64 p, .int .i64 s, .int .i64 l, .int .i64 c, .int .i64 k]) w' := ld_agg (vs := [.int .i64 p, .int .i64 s, .int .i64 l, .int .i64 c, .int .i64 k]) P Tryz.underlying35 rfl (by kernel_rfl)
  have l0 : ∀ w', Cls W w' → (loadVar 2 ⟨w.heap.size, 0, none⟩).run Tryz.prog w' = .ok (.int .i64 p) w' := ld_i P Tryz.underlying2 rfl
  refine wp_region_cls (by kernel_rfl) (by kernel_rfl) ?_
  repeat' (first
    | go_big_quiet_skip
    | (go_big_quiet_want; first
      | (refine q_load _ _ _ _ rfl rfl (by assumption) ?_; simp only [Act.put, List.setIfInBounds_toArray, List.set_cons_zero, List.set_cons_succ]; go_big_quiet_on)
      | (go_big_quiet_op; first
        | go_big_quiet_on
        | (refine ⟨_, fun _ _ => rfl, ?_⟩; go_big_quiet_on)
        | (apply exB
           case hT => (intro w' hw'; first
             | (go_at_call 60; exact cls_same hw' (sIn _ _ _ _))
             | (go_at_call 97; exact cls_same hw' (sAt6 _ _))
             | (go_at_call 98; exact cls_same hw' (sInd _ _)))
           all_goals (intro e1; go_big_quiet_on))
        | (apply Exists.intro; refine ⟨fun w' hw' => ?_, ?_⟩
           · (first
             | (go_at_call 59; have hq := sSize p s l c k w'; rw [eS.out] at hq; exact cls_below hw' hq)
             | (go_at_call 102; have hq := sBlocks p s l c k w'; rw [eB.out] at hq; exact cls_below hw' hq))
           go_big_quiet_on))))
  all_goals (refine wpQuiet_nil ?_; intro w2 hw2)
  all_goals go_wp2
  all_goals go_returns
  all_goals refine ⟨ret_b ?_, z.trans (hw2.below.mono z.size)⟩
  all_goals (have ez' := ez.out; clear l0 lp l14 l17 l18 l19 l20 l21 l22 l23 l24 l25 eS eB ez; simp_all [Hd.swap])
end Go.Proofs.YtgmoemjiffglbaaGreat
