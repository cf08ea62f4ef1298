/-
  Walks: a loop over the program's iterator.
-/
import Derived.Test.YtdebjfgflldpjaaWk2
namespace Go.Proofs.Ytdebjfgflldpjaa
open Go.RowKit Go.Shelf
set_option maxRecDepth 100000
attribute [local go_sem] Oper.semAt_some
set_option linter.unusedVariables false
set_option linter.unusedSimpArgs false
theorem Kp.trans {n0 : Nat} {A B C : World} (h : Kp n0 A B) (k : Kp n0 B C) : Kp n0 A C :=
  ⟨h.low.trans k.low, Nat.le_trans h.size k.size, fun b cs t ha h1 h2 => k.typ b cs t (h.typ b cs t ha h1 h2) h1 h2⟩
theorem Kp.put {n0 L : Nat} {W : World} {o : Obj} (o' : Obj) (hL : n0 ≤ L) (h : W.heap[L]? = some o) (ho : o.isCells = false) : Kp n0 W (W.putObj L o') := by
  have hs : W.heap.size = (W.putObj L o').heap.size := by simp
  refine ⟨(Below.refl n0 W).grown (grownBy_putObj' W L o') (by have := (Array.getElem?_eq_some_iff.1 h).1; omega) (fun k e => by cases e; exact hL), by omega, fun b cs t ha _ _ => ⟨?_⟩⟩
  refine (World.putObj_heap_other (fun e => ?_)).trans ha.is
  subst e
  rw [ha.is] at h
  cases h
  cases ho
/-- A round that goes on; one that returns. -/
def goesOn (n0 : Nat) (I : List Int → World → Prop) (Z : List Int) (W : World) : Exit → Act → World → Prop
  | .normal, _, W' => KeepsOthers W W' ∧ Kp n0 W W' ∧ I Z W'
  | _, _, _ => False
def givesUp (Ix : World → Prop) (W : World) : Exit → Act → World → Prop
  | .ret, _, W' => KeepsOthers W W' ∧ Ix W'
  | _, _, _ => False
theorem range2 {g : Operand} {ps : Array Tmp} {assign body : Code} {Q : Exit → Act → World → Prop} {a : Act} {w : World} {lb : Array Value}
    (hg : a.eval g = .func (.func 29) #[] lb) (hps : ps.size = 2) (R : Option (List Int)) (n0 : Nat) (hn0 : n0 ≤ w.heap.size)
    (I : List Int → World → Prop) (Ix : World → Prop)
    (hI1 : ∀ Z A B, I Z A → Below A.heap.size A B → I Z B)
    (hI2 : ∀ Z A b o o', I Z A → w.heap.size ≤ b → A.heap[b]? = some o → o.isCells = false → I Z (A.putObj b o'))
    (hI3 : ∀ Z A b cs i v, I Z A → w.heap.size ≤ b → At A b cs 4 → I Z (A.setCell ⟨b, i, none⟩ v))
    (hX2 : ∀ A b o o', Ix A → w.heap.size ≤ b → A.heap[b]? = some o → o.isCells = false → Ix (A.putObj b o'))
    (a1 : Int → Bool → Act)
    (hassign : ∀ (l : Nat) (x : Int) (t : Bool) (W : World) (K : Act → World → Prop), K (a1 x t) W →
      assign.wpIn (Fence.wide.inRound l) 5 Try.prog (Exit.then K (fun _ _ _ => False)) { tmps := (ps.zip #[.int .i64 x, .bool t]).foldl (fun t (p, v) => t.setIfInBounds p v) a.tmps, defers := [] } W)
    (hb1 : ∀ (l : Nat) Z x W, I Z W → Z.length < 250 → body.wpIn (Fence.wide.inRound l) 5 Try.prog (goesOn n0 I (Z ++ [x]) W) (a1 x true) W)
    (hb2 : ∀ (l : Nat) Z x W, I Z W → body.wpIn (Fence.wide.inRound l) 5 Try.prog (givesUp Ix W) (a1 x false) W)
    (hit : ∀ (L : Nat) (J : List Int → World → Prop) (Jx : World → Prop), (∀ Z A B, J Z A → Below A.heap.size A B → J Z B) → (∀ Z A b cs i v, J Z A → w.heap.size ≤ b → At A b cs 4 → J Z (A.setCell ⟨b, i, none⟩ v)) →
      (∀ Z x A, J Z A → Z.length < 250 → YieldAt Fence.wide 5 Try.prog L #[.int .i64 x, .bool true] A fun e B => e = .returned (.bool true) ∧ J (Z ++ [x]) B ∧ Kp n0 A B) →
      (∀ Z x A, J Z A → YieldAt Fence.wide 5 Try.prog L #[.int .i64 x, .bool false] A fun e B => e = .returned (.bool false) ∧ Jx B) →
      ∀ W, Below w.heap.size w W → J [] W → Calls Try.prog 29 (#[.func (.yield L) #[] #[]] ++ lb) W fun e W' => (∃ v, e = .returned v) ∧ ((∃ ys, R = some ys ∧ J ys W') ∨ (R = none ∧ Jx W')))
    (h0 : I [] w)
    (hdone : ∀ ys W, R = some ys → I ys W → W.heap[w.heap.size]? = some (.deferred (some [])) → Q .normal { a with defers := { target := .collected w.heap.size, args := #[] } :: a.defers } W)
    (hstop : ∀ W, R = none → Ix W → W.heap[w.heap.size]? = some (.deferred (some [])) → Code.ret.wpIn Fence.wide 7 Try.prog Q { a with defers := { target := .collected w.heap.size, args := #[] } :: a.defers } W) :
    (Code.rangeFunc g ps assign body).wpIn Fence.wide 7 Try.prog Q a w := by
  refine wpIn_rangeFunc fun fn _ => ?_
  obtain ⟨rc, hrc⟩ : ∃ rc : LoopState → Option Code → Loop, rc = fun st pe => { state := st, pending := pe, fn, tmps := a.tmps, params := ps, assign, body, defers := w.heap.size } := ⟨_, rfl⟩
  have enter := run_enterLoop_outer (P := Try.prog) (w := w) fn a.tmps ps assign body
  have zz : Below w.heap.size w ((w.alloc (.deferred (some []))).alloc (.loop (rc .ready none))) := ((Below.refl _ w).alloc (Nat.le_refl _) _).alloc (by simp) _
  have hD : ((w.alloc (.deferred (some []))).alloc (.loop (rc .ready none))).heap[w.heap.size]? = some (.deferred (some [])) := (Below.heap_alloc _ _ _ (by simp)).trans (World.alloc_heap_new w _)
  have hL : ((w.alloc (.deferred (some []))).alloc (.loop (rc .ready none))).heap[w.heap.size + 1]? = some (.loop (rc .ready none)) := by
    have := World.alloc_heap_new (w.alloc (.deferred (some []))) (.loop (rc .ready none))
    rwa [World.size_alloc] at this
  have e1 : ({ state := .ready, pending := none, fn, tmps := a.tmps, params := ps, assign, body, defers := w.heap.size } : Loop) = rc .ready none := by rw [hrc]
  rw [e1] at enter
  have hi1 := hI1 _ _ _ h0 zz
  generalize (w.alloc (.deferred (some []))).alloc (.loop (rc .ready none)) = V at *
  have eg : ∀ args w, (callFunc 29 args).run Try.prog w = .ok (.enter 29 args) w := enters_of Try.func29 (by kernel_rfl) rfl
  refine ⟨w.heap.size + 1, _, V, { target := .fn (.func 29) lb, args := #[.func (.yield (w.heap.size + 1)) #[] #[]] }, V, 29, #[.func (.yield (w.heap.size + 1)) #[] #[]] ++ lb, V, enter, ?_, fun _ _ => trivial, ?_, fun h => (by cases h), callsIn_wide.2 ?_⟩
  · simp only [resolve, hg]
    simp [go_sem]
  · simp [invoke, go_sem, eg]
  -- a record or the deferred calls' block behind a step that keeps them
  have hne : ∀ {A B : World} {l : Nat} {o : Obj}, A.heap[l]? = some o → Below A.heap.size A B → B.heap[l]? = some o := fun h hb => (hb.block _ (Array.getElem?_eq_some_iff.1 h).1).trans h
  refine (hit (w.heap.size + 1) (fun Z W => I Z W ∧ W.heap[w.heap.size + 1]? = some (.loop (rc .ready none)) ∧ W.heap[w.heap.size]? = some (.deferred (some [])))
    (fun W => Ix W ∧ W.heap[w.heap.size + 1]? = some (.loop (rc .done (some .ret))) ∧ W.heap[w.heap.size]? = some (.deferred (some [])))
    (fun Z A B h hb => ⟨hI1 _ _ _ h.1 hb, hne h.2.1 hb, hne h.2.2 hb⟩)
    (fun Z A b cs i v h hb hA => ?_) (fun Z x A h hlen => ?_) (fun Z x A h => ?_) V zz ⟨hi1, hL, hD⟩).mono ?_
  · have n1 : w.heap.size + 1 ≠ b := by rintro rfl; have := hA.is.symm.trans h.2.1; cases this
    have n2 : w.heap.size ≠ b := by rintro rfl; have := hA.is.symm.trans h.2.2; cases this
    exact ⟨hI3 _ _ _ _ i v h.1 hb hA, (Below.heap_setCell A ⟨b, i, none⟩ v _ n1).trans h.2.1, (Below.heap_setCell A ⟨b, i, none⟩ v _ n2).trans h.2.2⟩
  · obtain ⟨hi, hl, hd⟩ := h
    have hy := run_yield (P := Try.prog) (args := #[.int .i64 x, .bool true]) hl (by rw [hrc]; exact hps.symm)
    rw [hrc] at hy
    refine ⟨fn, _, assign, body, hy, roundIn_of_wpIn trivial (hassign _ x true A _ ⟨_, run_beginRound hl (by rw [hrc]), ?_⟩)⟩
    clear hy
    have lt : w.heap.size + 1 < A.heap.size := (Array.getElem?_eq_some_iff.1 hl).1
    refine wpIn_mono (hb1 _ Z x _ (hI2 _ _ _ _ (.loop { rc .ready none with state := .busy }) hi (by omega) hl rfl) hlen) ?_
    intro e a3 B hp
    cases e with
    | normal =>
      obtain ⟨ko, kp, hi3⟩ := hp
      have hl3 := ko.same _ _ (World.putObj_heap_same lt) rfl
      have hd3 := ko.same _ _ ((World.putObj_heap_other (show w.heap.size ≠ w.heap.size + 1 by omega)).trans hd) rfl
      have he := run_endRound (P := Try.prog) none hl3
      have e2 : ({ ({ rc .ready none with state := .busy } : Loop) with state := if (none : Option Code).isNone then .ready else .done, pending := none } : Loop) = rc .ready none := by rw [hrc]; rfl
      rw [e2] at he
      refine ⟨_, _, he, rfl, ⟨hI2 _ _ _ _ _ hi3 (by omega) hl3 rfl, World.putObj_heap_same (Array.getElem?_eq_some_iff.1 hl3).1, (World.putObj_heap_other (by omega)).trans hd3⟩, ?_⟩
      exact ((Kp.put _ (by omega) hl rfl).trans kp).trans (Kp.put _ (by omega) hl3 rfl)
    | _ => exact hp.elim
  · obtain ⟨hi, hl, hd⟩ := h
    have hy := run_yield (P := Try.prog) (args := #[.int .i64 x, .bool false]) hl (by rw [hrc]; exact hps.symm)
    rw [hrc] at hy
    refine ⟨fn, _, assign, body, hy, roundIn_of_wpIn trivial (hassign _ x false A _ ⟨_, run_beginRound hl (by rw [hrc]), ?_⟩)⟩
    clear hy
    have lt : w.heap.size + 1 < A.heap.size := (Array.getElem?_eq_some_iff.1 hl).1
    refine wpIn_mono (hb2 _ Z x _ (hI2 _ _ _ _ (.loop { rc .ready none with state := .busy }) hi (by omega) hl rfl)) ?_
    intro e a3 B hp
    cases e with
    | ret =>
      obtain ⟨ko, hi3⟩ := hp
      have hl3 := ko.same _ _ (World.putObj_heap_same lt) rfl
      have hd3 := ko.same _ _ ((World.putObj_heap_other (show w.heap.size ≠ w.heap.size + 1 by omega)).trans hd) rfl
      have he := run_endRound (P := Try.prog) (some .ret) hl3
      have e2 : ({ ({ rc .ready none with state := .busy } : Loop) with state := if (some Code.ret).isNone then .ready else .done, pending := some .ret } : Loop) = rc .done (some .ret) := by rw [hrc]; rfl
      rw [e2] at he
      exact ⟨_, _, he, rfl, hX2 _ _ _ _ hi3 (by omega) hl3 rfl, World.putObj_heap_same (Array.getElem?_eq_some_iff.1 hl3).1, (World.putObj_heap_other (by omega)).trans hd3⟩
    | _ => exact hp.elim
  · rintro e B ⟨⟨v, rfl⟩, (⟨ys, hR, hi, hl, hd⟩ | ⟨hR, hi, hl, hd⟩)⟩
    · have he := run_endLoop (P := Try.prog) hl (by rw [hrc]; simp)
      exact ⟨none, _, by rw [he, hrc], hdone ys _ hR (hI2 _ _ _ _ _ hi (by omega) hl rfl) ((World.putObj_heap_other (by omega)).trans hd)⟩
    · have he := run_endLoop (P := Try.prog) hl (by rw [hrc]; simp)
      exact ⟨some .ret, _, by rw [he, hrc], hstop _ hR (hX2 _ _ _ _ hi (by omega) hl rfl) ((World.putObj_heap_other (by omega)).trans hd)⟩
end Go.Proofs.Ytdebjfgflldpjaa
