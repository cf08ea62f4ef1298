/-
  A region that draws its order, reads and calls: one walk in the order of the text serves every order, in the class of the worlds that are as they were below.
-/
import Derived.Test.YtooljeddnfkphaaDoorAt
import Derived.Deep.MidRow
import Derived.BigQuiet
import Derived.WalkKit
namespace Go.Proofs.YtooljeddnfkphaaDoor
open Go.RowKit
set_option linter.unusedVariables false
/-- The worlds that are as W below W's end. -/
structure Cls (W w : World) : Prop where
  below : Below W.heap.size W w
theorem wp_region_cls {id : Nat} {Q : Exit → Act → World → Prop} {a : Act} {w : World} {l : List Oper} (hm : Tryd.prog.follows .mixedOrders = true) (hB : Region.lexB .any l.toArray = true)
    (h : wpQuiet Tryd.prog l.toArray (Cls w) (fun a' => ∀ w', Cls w w' → Q .normal a' w') l a) : (Code.region id l.toArray true).wp Tryd.prog Q a w :=
  wp_region_quiet (C := Cls w) hm hB ⟨⟨rfl, rfl, rfl, Nat.le_refl _, fun _ _ => rfl⟩⟩ (by simpa using h)
theorem q_load {P : Program} {o : Oper} {a : Act} {C : World → Prop} {K : Act → Prop} (t : TypeId) (x : Operand) (p : Addr) (v : Value) (ho : o.op = .load t x) (hx : a.eval x = .pointer (some p))
    (h : ∀ w, C w → (loadVar t p).run P w = .ok v w) (hk : K (a.put o.dst v)) : o.quiet P a C K :=
  ⟨v, fun w hw => by
    unfold Oper.quietAt execOp
    simp only [ho, hx, Instr.loadAt, Instr.sureAddr, Sem.run_bind, Sem.run_pure, Result.andThen_ok, h w hw]
    exact ⟨rfl, rfl⟩, hk⟩
theorem exB {b : Bool} {T K' : Value → Prop} (hT : T (.bool b)) (ht : b = true → K' (.bool true)) (hf : b = false → K' (.bool false)) : ∃ v, T v ∧ K' v :=
  ⟨.bool b, hT, by cases b with | true => exact ht rfl | false => exact hf rfl⟩
theorem cls_same {P : Program} {f : FuncId} {args : Array Value} {W w : World} {v : Value} (hw : Cls W w) (h : Calls P f args w fun e w' => e = .returned v ∧ w' = w) : Calls P f args w fun e w' => e = .returned v ∧ Cls W w' :=
  h.mono fun _ _ ⟨he, hm⟩ => ⟨he, by rw [hm]; exact hw⟩
theorem cls_below {P : Program} {f : FuncId} {args : Array Value} {W w : World} {v : Value} (hw : Cls W w) (h : Calls P f args w fun e w' => e = .returned v ∧ Below w.heap.size w w') : Calls P f args w fun e w' => e = .returned v ∧ Cls W w' :=
  h.mono fun _ _ ⟨he, hm⟩ => ⟨he, ⟨hw.below.trans (hm.mono hw.below.size)⟩⟩
theorem ld_i {W : World} {b i : Nat} {cs : Array Value} {t ty : TypeId} {k : IntKind} {x : Int} (A : At W b cs t) (hu : Tryd.prog.underlying ty = some (.int k)) (hv : cs[i]? = some (.int k x)) (w : World) (hw : Cls W w) : (loadVar ty ⟨b, i, none⟩).run Tryd.prog w = .ok (.int k x) w := by
  have c : w.cell? ⟨b, i, none⟩ = some (.int k x) := ((A.keep hw.below).cell i).trans hv
  have ha : (isAgg ty).run Tryd.prog w = .ok false w := by
    unfold isAgg
    rw [Sem.run_bind, run_underlying hu w]
    simp
  simp [go_sem, c, ha]
theorem ld_agg {W : World} {b : Nat} {vs : List Value} {t ty : TypeId} {d : TypeDesc} (A : At W b vs.toArray t) (hu : Tryd.prog.underlying ty = some d) (hd : d.isRow = true) (hi : (Tryd.prog.info? ty).map (·.size) = some vs.length) (w : World) (hw : Cls W w) : (loadVar ty ⟨b, 0, none⟩).run Tryd.prog w = .ok (.agg vs.toArray) w :=
  run_loadVar_mid w b 0 ty vs d (fun j v hj => by have := (A.keep hw.below).cell j; simp at *; rw [this]; exact hj) hu hd hi
end Go.Proofs.YtooljeddnfkphaaDoor
