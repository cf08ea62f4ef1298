/-
  Two hands compared.
-/
import Derived.Test.YtooljeddnfkphaaDoorHan3
import Derived.Laws.StructEq
import Derived.Test.YtooljeddnfkphaaDoorQui
namespace Go.Proofs.YtooljeddnfkphaaDoor
open Go.RowKit Go.Deep
set_option linter.unusedVariables false
theorem notAgg_i {P : Program} {t : TypeId} {k : IntKind} (hu : P.underlying t = some (.int k)) (w : World) : (isAgg t).run P w = .ok false w := by
  unfold isAgg
  rw [Sem.run_bind, run_underlying hu w]
  simp
theorem notAgg_b {P : Program} {t : TypeId} (hu : P.underlying t = some .bool) (w : World) : (isAgg t).run P w = .ok false w := by
  unfold isAgg
  rw [Sem.run_bind, run_underlying hu w]
  simp
theorem part_at {P : Program} {t : TypeId} {xs : Array Value} {i : Nat} {v : Value} {w : World} (ha : (isAgg t).run P w = .ok false w) (hx : xs[i]? = some v) : (part t xs i).run P w = .ok v w := by
  unfold part
  simp [Sem.run_bind, ha, hx]
theorem run_eqF {P : Program} (d : Nat) (xs ys : Array Value) (w : World) : ∀ (fs : List Field), (∀ f ∈ fs, f.name ≠ "_" ∧ ((P.underlying f.type = some .bool ∧ ∃ a b, xs[f.offset]? = some (.bool a) ∧ ys[f.offset]? = some (.bool b)) ∨ ∃ k, P.underlying f.type = some (.int k) ∧ ∃ a b, xs[f.offset]? = some (.int k a) ∧ ys[f.offset]? = some (.int k b))) →
    ∃ b : Bool, (Op.eqFields (d + 1) xs ys fs).run P w = .ok b w ∧ (b = true ↔ ∀ f ∈ fs, xs[f.offset]? = ys[f.offset]?)
  | [], _ => ⟨true, by simp [Op.eqFields], by simp⟩
  | f :: fs, h => by
    obtain ⟨b, hb, hi⟩ := run_eqF d xs ys w fs (fun g hg => h g (List.mem_cons_of_mem _ hg))
    obtain ⟨hn, hk⟩ := h f (by simp)
    rcases hk with ⟨hu, x, y, hx, hy⟩ | ⟨k, hu, x, y, hx, hy⟩
    · refine ⟨(x == y) && b, ?_, ?_⟩
      · simp only [Op.eqFields, if_pos hn, Sem.run_bind, part_at (notAgg_b hu w) hx, part_at (notAgg_b hu w) hy, Result.andThen_ok, run_equalIn_bool' w d f.type x y hu]
        cases hxy : (x == y)
        · simp
        · simpa using hb
      · simp only [Bool.and_eq_true, hi, List.mem_cons, forall_eq_or_imp, hx, hy]
        simp
    · refine ⟨(x == y) && b, ?_, ?_⟩
      · simp only [Op.eqFields, if_pos hn, Sem.run_bind, part_at (notAgg_i hu w) hx, part_at (notAgg_i hu w) hy, Result.andThen_ok, run_equalIn_int w d f.type k k x y hu]
        cases hxy : (x == y)
        · simp
        · simpa using hb
      · simp only [Bool.and_eq_true, hi, List.mem_cons, forall_eq_or_imp, hx, hy]
        simp
noncomputable def Hd.same (h k : Hd) : Bool := @decide (h = k) (Classical.propDecidable _)
theorem Hd.same_iff {h k : Hd} : h.same k = true ↔ h = k := by unfold Hd.same; exact @decide_eq_true_iff _ (Classical.propDecidable _)
theorem Hd.inj {h k : Hd} (e : h.vs = k.vs) : h = k := by
  cases h; cases k
  simp only [Hd.vs, List.cons.injEq, Value.bool.injEq, Value.int.injEq, true_and, and_true] at e
  simp only [Hd.mk.injEq]
  exact e
theorem Hd.kinds (h : Hd) (i : Nat) (hi : i < 36) : (hk i = none ∧ ∃ b, h.ar[i]? = some (.bool b)) ∨ ∃ k, hk i = some k ∧ ∃ a, h.ar[i]? = some (.int k a) := by
  match i, hi with
  | 0, _ => exact .inl ⟨rfl, _, rfl⟩
  | 1, _ => exact .inl ⟨rfl, _, rfl⟩
  | 2, _ => exact .inl ⟨rfl, _, rfl⟩
  | 3, _ => exact .inl ⟨rfl, _, rfl⟩
  | 4, _ => exact .inr ⟨.i64, rfl, _, rfl⟩
  | 5, _ => exact .inr ⟨.i64, rfl, _, rfl⟩
  | 6, _ => exact .inr ⟨.i64, rfl, _, rfl⟩
  | 7, _ => exact .inr ⟨.i64, rfl, _, rfl⟩
  | 8, _ => exact .inr ⟨.i64, rfl, _, rfl⟩
  | 9, _ => exact .inr ⟨.i64, rfl, _, rfl⟩
  | 10, _ => exact .inr ⟨.i64, rfl, _, rfl⟩
  | 11, _ => exact .inr ⟨.i64, rfl, _, rfl⟩
  | 12, _ => exact .inr ⟨.i64, rfl, _, rfl⟩
  | 13, _ => exact .inr ⟨.i64, rfl, _, rfl⟩
  | 14, _ => exact .inr ⟨.i64, rfl, _, rfl⟩
  | 15, _ => exact .inr ⟨.u64, rfl, _, rfl⟩
  | 16, _ => exact .inr ⟨.u64, rfl, _, rfl⟩
  | 17, _ => exact .inr ⟨.i64, rfl, _, rfl⟩
  | 18, _ => exact .inr ⟨.i64, rfl, _, rfl⟩
  | 19, _ => exact .inr ⟨.i64, rfl, _, rfl⟩
  | 20, _ => exact .inr ⟨.i64, rfl, _, rfl⟩
  | 21, _ => exact .inr ⟨.i64, rfl, _, rfl⟩
  | 22, _ => exact .inr ⟨.i64, rfl, _, rfl⟩
  | 23, _ => exact .inr ⟨.i64, rfl, _, rfl⟩
  | 24, _ => exact .inr ⟨.i64, rfl, _, rfl⟩
  | 25, _ => exact .inr ⟨.i64, rfl, _, rfl⟩
  | 26, _ => exact .inr ⟨.i64, rfl, _, rfl⟩
  | 27, _ => exact .inr ⟨.i64, rfl, _, rfl⟩
  | 28, _ => exact .inr ⟨.i64, rfl, _, rfl⟩
  | 29, _ => exact .inr ⟨.i64, rfl, _, rfl⟩
  | 30, _ => exact .inr ⟨.i64, rfl, _, rfl⟩
  | 31, _ => exact .inr ⟨.i64, rfl, _, rfl⟩
  | 32, _ => exact .inr ⟨.i64, rfl, _, rfl⟩
  | 33, _ => exact .inr ⟨.i64, rfl, _, rfl⟩
  | 34, _ => exact .inr ⟨.i64, rfl, _, rfl⟩
  | 35, _ => exact .inr ⟨.i64, rfl, _, rfl⟩
  | n + 36, hi => omega
def namesOk (fs : Array Field) : Bool := fs.toList.all fun f => f.name != "_"
theorem eqlH_run {fs : Array Field} (hs : Tryd.prog.underlying 31 = some (.struct fs)) (hn : namesOk fs = true) (hone : oneCellFields Tryd.prog fs = true) (hall : fieldsAre Tryd.prog fs = true) (hz : fs.size = 36) (hp : Tryd.prog.stoodInHeld 31 = false) (h k : Hd) (w : World) :
    (binOp .eql 31 (.agg h.ar) (.agg k.ar)).run Tryd.prog w = .ok (.bool (h.same k)) w := by
  have hf : Tryd.prog.fieldsOf 31 = fs := by unfold Program.fieldsOf; rw [hs]
  rw [run_eql_struct, run_equalIn_struct w 9999 _ _ _ (by rw [hf]; exact hs) hp, hf]
  obtain ⟨b, hb, hi⟩ := run_eqF (P := Tryd.prog) 9998 h.ar k.ar w fs.toList (by
    intro f hm
    obtain ⟨i, hlt, rfl⟩ := List.mem_iff_getElem.1 hm
    have hlt' : i < fs.size := by simpa using hlt
    have hg : fs[i]? = some fs.toList[i] := by simp [hlt']
    refine ⟨?_, ?_⟩
    · have := List.all_eq_true.1 hn _ hm
      simpa using this
    · rw [(hone_of hone i _ hg).1]
      rcases h.kinds i (by omega) with ⟨e1, x, hx⟩ | ⟨kk, e1, x, hx⟩
      · rcases k.kinds i (by omega) with ⟨e2, y, hy⟩ | ⟨kk, e2, y, hy⟩
        · exact .inl ⟨fieldsAre_bool hall i _ hg e1, x, y, hx, hy⟩
        · rw [e1] at e2; cases e2
      · rcases k.kinds i (by omega) with ⟨e2, y, hy⟩ | ⟨k2, e2, y, hy⟩
        · rw [e1] at e2; cases e2
        · rw [e1] at e2; cases e2
          refine .inr ⟨kk, ?_, x, y, hx, hy⟩
          unfold hk at e1
          split at e1
          · cases e1
          · split at e1
            · cases e1; exact fieldsAre_u hall i _ hg (by unfold hk; rw [if_neg (by assumption), if_pos (by assumption)])
            · cases e1; exact fieldsAre_i hall i _ hg (by unfold hk; rw [if_neg (by assumption), if_neg (by assumption)]))
  have e : b = h.same k := by
    rw [Bool.eq_iff_iff, hi, Hd.same_iff]
    constructor
    · intro ha
      refine Hd.inj (List.ext_getElem? fun i => ?_)
      by_cases hlt : i < 36
      · have hlt' : i < fs.size := by omega
        have := ha fs.toList[i] (List.getElem_mem (by simpa using hlt'))
        rw [(hone_of hone i fs.toList[i] (by simp [hlt'])).1] at this
        simpa [Hd.ar] using this
      · have h1 := h.len
        have h2 := k.len
        rw [List.getElem?_eq_none (by omega), List.getElem?_eq_none (by omega)]
    · intro ha; subst ha; intro f _; rfl
  rw [hb, e]
  rfl
theorem eqlH (h k : Hd) (w : World) : (binOp .eql 31 (.agg h.ar) (.agg k.ar)).run Tryd.prog w = .ok (.bool (h.same k)) w :=
  eqlH_run Tryd.underlying31 (by kernel_rfl) (by kernel_rfl) (by kernel_rfl) rfl (by kernel_rfl) h k w
theorem eqH_exec {ρ : Operand → Value} {o : Oper} (x y : Operand) (ho : o.op = .binOp .eql 31 x y 31) (h k : Hd) (hx : ρ x = .agg h.ar) (hy : ρ y = .agg k.ar) (w : World) : (execOp ρ o).run Tryd.prog w = .ok (.value (.bool (h.same k))) w := by
  unfold execOp
  rw [ho]
  simp only [hx, hy, Sem.run_bind, run_eqGuard_agg (P := Tryd.prog) w .eql 31 x y h.ar k.ar (by kernel_rfl), Result.andThen_ok, eqlH]
  rfl
theorem wpList_eqH {ops : Array Oper} {rest : List Oper} {o : Oper} {a : Act} {w : World} {Q : Exit → Act → World → Prop} (hg : o.guard = none) (x y : Operand) (ho : o.op = .binOp .eql 31 x y 31) (h k : Hd) (hx : a.eval x = .agg h.ar) (hy : a.eval y = .agg k.ar)
    (hr : wpList Tryd.prog ops Q rest (a.put o.dst (.bool (h.same k))) w) : wpList Tryd.prog ops Q (o :: rest) a w :=
  wpList_plain hg fun K hK => by
    unfold Oper.wp
    rw [eqH_exec x y ho h k hx hy w]
    exact hK _ _ hr
theorem q_eqH {o : Oper} {a : Act} {C : World → Prop} {K : Act → Prop} (x y : Operand) (ho : o.op = .binOp .eql 31 x y 31) (h k : Hd) (hx : a.eval x = .agg h.ar) (hy : a.eval y = .agg k.ar) (hk : K (a.put o.dst (.bool (h.same k)))) : o.quiet Tryd.prog a C K :=
  ⟨_, fun w hw => by
    unfold Oper.quietAt
    rw [eqH_exec x y ho h k hx hy w]
    exact ⟨rfl, rfl⟩, hk⟩
end Go.Proofs.YtooljeddnfkphaaDoor
