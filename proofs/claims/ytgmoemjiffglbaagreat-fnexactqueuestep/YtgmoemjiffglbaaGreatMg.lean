/-
  Two hands compared.
  Whether a hand is right: the specification's side.
  A hand in parts: the program's side.
  The program's tests of the parts of a hand.
  Whether the places that a hand names are there: the program's side.
  Whether a hand is right: the program's side.
-/
import Derived.Test.YtgmoemjiffglbaaGreatMf
import Derived.Laws.StructEq
namespace Go.Proofs.YtgmoemjiffglbaaGreat
open Go.RowKit Go.Deep
set_option linter.unusedVariables false
theorem notAgg_i {P : Program} {t : TypeId} {k : IntKind} (hu : P.underlying t = some (.int k)) (w : World) : (isAgg t).run P w = .ok false w := by
  unfold isAgg
  rw [Sem.run_bind, run_underlying hu w]
  simp
theorem notAgg_b {P : Program} {t : TypeId} (hu : P.underlying t = some .bool) (w : World) : (isAgg t).run P w = .ok false w := by
  unfold isAgg
  rw [Sem.run_bind, run_underlying hu w]
  simp
theorem part_at {P : Program} {t : TypeId} {xs : Array Value} {i : Nat} {v : Value} {w : World} (ha : (isAgg t).run P w = .ok false w) (hx : xs[i]? = some v) : (part t xs i).run P w = .ok v w := by
  unfold part
  simp [Sem.run_bind, ha, hx]
theorem run_eqF {P : Program} (d : Nat) (xs ys : Array Value) (w : World) : ∀ (fs : List Field), (∀ f ∈ fs, f.name ≠ "_" ∧ ((P.underlying f.type = some .bool ∧ ∃ a b, xs[f.offset]? = some (.bool a) ∧ ys[f.offset]? = some (.bool b)) ∨ ∃ k, P.underlying f.type = some (.int k) ∧ ∃ a b, xs[f.offset]? = some (.int k a) ∧ ys[f.offset]? = some (.int k b))) →
    ∃ b : Bool, (Op.eqFields (d + 1) xs ys fs).run P w = .ok b w ∧ (b = true ↔ ∀ f ∈ fs, xs[f.offset]? = ys[f.offset]?)
  | [], _ => ⟨true, by simp [Op.eqFields], by simp⟩
  | f :: fs, h => by
    obtain ⟨b, hb, hi⟩ := run_eqF d xs ys w fs (fun g hg => h g (List.mem_cons_of_mem _ hg))
    obtain ⟨hn, hk⟩ := h f (by simp)
    rcases hk with ⟨hu, x, y, hx, hy⟩ | ⟨k, hu, x, y, hx, hy⟩
    · refine ⟨(x == y) && b, ?_, ?_⟩
      · simp only [Op.eqFields, if_pos hn, Sem.run_bind, part_at (notAgg_b hu w) hx, part_at (notAgg_b hu w) hy, Result.andThen_ok, run_equalIn_bool' w d f.type x y hu]
        cases hxy : (x == y)
        · simp
        · simpa using hb
      · simp only [Bool.and_eq_true, hi, List.mem_cons, forall_eq_or_imp, hx, hy]
        simp
    · refine ⟨(x == y) && b, ?_, ?_⟩
      · simp only [Op.eqFields, if_pos hn, Sem.run_bind, part_at (notAgg_i hu w) hx, part_at (notAgg_i hu w) hy, Result.andThen_ok, run_equalIn_int w d f.type k k x y hu]
        cases hxy : (x == y)
        · simp
        · simpa using hb
      · simp only [Bool.and_eq_true, hi, List.mem_cons, forall_eq_or_imp, hx, hy]
        simp
noncomputable def Hd.same (h k : Hd) : Bool := @decide (h = k) (Classical.propDecidable _)
theorem Hd.same_iff {h k : Hd} : h.same k = true ↔ h = k := by unfold Hd.same; exact @decide_eq_true_iff _ (Classical.propDecidable _)
theorem Hd.inj {h k : Hd} (e : h.vs = k.vs) : h = k := by
  cases h; cases k
  simp only [Hd.vs, List.cons.injEq, Value.bool.injEq, Value.int.injEq, true_and, and_true] at e
  simp only [Hd.mk.injEq]
  exact e
theorem Hd.kinds (h : Hd) (i : Nat) (hi : i < 36) : (hk i = none ∧ ∃ b, h.ar[i]? = some (.bool b)) ∨ ∃ k, hk i = some k ∧ ∃ a, h.ar[i]? = some (.int k a) := by
  match i, hi with
  | 0, _ => exact .inl ⟨rfl, _, rfl⟩
  | 1, _ => exact .inl ⟨rfl, _, rfl⟩
  | 2, _ => exact .inl ⟨rfl, _, rfl⟩
  | 3, _ => exact .inl ⟨rfl, _, rfl⟩
  | 4, _ => exact .inr ⟨.i64, rfl, _, rfl⟩
  | 5, _ => exact .inr ⟨.i64, rfl, _, rfl⟩
  | 6, _ => exact .inr ⟨.i64, rfl, _, rfl⟩
  | 7, _ => exact .inr ⟨.i64, rfl, _, rfl⟩
  | 8, _ => exact .inr ⟨.i64, rfl, _, rfl⟩
  | 9, _ => exact .inr ⟨.i64, rfl, _, rfl⟩
  | 10, _ => exact .inr ⟨.i64, rfl, _, rfl⟩
  | 11, _ => exact .inr ⟨.i64, rfl, _, rfl⟩
  | 12, _ => exact .inr ⟨.i64, rfl, _, rfl⟩
  | 13, _ => exact .inr ⟨.i64, rfl, _, rfl⟩
  | 14, _ => exact .inr ⟨.i64, rfl, _, rfl⟩
  | 15, _ => exact .inr ⟨.u64, rfl, _, rfl⟩
  | 16, _ => exact .inr ⟨.u64, rfl, _, rfl⟩
  | 17, _ => exact .inr ⟨.i64, rfl, _, rfl⟩
  | 18, _ => exact .inr ⟨.i64, rfl, _, rfl⟩
  | 19, _ => exact .inr ⟨.i64, rfl, _, rfl⟩
  | 20, _ => exact .inr ⟨.i64, rfl, _, rfl⟩
  | 21, _ => exact .inr ⟨.i64, rfl, _, rfl⟩
  | 22, _ => exact .inr ⟨.i64, rfl, _, rfl⟩
  | 23, _ => exact .inr ⟨.i64, rfl, _, rfl⟩
  | 24, _ => exact .inr ⟨.i64, rfl, _, rfl⟩
  | 25, _ => exact .inr ⟨.i64, rfl, _, rfl⟩
  | 26, _ => exact .inr ⟨.i64, rfl, _, rfl⟩
  | 27, _ => exact .inr ⟨.i64, rfl, _, rfl⟩
  | 28, _ => exact .inr ⟨.i64, rfl, _, rfl⟩
  | 29, _ => exact .inr ⟨.i64, rfl, _, rfl⟩
  | 30, _ => exact .inr ⟨.i64, rfl, _, rfl⟩
  | 31, _ => exact .inr ⟨.i64, rfl, _, rfl⟩
  | 32, _ => exact .inr ⟨.i64, rfl, _, rfl⟩
  | 33, _ => exact .inr ⟨.i64, rfl, _, rfl⟩
  | 34, _ => exact .inr ⟨.i64, rfl, _, rfl⟩
  | 35, _ => exact .inr ⟨.i64, rfl, _, rfl⟩
  | n + 36, hi => omega
def namesOk (fs : Array Field) : Bool := fs.toList.all fun f => f.name != "_"
theorem eqlH_run {fs : Array Field} (hs : Tryz.prog.underlying 28 = some (.struct fs)) (hn : namesOk fs = true) (hone : oneCellFields Tryz.prog fs = true) (hall : fieldsAre Tryz.prog fs = true) (hz : fs.size = 36) (hp : Tryz.prog.stoodInHeld 28 = false) (h k : Hd) (w : World) :
    (binOp .eql 28 (.agg h.ar) (.agg k.ar)).run Tryz.prog w = .ok (.bool (h.same k)) w := by
  have hf : Tryz.prog.fieldsOf 28 = fs := by unfold Program.fieldsOf; rw [hs]
  rw [run_eql_struct, run_equalIn_struct w 9999 _ _ _ (by rw [hf]; exact hs) hp, hf]
  obtain ⟨b, hb, hi⟩ := run_eqF (P := Tryz.prog) 9998 h.ar k.ar w fs.toList (by
    intro f hm
    obtain ⟨i, hlt, rfl⟩ := List.mem_iff_getElem.1 hm
    have hlt' : i < fs.size := by simpa using hlt
    have hg : fs[i]? = some fs.toList[i] := by simp [hlt']
    refine ⟨?_, ?_⟩
    · have := List.all_eq_true.1 hn _ hm
      simpa using this
    · rw [(hone_of hone i _ hg).1]
      rcases h.kinds i (by omega) with ⟨e1, x, hx⟩ | ⟨kk, e1, x, hx⟩
      · rcases k.kinds i (by omega) with ⟨e2, y, hy⟩ | ⟨kk, e2, y, hy⟩
        · exact .inl ⟨fieldsAre_bool hall i _ hg e1, x, y, hx, hy⟩
        · rw [e1] at e2; cases e2
      · rcases k.kinds i (by omega) with ⟨e2, y, hy⟩ | ⟨k2, e2, y, hy⟩
        · rw [e1] at e2; cases e2
        · rw [e1] at e2; cases e2
          refine .inr ⟨kk, ?_, x, y, hx, hy⟩
          unfold hk at e1
          split at e1
          · cases e1
          · split at e1
            · cases e1; exact fieldsAre_u hall i _ hg (by unfold hk; rw [if_neg (by assumption), if_pos (by assumption)])
            · cases e1; exact fieldsAre_i hall i _ hg (by unfold hk; rw [if_neg (by assumption), if_neg (by assumption)]))
  have e : b = h.same k := by
    rw [Bool.eq_iff_iff, hi, Hd.same_iff]
    constructor
    · intro ha
      refine Hd.inj (List.ext_getElem? fun i => ?_)
      by_cases hlt : i < 36
      · have hlt' : i < fs.size := by omega
        have := ha fs.toList[i] (List.getElem_mem (by simpa using hlt'))
        rw [(hone_of hone i fs.toList[i] (by simp [hlt'])).1] at this
        simpa [Hd.ar] using this
      · have h1 := h.len
        have h2 := k.len
        rw [List.getElem?_eq_none (by omega), List.getElem?_eq_none (by omega)]
    · intro ha; subst ha; intro f _; rfl
  rw [hb, e]
  rfl
theorem eqlH (h k : Hd) (w : World) : (binOp .eql 28 (.agg h.ar) (.agg k.ar)).run Tryz.prog w = .ok (.bool (h.same k)) w :=
  eqlH_run Tryz.underlying28 (by kernel_rfl) (by kernel_rfl) (by kernel_rfl) rfl (by kernel_rfl) h k w
theorem eqH_exec {ρ : Operand → Value} {o : Oper} (x y : Operand) (ho : o.op = .binOp .eql 28 x y 28) (h k : Hd) (hx : ρ x = .agg h.ar) (hy : ρ y = .agg k.ar) (w : World) : (execOp ρ o).run Tryz.prog w = .ok (.value (.bool (h.same k))) w := by
  unfold execOp
  rw [ho]
  simp only [hx, hy, Sem.run_bind, run_eqGuard_agg (P := Tryz.prog) w .eql 28 x y h.ar k.ar (by kernel_rfl), Result.andThen_ok, eqlH]
  rfl
theorem wpList_eqH {ops : Array Oper} {rest : List Oper} {o : Oper} {a : Act} {w : World} {Q : Exit → Act → World → Prop} (hg : o.guard = none) (x y : Operand) (ho : o.op = .binOp .eql 28 x y 28) (h k : Hd) (hx : a.eval x = .agg h.ar) (hy : a.eval y = .agg k.ar)
    (hr : wpList Tryz.prog ops Q rest (a.put o.dst (.bool (h.same k))) w) : wpList Tryz.prog ops Q (o :: rest) a w :=
  wpList_plain hg fun K hK => by
    unfold Oper.wp
    rw [eqH_exec x y ho h k hx hy w]
    exact hK _ _ hr
theorem q_eqH {o : Oper} {a : Act} {C : World → Prop} {K : Act → Prop} (x y : Operand) (ho : o.op = .binOp .eql 28 x y 28) (h k : Hd) (hx : a.eval x = .agg h.ar) (hy : a.eval y = .agg k.ar) (hk : K (a.put o.dst (.bool (h.same k)))) : o.quiet Tryz.prog a C K :=
  ⟨_, fun w hw => by
    unfold Oper.quietAt
    rw [eqH_exec x y ho h k hx hy w]
    exact ⟨rfl, rfl⟩, hk⟩
end Go.Proofs.YtgmoemjiffglbaaGreat
namespace Go.Proofs.YtgmoemjiffglbaaGreat
open Go.RowKit
set_option maxRecDepth 100000
set_option linter.unusedVariables false
theorem loadHg {ops : Array Oper} {rest : List Oper} {op : Oper} {a : Act} {w : World} {Q : Exit → Act → World → Prop} (hgd : Region.wanted op (yielded ops a.tmps) = true) (x : Operand) (ho : op.op = .load 28 x)
    (b : Nat) (k : Hd) (hx : a.eval x = .pointer (some ⟨b, 0, none⟩)) {t : TypeId} (Z : At w b k.ar t)
    (h : wpList Tryz.prog ops Q rest (a.put op.dst (.agg k.ar)) w) : wpList Tryz.prog ops Q (op :: rest) a w :=
  BigFrame.wpList_want hgd fun K hK => wp_load_mid 28 x ho b 0 hx k.vs _ Z.range Tryz.underlying28 rfl infoH (hK _ _ h)
noncomputable def hOk (p s l c k : Int) (h : Hd) : Bool := ok p s l c k && inB h.life 0 65535 && (if h.up = true then decide (1 ≤ h.life) && h.own p && h.swap p s l c && h.was else h.same h.downed)
set_option maxHeartbeats 8000000 in
theorem sHandOkN (p s l c k : Int) (h : Hd) (ho : ok p s l c k = false) (w : World) : Calls Tryz.prog 27 #[.agg #[.int .i64 p, .int .i64 s, .int .i64 l, .int .i64 c, .int .i64 k], .agg h.ar] w fun e w' => e = .returned (.bool false) ∧ Below w.heap.size w w' := by
  go_enter Tryz.func27, Tryz.ntmps27
  go_upto_region 1 with fail
  refine wp_at (fun W => At W w.heap.size #[.int .i64 p, .int .i64 s, .int .i64 l, .int .i64 c, .int .i64 k] 35 ∧ At W (w.heap.size + 1) h.ar 28 ∧ Below w.heap.size w W) (two_box w _ _ _ _) ?_
  rintro W ⟨P, A, z⟩
  obtain ⟨d0, d1, d2, d3, d4⟩ := P.five
  go_wp2_with (first
    | (go_at_call 58; refine (sPlanOk _ _ _ _ _ _).mono ?_; rintro e w1 ⟨rfl, hb⟩; rw [ho]; clear d0 d1 d2 d3 d4; replace P := P.keep hb; replace A := A.keep hb; replace z := z.trans (hb.mono z.size); clear hb; obtain ⟨d0, d1, d2, d3, d4⟩ := P.five; have c4 : w1.cell? ⟨w.heap.size + 1, 4, none⟩ = some (.int .i64 h.life) := A.cell 4; have c0 : w1.cell? ⟨w.heap.size + 1, 0, none⟩ = some (.bool h.up) := (A.cell 0).trans (by show some (Value.bool h.up) = _; rfl)))
  go_returns
  exact ⟨rfl, z⟩
set_option maxHeartbeats 8000000 in
theorem sHandOkL (p s l c k : Int) (h : Hd) (ho : ok p s l c k = true) (hl : inB h.life 0 65535 = false) (w : World) : Calls Tryz.prog 27 #[.agg #[.int .i64 p, .int .i64 s, .int .i64 l, .int .i64 c, .int .i64 k], .agg h.ar] w fun e w' => e = .returned (.bool false) ∧ Below w.heap.size w w' := by
  go_enter Tryz.func27, Tryz.ntmps27
  go_upto_region 1 with fail
  refine wp_at (fun W => At W w.heap.size #[.int .i64 p, .int .i64 s, .int .i64 l, .int .i64 c, .int .i64 k] 35 ∧ At W (w.heap.size + 1) h.ar 28 ∧ Below w.heap.size w W) (two_box w _ _ _ _) ?_
  rintro W ⟨P, A, z⟩
  obtain ⟨d0, d1, d2, d3, d4⟩ := P.five
  go_wp2_with (first
    | (go_at_call 58; refine (sPlanOk _ _ _ _ _ _).mono ?_; rintro e w1 ⟨rfl, hb⟩; rw [ho]; clear d0 d1 d2 d3 d4; replace P := P.keep hb; replace A := A.keep hb; replace z := z.trans (hb.mono z.size); clear hb; obtain ⟨d0, d1, d2, d3, d4⟩ := P.five; have c4 : w1.cell? ⟨w.heap.size + 1, 4, none⟩ = some (.int .i64 h.life) := A.cell 4; have c0 : w1.cell? ⟨w.heap.size + 1, 0, none⟩ = some (.bool h.up) := (A.cell 0).trans (by show some (Value.bool h.up) = _; rfl))
    | (go_at_call 60; refine (sIn _ _ _ _).mono ?_; rintro e w2 ⟨rfl, rfl⟩; rw [hl]))
  go_returns
  exact ⟨rfl, z⟩
set_option maxHeartbeats 8000000 in
theorem sHandOkD (p s l c k : Int) (h : Hd) (ho : ok p s l c k = true) (hl : inB h.life 0 65535 = true) (hu : h.up = false) (w : World) : Calls Tryz.prog 27 #[.agg #[.int .i64 p, .int .i64 s, .int .i64 l, .int .i64 c, .int .i64 k], .agg h.ar] w fun e w' => e = .returned (.bool (h.same h.downed)) ∧ Below w.heap.size w w' := by
  go_enter Tryz.func27, Tryz.ntmps27
  go_upto_region 1 with fail
  refine wp_at (fun W => At W w.heap.size #[.int .i64 p, .int .i64 s, .int .i64 l, .int .i64 c, .int .i64 k] 35 ∧ At W (w.heap.size + 1) h.ar 28 ∧ Below w.heap.size w W) (two_box w _ _ _ _) ?_
  rintro W ⟨P, A, z⟩
  obtain ⟨d0, d1, d2, d3, d4⟩ := P.five
  go_wp2_with (first
    | (go_at_call 58; refine (sPlanOk _ _ _ _ _ _).mono ?_; rintro e w1 ⟨rfl, hb⟩; rw [ho]; clear d0 d1 d2 d3 d4; replace P := P.keep hb; replace A := A.keep hb; replace z := z.trans (hb.mono z.size); clear hb; obtain ⟨d0, d1, d2, d3, d4⟩ := P.five; have c4 : w1.cell? ⟨w.heap.size + 1, 4, none⟩ = some (.int .i64 h.life) := A.cell 4; have c0 : w1.cell? ⟨w.heap.size + 1, 0, none⟩ = some (.bool false) := (A.cell 0).trans (by show some (Value.bool h.up) = _; rw [hu]))
    | (go_at_call 60; refine (sIn _ _ _ _).mono ?_; rintro e w2 ⟨rfl, rfl⟩; rw [hl])
    | (refine loadHl rfl (.tmp 3) rfl (w.heap.size + 1) h rfl A ?_)
    | (refine wpList_built rfl 28 #[(4, .tmp 19)] rfl [(4, .int .i64 h.life)] rfl _ (bDowned h) ?_)
    | (refine wpList_eqH rfl (.tmp 17) (.tmp 20) rfl h h.downed rfl rfl ?_))
  go_returns
  exact ⟨rfl, z⟩
set_option maxHeartbeats 16000000 in
theorem sHandOkU (p s l c k : Int) (h : Hd) (ho : ok p s l c k = true) (hl : inB h.life 0 65535 = true) (hu : h.up = true) (w : World) : Calls Tryz.prog 27 #[.agg #[.int .i64 p, .int .i64 s, .int .i64 l, .int .i64 c, .int .i64 k], .agg h.ar] w fun e w' => e = .returned (.bool (decide (1 ≤ h.life) && h.own p && h.swap p s l c && h.was)) ∧ Below w.heap.size w w' := by
  obtain ⟨x1, e1⟩ : ∃ x, Hid (h.own p = x) := ⟨_, rfl⟩
  obtain ⟨x2, e2⟩ : ∃ x, Hid (h.swap p s l c = x) := ⟨_, rfl⟩
  obtain ⟨x3, e3⟩ : ∃ x, Hid (h.was = x) := ⟨_, rfl⟩
  rw [e1.out, e2.out, e3.out]
  go_enter Tryz.func27, Tryz.ntmps27
  go_upto_region 1 with fail
  refine wp_at (fun W => At W w.heap.size #[.int .i64 p, .int .i64 s, .int .i64 l, .int .i64 c, .int .i64 k] 35 ∧ At W (w.heap.size + 1) h.ar 28 ∧ Below w.heap.size w W) (two_box w _ _ _ _) ?_
  rintro W ⟨P, A, z⟩
  obtain ⟨d0, d1, d2, d3, d4⟩ := P.five
  go_upto_region 5 with (first
    | (go_at_call 58; refine (sPlanOk _ _ _ _ _ _).mono ?_; rintro e w1 ⟨rfl, hb⟩; rw [ho]; clear d0 d1 d2 d3 d4; replace P := P.keep hb; replace A := A.keep hb; replace z := z.trans (hb.mono z.size); clear hb; obtain ⟨d0, d1, d2, d3, d4⟩ := P.five; have c4 : w1.cell? ⟨w.heap.size + 1, 4, none⟩ = some (.int .i64 h.life) := A.cell 4; have c0 : w1.cell? ⟨w.heap.size + 1, 0, none⟩ = some (.bool true) := (A.cell 0).trans (by show some (Value.bool h.up) = _; rw [hu]))
    | (go_at_call 60; refine (sIn _ _ _ _).mono ?_; rintro e w2 ⟨rfl, rfl⟩; rw [hl]))
  by_cases hf : 1 ≤ h.life
  · have hf' : decide (1 ≤ h.life) = true := decide_eq_true hf
    cases x1 with
    | true =>
      cases x2 with
      | true =>
        go_wp2_with (first
          | (refine loadHg rfl (.tmp 3) rfl (w.heap.size + 1) h rfl A ?_)
          | (go_at_call 61; refine (sOwn _ _ _ _ _ _ ho _).mono ?_; rintro e w3 ⟨rfl, hb⟩; rw [e1.out]; clear d0 d1 d2 d3 d4; replace P := P.keep hb; replace A := A.keep hb; replace z := z.trans (hb.mono z.size); clear hb; obtain ⟨d0, d1, d2, d3, d4⟩ := P.five)
          | (go_at_call 62; refine (sSwp _ _ _ _ _ _ ho _).mono ?_; rintro e w3 ⟨rfl, hb⟩; rw [e2.out]; clear d0 d1 d2 d3 d4; replace P := P.keep hb; replace A := A.keep hb; replace z := z.trans (hb.mono z.size); clear hb; obtain ⟨d0, d1, d2, d3, d4⟩ := P.five)
          | (go_at_call 63; refine (sWas _ _).mono ?_; rintro e w3 ⟨rfl, hb⟩; rw [e3.out]; clear d0 d1 d2 d3 d4; replace P := P.keep hb; replace A := A.keep hb; replace z := z.trans (hb.mono z.size); clear hb; obtain ⟨d0, d1, d2, d3, d4⟩ := P.five))
        go_returns
        exact ⟨by rw [hf']; rfl, z⟩
      | false =>
        go_wp2_with (first
          | (refine loadHg rfl (.tmp 3) rfl (w.heap.size + 1) h rfl A ?_)
          | (go_at_call 61; refine (sOwn _ _ _ _ _ _ ho _).mono ?_; rintro e w3 ⟨rfl, hb⟩; rw [e1.out]; clear d0 d1 d2 d3 d4; replace P := P.keep hb; replace A := A.keep hb; replace z := z.trans (hb.mono z.size); clear hb; obtain ⟨d0, d1, d2, d3, d4⟩ := P.five)
          | (go_at_call 62; refine (sSwp _ _ _ _ _ _ ho _).mono ?_; rintro e w3 ⟨rfl, hb⟩; rw [e2.out]; clear d0 d1 d2 d3 d4; replace P := P.keep hb; replace A := A.keep hb; replace z := z.trans (hb.mono z.size); clear hb; obtain ⟨d0, d1, d2, d3, d4⟩ := P.five)
          | (go_at_call 63; refine (sWas _ _).mono ?_; rintro e w3 ⟨rfl, hb⟩; rw [e3.out]; clear d0 d1 d2 d3 d4; replace P := P.keep hb; replace A := A.keep hb; replace z := z.trans (hb.mono z.size); clear hb; obtain ⟨d0, d1, d2, d3, d4⟩ := P.five))
        go_returns
        exact ⟨by rw [hf']; rfl, z⟩
    | false =>
        go_wp2_with (first
          | (refine loadHg rfl (.tmp 3) rfl (w.heap.size + 1) h rfl A ?_)
          | (go_at_call 61; refine (sOwn _ _ _ _ _ _ ho _).mono ?_; rintro e w3 ⟨rfl, hb⟩; rw [e1.out]; clear d0 d1 d2 d3 d4; replace P := P.keep hb; replace A := A.keep hb; replace z := z.trans (hb.mono z.size); clear hb; obtain ⟨d0, d1, d2, d3, d4⟩ := P.five)
          | (go_at_call 62; refine (sSwp _ _ _ _ _ _ ho _).mono ?_; rintro e w3 ⟨rfl, hb⟩; rw [e2.out]; clear d0 d1 d2 d3 d4; replace P := P.keep hb; replace A := A.keep hb; replace z := z.trans (hb.mono z.size); clear hb; obtain ⟨d0, d1, d2, d3, d4⟩ := P.five)
          | (go_at_call 63; refine (sWas _ _).mono ?_; rintro e w3 ⟨rfl, hb⟩; rw [e3.out]; clear d0 d1 d2 d3 d4; replace P := P.keep hb; replace A := A.keep hb; replace z := z.trans (hb.mono z.size); clear hb; obtain ⟨d0, d1, d2, d3, d4⟩ := P.five))
        go_returns
        exact ⟨by rw [hf']; rfl, z⟩
  · have hf' : decide (1 ≤ h.life) = false := decide_eq_false hf
    go_wp2
    go_returns
    first | exact ⟨rfl, z⟩ | exact ⟨by rw [hf']; rfl, z⟩ | exact ⟨by simp [hf'], z⟩ | exact ⟨by simp, z⟩
theorem sHandOk (p s l c k : Int) (h : Hd) (w : World) : Calls Tryz.prog 27 #[.agg #[.int .i64 p, .int .i64 s, .int .i64 l, .int .i64 c, .int .i64 k], .agg h.ar] w fun e w' => e = .returned (.bool (hOk p s l c k h)) ∧ Below w.heap.size w w' := by
  unfold hOk
  cases ho : ok p s l c k with
  | false => exact sHandOkN p s l c k h ho w
  | true =>
    cases hl : inB h.life 0 65535 with
    | false => exact sHandOkL p s l c k h ho hl w
    | true =>
      cases hu : h.up with
      | false => exact sHandOkD p s l c k h ho hl hu w
      | true => exact sHandOkU p s l c k h ho hl hu w
end Go.Proofs.YtgmoemjiffglbaaGreat
namespace Go.Proofs.YtgmoemjiffglbaaGreat
open Go.RowKit
set_option maxRecDepth 100000
set_option linter.unusedVariables false
def Hd.cp (h : Hd) : List Value := [.int .i64 h.code, .int .i64 h.a, .int .i64 h.b, .int .i64 h.c, .int .i64 h.number, .int .i64 h.for_, .int .i64 h.mine, .int .i64 h.reply, .int .i64 h.out, .int .i64 h.mark, .int .i64 h.begin_]
def Hd.sp (h : Hd) : List Value := [.int .i64 h.addr, .int .u64 h.seen, .int .u64 h.put, .int .i64 h.good, .int .i64 h.bad, .int .i64 h.does, .int .i64 h.block, .int .i64 h.from_, .int .i64 h.next, .int .i64 h.value]
def Hd.mp (h : Hd) : List Value := [.bool h.sure, .bool h.known, .int .i64 h.index, .int .i64 h.which, .int .i64 h.wasCode, .int .i64 h.wasItem, .int .i64 h.wasNumber, .int .i64 h.wasKind, .int .i64 h.wasTag]
def Hd.ps (h : Hd) : List Value := [.bool h.up, .bool h.inn, .int .i64 h.life, .int .i64 h.at_, .int .i64 h.last, .int .i64 h.kept, .int .i64 h.code, .int .i64 h.a, .int .i64 h.b, .int .i64 h.c, .int .i64 h.number, .int .i64 h.for_, .int .i64 h.mine, .int .i64 h.reply, .int .i64 h.out, .int .i64 h.mark, .int .i64 h.begin_, .int .i64 h.addr, .int .u64 h.seen, .int .u64 h.put, .int .i64 h.good, .int .i64 h.bad, .int .i64 h.does, .int .i64 h.block, .int .i64 h.from_, .int .i64 h.next, .int .i64 h.value, .bool h.sure, .bool h.known, .int .i64 h.index, .int .i64 h.which, .int .i64 h.wasCode, .int .i64 h.wasItem, .int .i64 h.wasNumber, .int .i64 h.wasKind, .int .i64 h.wasTag]
theorem Hd.ps_one (h : Hd) : ∀ v ∈ h.ps, v.oneCell' = true := by simp [Hd.ps, Value.oneCell']
theorem storeR {ops : Array Oper} {rest : List Oper} {op : Oper} {a : Act} {w : World} {Q : Exit → Act → World → Prop} {ty : TypeId} {vs : List Value} (hi : (Tryz.prog.info? ty).map (·.size) = some vs.length) (h1 : ∀ v ∈ vs, v.oneCell' = true) (hgd : op.guard = none) (x y : Operand) (ho : op.op = .store ty x y)
    (b : Nat) (hx : a.eval x = .pointer (some ⟨b, 0, none⟩)) (hy : a.eval y = .agg vs.toArray) {cs : Array Value} {t : TypeId} (Z : At w b cs t) (hs : cs.size = vs.length)
    (h : ∀ w', At w' b vs.toArray t → Kept b w w' → wpList Tryz.prog ops Q rest (a.put op.dst undef) w') : wpList Tryz.prog ops Q (op :: rest) a w :=
  wpList_store_mid hgd ty x y ho b 0 vs.toArray hx hy (by simp only [List.size_toArray]; exact Z.there 0 _ (by omega)) (by simpa using hi) (all_oneCell_toArray h1) (h _ (Z.fillAll hs.symm) (kept_setCells b _ 0 w))
theorem loadR {ops : Array Oper} {rest : List Oper} {op : Oper} {a : Act} {w : World} {Q : Exit → Act → World → Prop} {ty : TypeId} {d : TypeDesc} (vs : List Value) (hu : Tryz.prog.underlying ty = some d) (hd : d.isRow = true) (hi : (Tryz.prog.info? ty).map (·.size) = some vs.length) (hgd : Region.wanted op (yielded ops a.tmps) = true) (x : Operand) (ho : op.op = .load ty x)
    (b o : Nat) (hx : a.eval x = .pointer (some ⟨b, o, none⟩)) {cs : Array Value} {t : TypeId} (Z : At w b cs t) (hr : ∀ j v, vs[j]? = some v → cs[o + j]? = some v)
    (h : wpList Tryz.prog ops Q rest (a.put op.dst (.agg vs.toArray)) w) : wpList Tryz.prog ops Q (op :: rest) a w :=
  BigFrame.wpList_want hgd fun K hK => wp_load_mid ty x ho b o hx vs d (fun j v hj => by rw [Z.cell]; exact hr j v hj) hu hd hi (hK _ _ h)
theorem iUpToN (m : Int) (xs : List Int) (n : Nat) (hl : xs.length = n) (hn : n ≤ 1000) (W : World) (t : TypeId) :
    Calls Tryz.prog 75 #[.int .i64 m, .slice (some ⟨W.heap.size, 0, none⟩) n n] (W.alloc (.cells (xs.map (Value.int .i64)).toArray t)) fun e w' => e = .returned (.bool (allUp m xs)) ∧ Below W.heap.size W w' :=
  (iUpTo m W.heap.size n xs hl hn _ (slices W xs t n hl)).mono fun e w' h => ⟨h.1, by rw [h.2]; exact (Below.refl _ _).alloc (Nat.le_refl _) _⟩
theorem iUpTo1 (m x0 : Int) (W : World) (t : TypeId) :
    Calls Tryz.prog 75 #[.int .i64 m, .slice (some ⟨W.heap.size, 0, none⟩) 1 1] (W.alloc (.cells #[.int .i64 x0] t)) fun e w' => e = .returned (.bool (allUp m [x0])) ∧ Below W.heap.size W w' :=
  iUpToN m [x0] 1 rfl (by omega) W t
theorem iUpTo2 (m x0 x1 : Int) (W : World) (t : TypeId) :
    Calls Tryz.prog 75 #[.int .i64 m, .slice (some ⟨W.heap.size, 0, none⟩) 2 2] (W.alloc (.cells #[.int .i64 x0, .int .i64 x1] t)) fun e w' => e = .returned (.bool (allUp m [x0, x1])) ∧ Below W.heap.size W w' :=
  iUpToN m [x0, x1] 2 rfl (by omega) W t
theorem iUpTo3 (m x0 x1 x2 : Int) (W : World) (t : TypeId) :
    Calls Tryz.prog 75 #[.int .i64 m, .slice (some ⟨W.heap.size, 0, none⟩) 3 3] (W.alloc (.cells #[.int .i64 x0, .int .i64 x1, .int .i64 x2] t)) fun e w' => e = .returned (.bool (allUp m [x0, x1, x2])) ∧ Below W.heap.size W w' :=
  iUpToN m [x0, x1, x2] 3 rfl (by omega) W t
theorem iUpTo4 (m x0 x1 x2 x3 : Int) (W : World) (t : TypeId) :
    Calls Tryz.prog 75 #[.int .i64 m, .slice (some ⟨W.heap.size, 0, none⟩) 4 4] (W.alloc (.cells #[.int .i64 x0, .int .i64 x1, .int .i64 x2, .int .i64 x3] t)) fun e w' => e = .returned (.bool (allUp m [x0, x1, x2, x3])) ∧ Below W.heap.size W w' :=
  iUpToN m [x0, x1, x2, x3] 4 rfl (by omega) W t
theorem bCall (h : Hd) : Tryz.prog.built 105 [(0, .int .i64 h.code), (1, .int .i64 h.a), (2, .int .i64 h.b), (3, .int .i64 h.c), (4, .int .i64 h.number), (5, .int .i64 h.for_), (6, .int .i64 h.mine), (7, .int .i64 h.reply), (8, .int .i64 h.out), (9, .int .i64 h.mark), (10, .int .i64 h.begin_)] = some h.cp.toArray := by kernel_rfl
theorem bSwap (h : Hd) : Tryz.prog.built 107 [(0, .int .i64 h.addr), (1, .int .u64 h.seen), (2, .int .u64 h.put), (3, .int .i64 h.good), (4, .int .i64 h.bad), (5, .int .i64 h.does), (6, .int .i64 h.block), (7, .int .i64 h.from_), (8, .int .i64 h.next), (9, .int .i64 h.value)] = some h.sp.toArray := by kernel_rfl
theorem bMend (h : Hd) : Tryz.prog.built 109 [(0, .bool h.sure), (1, .bool h.known), (2, .int .i64 h.index), (3, .int .i64 h.which), (4, .int .i64 h.wasCode), (5, .int .i64 h.wasItem), (6, .int .i64 h.wasNumber), (7, .int .i64 h.wasKind), (8, .int .i64 h.wasTag)] = some h.mp.toArray := by kernel_rfl
theorem bParts (h : Hd) : Tryz.prog.built 111 [(0, .bool h.up), (1, .bool h.inn), (2, .int .i64 h.life), (3, .int .i64 h.at_), (4, .int .i64 h.last), (5, .int .i64 h.kept), (6, .agg h.cp.toArray), (7, .agg h.sp.toArray), (8, .agg h.mp.toArray)] = some h.ps.toArray := by kernel_rfl
set_option maxHeartbeats 16000000 in
theorem iParts (h : Hd) (w : World) : Calls Tryz.prog 77 #[.agg h.ar] w fun e w' => e = .returned (.agg h.ps.toArray) ∧ Below w.heap.size w w' := by
  obtain ⟨A, Z, B⟩ := two_box w h.ar #[.bool false, .bool false, .int .i64 0, .int .i64 0, .int .i64 0, .int .i64 0, .int .i64 0, .int .i64 0, .int .i64 0, .int .i64 0, .int .i64 0, .int .i64 0, .int .i64 0, .int .i64 0, .int .i64 0, .int .i64 0, .int .i64 0, .int .i64 0, .int .u64 0, .int .u64 0, .int .i64 0, .int .i64 0, .int .i64 0, .int .i64 0, .int .i64 0, .int .i64 0, .int .i64 0, .bool false, .bool false, .int .i64 0, .int .i64 0, .int .i64 0, .int .i64 0, .int .i64 0, .int .i64 0, .int .i64 0] 28 111
  have a0 : h.ar[0]? = some (.bool h.up) := rfl
  have a1 : h.ar[1]? = some (.bool h.inn) := rfl
  have a2 : h.ar[2]? = some (.bool h.sure) := rfl
  have a3 : h.ar[3]? = some (.bool h.known) := rfl
  have a4 : h.ar[4]? = some (.int .i64 h.life) := rfl
  have a5 : h.ar[5]? = some (.int .i64 h.at_) := rfl
  have a6 : h.ar[6]? = some (.int .i64 h.code) := rfl
  have a7 : h.ar[7]? = some (.int .i64 h.a) := rfl
  have a8 : h.ar[8]? = some (.int .i64 h.b) := rfl
  have a9 : h.ar[9]? = some (.int .i64 h.c) := rfl
  have a10 : h.ar[10]? = some (.int .i64 h.number) := rfl
  have a11 : h.ar[11]? = some (.int .i64 h.for_) := rfl
  have a12 : h.ar[12]? = some (.int .i64 h.last) := rfl
  have a13 : h.ar[13]? = some (.int .i64 h.mine) := rfl
  have a14 : h.ar[14]? = some (.int .i64 h.addr) := rfl
  have a15 : h.ar[15]? = some (.int .u64 h.seen) := rfl
  have a16 : h.ar[16]? = some (.int .u64 h.put) := rfl
  have a17 : h.ar[17]? = some (.int .i64 h.good) := rfl
  have a18 : h.ar[18]? = some (.int .i64 h.bad) := rfl
  have a19 : h.ar[19]? = some (.int .i64 h.does) := rfl
  have a20 : h.ar[20]? = some (.int .i64 h.block) := rfl
  have a21 : h.ar[21]? = some (.int .i64 h.from_) := rfl
  have a22 : h.ar[22]? = some (.int .i64 h.next) := rfl
  have a23 : h.ar[23]? = some (.int .i64 h.value) := rfl
  have a24 : h.ar[24]? = some (.int .i64 h.index) := rfl
  have a25 : h.ar[25]? = some (.int .i64 h.which) := rfl
  have a26 : h.ar[26]? = some (.int .i64 h.kept) := rfl
  have a27 : h.ar[27]? = some (.int .i64 h.wasCode) := rfl
  have a28 : h.ar[28]? = some (.int .i64 h.wasItem) := rfl
  have a29 : h.ar[29]? = some (.int .i64 h.wasNumber) := rfl
  have a30 : h.ar[30]? = some (.int .i64 h.wasKind) := rfl
  have a31 : h.ar[31]? = some (.int .i64 h.wasTag) := rfl
  have a32 : h.ar[32]? = some (.int .i64 h.reply) := rfl
  have a33 : h.ar[33]? = some (.int .i64 h.out) := rfl
  have a34 : h.ar[34]? = some (.int .i64 h.mark) := rfl
  have a35 : h.ar[35]? = some (.int .i64 h.begin_) := rfl
  go_enter Tryz.func77, Tryz.ntmps77
  go_wp2_with (first
    | (refine wpList_built rfl 105 #[(0, .tmp 16), (1, .tmp 18), (2, .tmp 20), (3, .tmp 22), (4, .tmp 24), (5, .tmp 26), (6, .tmp 28), (7, .tmp 30), (8, .tmp 32), (9, .tmp 34), (10, .tmp 36)] rfl [(0, .int .i64 h.code), (1, .int .i64 h.a), (2, .int .i64 h.b), (3, .int .i64 h.c), (4, .int .i64 h.number), (5, .int .i64 h.for_), (6, .int .i64 h.mine), (7, .int .i64 h.reply), (8, .int .i64 h.out), (9, .int .i64 h.mark), (10, .int .i64 h.begin_)] rfl _ (bCall h) ?_)
    | (refine wpList_built rfl 107 #[(0, .tmp 39), (1, .tmp 41), (2, .tmp 43), (3, .tmp 45), (4, .tmp 47), (5, .tmp 49), (6, .tmp 51), (7, .tmp 53), (8, .tmp 55), (9, .tmp 57)] rfl [(0, .int .i64 h.addr), (1, .int .u64 h.seen), (2, .int .u64 h.put), (3, .int .i64 h.good), (4, .int .i64 h.bad), (5, .int .i64 h.does), (6, .int .i64 h.block), (7, .int .i64 h.from_), (8, .int .i64 h.next), (9, .int .i64 h.value)] rfl _ (bSwap h) ?_)
    | (refine wpList_built rfl 109 #[(0, .tmp 60), (1, .tmp 62), (2, .tmp 64), (3, .tmp 66), (4, .tmp 68), (5, .tmp 70), (6, .tmp 72), (7, .tmp 74), (8, .tmp 76)] rfl [(0, .bool h.sure), (1, .bool h.known), (2, .int .i64 h.index), (3, .int .i64 h.which), (4, .int .i64 h.wasCode), (5, .int .i64 h.wasItem), (6, .int .i64 h.wasNumber), (7, .int .i64 h.wasKind), (8, .int .i64 h.wasTag)] rfl _ (bMend h) ?_)
    | (refine wpList_built rfl 111 #[(0, .tmp 4), (1, .tmp 6), (2, .tmp 8), (3, .tmp 10), (4, .tmp 12), (5, .tmp 14), (6, .tmp 37), (7, .tmp 58), (8, .tmp 77)] rfl [(0, .bool h.up), (1, .bool h.inn), (2, .int .i64 h.life), (3, .int .i64 h.at_), (4, .int .i64 h.last), (5, .int .i64 h.kept), (6, .agg h.cp.toArray), (7, .agg h.sp.toArray), (8, .agg h.mp.toArray)] rfl _ (bParts h) ?_)
    | (refine storeR (vs := h.ps) (by kernel_rfl) h.ps_one rfl (.tmp 2) (.tmp 78) rfl (w.heap.size + 1) rfl rfl Z rfl ?_; intro W2 Z2 kk; replace B := B.trans (kk.below (Nat.le_succ _) B.size)))
  have e2 : (loadVar 111 ⟨w.heap.size + 1, 0, none⟩).run Tryz.prog W2 = .ok (.agg h.ps.toArray) W2 := run_loadVar_mid W2 _ 0 111 h.ps _ Z2.range Tryz.underlying111 rfl (by kernel_rfl)
  refine bodyPost_ret (v := .agg h.ps.toArray) ?_ rfl ⟨rfl, B⟩
  simp only [results, Tryz.results77, List.mapM_toArray, List.mapM_cons, List.mapM_nil, Sem.run_bind, Sem.run_map, Sem.run_pure]
  rw [show (asAddr _).run Tryz.prog W2 = .ok ⟨w.heap.size + 1, 0, none⟩ W2 from rfl]
  simp only [Result.andThen_ok, e2]
  rfl
end Go.Proofs.YtgmoemjiffglbaaGreat
namespace Go.Proofs.YtgmoemjiffglbaaGreat
open Go.RowKit
set_option maxRecDepth 100000
set_option linter.unusedVariables false
def Hd.aliveB (h : Hd) : Bool := inB h.life 1 65535 && allUp 70 [h.at_] && allUp 4294967295 [h.last] && allUp 65535 [h.kept]
def Hd.callB (h : Hd) : Bool := allUp 14 [h.code] && allUp 65535 [h.a, h.c, h.out] && allUp 4294967295 [h.b, h.number, h.mine] && allUp 255 [h.reply] && allUp 20000 [h.mark, h.begin_]
def Hd.swapB (h : Hd) : Bool := allUp 70 [h.good, h.bad] && allUp 7 [h.does] && allUp 65535 [h.block, h.from_, h.next, h.value]
def Hd.mendB (h : Hd) : Bool := allUp 255 [h.wasCode, h.wasKind] && allUp 65535 [h.wasItem] && allUp 4294967295 [h.wasNumber, h.wasTag]
set_option maxHeartbeats 16000000 in
theorem iAlive (h : Hd) (w : World) : Calls Tryz.prog 78 #[.agg h.ps.toArray] w fun e w' => e = .returned (.bool h.aliveB) ∧ Below w.heap.size w w' := by
  go_enter Tryz.func78, Tryz.ntmps78
  go_upto_region 1 with fail
  refine wp_at (fun W => At W w.heap.size h.ps.toArray 111 ∧ Below w.heap.size w W) ⟨At.new w _ _, (Below.refl _ _).alloc (Nat.le_refl _) _⟩ ?_
  rintro W ⟨A, z⟩
  have c2 : World.cell? W ⟨w.heap.size, 2, none⟩ = some (.int .i64 h.life) := A.cell 2
  have c3 : World.cell? W ⟨w.heap.size, 3, none⟩ = some (.int .i64 h.at_) := A.cell 3
  have c4 : World.cell? W ⟨w.heap.size, 4, none⟩ = some (.int .i64 h.last) := A.cell 4
  have c5 : World.cell? W ⟨w.heap.size, 5, none⟩ = some (.int .i64 h.kept) := A.cell 5
  go_wp2_with (first
    | (go_at_call 73; refine (iWithin _ _ _ _).mono ?_; rintro e w1 ⟨rfl, rfl⟩)
    | (go_at_call 75; (with_reducible refine (iUpTo1 _ _ _ _).mono ?_); rintro e w1 ⟨rfl, hb⟩; clear c2 c3 c4 c5; replace A := A.keep hb; replace z := z.trans (hb.mono z.size); clear hb; have c2 : World.cell? w1 ⟨w.heap.size, 2, none⟩ = some (.int .i64 h.life) := A.cell 2; have c3 : World.cell? w1 ⟨w.heap.size, 3, none⟩ = some (.int .i64 h.at_) := A.cell 3; have c4 : World.cell? w1 ⟨w.heap.size, 4, none⟩ = some (.int .i64 h.last) := A.cell 4; have c5 : World.cell? w1 ⟨w.heap.size, 5, none⟩ = some (.int .i64 h.kept) := A.cell 5))
  all_goals go_returns
  all_goals refine ⟨ret_b ?_, z⟩
  all_goals simp_all [Hd.aliveB]
set_option maxHeartbeats 16000000 in
theorem iCall (h : Hd) (w : World) : Calls Tryz.prog 79 #[.agg h.cp.toArray] w fun e w' => e = .returned (.bool h.callB) ∧ Below w.heap.size w w' := by
  go_enter Tryz.func79, Tryz.ntmps79
  go_upto_region 1 with fail
  refine wp_at (fun W => At W w.heap.size h.cp.toArray 105 ∧ Below w.heap.size w W) ⟨At.new w _ _, (Below.refl _ _).alloc (Nat.le_refl _) _⟩ ?_
  rintro W ⟨A, z⟩
  have c0 : World.cell? W ⟨w.heap.size, 0, none⟩ = some (.int .i64 h.code) := A.cell 0
  have c1 : World.cell? W ⟨w.heap.size, 1, none⟩ = some (.int .i64 h.a) := A.cell 1
  have c3 : World.cell? W ⟨w.heap.size, 3, none⟩ = some (.int .i64 h.c) := A.cell 3
  have c8 : World.cell? W ⟨w.heap.size, 8, none⟩ = some (.int .i64 h.out) := A.cell 8
  have c2 : World.cell? W ⟨w.heap.size, 2, none⟩ = some (.int .i64 h.b) := A.cell 2
  have c4 : World.cell? W ⟨w.heap.size, 4, none⟩ = some (.int .i64 h.number) := A.cell 4
  have c6 : World.cell? W ⟨w.heap.size, 6, none⟩ = some (.int .i64 h.mine) := A.cell 6
  have c7 : World.cell? W ⟨w.heap.size, 7, none⟩ = some (.int .i64 h.reply) := A.cell 7
  have c9 : World.cell? W ⟨w.heap.size, 9, none⟩ = some (.int .i64 h.mark) := A.cell 9
  have c10 : World.cell? W ⟨w.heap.size, 10, none⟩ = some (.int .i64 h.begin_) := A.cell 10
  go_wp2_with (first
    | (go_at_call 75; (with_reducible refine (iUpTo1 _ _ _ _).mono ?_); rintro e w1 ⟨rfl, hb⟩; clear c0 c1 c3 c8 c2 c4 c6 c7 c9 c10; replace A := A.keep hb; replace z := z.trans (hb.mono z.size); clear hb; have c0 : World.cell? w1 ⟨w.heap.size, 0, none⟩ = some (.int .i64 h.code) := A.cell 0; have c1 : World.cell? w1 ⟨w.heap.size, 1, none⟩ = some (.int .i64 h.a) := A.cell 1; have c3 : World.cell? w1 ⟨w.heap.size, 3, none⟩ = some (.int .i64 h.c) := A.cell 3; have c8 : World.cell? w1 ⟨w.heap.size, 8, none⟩ = some (.int .i64 h.out) := A.cell 8; have c2 : World.cell? w1 ⟨w.heap.size, 2, none⟩ = some (.int .i64 h.b) := A.cell 2; have c4 : World.cell? w1 ⟨w.heap.size, 4, none⟩ = some (.int .i64 h.number) := A.cell 4; have c6 : World.cell? w1 ⟨w.heap.size, 6, none⟩ = some (.int .i64 h.mine) := A.cell 6; have c7 : World.cell? w1 ⟨w.heap.size, 7, none⟩ = some (.int .i64 h.reply) := A.cell 7; have c9 : World.cell? w1 ⟨w.heap.size, 9, none⟩ = some (.int .i64 h.mark) := A.cell 9; have c10 : World.cell? w1 ⟨w.heap.size, 10, none⟩ = some (.int .i64 h.begin_) := A.cell 10)
    | (go_at_call 75; (with_reducible refine (iUpTo2 _ _ _ _ _).mono ?_); rintro e w1 ⟨rfl, hb⟩; clear c0 c1 c3 c8 c2 c4 c6 c7 c9 c10; replace A := A.keep hb; replace z := z.trans (hb.mono z.size); clear hb; have c0 : World.cell? w1 ⟨w.heap.size, 0, none⟩ = some (.int .i64 h.code) := A.cell 0; have c1 : World.cell? w1 ⟨w.heap.size, 1, none⟩ = some (.int .i64 h.a) := A.cell 1; have c3 : World.cell? w1 ⟨w.heap.size, 3, none⟩ = some (.int .i64 h.c) := A.cell 3; have c8 : World.cell? w1 ⟨w.heap.size, 8, none⟩ = some (.int .i64 h.out) := A.cell 8; have c2 : World.cell? w1 ⟨w.heap.size, 2, none⟩ = some (.int .i64 h.b) := A.cell 2; have c4 : World.cell? w1 ⟨w.heap.size, 4, none⟩ = some (.int .i64 h.number) := A.cell 4; have c6 : World.cell? w1 ⟨w.heap.size, 6, none⟩ = some (.int .i64 h.mine) := A.cell 6; have c7 : World.cell? w1 ⟨w.heap.size, 7, none⟩ = some (.int .i64 h.reply) := A.cell 7; have c9 : World.cell? w1 ⟨w.heap.size, 9, none⟩ = some (.int .i64 h.mark) := A.cell 9; have c10 : World.cell? w1 ⟨w.heap.size, 10, none⟩ = some (.int .i64 h.begin_) := A.cell 10)
    | (go_at_call 75; (with_reducible refine (iUpTo3 _ _ _ _ _ _).mono ?_); rintro e w1 ⟨rfl, hb⟩; clear c0 c1 c3 c8 c2 c4 c6 c7 c9 c10; replace A := A.keep hb; replace z := z.trans (hb.mono z.size); clear hb; have c0 : World.cell? w1 ⟨w.heap.size, 0, none⟩ = some (.int .i64 h.code) := A.cell 0; have c1 : World.cell? w1 ⟨w.heap.size, 1, none⟩ = some (.int .i64 h.a) := A.cell 1; have c3 : World.cell? w1 ⟨w.heap.size, 3, none⟩ = some (.int .i64 h.c) := A.cell 3; have c8 : World.cell? w1 ⟨w.heap.size, 8, none⟩ = some (.int .i64 h.out) := A.cell 8; have c2 : World.cell? w1 ⟨w.heap.size, 2, none⟩ = some (.int .i64 h.b) := A.cell 2; have c4 : World.cell? w1 ⟨w.heap.size, 4, none⟩ = some (.int .i64 h.number) := A.cell 4; have c6 : World.cell? w1 ⟨w.heap.size, 6, none⟩ = some (.int .i64 h.mine) := A.cell 6; have c7 : World.cell? w1 ⟨w.heap.size, 7, none⟩ = some (.int .i64 h.reply) := A.cell 7; have c9 : World.cell? w1 ⟨w.heap.size, 9, none⟩ = some (.int .i64 h.mark) := A.cell 9; have c10 : World.cell? w1 ⟨w.heap.size, 10, none⟩ = some (.int .i64 h.begin_) := A.cell 10))
  all_goals go_returns
  all_goals refine ⟨ret_b ?_, z⟩
  all_goals simp_all [Hd.callB]
set_option maxHeartbeats 16000000 in
theorem iSwp (h : Hd) (w : World) : Calls Tryz.prog 80 #[.agg h.sp.toArray] w fun e w' => e = .returned (.bool h.swapB) ∧ Below w.heap.size w w' := by
  go_enter Tryz.func80, Tryz.ntmps80
  go_upto_region 1 with fail
  refine wp_at (fun W => At W w.heap.size h.sp.toArray 107 ∧ Below w.heap.size w W) ⟨At.new w _ _, (Below.refl _ _).alloc (Nat.le_refl _) _⟩ ?_
  rintro W ⟨A, z⟩
  have c3 : World.cell? W ⟨w.heap.size, 3, none⟩ = some (.int .i64 h.good) := A.cell 3
  have c4 : World.cell? W ⟨w.heap.size, 4, none⟩ = some (.int .i64 h.bad) := A.cell 4
  have c5 : World.cell? W ⟨w.heap.size, 5, none⟩ = some (.int .i64 h.does) := A.cell 5
  have c6 : World.cell? W ⟨w.heap.size, 6, none⟩ = some (.int .i64 h.block) := A.cell 6
  have c7 : World.cell? W ⟨w.heap.size, 7, none⟩ = some (.int .i64 h.from_) := A.cell 7
  have c8 : World.cell? W ⟨w.heap.size, 8, none⟩ = some (.int .i64 h.next) := A.cell 8
  have c9 : World.cell? W ⟨w.heap.size, 9, none⟩ = some (.int .i64 h.value) := A.cell 9
  go_wp2_with (first
    | (go_at_call 75; (with_reducible refine (iUpTo1 _ _ _ _).mono ?_); rintro e w1 ⟨rfl, hb⟩; clear c3 c4 c5 c6 c7 c8 c9; replace A := A.keep hb; replace z := z.trans (hb.mono z.size); clear hb; have c3 : World.cell? w1 ⟨w.heap.size, 3, none⟩ = some (.int .i64 h.good) := A.cell 3; have c4 : World.cell? w1 ⟨w.heap.size, 4, none⟩ = some (.int .i64 h.bad) := A.cell 4; have c5 : World.cell? w1 ⟨w.heap.size, 5, none⟩ = some (.int .i64 h.does) := A.cell 5; have c6 : World.cell? w1 ⟨w.heap.size, 6, none⟩ = some (.int .i64 h.block) := A.cell 6; have c7 : World.cell? w1 ⟨w.heap.size, 7, none⟩ = some (.int .i64 h.from_) := A.cell 7; have c8 : World.cell? w1 ⟨w.heap.size, 8, none⟩ = some (.int .i64 h.next) := A.cell 8; have c9 : World.cell? w1 ⟨w.heap.size, 9, none⟩ = some (.int .i64 h.value) := A.cell 9)
    | (go_at_call 75; (with_reducible refine (iUpTo2 _ _ _ _ _).mono ?_); rintro e w1 ⟨rfl, hb⟩; clear c3 c4 c5 c6 c7 c8 c9; replace A := A.keep hb; replace z := z.trans (hb.mono z.size); clear hb; have c3 : World.cell? w1 ⟨w.heap.size, 3, none⟩ = some (.int .i64 h.good) := A.cell 3; have c4 : World.cell? w1 ⟨w.heap.size, 4, none⟩ = some (.int .i64 h.bad) := A.cell 4; have c5 : World.cell? w1 ⟨w.heap.size, 5, none⟩ = some (.int .i64 h.does) := A.cell 5; have c6 : World.cell? w1 ⟨w.heap.size, 6, none⟩ = some (.int .i64 h.block) := A.cell 6; have c7 : World.cell? w1 ⟨w.heap.size, 7, none⟩ = some (.int .i64 h.from_) := A.cell 7; have c8 : World.cell? w1 ⟨w.heap.size, 8, none⟩ = some (.int .i64 h.next) := A.cell 8; have c9 : World.cell? w1 ⟨w.heap.size, 9, none⟩ = some (.int .i64 h.value) := A.cell 9)
    | (go_at_call 75; (with_reducible refine (iUpTo4 _ _ _ _ _ _ _).mono ?_); rintro e w1 ⟨rfl, hb⟩; clear c3 c4 c5 c6 c7 c8 c9; replace A := A.keep hb; replace z := z.trans (hb.mono z.size); clear hb; have c3 : World.cell? w1 ⟨w.heap.size, 3, none⟩ = some (.int .i64 h.good) := A.cell 3; have c4 : World.cell? w1 ⟨w.heap.size, 4, none⟩ = some (.int .i64 h.bad) := A.cell 4; have c5 : World.cell? w1 ⟨w.heap.size, 5, none⟩ = some (.int .i64 h.does) := A.cell 5; have c6 : World.cell? w1 ⟨w.heap.size, 6, none⟩ = some (.int .i64 h.block) := A.cell 6; have c7 : World.cell? w1 ⟨w.heap.size, 7, none⟩ = some (.int .i64 h.from_) := A.cell 7; have c8 : World.cell? w1 ⟨w.heap.size, 8, none⟩ = some (.int .i64 h.next) := A.cell 8; have c9 : World.cell? w1 ⟨w.heap.size, 9, none⟩ = some (.int .i64 h.value) := A.cell 9))
  all_goals go_returns
  all_goals refine ⟨ret_b ?_, z⟩
  all_goals simp_all [Hd.swapB]
set_option maxHeartbeats 16000000 in
theorem iMnd (h : Hd) (w : World) : Calls Tryz.prog 81 #[.agg h.mp.toArray] w fun e w' => e = .returned (.bool h.mendB) ∧ Below w.heap.size w w' := by
  go_enter Tryz.func81, Tryz.ntmps81
  go_upto_region 1 with fail
  refine wp_at (fun W => At W w.heap.size h.mp.toArray 109 ∧ Below w.heap.size w W) ⟨At.new w _ _, (Below.refl _ _).alloc (Nat.le_refl _) _⟩ ?_
  rintro W ⟨A, z⟩
  have c4 : World.cell? W ⟨w.heap.size, 4, none⟩ = some (.int .i64 h.wasCode) := A.cell 4
  have c7 : World.cell? W ⟨w.heap.size, 7, none⟩ = some (.int .i64 h.wasKind) := A.cell 7
  have c5 : World.cell? W ⟨w.heap.size, 5, none⟩ = some (.int .i64 h.wasItem) := A.cell 5
  have c6 : World.cell? W ⟨w.heap.size, 6, none⟩ = some (.int .i64 h.wasNumber) := A.cell 6
  have c8 : World.cell? W ⟨w.heap.size, 8, none⟩ = some (.int .i64 h.wasTag) := A.cell 8
  go_wp2_with (first
    | (go_at_call 75; (with_reducible refine (iUpTo1 _ _ _ _).mono ?_); rintro e w1 ⟨rfl, hb⟩; clear c4 c7 c5 c6 c8; replace A := A.keep hb; replace z := z.trans (hb.mono z.size); clear hb; have c4 : World.cell? w1 ⟨w.heap.size, 4, none⟩ = some (.int .i64 h.wasCode) := A.cell 4; have c7 : World.cell? w1 ⟨w.heap.size, 7, none⟩ = some (.int .i64 h.wasKind) := A.cell 7; have c5 : World.cell? w1 ⟨w.heap.size, 5, none⟩ = some (.int .i64 h.wasItem) := A.cell 5; have c6 : World.cell? w1 ⟨w.heap.size, 6, none⟩ = some (.int .i64 h.wasNumber) := A.cell 6; have c8 : World.cell? w1 ⟨w.heap.size, 8, none⟩ = some (.int .i64 h.wasTag) := A.cell 8)
    | (go_at_call 75; (with_reducible refine (iUpTo2 _ _ _ _ _).mono ?_); rintro e w1 ⟨rfl, hb⟩; clear c4 c7 c5 c6 c8; replace A := A.keep hb; replace z := z.trans (hb.mono z.size); clear hb; have c4 : World.cell? w1 ⟨w.heap.size, 4, none⟩ = some (.int .i64 h.wasCode) := A.cell 4; have c7 : World.cell? w1 ⟨w.heap.size, 7, none⟩ = some (.int .i64 h.wasKind) := A.cell 7; have c5 : World.cell? w1 ⟨w.heap.size, 5, none⟩ = some (.int .i64 h.wasItem) := A.cell 5; have c6 : World.cell? w1 ⟨w.heap.size, 6, none⟩ = some (.int .i64 h.wasNumber) := A.cell 6; have c8 : World.cell? w1 ⟨w.heap.size, 8, none⟩ = some (.int .i64 h.wasTag) := A.cell 8))
  all_goals go_returns
  all_goals refine ⟨ret_b ?_, z⟩
  all_goals simp_all [Hd.mendB]
end Go.Proofs.YtgmoemjiffglbaaGreat
namespace Go.Proofs.YtgmoemjiffglbaaGreat
open Go.RowKit
set_option maxRecDepth 100000
set_option linter.unusedVariables false
def Hd.placesB (h : Hd) (p s l c : Int) : Bool := inB h.for_ 0 (p - 1) && allUp (zF p s l c - 1) [h.addr] && allUp (s + l + 1) [h.index] && allUp (2 * p - 1) [h.which]
theorem slices_at {w : World} {b : Nat} {x : Int} {t : TypeId} (sl : At w b #[.int .i64 x] t) : Hid (∀ i, i < 1 → w.cell? ⟨b, i, none⟩ = some (.int .i64 ([x].getD i 0))) := by
  show ∀ i, i < 1 → _
  intro i hi
  obtain rfl : i = 0 := by omega
  exact sl.cell 0
def pk0 : Oper := { dst := some 5, op := Op.load 35 (Operand.tmp 3), type := 35, pos := "l06_hand.go:251", after := #[], guard := none }
def pk1 : Oper := { dst := some 6, op := Op.fieldAddr 111 (Operand.tmp 2) 6, type := 0, pos := "l06_hand.go:251", after := #[], guard := none }
def pk2 : Oper := { dst := some 7, op := Op.fieldAddr 105 (Operand.tmp 6) 5, type := 0, pos := "l06_hand.go:251", after := #[{ on := 1, ground := Ground.data }], guard := none }
def pk3 : Oper := { dst := some 8, op := Op.load 2 (Operand.tmp 7), type := 2, pos := "l06_hand.go:251", after := #[{ on := 2, ground := Ground.data }], guard := none }
def pk4 : Oper := { dst := some 9, op := Op.call { callee := Callee.value (Operand.func 42), args := #[Operand.tmp 5, Operand.tmp 8], argTypes := #[35, 2] }, type := 4, pos := "l06_hand.go:251", after := #[{ on := 0, ground := Ground.data }, { on := 3, ground := Ground.data }], guard := none }
def pk5 : Oper := { dst := some 10, op := Op.move (Operand.tmp 9), type := 4, pos := "l06_hand.go:251", after := #[{ on := 4, ground := Ground.data }, { on := 4, ground := Ground.chain }], guard := none }
def pk6 : Oper := { dst := some 11, op := Op.load 35 (Operand.tmp 3), type := 35, pos := "l06_hand.go:251", after := #[{ on := 5, ground := Ground.guard }], guard := some (5, true) }
def pk7 : Oper := { dst := some 12, op := Op.call { callee := Callee.value (Operand.func 72), args := #[Operand.tmp 11], argTypes := #[35] }, type := 2, pos := "l06_hand.go:252", after := #[{ on := 6, ground := Ground.data }, { on := 5, ground := Ground.chain }, { on := 5, ground := Ground.guard }], guard := some (5, true) }
def pk8 : Oper := { dst := some 13, op := Op.binOp BinOp.sub 2 (Operand.tmp 12) (Operand.const (Value.int IntKind.i64 1)) 2, type := 2, pos := "l06_hand.go:251", after := #[{ on := 7, ground := Ground.data }, { on := 5, ground := Ground.guard }], guard := some (5, true) }
def pk9 : Oper := { dst := some 14, op := Op.fieldAddr 111 (Operand.tmp 2) 7, type := 0, pos := "l06_hand.go:251", after := #[{ on := 5, ground := Ground.guard }], guard := some (5, true) }
def pk10 : Oper := { dst := some 15, op := Op.fieldAddr 107 (Operand.tmp 14) 0, type := 0, pos := "l06_hand.go:251", after := #[{ on := 9, ground := Ground.data }, { on := 5, ground := Ground.guard }], guard := some (5, true) }
def pk11 : Oper := { dst := some 16, op := Op.load 2 (Operand.tmp 15), type := 2, pos := "l06_hand.go:251", after := #[{ on := 10, ground := Ground.data }, { on := 5, ground := Ground.guard }], guard := some (5, true) }
def pk12 : Oper := { dst := some 17, op := Op.buildSlice 47 1 #[(0, Operand.tmp 16)], type := 47, pos := "l06_hand.go:251", after := #[{ on := 11, ground := Ground.data }, { on := 5, ground := Ground.guard }], guard := some (5, true) }
def pk13 : Oper := { dst := some 18, op := Op.call { callee := Callee.value (Operand.func 75), args := #[Operand.tmp 13, Operand.tmp 17], argTypes := #[2, 47] }, type := 4, pos := "l06_hand.go:252", after := #[{ on := 8, ground := Ground.data }, { on := 12, ground := Ground.data }, { on := 7, ground := Ground.chain }, { on := 5, ground := Ground.guard }], guard := some (5, true) }
def pk14 : Oper := { dst := some 19, op := Op.pick (Operand.tmp 10) (Operand.tmp 18) (Operand.const (Value.bool false)), type := 4, pos := "l06_hand.go:251", after := #[{ on := 5, ground := Ground.data }, { on := 13, ground := Ground.data }], guard := none }
def pk15 : Oper := { dst := some 20, op := Op.move (Operand.tmp 19), type := 4, pos := "l06_hand.go:251", after := #[{ on := 14, ground := Ground.data }, { on := 13, ground := Ground.chain }], guard := none }
def pk16 : Oper := { dst := some 21, op := Op.load 35 (Operand.tmp 3), type := 35, pos := "l06_hand.go:251", after := #[{ on := 15, ground := Ground.guard }], guard := some (15, true) }
def pk17 : Oper := { dst := some 22, op := Op.call { callee := Callee.value (Operand.func 108), args := #[Operand.tmp 21], argTypes := #[35] }, type := 2, pos := "l06_hand.go:253", after := #[{ on := 16, ground := Ground.data }, { on := 15, ground := Ground.chain }, { on := 15, ground := Ground.guard }], guard := some (15, true) }
def pk18 : Oper := { dst := some 23, op := Op.binOp BinOp.add 2 (Operand.tmp 22) (Operand.const (Value.int IntKind.i64 1)) 2, type := 2, pos := "l06_hand.go:251", after := #[{ on := 17, ground := Ground.data }, { on := 15, ground := Ground.guard }], guard := some (15, true) }
def pk19 : Oper := { dst := some 24, op := Op.fieldAddr 111 (Operand.tmp 2) 8, type := 0, pos := "l06_hand.go:251", after := #[{ on := 15, ground := Ground.guard }], guard := some (15, true) }
def pk20 : Oper := { dst := some 25, op := Op.fieldAddr 109 (Operand.tmp 24) 2, type := 0, pos := "l06_hand.go:251", after := #[{ on := 19, ground := Ground.data }, { on := 15, ground := Ground.guard }], guard := some (15, true) }
def pk21 : Oper := { dst := some 26, op := Op.load 2 (Operand.tmp 25), type := 2, pos := "l06_hand.go:251", after := #[{ on := 20, ground := Ground.data }, { on := 15, ground := Ground.guard }], guard := some (15, true) }
def pk22 : Oper := { dst := some 27, op := Op.buildSlice 47 1 #[(0, Operand.tmp 26)], type := 47, pos := "l06_hand.go:251", after := #[{ on := 21, ground := Ground.data }, { on := 15, ground := Ground.guard }], guard := some (15, true) }
def pk23 : Oper := { dst := some 28, op := Op.call { callee := Callee.value (Operand.func 75), args := #[Operand.tmp 23, Operand.tmp 27], argTypes := #[2, 47] }, type := 4, pos := "l06_hand.go:253", after := #[{ on := 18, ground := Ground.data }, { on := 22, ground := Ground.data }, { on := 17, ground := Ground.chain }, { on := 15, ground := Ground.guard }], guard := some (15, true) }
def pk24 : Oper := { dst := some 29, op := Op.pick (Operand.tmp 20) (Operand.tmp 28) (Operand.const (Value.bool false)), type := 4, pos := "l06_hand.go:251", after := #[{ on := 15, ground := Ground.data }, { on := 23, ground := Ground.data }], guard := none }
def pk25 : Oper := { dst := some 30, op := Op.move (Operand.tmp 29), type := 4, pos := "l06_hand.go:251", after := #[{ on := 24, ground := Ground.data }, { on := 23, ground := Ground.chain }], guard := none }
def pk26 : Oper := { dst := some 31, op := Op.fieldAddr 35 (Operand.tmp 3) 0, type := 0, pos := "l06_hand.go:251", after := #[{ on := 25, ground := Ground.guard }], guard := some (25, true) }
def pk27 : Oper := { dst := some 32, op := Op.load 2 (Operand.tmp 31), type := 2, pos := "l06_hand.go:251", after := #[{ on := 26, ground := Ground.data }, { on := 25, ground := Ground.guard }], guard := some (25, true) }
def pk28 : Oper := { dst := some 33, op := Op.binOp BinOp.mul 2 (Operand.const (Value.int IntKind.i64 2)) (Operand.tmp 32) 2, type := 2, pos := "l06_hand.go:251", after := #[{ on := 27, ground := Ground.data }, { on := 25, ground := Ground.guard }], guard := some (25, true) }
def pk29 : Oper := { dst := some 34, op := Op.binOp BinOp.sub 2 (Operand.tmp 33) (Operand.const (Value.int IntKind.i64 1)) 2, type := 2, pos := "l06_hand.go:251", after := #[{ on := 28, ground := Ground.data }, { on := 25, ground := Ground.guard }], guard := some (25, true) }
def pk30 : Oper := { dst := some 35, op := Op.fieldAddr 111 (Operand.tmp 2) 8, type := 0, pos := "l06_hand.go:251", after := #[{ on := 25, ground := Ground.guard }], guard := some (25, true) }
def pk31 : Oper := { dst := some 36, op := Op.fieldAddr 109 (Operand.tmp 35) 3, type := 0, pos := "l06_hand.go:251", after := #[{ on := 30, ground := Ground.data }, { on := 25, ground := Ground.guard }], guard := some (25, true) }
def pk32 : Oper := { dst := some 37, op := Op.load 2 (Operand.tmp 36), type := 2, pos := "l06_hand.go:251", after := #[{ on := 31, ground := Ground.data }, { on := 25, ground := Ground.guard }], guard := some (25, true) }
def pk33 : Oper := { dst := some 38, op := Op.buildSlice 47 1 #[(0, Operand.tmp 37)], type := 47, pos := "l06_hand.go:251", after := #[{ on := 32, ground := Ground.data }, { on := 25, ground := Ground.guard }], guard := some (25, true) }
def pk34 : Oper := { dst := some 39, op := Op.call { callee := Callee.value (Operand.func 75), args := #[Operand.tmp 34, Operand.tmp 38], argTypes := #[2, 47] }, type := 4, pos := "l06_hand.go:254", after := #[{ on := 29, ground := Ground.data }, { on := 33, ground := Ground.data }, { on := 25, ground := Ground.chain }, { on := 25, ground := Ground.guard }], guard := some (25, true) }
def pk35 : Oper := { dst := some 40, op := Op.pick (Operand.tmp 30) (Operand.tmp 39) (Operand.const (Value.bool false)), type := 4, pos := "l06_hand.go:251", after := #[{ on := 25, ground := Ground.data }, { on := 34, ground := Ground.data }], guard := none }
def pk36 : Oper := { dst := some 4, op := Op.assign (Operand.tmp 40), type := 4, pos := "l06_hand.go:251", after := #[{ on := 35, ground := Ground.data }, { on := 34, ground := Ground.chain }, { on := 0, ground := Ground.phase }, { on := 1, ground := Ground.phase }, { on := 2, ground := Ground.phase }, { on := 3, ground := Ground.phase }, { on := 4, ground := Ground.phase }, { on := 5, ground := Ground.phase }, { on := 6, ground := Ground.phase }, { on := 7, ground := Ground.phase }, { on := 8, ground := Ground.phase }, { on := 9, ground := Ground.phase }, { on := 10, ground := Ground.phase }, { on := 11, ground := Ground.phase }, { on := 12, ground := Ground.phase }, { on := 13, ground := Ground.phase }, { on := 14, ground := Ground.phase }, { on := 15, ground := Ground.phase }, { on := 16, ground := Ground.phase }, { on := 17, ground := Ground.phase }, { on := 18, ground := Ground.phase }, { on := 19, ground := Ground.phase }, { on := 20, ground := Ground.phase }, { on := 21, ground := Ground.phase }, { on := 22, ground := Ground.phase }, { on := 23, ground := Ground.phase }, { on := 24, ground := Ground.phase }, { on := 25, ground := Ground.phase }, { on := 26, ground := Ground.phase }, { on := 27, ground := Ground.phase }, { on := 28, ground := Ground.phase }, { on := 29, ground := Ground.phase }, { on := 30, ground := Ground.phase }, { on := 31, ground := Ground.phase }, { on := 32, ground := Ground.phase }, { on := 33, ground := Ground.phase }, { on := 34, ground := Ground.phase }, { on := 35, ground := Ground.phase }], guard := none }
set_option maxHeartbeats 32000000 in
theorem iPlacesA (p s l c k z0 : Int) (h : Hd) (ho : ok p s l c k = true) (ez : Hid (zF p s l c = z0)) (zb : 0 ≤ z0 ∧ z0 ≤ 100000) (e1 : inB h.for_ 0 (p - 1) = false) (w : World) : Calls Tryz.prog 82 #[.agg h.ps.toArray, .agg #[.int .i64 p, .int .i64 s, .int .i64 l, .int .i64 c, .int .i64 k]] w fun e w' => e = .returned (.bool (h.placesB p s l c)) ∧ Below w.heap.size w w' := by
  have h' := ok_iff.1 ho
  have eS : Hid (vSize p s l c k = z0) := by rw [← ez.out]; unfold vSize; rw [ho]; rfl
  have eB : Hid (vBlocks p s l c k = s + l) := by unfold vBlocks; rw [ho]; rfl
  have wz : Hid (IntKind.i64.wrap (z0 - 1) = z0 - 1) := by show _ = _; rw [IntKind.wrap_i64]; omega
  have wb : Hid (IntKind.i64.wrap (s + l + 1) = s + l + 1) := by show _ = _; rw [IntKind.wrap_i64]; omega
  have wp : Hid (IntKind.i64.wrap (IntKind.i64.wrap (2 * p) - 1) = 2 * p - 1) := by show _ = _; rw [IntKind.wrap_i64, IntKind.wrap_i64]; omega
  have wq : Hid (IntKind.i64.wrap (2 * p - 1) = 2 * p - 1) := by show _ = _; rw [IntKind.wrap_i64]; omega
  go_enter Tryz.func82, Tryz.ntmps82
  go_upto_region 1 with fail
  refine wp_at (fun W => At W w.heap.size h.ps.toArray 111 ∧ At W (w.heap.size + 1) #[.int .i64 p, .int .i64 s, .int .i64 l, .int .i64 c, .int .i64 k] 35 ∧ Below w.heap.size w W) (two_box w _ _ _ _) ?_
  rintro W ⟨A, P, z⟩
  have l11 : ∀ w', Cls W w' → (loadVar 2 ⟨w.heap.size, 11, none⟩).run Tryz.prog w' = .ok (.int .i64 h.for_) w' := ld_i A Tryz.underlying2 rfl
  have l17 : ∀ w', Cls W w' → (loadVar 2 ⟨w.heap.size, 17, none⟩).run Tryz.prog w' = .ok (.int .i64 h.addr) w' := ld_i A Tryz.underlying2 rfl
  have l29 : ∀ w', Cls W w' → (loadVar 2 ⟨w.heap.size, 29, none⟩).run Tryz.prog w' = .ok (.int .i64 h.index) w' := ld_i A Tryz.underlying2 rfl
  have l30 : ∀ w', Cls W w' → (loadVar 2 ⟨w.heap.size, 30, none⟩).run Tryz.prog w' = .ok (.int .i64 h.which) w' := ld_i A Tryz.underlying2 rfl
  have l0 : ∀ w', Cls W w' → (loadVar 2 ⟨w.heap.size + 1, 0, none⟩).run Tryz.prog w' = .ok (.int .i64 p) w' := ld_i P Tryz.underlying2 rfl
  have lp : ∀ w', Cls W w' → (loadVar 35 ⟨w.heap.size + 1, 0, none⟩).run Tryz.prog w' = .ok (.agg #[.int .i64 p, .int .i64 s, .int .i64 l, .int .i64 c, .int .i64 k]) w' := ld_agg (vs := [.int .i64 p, .int .i64 s, .int .i64 l, .int .i64 c, .int .i64 k]) P Tryz.underlying35 rfl (by kernel_rfl)
  refine wp_region_held_drew (S := Cls W) (by kernel_rfl) ⟨⟨rfl, rfl, rfl, Nat.le_refl _, fun _ _ => rfl⟩⟩ (fun hS => ?_)
  generalize W.drew = v0 at *
  refine tkL (i := 0) (oi := pk0) hS rfl rfl (by assumption) ?_
  simp only [pk0, Act.put, nzA, nzB, nzC]
  refine tkP (i := 1) (oi := pk1) hS (fun w9 => by simp only [pk1]; go_simp; (try with_reducible rfl)) ?_
  simp only [pk1, Act.put, nzA, nzB, nzC]
  refine tkP (i := 2) (oi := pk2) hS (fun w9 => by simp only [pk2]; go_simp; (try with_reducible rfl)) ?_
  simp only [pk2, Act.put, nzA, nzB, nzC]
  refine tkL (i := 3) (oi := pk3) hS rfl rfl (by assumption) ?_
  simp only [pk3, Act.put, nzA, nzB, nzC]
  refine wpAnyH_ready (rs := [4]) (by kernel_rfl) (by simp) ?_
  refine AllReadyH.cons (o := pk4) rfl (fun K hK => ?_) ?_
  · rw [if_pos (by rfl)]
    simp only [pk4]
    go_simp
    go_at_call 42
    refine (iHas p s l c k h.for_ ho _).mono ?_
    rintro e v1 ⟨rfl, hb⟩
    rw [e1]
    (go_wp2_with fail)
    have hS2 : Cls W v1 := ⟨hS.below.trans (hb.mono hS.below.size)⟩
    clear hb
    refine hK.out _ _ hS2 (fun hS => ?_)
    clear hK K
    (try simp only [pk4, Act.put, nzA, nzB, nzC])
    refine tkP (i := 5) (oi := pk5) hS (fun w9 => by simp only [pk5]; go_simp; (try with_reducible rfl)) ?_
    simp only [pk5, Act.put, nzA, nzB, nzC]
    refine tkS (i := 6) (oi := pk6) hS ?_
    simp only [pk6, Act.put, nzA, nzB, nzC]
    refine tkS (i := 7) (oi := pk7) hS ?_
    simp only [pk7, Act.put, nzA, nzB, nzC]
    refine tkS (i := 8) (oi := pk8) hS ?_
    simp only [pk8, Act.put, nzA, nzB, nzC]
    refine tkS (i := 9) (oi := pk9) hS ?_
    simp only [pk9, Act.put, nzA, nzB, nzC]
    refine tkS (i := 10) (oi := pk10) hS ?_
    simp only [pk10, Act.put, nzA, nzB, nzC]
    refine tkS (i := 11) (oi := pk11) hS ?_
    simp only [pk11, Act.put, nzA, nzB, nzC]
    refine tkS (i := 12) (oi := pk12) hS ?_
    simp only [pk12, Act.put, nzA, nzB, nzC]
    refine tkS (i := 13) (oi := pk13) hS ?_
    simp only [pk13, Act.put, nzA, nzB, nzC]
    refine tkP (i := 14) (oi := pk14) hS (fun w9 => by simp only [pk14]; go_simp; (try with_reducible rfl)) ?_
    simp only [pk14, Act.put, nzA, nzB, nzC]
    refine tkP (i := 15) (oi := pk15) hS (fun w9 => by simp only [pk15]; go_simp; (try with_reducible rfl)) ?_
    simp only [pk15, Act.put, nzA, nzB, nzC]
    refine tkS (i := 16) (oi := pk16) hS ?_
    simp only [pk16, Act.put, nzA, nzB, nzC]
    refine tkS (i := 17) (oi := pk17) hS ?_
    simp only [pk17, Act.put, nzA, nzB, nzC]
    refine tkS (i := 18) (oi := pk18) hS ?_
    simp only [pk18, Act.put, nzA, nzB, nzC]
    refine tkS (i := 19) (oi := pk19) hS ?_
    simp only [pk19, Act.put, nzA, nzB, nzC]
    refine tkS (i := 20) (oi := pk20) hS ?_
    simp only [pk20, Act.put, nzA, nzB, nzC]
    refine tkS (i := 21) (oi := pk21) hS ?_
    simp only [pk21, Act.put, nzA, nzB, nzC]
    refine tkS (i := 22) (oi := pk22) hS ?_
    simp only [pk22, Act.put, nzA, nzB, nzC]
    refine tkS (i := 23) (oi := pk23) hS ?_
    simp only [pk23, Act.put, nzA, nzB, nzC]
    refine tkP (i := 24) (oi := pk24) hS (fun w9 => by simp only [pk24]; go_simp; (try with_reducible rfl)) ?_
    simp only [pk24, Act.put, nzA, nzB, nzC]
    refine tkP (i := 25) (oi := pk25) hS (fun w9 => by simp only [pk25]; go_simp; (try with_reducible rfl)) ?_
    simp only [pk25, Act.put, nzA, nzB, nzC]
    refine tkS (i := 26) (oi := pk26) hS ?_
    simp only [pk26, Act.put, nzA, nzB, nzC]
    refine tkS (i := 27) (oi := pk27) hS ?_
    simp only [pk27, Act.put, nzA, nzB, nzC]
    refine tkS (i := 28) (oi := pk28) hS ?_
    simp only [pk28, Act.put, nzA, nzB, nzC]
    refine tkS (i := 29) (oi := pk29) hS ?_
    simp only [pk29, Act.put, nzA, nzB, nzC]
    refine tkS (i := 30) (oi := pk30) hS ?_
    simp only [pk30, Act.put, nzA, nzB, nzC]
    refine tkS (i := 31) (oi := pk31) hS ?_
    simp only [pk31, Act.put, nzA, nzB, nzC]
    refine tkS (i := 32) (oi := pk32) hS ?_
    simp only [pk32, Act.put, nzA, nzB, nzC]
    refine tkS (i := 33) (oi := pk33) hS ?_
    simp only [pk33, Act.put, nzA, nzB, nzC]
    refine tkS (i := 34) (oi := pk34) hS ?_
    simp only [pk34, Act.put, nzA, nzB, nzC]
    refine tkP (i := 35) (oi := pk35) hS (fun w9 => by simp only [pk35]; go_simp; (try with_reducible rfl)) ?_
    simp only [pk35, Act.put, nzA, nzB, nzC]
    refine tkP (i := 36) (oi := pk36) hS (fun w9 => by simp only [pk36]; go_simp; (try with_reducible rfl)) ?_
    simp only [pk36, Act.put, nzA, nzB, nzC]
    refine wpAnyH_done (by kernel_rfl) ?_ _
    go_wp2
    go_returns
    exact ⟨ret_b (by simp only [Hd.placesB, ez.out, *]; rfl), z.trans (hS.below.mono z.size)⟩
  exact AllReadyH.nil
set_option maxHeartbeats 32000000 in
theorem iPlacesB (p s l c k z0 : Int) (h : Hd) (ho : ok p s l c k = true) (ez : Hid (zF p s l c = z0)) (zb : 0 ≤ z0 ∧ z0 ≤ 100000) (e1 : inB h.for_ 0 (p - 1) = true) (e2 : allUp (z0 - 1) [h.addr] = false) (w : World) : Calls Tryz.prog 82 #[.agg h.ps.toArray, .agg #[.int .i64 p, .int .i64 s, .int .i64 l, .int .i64 c, .int .i64 k]] w fun e w' => e = .returned (.bool (h.placesB p s l c)) ∧ Below w.heap.size w w' := by
  have h' := ok_iff.1 ho
  have eS : Hid (vSize p s l c k = z0) := by rw [← ez.out]; unfold vSize; rw [ho]; rfl
  have eB : Hid (vBlocks p s l c k = s + l) := by unfold vBlocks; rw [ho]; rfl
  have wz : Hid (IntKind.i64.wrap (z0 - 1) = z0 - 1) := by show _ = _; rw [IntKind.wrap_i64]; omega
  have wb : Hid (IntKind.i64.wrap (s + l + 1) = s + l + 1) := by show _ = _; rw [IntKind.wrap_i64]; omega
  have wp : Hid (IntKind.i64.wrap (IntKind.i64.wrap (2 * p) - 1) = 2 * p - 1) := by show _ = _; rw [IntKind.wrap_i64, IntKind.wrap_i64]; omega
  have wq : Hid (IntKind.i64.wrap (2 * p - 1) = 2 * p - 1) := by show _ = _; rw [IntKind.wrap_i64]; omega
  go_enter Tryz.func82, Tryz.ntmps82
  go_upto_region 1 with fail
  refine wp_at (fun W => At W w.heap.size h.ps.toArray 111 ∧ At W (w.heap.size + 1) #[.int .i64 p, .int .i64 s, .int .i64 l, .int .i64 c, .int .i64 k] 35 ∧ Below w.heap.size w W) (two_box w _ _ _ _) ?_
  rintro W ⟨A, P, z⟩
  have l11 : ∀ w', Cls W w' → (loadVar 2 ⟨w.heap.size, 11, none⟩).run Tryz.prog w' = .ok (.int .i64 h.for_) w' := ld_i A Tryz.underlying2 rfl
  have l17 : ∀ w', Cls W w' → (loadVar 2 ⟨w.heap.size, 17, none⟩).run Tryz.prog w' = .ok (.int .i64 h.addr) w' := ld_i A Tryz.underlying2 rfl
  have l29 : ∀ w', Cls W w' → (loadVar 2 ⟨w.heap.size, 29, none⟩).run Tryz.prog w' = .ok (.int .i64 h.index) w' := ld_i A Tryz.underlying2 rfl
  have l30 : ∀ w', Cls W w' → (loadVar 2 ⟨w.heap.size, 30, none⟩).run Tryz.prog w' = .ok (.int .i64 h.which) w' := ld_i A Tryz.underlying2 rfl
  have l0 : ∀ w', Cls W w' → (loadVar 2 ⟨w.heap.size + 1, 0, none⟩).run Tryz.prog w' = .ok (.int .i64 p) w' := ld_i P Tryz.underlying2 rfl
  have lp : ∀ w', Cls W w' → (loadVar 35 ⟨w.heap.size + 1, 0, none⟩).run Tryz.prog w' = .ok (.agg #[.int .i64 p, .int .i64 s, .int .i64 l, .int .i64 c, .int .i64 k]) w' := ld_agg (vs := [.int .i64 p, .int .i64 s, .int .i64 l, .int .i64 c, .int .i64 k]) P Tryz.underlying35 rfl (by kernel_rfl)
  refine wp_region_held_drew (S := Cls W) (by kernel_rfl) ⟨⟨rfl, rfl, rfl, Nat.le_refl _, fun _ _ => rfl⟩⟩ (fun hS => ?_)
  generalize W.drew = v0 at *
  refine tkL (i := 0) (oi := pk0) hS rfl rfl (by assumption) ?_
  simp only [pk0, Act.put, nzA, nzB, nzC]
  refine tkP (i := 1) (oi := pk1) hS (fun w9 => by simp only [pk1]; go_simp; (try with_reducible rfl)) ?_
  simp only [pk1, Act.put, nzA, nzB, nzC]
  refine tkP (i := 2) (oi := pk2) hS (fun w9 => by simp only [pk2]; go_simp; (try with_reducible rfl)) ?_
  simp only [pk2, Act.put, nzA, nzB, nzC]
  refine tkL (i := 3) (oi := pk3) hS rfl rfl (by assumption) ?_
  simp only [pk3, Act.put, nzA, nzB, nzC]
  refine wpAnyH_ready (rs := [4]) (by kernel_rfl) (by simp) ?_
  refine AllReadyH.cons (o := pk4) rfl (fun K hK => ?_) ?_
  · rw [if_pos (by rfl)]
    simp only [pk4]
    go_simp
    go_at_call 42
    refine (iHas p s l c k h.for_ ho _).mono ?_
    rintro e v1 ⟨rfl, hb⟩
    rw [e1]
    (go_wp2_with fail)
    have hS2 : Cls W v1 := ⟨hS.below.trans (hb.mono hS.below.size)⟩
    clear hb
    refine hK.out _ _ hS2 (fun hS => ?_)
    clear hK K
    (try simp only [pk4, Act.put, nzA, nzB, nzC])
    refine tkP (i := 5) (oi := pk5) hS (fun w9 => by simp only [pk5]; go_simp; (try with_reducible rfl)) ?_
    simp only [pk5, Act.put, nzA, nzB, nzC]
    refine tkL (i := 6) (oi := pk6) hS rfl rfl (by assumption) ?_
    simp only [pk6, Act.put, nzA, nzB, nzC]
    refine tkP (i := 9) (oi := pk9) hS (fun w9 => by simp only [pk9]; go_simp; (try with_reducible rfl)) ?_
    simp only [pk9, Act.put, nzA, nzB, nzC]
    refine tkP (i := 10) (oi := pk10) hS (fun w9 => by simp only [pk10]; go_simp; (try with_reducible rfl)) ?_
    simp only [pk10, Act.put, nzA, nzB, nzC]
    refine tkL (i := 11) (oi := pk11) hS rfl rfl (by assumption) ?_
    simp only [pk11, Act.put, nzA, nzB, nzC]
    refine wpAnyH_ready (rs := [7, 12]) (by kernel_rfl) (by simp) ?_
    refine AllReadyH.cons (o := pk7) rfl (fun K hK => ?_) ?_
    · rw [if_pos (by rfl)]
      simp only [pk7]
      go_simp
      go_at_call 72
      refine (iSize p s l c k _).mono ?_
      rintro e v2 ⟨rfl, hb⟩
      rw [eS.out]
      (go_wp2_with fail)
      have hS2 : Cls W v2 := ⟨hS.below.trans (hb.mono hS.below.size)⟩
      clear hb
      refine hK.out _ _ hS2 (fun hS => ?_)
      clear hK K
      (try simp only [pk7, Act.put, nzA, nzB, nzC])
      refine tkP (i := 8) (oi := pk8) hS (fun w9 => by simp only [pk8]; go_simp; (try with_reducible rfl)) ?_
      simp only [pk8, Act.put, nzA, nzB, nzC]
      refine wpAnyH_ready (rs := [12]) (by kernel_rfl) (by simp) ?_
      refine AllReadyH.cons (o := pk12) rfl (fun K hK => ?_) ?_
      · rw [if_pos (by rfl)]
        simp only [pk12]
        go_simp
        have sl1 : At (v2.alloc (.cells #[.int .i64 h.addr] 2)) v2.heap.size #[.int .i64 h.addr] 2 := At.new _ _ _
        have hb : Below v2.heap.size v2 (v2.alloc (.cells #[.int .i64 h.addr] 2)) := (Below.refl _ _).alloc (Nat.le_refl _) _
        generalize v2.alloc (.cells #[.int .i64 h.addr] 2) = v3 at *
        have hS2 : Cls W v3 := ⟨hS.below.trans (hb.mono hS.below.size)⟩
        clear hb
        refine hK.out _ _ hS2 (fun hS => ?_)
        clear hK K
        (try simp only [pk12, Act.put, nzA, nzB, nzC])
        refine wpAnyH_ready (rs := [13]) (by kernel_rfl) (by simp) ?_
        refine AllReadyH.cons (o := pk13) rfl (fun K hK => ?_) ?_
        · rw [if_pos (by rfl)]
          simp only [pk13]
          go_simp
          go_at_call 75
          refine (iUpTo _ _ 1 [h.addr] rfl (by omega) _ (slices_at sl1)).mono ?_
          rintro e v4 ⟨rfl, rfl⟩
          (try rw [wz.out]); (try rw [wq.out]); rw [e2]
          (go_wp2_with fail)
          have hS2 : Cls W v4 := hS
          refine hK.out _ _ hS2 (fun hS => ?_)
          clear hK K
          (try simp only [pk13, Act.put, nzA, nzB, nzC])
          refine tkP (i := 14) (oi := pk14) hS (fun w9 => by simp only [pk14]; go_simp; (try with_reducible rfl)) ?_
          simp only [pk14, Act.put, nzA, nzB, nzC]
          refine tkP (i := 15) (oi := pk15) hS (fun w9 => by simp only [pk15]; go_simp; (try with_reducible rfl)) ?_
          simp only [pk15, Act.put, nzA, nzB, nzC]
          refine tkS (i := 16) (oi := pk16) hS ?_
          simp only [pk16, Act.put, nzA, nzB, nzC]
          refine tkS (i := 17) (oi := pk17) hS ?_
          simp only [pk17, Act.put, nzA, nzB, nzC]
          refine tkS (i := 18) (oi := pk18) hS ?_
          simp only [pk18, Act.put, nzA, nzB, nzC]
          refine tkS (i := 19) (oi := pk19) hS ?_
          simp only [pk19, Act.put, nzA, nzB, nzC]
          refine tkS (i := 20) (oi := pk20) hS ?_
          simp only [pk20, Act.put, nzA, nzB, nzC]
          refine tkS (i := 21) (oi := pk21) hS ?_
          simp only [pk21, Act.put, nzA, nzB, nzC]
          refine tkS (i := 22) (oi := pk22) hS ?_
          simp only [pk22, Act.put, nzA, nzB, nzC]
          refine tkS (i := 23) (oi := pk23) hS ?_
          simp only [pk23, Act.put, nzA, nzB, nzC]
          refine tkP (i := 24) (oi := pk24) hS (fun w9 => by simp only [pk24]; go_simp; (try with_reducible rfl)) ?_
          simp only [pk24, Act.put, nzA, nzB, nzC]
          refine tkP (i := 25) (oi := pk25) hS (fun w9 => by simp only [pk25]; go_simp; (try with_reducible rfl)) ?_
          simp only [pk25, Act.put, nzA, nzB, nzC]
          refine tkS (i := 26) (oi := pk26) hS ?_
          simp only [pk26, Act.put, nzA, nzB, nzC]
          refine tkS (i := 27) (oi := pk27) hS ?_
          simp only [pk27, Act.put, nzA, nzB, nzC]
          refine tkS (i := 28) (oi := pk28) hS ?_
          simp only [pk28, Act.put, nzA, nzB, nzC]
          refine tkS (i := 29) (oi := pk29) hS ?_
          simp only [pk29, Act.put, nzA, nzB, nzC]
          refine tkS (i := 30) (oi := pk30) hS ?_
          simp only [pk30, Act.put, nzA, nzB, nzC]
          refine tkS (i := 31) (oi := pk31) hS ?_
          simp only [pk31, Act.put, nzA, nzB, nzC]
          refine tkS (i := 32) (oi := pk32) hS ?_
          simp only [pk32, Act.put, nzA, nzB, nzC]
          refine tkS (i := 33) (oi := pk33) hS ?_
          simp only [pk33, Act.put, nzA, nzB, nzC]
          refine tkS (i := 34) (oi := pk34) hS ?_
          simp only [pk34, Act.put, nzA, nzB, nzC]
          refine tkP (i := 35) (oi := pk35) hS (fun w9 => by simp only [pk35]; go_simp; (try with_reducible rfl)) ?_
          simp only [pk35, Act.put, nzA, nzB, nzC]
          refine tkP (i := 36) (oi := pk36) hS (fun w9 => by simp only [pk36]; go_simp; (try with_reducible rfl)) ?_
          simp only [pk36, Act.put, nzA, nzB, nzC]
          refine wpAnyH_done (by kernel_rfl) ?_ _
          go_wp2
          go_returns
          exact ⟨ret_b (by simp only [Hd.placesB, ez.out, *]; rfl), z.trans (hS.below.mono z.size)⟩
        exact AllReadyH.nil
      exact AllReadyH.nil
    refine AllReadyH.cons (o := pk12) rfl (fun K hK => ?_) ?_
    · rw [if_pos (by rfl)]
      simp only [pk12]
      go_simp
      have sl1 : At (v1.alloc (.cells #[.int .i64 h.addr] 2)) v1.heap.size #[.int .i64 h.addr] 2 := At.new _ _ _
      have hb : Below v1.heap.size v1 (v1.alloc (.cells #[.int .i64 h.addr] 2)) := (Below.refl _ _).alloc (Nat.le_refl _) _
      generalize v1.alloc (.cells #[.int .i64 h.addr] 2) = v2 at *
      have hS2 : Cls W v2 := ⟨hS.below.trans (hb.mono hS.below.size)⟩
      clear hb
      refine hK.out _ _ hS2 (fun hS => ?_)
      clear hK K
      (try simp only [pk12, Act.put, nzA, nzB, nzC])
      refine wpAnyH_ready (rs := [7]) (by kernel_rfl) (by simp) ?_
      refine AllReadyH.cons (o := pk7) rfl (fun K hK => ?_) ?_
      · rw [if_pos (by rfl)]
        simp only [pk7]
        go_simp
        go_at_call 72
        refine (iSize p s l c k _).mono ?_
        rintro e v3 ⟨rfl, hb⟩
        rw [eS.out]
        (go_wp2_with fail)
        replace sl1 := sl1.keep hb
        have hS2 : Cls W v3 := ⟨hS.below.trans (hb.mono hS.below.size)⟩
        clear hb
        refine hK.out _ _ hS2 (fun hS => ?_)
        clear hK K
        (try simp only [pk7, Act.put, nzA, nzB, nzC])
        refine tkP (i := 8) (oi := pk8) hS (fun w9 => by simp only [pk8]; go_simp; (try with_reducible rfl)) ?_
        simp only [pk8, Act.put, nzA, nzB, nzC]
        refine wpAnyH_ready (rs := [13]) (by kernel_rfl) (by simp) ?_
        refine AllReadyH.cons (o := pk13) rfl (fun K hK => ?_) ?_
        · rw [if_pos (by rfl)]
          simp only [pk13]
          go_simp
          go_at_call 75
          refine (iUpTo _ _ 1 [h.addr] rfl (by omega) _ (slices_at sl1)).mono ?_
          rintro e v4 ⟨rfl, rfl⟩
          (try rw [wz.out]); (try rw [wq.out]); rw [e2]
          (go_wp2_with fail)
          have hS2 : Cls W v4 := hS
          refine hK.out _ _ hS2 (fun hS => ?_)
          clear hK K
          (try simp only [pk13, Act.put, nzA, nzB, nzC])
          refine tkP (i := 14) (oi := pk14) hS (fun w9 => by simp only [pk14]; go_simp; (try with_reducible rfl)) ?_
          simp only [pk14, Act.put, nzA, nzB, nzC]
          refine tkP (i := 15) (oi := pk15) hS (fun w9 => by simp only [pk15]; go_simp; (try with_reducible rfl)) ?_
          simp only [pk15, Act.put, nzA, nzB, nzC]
          refine tkS (i := 16) (oi := pk16) hS ?_
          simp only [pk16, Act.put, nzA, nzB, nzC]
          refine tkS (i := 17) (oi := pk17) hS ?_
          simp only [pk17, Act.put, nzA, nzB, nzC]
          refine tkS (i := 18) (oi := pk18) hS ?_
          simp only [pk18, Act.put, nzA, nzB, nzC]
          refine tkS (i := 19) (oi := pk19) hS ?_
          simp only [pk19, Act.put, nzA, nzB, nzC]
          refine tkS (i := 20) (oi := pk20) hS ?_
          simp only [pk20, Act.put, nzA, nzB, nzC]
          refine tkS (i := 21) (oi := pk21) hS ?_
          simp only [pk21, Act.put, nzA, nzB, nzC]
          refine tkS (i := 22) (oi := pk22) hS ?_
          simp only [pk22, Act.put, nzA, nzB, nzC]
          refine tkS (i := 23) (oi := pk23) hS ?_
          simp only [pk23, Act.put, nzA, nzB, nzC]
          refine tkP (i := 24) (oi := pk24) hS (fun w9 => by simp only [pk24]; go_simp; (try with_reducible rfl)) ?_
          simp only [pk24, Act.put, nzA, nzB, nzC]
          refine tkP (i := 25) (oi := pk25) hS (fun w9 => by simp only [pk25]; go_simp; (try with_reducible rfl)) ?_
          simp only [pk25, Act.put, nzA, nzB, nzC]
          refine tkS (i := 26) (oi := pk26) hS ?_
          simp only [pk26, Act.put, nzA, nzB, nzC]
          refine tkS (i := 27) (oi := pk27) hS ?_
          simp only [pk27, Act.put, nzA, nzB, nzC]
          refine tkS (i := 28) (oi := pk28) hS ?_
          simp only [pk28, Act.put, nzA, nzB, nzC]
          refine tkS (i := 29) (oi := pk29) hS ?_
          simp only [pk29, Act.put, nzA, nzB, nzC]
          refine tkS (i := 30) (oi := pk30) hS ?_
          simp only [pk30, Act.put, nzA, nzB, nzC]
          refine tkS (i := 31) (oi := pk31) hS ?_
          simp only [pk31, Act.put, nzA, nzB, nzC]
          refine tkS (i := 32) (oi := pk32) hS ?_
          simp only [pk32, Act.put, nzA, nzB, nzC]
          refine tkS (i := 33) (oi := pk33) hS ?_
          simp only [pk33, Act.put, nzA, nzB, nzC]
          refine tkS (i := 34) (oi := pk34) hS ?_
          simp only [pk34, Act.put, nzA, nzB, nzC]
          refine tkP (i := 35) (oi := pk35) hS (fun w9 => by simp only [pk35]; go_simp; (try with_reducible rfl)) ?_
          simp only [pk35, Act.put, nzA, nzB, nzC]
          refine tkP (i := 36) (oi := pk36) hS (fun w9 => by simp only [pk36]; go_simp; (try with_reducible rfl)) ?_
          simp only [pk36, Act.put, nzA, nzB, nzC]
          refine wpAnyH_done (by kernel_rfl) ?_ _
          go_wp2
          go_returns
          exact ⟨ret_b (by simp only [Hd.placesB, ez.out, *]; rfl), z.trans (hS.below.mono z.size)⟩
        exact AllReadyH.nil
      exact AllReadyH.nil
    exact AllReadyH.nil
  exact AllReadyH.nil
set_option maxHeartbeats 32000000 in
theorem iPlacesC (p s l c k z0 : Int) (h : Hd) (ho : ok p s l c k = true) (ez : Hid (zF p s l c = z0)) (zb : 0 ≤ z0 ∧ z0 ≤ 100000) (e1 : inB h.for_ 0 (p - 1) = true) (e2 : allUp (z0 - 1) [h.addr] = true) (e3 : allUp (s + l + 1) [h.index] = false) (w : World) : Calls Tryz.prog 82 #[.agg h.ps.toArray, .agg #[.int .i64 p, .int .i64 s, .int .i64 l, .int .i64 c, .int .i64 k]] w fun e w' => e = .returned (.bool (h.placesB p s l c)) ∧ Below w.heap.size w w' := by
  have h' := ok_iff.1 ho
  have eS : Hid (vSize p s l c k = z0) := by rw [← ez.out]; unfold vSize; rw [ho]; rfl
  have eB : Hid (vBlocks p s l c k = s + l) := by unfold vBlocks; rw [ho]; rfl
  have wz : Hid (IntKind.i64.wrap (z0 - 1) = z0 - 1) := by show _ = _; rw [IntKind.wrap_i64]; omega
  have wb : Hid (IntKind.i64.wrap (s + l + 1) = s + l + 1) := by show _ = _; rw [IntKind.wrap_i64]; omega
  have wp : Hid (IntKind.i64.wrap (IntKind.i64.wrap (2 * p) - 1) = 2 * p - 1) := by show _ = _; rw [IntKind.wrap_i64, IntKind.wrap_i64]; omega
  have wq : Hid (IntKind.i64.wrap (2 * p - 1) = 2 * p - 1) := by show _ = _; rw [IntKind.wrap_i64]; omega
  go_enter Tryz.func82, Tryz.ntmps82
  go_upto_region 1 with fail
  refine wp_at (fun W => At W w.heap.size h.ps.toArray 111 ∧ At W (w.heap.size + 1) #[.int .i64 p, .int .i64 s, .int .i64 l, .int .i64 c, .int .i64 k] 35 ∧ Below w.heap.size w W) (two_box w _ _ _ _) ?_
  rintro W ⟨A, P, z⟩
  have l11 : ∀ w', Cls W w' → (loadVar 2 ⟨w.heap.size, 11, none⟩).run Tryz.prog w' = .ok (.int .i64 h.for_) w' := ld_i A Tryz.underlying2 rfl
  have l17 : ∀ w', Cls W w' → (loadVar 2 ⟨w.heap.size, 17, none⟩).run Tryz.prog w' = .ok (.int .i64 h.addr) w' := ld_i A Tryz.underlying2 rfl
  have l29 : ∀ w', Cls W w' → (loadVar 2 ⟨w.heap.size, 29, none⟩).run Tryz.prog w' = .ok (.int .i64 h.index) w' := ld_i A Tryz.underlying2 rfl
  have l30 : ∀ w', Cls W w' → (loadVar 2 ⟨w.heap.size, 30, none⟩).run Tryz.prog w' = .ok (.int .i64 h.which) w' := ld_i A Tryz.underlying2 rfl
  have l0 : ∀ w', Cls W w' → (loadVar 2 ⟨w.heap.size + 1, 0, none⟩).run Tryz.prog w' = .ok (.int .i64 p) w' := ld_i P Tryz.underlying2 rfl
  have lp : ∀ w', Cls W w' → (loadVar 35 ⟨w.heap.size + 1, 0, none⟩).run Tryz.prog w' = .ok (.agg #[.int .i64 p, .int .i64 s, .int .i64 l, .int .i64 c, .int .i64 k]) w' := ld_agg (vs := [.int .i64 p, .int .i64 s, .int .i64 l, .int .i64 c, .int .i64 k]) P Tryz.underlying35 rfl (by kernel_rfl)
  refine wp_region_held_drew (S := Cls W) (by kernel_rfl) ⟨⟨rfl, rfl, rfl, Nat.le_refl _, fun _ _ => rfl⟩⟩ (fun hS => ?_)
  generalize W.drew = v0 at *
  refine tkL (i := 0) (oi := pk0) hS rfl rfl (by assumption) ?_
  simp only [pk0, Act.put, nzA, nzB, nzC]
  refine tkP (i := 1) (oi := pk1) hS (fun w9 => by simp only [pk1]; go_simp; (try with_reducible rfl)) ?_
  simp only [pk1, Act.put, nzA, nzB, nzC]
  refine tkP (i := 2) (oi := pk2) hS (fun w9 => by simp only [pk2]; go_simp; (try with_reducible rfl)) ?_
  simp only [pk2, Act.put, nzA, nzB, nzC]
  refine tkL (i := 3) (oi := pk3) hS rfl rfl (by assumption) ?_
  simp only [pk3, Act.put, nzA, nzB, nzC]
  refine wpAnyH_ready (rs := [4]) (by kernel_rfl) (by simp) ?_
  refine AllReadyH.cons (o := pk4) rfl (fun K hK => ?_) ?_
  · rw [if_pos (by rfl)]
    simp only [pk4]
    go_simp
    go_at_call 42
    refine (iHas p s l c k h.for_ ho _).mono ?_
    rintro e v1 ⟨rfl, hb⟩
    rw [e1]
    (go_wp2_with fail)
    have hS2 : Cls W v1 := ⟨hS.below.trans (hb.mono hS.below.size)⟩
    clear hb
    refine hK.out _ _ hS2 (fun hS => ?_)
    clear hK K
    (try simp only [pk4, Act.put, nzA, nzB, nzC])
    refine tkP (i := 5) (oi := pk5) hS (fun w9 => by simp only [pk5]; go_simp; (try with_reducible rfl)) ?_
    simp only [pk5, Act.put, nzA, nzB, nzC]
    refine tkL (i := 6) (oi := pk6) hS rfl rfl (by assumption) ?_
    simp only [pk6, Act.put, nzA, nzB, nzC]
    refine tkP (i := 9) (oi := pk9) hS (fun w9 => by simp only [pk9]; go_simp; (try with_reducible rfl)) ?_
    simp only [pk9, Act.put, nzA, nzB, nzC]
    refine tkP (i := 10) (oi := pk10) hS (fun w9 => by simp only [pk10]; go_simp; (try with_reducible rfl)) ?_
    simp only [pk10, Act.put, nzA, nzB, nzC]
    refine tkL (i := 11) (oi := pk11) hS rfl rfl (by assumption) ?_
    simp only [pk11, Act.put, nzA, nzB, nzC]
    refine wpAnyH_ready (rs := [7, 12]) (by kernel_rfl) (by simp) ?_
    refine AllReadyH.cons (o := pk7) rfl (fun K hK => ?_) ?_
    · rw [if_pos (by rfl)]
      simp only [pk7]
      go_simp
      go_at_call 72
      refine (iSize p s l c k _).mono ?_
      rintro e v2 ⟨rfl, hb⟩
      rw [eS.out]
      (go_wp2_with fail)
      have hS2 : Cls W v2 := ⟨hS.below.trans (hb.mono hS.below.size)⟩
      clear hb
      refine hK.out _ _ hS2 (fun hS => ?_)
      clear hK K
      (try simp only [pk7, Act.put, nzA, nzB, nzC])
      refine tkP (i := 8) (oi := pk8) hS (fun w9 => by simp only [pk8]; go_simp; (try with_reducible rfl)) ?_
      simp only [pk8, Act.put, nzA, nzB, nzC]
      refine wpAnyH_ready (rs := [12]) (by kernel_rfl) (by simp) ?_
      refine AllReadyH.cons (o := pk12) rfl (fun K hK => ?_) ?_
      · rw [if_pos (by rfl)]
        simp only [pk12]
        go_simp
        have sl1 : At (v2.alloc (.cells #[.int .i64 h.addr] 2)) v2.heap.size #[.int .i64 h.addr] 2 := At.new _ _ _
        have hb : Below v2.heap.size v2 (v2.alloc (.cells #[.int .i64 h.addr] 2)) := (Below.refl _ _).alloc (Nat.le_refl _) _
        generalize v2.alloc (.cells #[.int .i64 h.addr] 2) = v3 at *
        have hS2 : Cls W v3 := ⟨hS.below.trans (hb.mono hS.below.size)⟩
        clear hb
        refine hK.out _ _ hS2 (fun hS => ?_)
        clear hK K
        (try simp only [pk12, Act.put, nzA, nzB, nzC])
        refine wpAnyH_ready (rs := [13]) (by kernel_rfl) (by simp) ?_
        refine AllReadyH.cons (o := pk13) rfl (fun K hK => ?_) ?_
        · rw [if_pos (by rfl)]
          simp only [pk13]
          go_simp
          go_at_call 75
          refine (iUpTo _ _ 1 [h.addr] rfl (by omega) _ (slices_at sl1)).mono ?_
          rintro e v4 ⟨rfl, rfl⟩
          (try rw [wz.out]); (try rw [wq.out]); rw [e2]
          (go_wp2_with fail)
          have hS2 : Cls W v4 := hS
          refine hK.out _ _ hS2 (fun hS => ?_)
          clear hK K
          (try simp only [pk13, Act.put, nzA, nzB, nzC])
          refine tkP (i := 14) (oi := pk14) hS (fun w9 => by simp only [pk14]; go_simp; (try with_reducible rfl)) ?_
          simp only [pk14, Act.put, nzA, nzB, nzC]
          refine tkP (i := 15) (oi := pk15) hS (fun w9 => by simp only [pk15]; go_simp; (try with_reducible rfl)) ?_
          simp only [pk15, Act.put, nzA, nzB, nzC]
          refine tkL (i := 16) (oi := pk16) hS rfl rfl (by assumption) ?_
          simp only [pk16, Act.put, nzA, nzB, nzC]
          refine tkP (i := 19) (oi := pk19) hS (fun w9 => by simp only [pk19]; go_simp; (try with_reducible rfl)) ?_
          simp only [pk19, Act.put, nzA, nzB, nzC]
          refine tkP (i := 20) (oi := pk20) hS (fun w9 => by simp only [pk20]; go_simp; (try with_reducible rfl)) ?_
          simp only [pk20, Act.put, nzA, nzB, nzC]
          refine tkL (i := 21) (oi := pk21) hS rfl rfl (by assumption) ?_
          simp only [pk21, Act.put, nzA, nzB, nzC]
          refine wpAnyH_ready (rs := [17, 22]) (by kernel_rfl) (by simp) ?_
          refine AllReadyH.cons (o := pk17) rfl (fun K hK => ?_) ?_
          · rw [if_pos (by rfl)]
            simp only [pk17]
            go_simp
            go_at_call 108
            refine (iBlocks p s l c k _).mono ?_
            rintro e v5 ⟨rfl, hb⟩
            rw [eB.out]
            (go_wp2_with fail)
            replace sl1 := sl1.keep hb
            have hS2 : Cls W v5 := ⟨hS.below.trans (hb.mono hS.below.size)⟩
            clear hb
            refine hK.out _ _ hS2 (fun hS => ?_)
            clear hK K
            (try simp only [pk17, Act.put, nzA, nzB, nzC])
            refine tkP (i := 18) (oi := pk18) hS (fun w9 => by simp only [pk18]; go_simp; (try with_reducible rfl)) ?_
            simp only [pk18, Act.put, nzA, nzB, nzC]
            refine wpAnyH_ready (rs := [22]) (by kernel_rfl) (by simp) ?_
            refine AllReadyH.cons (o := pk22) rfl (fun K hK => ?_) ?_
            · rw [if_pos (by rfl)]
              simp only [pk22]
              go_simp
              have sl2 : At (v5.alloc (.cells #[.int .i64 h.index] 2)) v5.heap.size #[.int .i64 h.index] 2 := At.new _ _ _
              have hb : Below v5.heap.size v5 (v5.alloc (.cells #[.int .i64 h.index] 2)) := (Below.refl _ _).alloc (Nat.le_refl _) _
              generalize v5.alloc (.cells #[.int .i64 h.index] 2) = v6 at *
              replace sl1 := sl1.keep hb
              have hS2 : Cls W v6 := ⟨hS.below.trans (hb.mono hS.below.size)⟩
              clear hb
              refine hK.out _ _ hS2 (fun hS => ?_)
              clear hK K
              (try simp only [pk22, Act.put, nzA, nzB, nzC])
              refine wpAnyH_ready (rs := [23]) (by kernel_rfl) (by simp) ?_
              refine AllReadyH.cons (o := pk23) rfl (fun K hK => ?_) ?_
              · rw [if_pos (by rfl)]
                simp only [pk23]
                go_simp
                go_at_call 75
                refine (iUpTo _ _ 1 [h.index] rfl (by omega) _ (slices_at sl2)).mono ?_
                rintro e v7 ⟨rfl, rfl⟩
                (try rw [wb.out]); (try rw [wq.out]); rw [e3]
                (go_wp2_with fail)
                have hS2 : Cls W v7 := hS
                refine hK.out _ _ hS2 (fun hS => ?_)
                clear hK K
                (try simp only [pk23, Act.put, nzA, nzB, nzC])
                refine tkP (i := 24) (oi := pk24) hS (fun w9 => by simp only [pk24]; go_simp; (try with_reducible rfl)) ?_
                simp only [pk24, Act.put, nzA, nzB, nzC]
                refine tkP (i := 25) (oi := pk25) hS (fun w9 => by simp only [pk25]; go_simp; (try with_reducible rfl)) ?_
                simp only [pk25, Act.put, nzA, nzB, nzC]
                refine tkS (i := 26) (oi := pk26) hS ?_
                simp only [pk26, Act.put, nzA, nzB, nzC]
                refine tkS (i := 27) (oi := pk27) hS ?_
                simp only [pk27, Act.put, nzA, nzB, nzC]
                refine tkS (i := 28) (oi := pk28) hS ?_
                simp only [pk28, Act.put, nzA, nzB, nzC]
                refine tkS (i := 29) (oi := pk29) hS ?_
                simp only [pk29, Act.put, nzA, nzB, nzC]
                refine tkS (i := 30) (oi := pk30) hS ?_
                simp only [pk30, Act.put, nzA, nzB, nzC]
                refine tkS (i := 31) (oi := pk31) hS ?_
                simp only [pk31, Act.put, nzA, nzB, nzC]
                refine tkS (i := 32) (oi := pk32) hS ?_
                simp only [pk32, Act.put, nzA, nzB, nzC]
                refine tkS (i := 33) (oi := pk33) hS ?_
                simp only [pk33, Act.put, nzA, nzB, nzC]
                refine tkS (i := 34) (oi := pk34) hS ?_
                simp only [pk34, Act.put, nzA, nzB, nzC]
                refine tkP (i := 35) (oi := pk35) hS (fun w9 => by simp only [pk35]; go_simp; (try with_reducible rfl)) ?_
                simp only [pk35, Act.put, nzA, nzB, nzC]
                refine tkP (i := 36) (oi := pk36) hS (fun w9 => by simp only [pk36]; go_simp; (try with_reducible rfl)) ?_
                simp only [pk36, Act.put, nzA, nzB, nzC]
                refine wpAnyH_done (by kernel_rfl) ?_ _
                go_wp2
                go_returns
                exact ⟨ret_b (by simp only [Hd.placesB, ez.out, *]; rfl), z.trans (hS.below.mono z.size)⟩
              exact AllReadyH.nil
            exact AllReadyH.nil
          refine AllReadyH.cons (o := pk22) rfl (fun K hK => ?_) ?_
          · rw [if_pos (by rfl)]
            simp only [pk22]
            go_simp
            have sl2 : At (v4.alloc (.cells #[.int .i64 h.index] 2)) v4.heap.size #[.int .i64 h.index] 2 := At.new _ _ _
            have hb : Below v4.heap.size v4 (v4.alloc (.cells #[.int .i64 h.index] 2)) := (Below.refl _ _).alloc (Nat.le_refl _) _
            generalize v4.alloc (.cells #[.int .i64 h.index] 2) = v5 at *
            replace sl1 := sl1.keep hb
            have hS2 : Cls W v5 := ⟨hS.below.trans (hb.mono hS.below.size)⟩
            clear hb
            refine hK.out _ _ hS2 (fun hS => ?_)
            clear hK K
            (try simp only [pk22, Act.put, nzA, nzB, nzC])
            refine wpAnyH_ready (rs := [17]) (by kernel_rfl) (by simp) ?_
            refine AllReadyH.cons (o := pk17) rfl (fun K hK => ?_) ?_
            · rw [if_pos (by rfl)]
              simp only [pk17]
              go_simp
              go_at_call 108
              refine (iBlocks p s l c k _).mono ?_
              rintro e v6 ⟨rfl, hb⟩
              rw [eB.out]
              (go_wp2_with fail)
              replace sl1 := sl1.keep hb
              replace sl2 := sl2.keep hb
              have hS2 : Cls W v6 := ⟨hS.below.trans (hb.mono hS.below.size)⟩
              clear hb
              refine hK.out _ _ hS2 (fun hS => ?_)
              clear hK K
              (try simp only [pk17, Act.put, nzA, nzB, nzC])
              refine tkP (i := 18) (oi := pk18) hS (fun w9 => by simp only [pk18]; go_simp; (try with_reducible rfl)) ?_
              simp only [pk18, Act.put, nzA, nzB, nzC]
              refine wpAnyH_ready (rs := [23]) (by kernel_rfl) (by simp) ?_
              refine AllReadyH.cons (o := pk23) rfl (fun K hK => ?_) ?_
              · rw [if_pos (by rfl)]
                simp only [pk23]
                go_simp
                go_at_call 75
                refine (iUpTo _ _ 1 [h.index] rfl (by omega) _ (slices_at sl2)).mono ?_
                rintro e v7 ⟨rfl, rfl⟩
                (try rw [wb.out]); (try rw [wq.out]); rw [e3]
                (go_wp2_with fail)
                have hS2 : Cls W v7 := hS
                refine hK.out _ _ hS2 (fun hS => ?_)
                clear hK K
                (try simp only [pk23, Act.put, nzA, nzB, nzC])
                refine tkP (i := 24) (oi := pk24) hS (fun w9 => by simp only [pk24]; go_simp; (try with_reducible rfl)) ?_
                simp only [pk24, Act.put, nzA, nzB, nzC]
                refine tkP (i := 25) (oi := pk25) hS (fun w9 => by simp only [pk25]; go_simp; (try with_reducible rfl)) ?_
                simp only [pk25, Act.put, nzA, nzB, nzC]
                refine tkS (i := 26) (oi := pk26) hS ?_
                simp only [pk26, Act.put, nzA, nzB, nzC]
                refine tkS (i := 27) (oi := pk27) hS ?_
                simp only [pk27, Act.put, nzA, nzB, nzC]
                refine tkS (i := 28) (oi := pk28) hS ?_
                simp only [pk28, Act.put, nzA, nzB, nzC]
                refine tkS (i := 29) (oi := pk29) hS ?_
                simp only [pk29, Act.put, nzA, nzB, nzC]
                refine tkS (i := 30) (oi := pk30) hS ?_
                simp only [pk30, Act.put, nzA, nzB, nzC]
                refine tkS (i := 31) (oi := pk31) hS ?_
                simp only [pk31, Act.put, nzA, nzB, nzC]
                refine tkS (i := 32) (oi := pk32) hS ?_
                simp only [pk32, Act.put, nzA, nzB, nzC]
                refine tkS (i := 33) (oi := pk33) hS ?_
                simp only [pk33, Act.put, nzA, nzB, nzC]
                refine tkS (i := 34) (oi := pk34) hS ?_
                simp only [pk34, Act.put, nzA, nzB, nzC]
                refine tkP (i := 35) (oi := pk35) hS (fun w9 => by simp only [pk35]; go_simp; (try with_reducible rfl)) ?_
                simp only [pk35, Act.put, nzA, nzB, nzC]
                refine tkP (i := 36) (oi := pk36) hS (fun w9 => by simp only [pk36]; go_simp; (try with_reducible rfl)) ?_
                simp only [pk36, Act.put, nzA, nzB, nzC]
                refine wpAnyH_done (by kernel_rfl) ?_ _
                go_wp2
                go_returns
                exact ⟨ret_b (by simp only [Hd.placesB, ez.out, *]; rfl), z.trans (hS.below.mono z.size)⟩
              exact AllReadyH.nil
            exact AllReadyH.nil
          exact AllReadyH.nil
        exact AllReadyH.nil
      exact AllReadyH.nil
    refine AllReadyH.cons (o := pk12) rfl (fun K hK => ?_) ?_
    · rw [if_pos (by rfl)]
      simp only [pk12]
      go_simp
      have sl1 : At (v1.alloc (.cells #[.int .i64 h.addr] 2)) v1.heap.size #[.int .i64 h.addr] 2 := At.new _ _ _
      have hb : Below v1.heap.size v1 (v1.alloc (.cells #[.int .i64 h.addr] 2)) := (Below.refl _ _).alloc (Nat.le_refl _) _
      generalize v1.alloc (.cells #[.int .i64 h.addr] 2) = v2 at *
      have hS2 : Cls W v2 := ⟨hS.below.trans (hb.mono hS.below.size)⟩
      clear hb
      refine hK.out _ _ hS2 (fun hS => ?_)
      clear hK K
      (try simp only [pk12, Act.put, nzA, nzB, nzC])
      refine wpAnyH_ready (rs := [7]) (by kernel_rfl) (by simp) ?_
      refine AllReadyH.cons (o := pk7) rfl (fun K hK => ?_) ?_
      · rw [if_pos (by rfl)]
        simp only [pk7]
        go_simp
        go_at_call 72
        refine (iSize p s l c k _).mono ?_
        rintro e v3 ⟨rfl, hb⟩
        rw [eS.out]
        (go_wp2_with fail)
        replace sl1 := sl1.keep hb
        have hS2 : Cls W v3 := ⟨hS.below.trans (hb.mono hS.below.size)⟩
        clear hb
        refine hK.out _ _ hS2 (fun hS => ?_)
        clear hK K
        (try simp only [pk7, Act.put, nzA, nzB, nzC])
        refine tkP (i := 8) (oi := pk8) hS (fun w9 => by simp only [pk8]; go_simp; (try with_reducible rfl)) ?_
        simp only [pk8, Act.put, nzA, nzB, nzC]
        refine wpAnyH_ready (rs := [13]) (by kernel_rfl) (by simp) ?_
        refine AllReadyH.cons (o := pk13) rfl (fun K hK => ?_) ?_
        · rw [if_pos (by rfl)]
          simp only [pk13]
          go_simp
          go_at_call 75
          refine (iUpTo _ _ 1 [h.addr] rfl (by omega) _ (slices_at sl1)).mono ?_
          rintro e v4 ⟨rfl, rfl⟩
          (try rw [wz.out]); (try rw [wq.out]); rw [e2]
          (go_wp2_with fail)
          have hS2 : Cls W v4 := hS
          refine hK.out _ _ hS2 (fun hS => ?_)
          clear hK K
          (try simp only [pk13, Act.put, nzA, nzB, nzC])
          refine tkP (i := 14) (oi := pk14) hS (fun w9 => by simp only [pk14]; go_simp; (try with_reducible rfl)) ?_
          simp only [pk14, Act.put, nzA, nzB, nzC]
          refine tkP (i := 15) (oi := pk15) hS (fun w9 => by simp only [pk15]; go_simp; (try with_reducible rfl)) ?_
          simp only [pk15, Act.put, nzA, nzB, nzC]
          refine tkL (i := 16) (oi := pk16) hS rfl rfl (by assumption) ?_
          simp only [pk16, Act.put, nzA, nzB, nzC]
          refine tkP (i := 19) (oi := pk19) hS (fun w9 => by simp only [pk19]; go_simp; (try with_reducible rfl)) ?_
          simp only [pk19, Act.put, nzA, nzB, nzC]
          refine tkP (i := 20) (oi := pk20) hS (fun w9 => by simp only [pk20]; go_simp; (try with_reducible rfl)) ?_
          simp only [pk20, Act.put, nzA, nzB, nzC]
          refine tkL (i := 21) (oi := pk21) hS rfl rfl (by assumption) ?_
          simp only [pk21, Act.put, nzA, nzB, nzC]
          refine wpAnyH_ready (rs := [17, 22]) (by kernel_rfl) (by simp) ?_
          refine AllReadyH.cons (o := pk17) rfl (fun K hK => ?_) ?_
          · rw [if_pos (by rfl)]
            simp only [pk17]
            go_simp
            go_at_call 108
            refine (iBlocks p s l c k _).mono ?_
            rintro e v5 ⟨rfl, hb⟩
            rw [eB.out]
            (go_wp2_with fail)
            replace sl1 := sl1.keep hb
            have hS2 : Cls W v5 := ⟨hS.below.trans (hb.mono hS.below.size)⟩
            clear hb
            refine hK.out _ _ hS2 (fun hS => ?_)
            clear hK K
            (try simp only [pk17, Act.put, nzA, nzB, nzC])
            refine tkP (i := 18) (oi := pk18) hS (fun w9 => by simp only [pk18]; go_simp; (try with_reducible rfl)) ?_
            simp only [pk18, Act.put, nzA, nzB, nzC]
            refine wpAnyH_ready (rs := [22]) (by kernel_rfl) (by simp) ?_
            refine AllReadyH.cons (o := pk22) rfl (fun K hK => ?_) ?_
            · rw [if_pos (by rfl)]
              simp only [pk22]
              go_simp
              have sl2 : At (v5.alloc (.cells #[.int .i64 h.index] 2)) v5.heap.size #[.int .i64 h.index] 2 := At.new _ _ _
              have hb : Below v5.heap.size v5 (v5.alloc (.cells #[.int .i64 h.index] 2)) := (Below.refl _ _).alloc (Nat.le_refl _) _
              generalize v5.alloc (.cells #[.int .i64 h.index] 2) = v6 at *
              replace sl1 := sl1.keep hb
              have hS2 : Cls W v6 := ⟨hS.below.trans (hb.mono hS.below.size)⟩
              clear hb
              refine hK.out _ _ hS2 (fun hS => ?_)
              clear hK K
              (try simp only [pk22, Act.put, nzA, nzB, nzC])
              refine wpAnyH_ready (rs := [23]) (by kernel_rfl) (by simp) ?_
              refine AllReadyH.cons (o := pk23) rfl (fun K hK => ?_) ?_
              · rw [if_pos (by rfl)]
                simp only [pk23]
                go_simp
                go_at_call 75
                refine (iUpTo _ _ 1 [h.index] rfl (by omega) _ (slices_at sl2)).mono ?_
                rintro e v7 ⟨rfl, rfl⟩
                (try rw [wb.out]); (try rw [wq.out]); rw [e3]
                (go_wp2_with fail)
                have hS2 : Cls W v7 := hS
                refine hK.out _ _ hS2 (fun hS => ?_)
                clear hK K
                (try simp only [pk23, Act.put, nzA, nzB, nzC])
                refine tkP (i := 24) (oi := pk24) hS (fun w9 => by simp only [pk24]; go_simp; (try with_reducible rfl)) ?_
                simp only [pk24, Act.put, nzA, nzB, nzC]
                refine tkP (i := 25) (oi := pk25) hS (fun w9 => by simp only [pk25]; go_simp; (try with_reducible rfl)) ?_
                simp only [pk25, Act.put, nzA, nzB, nzC]
                refine tkS (i := 26) (oi := pk26) hS ?_
                simp only [pk26, Act.put, nzA, nzB, nzC]
                refine tkS (i := 27) (oi := pk27) hS ?_
                simp only [pk27, Act.put, nzA, nzB, nzC]
                refine tkS (i := 28) (oi := pk28) hS ?_
                simp only [pk28, Act.put, nzA, nzB, nzC]
                refine tkS (i := 29) (oi := pk29) hS ?_
                simp only [pk29, Act.put, nzA, nzB, nzC]
                refine tkS (i := 30) (oi := pk30) hS ?_
                simp only [pk30, Act.put, nzA, nzB, nzC]
                refine tkS (i := 31) (oi := pk31) hS ?_
                simp only [pk31, Act.put, nzA, nzB, nzC]
                refine tkS (i := 32) (oi := pk32) hS ?_
                simp only [pk32, Act.put, nzA, nzB, nzC]
                refine tkS (i := 33) (oi := pk33) hS ?_
                simp only [pk33, Act.put, nzA, nzB, nzC]
                refine tkS (i := 34) (oi := pk34) hS ?_
                simp only [pk34, Act.put, nzA, nzB, nzC]
                refine tkP (i := 35) (oi := pk35) hS (fun w9 => by simp only [pk35]; go_simp; (try with_reducible rfl)) ?_
                simp only [pk35, Act.put, nzA, nzB, nzC]
                refine tkP (i := 36) (oi := pk36) hS (fun w9 => by simp only [pk36]; go_simp; (try with_reducible rfl)) ?_
                simp only [pk36, Act.put, nzA, nzB, nzC]
                refine wpAnyH_done (by kernel_rfl) ?_ _
                go_wp2
                go_returns
                exact ⟨ret_b (by simp only [Hd.placesB, ez.out, *]; rfl), z.trans (hS.below.mono z.size)⟩
              exact AllReadyH.nil
            exact AllReadyH.nil
          refine AllReadyH.cons (o := pk22) rfl (fun K hK => ?_) ?_
          · rw [if_pos (by rfl)]
            simp only [pk22]
            go_simp
            have sl2 : At (v4.alloc (.cells #[.int .i64 h.index] 2)) v4.heap.size #[.int .i64 h.index] 2 := At.new _ _ _
            have hb : Below v4.heap.size v4 (v4.alloc (.cells #[.int .i64 h.index] 2)) := (Below.refl _ _).alloc (Nat.le_refl _) _
            generalize v4.alloc (.cells #[.int .i64 h.index] 2) = v5 at *
            replace sl1 := sl1.keep hb
            have hS2 : Cls W v5 := ⟨hS.below.trans (hb.mono hS.below.size)⟩
            clear hb
            refine hK.out _ _ hS2 (fun hS => ?_)
            clear hK K
            (try simp only [pk22, Act.put, nzA, nzB, nzC])
            refine wpAnyH_ready (rs := [17]) (by kernel_rfl) (by simp) ?_
            refine AllReadyH.cons (o := pk17) rfl (fun K hK => ?_) ?_
            · rw [if_pos (by rfl)]
              simp only [pk17]
              go_simp
              go_at_call 108
              refine (iBlocks p s l c k _).mono ?_
              rintro e v6 ⟨rfl, hb⟩
              rw [eB.out]
              (go_wp2_with fail)
              replace sl1 := sl1.keep hb
              replace sl2 := sl2.keep hb
              have hS2 : Cls W v6 := ⟨hS.below.trans (hb.mono hS.below.size)⟩
              clear hb
              refine hK.out _ _ hS2 (fun hS => ?_)
              clear hK K
              (try simp only [pk17, Act.put, nzA, nzB, nzC])
              refine tkP (i := 18) (oi := pk18) hS (fun w9 => by simp only [pk18]; go_simp; (try with_reducible rfl)) ?_
              simp only [pk18, Act.put, nzA, nzB, nzC]
              refine wpAnyH_ready (rs := [23]) (by kernel_rfl) (by simp) ?_
              refine AllReadyH.cons (o := pk23) rfl (fun K hK => ?_) ?_
              · rw [if_pos (by rfl)]
                simp only [pk23]
                go_simp
                go_at_call 75
                refine (iUpTo _ _ 1 [h.index] rfl (by omega) _ (slices_at sl2)).mono ?_
                rintro e v7 ⟨rfl, rfl⟩
                (try rw [wb.out]); (try rw [wq.out]); rw [e3]
                (go_wp2_with fail)
                have hS2 : Cls W v7 := hS
                refine hK.out _ _ hS2 (fun hS => ?_)
                clear hK K
                (try simp only [pk23, Act.put, nzA, nzB, nzC])
                refine tkP (i := 24) (oi := pk24) hS (fun w9 => by simp only [pk24]; go_simp; (try with_reducible rfl)) ?_
                simp only [pk24, Act.put, nzA, nzB, nzC]
                refine tkP (i := 25) (oi := pk25) hS (fun w9 => by simp only [pk25]; go_simp; (try with_reducible rfl)) ?_
                simp only [pk25, Act.put, nzA, nzB, nzC]
                refine tkS (i := 26) (oi := pk26) hS ?_
                simp only [pk26, Act.put, nzA, nzB, nzC]
                refine tkS (i := 27) (oi := pk27) hS ?_
                simp only [pk27, Act.put, nzA, nzB, nzC]
                refine tkS (i := 28) (oi := pk28) hS ?_
                simp only [pk28, Act.put, nzA, nzB, nzC]
                refine tkS (i := 29) (oi := pk29) hS ?_
                simp only [pk29, Act.put, nzA, nzB, nzC]
                refine tkS (i := 30) (oi := pk30) hS ?_
                simp only [pk30, Act.put, nzA, nzB, nzC]
                refine tkS (i := 31) (oi := pk31) hS ?_
                simp only [pk31, Act.put, nzA, nzB, nzC]
                refine tkS (i := 32) (oi := pk32) hS ?_
                simp only [pk32, Act.put, nzA, nzB, nzC]
                refine tkS (i := 33) (oi := pk33) hS ?_
                simp only [pk33, Act.put, nzA, nzB, nzC]
                refine tkS (i := 34) (oi := pk34) hS ?_
                simp only [pk34, Act.put, nzA, nzB, nzC]
                refine tkP (i := 35) (oi := pk35) hS (fun w9 => by simp only [pk35]; go_simp; (try with_reducible rfl)) ?_
                simp only [pk35, Act.put, nzA, nzB, nzC]
                refine tkP (i := 36) (oi := pk36) hS (fun w9 => by simp only [pk36]; go_simp; (try with_reducible rfl)) ?_
                simp only [pk36, Act.put, nzA, nzB, nzC]
                refine wpAnyH_done (by kernel_rfl) ?_ _
                go_wp2
                go_returns
                exact ⟨ret_b (by simp only [Hd.placesB, ez.out, *]; rfl), z.trans (hS.below.mono z.size)⟩
              exact AllReadyH.nil
            exact AllReadyH.nil
          exact AllReadyH.nil
        exact AllReadyH.nil
      exact AllReadyH.nil
    exact AllReadyH.nil
  exact AllReadyH.nil
set_option maxHeartbeats 32000000 in
theorem iPlacesD (p s l c k z0 : Int) (h : Hd) (ho : ok p s l c k = true) (ez : Hid (zF p s l c = z0)) (zb : 0 ≤ z0 ∧ z0 ≤ 100000) (e1 : inB h.for_ 0 (p - 1) = true) (e2 : allUp (z0 - 1) [h.addr] = true) (e3 : allUp (s + l + 1) [h.index] = true) (e4 : allUp (2 * p - 1) [h.which] = true) (w : World) : Calls Tryz.prog 82 #[.agg h.ps.toArray, .agg #[.int .i64 p, .int .i64 s, .int .i64 l, .int .i64 c, .int .i64 k]] w fun e w' => e = .returned (.bool (h.placesB p s l c)) ∧ Below w.heap.size w w' := by
  have h' := ok_iff.1 ho
  have eS : Hid (vSize p s l c k = z0) := by rw [← ez.out]; unfold vSize; rw [ho]; rfl
  have eB : Hid (vBlocks p s l c k = s + l) := by unfold vBlocks; rw [ho]; rfl
  have wz : Hid (IntKind.i64.wrap (z0 - 1) = z0 - 1) := by show _ = _; rw [IntKind.wrap_i64]; omega
  have wb : Hid (IntKind.i64.wrap (s + l + 1) = s + l + 1) := by show _ = _; rw [IntKind.wrap_i64]; omega
  have wp : Hid (IntKind.i64.wrap (IntKind.i64.wrap (2 * p) - 1) = 2 * p - 1) := by show _ = _; rw [IntKind.wrap_i64, IntKind.wrap_i64]; omega
  have wq : Hid (IntKind.i64.wrap (2 * p - 1) = 2 * p - 1) := by show _ = _; rw [IntKind.wrap_i64]; omega
  go_enter Tryz.func82, Tryz.ntmps82
  go_upto_region 1 with fail
  refine wp_at (fun W => At W w.heap.size h.ps.toArray 111 ∧ At W (w.heap.size + 1) #[.int .i64 p, .int .i64 s, .int .i64 l, .int .i64 c, .int .i64 k] 35 ∧ Below w.heap.size w W) (two_box w _ _ _ _) ?_
  rintro W ⟨A, P, z⟩
  have l11 : ∀ w', Cls W w' → (loadVar 2 ⟨w.heap.size, 11, none⟩).run Tryz.prog w' = .ok (.int .i64 h.for_) w' := ld_i A Tryz.underlying2 rfl
  have l17 : ∀ w', Cls W w' → (loadVar 2 ⟨w.heap.size, 17, none⟩).run Tryz.prog w' = .ok (.int .i64 h.addr) w' := ld_i A Tryz.underlying2 rfl
  have l29 : ∀ w', Cls W w' → (loadVar 2 ⟨w.heap.size, 29, none⟩).run Tryz.prog w' = .ok (.int .i64 h.index) w' := ld_i A Tryz.underlying2 rfl
  have l30 : ∀ w', Cls W w' → (loadVar 2 ⟨w.heap.size, 30, none⟩).run Tryz.prog w' = .ok (.int .i64 h.which) w' := ld_i A Tryz.underlying2 rfl
  have l0 : ∀ w', Cls W w' → (loadVar 2 ⟨w.heap.size + 1, 0, none⟩).run Tryz.prog w' = .ok (.int .i64 p) w' := ld_i P Tryz.underlying2 rfl
  have lp : ∀ w', Cls W w' → (loadVar 35 ⟨w.heap.size + 1, 0, none⟩).run Tryz.prog w' = .ok (.agg #[.int .i64 p, .int .i64 s, .int .i64 l, .int .i64 c, .int .i64 k]) w' := ld_agg (vs := [.int .i64 p, .int .i64 s, .int .i64 l, .int .i64 c, .int .i64 k]) P Tryz.underlying35 rfl (by kernel_rfl)
  refine wp_region_held_drew (S := Cls W) (by kernel_rfl) ⟨⟨rfl, rfl, rfl, Nat.le_refl _, fun _ _ => rfl⟩⟩ (fun hS => ?_)
  generalize W.drew = v0 at *
  refine tkL (i := 0) (oi := pk0) hS rfl rfl (by assumption) ?_
  simp only [pk0, Act.put, nzA, nzB, nzC]
  refine tkP (i := 1) (oi := pk1) hS (fun w9 => by simp only [pk1]; go_simp; (try with_reducible rfl)) ?_
  simp only [pk1, Act.put, nzA, nzB, nzC]
  refine tkP (i := 2) (oi := pk2) hS (fun w9 => by simp only [pk2]; go_simp; (try with_reducible rfl)) ?_
  simp only [pk2, Act.put, nzA, nzB, nzC]
  refine tkL (i := 3) (oi := pk3) hS rfl rfl (by assumption) ?_
  simp only [pk3, Act.put, nzA, nzB, nzC]
  refine wpAnyH_ready (rs := [4]) (by kernel_rfl) (by simp) ?_
  refine AllReadyH.cons (o := pk4) rfl (fun K hK => ?_) ?_
  · rw [if_pos (by rfl)]
    simp only [pk4]
    go_simp
    go_at_call 42
    refine (iHas p s l c k h.for_ ho _).mono ?_
    rintro e v1 ⟨rfl, hb⟩
    rw [e1]
    (go_wp2_with fail)
    have hS2 : Cls W v1 := ⟨hS.below.trans (hb.mono hS.below.size)⟩
    clear hb
    refine hK.out _ _ hS2 (fun hS => ?_)
    clear hK K
    (try simp only [pk4, Act.put, nzA, nzB, nzC])
    refine tkP (i := 5) (oi := pk5) hS (fun w9 => by simp only [pk5]; go_simp; (try with_reducible rfl)) ?_
    simp only [pk5, Act.put, nzA, nzB, nzC]
    refine tkL (i := 6) (oi := pk6) hS rfl rfl (by assumption) ?_
    simp only [pk6, Act.put, nzA, nzB, nzC]
    refine tkP (i := 9) (oi := pk9) hS (fun w9 => by simp only [pk9]; go_simp; (try with_reducible rfl)) ?_
    simp only [pk9, Act.put, nzA, nzB, nzC]
    refine tkP (i := 10) (oi := pk10) hS (fun w9 => by simp only [pk10]; go_simp; (try with_reducible rfl)) ?_
    simp only [pk10, Act.put, nzA, nzB, nzC]
    refine tkL (i := 11) (oi := pk11) hS rfl rfl (by assumption) ?_
    simp only [pk11, Act.put, nzA, nzB, nzC]
    refine wpAnyH_ready (rs := [7, 12]) (by kernel_rfl) (by simp) ?_
    refine AllReadyH.cons (o := pk7) rfl (fun K hK => ?_) ?_
    · rw [if_pos (by rfl)]
      simp only [pk7]
      go_simp
      go_at_call 72
      refine (iSize p s l c k _).mono ?_
      rintro e v2 ⟨rfl, hb⟩
      rw [eS.out]
      (go_wp2_with fail)
      have hS2 : Cls W v2 := ⟨hS.below.trans (hb.mono hS.below.size)⟩
      clear hb
      refine hK.out _ _ hS2 (fun hS => ?_)
      clear hK K
      (try simp only [pk7, Act.put, nzA, nzB, nzC])
      refine tkP (i := 8) (oi := pk8) hS (fun w9 => by simp only [pk8]; go_simp; (try with_reducible rfl)) ?_
      simp only [pk8, Act.put, nzA, nzB, nzC]
      refine wpAnyH_ready (rs := [12]) (by kernel_rfl) (by simp) ?_
      refine AllReadyH.cons (o := pk12) rfl (fun K hK => ?_) ?_
      · rw [if_pos (by rfl)]
        simp only [pk12]
        go_simp
        have sl1 : At (v2.alloc (.cells #[.int .i64 h.addr] 2)) v2.heap.size #[.int .i64 h.addr] 2 := At.new _ _ _
        have hb : Below v2.heap.size v2 (v2.alloc (.cells #[.int .i64 h.addr] 2)) := (Below.refl _ _).alloc (Nat.le_refl _) _
        generalize v2.alloc (.cells #[.int .i64 h.addr] 2) = v3 at *
        have hS2 : Cls W v3 := ⟨hS.below.trans (hb.mono hS.below.size)⟩
        clear hb
        refine hK.out _ _ hS2 (fun hS => ?_)
        clear hK K
        (try simp only [pk12, Act.put, nzA, nzB, nzC])
        refine wpAnyH_ready (rs := [13]) (by kernel_rfl) (by simp) ?_
        refine AllReadyH.cons (o := pk13) rfl (fun K hK => ?_) ?_
        · rw [if_pos (by rfl)]
          simp only [pk13]
          go_simp
          go_at_call 75
          refine (iUpTo _ _ 1 [h.addr] rfl (by omega) _ (slices_at sl1)).mono ?_
          rintro e v4 ⟨rfl, rfl⟩
          (try rw [wz.out]); (try rw [wq.out]); rw [e2]
          (go_wp2_with fail)
          have hS2 : Cls W v4 := hS
          refine hK.out _ _ hS2 (fun hS => ?_)
          clear hK K
          (try simp only [pk13, Act.put, nzA, nzB, nzC])
          refine tkP (i := 14) (oi := pk14) hS (fun w9 => by simp only [pk14]; go_simp; (try with_reducible rfl)) ?_
          simp only [pk14, Act.put, nzA, nzB, nzC]
          refine tkP (i := 15) (oi := pk15) hS (fun w9 => by simp only [pk15]; go_simp; (try with_reducible rfl)) ?_
          simp only [pk15, Act.put, nzA, nzB, nzC]
          refine tkL (i := 16) (oi := pk16) hS rfl rfl (by assumption) ?_
          simp only [pk16, Act.put, nzA, nzB, nzC]
          refine tkP (i := 19) (oi := pk19) hS (fun w9 => by simp only [pk19]; go_simp; (try with_reducible rfl)) ?_
          simp only [pk19, Act.put, nzA, nzB, nzC]
          refine tkP (i := 20) (oi := pk20) hS (fun w9 => by simp only [pk20]; go_simp; (try with_reducible rfl)) ?_
          simp only [pk20, Act.put, nzA, nzB, nzC]
          refine tkL (i := 21) (oi := pk21) hS rfl rfl (by assumption) ?_
          simp only [pk21, Act.put, nzA, nzB, nzC]
          refine wpAnyH_ready (rs := [17, 22]) (by kernel_rfl) (by simp) ?_
          refine AllReadyH.cons (o := pk17) rfl (fun K hK => ?_) ?_
          · rw [if_pos (by rfl)]
            simp only [pk17]
            go_simp
            go_at_call 108
            refine (iBlocks p s l c k _).mono ?_
            rintro e v5 ⟨rfl, hb⟩
            rw [eB.out]
            (go_wp2_with fail)
            replace sl1 := sl1.keep hb
            have hS2 : Cls W v5 := ⟨hS.below.trans (hb.mono hS.below.size)⟩
            clear hb
            refine hK.out _ _ hS2 (fun hS => ?_)
            clear hK K
            (try simp only [pk17, Act.put, nzA, nzB, nzC])
            refine tkP (i := 18) (oi := pk18) hS (fun w9 => by simp only [pk18]; go_simp; (try with_reducible rfl)) ?_
            simp only [pk18, Act.put, nzA, nzB, nzC]
            refine wpAnyH_ready (rs := [22]) (by kernel_rfl) (by simp) ?_
            refine AllReadyH.cons (o := pk22) rfl (fun K hK => ?_) ?_
            · rw [if_pos (by rfl)]
              simp only [pk22]
              go_simp
              have sl2 : At (v5.alloc (.cells #[.int .i64 h.index] 2)) v5.heap.size #[.int .i64 h.index] 2 := At.new _ _ _
              have hb : Below v5.heap.size v5 (v5.alloc (.cells #[.int .i64 h.index] 2)) := (Below.refl _ _).alloc (Nat.le_refl _) _
              generalize v5.alloc (.cells #[.int .i64 h.index] 2) = v6 at *
              replace sl1 := sl1.keep hb
              have hS2 : Cls W v6 := ⟨hS.below.trans (hb.mono hS.below.size)⟩
              clear hb
              refine hK.out _ _ hS2 (fun hS => ?_)
              clear hK K
              (try simp only [pk22, Act.put, nzA, nzB, nzC])
              refine wpAnyH_ready (rs := [23]) (by kernel_rfl) (by simp) ?_
              refine AllReadyH.cons (o := pk23) rfl (fun K hK => ?_) ?_
              · rw [if_pos (by rfl)]
                simp only [pk23]
                go_simp
                go_at_call 75
                refine (iUpTo _ _ 1 [h.index] rfl (by omega) _ (slices_at sl2)).mono ?_
                rintro e v7 ⟨rfl, rfl⟩
                (try rw [wb.out]); (try rw [wq.out]); rw [e3]
                (go_wp2_with fail)
                have hS2 : Cls W v7 := hS
                refine hK.out _ _ hS2 (fun hS => ?_)
                clear hK K
                (try simp only [pk23, Act.put, nzA, nzB, nzC])
                refine tkP (i := 24) (oi := pk24) hS (fun w9 => by simp only [pk24]; go_simp; (try with_reducible rfl)) ?_
                simp only [pk24, Act.put, nzA, nzB, nzC]
                refine tkP (i := 25) (oi := pk25) hS (fun w9 => by simp only [pk25]; go_simp; (try with_reducible rfl)) ?_
                simp only [pk25, Act.put, nzA, nzB, nzC]
                refine tkP (i := 26) (oi := pk26) hS (fun w9 => by simp only [pk26]; go_simp; (try with_reducible rfl)) ?_
                simp only [pk26, Act.put, nzA, nzB, nzC]
                refine tkL (i := 27) (oi := pk27) hS rfl rfl (by assumption) ?_
                simp only [pk27, Act.put, nzA, nzB, nzC]
                refine tkP (i := 28) (oi := pk28) hS (fun w9 => by simp only [pk28]; go_simp; (try with_reducible rfl)) ?_
                simp only [pk28, Act.put, nzA, nzB, nzC]
                refine tkP (i := 29) (oi := pk29) hS (fun w9 => by simp only [pk29]; go_simp; (try with_reducible rfl)) ?_
                simp only [pk29, Act.put, nzA, nzB, nzC]
                refine tkP (i := 30) (oi := pk30) hS (fun w9 => by simp only [pk30]; go_simp; (try with_reducible rfl)) ?_
                simp only [pk30, Act.put, nzA, nzB, nzC]
                refine tkP (i := 31) (oi := pk31) hS (fun w9 => by simp only [pk31]; go_simp; (try with_reducible rfl)) ?_
                simp only [pk31, Act.put, nzA, nzB, nzC]
                refine tkL (i := 32) (oi := pk32) hS rfl rfl (by assumption) ?_
                simp only [pk32, Act.put, nzA, nzB, nzC]
                refine wpAnyH_ready (rs := [33]) (by kernel_rfl) (by simp) ?_
                refine AllReadyH.cons (o := pk33) rfl (fun K hK => ?_) ?_
                · rw [if_pos (by rfl)]
                  simp only [pk33]
                  go_simp
                  have sl3 : At (v7.alloc (.cells #[.int .i64 h.which] 2)) v7.heap.size #[.int .i64 h.which] 2 := At.new _ _ _
                  have hb : Below v7.heap.size v7 (v7.alloc (.cells #[.int .i64 h.which] 2)) := (Below.refl _ _).alloc (Nat.le_refl _) _
                  generalize v7.alloc (.cells #[.int .i64 h.which] 2) = v8 at *
                  replace sl1 := sl1.keep hb
                  replace sl2 := sl2.keep hb
                  have hS2 : Cls W v8 := ⟨hS.below.trans (hb.mono hS.below.size)⟩
                  clear hb
                  refine hK.out _ _ hS2 (fun hS => ?_)
                  clear hK K
                  (try simp only [pk33, Act.put, nzA, nzB, nzC])
                  refine wpAnyH_ready (rs := [34]) (by kernel_rfl) (by simp) ?_
                  refine AllReadyH.cons (o := pk34) rfl (fun K hK => ?_) ?_
                  · rw [if_pos (by rfl)]
                    simp only [pk34]
                    go_simp
                    go_at_call 75
                    refine (iUpTo _ _ 1 [h.which] rfl (by omega) _ (slices_at sl3)).mono ?_
                    rintro e v9 ⟨rfl, rfl⟩
                    (try rw [wp.out]); (try rw [wq.out]); rw [e4]
                    (go_wp2_with fail)
                    have hS2 : Cls W v9 := hS
                    refine hK.out _ _ hS2 (fun hS => ?_)
                    clear hK K
                    (try simp only [pk34, Act.put, nzA, nzB, nzC])
                    refine tkP (i := 35) (oi := pk35) hS (fun w9 => by simp only [pk35]; go_simp; (try with_reducible rfl)) ?_
                    simp only [pk35, Act.put, nzA, nzB, nzC]
                    refine tkP (i := 36) (oi := pk36) hS (fun w9 => by simp only [pk36]; go_simp; (try with_reducible rfl)) ?_
                    simp only [pk36, Act.put, nzA, nzB, nzC]
                    refine wpAnyH_done (by kernel_rfl) ?_ _
                    go_wp2
                    go_returns
                    exact ⟨ret_b (by simp only [Hd.placesB, ez.out, *]; rfl), z.trans (hS.below.mono z.size)⟩
                  exact AllReadyH.nil
                exact AllReadyH.nil
              exact AllReadyH.nil
            exact AllReadyH.nil
          refine AllReadyH.cons (o := pk22) rfl (fun K hK => ?_) ?_
          · rw [if_pos (by rfl)]
            simp only [pk22]
            go_simp
            have sl2 : At (v4.alloc (.cells #[.int .i64 h.index] 2)) v4.heap.size #[.int .i64 h.index] 2 := At.new _ _ _
            have hb : Below v4.heap.size v4 (v4.alloc (.cells #[.int .i64 h.index] 2)) := (Below.refl _ _).alloc (Nat.le_refl _) _
            generalize v4.alloc (.cells #[.int .i64 h.index] 2) = v5 at *
            replace sl1 := sl1.keep hb
            have hS2 : Cls W v5 := ⟨hS.below.trans (hb.mono hS.below.size)⟩
            clear hb
            refine hK.out _ _ hS2 (fun hS => ?_)
            clear hK K
            (try simp only [pk22, Act.put, nzA, nzB, nzC])
            refine wpAnyH_ready (rs := [17]) (by kernel_rfl) (by simp) ?_
            refine AllReadyH.cons (o := pk17) rfl (fun K hK => ?_) ?_
            · rw [if_pos (by rfl)]
              simp only [pk17]
              go_simp
              go_at_call 108
              refine (iBlocks p s l c k _).mono ?_
              rintro e v6 ⟨rfl, hb⟩
              rw [eB.out]
              (go_wp2_with fail)
              replace sl1 := sl1.keep hb
              replace sl2 := sl2.keep hb
              have hS2 : Cls W v6 := ⟨hS.below.trans (hb.mono hS.below.size)⟩
              clear hb
              refine hK.out _ _ hS2 (fun hS => ?_)
              clear hK K
              (try simp only [pk17, Act.put, nzA, nzB, nzC])
              refine tkP (i := 18) (oi := pk18) hS (fun w9 => by simp only [pk18]; go_simp; (try with_reducible rfl)) ?_
              simp only [pk18, Act.put, nzA, nzB, nzC]
              refine wpAnyH_ready (rs := [23]) (by kernel_rfl) (by simp) ?_
              refine AllReadyH.cons (o := pk23) rfl (fun K hK => ?_) ?_
              · rw [if_pos (by rfl)]
                simp only [pk23]
                go_simp
                go_at_call 75
                refine (iUpTo _ _ 1 [h.index] rfl (by omega) _ (slices_at sl2)).mono ?_
                rintro e v7 ⟨rfl, rfl⟩
                (try rw [wb.out]); (try rw [wq.out]); rw [e3]
                (go_wp2_with fail)
                have hS2 : Cls W v7 := hS
                refine hK.out _ _ hS2 (fun hS => ?_)
                clear hK K
                (try simp only [pk23, Act.put, nzA, nzB, nzC])
                refine tkP (i := 24) (oi := pk24) hS (fun w9 => by simp only [pk24]; go_simp; (try with_reducible rfl)) ?_
                simp only [pk24, Act.put, nzA, nzB, nzC]
                refine tkP (i := 25) (oi := pk25) hS (fun w9 => by simp only [pk25]; go_simp; (try with_reducible rfl)) ?_
                simp only [pk25, Act.put, nzA, nzB, nzC]
                refine tkP (i := 26) (oi := pk26) hS (fun w9 => by simp only [pk26]; go_simp; (try with_reducible rfl)) ?_
                simp only [pk26, Act.put, nzA, nzB, nzC]
                refine tkL (i := 27) (oi := pk27) hS rfl rfl (by assumption) ?_
                simp only [pk27, Act.put, nzA, nzB, nzC]
                refine tkP (i := 28) (oi := pk28) hS (fun w9 => by simp only [pk28]; go_simp; (try with_reducible rfl)) ?_
                simp only [pk28, Act.put, nzA, nzB, nzC]
                refine tkP (i := 29) (oi := pk29) hS (fun w9 => by simp only [pk29]; go_simp; (try with_reducible rfl)) ?_
                simp only [pk29, Act.put, nzA, nzB, nzC]
                refine tkP (i := 30) (oi := pk30) hS (fun w9 => by simp only [pk30]; go_simp; (try with_reducible rfl)) ?_
                simp only [pk30, Act.put, nzA, nzB, nzC]
                refine tkP (i := 31) (oi := pk31) hS (fun w9 => by simp only [pk31]; go_simp; (try with_reducible rfl)) ?_
                simp only [pk31, Act.put, nzA, nzB, nzC]
                refine tkL (i := 32) (oi := pk32) hS rfl rfl (by assumption) ?_
                simp only [pk32, Act.put, nzA, nzB, nzC]
                refine wpAnyH_ready (rs := [33]) (by kernel_rfl) (by simp) ?_
                refine AllReadyH.cons (o := pk33) rfl (fun K hK => ?_) ?_
                · rw [if_pos (by rfl)]
                  simp only [pk33]
                  go_simp
                  have sl3 : At (v7.alloc (.cells #[.int .i64 h.which] 2)) v7.heap.size #[.int .i64 h.which] 2 := At.new _ _ _
                  have hb : Below v7.heap.size v7 (v7.alloc (.cells #[.int .i64 h.which] 2)) := (Below.refl _ _).alloc (Nat.le_refl _) _
                  generalize v7.alloc (.cells #[.int .i64 h.which] 2) = v8 at *
                  replace sl1 := sl1.keep hb
                  replace sl2 := sl2.keep hb
                  have hS2 : Cls W v8 := ⟨hS.below.trans (hb.mono hS.below.size)⟩
                  clear hb
                  refine hK.out _ _ hS2 (fun hS => ?_)
                  clear hK K
                  (try simp only [pk33, Act.put, nzA, nzB, nzC])
                  refine wpAnyH_ready (rs := [34]) (by kernel_rfl) (by simp) ?_
                  refine AllReadyH.cons (o := pk34) rfl (fun K hK => ?_) ?_
                  · rw [if_pos (by rfl)]
                    simp only [pk34]
                    go_simp
                    go_at_call 75
                    refine (iUpTo _ _ 1 [h.which] rfl (by omega) _ (slices_at sl3)).mono ?_
                    rintro e v9 ⟨rfl, rfl⟩
                    (try rw [wp.out]); (try rw [wq.out]); rw [e4]
                    (go_wp2_with fail)
                    have hS2 : Cls W v9 := hS
                    refine hK.out _ _ hS2 (fun hS => ?_)
                    clear hK K
                    (try simp only [pk34, Act.put, nzA, nzB, nzC])
                    refine tkP (i := 35) (oi := pk35) hS (fun w9 => by simp only [pk35]; go_simp; (try with_reducible rfl)) ?_
                    simp only [pk35, Act.put, nzA, nzB, nzC]
                    refine tkP (i := 36) (oi := pk36) hS (fun w9 => by simp only [pk36]; go_simp; (try with_reducible rfl)) ?_
                    simp only [pk36, Act.put, nzA, nzB, nzC]
                    refine wpAnyH_done (by kernel_rfl) ?_ _
                    go_wp2
                    go_returns
                    exact ⟨ret_b (by simp only [Hd.placesB, ez.out, *]; rfl), z.trans (hS.below.mono z.size)⟩
                  exact AllReadyH.nil
                exact AllReadyH.nil
              exact AllReadyH.nil
            exact AllReadyH.nil
          exact AllReadyH.nil
        exact AllReadyH.nil
      exact AllReadyH.nil
    refine AllReadyH.cons (o := pk12) rfl (fun K hK => ?_) ?_
    · rw [if_pos (by rfl)]
      simp only [pk12]
      go_simp
      have sl1 : At (v1.alloc (.cells #[.int .i64 h.addr] 2)) v1.heap.size #[.int .i64 h.addr] 2 := At.new _ _ _
      have hb : Below v1.heap.size v1 (v1.alloc (.cells #[.int .i64 h.addr] 2)) := (Below.refl _ _).alloc (Nat.le_refl _) _
      generalize v1.alloc (.cells #[.int .i64 h.addr] 2) = v2 at *
      have hS2 : Cls W v2 := ⟨hS.below.trans (hb.mono hS.below.size)⟩
      clear hb
      refine hK.out _ _ hS2 (fun hS => ?_)
      clear hK K
      (try simp only [pk12, Act.put, nzA, nzB, nzC])
      refine wpAnyH_ready (rs := [7]) (by kernel_rfl) (by simp) ?_
      refine AllReadyH.cons (o := pk7) rfl (fun K hK => ?_) ?_
      · rw [if_pos (by rfl)]
        simp only [pk7]
        go_simp
        go_at_call 72
        refine (iSize p s l c k _).mono ?_
        rintro e v3 ⟨rfl, hb⟩
        rw [eS.out]
        (go_wp2_with fail)
        replace sl1 := sl1.keep hb
        have hS2 : Cls W v3 := ⟨hS.below.trans (hb.mono hS.below.size)⟩
        clear hb
        refine hK.out _ _ hS2 (fun hS => ?_)
        clear hK K
        (try simp only [pk7, Act.put, nzA, nzB, nzC])
        refine tkP (i := 8) (oi := pk8) hS (fun w9 => by simp only [pk8]; go_simp; (try with_reducible rfl)) ?_
        simp only [pk8, Act.put, nzA, nzB, nzC]
        refine wpAnyH_ready (rs := [13]) (by kernel_rfl) (by simp) ?_
        refine AllReadyH.cons (o := pk13) rfl (fun K hK => ?_) ?_
        · rw [if_pos (by rfl)]
          simp only [pk13]
          go_simp
          go_at_call 75
          refine (iUpTo _ _ 1 [h.addr] rfl (by omega) _ (slices_at sl1)).mono ?_
          rintro e v4 ⟨rfl, rfl⟩
          (try rw [wz.out]); (try rw [wq.out]); rw [e2]
          (go_wp2_with fail)
          have hS2 : Cls W v4 := hS
          refine hK.out _ _ hS2 (fun hS => ?_)
          clear hK K
          (try simp only [pk13, Act.put, nzA, nzB, nzC])
          refine tkP (i := 14) (oi := pk14) hS (fun w9 => by simp only [pk14]; go_simp; (try with_reducible rfl)) ?_
          simp only [pk14, Act.put, nzA, nzB, nzC]
          refine tkP (i := 15) (oi := pk15) hS (fun w9 => by simp only [pk15]; go_simp; (try with_reducible rfl)) ?_
          simp only [pk15, Act.put, nzA, nzB, nzC]
          refine tkL (i := 16) (oi := pk16) hS rfl rfl (by assumption) ?_
          simp only [pk16, Act.put, nzA, nzB, nzC]
          refine tkP (i := 19) (oi := pk19) hS (fun w9 => by simp only [pk19]; go_simp; (try with_reducible rfl)) ?_
          simp only [pk19, Act.put, nzA, nzB, nzC]
          refine tkP (i := 20) (oi := pk20) hS (fun w9 => by simp only [pk20]; go_simp; (try with_reducible rfl)) ?_
          simp only [pk20, Act.put, nzA, nzB, nzC]
          refine tkL (i := 21) (oi := pk21) hS rfl rfl (by assumption) ?_
          simp only [pk21, Act.put, nzA, nzB, nzC]
          refine wpAnyH_ready (rs := [17, 22]) (by kernel_rfl) (by simp) ?_
          refine AllReadyH.cons (o := pk17) rfl (fun K hK => ?_) ?_
          · rw [if_pos (by rfl)]
            simp only [pk17]
            go_simp
            go_at_call 108
            refine (iBlocks p s l c k _).mono ?_
            rintro e v5 ⟨rfl, hb⟩
            rw [eB.out]
            (go_wp2_with fail)
            replace sl1 := sl1.keep hb
            have hS2 : Cls W v5 := ⟨hS.below.trans (hb.mono hS.below.size)⟩
            clear hb
            refine hK.out _ _ hS2 (fun hS => ?_)
            clear hK K
            (try simp only [pk17, Act.put, nzA, nzB, nzC])
            refine tkP (i := 18) (oi := pk18) hS (fun w9 => by simp only [pk18]; go_simp; (try with_reducible rfl)) ?_
            simp only [pk18, Act.put, nzA, nzB, nzC]
            refine wpAnyH_ready (rs := [22]) (by kernel_rfl) (by simp) ?_
            refine AllReadyH.cons (o := pk22) rfl (fun K hK => ?_) ?_
            · rw [if_pos (by rfl)]
              simp only [pk22]
              go_simp
              have sl2 : At (v5.alloc (.cells #[.int .i64 h.index] 2)) v5.heap.size #[.int .i64 h.index] 2 := At.new _ _ _
              have hb : Below v5.heap.size v5 (v5.alloc (.cells #[.int .i64 h.index] 2)) := (Below.refl _ _).alloc (Nat.le_refl _) _
              generalize v5.alloc (.cells #[.int .i64 h.index] 2) = v6 at *
              replace sl1 := sl1.keep hb
              have hS2 : Cls W v6 := ⟨hS.below.trans (hb.mono hS.below.size)⟩
              clear hb
              refine hK.out _ _ hS2 (fun hS => ?_)
              clear hK K
              (try simp only [pk22, Act.put, nzA, nzB, nzC])
              refine wpAnyH_ready (rs := [23]) (by kernel_rfl) (by simp) ?_
              refine AllReadyH.cons (o := pk23) rfl (fun K hK => ?_) ?_
              · rw [if_pos (by rfl)]
                simp only [pk23]
                go_simp
                go_at_call 75
                refine (iUpTo _ _ 1 [h.index] rfl (by omega) _ (slices_at sl2)).mono ?_
                rintro e v7 ⟨rfl, rfl⟩
                (try rw [wb.out]); (try rw [wq.out]); rw [e3]
                (go_wp2_with fail)
                have hS2 : Cls W v7 := hS
                refine hK.out _ _ hS2 (fun hS => ?_)
                clear hK K
                (try simp only [pk23, Act.put, nzA, nzB, nzC])
                refine tkP (i := 24) (oi := pk24) hS (fun w9 => by simp only [pk24]; go_simp; (try with_reducible rfl)) ?_
                simp only [pk24, Act.put, nzA, nzB, nzC]
                refine tkP (i := 25) (oi := pk25) hS (fun w9 => by simp only [pk25]; go_simp; (try with_reducible rfl)) ?_
                simp only [pk25, Act.put, nzA, nzB, nzC]
                refine tkP (i := 26) (oi := pk26) hS (fun w9 => by simp only [pk26]; go_simp; (try with_reducible rfl)) ?_
                simp only [pk26, Act.put, nzA, nzB, nzC]
                refine tkL (i := 27) (oi := pk27) hS rfl rfl (by assumption) ?_
                simp only [pk27, Act.put, nzA, nzB, nzC]
                refine tkP (i := 28) (oi := pk28) hS (fun w9 => by simp only [pk28]; go_simp; (try with_reducible rfl)) ?_
                simp only [pk28, Act.put, nzA, nzB, nzC]
                refine tkP (i := 29) (oi := pk29) hS (fun w9 => by simp only [pk29]; go_simp; (try with_reducible rfl)) ?_
                simp only [pk29, Act.put, nzA, nzB, nzC]
                refine tkP (i := 30) (oi := pk30) hS (fun w9 => by simp only [pk30]; go_simp; (try with_reducible rfl)) ?_
                simp only [pk30, Act.put, nzA, nzB, nzC]
                refine tkP (i := 31) (oi := pk31) hS (fun w9 => by simp only [pk31]; go_simp; (try with_reducible rfl)) ?_
                simp only [pk31, Act.put, nzA, nzB, nzC]
                refine tkL (i := 32) (oi := pk32) hS rfl rfl (by assumption) ?_
                simp only [pk32, Act.put, nzA, nzB, nzC]
                refine wpAnyH_ready (rs := [33]) (by kernel_rfl) (by simp) ?_
                refine AllReadyH.cons (o := pk33) rfl (fun K hK => ?_) ?_
                · rw [if_pos (by rfl)]
                  simp only [pk33]
                  go_simp
                  have sl3 : At (v7.alloc (.cells #[.int .i64 h.which] 2)) v7.heap.size #[.int .i64 h.which] 2 := At.new _ _ _
                  have hb : Below v7.heap.size v7 (v7.alloc (.cells #[.int .i64 h.which] 2)) := (Below.refl _ _).alloc (Nat.le_refl _) _
                  generalize v7.alloc (.cells #[.int .i64 h.which] 2) = v8 at *
                  replace sl1 := sl1.keep hb
                  replace sl2 := sl2.keep hb
                  have hS2 : Cls W v8 := ⟨hS.below.trans (hb.mono hS.below.size)⟩
                  clear hb
                  refine hK.out _ _ hS2 (fun hS => ?_)
                  clear hK K
                  (try simp only [pk33, Act.put, nzA, nzB, nzC])
                  refine wpAnyH_ready (rs := [34]) (by kernel_rfl) (by simp) ?_
                  refine AllReadyH.cons (o := pk34) rfl (fun K hK => ?_) ?_
                  · rw [if_pos (by rfl)]
                    simp only [pk34]
                    go_simp
                    go_at_call 75
                    refine (iUpTo _ _ 1 [h.which] rfl (by omega) _ (slices_at sl3)).mono ?_
                    rintro e v9 ⟨rfl, rfl⟩
                    (try rw [wp.out]); (try rw [wq.out]); rw [e4]
                    (go_wp2_with fail)
                    have hS2 : Cls W v9 := hS
                    refine hK.out _ _ hS2 (fun hS => ?_)
                    clear hK K
                    (try simp only [pk34, Act.put, nzA, nzB, nzC])
                    refine tkP (i := 35) (oi := pk35) hS (fun w9 => by simp only [pk35]; go_simp; (try with_reducible rfl)) ?_
                    simp only [pk35, Act.put, nzA, nzB, nzC]
                    refine tkP (i := 36) (oi := pk36) hS (fun w9 => by simp only [pk36]; go_simp; (try with_reducible rfl)) ?_
                    simp only [pk36, Act.put, nzA, nzB, nzC]
                    refine wpAnyH_done (by kernel_rfl) ?_ _
                    go_wp2
                    go_returns
                    exact ⟨ret_b (by simp only [Hd.placesB, ez.out, *]; rfl), z.trans (hS.below.mono z.size)⟩
                  exact AllReadyH.nil
                exact AllReadyH.nil
              exact AllReadyH.nil
            exact AllReadyH.nil
          refine AllReadyH.cons (o := pk22) rfl (fun K hK => ?_) ?_
          · rw [if_pos (by rfl)]
            simp only [pk22]
            go_simp
            have sl2 : At (v4.alloc (.cells #[.int .i64 h.index] 2)) v4.heap.size #[.int .i64 h.index] 2 := At.new _ _ _
            have hb : Below v4.heap.size v4 (v4.alloc (.cells #[.int .i64 h.index] 2)) := (Below.refl _ _).alloc (Nat.le_refl _) _
            generalize v4.alloc (.cells #[.int .i64 h.index] 2) = v5 at *
            replace sl1 := sl1.keep hb
            have hS2 : Cls W v5 := ⟨hS.below.trans (hb.mono hS.below.size)⟩
            clear hb
            refine hK.out _ _ hS2 (fun hS => ?_)
            clear hK K
            (try simp only [pk22, Act.put, nzA, nzB, nzC])
            refine wpAnyH_ready (rs := [17]) (by kernel_rfl) (by simp) ?_
            refine AllReadyH.cons (o := pk17) rfl (fun K hK => ?_) ?_
            · rw [if_pos (by rfl)]
              simp only [pk17]
              go_simp
              go_at_call 108
              refine (iBlocks p s l c k _).mono ?_
              rintro e v6 ⟨rfl, hb⟩
              rw [eB.out]
              (go_wp2_with fail)
              replace sl1 := sl1.keep hb
              replace sl2 := sl2.keep hb
              have hS2 : Cls W v6 := ⟨hS.below.trans (hb.mono hS.below.size)⟩
              clear hb
              refine hK.out _ _ hS2 (fun hS => ?_)
              clear hK K
              (try simp only [pk17, Act.put, nzA, nzB, nzC])
              refine tkP (i := 18) (oi := pk18) hS (fun w9 => by simp only [pk18]; go_simp; (try with_reducible rfl)) ?_
              simp only [pk18, Act.put, nzA, nzB, nzC]
              refine wpAnyH_ready (rs := [23]) (by kernel_rfl) (by simp) ?_
              refine AllReadyH.cons (o := pk23) rfl (fun K hK => ?_) ?_
              · rw [if_pos (by rfl)]
                simp only [pk23]
                go_simp
                go_at_call 75
                refine (iUpTo _ _ 1 [h.index] rfl (by omega) _ (slices_at sl2)).mono ?_
                rintro e v7 ⟨rfl, rfl⟩
                (try rw [wb.out]); (try rw [wq.out]); rw [e3]
                (go_wp2_with fail)
                have hS2 : Cls W v7 := hS
                refine hK.out _ _ hS2 (fun hS => ?_)
                clear hK K
                (try simp only [pk23, Act.put, nzA, nzB, nzC])
                refine tkP (i := 24) (oi := pk24) hS (fun w9 => by simp only [pk24]; go_simp; (try with_reducible rfl)) ?_
                simp only [pk24, Act.put, nzA, nzB, nzC]
                refine tkP (i := 25) (oi := pk25) hS (fun w9 => by simp only [pk25]; go_simp; (try with_reducible rfl)) ?_
                simp only [pk25, Act.put, nzA, nzB, nzC]
                refine tkP (i := 26) (oi := pk26) hS (fun w9 => by simp only [pk26]; go_simp; (try with_reducible rfl)) ?_
                simp only [pk26, Act.put, nzA, nzB, nzC]
                refine tkL (i := 27) (oi := pk27) hS rfl rfl (by assumption) ?_
                simp only [pk27, Act.put, nzA, nzB, nzC]
                refine tkP (i := 28) (oi := pk28) hS (fun w9 => by simp only [pk28]; go_simp; (try with_reducible rfl)) ?_
                simp only [pk28, Act.put, nzA, nzB, nzC]
                refine tkP (i := 29) (oi := pk29) hS (fun w9 => by simp only [pk29]; go_simp; (try with_reducible rfl)) ?_
                simp only [pk29, Act.put, nzA, nzB, nzC]
                refine tkP (i := 30) (oi := pk30) hS (fun w9 => by simp only [pk30]; go_simp; (try with_reducible rfl)) ?_
                simp only [pk30, Act.put, nzA, nzB, nzC]
                refine tkP (i := 31) (oi := pk31) hS (fun w9 => by simp only [pk31]; go_simp; (try with_reducible rfl)) ?_
                simp only [pk31, Act.put, nzA, nzB, nzC]
                refine tkL (i := 32) (oi := pk32) hS rfl rfl (by assumption) ?_
                simp only [pk32, Act.put, nzA, nzB, nzC]
                refine wpAnyH_ready (rs := [33]) (by kernel_rfl) (by simp) ?_
                refine AllReadyH.cons (o := pk33) rfl (fun K hK => ?_) ?_
                · rw [if_pos (by rfl)]
                  simp only [pk33]
                  go_simp
                  have sl3 : At (v7.alloc (.cells #[.int .i64 h.which] 2)) v7.heap.size #[.int .i64 h.which] 2 := At.new _ _ _
                  have hb : Below v7.heap.size v7 (v7.alloc (.cells #[.int .i64 h.which] 2)) := (Below.refl _ _).alloc (Nat.le_refl _) _
                  generalize v7.alloc (.cells #[.int .i64 h.which] 2) = v8 at *
                  replace sl1 := sl1.keep hb
                  replace sl2 := sl2.keep hb
                  have hS2 : Cls W v8 := ⟨hS.below.trans (hb.mono hS.below.size)⟩
                  clear hb
                  refine hK.out _ _ hS2 (fun hS => ?_)
                  clear hK K
                  (try simp only [pk33, Act.put, nzA, nzB, nzC])
                  refine wpAnyH_ready (rs := [34]) (by kernel_rfl) (by simp) ?_
                  refine AllReadyH.cons (o := pk34) rfl (fun K hK => ?_) ?_
                  · rw [if_pos (by rfl)]
                    simp only [pk34]
                    go_simp
                    go_at_call 75
                    refine (iUpTo _ _ 1 [h.which] rfl (by omega) _ (slices_at sl3)).mono ?_
                    rintro e v9 ⟨rfl, rfl⟩
                    (try rw [wp.out]); (try rw [wq.out]); rw [e4]
                    (go_wp2_with fail)
                    have hS2 : Cls W v9 := hS
                    refine hK.out _ _ hS2 (fun hS => ?_)
                    clear hK K
                    (try simp only [pk34, Act.put, nzA, nzB, nzC])
                    refine tkP (i := 35) (oi := pk35) hS (fun w9 => by simp only [pk35]; go_simp; (try with_reducible rfl)) ?_
                    simp only [pk35, Act.put, nzA, nzB, nzC]
                    refine tkP (i := 36) (oi := pk36) hS (fun w9 => by simp only [pk36]; go_simp; (try with_reducible rfl)) ?_
                    simp only [pk36, Act.put, nzA, nzB, nzC]
                    refine wpAnyH_done (by kernel_rfl) ?_ _
                    go_wp2
                    go_returns
                    exact ⟨ret_b (by simp only [Hd.placesB, ez.out, *]; rfl), z.trans (hS.below.mono z.size)⟩
                  exact AllReadyH.nil
                exact AllReadyH.nil
              exact AllReadyH.nil
            exact AllReadyH.nil
          exact AllReadyH.nil
        exact AllReadyH.nil
      exact AllReadyH.nil
    exact AllReadyH.nil
  exact AllReadyH.nil
set_option maxHeartbeats 32000000 in
theorem iPlacesE (p s l c k z0 : Int) (h : Hd) (ho : ok p s l c k = true) (ez : Hid (zF p s l c = z0)) (zb : 0 ≤ z0 ∧ z0 ≤ 100000) (e1 : inB h.for_ 0 (p - 1) = true) (e2 : allUp (z0 - 1) [h.addr] = true) (e3 : allUp (s + l + 1) [h.index] = true) (e4 : allUp (2 * p - 1) [h.which] = false) (w : World) : Calls Tryz.prog 82 #[.agg h.ps.toArray, .agg #[.int .i64 p, .int .i64 s, .int .i64 l, .int .i64 c, .int .i64 k]] w fun e w' => e = .returned (.bool (h.placesB p s l c)) ∧ Below w.heap.size w w' := by
  have h' := ok_iff.1 ho
  have eS : Hid (vSize p s l c k = z0) := by rw [← ez.out]; unfold vSize; rw [ho]; rfl
  have eB : Hid (vBlocks p s l c k = s + l) := by unfold vBlocks; rw [ho]; rfl
  have wz : Hid (IntKind.i64.wrap (z0 - 1) = z0 - 1) := by show _ = _; rw [IntKind.wrap_i64]; omega
  have wb : Hid (IntKind.i64.wrap (s + l + 1) = s + l + 1) := by show _ = _; rw [IntKind.wrap_i64]; omega
  have wp : Hid (IntKind.i64.wrap (IntKind.i64.wrap (2 * p) - 1) = 2 * p - 1) := by show _ = _; rw [IntKind.wrap_i64, IntKind.wrap_i64]; omega
  have wq : Hid (IntKind.i64.wrap (2 * p - 1) = 2 * p - 1) := by show _ = _; rw [IntKind.wrap_i64]; omega
  go_enter Tryz.func82, Tryz.ntmps82
  go_upto_region 1 with fail
  refine wp_at (fun W => At W w.heap.size h.ps.toArray 111 ∧ At W (w.heap.size + 1) #[.int .i64 p, .int .i64 s, .int .i64 l, .int .i64 c, .int .i64 k] 35 ∧ Below w.heap.size w W) (two_box w _ _ _ _) ?_
  rintro W ⟨A, P, z⟩
  have l11 : ∀ w', Cls W w' → (loadVar 2 ⟨w.heap.size, 11, none⟩).run Tryz.prog w' = .ok (.int .i64 h.for_) w' := ld_i A Tryz.underlying2 rfl
  have l17 : ∀ w', Cls W w' → (loadVar 2 ⟨w.heap.size, 17, none⟩).run Tryz.prog w' = .ok (.int .i64 h.addr) w' := ld_i A Tryz.underlying2 rfl
  have l29 : ∀ w', Cls W w' → (loadVar 2 ⟨w.heap.size, 29, none⟩).run Tryz.prog w' = .ok (.int .i64 h.index) w' := ld_i A Tryz.underlying2 rfl
  have l30 : ∀ w', Cls W w' → (loadVar 2 ⟨w.heap.size, 30, none⟩).run Tryz.prog w' = .ok (.int .i64 h.which) w' := ld_i A Tryz.underlying2 rfl
  have l0 : ∀ w', Cls W w' → (loadVar 2 ⟨w.heap.size + 1, 0, none⟩).run Tryz.prog w' = .ok (.int .i64 p) w' := ld_i P Tryz.underlying2 rfl
  have lp : ∀ w', Cls W w' → (loadVar 35 ⟨w.heap.size + 1, 0, none⟩).run Tryz.prog w' = .ok (.agg #[.int .i64 p, .int .i64 s, .int .i64 l, .int .i64 c, .int .i64 k]) w' := ld_agg (vs := [.int .i64 p, .int .i64 s, .int .i64 l, .int .i64 c, .int .i64 k]) P Tryz.underlying35 rfl (by kernel_rfl)
  refine wp_region_held_drew (S := Cls W) (by kernel_rfl) ⟨⟨rfl, rfl, rfl, Nat.le_refl _, fun _ _ => rfl⟩⟩ (fun hS => ?_)
  generalize W.drew = v0 at *
  refine tkL (i := 0) (oi := pk0) hS rfl rfl (by assumption) ?_
  simp only [pk0, Act.put, nzA, nzB, nzC]
  refine tkP (i := 1) (oi := pk1) hS (fun w9 => by simp only [pk1]; go_simp; (try with_reducible rfl)) ?_
  simp only [pk1, Act.put, nzA, nzB, nzC]
  refine tkP (i := 2) (oi := pk2) hS (fun w9 => by simp only [pk2]; go_simp; (try with_reducible rfl)) ?_
  simp only [pk2, Act.put, nzA, nzB, nzC]
  refine tkL (i := 3) (oi := pk3) hS rfl rfl (by assumption) ?_
  simp only [pk3, Act.put, nzA, nzB, nzC]
  refine wpAnyH_ready (rs := [4]) (by kernel_rfl) (by simp) ?_
  refine AllReadyH.cons (o := pk4) rfl (fun K hK => ?_) ?_
  · rw [if_pos (by rfl)]
    simp only [pk4]
    go_simp
    go_at_call 42
    refine (iHas p s l c k h.for_ ho _).mono ?_
    rintro e v1 ⟨rfl, hb⟩
    rw [e1]
    (go_wp2_with fail)
    have hS2 : Cls W v1 := ⟨hS.below.trans (hb.mono hS.below.size)⟩
    clear hb
    refine hK.out _ _ hS2 (fun hS => ?_)
    clear hK K
    (try simp only [pk4, Act.put, nzA, nzB, nzC])
    refine tkP (i := 5) (oi := pk5) hS (fun w9 => by simp only [pk5]; go_simp; (try with_reducible rfl)) ?_
    simp only [pk5, Act.put, nzA, nzB, nzC]
    refine tkL (i := 6) (oi := pk6) hS rfl rfl (by assumption) ?_
    simp only [pk6, Act.put, nzA, nzB, nzC]
    refine tkP (i := 9) (oi := pk9) hS (fun w9 => by simp only [pk9]; go_simp; (try with_reducible rfl)) ?_
    simp only [pk9, Act.put, nzA, nzB, nzC]
    refine tkP (i := 10) (oi := pk10) hS (fun w9 => by simp only [pk10]; go_simp; (try with_reducible rfl)) ?_
    simp only [pk10, Act.put, nzA, nzB, nzC]
    refine tkL (i := 11) (oi := pk11) hS rfl rfl (by assumption) ?_
    simp only [pk11, Act.put, nzA, nzB, nzC]
    refine wpAnyH_ready (rs := [7, 12]) (by kernel_rfl) (by simp) ?_
    refine AllReadyH.cons (o := pk7) rfl (fun K hK => ?_) ?_
    · rw [if_pos (by rfl)]
      simp only [pk7]
      go_simp
      go_at_call 72
      refine (iSize p s l c k _).mono ?_
      rintro e v2 ⟨rfl, hb⟩
      rw [eS.out]
      (go_wp2_with fail)
      have hS2 : Cls W v2 := ⟨hS.below.trans (hb.mono hS.below.size)⟩
      clear hb
      refine hK.out _ _ hS2 (fun hS => ?_)
      clear hK K
      (try simp only [pk7, Act.put, nzA, nzB, nzC])
      refine tkP (i := 8) (oi := pk8) hS (fun w9 => by simp only [pk8]; go_simp; (try with_reducible rfl)) ?_
      simp only [pk8, Act.put, nzA, nzB, nzC]
      refine wpAnyH_ready (rs := [12]) (by kernel_rfl) (by simp) ?_
      refine AllReadyH.cons (o := pk12) rfl (fun K hK => ?_) ?_
      · rw [if_pos (by rfl)]
        simp only [pk12]
        go_simp
        have sl1 : At (v2.alloc (.cells #[.int .i64 h.addr] 2)) v2.heap.size #[.int .i64 h.addr] 2 := At.new _ _ _
        have hb : Below v2.heap.size v2 (v2.alloc (.cells #[.int .i64 h.addr] 2)) := (Below.refl _ _).alloc (Nat.le_refl _) _
        generalize v2.alloc (.cells #[.int .i64 h.addr] 2) = v3 at *
        have hS2 : Cls W v3 := ⟨hS.below.trans (hb.mono hS.below.size)⟩
        clear hb
        refine hK.out _ _ hS2 (fun hS => ?_)
        clear hK K
        (try simp only [pk12, Act.put, nzA, nzB, nzC])
        refine wpAnyH_ready (rs := [13]) (by kernel_rfl) (by simp) ?_
        refine AllReadyH.cons (o := pk13) rfl (fun K hK => ?_) ?_
        · rw [if_pos (by rfl)]
          simp only [pk13]
          go_simp
          go_at_call 75
          refine (iUpTo _ _ 1 [h.addr] rfl (by omega) _ (slices_at sl1)).mono ?_
          rintro e v4 ⟨rfl, rfl⟩
          (try rw [wz.out]); (try rw [wq.out]); rw [e2]
          (go_wp2_with fail)
          have hS2 : Cls W v4 := hS
          refine hK.out _ _ hS2 (fun hS => ?_)
          clear hK K
          (try simp only [pk13, Act.put, nzA, nzB, nzC])
          refine tkP (i := 14) (oi := pk14) hS (fun w9 => by simp only [pk14]; go_simp; (try with_reducible rfl)) ?_
          simp only [pk14, Act.put, nzA, nzB, nzC]
          refine tkP (i := 15) (oi := pk15) hS (fun w9 => by simp only [pk15]; go_simp; (try with_reducible rfl)) ?_
          simp only [pk15, Act.put, nzA, nzB, nzC]
          refine tkL (i := 16) (oi := pk16) hS rfl rfl (by assumption) ?_
          simp only [pk16, Act.put, nzA, nzB, nzC]
          refine tkP (i := 19) (oi := pk19) hS (fun w9 => by simp only [pk19]; go_simp; (try with_reducible rfl)) ?_
          simp only [pk19, Act.put, nzA, nzB, nzC]
          refine tkP (i := 20) (oi := pk20) hS (fun w9 => by simp only [pk20]; go_simp; (try with_reducible rfl)) ?_
          simp only [pk20, Act.put, nzA, nzB, nzC]
          refine tkL (i := 21) (oi := pk21) hS rfl rfl (by assumption) ?_
          simp only [pk21, Act.put, nzA, nzB, nzC]
          refine wpAnyH_ready (rs := [17, 22]) (by kernel_rfl) (by simp) ?_
          refine AllReadyH.cons (o := pk17) rfl (fun K hK => ?_) ?_
          · rw [if_pos (by rfl)]
            simp only [pk17]
            go_simp
            go_at_call 108
            refine (iBlocks p s l c k _).mono ?_
            rintro e v5 ⟨rfl, hb⟩
            rw [eB.out]
            (go_wp2_with fail)
            replace sl1 := sl1.keep hb
            have hS2 : Cls W v5 := ⟨hS.below.trans (hb.mono hS.below.size)⟩
            clear hb
            refine hK.out _ _ hS2 (fun hS => ?_)
            clear hK K
            (try simp only [pk17, Act.put, nzA, nzB, nzC])
            refine tkP (i := 18) (oi := pk18) hS (fun w9 => by simp only [pk18]; go_simp; (try with_reducible rfl)) ?_
            simp only [pk18, Act.put, nzA, nzB, nzC]
            refine wpAnyH_ready (rs := [22]) (by kernel_rfl) (by simp) ?_
            refine AllReadyH.cons (o := pk22) rfl (fun K hK => ?_) ?_
            · rw [if_pos (by rfl)]
              simp only [pk22]
              go_simp
              have sl2 : At (v5.alloc (.cells #[.int .i64 h.index] 2)) v5.heap.size #[.int .i64 h.index] 2 := At.new _ _ _
              have hb : Below v5.heap.size v5 (v5.alloc (.cells #[.int .i64 h.index] 2)) := (Below.refl _ _).alloc (Nat.le_refl _) _
              generalize v5.alloc (.cells #[.int .i64 h.index] 2) = v6 at *
              replace sl1 := sl1.keep hb
              have hS2 : Cls W v6 := ⟨hS.below.trans (hb.mono hS.below.size)⟩
              clear hb
              refine hK.out _ _ hS2 (fun hS => ?_)
              clear hK K
              (try simp only [pk22, Act.put, nzA, nzB, nzC])
              refine wpAnyH_ready (rs := [23]) (by kernel_rfl) (by simp) ?_
              refine AllReadyH.cons (o := pk23) rfl (fun K hK => ?_) ?_
              · rw [if_pos (by rfl)]
                simp only [pk23]
                go_simp
                go_at_call 75
                refine (iUpTo _ _ 1 [h.index] rfl (by omega) _ (slices_at sl2)).mono ?_
                rintro e v7 ⟨rfl, rfl⟩
                (try rw [wb.out]); (try rw [wq.out]); rw [e3]
                (go_wp2_with fail)
                have hS2 : Cls W v7 := hS
                refine hK.out _ _ hS2 (fun hS => ?_)
                clear hK K
                (try simp only [pk23, Act.put, nzA, nzB, nzC])
                refine tkP (i := 24) (oi := pk24) hS (fun w9 => by simp only [pk24]; go_simp; (try with_reducible rfl)) ?_
                simp only [pk24, Act.put, nzA, nzB, nzC]
                refine tkP (i := 25) (oi := pk25) hS (fun w9 => by simp only [pk25]; go_simp; (try with_reducible rfl)) ?_
                simp only [pk25, Act.put, nzA, nzB, nzC]
                refine tkP (i := 26) (oi := pk26) hS (fun w9 => by simp only [pk26]; go_simp; (try with_reducible rfl)) ?_
                simp only [pk26, Act.put, nzA, nzB, nzC]
                refine tkL (i := 27) (oi := pk27) hS rfl rfl (by assumption) ?_
                simp only [pk27, Act.put, nzA, nzB, nzC]
                refine tkP (i := 28) (oi := pk28) hS (fun w9 => by simp only [pk28]; go_simp; (try with_reducible rfl)) ?_
                simp only [pk28, Act.put, nzA, nzB, nzC]
                refine tkP (i := 29) (oi := pk29) hS (fun w9 => by simp only [pk29]; go_simp; (try with_reducible rfl)) ?_
                simp only [pk29, Act.put, nzA, nzB, nzC]
                refine tkP (i := 30) (oi := pk30) hS (fun w9 => by simp only [pk30]; go_simp; (try with_reducible rfl)) ?_
                simp only [pk30, Act.put, nzA, nzB, nzC]
                refine tkP (i := 31) (oi := pk31) hS (fun w9 => by simp only [pk31]; go_simp; (try with_reducible rfl)) ?_
                simp only [pk31, Act.put, nzA, nzB, nzC]
                refine tkL (i := 32) (oi := pk32) hS rfl rfl (by assumption) ?_
                simp only [pk32, Act.put, nzA, nzB, nzC]
                refine wpAnyH_ready (rs := [33]) (by kernel_rfl) (by simp) ?_
                refine AllReadyH.cons (o := pk33) rfl (fun K hK => ?_) ?_
                · rw [if_pos (by rfl)]
                  simp only [pk33]
                  go_simp
                  have sl3 : At (v7.alloc (.cells #[.int .i64 h.which] 2)) v7.heap.size #[.int .i64 h.which] 2 := At.new _ _ _
                  have hb : Below v7.heap.size v7 (v7.alloc (.cells #[.int .i64 h.which] 2)) := (Below.refl _ _).alloc (Nat.le_refl _) _
                  generalize v7.alloc (.cells #[.int .i64 h.which] 2) = v8 at *
                  replace sl1 := sl1.keep hb
                  replace sl2 := sl2.keep hb
                  have hS2 : Cls W v8 := ⟨hS.below.trans (hb.mono hS.below.size)⟩
                  clear hb
                  refine hK.out _ _ hS2 (fun hS => ?_)
                  clear hK K
                  (try simp only [pk33, Act.put, nzA, nzB, nzC])
                  refine wpAnyH_ready (rs := [34]) (by kernel_rfl) (by simp) ?_
                  refine AllReadyH.cons (o := pk34) rfl (fun K hK => ?_) ?_
                  · rw [if_pos (by rfl)]
                    simp only [pk34]
                    go_simp
                    go_at_call 75
                    refine (iUpTo _ _ 1 [h.which] rfl (by omega) _ (slices_at sl3)).mono ?_
                    rintro e v9 ⟨rfl, rfl⟩
                    (try rw [wp.out]); (try rw [wq.out]); rw [e4]
                    (go_wp2_with fail)
                    have hS2 : Cls W v9 := hS
                    refine hK.out _ _ hS2 (fun hS => ?_)
                    clear hK K
                    (try simp only [pk34, Act.put, nzA, nzB, nzC])
                    refine tkP (i := 35) (oi := pk35) hS (fun w9 => by simp only [pk35]; go_simp; (try with_reducible rfl)) ?_
                    simp only [pk35, Act.put, nzA, nzB, nzC]
                    refine tkP (i := 36) (oi := pk36) hS (fun w9 => by simp only [pk36]; go_simp; (try with_reducible rfl)) ?_
                    simp only [pk36, Act.put, nzA, nzB, nzC]
                    refine wpAnyH_done (by kernel_rfl) ?_ _
                    go_wp2
                    go_returns
                    exact ⟨ret_b (by simp only [Hd.placesB, ez.out, *]; rfl), z.trans (hS.below.mono z.size)⟩
                  exact AllReadyH.nil
                exact AllReadyH.nil
              exact AllReadyH.nil
            exact AllReadyH.nil
          refine AllReadyH.cons (o := pk22) rfl (fun K hK => ?_) ?_
          · rw [if_pos (by rfl)]
            simp only [pk22]
            go_simp
            have sl2 : At (v4.alloc (.cells #[.int .i64 h.index] 2)) v4.heap.size #[.int .i64 h.index] 2 := At.new _ _ _
            have hb : Below v4.heap.size v4 (v4.alloc (.cells #[.int .i64 h.index] 2)) := (Below.refl _ _).alloc (Nat.le_refl _) _
            generalize v4.alloc (.cells #[.int .i64 h.index] 2) = v5 at *
            replace sl1 := sl1.keep hb
            have hS2 : Cls W v5 := ⟨hS.below.trans (hb.mono hS.below.size)⟩
            clear hb
            refine hK.out _ _ hS2 (fun hS => ?_)
            clear hK K
            (try simp only [pk22, Act.put, nzA, nzB, nzC])
            refine wpAnyH_ready (rs := [17]) (by kernel_rfl) (by simp) ?_
            refine AllReadyH.cons (o := pk17) rfl (fun K hK => ?_) ?_
            · rw [if_pos (by rfl)]
              simp only [pk17]
              go_simp
              go_at_call 108
              refine (iBlocks p s l c k _).mono ?_
              rintro e v6 ⟨rfl, hb⟩
              rw [eB.out]
              (go_wp2_with fail)
              replace sl1 := sl1.keep hb
              replace sl2 := sl2.keep hb
              have hS2 : Cls W v6 := ⟨hS.below.trans (hb.mono hS.below.size)⟩
              clear hb
              refine hK.out _ _ hS2 (fun hS => ?_)
              clear hK K
              (try simp only [pk17, Act.put, nzA, nzB, nzC])
              refine tkP (i := 18) (oi := pk18) hS (fun w9 => by simp only [pk18]; go_simp; (try with_reducible rfl)) ?_
              simp only [pk18, Act.put, nzA, nzB, nzC]
              refine wpAnyH_ready (rs := [23]) (by kernel_rfl) (by simp) ?_
              refine AllReadyH.cons (o := pk23) rfl (fun K hK => ?_) ?_
              · rw [if_pos (by rfl)]
                simp only [pk23]
                go_simp
                go_at_call 75
                refine (iUpTo _ _ 1 [h.index] rfl (by omega) _ (slices_at sl2)).mono ?_
                rintro e v7 ⟨rfl, rfl⟩
                (try rw [wb.out]); (try rw [wq.out]); rw [e3]
                (go_wp2_with fail)
                have hS2 : Cls W v7 := hS
                refine hK.out _ _ hS2 (fun hS => ?_)
                clear hK K
                (try simp only [pk23, Act.put, nzA, nzB, nzC])
                refine tkP (i := 24) (oi := pk24) hS (fun w9 => by simp only [pk24]; go_simp; (try with_reducible rfl)) ?_
                simp only [pk24, Act.put, nzA, nzB, nzC]
                refine tkP (i := 25) (oi := pk25) hS (fun w9 => by simp only [pk25]; go_simp; (try with_reducible rfl)) ?_
                simp only [pk25, Act.put, nzA, nzB, nzC]
                refine tkP (i := 26) (oi := pk26) hS (fun w9 => by simp only [pk26]; go_simp; (try with_reducible rfl)) ?_
                simp only [pk26, Act.put, nzA, nzB, nzC]
                refine tkL (i := 27) (oi := pk27) hS rfl rfl (by assumption) ?_
                simp only [pk27, Act.put, nzA, nzB, nzC]
                refine tkP (i := 28) (oi := pk28) hS (fun w9 => by simp only [pk28]; go_simp; (try with_reducible rfl)) ?_
                simp only [pk28, Act.put, nzA, nzB, nzC]
                refine tkP (i := 29) (oi := pk29) hS (fun w9 => by simp only [pk29]; go_simp; (try with_reducible rfl)) ?_
                simp only [pk29, Act.put, nzA, nzB, nzC]
                refine tkP (i := 30) (oi := pk30) hS (fun w9 => by simp only [pk30]; go_simp; (try with_reducible rfl)) ?_
                simp only [pk30, Act.put, nzA, nzB, nzC]
                refine tkP (i := 31) (oi := pk31) hS (fun w9 => by simp only [pk31]; go_simp; (try with_reducible rfl)) ?_
                simp only [pk31, Act.put, nzA, nzB, nzC]
                refine tkL (i := 32) (oi := pk32) hS rfl rfl (by assumption) ?_
                simp only [pk32, Act.put, nzA, nzB, nzC]
                refine wpAnyH_ready (rs := [33]) (by kernel_rfl) (by simp) ?_
                refine AllReadyH.cons (o := pk33) rfl (fun K hK => ?_) ?_
                · rw [if_pos (by rfl)]
                  simp only [pk33]
                  go_simp
                  have sl3 : At (v7.alloc (.cells #[.int .i64 h.which] 2)) v7.heap.size #[.int .i64 h.which] 2 := At.new _ _ _
                  have hb : Below v7.heap.size v7 (v7.alloc (.cells #[.int .i64 h.which] 2)) := (Below.refl _ _).alloc (Nat.le_refl _) _
                  generalize v7.alloc (.cells #[.int .i64 h.which] 2) = v8 at *
                  replace sl1 := sl1.keep hb
                  replace sl2 := sl2.keep hb
                  have hS2 : Cls W v8 := ⟨hS.below.trans (hb.mono hS.below.size)⟩
                  clear hb
                  refine hK.out _ _ hS2 (fun hS => ?_)
                  clear hK K
                  (try simp only [pk33, Act.put, nzA, nzB, nzC])
                  refine wpAnyH_ready (rs := [34]) (by kernel_rfl) (by simp) ?_
                  refine AllReadyH.cons (o := pk34) rfl (fun K hK => ?_) ?_
                  · rw [if_pos (by rfl)]
                    simp only [pk34]
                    go_simp
                    go_at_call 75
                    refine (iUpTo _ _ 1 [h.which] rfl (by omega) _ (slices_at sl3)).mono ?_
                    rintro e v9 ⟨rfl, rfl⟩
                    (try rw [wp.out]); (try rw [wq.out]); rw [e4]
                    (go_wp2_with fail)
                    have hS2 : Cls W v9 := hS
                    refine hK.out _ _ hS2 (fun hS => ?_)
                    clear hK K
                    (try simp only [pk34, Act.put, nzA, nzB, nzC])
                    refine tkP (i := 35) (oi := pk35) hS (fun w9 => by simp only [pk35]; go_simp; (try with_reducible rfl)) ?_
                    simp only [pk35, Act.put, nzA, nzB, nzC]
                    refine tkP (i := 36) (oi := pk36) hS (fun w9 => by simp only [pk36]; go_simp; (try with_reducible rfl)) ?_
                    simp only [pk36, Act.put, nzA, nzB, nzC]
                    refine wpAnyH_done (by kernel_rfl) ?_ _
                    go_wp2
                    go_returns
                    exact ⟨ret_b (by simp only [Hd.placesB, ez.out, *]; rfl), z.trans (hS.below.mono z.size)⟩
                  exact AllReadyH.nil
                exact AllReadyH.nil
              exact AllReadyH.nil
            exact AllReadyH.nil
          exact AllReadyH.nil
        exact AllReadyH.nil
      exact AllReadyH.nil
    refine AllReadyH.cons (o := pk12) rfl (fun K hK => ?_) ?_
    · rw [if_pos (by rfl)]
      simp only [pk12]
      go_simp
      have sl1 : At (v1.alloc (.cells #[.int .i64 h.addr] 2)) v1.heap.size #[.int .i64 h.addr] 2 := At.new _ _ _
      have hb : Below v1.heap.size v1 (v1.alloc (.cells #[.int .i64 h.addr] 2)) := (Below.refl _ _).alloc (Nat.le_refl _) _
      generalize v1.alloc (.cells #[.int .i64 h.addr] 2) = v2 at *
      have hS2 : Cls W v2 := ⟨hS.below.trans (hb.mono hS.below.size)⟩
      clear hb
      refine hK.out _ _ hS2 (fun hS => ?_)
      clear hK K
      (try simp only [pk12, Act.put, nzA, nzB, nzC])
      refine wpAnyH_ready (rs := [7]) (by kernel_rfl) (by simp) ?_
      refine AllReadyH.cons (o := pk7) rfl (fun K hK => ?_) ?_
      · rw [if_pos (by rfl)]
        simp only [pk7]
        go_simp
        go_at_call 72
        refine (iSize p s l c k _).mono ?_
        rintro e v3 ⟨rfl, hb⟩
        rw [eS.out]
        (go_wp2_with fail)
        replace sl1 := sl1.keep hb
        have hS2 : Cls W v3 := ⟨hS.below.trans (hb.mono hS.below.size)⟩
        clear hb
        refine hK.out _ _ hS2 (fun hS => ?_)
        clear hK K
        (try simp only [pk7, Act.put, nzA, nzB, nzC])
        refine tkP (i := 8) (oi := pk8) hS (fun w9 => by simp only [pk8]; go_simp; (try with_reducible rfl)) ?_
        simp only [pk8, Act.put, nzA, nzB, nzC]
        refine wpAnyH_ready (rs := [13]) (by kernel_rfl) (by simp) ?_
        refine AllReadyH.cons (o := pk13) rfl (fun K hK => ?_) ?_
        · rw [if_pos (by rfl)]
          simp only [pk13]
          go_simp
          go_at_call 75
          refine (iUpTo _ _ 1 [h.addr] rfl (by omega) _ (slices_at sl1)).mono ?_
          rintro e v4 ⟨rfl, rfl⟩
          (try rw [wz.out]); (try rw [wq.out]); rw [e2]
          (go_wp2_with fail)
          have hS2 : Cls W v4 := hS
          refine hK.out _ _ hS2 (fun hS => ?_)
          clear hK K
          (try simp only [pk13, Act.put, nzA, nzB, nzC])
          refine tkP (i := 14) (oi := pk14) hS (fun w9 => by simp only [pk14]; go_simp; (try with_reducible rfl)) ?_
          simp only [pk14, Act.put, nzA, nzB, nzC]
          refine tkP (i := 15) (oi := pk15) hS (fun w9 => by simp only [pk15]; go_simp; (try with_reducible rfl)) ?_
          simp only [pk15, Act.put, nzA, nzB, nzC]
          refine tkL (i := 16) (oi := pk16) hS rfl rfl (by assumption) ?_
          simp only [pk16, Act.put, nzA, nzB, nzC]
          refine tkP (i := 19) (oi := pk19) hS (fun w9 => by simp only [pk19]; go_simp; (try with_reducible rfl)) ?_
          simp only [pk19, Act.put, nzA, nzB, nzC]
          refine tkP (i := 20) (oi := pk20) hS (fun w9 => by simp only [pk20]; go_simp; (try with_reducible rfl)) ?_
          simp only [pk20, Act.put, nzA, nzB, nzC]
          refine tkL (i := 21) (oi := pk21) hS rfl rfl (by assumption) ?_
          simp only [pk21, Act.put, nzA, nzB, nzC]
          refine wpAnyH_ready (rs := [17, 22]) (by kernel_rfl) (by simp) ?_
          refine AllReadyH.cons (o := pk17) rfl (fun K hK => ?_) ?_
          · rw [if_pos (by rfl)]
            simp only [pk17]
            go_simp
            go_at_call 108
            refine (iBlocks p s l c k _).mono ?_
            rintro e v5 ⟨rfl, hb⟩
            rw [eB.out]
            (go_wp2_with fail)
            replace sl1 := sl1.keep hb
            have hS2 : Cls W v5 := ⟨hS.below.trans (hb.mono hS.below.size)⟩
            clear hb
            refine hK.out _ _ hS2 (fun hS => ?_)
            clear hK K
            (try simp only [pk17, Act.put, nzA, nzB, nzC])
            refine tkP (i := 18) (oi := pk18) hS (fun w9 => by simp only [pk18]; go_simp; (try with_reducible rfl)) ?_
            simp only [pk18, Act.put, nzA, nzB, nzC]
            refine wpAnyH_ready (rs := [22]) (by kernel_rfl) (by simp) ?_
            refine AllReadyH.cons (o := pk22) rfl (fun K hK => ?_) ?_
            · rw [if_pos (by rfl)]
              simp only [pk22]
              go_simp
              have sl2 : At (v5.alloc (.cells #[.int .i64 h.index] 2)) v5.heap.size #[.int .i64 h.index] 2 := At.new _ _ _
              have hb : Below v5.heap.size v5 (v5.alloc (.cells #[.int .i64 h.index] 2)) := (Below.refl _ _).alloc (Nat.le_refl _) _
              generalize v5.alloc (.cells #[.int .i64 h.index] 2) = v6 at *
              replace sl1 := sl1.keep hb
              have hS2 : Cls W v6 := ⟨hS.below.trans (hb.mono hS.below.size)⟩
              clear hb
              refine hK.out _ _ hS2 (fun hS => ?_)
              clear hK K
              (try simp only [pk22, Act.put, nzA, nzB, nzC])
              refine wpAnyH_ready (rs := [23]) (by kernel_rfl) (by simp) ?_
              refine AllReadyH.cons (o := pk23) rfl (fun K hK => ?_) ?_
              · rw [if_pos (by rfl)]
                simp only [pk23]
                go_simp
                go_at_call 75
                refine (iUpTo _ _ 1 [h.index] rfl (by omega) _ (slices_at sl2)).mono ?_
                rintro e v7 ⟨rfl, rfl⟩
                (try rw [wb.out]); (try rw [wq.out]); rw [e3]
                (go_wp2_with fail)
                have hS2 : Cls W v7 := hS
                refine hK.out _ _ hS2 (fun hS => ?_)
                clear hK K
                (try simp only [pk23, Act.put, nzA, nzB, nzC])
                refine tkP (i := 24) (oi := pk24) hS (fun w9 => by simp only [pk24]; go_simp; (try with_reducible rfl)) ?_
                simp only [pk24, Act.put, nzA, nzB, nzC]
                refine tkP (i := 25) (oi := pk25) hS (fun w9 => by simp only [pk25]; go_simp; (try with_reducible rfl)) ?_
                simp only [pk25, Act.put, nzA, nzB, nzC]
                refine tkP (i := 26) (oi := pk26) hS (fun w9 => by simp only [pk26]; go_simp; (try with_reducible rfl)) ?_
                simp only [pk26, Act.put, nzA, nzB, nzC]
                refine tkL (i := 27) (oi := pk27) hS rfl rfl (by assumption) ?_
                simp only [pk27, Act.put, nzA, nzB, nzC]
                refine tkP (i := 28) (oi := pk28) hS (fun w9 => by simp only [pk28]; go_simp; (try with_reducible rfl)) ?_
                simp only [pk28, Act.put, nzA, nzB, nzC]
                refine tkP (i := 29) (oi := pk29) hS (fun w9 => by simp only [pk29]; go_simp; (try with_reducible rfl)) ?_
                simp only [pk29, Act.put, nzA, nzB, nzC]
                refine tkP (i := 30) (oi := pk30) hS (fun w9 => by simp only [pk30]; go_simp; (try with_reducible rfl)) ?_
                simp only [pk30, Act.put, nzA, nzB, nzC]
                refine tkP (i := 31) (oi := pk31) hS (fun w9 => by simp only [pk31]; go_simp; (try with_reducible rfl)) ?_
                simp only [pk31, Act.put, nzA, nzB, nzC]
                refine tkL (i := 32) (oi := pk32) hS rfl rfl (by assumption) ?_
                simp only [pk32, Act.put, nzA, nzB, nzC]
                refine wpAnyH_ready (rs := [33]) (by kernel_rfl) (by simp) ?_
                refine AllReadyH.cons (o := pk33) rfl (fun K hK => ?_) ?_
                · rw [if_pos (by rfl)]
                  simp only [pk33]
                  go_simp
                  have sl3 : At (v7.alloc (.cells #[.int .i64 h.which] 2)) v7.heap.size #[.int .i64 h.which] 2 := At.new _ _ _
                  have hb : Below v7.heap.size v7 (v7.alloc (.cells #[.int .i64 h.which] 2)) := (Below.refl _ _).alloc (Nat.le_refl _) _
                  generalize v7.alloc (.cells #[.int .i64 h.which] 2) = v8 at *
                  replace sl1 := sl1.keep hb
                  replace sl2 := sl2.keep hb
                  have hS2 : Cls W v8 := ⟨hS.below.trans (hb.mono hS.below.size)⟩
                  clear hb
                  refine hK.out _ _ hS2 (fun hS => ?_)
                  clear hK K
                  (try simp only [pk33, Act.put, nzA, nzB, nzC])
                  refine wpAnyH_ready (rs := [34]) (by kernel_rfl) (by simp) ?_
                  refine AllReadyH.cons (o := pk34) rfl (fun K hK => ?_) ?_
                  · rw [if_pos (by rfl)]
                    simp only [pk34]
                    go_simp
                    go_at_call 75
                    refine (iUpTo _ _ 1 [h.which] rfl (by omega) _ (slices_at sl3)).mono ?_
                    rintro e v9 ⟨rfl, rfl⟩
                    (try rw [wp.out]); (try rw [wq.out]); rw [e4]
                    (go_wp2_with fail)
                    have hS2 : Cls W v9 := hS
                    refine hK.out _ _ hS2 (fun hS => ?_)
                    clear hK K
                    (try simp only [pk34, Act.put, nzA, nzB, nzC])
                    refine tkP (i := 35) (oi := pk35) hS (fun w9 => by simp only [pk35]; go_simp; (try with_reducible rfl)) ?_
                    simp only [pk35, Act.put, nzA, nzB, nzC]
                    refine tkP (i := 36) (oi := pk36) hS (fun w9 => by simp only [pk36]; go_simp; (try with_reducible rfl)) ?_
                    simp only [pk36, Act.put, nzA, nzB, nzC]
                    refine wpAnyH_done (by kernel_rfl) ?_ _
                    go_wp2
                    go_returns
                    exact ⟨ret_b (by simp only [Hd.placesB, ez.out, *]; rfl), z.trans (hS.below.mono z.size)⟩
                  exact AllReadyH.nil
                exact AllReadyH.nil
              exact AllReadyH.nil
            exact AllReadyH.nil
          refine AllReadyH.cons (o := pk22) rfl (fun K hK => ?_) ?_
          · rw [if_pos (by rfl)]
            simp only [pk22]
            go_simp
            have sl2 : At (v4.alloc (.cells #[.int .i64 h.index] 2)) v4.heap.size #[.int .i64 h.index] 2 := At.new _ _ _
            have hb : Below v4.heap.size v4 (v4.alloc (.cells #[.int .i64 h.index] 2)) := (Below.refl _ _).alloc (Nat.le_refl _) _
            generalize v4.alloc (.cells #[.int .i64 h.index] 2) = v5 at *
            replace sl1 := sl1.keep hb
            have hS2 : Cls W v5 := ⟨hS.below.trans (hb.mono hS.below.size)⟩
            clear hb
            refine hK.out _ _ hS2 (fun hS => ?_)
            clear hK K
            (try simp only [pk22, Act.put, nzA, nzB, nzC])
            refine wpAnyH_ready (rs := [17]) (by kernel_rfl) (by simp) ?_
            refine AllReadyH.cons (o := pk17) rfl (fun K hK => ?_) ?_
            · rw [if_pos (by rfl)]
              simp only [pk17]
              go_simp
              go_at_call 108
              refine (iBlocks p s l c k _).mono ?_
              rintro e v6 ⟨rfl, hb⟩
              rw [eB.out]
              (go_wp2_with fail)
              replace sl1 := sl1.keep hb
              replace sl2 := sl2.keep hb
              have hS2 : Cls W v6 := ⟨hS.below.trans (hb.mono hS.below.size)⟩
              clear hb
              refine hK.out _ _ hS2 (fun hS => ?_)
              clear hK K
              (try simp only [pk17, Act.put, nzA, nzB, nzC])
              refine tkP (i := 18) (oi := pk18) hS (fun w9 => by simp only [pk18]; go_simp; (try with_reducible rfl)) ?_
              simp only [pk18, Act.put, nzA, nzB, nzC]
              refine wpAnyH_ready (rs := [23]) (by kernel_rfl) (by simp) ?_
              refine AllReadyH.cons (o := pk23) rfl (fun K hK => ?_) ?_
              · rw [if_pos (by rfl)]
                simp only [pk23]
                go_simp
                go_at_call 75
                refine (iUpTo _ _ 1 [h.index] rfl (by omega) _ (slices_at sl2)).mono ?_
                rintro e v7 ⟨rfl, rfl⟩
                (try rw [wb.out]); (try rw [wq.out]); rw [e3]
                (go_wp2_with fail)
                have hS2 : Cls W v7 := hS
                refine hK.out _ _ hS2 (fun hS => ?_)
                clear hK K
                (try simp only [pk23, Act.put, nzA, nzB, nzC])
                refine tkP (i := 24) (oi := pk24) hS (fun w9 => by simp only [pk24]; go_simp; (try with_reducible rfl)) ?_
                simp only [pk24, Act.put, nzA, nzB, nzC]
                refine tkP (i := 25) (oi := pk25) hS (fun w9 => by simp only [pk25]; go_simp; (try with_reducible rfl)) ?_
                simp only [pk25, Act.put, nzA, nzB, nzC]
                refine tkP (i := 26) (oi := pk26) hS (fun w9 => by simp only [pk26]; go_simp; (try with_reducible rfl)) ?_
                simp only [pk26, Act.put, nzA, nzB, nzC]
                refine tkL (i := 27) (oi := pk27) hS rfl rfl (by assumption) ?_
                simp only [pk27, Act.put, nzA, nzB, nzC]
                refine tkP (i := 28) (oi := pk28) hS (fun w9 => by simp only [pk28]; go_simp; (try with_reducible rfl)) ?_
                simp only [pk28, Act.put, nzA, nzB, nzC]
                refine tkP (i := 29) (oi := pk29) hS (fun w9 => by simp only [pk29]; go_simp; (try with_reducible rfl)) ?_
                simp only [pk29, Act.put, nzA, nzB, nzC]
                refine tkP (i := 30) (oi := pk30) hS (fun w9 => by simp only [pk30]; go_simp; (try with_reducible rfl)) ?_
                simp only [pk30, Act.put, nzA, nzB, nzC]
                refine tkP (i := 31) (oi := pk31) hS (fun w9 => by simp only [pk31]; go_simp; (try with_reducible rfl)) ?_
                simp only [pk31, Act.put, nzA, nzB, nzC]
                refine tkL (i := 32) (oi := pk32) hS rfl rfl (by assumption) ?_
                simp only [pk32, Act.put, nzA, nzB, nzC]
                refine wpAnyH_ready (rs := [33]) (by kernel_rfl) (by simp) ?_
                refine AllReadyH.cons (o := pk33) rfl (fun K hK => ?_) ?_
                · rw [if_pos (by rfl)]
                  simp only [pk33]
                  go_simp
                  have sl3 : At (v7.alloc (.cells #[.int .i64 h.which] 2)) v7.heap.size #[.int .i64 h.which] 2 := At.new _ _ _
                  have hb : Below v7.heap.size v7 (v7.alloc (.cells #[.int .i64 h.which] 2)) := (Below.refl _ _).alloc (Nat.le_refl _) _
                  generalize v7.alloc (.cells #[.int .i64 h.which] 2) = v8 at *
                  replace sl1 := sl1.keep hb
                  replace sl2 := sl2.keep hb
                  have hS2 : Cls W v8 := ⟨hS.below.trans (hb.mono hS.below.size)⟩
                  clear hb
                  refine hK.out _ _ hS2 (fun hS => ?_)
                  clear hK K
                  (try simp only [pk33, Act.put, nzA, nzB, nzC])
                  refine wpAnyH_ready (rs := [34]) (by kernel_rfl) (by simp) ?_
                  refine AllReadyH.cons (o := pk34) rfl (fun K hK => ?_) ?_
                  · rw [if_pos (by rfl)]
                    simp only [pk34]
                    go_simp
                    go_at_call 75
                    refine (iUpTo _ _ 1 [h.which] rfl (by omega) _ (slices_at sl3)).mono ?_
                    rintro e v9 ⟨rfl, rfl⟩
                    (try rw [wp.out]); (try rw [wq.out]); rw [e4]
                    (go_wp2_with fail)
                    have hS2 : Cls W v9 := hS
                    refine hK.out _ _ hS2 (fun hS => ?_)
                    clear hK K
                    (try simp only [pk34, Act.put, nzA, nzB, nzC])
                    refine tkP (i := 35) (oi := pk35) hS (fun w9 => by simp only [pk35]; go_simp; (try with_reducible rfl)) ?_
                    simp only [pk35, Act.put, nzA, nzB, nzC]
                    refine tkP (i := 36) (oi := pk36) hS (fun w9 => by simp only [pk36]; go_simp; (try with_reducible rfl)) ?_
                    simp only [pk36, Act.put, nzA, nzB, nzC]
                    refine wpAnyH_done (by kernel_rfl) ?_ _
                    go_wp2
                    go_returns
                    exact ⟨ret_b (by simp only [Hd.placesB, ez.out, *]; rfl), z.trans (hS.below.mono z.size)⟩
                  exact AllReadyH.nil
                exact AllReadyH.nil
              exact AllReadyH.nil
            exact AllReadyH.nil
          exact AllReadyH.nil
        exact AllReadyH.nil
      exact AllReadyH.nil
    exact AllReadyH.nil
  exact AllReadyH.nil
theorem iPlaces (p s l c k : Int) (h : Hd) (ho : ok p s l c k = true) (w : World) : Calls Tryz.prog 82 #[.agg h.ps.toArray, .agg #[.int .i64 p, .int .i64 s, .int .i64 l, .int .i64 c, .int .i64 k]] w fun e w' => e = .returned (.bool (h.placesB p s l c)) ∧ Below w.heap.size w w' := by
  have h' := ok_iff.1 ho
  obtain ⟨z0, ez⟩ : ∃ z0 : Int, Hid (zF p s l c = z0) := ⟨_, rfl⟩
  have zb : 0 ≤ z0 ∧ z0 ≤ 100000 := by
    have hq := sq_bd h'.1 h'.2.1
    rw [← ez.out]; unfold zF; (try unfold sF); (try unfold rF); (try unfold nF); omega
  cases e1 : inB h.for_ 0 (p - 1) with
  | false => exact iPlacesA p s l c k z0 h ho ez zb e1 w
  | true =>
    cases e2 : allUp (z0 - 1) [h.addr] with
    | false => exact iPlacesB p s l c k z0 h ho ez zb e1 e2 w
    | true =>
      cases e3 : allUp (s + l + 1) [h.index] with
      | false => exact iPlacesC p s l c k z0 h ho ez zb e1 e2 e3 w
      | true =>
        cases e4 : allUp (2 * p - 1) [h.which] with
        | true => exact iPlacesD p s l c k z0 h ho ez zb e1 e2 e3 e4 w
        | false => exact iPlacesE p s l c k z0 h ho ez zb e1 e2 e3 e4 w
end Go.Proofs.YtgmoemjiffglbaaGreat
namespace Go.Proofs.YtgmoemjiffglbaaGreat
open Go.RowKit
set_option maxRecDepth 100000
set_option linter.unusedVariables false
theorem newR {ops : Array Oper} {rest : List Oper} {op : Oper} {a : Act} {w : World} {Q : Exit → Act → World → Prop} {ty t : TypeId} {cs : Array Value} {vs : List Value} (hi : (Tryz.prog.info? ty).map (·.size) = some vs.length) (h1 : ∀ v ∈ vs, v.oneCell' = true) (hgd : op.guard = none) (x y : Operand) (ho : op.op = .store ty x y)
    (hx : a.eval x = .pointer (some ⟨w.heap.size, 0, none⟩)) (hy : a.eval y = .agg vs.toArray) (hs : cs.size = vs.length)
    (h : ∀ w', At w' w.heap.size vs.toArray t → Below w.heap.size w w' → wpList Tryz.prog ops Q rest (a.put op.dst undef) w') : wpList Tryz.prog ops Q (op :: rest) a (w.alloc (.cells cs t)) :=
  storeR hi h1 hgd x y ho w.heap.size hx hy (At.new w cs t) hs fun w' Z kk => h w' Z (((Below.refl _ _).alloc (Nat.le_refl _) _).trans (kk.below (Nat.le_refl _) (by simp)))
theorem sub_get (pre l post : List Value) (j : Nat) (v : Value) (hv : l[j]? = some v) : (pre ++ l ++ post).toArray[pre.length + j]? = some v := by
  have hj : j < l.length := (List.getElem?_eq_some_iff.1 hv).1
  simp only [List.getElem?_toArray, List.append_assoc]
  rw [List.getElem?_append_right (by omega), Nat.add_sub_cancel_left, List.getElem?_append_left hj, hv]
def Hd.tp (h : Hd) : List Value := [.bool h.up, .bool h.inn, .int .i64 h.life, .int .i64 h.at_, .int .i64 h.last, .int .i64 h.kept]
theorem Hd.in_cp (h : Hd) : ∀ j v, h.cp[j]? = some v → h.ps.toArray[6 + j]? = some v := fun j v hv => sub_get h.tp h.cp (h.sp ++ h.mp) j v hv
theorem Hd.in_sp (h : Hd) : ∀ j v, h.sp[j]? = some v → h.ps.toArray[17 + j]? = some v := fun j v hv => sub_get (h.tp ++ h.cp) h.sp h.mp j v hv
theorem Hd.in_mp (h : Hd) : ∀ j v, h.mp[j]? = some v → h.ps.toArray[27 + j]? = some v := fun j v hv => by
  have := sub_get (h.tp ++ h.cp ++ h.sp) h.mp [] j v hv
  rw [List.append_nil] at this
  exact this
theorem allUp_one {m x : Int} : allUp m [x] = inB x 0 m := by simp [allUp, inB]
theorem parts_eq (p s l c : Int) (h : Hd) (hl : inB h.life 0 65535 = true) : (h.aliveB && h.callB && h.swapB && h.mendB && h.placesB p s l c) = (decide (1 ≤ h.life) && h.own p && h.swap p s l c && h.was) := by
  rw [Bool.eq_iff_iff]
  unfold Hd.aliveB Hd.callB Hd.swapB Hd.mendB Hd.placesB Hd.own Hd.swap Hd.was
  simp only [inB, decide_eq_true_eq] at hl
  simp only [allUp, inB, List.all_cons, List.all_nil, Bool.and_true, Bool.and_eq_true, decide_eq_true_eq]
  constructor
  · intro hh
    repeat' apply And.intro
    all_goals omega
  · intro hh
    repeat' apply And.intro
    all_goals omega
set_option maxHeartbeats 8000000 in
theorem iHandOkN (p s l c k : Int) (h : Hd) (ho : ok p s l c k = false) (w : World) : Calls Tryz.prog 43 #[.agg #[.int .i64 p, .int .i64 s, .int .i64 l, .int .i64 c, .int .i64 k], .agg h.ar] w fun e w' => e = .returned (.bool false) ∧ Below w.heap.size w w' := by
  go_enter Tryz.func43, Tryz.ntmps43
  go_upto_region 1 with fail
  refine wp_at (fun W => At W w.heap.size #[.int .i64 p, .int .i64 s, .int .i64 l, .int .i64 c, .int .i64 k] 35 ∧ At W (w.heap.size + 1) h.ar 28 ∧ Below w.heap.size w W) (two_box w _ _ _ _) ?_
  rintro W ⟨P, A, z⟩
  obtain ⟨d0, d1, d2, d3, d4⟩ := P.five
  go_wp2_with (first
    | (go_at_call 74; refine (iPlanOk _ _ _ _ _ _).mono ?_; rintro e w1 ⟨rfl, hb⟩; rw [ho]; clear d0 d1 d2 d3 d4; replace P := P.keep hb; replace A := A.keep hb; replace z := z.trans (hb.mono z.size); clear hb; obtain ⟨d0, d1, d2, d3, d4⟩ := P.five; have c4 : World.cell? w1 ⟨w.heap.size + 1, 4, none⟩ = some (.int .i64 h.life) := A.cell 4; have c0 : World.cell? w1 ⟨w.heap.size + 1, 0, none⟩ = some (.bool h.up) := (A.cell 0).trans (by show some (Value.bool h.up) = _; rfl)))
  go_returns
  exact ⟨rfl, z⟩
set_option maxHeartbeats 8000000 in
theorem iHandOkL (p s l c k : Int) (h : Hd) (ho : ok p s l c k = true) (hl : allUp 65535 [h.life] = false) (w : World) : Calls Tryz.prog 43 #[.agg #[.int .i64 p, .int .i64 s, .int .i64 l, .int .i64 c, .int .i64 k], .agg h.ar] w fun e w' => e = .returned (.bool false) ∧ Below w.heap.size w w' := by
  go_enter Tryz.func43, Tryz.ntmps43
  go_upto_region 1 with fail
  refine wp_at (fun W => At W w.heap.size #[.int .i64 p, .int .i64 s, .int .i64 l, .int .i64 c, .int .i64 k] 35 ∧ At W (w.heap.size + 1) h.ar 28 ∧ Below w.heap.size w W) (two_box w _ _ _ _) ?_
  rintro W ⟨P, A, z⟩
  obtain ⟨d0, d1, d2, d3, d4⟩ := P.five
  go_wp2_with (first
    | (go_at_call 74; refine (iPlanOk _ _ _ _ _ _).mono ?_; rintro e w1 ⟨rfl, hb⟩; rw [ho]; clear d0 d1 d2 d3 d4; replace P := P.keep hb; replace A := A.keep hb; replace z := z.trans (hb.mono z.size); clear hb; obtain ⟨d0, d1, d2, d3, d4⟩ := P.five; have c4 : World.cell? w1 ⟨w.heap.size + 1, 4, none⟩ = some (.int .i64 h.life) := A.cell 4; have c0 : World.cell? w1 ⟨w.heap.size + 1, 0, none⟩ = some (.bool h.up) := (A.cell 0).trans (by show some (Value.bool h.up) = _; rfl))
    | (go_at_call 75; (with_reducible refine (iUpTo1 _ _ _ _).mono ?_); rintro e w1 ⟨rfl, hb⟩; rw [hl]; clear c4 c0; clear d0 d1 d2 d3 d4; replace P := P.keep hb; replace A := A.keep hb; replace z := z.trans (hb.mono z.size); clear hb; obtain ⟨d0, d1, d2, d3, d4⟩ := P.five; have c4 : World.cell? w1 ⟨w.heap.size + 1, 4, none⟩ = some (.int .i64 h.life) := A.cell 4; have c0 : World.cell? w1 ⟨w.heap.size + 1, 0, none⟩ = some (.bool h.up) := (A.cell 0).trans (by show some (Value.bool h.up) = _; rfl)))
  go_returns
  exact ⟨rfl, z⟩
set_option maxHeartbeats 8000000 in
theorem iHandOkD (p s l c k : Int) (h : Hd) (ho : ok p s l c k = true) (hl : allUp 65535 [h.life] = true) (hu : h.up = false) (w : World) : Calls Tryz.prog 43 #[.agg #[.int .i64 p, .int .i64 s, .int .i64 l, .int .i64 c, .int .i64 k], .agg h.ar] w fun e w' => e = .returned (.bool (h.same h.downed)) ∧ Below w.heap.size w w' := by
  go_enter Tryz.func43, Tryz.ntmps43
  go_upto_region 1 with fail
  refine wp_at (fun W => At W w.heap.size #[.int .i64 p, .int .i64 s, .int .i64 l, .int .i64 c, .int .i64 k] 35 ∧ At W (w.heap.size + 1) h.ar 28 ∧ Below w.heap.size w W) (two_box w _ _ _ _) ?_
  rintro W ⟨P, A, z⟩
  obtain ⟨d0, d1, d2, d3, d4⟩ := P.five
  go_upto_region 4 with (first
    | (go_at_call 74; refine (iPlanOk _ _ _ _ _ _).mono ?_; rintro e w1 ⟨rfl, hb⟩; rw [ho]; clear d0 d1 d2 d3 d4; replace P := P.keep hb; replace A := A.keep hb; replace z := z.trans (hb.mono z.size); clear hb; obtain ⟨d0, d1, d2, d3, d4⟩ := P.five; have c4 : World.cell? w1 ⟨w.heap.size + 1, 4, none⟩ = some (.int .i64 h.life) := A.cell 4; have c0 : World.cell? w1 ⟨w.heap.size + 1, 0, none⟩ = some (.bool false) := (A.cell 0).trans (by show some (Value.bool h.up) = _; rw [hu]))
    | (go_at_call 75; (with_reducible refine (iUpTo1 _ _ _ _).mono ?_); rintro e w1 ⟨rfl, hb⟩; rw [hl]; clear c4 c0; clear d0 d1 d2 d3 d4; replace P := P.keep hb; replace A := A.keep hb; replace z := z.trans (hb.mono z.size); clear hb; obtain ⟨d0, d1, d2, d3, d4⟩ := P.five; have c4 : World.cell? w1 ⟨w.heap.size + 1, 4, none⟩ = some (.int .i64 h.life) := A.cell 4; have c0 : World.cell? w1 ⟨w.heap.size + 1, 0, none⟩ = some (.bool false) := (A.cell 0).trans (by show some (Value.bool h.up) = _; rw [hu])))
  have lh : ∀ w', Cls w1 w' → (loadVar 28 ⟨w.heap.size + 1, 0, none⟩).run Tryz.prog w' = .ok (.agg h.ar) w' := ld_agg (vs := h.vs) A Tryz.underlying28 rfl (by kernel_rfl)
  refine wp_region_cls (by kernel_rfl) (by kernel_rfl) ?_
  repeat' (first
    | go_big_quiet_skip
    | (go_big_quiet_want; first
      | (refine q_load _ _ _ _ rfl rfl (by assumption) ?_; simp only [Act.put, List.setIfInBounds_toArray, List.set_cons_zero, List.set_cons_succ]; go_big_quiet_on)
      | (refine q_eqH (.tmp 19) (.tmp 21) rfl h h.downed rfl rfl ?_; simp only [Act.put, List.setIfInBounds_toArray, List.set_cons_zero, List.set_cons_succ]; go_big_quiet_on)
      | (go_big_quiet_op; first
        | go_big_quiet_on
        | (apply Exists.intro; refine ⟨fun w' hw' => ?_, ?_⟩
           · (first
             | (go_at_call 76; exact cls_below hw' (iDowned h _)))
           go_big_quiet_on))))
  refine wpQuiet_nil ?_
  intro w2 hw2
  go_wp2
  go_returns
  exact ⟨rfl, z.trans (hw2.below.mono z.size)⟩
set_option maxHeartbeats 16000000 in
theorem iHandOkU (p s l c k : Int) (h : Hd) (ho : ok p s l c k = true) (hl : allUp 65535 [h.life] = true) (hu : h.up = true) (w : World) : Calls Tryz.prog 43 #[.agg #[.int .i64 p, .int .i64 s, .int .i64 l, .int .i64 c, .int .i64 k], .agg h.ar] w fun e w' => e = .returned (.bool (h.aliveB && h.callB && h.swapB && h.mendB && h.placesB p s l c)) ∧ Below w.heap.size w w' := by
  go_enter Tryz.func43, Tryz.ntmps43
  go_upto_region 1 with fail
  refine wp_at (fun W => At W w.heap.size #[.int .i64 p, .int .i64 s, .int .i64 l, .int .i64 c, .int .i64 k] 35 ∧ At W (w.heap.size + 1) h.ar 28 ∧ Below w.heap.size w W) (two_box w _ _ _ _) ?_
  rintro W ⟨P, A, z⟩
  obtain ⟨d0, d1, d2, d3, d4⟩ := P.five
  go_upto_region 6 with (first
    | (go_at_call 74; refine (iPlanOk _ _ _ _ _ _).mono ?_; rintro e w1 ⟨rfl, hb⟩; rw [ho]; clear d0 d1 d2 d3 d4; replace P := P.keep hb; replace A := A.keep hb; replace z := z.trans (hb.mono z.size); clear hb; obtain ⟨d0, d1, d2, d3, d4⟩ := P.five; have c4 : World.cell? w1 ⟨w.heap.size + 1, 4, none⟩ = some (.int .i64 h.life) := A.cell 4; have c0 : World.cell? w1 ⟨w.heap.size + 1, 0, none⟩ = some (.bool true) := (A.cell 0).trans (by show some (Value.bool h.up) = _; rw [hu]))
    | (go_at_call 75; (with_reducible refine (iUpTo1 _ _ _ _).mono ?_); rintro e w1 ⟨rfl, hb⟩; rw [hl]; clear c4 c0; clear d0 d1 d2 d3 d4; replace P := P.keep hb; replace A := A.keep hb; replace z := z.trans (hb.mono z.size); clear hb; obtain ⟨d0, d1, d2, d3, d4⟩ := P.five; have c4 : World.cell? w1 ⟨w.heap.size + 1, 4, none⟩ = some (.int .i64 h.life) := A.cell 4; have c0 : World.cell? w1 ⟨w.heap.size + 1, 0, none⟩ = some (.bool true) := (A.cell 0).trans (by show some (Value.bool h.up) = _; rw [hu]))
    | (refine loadHl rfl (.tmp 3) rfl (w.heap.size + 1) h rfl A ?_)
    | (go_at_call 77; refine (iParts h _).mono ?_; rintro e w1 ⟨rfl, hb⟩; clear d0 d1 d2 d3 d4; replace P := P.keep hb; replace A := A.keep hb; replace z := z.trans (hb.mono z.size); clear hb; obtain ⟨d0, d1, d2, d3, d4⟩ := P.five; have c4 : World.cell? w1 ⟨w.heap.size + 1, 4, none⟩ = some (.int .i64 h.life) := A.cell 4; have c0 : World.cell? w1 ⟨w.heap.size + 1, 0, none⟩ = some (.bool true) := (A.cell 0).trans (by show some (Value.bool h.up) = _; rw [hu]))
    | (refine newR (vs := h.ps) (by kernel_rfl) h.ps_one rfl (.tmp 5) (.tmp 24) rfl rfl rfl rfl ?_; intro w2 Z hb; clear d0 d1 d2 d3 d4 c4 c0; replace P := P.keep hb; replace z := z.trans (hb.mono z.size); clear hb A; obtain ⟨d0, d1, d2, d3, d4⟩ := P.five))
  generalize w1.heap.size = b1 at *
  cases hm : h.mendB
  all_goals (go_wp2_with (first
    | (refine loadR h.ps Tryz.underlying111 rfl (by kernel_rfl) rfl (.tmp 5) rfl b1 0 rfl Z (fun j v hj => by rw [Nat.zero_add]; simpa using hj) ?_)
    | (refine loadR h.cp Tryz.underlying105 rfl (by kernel_rfl) rfl (.tmp 28) rfl b1 6 rfl Z h.in_cp ?_)
    | (refine loadR h.sp Tryz.underlying107 rfl (by kernel_rfl) rfl (.tmp 33) rfl b1 17 rfl Z h.in_sp ?_)
    | (refine loadR h.mp Tryz.underlying109 rfl (by kernel_rfl) rfl (.tmp 38) rfl b1 27 rfl Z h.in_mp ?_)
    | (go_at_call 78; refine (iAlive h _).mono ?_; rintro e w3 ⟨rfl, hb⟩; clear d0 d1 d2 d3 d4; replace P := P.keep hb; replace Z := Z.keep hb; replace z := z.trans (hb.mono z.size); clear hb; obtain ⟨d0, d1, d2, d3, d4⟩ := P.five)
    | (go_at_call 79; refine (iCall h _).mono ?_; rintro e w3 ⟨rfl, hb⟩; clear d0 d1 d2 d3 d4; replace P := P.keep hb; replace Z := Z.keep hb; replace z := z.trans (hb.mono z.size); clear hb; obtain ⟨d0, d1, d2, d3, d4⟩ := P.five)
    | (go_at_call 80; refine (iSwp h _).mono ?_; rintro e w3 ⟨rfl, hb⟩; clear d0 d1 d2 d3 d4; replace P := P.keep hb; replace Z := Z.keep hb; replace z := z.trans (hb.mono z.size); clear hb; obtain ⟨d0, d1, d2, d3, d4⟩ := P.five)
    | (go_at_call 81; refine (iMnd h _).mono ?_; rintro e w3 ⟨rfl, hb⟩; rw [hm]; clear d0 d1 d2 d3 d4; replace P := P.keep hb; replace Z := Z.keep hb; replace z := z.trans (hb.mono z.size); clear hb; obtain ⟨d0, d1, d2, d3, d4⟩ := P.five)
    | (go_at_call 82; refine (iPlaces p s l c k h ho _).mono ?_; rintro e w3 ⟨rfl, hb⟩; clear d0 d1 d2 d3 d4; replace P := P.keep hb; replace Z := Z.keep hb; replace z := z.trans (hb.mono z.size); clear hb; obtain ⟨d0, d1, d2, d3, d4⟩ := P.five)))
  all_goals go_returns
  all_goals refine ⟨ret_b ?_, z⟩
  all_goals simp_all
theorem iHandOk (p s l c k : Int) (h : Hd) (w : World) : Calls Tryz.prog 43 #[.agg #[.int .i64 p, .int .i64 s, .int .i64 l, .int .i64 c, .int .i64 k], .agg h.ar] w fun e w' => e = .returned (.bool (hOk p s l c k h)) ∧ Below w.heap.size w w' := by
  unfold hOk
  cases ho : ok p s l c k with
  | false => exact iHandOkN p s l c k h ho w
  | true =>
    cases hl : inB h.life 0 65535 with
    | false => exact iHandOkL p s l c k h ho (by rw [allUp_one]; exact hl) w
    | true =>
      cases hu : h.up with
      | false => exact iHandOkD p s l c k h ho (by rw [allUp_one]; exact hl) hu w
      | true =>
        have := iHandOkU p s l c k h ho (by rw [allUp_one]; exact hl) hu w
        rw [parts_eq p s l c h hl] at this
        exact this
end Go.Proofs.YtgmoemjiffglbaaGreat
