/-
  Birth, on both sides.
  The ranges of a hand: the specification's own side.
  The ranges of a hand: the specification's swap part, by one walk of a region that draws its order.
  Two hands compared.
  Whether a hand is right: the specification's side.
  A hand in parts: the program's side.
-/
import Derived.Test.YtljpkgloegafnaaMf
import Derived.BigQuiet
import Derived.Laws.StructEq
namespace Go.Proofs.Ytljpkgloegafnaa
open Go.RowKit
set_option linter.unusedVariables false
def Hd.born (h : Hd) : Hd := { Hd.zero with up := true, life := h.life + 1 }
def Hd.may (h : Hd) : Bool := decide (h.up = false ∧ 0 ≤ h.life ∧ h.life ≤ 65534)
def Hd.raised (h : Hd) : Hd := if h.may = true then h.born else h
theorem bBorn (h : Hd) : Try.prog.built 39 [(0, .bool true), (4, .int .i64 (h.life + 1))] = some h.born.ar := by kernel_rfl
theorem slices (W : World) (xs : List Int) (t : TypeId) (n : Nat) (hn : xs.length = n) : Hid (∀ i, i < n → (W.alloc (.cells (xs.map (Value.int .i64)).toArray t)).cell? ⟨W.heap.size, i, none⟩ = some (.int .i64 (xs.getD i 0))) := by
  show ∀ i, i < n → _
  intro i hi
  rw [(At.new W _ t).cell i]
  simp [hn, hi]
end Go.Proofs.Ytljpkgloegafnaa
namespace Go.Proofs.Ytljpkgloegafnaa
open Go.RowKit
set_option linter.unusedVariables false
def Hd.own (h : Hd) (p : Int) : Bool := inB h.at_ 0 70 && inB h.code 0 14 && inB h.a 0 65535 && inB h.b 0 4294967295 && inB h.c 0 65535 && inB h.number 0 4294967295 && inB h.for_ 0 (p - 1) && inB h.last 0 4294967295 && inB h.mine 0 4294967295 && inB h.kept 0 65535 && inB h.reply 0 255 && inB h.out 0 65535 && inB h.mark 0 20000 && inB h.begin_ 0 20000
def Hd.swap (h : Hd) (p s l c : Int) : Bool := inB h.addr 0 (zF p s l c - 1) && inB h.good 0 70 && inB h.bad 0 70 && inB h.does 0 7 && inB h.block 0 65535 && inB h.from_ 0 65535 && inB h.next 0 65535 && inB h.value 0 65535 && inB h.index 0 (s + l + 1) && inB h.which 0 (2 * p - 1)
def Hd.was (h : Hd) : Bool := inB h.wasCode 0 255 && inB h.wasItem 0 65535 && inB h.wasNumber 0 4294967295 && inB h.wasKind 0 255 && inB h.wasTag 0 4294967295
set_option maxHeartbeats 400000 in
theorem sInd (n : Int) (w : World) : Calls Try.prog 42 #[.int .i64 n] w fun e w' => e = .returned (.bool (inB n 0 65535)) ∧ w' = w := by
  go_enter Try.func42, Try.ntmps42
  go_wp2_with (go_at_call 36; refine (sIn _ _ _ _).mono ?_; rintro e w1 ⟨rfl, rfl⟩)
  go_returns
  exact ⟨rfl, rfl⟩
set_option maxHeartbeats 400000 in
theorem sSeq (n : Int) (w : World) : Calls Try.prog 43 #[.int .i64 n] w fun e w' => e = .returned (.bool (inB n 0 4294967295)) ∧ w' = w := by
  go_enter Try.func43, Try.ntmps43
  go_wp2_with (go_at_call 36; refine (sIn _ _ _ _).mono ?_; rintro e w1 ⟨rfl, rfl⟩)
  go_returns
  exact ⟨rfl, rfl⟩
set_option maxHeartbeats 400000 in
theorem sByt (n : Int) (w : World) : Calls Try.prog 41 #[.int .i64 n] w fun e w' => e = .returned (.bool (inB n 0 255)) ∧ w' = w := by
  go_enter Try.func41, Try.ntmps41
  go_wp2_with (go_at_call 36; refine (sIn _ _ _ _).mono ?_; rintro e w1 ⟨rfl, rfl⟩)
  go_returns
  exact ⟨rfl, rfl⟩
theorem two_box (w : World) (cs ds : Array Value) (t t' : TypeId) : At ((w.alloc (.cells cs t)).alloc (.cells ds t')) w.heap.size cs t ∧ At ((w.alloc (.cells cs t)).alloc (.cells ds t')) (w.heap.size + 1) ds t' ∧ Below w.heap.size w ((w.alloc (.cells cs t)).alloc (.cells ds t')) := by
  have e : (w.alloc (.cells cs t)).heap.size = w.heap.size + 1 := by simp
  refine ⟨(At.new w cs t).keep ((Below.refl _ _).alloc (Nat.le_refl _) _), ?_, ((Below.refl _ _).alloc (Nat.le_refl _) _).alloc (by omega) _⟩
  have := At.new (w.alloc (.cells cs t)) ds t'
  rwa [e] at this
theorem At.five {w : World} {b : Nat} {x0 x1 x2 x3 x4 : Value} {t : TypeId} (h : At w b #[x0, x1, x2, x3, x4] t) : w.cell? ⟨b, 0, none⟩ = some x0 ∧ w.cell? ⟨b, 1, none⟩ = some x1 ∧ w.cell? ⟨b, 2, none⟩ = some x2 ∧ w.cell? ⟨b, 3, none⟩ = some x3 ∧ w.cell? ⟨b, 4, none⟩ = some x4 := ⟨h.cell 0, h.cell 1, h.cell 2, h.cell 3, h.cell 4⟩
end Go.Proofs.Ytljpkgloegafnaa
namespace Go.Proofs.Ytljpkgloegafnaa
open Go.RowKit
set_option maxRecDepth 100000
set_option linter.unusedVariables false
end Go.Proofs.Ytljpkgloegafnaa
namespace Go.Proofs.Ytljpkgloegafnaa
open Go.RowKit Go.Deep
set_option linter.unusedVariables false
theorem notAgg_i {P : Program} {t : TypeId} {k : IntKind} (hu : P.underlying t = some (.int k)) (w : World) : (isAgg t).run P w = .ok false w := by
  unfold isAgg
  rw [Sem.run_bind, run_underlying hu w]
  simp
theorem notAgg_b {P : Program} {t : TypeId} (hu : P.underlying t = some .bool) (w : World) : (isAgg t).run P w = .ok false w := by
  unfold isAgg
  rw [Sem.run_bind, run_underlying hu w]
  simp
theorem part_at {P : Program} {t : TypeId} {xs : Array Value} {i : Nat} {v : Value} {w : World} (ha : (isAgg t).run P w = .ok false w) (hx : xs[i]? = some v) : (part t xs i).run P w = .ok v w := by
  unfold part
  simp [Sem.run_bind, ha, hx]
theorem run_eqF {P : Program} (d : Nat) (xs ys : Array Value) (w : World) : ∀ (fs : List Field), (∀ f ∈ fs, f.name ≠ "_" ∧ ((P.underlying f.type = some .bool ∧ ∃ a b, xs[f.offset]? = some (.bool a) ∧ ys[f.offset]? = some (.bool b)) ∨ ∃ k, P.underlying f.type = some (.int k) ∧ ∃ a b, xs[f.offset]? = some (.int k a) ∧ ys[f.offset]? = some (.int k b))) →
    ∃ b : Bool, (Op.eqFields (d + 1) xs ys fs).run P w = .ok b w ∧ (b = true ↔ ∀ f ∈ fs, xs[f.offset]? = ys[f.offset]?)
  | [], _ => ⟨true, by simp [Op.eqFields], by simp⟩
  | f :: fs, h => by
    obtain ⟨b, hb, hi⟩ := run_eqF d xs ys w fs (fun g hg => h g (List.mem_cons_of_mem _ hg))
    obtain ⟨hn, hk⟩ := h f (by simp)
    rcases hk with ⟨hu, x, y, hx, hy⟩ | ⟨k, hu, x, y, hx, hy⟩
    · refine ⟨(x == y) && b, ?_, ?_⟩
      · simp only [Op.eqFields, if_pos hn, Sem.run_bind, part_at (notAgg_b hu w) hx, part_at (notAgg_b hu w) hy, Result.andThen_ok, run_equalIn_bool' w d f.type x y hu]
        cases hxy : (x == y)
        · simp
        · simpa using hb
      · simp only [Bool.and_eq_true, hi, List.mem_cons, forall_eq_or_imp, hx, hy]
        simp
    · refine ⟨(x == y) && b, ?_, ?_⟩
      · simp only [Op.eqFields, if_pos hn, Sem.run_bind, part_at (notAgg_i hu w) hx, part_at (notAgg_i hu w) hy, Result.andThen_ok, run_equalIn_int w d f.type k k x y hu]
        cases hxy : (x == y)
        · simp
        · simpa using hb
      · simp only [Bool.and_eq_true, hi, List.mem_cons, forall_eq_or_imp, hx, hy]
        simp
noncomputable def Hd.same (h k : Hd) : Bool := @decide (h = k) (Classical.propDecidable _)
theorem Hd.same_iff {h k : Hd} : h.same k = true ↔ h = k := by unfold Hd.same; exact @decide_eq_true_iff _ (Classical.propDecidable _)
theorem Hd.inj {h k : Hd} (e : h.vs = k.vs) : h = k := by
  cases h; cases k
  simp only [Hd.vs, List.cons.injEq, Value.bool.injEq, Value.int.injEq, true_and, and_true] at e
  simp only [Hd.mk.injEq]
  exact e
theorem Hd.kinds (h : Hd) (i : Nat) (hi : i < 36) : (hk i = none ∧ ∃ b, h.ar[i]? = some (.bool b)) ∨ ∃ k, hk i = some k ∧ ∃ a, h.ar[i]? = some (.int k a) := by
  match i, hi with
  | 0, _ => exact .inl ⟨rfl, _, rfl⟩
  | 1, _ => exact .inl ⟨rfl, _, rfl⟩
  | 2, _ => exact .inl ⟨rfl, _, rfl⟩
  | 3, _ => exact .inl ⟨rfl, _, rfl⟩
  | 4, _ => exact .inr ⟨.i64, rfl, _, rfl⟩
  | 5, _ => exact .inr ⟨.i64, rfl, _, rfl⟩
  | 6, _ => exact .inr ⟨.i64, rfl, _, rfl⟩
  | 7, _ => exact .inr ⟨.i64, rfl, _, rfl⟩
  | 8, _ => exact .inr ⟨.i64, rfl, _, rfl⟩
  | 9, _ => exact .inr ⟨.i64, rfl, _, rfl⟩
  | 10, _ => exact .inr ⟨.i64, rfl, _, rfl⟩
  | 11, _ => exact .inr ⟨.i64, rfl, _, rfl⟩
  | 12, _ => exact .inr ⟨.i64, rfl, _, rfl⟩
  | 13, _ => exact .inr ⟨.i64, rfl, _, rfl⟩
  | 14, _ => exact .inr ⟨.i64, rfl, _, rfl⟩
  | 15, _ => exact .inr ⟨.u64, rfl, _, rfl⟩
  | 16, _ => exact .inr ⟨.u64, rfl, _, rfl⟩
  | 17, _ => exact .inr ⟨.i64, rfl, _, rfl⟩
  | 18, _ => exact .inr ⟨.i64, rfl, _, rfl⟩
  | 19, _ => exact .inr ⟨.i64, rfl, _, rfl⟩
  | 20, _ => exact .inr ⟨.i64, rfl, _, rfl⟩
  | 21, _ => exact .inr ⟨.i64, rfl, _, rfl⟩
  | 22, _ => exact .inr ⟨.i64, rfl, _, rfl⟩
  | 23, _ => exact .inr ⟨.i64, rfl, _, rfl⟩
  | 24, _ => exact .inr ⟨.i64, rfl, _, rfl⟩
  | 25, _ => exact .inr ⟨.i64, rfl, _, rfl⟩
  | 26, _ => exact .inr ⟨.i64, rfl, _, rfl⟩
  | 27, _ => exact .inr ⟨.i64, rfl, _, rfl⟩
  | 28, _ => exact .inr ⟨.i64, rfl, _, rfl⟩
  | 29, _ => exact .inr ⟨.i64, rfl, _, rfl⟩
  | 30, _ => exact .inr ⟨.i64, rfl, _, rfl⟩
  | 31, _ => exact .inr ⟨.i64, rfl, _, rfl⟩
  | 32, _ => exact .inr ⟨.i64, rfl, _, rfl⟩
  | 33, _ => exact .inr ⟨.i64, rfl, _, rfl⟩
  | 34, _ => exact .inr ⟨.i64, rfl, _, rfl⟩
  | 35, _ => exact .inr ⟨.i64, rfl, _, rfl⟩
  | n + 36, hi => omega
def namesOk (fs : Array Field) : Bool := fs.toList.all fun f => f.name != "_"
theorem eqlH_run {fs : Array Field} (hs : Try.prog.underlying 39 = some (.struct fs)) (hn : namesOk fs = true) (hone : oneCellFields Try.prog fs = true) (hall : fieldsAre Try.prog fs = true) (hz : fs.size = 36) (hp : Try.prog.stoodInHeld 39 = false) (h k : Hd) (w : World) :
    (binOp .eql 39 (.agg h.ar) (.agg k.ar)).run Try.prog w = .ok (.bool (h.same k)) w := by
  have hf : Try.prog.fieldsOf 39 = fs := by unfold Program.fieldsOf; rw [hs]
  rw [run_eql_struct, run_equalIn_struct w 9999 _ _ _ (by rw [hf]; exact hs) hp, hf]
  obtain ⟨b, hb, hi⟩ := run_eqF (P := Try.prog) 9998 h.ar k.ar w fs.toList (by
    intro f hm
    obtain ⟨i, hlt, rfl⟩ := List.mem_iff_getElem.1 hm
    have hlt' : i < fs.size := by simpa using hlt
    have hg : fs[i]? = some fs.toList[i] := by simp [hlt']
    refine ⟨?_, ?_⟩
    · have := List.all_eq_true.1 hn _ hm
      simpa using this
    · rw [(hone_of hone i _ hg).1]
      rcases h.kinds i (by omega) with ⟨e1, x, hx⟩ | ⟨kk, e1, x, hx⟩
      · rcases k.kinds i (by omega) with ⟨e2, y, hy⟩ | ⟨kk, e2, y, hy⟩
        · exact .inl ⟨fieldsAre_bool hall i _ hg e1, x, y, hx, hy⟩
        · rw [e1] at e2; cases e2
      · rcases k.kinds i (by omega) with ⟨e2, y, hy⟩ | ⟨k2, e2, y, hy⟩
        · rw [e1] at e2; cases e2
        · rw [e1] at e2; cases e2
          refine .inr ⟨kk, ?_, x, y, hx, hy⟩
          unfold hk at e1
          split at e1
          · cases e1
          · split at e1
            · cases e1; exact fieldsAre_u hall i _ hg (by unfold hk; rw [if_neg (by assumption), if_pos (by assumption)])
            · cases e1; exact fieldsAre_i hall i _ hg (by unfold hk; rw [if_neg (by assumption), if_neg (by assumption)]))
  have e : b = h.same k := by
    rw [Bool.eq_iff_iff, hi, Hd.same_iff]
    constructor
    · intro ha
      refine Hd.inj (List.ext_getElem? fun i => ?_)
      by_cases hlt : i < 36
      · have hlt' : i < fs.size := by omega
        have := ha fs.toList[i] (List.getElem_mem (by simpa using hlt'))
        rw [(hone_of hone i fs.toList[i] (by simp [hlt'])).1] at this
        simpa [Hd.ar] using this
      · have h1 := h.len
        have h2 := k.len
        rw [List.getElem?_eq_none (by omega), List.getElem?_eq_none (by omega)]
    · intro ha; subst ha; intro f _; rfl
  rw [hb, e]
  rfl
theorem eqlH (h k : Hd) (w : World) : (binOp .eql 39 (.agg h.ar) (.agg k.ar)).run Try.prog w = .ok (.bool (h.same k)) w :=
  eqlH_run Try.underlying39 (by kernel_rfl) (by kernel_rfl) (by kernel_rfl) rfl (by kernel_rfl) h k w
theorem eqH_exec {ρ : Operand → Value} {o : Oper} (x y : Operand) (ho : o.op = .binOp .eql 39 x y 39) (h k : Hd) (hx : ρ x = .agg h.ar) (hy : ρ y = .agg k.ar) (w : World) : (execOp ρ o).run Try.prog w = .ok (.value (.bool (h.same k))) w := by
  unfold execOp
  rw [ho]
  simp only [hx, hy, Sem.run_bind, run_eqGuard_agg (P := Try.prog) w .eql 39 x y h.ar k.ar (by kernel_rfl), Result.andThen_ok, eqlH]
  rfl
theorem wpList_eqH {ops : Array Oper} {rest : List Oper} {o : Oper} {a : Act} {w : World} {Q : Exit → Act → World → Prop} (hg : o.guard = none) (x y : Operand) (ho : o.op = .binOp .eql 39 x y 39) (h k : Hd) (hx : a.eval x = .agg h.ar) (hy : a.eval y = .agg k.ar)
    (hr : wpList Try.prog ops Q rest (a.put o.dst (.bool (h.same k))) w) : wpList Try.prog ops Q (o :: rest) a w :=
  wpList_plain hg fun K hK => by
    unfold Oper.wp
    rw [eqH_exec x y ho h k hx hy w]
    exact hK _ _ hr
theorem q_eqH {o : Oper} {a : Act} {C : World → Prop} {K : Act → Prop} (x y : Operand) (ho : o.op = .binOp .eql 39 x y 39) (h k : Hd) (hx : a.eval x = .agg h.ar) (hy : a.eval y = .agg k.ar) (hk : K (a.put o.dst (.bool (h.same k)))) : o.quiet Try.prog a C K :=
  ⟨_, fun w hw => by
    unfold Oper.quietAt
    rw [eqH_exec x y ho h k hx hy w]
    exact ⟨rfl, rfl⟩, hk⟩
end Go.Proofs.Ytljpkgloegafnaa
namespace Go.Proofs.Ytljpkgloegafnaa
open Go.RowKit
set_option maxRecDepth 100000
set_option linter.unusedVariables false
theorem loadHg {ops : Array Oper} {rest : List Oper} {op : Oper} {a : Act} {w : World} {Q : Exit → Act → World → Prop} (hgd : Region.wanted op (yielded ops a.tmps) = true) (x : Operand) (ho : op.op = .load 39 x)
    (b : Nat) (k : Hd) (hx : a.eval x = .pointer (some ⟨b, 0, none⟩)) {t : TypeId} (Z : At w b k.ar t)
    (h : wpList Try.prog ops Q rest (a.put op.dst (.agg k.ar)) w) : wpList Try.prog ops Q (op :: rest) a w :=
  BigFrame.wpList_want hgd fun K hK => wp_load_mid 39 x ho b 0 hx k.vs _ Z.range Try.underlying39 rfl infoH (hK _ _ h)
noncomputable def hOk (p s l c k : Int) (h : Hd) : Bool := ok p s l c k && inB h.life 0 65535 && (if h.up = true then decide (1 ≤ h.life) && h.own p && h.swap p s l c && h.was else h.same h.downed)
end Go.Proofs.Ytljpkgloegafnaa
namespace Go.Proofs.Ytljpkgloegafnaa
open Go.RowKit
set_option maxRecDepth 100000
set_option linter.unusedVariables false
def Hd.cp (h : Hd) : List Value := [.int .i64 h.code, .int .i64 h.a, .int .i64 h.b, .int .i64 h.c, .int .i64 h.number, .int .i64 h.for_, .int .i64 h.mine, .int .i64 h.reply, .int .i64 h.out, .int .i64 h.mark, .int .i64 h.begin_]
def Hd.sp (h : Hd) : List Value := [.int .i64 h.addr, .int .u64 h.seen, .int .u64 h.put, .int .i64 h.good, .int .i64 h.bad, .int .i64 h.does, .int .i64 h.block, .int .i64 h.from_, .int .i64 h.next, .int .i64 h.value]
def Hd.mp (h : Hd) : List Value := [.bool h.sure, .bool h.known, .int .i64 h.index, .int .i64 h.which, .int .i64 h.wasCode, .int .i64 h.wasItem, .int .i64 h.wasNumber, .int .i64 h.wasKind, .int .i64 h.wasTag]
def Hd.ps (h : Hd) : List Value := [.bool h.up, .bool h.inn, .int .i64 h.life, .int .i64 h.at_, .int .i64 h.last, .int .i64 h.kept, .int .i64 h.code, .int .i64 h.a, .int .i64 h.b, .int .i64 h.c, .int .i64 h.number, .int .i64 h.for_, .int .i64 h.mine, .int .i64 h.reply, .int .i64 h.out, .int .i64 h.mark, .int .i64 h.begin_, .int .i64 h.addr, .int .u64 h.seen, .int .u64 h.put, .int .i64 h.good, .int .i64 h.bad, .int .i64 h.does, .int .i64 h.block, .int .i64 h.from_, .int .i64 h.next, .int .i64 h.value, .bool h.sure, .bool h.known, .int .i64 h.index, .int .i64 h.which, .int .i64 h.wasCode, .int .i64 h.wasItem, .int .i64 h.wasNumber, .int .i64 h.wasKind, .int .i64 h.wasTag]
theorem Hd.ps_one (h : Hd) : ∀ v ∈ h.ps, v.oneCell' = true := by simp [Hd.ps, Value.oneCell']
theorem storeR {ops : Array Oper} {rest : List Oper} {op : Oper} {a : Act} {w : World} {Q : Exit → Act → World → Prop} {ty : TypeId} {vs : List Value} (hi : (Try.prog.info? ty).map (·.size) = some vs.length) (h1 : ∀ v ∈ vs, v.oneCell' = true) (hgd : op.guard = none) (x y : Operand) (ho : op.op = .store ty x y)
    (b : Nat) (hx : a.eval x = .pointer (some ⟨b, 0, none⟩)) (hy : a.eval y = .agg vs.toArray) {cs : Array Value} {t : TypeId} (Z : At w b cs t) (hs : cs.size = vs.length)
    (h : ∀ w', At w' b vs.toArray t → Kept b w w' → wpList Try.prog ops Q rest (a.put op.dst undef) w') : wpList Try.prog ops Q (op :: rest) a w :=
  wpList_store_mid hgd ty x y ho b 0 vs.toArray hx hy (by simp only [List.size_toArray]; exact Z.there 0 _ (by omega)) (by simpa using hi) (all_oneCell_toArray h1) (h _ (Z.fillAll hs.symm) (kept_setCells b _ 0 w))
theorem loadR {ops : Array Oper} {rest : List Oper} {op : Oper} {a : Act} {w : World} {Q : Exit → Act → World → Prop} {ty : TypeId} {d : TypeDesc} (vs : List Value) (hu : Try.prog.underlying ty = some d) (hd : d.isRow = true) (hi : (Try.prog.info? ty).map (·.size) = some vs.length) (hgd : Region.wanted op (yielded ops a.tmps) = true) (x : Operand) (ho : op.op = .load ty x)
    (b o : Nat) (hx : a.eval x = .pointer (some ⟨b, o, none⟩)) {cs : Array Value} {t : TypeId} (Z : At w b cs t) (hr : ∀ j v, vs[j]? = some v → cs[o + j]? = some v)
    (h : wpList Try.prog ops Q rest (a.put op.dst (.agg vs.toArray)) w) : wpList Try.prog ops Q (op :: rest) a w :=
  BigFrame.wpList_want hgd fun K hK => wp_load_mid ty x ho b o hx vs d (fun j v hj => by rw [Z.cell]; exact hr j v hj) hu hd hi (hK _ _ h)
theorem iUpToN (m : Int) (xs : List Int) (n : Nat) (hl : xs.length = n) (hn : n ≤ 1000) (W : World) (t : TypeId) :
    Calls Try.prog 65 #[.int .i64 m, .slice (some ⟨W.heap.size, 0, none⟩) n n] (W.alloc (.cells (xs.map (Value.int .i64)).toArray t)) fun e w' => e = .returned (.bool (allUp m xs)) ∧ Below W.heap.size W w' :=
  (iUpTo m W.heap.size n xs hl hn _ (slices W xs t n hl)).mono fun e w' h => ⟨h.1, by rw [h.2]; exact (Below.refl _ _).alloc (Nat.le_refl _) _⟩
theorem iUpTo1 (m x0 : Int) (W : World) (t : TypeId) :
    Calls Try.prog 65 #[.int .i64 m, .slice (some ⟨W.heap.size, 0, none⟩) 1 1] (W.alloc (.cells #[.int .i64 x0] t)) fun e w' => e = .returned (.bool (allUp m [x0])) ∧ Below W.heap.size W w' :=
  iUpToN m [x0] 1 rfl (by omega) W t
theorem iUpTo2 (m x0 x1 : Int) (W : World) (t : TypeId) :
    Calls Try.prog 65 #[.int .i64 m, .slice (some ⟨W.heap.size, 0, none⟩) 2 2] (W.alloc (.cells #[.int .i64 x0, .int .i64 x1] t)) fun e w' => e = .returned (.bool (allUp m [x0, x1])) ∧ Below W.heap.size W w' :=
  iUpToN m [x0, x1] 2 rfl (by omega) W t
theorem iUpTo3 (m x0 x1 x2 : Int) (W : World) (t : TypeId) :
    Calls Try.prog 65 #[.int .i64 m, .slice (some ⟨W.heap.size, 0, none⟩) 3 3] (W.alloc (.cells #[.int .i64 x0, .int .i64 x1, .int .i64 x2] t)) fun e w' => e = .returned (.bool (allUp m [x0, x1, x2])) ∧ Below W.heap.size W w' :=
  iUpToN m [x0, x1, x2] 3 rfl (by omega) W t
theorem iUpTo4 (m x0 x1 x2 x3 : Int) (W : World) (t : TypeId) :
    Calls Try.prog 65 #[.int .i64 m, .slice (some ⟨W.heap.size, 0, none⟩) 4 4] (W.alloc (.cells #[.int .i64 x0, .int .i64 x1, .int .i64 x2, .int .i64 x3] t)) fun e w' => e = .returned (.bool (allUp m [x0, x1, x2, x3])) ∧ Below W.heap.size W w' :=
  iUpToN m [x0, x1, x2, x3] 4 rfl (by omega) W t
theorem bCall (h : Hd) : Try.prog.built 85 [(0, .int .i64 h.code), (1, .int .i64 h.a), (2, .int .i64 h.b), (3, .int .i64 h.c), (4, .int .i64 h.number), (5, .int .i64 h.for_), (6, .int .i64 h.mine), (7, .int .i64 h.reply), (8, .int .i64 h.out), (9, .int .i64 h.mark), (10, .int .i64 h.begin_)] = some h.cp.toArray := by kernel_rfl
theorem bSwap (h : Hd) : Try.prog.built 87 [(0, .int .i64 h.addr), (1, .int .u64 h.seen), (2, .int .u64 h.put), (3, .int .i64 h.good), (4, .int .i64 h.bad), (5, .int .i64 h.does), (6, .int .i64 h.block), (7, .int .i64 h.from_), (8, .int .i64 h.next), (9, .int .i64 h.value)] = some h.sp.toArray := by kernel_rfl
theorem bMend (h : Hd) : Try.prog.built 89 [(0, .bool h.sure), (1, .bool h.known), (2, .int .i64 h.index), (3, .int .i64 h.which), (4, .int .i64 h.wasCode), (5, .int .i64 h.wasItem), (6, .int .i64 h.wasNumber), (7, .int .i64 h.wasKind), (8, .int .i64 h.wasTag)] = some h.mp.toArray := by kernel_rfl
theorem bParts (h : Hd) : Try.prog.built 91 [(0, .bool h.up), (1, .bool h.inn), (2, .int .i64 h.life), (3, .int .i64 h.at_), (4, .int .i64 h.last), (5, .int .i64 h.kept), (6, .agg h.cp.toArray), (7, .agg h.sp.toArray), (8, .agg h.mp.toArray)] = some h.ps.toArray := by kernel_rfl
set_option maxHeartbeats 16000000 in
theorem iParts (h : Hd) (w : World) : Calls Try.prog 67 #[.agg h.ar] w fun e w' => e = .returned (.agg h.ps.toArray) ∧ Below w.heap.size w w' := by
  obtain ⟨A, Z, B⟩ := two_box w h.ar #[.bool false, .bool false, .int .i64 0, .int .i64 0, .int .i64 0, .int .i64 0, .int .i64 0, .int .i64 0, .int .i64 0, .int .i64 0, .int .i64 0, .int .i64 0, .int .i64 0, .int .i64 0, .int .i64 0, .int .i64 0, .int .i64 0, .int .i64 0, .int .u64 0, .int .u64 0, .int .i64 0, .int .i64 0, .int .i64 0, .int .i64 0, .int .i64 0, .int .i64 0, .int .i64 0, .bool false, .bool false, .int .i64 0, .int .i64 0, .int .i64 0, .int .i64 0, .int .i64 0, .int .i64 0, .int .i64 0] 39 91
  have a0 : h.ar[0]? = some (.bool h.up) := rfl
  have a1 : h.ar[1]? = some (.bool h.inn) := rfl
  have a2 : h.ar[2]? = some (.bool h.sure) := rfl
  have a3 : h.ar[3]? = some (.bool h.known) := rfl
  have a4 : h.ar[4]? = some (.int .i64 h.life) := rfl
  have a5 : h.ar[5]? = some (.int .i64 h.at_) := rfl
  have a6 : h.ar[6]? = some (.int .i64 h.code) := rfl
  have a7 : h.ar[7]? = some (.int .i64 h.a) := rfl
  have a8 : h.ar[8]? = some (.int .i64 h.b) := rfl
  have a9 : h.ar[9]? = some (.int .i64 h.c) := rfl
  have a10 : h.ar[10]? = some (.int .i64 h.number) := rfl
  have a11 : h.ar[11]? = some (.int .i64 h.for_) := rfl
  have a12 : h.ar[12]? = some (.int .i64 h.last) := rfl
  have a13 : h.ar[13]? = some (.int .i64 h.mine) := rfl
  have a14 : h.ar[14]? = some (.int .i64 h.addr) := rfl
  have a15 : h.ar[15]? = some (.int .u64 h.seen) := rfl
  have a16 : h.ar[16]? = some (.int .u64 h.put) := rfl
  have a17 : h.ar[17]? = some (.int .i64 h.good) := rfl
  have a18 : h.ar[18]? = some (.int .i64 h.bad) := rfl
  have a19 : h.ar[19]? = some (.int .i64 h.does) := rfl
  have a20 : h.ar[20]? = some (.int .i64 h.block) := rfl
  have a21 : h.ar[21]? = some (.int .i64 h.from_) := rfl
  have a22 : h.ar[22]? = some (.int .i64 h.next) := rfl
  have a23 : h.ar[23]? = some (.int .i64 h.value) := rfl
  have a24 : h.ar[24]? = some (.int .i64 h.index) := rfl
  have a25 : h.ar[25]? = some (.int .i64 h.which) := rfl
  have a26 : h.ar[26]? = some (.int .i64 h.kept) := rfl
  have a27 : h.ar[27]? = some (.int .i64 h.wasCode) := rfl
  have a28 : h.ar[28]? = some (.int .i64 h.wasItem) := rfl
  have a29 : h.ar[29]? = some (.int .i64 h.wasNumber) := rfl
  have a30 : h.ar[30]? = some (.int .i64 h.wasKind) := rfl
  have a31 : h.ar[31]? = some (.int .i64 h.wasTag) := rfl
  have a32 : h.ar[32]? = some (.int .i64 h.reply) := rfl
  have a33 : h.ar[33]? = some (.int .i64 h.out) := rfl
  have a34 : h.ar[34]? = some (.int .i64 h.mark) := rfl
  have a35 : h.ar[35]? = some (.int .i64 h.begin_) := rfl
  go_enter Try.func67, Try.ntmps67
  go_wp2_with (first
    | (refine wpList_built rfl 85 #[(0, .tmp 16), (1, .tmp 18), (2, .tmp 20), (3, .tmp 22), (4, .tmp 24), (5, .tmp 26), (6, .tmp 28), (7, .tmp 30), (8, .tmp 32), (9, .tmp 34), (10, .tmp 36)] rfl [(0, .int .i64 h.code), (1, .int .i64 h.a), (2, .int .i64 h.b), (3, .int .i64 h.c), (4, .int .i64 h.number), (5, .int .i64 h.for_), (6, .int .i64 h.mine), (7, .int .i64 h.reply), (8, .int .i64 h.out), (9, .int .i64 h.mark), (10, .int .i64 h.begin_)] rfl _ (bCall h) ?_)
    | (refine wpList_built rfl 87 #[(0, .tmp 39), (1, .tmp 41), (2, .tmp 43), (3, .tmp 45), (4, .tmp 47), (5, .tmp 49), (6, .tmp 51), (7, .tmp 53), (8, .tmp 55), (9, .tmp 57)] rfl [(0, .int .i64 h.addr), (1, .int .u64 h.seen), (2, .int .u64 h.put), (3, .int .i64 h.good), (4, .int .i64 h.bad), (5, .int .i64 h.does), (6, .int .i64 h.block), (7, .int .i64 h.from_), (8, .int .i64 h.next), (9, .int .i64 h.value)] rfl _ (bSwap h) ?_)
    | (refine wpList_built rfl 89 #[(0, .tmp 60), (1, .tmp 62), (2, .tmp 64), (3, .tmp 66), (4, .tmp 68), (5, .tmp 70), (6, .tmp 72), (7, .tmp 74), (8, .tmp 76)] rfl [(0, .bool h.sure), (1, .bool h.known), (2, .int .i64 h.index), (3, .int .i64 h.which), (4, .int .i64 h.wasCode), (5, .int .i64 h.wasItem), (6, .int .i64 h.wasNumber), (7, .int .i64 h.wasKind), (8, .int .i64 h.wasTag)] rfl _ (bMend h) ?_)
    | (refine wpList_built rfl 91 #[(0, .tmp 4), (1, .tmp 6), (2, .tmp 8), (3, .tmp 10), (4, .tmp 12), (5, .tmp 14), (6, .tmp 37), (7, .tmp 58), (8, .tmp 77)] rfl [(0, .bool h.up), (1, .bool h.inn), (2, .int .i64 h.life), (3, .int .i64 h.at_), (4, .int .i64 h.last), (5, .int .i64 h.kept), (6, .agg h.cp.toArray), (7, .agg h.sp.toArray), (8, .agg h.mp.toArray)] rfl _ (bParts h) ?_)
    | (refine storeR (vs := h.ps) (by kernel_rfl) h.ps_one rfl (.tmp 2) (.tmp 78) rfl (w.heap.size + 1) rfl rfl Z rfl ?_; intro W2 Z2 kk; replace B := B.trans (kk.below (Nat.le_succ _) B.size)))
  have e2 : (loadVar 91 ⟨w.heap.size + 1, 0, none⟩).run Try.prog W2 = .ok (.agg h.ps.toArray) W2 := run_loadVar_mid W2 _ 0 91 h.ps _ Z2.range Try.underlying91 rfl (by kernel_rfl)
  refine bodyPost_ret (v := .agg h.ps.toArray) ?_ rfl ⟨rfl, B⟩
  simp only [results, Try.results67, List.mapM_toArray, List.mapM_cons, List.mapM_nil, Sem.run_bind, Sem.run_map, Sem.run_pure]
  rw [show (asAddr _).run Try.prog W2 = .ok ⟨w.heap.size + 1, 0, none⟩ W2 from rfl]
  simp only [Result.andThen_ok, e2]
  rfl
end Go.Proofs.Ytljpkgloegafnaa
