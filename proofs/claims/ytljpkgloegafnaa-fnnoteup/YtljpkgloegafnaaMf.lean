/-
  A hand handed in by value.
  Hands: copied field by field, compared field by field.
  A region that draws its order, reads and calls: one walk in the order of the text serves every order, in the class of the worlds that are as they were below.
  A region that draws its order and makes memory: what may be taken first, and what must be gone through in every order.
  Hands: what the laws read; ranges from 0 on; birth; layers.
  Layers: the chapter of a step.
-/
import Derived.Test.YtljpkgloegafnaaMe
import Derived.Deep.MidRow
import Derived.BigQuiet
import Derived.WalkKit
import Derived.Deep.RegionHeld3
import Derived.Deep.LoopGhost
import Derived.Deep.Cut
namespace Go.Proofs.Ytljpkgloegafnaa
open Go.ChangeShapes Go.WideShapes Go.ChangeAt Go.RowKit Go.Joins Go.Deep
set_option linter.unusedVariables false
/-- The kind of the i-th field of a hand: none a flag. -/
def hk (i : Nat) : Option IntKind := if i < 4 then none else if i = 15 ∨ i = 16 then some .u64 else some .i64
def fieldsAre (P : Program) (fs : Array Field) : Bool := (List.range fs.size).all fun i => match fs[i]? with
  | some f => (match hk i, P.underlying f.type with | none, some .bool => true | some .u64, some (.int .u64) => true | some .i64, some (.int .i64) => true | _, _ => false)
  | none => false
theorem fieldsAre_bool {P : Program} {fs : Array Field} (h : fieldsAre P fs = true) (i : Nat) (f : Field) (hi : fs[i]? = some f) (hk0 : hk i = none) : P.underlying f.type = some .bool := by
  have hlt : i < fs.size := (Array.getElem?_eq_some_iff.1 hi).1
  have := List.all_eq_true.1 h i (List.mem_range.2 hlt)
  simp only [hi, hk0] at this
  split at this
  · assumption
  · rename_i h1 h2; cases h1
  · rename_i h1 h2; cases h1
  · cases this
theorem fieldsAre_u {P : Program} {fs : Array Field} (h : fieldsAre P fs = true) (i : Nat) (f : Field) (hi : fs[i]? = some f) (hk0 : hk i = some .u64) : P.underlying f.type = some (.int .u64) := by
  have hlt : i < fs.size := (Array.getElem?_eq_some_iff.1 hi).1
  have := List.all_eq_true.1 h i (List.mem_range.2 hlt)
  simp only [hi, hk0] at this
  split at this
  · rename_i h1 h2; cases h1
  · assumption
  · rename_i h1 h2; cases h1
  · cases this
theorem fieldsAre_i {P : Program} {fs : Array Field} (h : fieldsAre P fs = true) (i : Nat) (f : Field) (hi : fs[i]? = some f) (hk0 : hk i = some .i64) : P.underlying f.type = some (.int .i64) := by
  have hlt : i < fs.size := (Array.getElem?_eq_some_iff.1 hi).1
  have := List.all_eq_true.1 h i (List.mem_range.2 hlt)
  simp only [hi, hk0] at this
  split at this
  · rename_i h1 h2; cases h1
  · rename_i h1 h2; cases h1
  · assumption
  · cases this
theorem one_at {cs : Array Value} {i : Nat} {v : Value} (e : ((Value.cells (.agg cs)).toList.drop i).take 1 = [v]) : cs[i]? = some v := by
  have : (Value.cells (.agg cs)).toList[i]? = some v := by
    have := congrArg (·[0]?) e
    simpa [List.getElem?_take, List.getElem?_drop] using this
  simpa [Value.cells] using this
theorem open_mixed {H : Type} {enc : TypeId × Value → H} {P : Program} {w : World} {base : Nat} {spare : Nat → Bool} {held : Bool} {r : Reach} {b0 : Nat} {t : TypeId} {fs : Array Field} {v : Value} {d : DataW H} {p : List MemPlace}
    (hs : P.underlying t = some (.struct fs)) (hone : oneCellFields P fs = true) (hC : P.cellsOf t = fs.size) (hall : fieldsAre P fs = true)
    (hv : Value.okWide P w r b0 t v) (h : DataW.Trod enc P w base spare held t v d p) :
    ∃ cs : Array Value, cs.size = fs.size ∧ v = .agg cs ∧ (∀ i, i < cs.size → hk i = none → ∃ b, cs[i]? = some (.bool b)) ∧ (∀ i, i < cs.size → hk i = some .u64 → ∃ z : Int, cs[i]? = some (.int .u64 z)) ∧ (∀ i, i < cs.size → hk i = some .i64 → ∃ z : Int, cs[i]? = some (.int .i64 z)) := by
  obtain ⟨cs, rfl, hsz⟩ := okWide_struct hs hv
  obtain ⟨fuel, hf⟩ := h
  obtain ⟨xs, n, -, -, hl, hlen, hf⟩ := DataW.trod_struct hs hf
  have key : ∀ i, (hi : i < cs.size) → ∃ hi' : i < fs.size, ∃ y, DataW.trod enc P w base spare held n fs[i].type (((Value.cells (.agg cs)).toList.drop i).take 1) = some y := by
    intro i hi
    have hi' : i < fs.size := by omega
    obtain ⟨o, k⟩ := hone_of hone i fs[i] (by simp [hi'])
    have := hf i fs[i] (by simp [hi'])
    rw [o, k, List.getElem?_eq_getElem (by omega)] at this
    exact ⟨hi', _, this⟩
  refine ⟨cs, by omega, rfl, ?_, ?_, ?_⟩
  · intro i hi hk0
    obtain ⟨hi', y, hy⟩ := key i hi
    obtain ⟨b, hb, -⟩ := DataW.trod_bool (fieldsAre_bool hall i fs[i] (by simp [hi']) hk0) hy
    exact ⟨b, one_at hb⟩
  · intro i hi hk0
    obtain ⟨hi', y, hy⟩ := key i hi
    obtain ⟨z, hz, -, -⟩ := DataW.trod_int (fieldsAre_u hall i fs[i] (by simp [hi']) hk0) hy
    exact ⟨z, one_at hz⟩
  · intro i hi hk0
    obtain ⟨hi', y, hy⟩ := key i hi
    obtain ⟨z, hz, -, -⟩ := DataW.trod_int (fieldsAre_i hall i fs[i] (by simp [hi']) hk0) hy
    exact ⟨z, one_at hz⟩
theorem hand_of {v : Value} {cs : Array Value} (hz : cs.size = 36) (hv : v = .agg cs) (hb : ∀ i, i < cs.size → hk i = none → ∃ b, cs[i]? = some (.bool b)) (hu : ∀ i, i < cs.size → hk i = some .u64 → ∃ z : Int, cs[i]? = some (.int .u64 z)) (hi : ∀ i, i < cs.size → hk i = some .i64 → ∃ z : Int, cs[i]? = some (.int .i64 z)) : ∃ h : Hd, v = .agg h.ar := by
  subst hv
  obtain ⟨x0, e0⟩ := hb 0 (by omega) rfl
  obtain ⟨x1, e1⟩ := hb 1 (by omega) rfl
  obtain ⟨x2, e2⟩ := hb 2 (by omega) rfl
  obtain ⟨x3, e3⟩ := hb 3 (by omega) rfl
  obtain ⟨x4, e4⟩ := hi 4 (by omega) rfl
  obtain ⟨x5, e5⟩ := hi 5 (by omega) rfl
  obtain ⟨x6, e6⟩ := hi 6 (by omega) rfl
  obtain ⟨x7, e7⟩ := hi 7 (by omega) rfl
  obtain ⟨x8, e8⟩ := hi 8 (by omega) rfl
  obtain ⟨x9, e9⟩ := hi 9 (by omega) rfl
  obtain ⟨x10, e10⟩ := hi 10 (by omega) rfl
  obtain ⟨x11, e11⟩ := hi 11 (by omega) rfl
  obtain ⟨x12, e12⟩ := hi 12 (by omega) rfl
  obtain ⟨x13, e13⟩ := hi 13 (by omega) rfl
  obtain ⟨x14, e14⟩ := hi 14 (by omega) rfl
  obtain ⟨x15, e15⟩ := hu 15 (by omega) rfl
  obtain ⟨x16, e16⟩ := hu 16 (by omega) rfl
  obtain ⟨x17, e17⟩ := hi 17 (by omega) rfl
  obtain ⟨x18, e18⟩ := hi 18 (by omega) rfl
  obtain ⟨x19, e19⟩ := hi 19 (by omega) rfl
  obtain ⟨x20, e20⟩ := hi 20 (by omega) rfl
  obtain ⟨x21, e21⟩ := hi 21 (by omega) rfl
  obtain ⟨x22, e22⟩ := hi 22 (by omega) rfl
  obtain ⟨x23, e23⟩ := hi 23 (by omega) rfl
  obtain ⟨x24, e24⟩ := hi 24 (by omega) rfl
  obtain ⟨x25, e25⟩ := hi 25 (by omega) rfl
  obtain ⟨x26, e26⟩ := hi 26 (by omega) rfl
  obtain ⟨x27, e27⟩ := hi 27 (by omega) rfl
  obtain ⟨x28, e28⟩ := hi 28 (by omega) rfl
  obtain ⟨x29, e29⟩ := hi 29 (by omega) rfl
  obtain ⟨x30, e30⟩ := hi 30 (by omega) rfl
  obtain ⟨x31, e31⟩ := hi 31 (by omega) rfl
  obtain ⟨x32, e32⟩ := hi 32 (by omega) rfl
  obtain ⟨x33, e33⟩ := hi 33 (by omega) rfl
  obtain ⟨x34, e34⟩ := hi 34 (by omega) rfl
  obtain ⟨x35, e35⟩ := hi 35 (by omega) rfl
  refine ⟨⟨x0, x1, x2, x3, x4, x5, x6, x7, x8, x9, x10, x11, x12, x13, x14, x15, x16, x17, x18, x19, x20, x21, x22, x23, x24, x25, x26, x27, x28, x29, x30, x31, x32, x33, x34, x35⟩, ?_⟩
  congr 1
  apply Array.ext_getElem?
  intro i
  by_cases hlt : i < 36
  · match i, hlt with
    | 0, _ => exact e0
    | 1, _ => exact e1
    | 2, _ => exact e2
    | 3, _ => exact e3
    | 4, _ => exact e4
    | 5, _ => exact e5
    | 6, _ => exact e6
    | 7, _ => exact e7
    | 8, _ => exact e8
    | 9, _ => exact e9
    | 10, _ => exact e10
    | 11, _ => exact e11
    | 12, _ => exact e12
    | 13, _ => exact e13
    | 14, _ => exact e14
    | 15, _ => exact e15
    | 16, _ => exact e16
    | 17, _ => exact e17
    | 18, _ => exact e18
    | 19, _ => exact e19
    | 20, _ => exact e20
    | 21, _ => exact e21
    | 22, _ => exact e22
    | 23, _ => exact e23
    | 24, _ => exact e24
    | 25, _ => exact e25
    | 26, _ => exact e26
    | 27, _ => exact e27
    | 28, _ => exact e28
    | 29, _ => exact e29
    | 30, _ => exact e30
    | 31, _ => exact e31
    | 32, _ => exact e32
    | 33, _ => exact e33
    | 34, _ => exact e34
    | 35, _ => exact e35
    | n + 36, h => omega
  · rw [Array.getElem?_eq_none (by omega), Array.getElem?_eq_none (by rw [Hd.sz]; omega)]
end Go.Proofs.Ytljpkgloegafnaa
namespace Go.Proofs.Ytljpkgloegafnaa
open Go.RowKit
set_option linter.unusedVariables false
def Hd.mix (h : Hd) (i : Nat) : Array Value := (h.vs.take i ++ Hd.zero.vs.drop i).toArray
theorem Hd.mix_size {h : Hd} {i : Nat} (hi : i ≤ 36) : (h.mix i).size = 36 := by
  have := h.len
  have := Hd.zero.len
  simp [Hd.mix]; omega
theorem Hd.mix_set {h : Hd} {i : Nat} {v : Value} (hv : h.vs[i]? = some v) : (h.mix i).setIfInBounds i v = h.mix (i + 1) := by
  have hl := h.len
  have zl := Hd.zero.len
  have hi : i < 36 := by
    have := (List.getElem?_eq_some_iff.1 hv).1
    omega
  apply Array.ext_getElem?
  intro j
  rw [Array.getElem?_setIfInBounds]
  unfold Hd.mix
  by_cases e : i = j
  · subst e
    rw [if_pos rfl, if_pos (by simp; omega)]
    simp only [List.getElem?_toArray]
    rw [List.getElem?_append_left (by simp; omega), List.getElem?_take, if_pos (by omega), hv]
  · rw [if_neg e]
    simp only [List.getElem?_toArray]
    by_cases hj : j < i
    · rw [List.getElem?_append_left (by simp; omega), List.getElem?_append_left (by simp; omega), List.getElem?_take, List.getElem?_take, if_pos hj, if_pos (by omega)]
    · rw [List.getElem?_append_right (by simp; omega), List.getElem?_append_right (by simp; omega), List.getElem?_drop, List.getElem?_drop]
      congr 1
      simp [hl]
      omega
theorem At.put {w : World} {b : Nat} {h : Hd} {i : Nat} {t : TypeId} (Z : At w b (h.mix i) t) {v : Value} (hv : h.vs[i]? = some v) : At (w.setCell ⟨b, i, none⟩ v) b (h.mix (i + 1)) t := by
  rw [← Hd.mix_set hv]; exact Z.set i v
theorem three_new (w : World) (h : Hd) (t t' : TypeId) : At (((w.alloc (.cells h.ar t)).alloc (.cells Hd.zero.ar t')).alloc (.cells Hd.zero.ar t')) w.heap.size h.ar t ∧ At (((w.alloc (.cells h.ar t)).alloc (.cells Hd.zero.ar t')).alloc (.cells Hd.zero.ar t')) (w.heap.size + 1) Hd.zero.ar t' ∧ At (((w.alloc (.cells h.ar t)).alloc (.cells Hd.zero.ar t')).alloc (.cells Hd.zero.ar t')) (w.heap.size + 2) (h.mix 0) t' ∧ Below w.heap.size w (((w.alloc (.cells h.ar t)).alloc (.cells Hd.zero.ar t')).alloc (.cells Hd.zero.ar t')) := by
  obtain ⟨x, y, z⟩ := two_new w h.ar t t'
  have e : ((w.alloc (.cells h.ar t)).alloc (.cells Hd.zero.ar t')).heap.size = w.heap.size + 2 := by simp
  refine ⟨x.keep ((Below.refl _ _).alloc (Nat.le_refl _) _), y.keep ((Below.refl _ _).alloc (Nat.le_refl _) _), ?_, z.alloc (by omega) _⟩
  have := At.new ((w.alloc (.cells h.ar t)).alloc (.cells Hd.zero.ar t')) Hd.zero.ar t'
  rw [e] at this
  exact this
theorem loadHl {ops : Array Oper} {rest : List Oper} {op : Oper} {a : Act} {w : World} {Q : Exit → Act → World → Prop} (hgd : op.guard = none) (x : Operand) (ho : op.op = .load 39 x)
    (b : Nat) (k : Hd) (hx : a.eval x = .pointer (some ⟨b, 0, none⟩)) {t : TypeId} (Z : At w b k.ar t)
    (h : wpList Try.prog ops Q rest (a.put op.dst (.agg k.ar)) w) : wpList Try.prog ops Q (op :: rest) a w :=
  wpList_load_mid hgd 39 x ho b 0 hx k.vs _ Z.range Try.underlying39 rfl infoH h
theorem two_same (w : World) (h : Hd) (t : TypeId) : At ((w.alloc (.cells h.ar t)).alloc (.cells h.ar t)) w.heap.size h.ar t ∧ At ((w.alloc (.cells h.ar t)).alloc (.cells h.ar t)) (w.heap.size + 1) h.ar t ∧ Below w.heap.size w ((w.alloc (.cells h.ar t)).alloc (.cells h.ar t)) := by
  have e : (w.alloc (.cells h.ar t)).heap.size = w.heap.size + 1 := by simp
  refine ⟨(At.new w h.ar t).keep ((Below.refl _ _).alloc (Nat.le_refl _) _), ?_, ((Below.refl _ _).alloc (Nat.le_refl _) _).alloc (by omega) _⟩
  have := At.new (w.alloc (.cells h.ar t)) h.ar t
  rwa [e] at this
end Go.Proofs.Ytljpkgloegafnaa
namespace Go.Proofs.Ytljpkgloegafnaa
open Go.RowKit
set_option linter.unusedVariables false
/-- The worlds that are as W below W's end. -/
structure Cls (W w : World) : Prop where
  below : Below W.heap.size W w
theorem wp_region_cls {id : Nat} {Q : Exit → Act → World → Prop} {a : Act} {w : World} {l : List Oper} (hm : Try.prog.follows .mixedOrders = true) (hB : Region.lexB .any l.toArray = true)
    (h : wpQuiet Try.prog l.toArray (Cls w) (fun a' => ∀ w', Cls w w' → Q .normal a' w') l a) : (Code.region id l.toArray true).wp Try.prog Q a w :=
  wp_region_quiet (C := Cls w) hm hB ⟨⟨rfl, rfl, rfl, Nat.le_refl _, fun _ _ => rfl⟩⟩ (by simpa using h)
theorem q_load {P : Program} {o : Oper} {a : Act} {C : World → Prop} {K : Act → Prop} (t : TypeId) (x : Operand) (p : Addr) (v : Value) (ho : o.op = .load t x) (hx : a.eval x = .pointer (some p))
    (h : ∀ w, C w → (loadVar t p).run P w = .ok v w) (hk : K (a.put o.dst v)) : o.quiet P a C K :=
  ⟨v, fun w hw => by
    unfold Oper.quietAt execOp
    simp only [ho, hx, Instr.loadAt, Instr.sureAddr, Sem.run_bind, Sem.run_pure, Result.andThen_ok, h w hw]
    exact ⟨rfl, rfl⟩, hk⟩
theorem exB {b : Bool} {T K' : Value → Prop} (hT : T (.bool b)) (ht : b = true → K' (.bool true)) (hf : b = false → K' (.bool false)) : ∃ v, T v ∧ K' v :=
  ⟨.bool b, hT, by cases b with | true => exact ht rfl | false => exact hf rfl⟩
theorem cls_same {P : Program} {f : FuncId} {args : Array Value} {W w : World} {v : Value} (hw : Cls W w) (h : Calls P f args w fun e w' => e = .returned v ∧ w' = w) : Calls P f args w fun e w' => e = .returned v ∧ Cls W w' :=
  h.mono fun _ _ ⟨he, hm⟩ => ⟨he, by rw [hm]; exact hw⟩
theorem cls_below {P : Program} {f : FuncId} {args : Array Value} {W w : World} {v : Value} (hw : Cls W w) (h : Calls P f args w fun e w' => e = .returned v ∧ Below w.heap.size w w') : Calls P f args w fun e w' => e = .returned v ∧ Cls W w' :=
  h.mono fun _ _ ⟨he, hm⟩ => ⟨he, ⟨hw.below.trans (hm.mono hw.below.size)⟩⟩
theorem ld_i {W : World} {b i : Nat} {cs : Array Value} {t ty : TypeId} {k : IntKind} {x : Int} (A : At W b cs t) (hu : Try.prog.underlying ty = some (.int k)) (hv : cs[i]? = some (.int k x)) (w : World) (hw : Cls W w) : (loadVar ty ⟨b, i, none⟩).run Try.prog w = .ok (.int k x) w := by
  have c : w.cell? ⟨b, i, none⟩ = some (.int k x) := ((A.keep hw.below).cell i).trans hv
  have ha : (isAgg ty).run Try.prog w = .ok false w := by
    unfold isAgg
    rw [Sem.run_bind, run_underlying hu w]
    simp
  simp [go_sem, c, ha]
theorem ld_agg {W : World} {b : Nat} {vs : List Value} {t ty : TypeId} {d : TypeDesc} (A : At W b vs.toArray t) (hu : Try.prog.underlying ty = some d) (hd : d.isRow = true) (hi : (Try.prog.info? ty).map (·.size) = some vs.length) (w : World) (hw : Cls W w) : (loadVar ty ⟨b, 0, none⟩).run Try.prog w = .ok (.agg vs.toArray) w :=
  run_loadVar_mid w b 0 ty vs d (fun j v hj => by have := (A.keep hw.below).cell j; simp at *; rw [this]; exact hj) hu hd hi
end Go.Proofs.Ytljpkgloegafnaa
namespace Go.Proofs.Ytljpkgloegafnaa
open Go.RowKit
set_option linter.unusedVariables false
section
variable {P : Program} {md : Region.Mode} {ops : Array Oper} {Q : Exit → Act → World → Prop} {S : World → Prop}
theorem tk_load {i : Nat} {oi : Oper} {v : Value} {fuel : Nat} {listed : Array Bool} {a : Act} {w : World} (hi : ops[i]? = some oi) (hs : Region.noSelect ops = true) (hf : Region.free md ops listed i = true) (hr : (Region.ready md ops listed).contains i = true)
    (hQ : ∀ c a w, Q (.panic c) (a.put oi.dst v) w → Q (.panic c) a w) (hw : Region.wanted oi (yielded ops a.tmps) = true) (t : TypeId) (x : Operand) (p : Addr) (ho : oi.op = .load t x) (hx : a.eval x = .pointer (some p))
    (hl : ∀ w, S w → (loadVar t p).run P w = .ok v w) (hS : S w) (h : wpAnyH P md ops Q S fuel (listed.setIfInBounds i true) (a.put oi.dst v) w) : wpAnyH P md ops Q S (fuel + 1) listed a w :=
  wpAnyH_take hi hs hf hr hQ (.inl ⟨hw, fun w hw' => by
    unfold execOp
    simp only [ho, hx, Instr.loadAt, Instr.sureAddr, Sem.run_bind, Sem.run_pure, Result.andThen_ok, hl w hw']⟩) hS h
theorem tk_skip {i : Nat} {oi : Oper} {fuel : Nat} {listed : Array Bool} {a : Act} {w : World} (hi : ops[i]? = some oi) (hs : Region.noSelect ops = true) (hf : Region.free md ops listed i = true) (hr : (Region.ready md ops listed).contains i = true)
    (hQ : ∀ c a w, Q (.panic c) (a.put oi.dst undef) w → Q (.panic c) a w) (hw : Region.wanted oi (yielded ops a.tmps) = false)
    (hS : S w) (h : wpAnyH P md ops Q S fuel (listed.setIfInBounds i true) (a.put oi.dst undef) w) : wpAnyH P md ops Q S (fuel + 1) listed a w :=
  wpAnyH_take hi hs hf hr hQ (.inr ⟨hw, rfl⟩) hS h
theorem tk_pure {i : Nat} {oi : Oper} {v : Value} {fuel : Nat} {listed : Array Bool} {a : Act} {w : World} (hi : ops[i]? = some oi) (hs : Region.noSelect ops = true) (hf : Region.free md ops listed i = true) (hr : (Region.ready md ops listed).contains i = true)
    (hQ : ∀ c a w, Q (.panic c) (a.put oi.dst v) w → Q (.panic c) a w) (hw : Region.wanted oi (yielded ops a.tmps) = true) (hS : S w)
    (hv : ∀ w, (execOp a.eval oi).run P w = .ok (.value v) w) (h : wpAnyH P md ops Q S fuel (listed.setIfInBounds i true) (a.put oi.dst v) w) : wpAnyH P md ops Q S (fuel + 1) listed a w :=
  wpAnyH_take hi hs hf hr hQ (.inl ⟨hw, fun w _ => hv w⟩) hS h
end
end Go.Proofs.Ytljpkgloegafnaa
namespace Go.Proofs.Ytljpkgloegafnaa
open Go.RowKit
set_option linter.unusedVariables false
/-- A value laid into a new block. -/
theorem newH {ops : Array Oper} {rest : List Oper} {op : Oper} {a : Act} {w : World} {cs : Array Value} {t : TypeId} {Q : Exit → Act → World → Prop} (hgd : op.guard = none) (x y : Operand) (ho : op.op = .store 39 x y)
    (k : Hd) (hx : a.eval x = .pointer (some ⟨w.heap.size, 0, none⟩)) (hy : a.eval y = .agg k.ar) (hs : cs.size = 36)
    (h : ∀ w', At w' w.heap.size k.ar t → Below w.heap.size w w' → w.heap.size < w'.heap.size → wpList Try.prog ops Q rest (a.put op.dst undef) w') : wpList Try.prog ops Q (op :: rest) a (w.alloc (.cells cs t)) :=
  storeH hgd x y ho w.heap.size k hx hy (At.new w cs t) hs fun w' Z kk => h w' Z (((Below.refl _ _).alloc (Nat.le_refl _) _).trans (kk.below (Nat.le_refl _) (by simp))) Z.lt
def allUp (m : Int) (xs : List Int) : Bool := xs.all fun x => decide (0 ≤ x ∧ x ≤ m)
theorem allUp_t {m : Int} {xs : List Int} (h : ∀ j, j < xs.length → 0 ≤ xs.getD j 0 ∧ xs.getD j 0 ≤ m) : allUp m xs = true := by
  unfold allUp
  rw [List.all_eq_true]
  intro x hx
  obtain ⟨j, hj, rfl⟩ := List.mem_iff_getElem.1 hx
  have := h j hj
  simp [hj] at this
  simp [this]
theorem allUp_f {m : Int} {xs : List Int} {j : Nat} (hj : j < xs.length) (h : ¬ (0 ≤ xs.getD j 0 ∧ xs.getD j 0 ≤ m)) : allUp m xs = false := by
  cases e : allUp m xs with
  | false => rfl
  | true =>
    unfold allUp at e
    rw [List.all_eq_true] at e
    have := e xs[j] (List.getElem_mem hj)
    simp [hj] at h
    simp at this
    omega
set_option maxHeartbeats 2000000 in
theorem iUpTo (m : Int) (b n : Nat) (xs : List Int) (hl : Hid (xs.length = n)) (hn : n ≤ 1000) (w : World) (hx : Hid (∀ i, i < n → w.cell? ⟨b, i, none⟩ = some (.int .i64 (xs.getD i 0)))) :
    Calls Try.prog 65 #[.int .i64 m, .slice (some ⟨b, 0, none⟩) n n] w fun e w' => e = .returned (.bool (allUp m xs)) ∧ w' = w := by
  go_enter Try.func65, Try.ntmps65
  go_wp2
  go_loopg [9] n (fun g y wr => ∃ i : Nat, i ≤ n ∧ g = n - i ∧ y = .int .i64 i ∧ Hid (∀ j, j < i → 0 ≤ xs.getD j 0 ∧ xs.getD j 0 ≤ m) ∧ wr = w)
  case atStart => exact ⟨0, Nat.zero_le _, rfl, rfl, fun j hj => by omega, rfl⟩
  case round =>
    obtain ⟨i, i0, hg, rfl, hj, rfl⟩ := hrel
    by_cases hi : i < n
    · have hi' : (i : Int) < n := by omega
      have c1 := hx.out i hi
      obtain ⟨x, hxx⟩ : ∃ x : Int, Hid (xs.getD i 0 = x) := ⟨_, rfl⟩
      rw [hxx.out] at c1
      by_cases hxy : 0 ≤ x ∧ x ≤ m
      · have e1 : inB x 0 m = true := decide_eq_true hxy
        go_wp2_with (go_at_call 63; refine (iWithin _ _ _ _).mono ?_; rintro e w1 ⟨rfl, rfl⟩; rw [e1])
        go_roundg (gk - 1)
        case measure => omega
        case rel =>
          refine ⟨i + 1, by omega, by omega, by go_num, fun j hj2 => ?_, rfl⟩
          by_cases hji : j = i
          · subst hji; rw [hxx.out]; exact hxy
          · exact hj.out j (by omega)
      · have e1 : inB x 0 m = false := decide_eq_false hxy
        go_wp2_with (go_at_call 63; refine (iWithin _ _ _ _).mono ?_; rintro e w1 ⟨rfl, rfl⟩; rw [e1])
        go_ret
        exact ⟨ret_f (allUp_f (j := i) (by rw [hl.out]; exact hi) (by rw [hxx.out]; exact hxy)), rfl⟩
    · obtain rfl : i = n := by omega
      go_wp2
      go_ret
      exact ⟨ret_t (allUp_t fun j hj2 => hj.out j (by rw [hl.out] at hj2; exact hj2)), rfl⟩
end Go.Proofs.Ytljpkgloegafnaa
namespace Go.Proofs.Ytljpkgloegafnaa
open Go.RowKit
set_option linter.unusedVariables false
def layer (a : Int) : Int := if a = 0 then 0 else if a < 0 then -1 else if a ≤ 8 then 8 else if a ≤ 20 then 9 else if a ≤ 32 then 10 else if a ≤ 48 then 11 else if a ≤ 51 then 12 else if a ≤ 54 then 13 else if a ≤ 68 then 14 else if a ≤ 70 then 15 else -1
def lastv (i : Nat) : Int := match i with | 0 => 8 | 1 => 20 | 2 => 32 | 3 => 48 | 4 => 51 | 5 => 54 | 6 => 68 | _ => 70
theorem ret_iL {a b : Int} (h : a = b) : Ending.returned (.int .i64 a) = .returned (.int .i64 b) := by rw [h]
set_option maxHeartbeats 2000000 in
theorem iLayer (a : Int) (w : World) : Calls Try.prog 47 #[.int .i64 a] w fun e w' => e = .returned (.int .i64 (layer a)) ∧ w' = w := by
  go_enter Try.func47, Try.ntmps47
  go_wp2_with (go_at_call 63; refine (iWithin _ _ _ _).mono ?_; rintro e w1 ⟨rfl, rfl⟩)
  all_goals go_returns
  all_goals refine ⟨ret_iL ?_, rfl⟩
  all_goals (try simp only [inB, decide_eq_true_eq, decide_eq_false_iff_not, beq_eq_false_iff_ne, ne_eq, beq_iff_eq] at *)
  all_goals (unfold layer; (repeat' split) <;> first | rfl | omega)
end Go.Proofs.Ytljpkgloegafnaa
