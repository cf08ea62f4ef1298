/-
  A hand handed in by value.
-/
import Derived.Test.YtooljeddnfkphaaDoorHan
import Derived.Test.YtooljeddnfkphaaDoorOpens
namespace Go.Proofs.YtooljeddnfkphaaDoor
open Go.ChangeShapes Go.WideShapes Go.ChangeAt Go.RowKit Go.Joins Go.Deep
set_option linter.unusedVariables false
/-- The kind of the i-th field of a hand: none a flag. -/
def hk (i : Nat) : Option IntKind := if i < 4 then none else if i = 15 ∨ i = 16 then some .u64 else some .i64
def fieldsAre (P : Program) (fs : Array Field) : Bool := (List.range fs.size).all fun i => match fs[i]? with
  | some f => (match hk i, P.underlying f.type with | none, some .bool => true | some .u64, some (.int .u64) => true | some .i64, some (.int .i64) => true | _, _ => false)
  | none => false
theorem fieldsAre_bool {P : Program} {fs : Array Field} (h : fieldsAre P fs = true) (i : Nat) (f : Field) (hi : fs[i]? = some f) (hk0 : hk i = none) : P.underlying f.type = some .bool := by
  have hlt : i < fs.size := (Array.getElem?_eq_some_iff.1 hi).1
  have := List.all_eq_true.1 h i (List.mem_range.2 hlt)
  simp only [hi, hk0] at this
  split at this
  · assumption
  · rename_i h1 h2; cases h1
  · rename_i h1 h2; cases h1
  · cases this
theorem fieldsAre_u {P : Program} {fs : Array Field} (h : fieldsAre P fs = true) (i : Nat) (f : Field) (hi : fs[i]? = some f) (hk0 : hk i = some .u64) : P.underlying f.type = some (.int .u64) := by
  have hlt : i < fs.size := (Array.getElem?_eq_some_iff.1 hi).1
  have := List.all_eq_true.1 h i (List.mem_range.2 hlt)
  simp only [hi, hk0] at this
  split at this
  · rename_i h1 h2; cases h1
  · assumption
  · rename_i h1 h2; cases h1
  · cases this
theorem fieldsAre_i {P : Program} {fs : Array Field} (h : fieldsAre P fs = true) (i : Nat) (f : Field) (hi : fs[i]? = some f) (hk0 : hk i = some .i64) : P.underlying f.type = some (.int .i64) := by
  have hlt : i < fs.size := (Array.getElem?_eq_some_iff.1 hi).1
  have := List.all_eq_true.1 h i (List.mem_range.2 hlt)
  simp only [hi, hk0] at this
  split at this
  · rename_i h1 h2; cases h1
  · rename_i h1 h2; cases h1
  · assumption
  · cases this
theorem one_at {cs : Array Value} {i : Nat} {v : Value} (e : ((Value.cells (.agg cs)).toList.drop i).take 1 = [v]) : cs[i]? = some v := by
  have : (Value.cells (.agg cs)).toList[i]? = some v := by
    have := congrArg (·[0]?) e
    simpa [List.getElem?_take, List.getElem?_drop] using this
  simpa [Value.cells] using this
theorem open_mixed {H : Type} {enc : TypeId × Value → H} {P : Program} {w : World} {base : Nat} {spare : Nat → Bool} {held : Bool} {r : Reach} {b0 : Nat} {t : TypeId} {fs : Array Field} {v : Value} {d : DataW H} {p : List MemPlace}
    (hs : P.underlying t = some (.struct fs)) (hone : oneCellFields P fs = true) (hC : P.cellsOf t = fs.size) (hall : fieldsAre P fs = true)
    (hv : Value.okWide P w r b0 t v) (h : DataW.Trod enc P w base spare held t v d p) :
    ∃ cs : Array Value, cs.size = fs.size ∧ v = .agg cs ∧ (∀ i, i < cs.size → hk i = none → ∃ b, cs[i]? = some (.bool b)) ∧ (∀ i, i < cs.size → hk i = some .u64 → ∃ z : Int, cs[i]? = some (.int .u64 z)) ∧ (∀ i, i < cs.size → hk i = some .i64 → ∃ z : Int, cs[i]? = some (.int .i64 z)) := by
  obtain ⟨cs, rfl, hsz⟩ := okWide_struct hs hv
  obtain ⟨fuel, hf⟩ := h
  obtain ⟨xs, n, -, -, hl, hlen, hf⟩ := DataW.trod_struct hs hf
  have key : ∀ i, (hi : i < cs.size) → ∃ hi' : i < fs.size, ∃ y, DataW.trod enc P w base spare held n fs[i].type (((Value.cells (.agg cs)).toList.drop i).take 1) = some y := by
    intro i hi
    have hi' : i < fs.size := by omega
    obtain ⟨o, k⟩ := hone_of hone i fs[i] (by simp [hi'])
    have := hf i fs[i] (by simp [hi'])
    rw [o, k, List.getElem?_eq_getElem (by omega)] at this
    exact ⟨hi', _, this⟩
  refine ⟨cs, by omega, rfl, ?_, ?_, ?_⟩
  · intro i hi hk0
    obtain ⟨hi', y, hy⟩ := key i hi
    obtain ⟨b, hb, -⟩ := DataW.trod_bool (fieldsAre_bool hall i fs[i] (by simp [hi']) hk0) hy
    exact ⟨b, one_at hb⟩
  · intro i hi hk0
    obtain ⟨hi', y, hy⟩ := key i hi
    obtain ⟨z, hz, -, -⟩ := DataW.trod_int (fieldsAre_u hall i fs[i] (by simp [hi']) hk0) hy
    exact ⟨z, one_at hz⟩
  · intro i hi hk0
    obtain ⟨hi', y, hy⟩ := key i hi
    obtain ⟨z, hz, -, -⟩ := DataW.trod_int (fieldsAre_i hall i fs[i] (by simp [hi']) hk0) hy
    exact ⟨z, one_at hz⟩
theorem hand_of {v : Value} {cs : Array Value} (hz : cs.size = 36) (hv : v = .agg cs) (hb : ∀ i, i < cs.size → hk i = none → ∃ b, cs[i]? = some (.bool b)) (hu : ∀ i, i < cs.size → hk i = some .u64 → ∃ z : Int, cs[i]? = some (.int .u64 z)) (hi : ∀ i, i < cs.size → hk i = some .i64 → ∃ z : Int, cs[i]? = some (.int .i64 z)) : ∃ h : Hd, v = .agg h.ar := by
  subst hv
  obtain ⟨x0, e0⟩ := hb 0 (by omega) rfl
  obtain ⟨x1, e1⟩ := hb 1 (by omega) rfl
  obtain ⟨x2, e2⟩ := hb 2 (by omega) rfl
  obtain ⟨x3, e3⟩ := hb 3 (by omega) rfl
  obtain ⟨x4, e4⟩ := hi 4 (by omega) rfl
  obtain ⟨x5, e5⟩ := hi 5 (by omega) rfl
  obtain ⟨x6, e6⟩ := hi 6 (by omega) rfl
  obtain ⟨x7, e7⟩ := hi 7 (by omega) rfl
  obtain ⟨x8, e8⟩ := hi 8 (by omega) rfl
  obtain ⟨x9, e9⟩ := hi 9 (by omega) rfl
  obtain ⟨x10, e10⟩ := hi 10 (by omega) rfl
  obtain ⟨x11, e11⟩ := hi 11 (by omega) rfl
  obtain ⟨x12, e12⟩ := hi 12 (by omega) rfl
  obtain ⟨x13, e13⟩ := hi 13 (by omega) rfl
  obtain ⟨x14, e14⟩ := hi 14 (by omega) rfl
  obtain ⟨x15, e15⟩ := hu 15 (by omega) rfl
  obtain ⟨x16, e16⟩ := hu 16 (by omega) rfl
  obtain ⟨x17, e17⟩ := hi 17 (by omega) rfl
  obtain ⟨x18, e18⟩ := hi 18 (by omega) rfl
  obtain ⟨x19, e19⟩ := hi 19 (by omega) rfl
  obtain ⟨x20, e20⟩ := hi 20 (by omega) rfl
  obtain ⟨x21, e21⟩ := hi 21 (by omega) rfl
  obtain ⟨x22, e22⟩ := hi 22 (by omega) rfl
  obtain ⟨x23, e23⟩ := hi 23 (by omega) rfl
  obtain ⟨x24, e24⟩ := hi 24 (by omega) rfl
  obtain ⟨x25, e25⟩ := hi 25 (by omega) rfl
  obtain ⟨x26, e26⟩ := hi 26 (by omega) rfl
  obtain ⟨x27, e27⟩ := hi 27 (by omega) rfl
  obtain ⟨x28, e28⟩ := hi 28 (by omega) rfl
  obtain ⟨x29, e29⟩ := hi 29 (by omega) rfl
  obtain ⟨x30, e30⟩ := hi 30 (by omega) rfl
  obtain ⟨x31, e31⟩ := hi 31 (by omega) rfl
  obtain ⟨x32, e32⟩ := hi 32 (by omega) rfl
  obtain ⟨x33, e33⟩ := hi 33 (by omega) rfl
  obtain ⟨x34, e34⟩ := hi 34 (by omega) rfl
  obtain ⟨x35, e35⟩ := hi 35 (by omega) rfl
  refine ⟨⟨x0, x1, x2, x3, x4, x5, x6, x7, x8, x9, x10, x11, x12, x13, x14, x15, x16, x17, x18, x19, x20, x21, x22, x23, x24, x25, x26, x27, x28, x29, x30, x31, x32, x33, x34, x35⟩, ?_⟩
  congr 1
  apply Array.ext_getElem?
  intro i
  by_cases hlt : i < 36
  · match i, hlt with
    | 0, _ => exact e0
    | 1, _ => exact e1
    | 2, _ => exact e2
    | 3, _ => exact e3
    | 4, _ => exact e4
    | 5, _ => exact e5
    | 6, _ => exact e6
    | 7, _ => exact e7
    | 8, _ => exact e8
    | 9, _ => exact e9
    | 10, _ => exact e10
    | 11, _ => exact e11
    | 12, _ => exact e12
    | 13, _ => exact e13
    | 14, _ => exact e14
    | 15, _ => exact e15
    | 16, _ => exact e16
    | 17, _ => exact e17
    | 18, _ => exact e18
    | 19, _ => exact e19
    | 20, _ => exact e20
    | 21, _ => exact e21
    | 22, _ => exact e22
    | 23, _ => exact e23
    | 24, _ => exact e24
    | 25, _ => exact e25
    | 26, _ => exact e26
    | 27, _ => exact e27
    | 28, _ => exact e28
    | 29, _ => exact e29
    | 30, _ => exact e30
    | 31, _ => exact e31
    | 32, _ => exact e32
    | 33, _ => exact e33
    | 34, _ => exact e34
    | 35, _ => exact e35
    | n + 36, h => omega
  · rw [Array.getElem?_eq_none (by omega), Array.getElem?_eq_none (by rw [Hd.sz]; omega)]
end Go.Proofs.YtooljeddnfkphaaDoor
