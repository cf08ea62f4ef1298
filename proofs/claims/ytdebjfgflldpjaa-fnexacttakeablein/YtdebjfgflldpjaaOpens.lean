/-
  A struct all of whose fields are int64, handed in by value, is a row of as many numbers of 64 bits.
-/
import Derived.Test.YtdebjfgflldpjaaChecked
import Derived.WalkKit
import Derived.ProofKit
import Derived.OpenShut
import Derived.ChangeOld
import Derived.Lib.SmallJoins
namespace Go.Proofs.Ytdebjfgflldpjaa
open Go.ChangeShapes Go.WideShapes Go.ChangeAt Go.RowKit Go.Joins Go.Deep
set_option linter.unusedVariables false
theorem open_i64s {H : Type} {enc : TypeId × Value → H} {P : Program} {w : World} {base : Nat} {spare : Nat → Bool} {held : Bool} {r : Reach} {b0 : Nat} {t : TypeId} {fs : Array Field} {v : Value} {d : DataW H} {p : List MemPlace}
    (hs : P.underlying t = some (.struct fs)) (hone : oneCellFields P fs = true) (hC : P.cellsOf t = fs.size) (hall : ∀ (i : Nat) (f : Field), fs[i]? = some f → P.underlying f.type = some (.int .i64))
    (hv : Value.okWide P w r b0 t v) (h : DataW.Trod enc P w base spare held t v d p) :
    ∃ zs : List Int, zs.length = fs.size ∧ v = .agg (zs.map (Value.int .i64)).toArray ∧ ∀ z ∈ zs, -9223372036854775808 ≤ z ∧ z ≤ 9223372036854775807 := by
  obtain ⟨cs, rfl, hsz⟩ := okWide_struct hs hv
  obtain ⟨fuel, hf⟩ := h
  obtain ⟨xs, n, -, -, hl, hlen, hf⟩ := DataW.trod_struct hs hf
  have key : ∀ i, i < cs.size → ∃ z : Int, cs[i]? = some (.int .i64 z) ∧ -9223372036854775808 ≤ z ∧ z ≤ 9223372036854775807 := by
    intro i hi
    have hi' : i < fs.size := by omega
    obtain ⟨o, k⟩ := hone_of hone i fs[i] (by simp [hi'])
    have := hf i fs[i] (by simp [hi'])
    rw [o, k, List.getElem?_eq_getElem (by omega)] at this
    obtain ⟨z, hz, -, hw⟩ := DataW.trod_int (hall i fs[i] (by simp [hi'])) this
    refine ⟨z, ?_, bounds_i64 hw⟩
    have e : ((Value.cells (.agg cs)).toList.drop i).take 1 = [.int .i64 z] := hz
    have : (Value.cells (.agg cs)).toList[i]? = some (.int .i64 z) := by
      have := congrArg (·[0]?) e
      simpa [List.getElem?_take, List.getElem?_drop] using this
    simpa [Value.cells] using this
  refine ⟨cs.toList.map intOf, by simp; omega, ?_, ?_⟩
  · congr 1
    apply Array.ext'
    simp only [List.map_map]
    refine (List.ext_getElem? fun i => ?_)
    by_cases hi : i < cs.size
    · obtain ⟨z, hz, -⟩ := key i hi
      simp [hz, intOf]
    · simp [Nat.not_lt.1 hi]
  · intro z hz
    obtain ⟨v, hv, rfl⟩ := List.mem_map.1 hz
    obtain ⟨i, hi, rfl⟩ := List.mem_iff_getElem.1 hv
    obtain ⟨z, hz, b⟩ := key i (by simpa using hi)
    have : cs.toList[i] = .int .i64 z := by
      have h2 : cs.toList[i]? = some (.int .i64 z) := by simpa using hz
      rw [List.getElem?_eq_getElem hi] at h2
      exact Option.some.inj h2
    rw [this]
    exact b
def i64Fields (P : Program) (fs : Array Field) : Bool := (List.range fs.size).all fun i => match fs[i]? with
  | some f => (match P.underlying f.type with | some (.int .i64) => true | _ => false)
  | none => false
theorem i64Fields_of {P : Program} {fs : Array Field} (h : i64Fields P fs = true) (i : Nat) (f : Field) (hi : fs[i]? = some f) : P.underlying f.type = some (.int .i64) := by
  have hlt : i < fs.size := (Array.getElem?_eq_some_iff.1 hi).1
  have := List.all_eq_true.1 h i (List.mem_range.2 hlt)
  simp only [hi] at this
  split at this
  · assumption
  · cases this
theorem agg3 {zs : List Int} {v : Value} (h : zs.length = 3) (hv : v = .agg (zs.map (Value.int .i64)).toArray) : ∃ a0 a1 a2, zs = [a0, a1, a2] ∧ v = .agg #[.int .i64 a0, .int .i64 a1, .int .i64 a2] := by
  match zs, h with
  | [a0, a1, a2], _ => exact ⟨a0, a1, a2, rfl, hv⟩
theorem agg4 {zs : List Int} {v : Value} (h : zs.length = 4) (hv : v = .agg (zs.map (Value.int .i64)).toArray) : ∃ a0 a1 a2 a3, zs = [a0, a1, a2, a3] ∧ v = .agg #[.int .i64 a0, .int .i64 a1, .int .i64 a2, .int .i64 a3] := by
  match zs, h with
  | [a0, a1, a2, a3], _ => exact ⟨a0, a1, a2, a3, rfl, hv⟩
theorem agg5 {zs : List Int} {v : Value} (h : zs.length = 5) (hv : v = .agg (zs.map (Value.int .i64)).toArray) : ∃ a0 a1 a2 a3 a4, zs = [a0, a1, a2, a3, a4] ∧ v = .agg #[.int .i64 a0, .int .i64 a1, .int .i64 a2, .int .i64 a3, .int .i64 a4] := by
  match zs, h with
  | [a0, a1, a2, a3, a4], _ => exact ⟨a0, a1, a2, a3, a4, rfl, hv⟩
theorem agg6 {zs : List Int} {v : Value} (h : zs.length = 6) (hv : v = .agg (zs.map (Value.int .i64)).toArray) : ∃ a0 a1 a2 a3 a4 a5, zs = [a0, a1, a2, a3, a4, a5] ∧ v = .agg #[.int .i64 a0, .int .i64 a1, .int .i64 a2, .int .i64 a3, .int .i64 a4, .int .i64 a5] := by
  match zs, h with
  | [a0, a1, a2, a3, a4, a5], _ => exact ⟨a0, a1, a2, a3, a4, a5, rfl, hv⟩
theorem agg7 {zs : List Int} {v : Value} (h : zs.length = 7) (hv : v = .agg (zs.map (Value.int .i64)).toArray) : ∃ a0 a1 a2 a3 a4 a5 a6, zs = [a0, a1, a2, a3, a4, a5, a6] ∧ v = .agg #[.int .i64 a0, .int .i64 a1, .int .i64 a2, .int .i64 a3, .int .i64 a4, .int .i64 a5, .int .i64 a6] := by
  match zs, h with
  | [a0, a1, a2, a3, a4, a5, a6], _ => exact ⟨a0, a1, a2, a3, a4, a5, a6, rfl, hv⟩
theorem agg8 {zs : List Int} {v : Value} (h : zs.length = 8) (hv : v = .agg (zs.map (Value.int .i64)).toArray) : ∃ a0 a1 a2 a3 a4 a5 a6 a7, zs = [a0, a1, a2, a3, a4, a5, a6, a7] ∧ v = .agg #[.int .i64 a0, .int .i64 a1, .int .i64 a2, .int .i64 a3, .int .i64 a4, .int .i64 a5, .int .i64 a6, .int .i64 a7] := by
  match zs, h with
  | [a0, a1, a2, a3, a4, a5, a6, a7], _ => exact ⟨a0, a1, a2, a3, a4, a5, a6, a7, rfl, hv⟩
end Go.Proofs.Ytdebjfgflldpjaa
