/-
  The table of the calls: what the listed variable holds.
-/
import Derived.Test.YtooljeddnfkphaaDoorHan12
import Derived.Test.YtooljeddnfkphaaDoorRows
import Derived.ProofKit
import Derived.LaidMore
import Derived.OpenShut
import Derived.Stop.Joined
namespace Go.Proofs.YtooljeddnfkphaaDoor
open Go.ChangeShapes Go.WideShapes Go.ChangeAt Go.RowKit
set_option linter.unusedVariables false
def tab : List (List UInt8 × Int × Int × Int) := [([], 0, 0, 0), ([115, 116, 97, 114, 116], 0, 0, 0), ([97, 108, 108, 111, 99], 1, 0, 0), ([102, 114, 101, 101], 2, 0, 0), ([119, 114, 105, 116, 101], 2, 3, 4), ([108, 111, 97, 100], 2, 3, 0), ([112, 117, 115, 104], 0, 4, 0), ([112, 111, 112], 0, 0, 0), ([101, 110, 113], 0, 4, 0), ([100, 101, 113], 0, 0, 0), ([99, 97, 115], 5, 4, 4), ([115, 101, 101], 5, 0, 0), ([115, 99, 97, 110], 0, 0, 0), ([97, 100, 111, 112, 116], 7, 0, 0), ([97, 115, 107], 6, 8, 0)]
def rowD (r : List UInt8 × Int × Int × Int) : DataW Unit := .agg [.lit (.string r.1), .agg [.lit (.int .i64 r.2.1), .lit (.int .i64 r.2.2.1), .lit (.int .i64 r.2.2.2)]]
def rowV (r : List UInt8 × Int × Int × Int) : List Value := [.string ⟨r.1.toArray⟩, .int .i64 r.2.1, .int .i64 r.2.2.1, .int .i64 r.2.2.2]
theorem cellsStr : Tryd.prog.cellsOf 9 = 1 := by kernel_rfl
theorem cellsI : Tryd.prog.cellsOf 2 = 1 := by kernel_rfl
theorem cells3 : Tryd.prog.cellsOf 44 = 3 := by kernel_rfl
theorem cellsRow : Tryd.prog.cellsOf 46 = 4 := by kernel_rfl
theorem cellsTab : Tryd.prog.cellsOf 55 = 60 := by kernel_rfl
theorem row_of {H : Type} {enc : TypeId × Value → H} {w : World} {base : Nat} {sp : Nat → Bool} {held : Bool} {fuel : Nat} {cs : List Value} {p : List MemPlace} {b : List UInt8} {x y z : Int}
    (h : DataW.trod enc Tryd.prog w base sp held fuel 46 cs = some (.agg [.lit (.string b), .agg [.lit (.int .i64 x), .lit (.int .i64 y), .lit (.int .i64 z)]], p)) : cs = [.string ⟨b.toArray⟩, .int .i64 x, .int .i64 y, .int .i64 z] := by
  obtain ⟨y0, y1, n, e, hl, h0, h1⟩ := trod_struct2 Tryd.underlying46 h
  rw [cellsRow] at hl
  simp only [Prod.mk.injEq, DataW.agg.injEq, List.cons.injEq, and_true] at e
  obtain ⟨⟨e0, e1⟩, -⟩ := e
  obtain ⟨s, hs, hy, -⟩ := DataW.trod_string Tryd.underlying9 h0
  obtain ⟨xs, m, -, hx, -, hn, hel⟩ := DataW.trod_array Tryd.underlying44 h1
  match cs, hl with
  | [c0, c1, c2, c3], _ =>
    have g0 := hel 0 (by omega)
    have g1 := hel 1 (by omega)
    have g2 := hel 2 (by omega)
    match xs, hn with
    | [x0, x1, x2], _ =>
      obtain ⟨k0, f0, q0, -⟩ := DataW.trod_int Tryd.underlying2 g0
      obtain ⟨k1, f1, q1, -⟩ := DataW.trod_int Tryd.underlying2 g1
      obtain ⟨k2, f2, q2, -⟩ := DataW.trod_int Tryd.underlying2 g2
      rw [cellsI] at f0 f1 f2
      erw [cells3] at f0 f1 f2
      erw [cellsStr] at hs
      simp at hs f0 f1 f2
      subst hs f0 f1 f2
      rw [hy] at e0
      rw [hx] at e1
      rw [q0, q1, q2] at e1
      simp at e0 e1
      obtain ⟨rfl, rfl, rfl⟩ := e1
      subst e0
      simp
/-- The table stands where the program's own text lays it. -/
structure Tab (w : World) : Prop where
  pos : 0 < w.heap.size
  is : ∀ (i : Nat) (r : List UInt8 × Int × Int × Int), tab[i]? = some r → w.rangeAt 0 (4 * i) (rowV r)
theorem Tab.keep {w w' : World} (h : Tab w) (hb : Below w.heap.size w w') : Tab w' :=
  ⟨Nat.lt_of_lt_of_le h.pos hb.size, fun i r hr j v hj => (World.cell?_of_block (w := w) (hb.block 0 h.pos)).trans (h.is i r hr j v hj)⟩
theorem gTab : Tryd.prog.globalNamed "loop.example/g00650/impl.callRows" = some 0 := by kernel_rfl
theorem tTab : (Tryd.prog.globals[0]?).map (·.type) = some 55 := by kernel_rfl
theorem tab_of {W : World} (h : laidMetH Tryd.prog [("loop.example/g00650/impl.callRows", Rows.laid_loop_example_g00650_impl_callRows)] W) : Tab W := by
  rw [MakeChecks.laidMetH_plain _ _ _ (by kernel_rfl)] at h
  obtain ⟨ps, ⟨g0, t0, cs0, f0, p0, q0, hg0, ht0, hv0, hd0, _, _⟩, _, _⟩ := h
  obtain rfl := Option.some.inj (gTab.symm.trans hg0)
  obtain rfl := Option.some.inj (tTab.symm.trans ht0)
  obtain ⟨xs, m, -, hx, hlen, hn, hel⟩ := DataW.trod_array Tryd.underlying55 hd0
  rw [cellsTab] at hlen
  have hD : (Rows.laid_loop_example_g00650_impl_callRows : DataW Unit) = .agg (tab.map rowD) := rfl
  rw [hD] at hx
  simp only [Prod.mk.injEq, DataW.agg.injEq] at hx
  have hrow : ∀ (i : Nat) (r : List UInt8 × Int × Int × Int), tab[i]? = some r → ((cs0.toList.drop (i * 4)).take 4) = rowV r := by
    intro i r hr
    have hi : i < 15 := (List.getElem?_eq_some_iff.1 hr).1
    have e1 := hel i hi
    rw [cellsRow] at e1
    have e2 : xs[i]? = some (xs[i]'(by omega)) := by simp [show i < xs.length by omega]
    rw [e2] at e1
    have e3 : (xs[i]'(by omega)).1 = rowD r := by
      have := congrArg (·[i]?) hx.1
      simp only [List.getElem?_map, hr, e2, Option.map_some, Option.some.injEq] at this
      exact this.symm
    generalize xs[i]'(by omega) = q at e1 e3
    obtain ⟨d, pp⟩ := q
    simp only at e3
    subst e3
    exact row_of e1
  have hc : ∀ k, W.cell? ⟨0, k, none⟩ = cs0[k]? := fun k => World.var?_cell hg0 hv0 k
  have hpos : 0 < W.heap.size := by
    have e := hc 0
    have h0 : cs0[0]? = some (cs0[0]'(by simp at hlen; omega)) := by simp at hlen; simp [show 0 < cs0.size by omega]
    rw [h0] at e
    by_cases hb : 0 < W.heap.size
    · exact hb
    · have e' : W.heap[0]? = none := Array.getElem?_eq_none (by omega)
      simp [World.cell?, e'] at e
  refine ⟨hpos, fun i r hr j v hj => ?_⟩
  rw [hc]
  have := hrow i r hr
  rw [← this] at hj
  rw [List.getElem?_take, List.getElem?_drop] at hj
  split at hj
  · rw [show 4 * i + j = i * 4 + j by omega]
    simpa using hj
  · cases hj
end Go.Proofs.YtooljeddnfkphaaDoor
