/-
  A code's bytes stay where they are when only memory of the call's own is made or written.
-/
import Derived.Test.YtmldeigbaafclaaCur
namespace Go.Proofs.Ytmldeigbaafclaa
open Go.RowKit
set_option linter.unusedVariables false
theorem Row.up {B B' : Nat} {w w' : World} {a : Option Addr} {len : Nat} (h : Row B w a len) (hb : Below B w w') (hB : B ≤ B') : Row B' w' a len := by
  rcases h with rfl | ⟨b, off, rfl, hbb, hz⟩
  · exact .inl rfl
  · refine .inr ⟨b, off, rfl, by omega, fun j hj => ?_⟩
    obtain ⟨z, h1, h2⟩ := hz j hj
    exact ⟨z, (hb.cell (p := ⟨b, off + j, none⟩) hbb).trans h1, h2⟩
end Go.Proofs.Ytmldeigbaafclaa
