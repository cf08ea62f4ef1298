/-
  Of a right word's own number: it unpacks to the word, bears its Pid and Seq, and no other Pid.
-/
import Derived.Test.YtkfmlamokcgcdaaCore2
namespace Go.Proofs.Ytkfmlamokcgcdaa
open Go.RowKit
set_option linter.unusedVariables false
theorem u_pk {k p i s : Int} (h : wOk k p i s = true) : uK (pk k p i s) = k ∧ uP (pk k p i s) = p ∧ uI (pk k p i s) = i ∧ uS (pk k p i s) = s := by
  rw [wOk_iff] at h; unfold uK uP uI uS pk; omega
theorem unpackW (k p i s : Int) (h : wOk k p i s = true) (w : World) :
    Calls Try.prog 13 #[.int .u64 (pk k p i s)] w fun e w' => e = .returned (.agg #[.int .i64 k, .int .i64 p, .int .i64 i, .int .i64 s]) ∧ Below w.heap.size w w' := by
  obtain ⟨e1, e2, e3, e4⟩ := u_pk h
  have := iUnpack (pk k p i s) (pk_bd h).1 (pk_bd h).2 w
  rwa [e1, e2, e3, e4] at this
theorem bearsY (k p i s : Int) (h : wOk k p i s = true) (w : World) :
    Calls Try.prog 14 #[.int .u64 (pk k p i s), .int .i64 p, .int .i64 s] w fun e w' => e = .returned (.bool true) ∧ Below w.heap.size w w' := by
  obtain ⟨e1, e2, e3, e4⟩ := u_pk h
  have := iBears (pk k p i s) p s (pk_bd h).1 (pk_bd h).2 w
  rw [e2, e4] at this
  simpa using this
theorem bearsN (k p i s : Int) (h : wOk k p i s = true) (w : World) :
    Calls Try.prog 14 #[.int .u64 (pk k p i s), .int .i64 (p + 1), .int .i64 s] w fun e w' => e = .returned (.bool false) ∧ Below w.heap.size w w' := by
  obtain ⟨e1, e2, e3, e4⟩ := u_pk h
  have := iBears (pk k p i s) (p + 1) s (pk_bd h).1 (pk_bd h).2 w
  rw [e2, e4, show (p == p + 1) = false from by simp; omega] at this
  simpa using this
end Go.Proofs.Ytkfmlamokcgcdaa
