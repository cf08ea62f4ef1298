/-
  Heads: lists that are gathered out of an arena; whose a block is, in the specification.
-/
import Derived.Test.YtdebjfgflldpjaaInts
import Derived.Test.YtdebjfgflldpjaaBlk
namespace Go.Proofs.Ytdebjfgflldpjaa
open Go.RowKit
set_option linter.unusedVariables false
set_option linter.unusedSimpArgs false
/-- What stands while a list of numbers is gathered out of a source of words. -/
structure Ga (w0 w : World) (q base : Nat) (p s l c k : Int) (v : Value) (Z : List Int) (a : Option Addr) (n : Nat) (xs : List Int) : Prop where
  own : w.ownsRow base 2 1 v Z.length (Z.map (Value.int .i64))
  vn : v ≠ .slice none 0 0
  box : Box5 w q (.int .i64 p) (.int .i64 s) (.int .i64 l) (.int .i64 c) (.int .i64 k)
  src : Src w a n xs
  lo : ∀ b o, a = some ⟨b, o, none⟩ → 0 < n → b < base
  qb : q < base
  bs : base ≤ w.heap.size
  wb : w0.heap.size ≤ base
  low : Below w0.heap.size w0 w
theorem own_keep {w w' : World} {base : Nat} {v : Value} {Z : List Int} (h : w.ownsRow base 2 1 v Z.length (Z.map (Value.int .i64))) (hb : Below w.heap.size w w') : w'.ownsRow base 2 1 v Z.length (Z.map (Value.int .i64)) :=
  World.ownsRow.kept (row := none) h ⟨hb.os, hb.tape, hb.output, hb.size, fun k hk _ => hb.block k hk⟩ (by cases v.ownBlock <;> simp)
theorem Ga.keep {w0 w w' : World} {q base : Nat} {p s l c k : Int} {v : Value} {Z : List Int} {a : Option Addr} {n : Nat} {xs : List Int} (h : Ga w0 w q base p s l c k v Z a n xs) (hb : Below w.heap.size w w') : Ga w0 w' q base p s l c k v Z a n xs :=
  ⟨own_keep h.own hb, h.vn, h.box.keep hb, h.src.keep hb, h.lo, h.qb, Nat.le_trans h.bs hb.size, h.wb, h.low.trans (hb.mono (Nat.le_trans h.wb h.bs))⟩
theorem Ga.app {w0 w w' : World} {q base : Nat} {p s l c k x : Int} {v v' : Value} {Z : List Int} {a : Option Addr} {n : Nat} {xs : List Int} (h : Ga w0 w q base p s l c k v Z a n xs)
    (ho : w'.ownsRow base 2 1 v' (Z.length + 1) (Z.map (Value.int .i64) ++ [.int .i64 x])) (hg : w.grownBy w' v.ownBlock) (hv : v' = .slice none 0 0 ↔ v = .slice none 0 0 ∧ 1 = 0) : Ga w0 w' q base p s l c k v' (Z ++ [x]) a n xs := by
  have hne : ∀ j, v.ownBlock = some j → base ≤ j := fun j hj => (World.ownsRow.lt h.own j hj).1
  have hq : ∀ i, w'.cell? ⟨q, i, none⟩ = w.cell? ⟨q, i, none⟩ := fun i => World.cell?_of_block (w := w) (hg.block q h.box.lt (fun e => by have := hne q e.symm; have := h.qb; omega))
  refine ⟨by simpa using ho, fun e => by have := (hv.1 e).2; omega, ⟨Nat.lt_of_lt_of_le h.box.lt hg.size, (hq 0).trans h.box.c0, (hq 1).trans h.box.c1, (hq 2).trans h.box.c2, (hq 3).trans h.box.c3, (hq 4).trans h.box.c4⟩, ?_, h.lo, h.qb, Nat.le_trans h.bs hg.size, h.wb, ?_⟩
  · refine ⟨h.src.1, ?_⟩
    rcases h.src.2 with h0 | ⟨b, o, rfl, hl, hc⟩
    · exact .inl h0
    · by_cases h0 : n = 0
      · exact .inl h0
      · have hb := h.lo b o rfl (by omega)
        refine .inr ⟨b, o, rfl, Nat.lt_of_lt_of_le hl hg.size, fun i hi => (World.cell?_of_block (w := w) (a := ⟨b, o + i, none⟩) (hg.block b hl (fun e => ?_))).trans (hc i hi)⟩
        have := hne b e.symm
        omega
  · exact h.low.grown hg (Nat.le_trans h.wb h.bs) (fun j hj => Nat.le_trans h.wb (hne j hj))
theorem Ga.is {w0 w : World} {q base : Nat} {p s l c k : Int} {v : Value} {Z : List Int} {a : Option Addr} {n : Nat} {xs : List Int} (h : Ga w0 w q base p s l c k v Z a n xs) :
    ∃ g cc, v = .slice (some ⟨g, 0, none⟩) Z.length cc ∧ w0.heap.size ≤ g ∧ Is w g Z.length cc Z := by
  rcases h.own.2 with ⟨e, _⟩ | ⟨g, cc, cur, rfl, h1, h2⟩
  · exact absurd e h.vn
  · exact ⟨g, cc, rfl, Nat.le_trans h.wb h1, rfl, ⟨h.own.1, .inr ⟨g, cc, cur, rfl, Nat.zero_le _, h2⟩⟩⟩
theorem ilit (w : World) (B : Nat) (hb : B ≤ w.heap.size) : (w.alloc (.cells #[] 2)).ownsRow B 2 1 (.slice (some ⟨w.heap.size, 0, none⟩) 0 0) 0 [] :=
  ⟨by simp, .inr ⟨w.heap.size, 0, #[], rfl, hb, by show (w.heap.push _)[w.heap.size]? = _; simp, Nat.le_refl _, Nat.zero_le _, by simp, by simp⟩⟩
/-- A boxed plan and an empty list behind it, ahead of all. -/
theorem Ga.start (w : World) (p s l c k : Int) (a : Option Addr) (n : Nat) (xs : List Int) (h : Src w a n xs) :
    Ga w ((w.alloc (Obj.cells #[.int .i64 p, .int .i64 s, .int .i64 l, .int .i64 c, .int .i64 k] 26)).alloc (.cells #[] 2)) w.heap.size (w.heap.size + 1) p s l c k (.slice (some ⟨w.heap.size + 1, 0, none⟩) 0 0) [] a n xs := by
  have hb1 : Below w.heap.size w (w.alloc (Obj.cells #[.int .i64 p, .int .i64 s, .int .i64 l, .int .i64 c, .int .i64 k] 26)) := (Below.refl _ _).alloc (Nat.le_refl _) _
  have B := Box5.new w (.int .i64 p) (.int .i64 s) (.int .i64 l) (.int .i64 c) (.int .i64 k) 26
  have hs : (w.alloc (Obj.cells #[.int .i64 p, .int .i64 s, .int .i64 l, .int .i64 c, .int .i64 k] 26)).heap.size = w.heap.size + 1 := by simp
  have hb2 : Below (w.heap.size + 1) (w.alloc (Obj.cells #[.int .i64 p, .int .i64 s, .int .i64 l, .int .i64 c, .int .i64 k] 26)) ((w.alloc (Obj.cells #[.int .i64 p, .int .i64 s, .int .i64 l, .int .i64 c, .int .i64 k] 26)).alloc (.cells #[] 2)) := (Below.refl _ _).alloc (by omega) _
  rw [← hs] at hb2
  refine ⟨?_, by simp, B.keep hb2, (h.keep hb1).keep hb2, ?_, by omega, by simp, by omega, hb1.trans (hb2.mono (by omega))⟩
  · have := ilit (w.alloc (Obj.cells #[.int .i64 p, .int .i64 s, .int .i64 l, .int .i64 c, .int .i64 k] 26)) (w.heap.size + 1) (by omega)
    rw [hs] at this
    simpa using this
  · rintro b o rfl h0
    rcases h.2 with h1 | ⟨b', o', e, hl, _⟩
    · omega
    · cases e
      omega
theorem one_cell4 (w : World) (x : Int) (t : TypeId) (r : Nat) (hr : r = w.heap.size) : ∀ (j : Nat) (u : Value), [Value.int .i64 x][j]? = some u → (w.alloc (.cells #[.int .i64 x] t)).cell? ((⟨r, 0, none⟩ : Addr).add j) = some u := by
  subst hr
  intro j u hj
  match j, hj with
  | 0, hj => simp at hj; subst hj; simp [Addr.add]
theorem L_max {n : Nat} (h : Hid (n ≤ 250)) : n + 1 ≤ maxLen := by
  have := h.out
  unfold maxLen
  omega
theorem L_bytes {n : Nat} (h : Hid (n ≤ 250)) : (n + 1) * 8 ≤ 140737488355328 := by
  have := h.out
  omega
theorem one_int4 (x : Int) : ∀ u ∈ [Value.int .i64 x], u.oneCell' = true := by
  intro u hu
  simp at hu
  subst hu
  rfl
/-- The numbers from 1 to n that pass a test. -/
def wh (f : Int → Bool) : Nat → List Int
  | 0 => []
  | n + 1 => if f ((n : Int) + 1) then wh f n ++ [(n : Int) + 1] else wh f n
theorem wh_len (f : Int → Bool) (n : Nat) : (wh f n).length ≤ n := by
  induction n with
  | zero => simp [wh]
  | succ n ih =>
    unfold wh
    split
    · simp; omega
    · omega
/-- Does the head x say that kind and that slot? -/
def hsay (kind slot x : Int) : Bool := decide (uK x = kind ∧ uP x = slot)
def headOf (p s l c k : Int) (xs : List Int) (b : Int) : Int := xs.getD (vBlock p s l c k b 0).toNat 0
def whose (p s l c k : Int) (n : Nat) (xs : List Int) (kind slot : Int) : List Int :=
  if aOk p s l c k n then wh (fun b => hsay kind slot (headOf p s l c k xs b)) (s + l).toNat else []
theorem aOk_y {p s l c k : Int} {n : Nat} (h : aOk p s l c k n = true) : ok p s l c k = true ∧ (n : Int) = zF p s l c := by
  cases ho : ok p s l c k
  · rw [aOk_n ho] at h; cases h
  · have := of_decide_eq_true h
    unfold vSize at this
    rw [if_pos ho] at this
    exact ⟨rfl, this⟩
theorem whose_len (p s l c k : Int) (n : Nat) (xs : List Int) (kind slot : Int) : (whose p s l c k n xs kind slot).length ≤ 250 := by
  unfold whose
  split
  · rename_i h
    have h' := ok_iff.1 (aOk_y h).1
    have := wh_len (fun b => hsay kind slot (headOf p s l c k xs b)) (s + l).toNat
    omega
  · simp
theorem wh_y {f : Int → Bool} {b : Int} (b0 : 1 ≤ b) (h : f b = true) : wh f (b - 1 + 1).toNat = wh f (b - 1).toNat ++ [b] := by
  have e : (b - 1 + 1).toNat = (b - 1).toNat + 1 := by omega
  have e2 : (((b - 1).toNat : Nat) : Int) + 1 = b := by omega
  rw [e]
  conv => lhs; unfold wh
  rw [e2, h]
  simp
theorem wh_n {f : Int → Bool} {b : Int} (b0 : 1 ≤ b) (h : f b = false) : wh f (b - 1 + 1).toNat = wh f (b - 1).toNat := by
  have e : (b - 1 + 1).toNat = (b - 1).toNat + 1 := by omega
  have e2 : (((b - 1).toNat : Nat) : Int) + 1 = b := by omega
  rw [e]
  conv => lhs; unfold wh
  rw [e2, h]
  simp
theorem run_wordI (x0 x1 x2 x3 : Int) (w : World) : (Instr.field 44 (.agg #[.int .i64 x0, .int .i64 x1, .int .i64 x2, .int .i64 x3]) 2).run Try.prog w = .ok (.int .i64 x2) w := by
  simp [Instr.field, go_sem, asAgg]
set_option maxHeartbeats 1000000 in
theorem sIndex4 (x : Int) (h0 : 0 ≤ x) (h1 : x ≤ 18446744073709551615) (w : World) :
    Calls Try.prog 17 #[.int .u64 x] w fun e w' => e = .returned (.int .i64 (uI x)) ∧ Below w.heap.size w w' := by
  have hf := run_wordI
  go_enter Try.func17, Try.ntmps17
  go_wp2_with (go_at_call 25; refine (sUnpack _ h0 h1 _).mono ?_; rintro e w1 ⟨rfl, hb⟩)
  go_ret
  exact ⟨rfl, hb⟩
/-- A block of four cells, filled anew. -/
theorem At.fill4 {w : World} {r : Nat} {y0 y1 y2 y3 : Value} {t : TypeId} (A : At w r #[y0, y1, y2, y3] t) (v0 v1 v2 v3 : Value) :
    At ((((w.setCell ⟨r, 0, none⟩ v0).setCell ⟨r, 1, none⟩ v1).setCell ⟨r, 2, none⟩ v2).setCell ⟨r, 3, none⟩ v3) r #[v0, v1, v2, v3] t := by
  have := (((A.set 0 v0).set 1 v1).set 2 v2).set 3 v3
  simpa using this
theorem Below.fill4 {B : Nat} {w0 w : World} (z : Below B w0 w) {r : Nat} (hr : B ≤ r) (v0 v1 v2 v3 : Value) :
    Below B w0 ((((w.setCell ⟨r, 0, none⟩ v0).setCell ⟨r, 1, none⟩ v1).setCell ⟨r, 2, none⟩ v2).setCell ⟨r, 3, none⟩ v3) :=
  (((z.setCell (p := ⟨r, 0, none⟩) hr _).setCell (p := ⟨r, 1, none⟩) hr _).setCell (p := ⟨r, 2, none⟩) hr _).setCell (p := ⟨r, 3, none⟩) hr _
set_option maxHeartbeats 2000000 in
theorem sField (p s l c k b f x : Int) (a : Option Addr) (n cap i : Nat) (xs : List Int) (w : World) (h : Src w a n xs) (hi : i < n) (hn : n ≤ 16777216) (e : vBlock p s l c k b f = (i : Int)) (hx : xs.getD i 0 = x) (x0 : 0 ≤ x) (x1 : x ≤ 18446744073709551615) :
    Calls Try.prog 21 #[.agg #[.int .i64 p, .int .i64 s, .int .i64 l, .int .i64 c, .int .i64 k], .slice a n cap, .int .i64 b, .int .i64 f] w fun e w' => e = .returned (.agg #[.int .i64 (uK x), .int .i64 (uP x), .int .i64 (uI x), .int .i64 (uS x)]) ∧ Below w.heap.size w w' := by
  obtain ⟨b0, o, rfl, hl, hc⟩ := h.2.resolve_left (by omega)
  have d0 := hc i hi
  rw [hx] at d0
  have EQ : Hid (vBlock p s l c k b f = (i : Int)) := e
  have hii : (i : Int) < n := by omega
  have z : Below w.heap.size w ((w.alloc (Obj.cells #[.int .i64 p, .int .i64 s, .int .i64 l, .int .i64 c, .int .i64 k] 26)).alloc (Obj.cells #[.int .i64 0, .int .i64 0, .int .i64 0, .int .i64 0] 44)) := ((Below.refl _ _).alloc (Nat.le_refl _) _).alloc (by simp) _
  have A := At.new (w.alloc (Obj.cells #[.int .i64 p, .int .i64 s, .int .i64 l, .int .i64 c, .int .i64 k] 26)) #[.int .i64 0, .int .i64 0, .int .i64 0, .int .i64 0] 44
  have hsz : (w.alloc (Obj.cells #[.int .i64 p, .int .i64 s, .int .i64 l, .int .i64 c, .int .i64 k] 26)).heap.size = w.heap.size + 1 := by simp
  rw [hsz] at A
  clear h hc e hx
  go_enter Try.func21, Try.ntmps21
  go_wp2_with (first
    | (go_at_call 27; refine (sBlock _ _ _ _ _ _ _ _).mono ?_; rintro e w1 ⟨rfl, hb⟩; rw [EQ.out]; replace z := z.trans (hb.mono z.size); replace A := A.keep hb; clear hb; have d1 := (z.cell (p := ⟨b0, o + i, none⟩) hl).trans d0)
    | (go_at_call 25; refine (sUnpack _ x0 x1 _).mono ?_; rintro e w2 ⟨rfl, hb⟩; replace z := z.trans (hb.mono z.size); replace A := A.keep hb; clear hb; obtain ⟨c0, c1, c2, c3, f0, f1, f2, f3⟩ := A.four))
  obtain ⟨r0, r1, r2, r3, -⟩ := (A.fill4 (.int .i64 (uK x)) (.int .i64 (uP x)) (.int .i64 (uI x)) (.int .i64 (uS x))).four
  exact bodyPost_ret (v := .agg #[.int .i64 (uK x), .int .i64 (uP x), .int .i64 (uI x), .int .i64 (uS x)]) (by simp [results, Try.results21, go_sem, r0, r1, r2, r3]) rfl ⟨rfl, Below.fill4 z (by omega) _ _ _ _⟩
end Go.Proofs.Ytdebjfgflldpjaa
