/-
  Plain arithmetic of packed words: masks are remainders, a disjoint 'or' is a sum, and a word of four fields within their widths is what its packed number is taken apart into.
  What the functions of the words' chapter do, one contract a function: packing, unpacking, asking, and the model's own.
  What the model's own functions of the words' chapter do, and the law's helpers.
  What the program's own test of a word answers: whether the four fields are within their widths.
  What the program's packing does: a right word is packed; any other is refused.
  A struct all of whose fields are int64, handed in by value, is a row of as many numbers of 64 bits.
-/
import Derived.Handy
import Derived.Laws.BitsLemmas
import Derived.Test.YtgmoemjiffglbaaGreatChecked
import Derived.Deep.RegionWith
import Derived.WalkKit
import Derived.ProofKit
import Derived.OpenShut
import Derived.ChangeOld
import Derived.Lib.SmallJoins
namespace Go.Proofs.YtgmoemjiffglbaaGreat
open Go.RowKit

theorem band8 (x : Int) : bits .and .u64 x 255 = x % 256 := by
  show IntKind.u64.wrap (((BitVec.ofInt 64 x &&& BitVec.ofInt 64 255).toNat : Nat) : Int) = _
  rw [BitVec.toNat_and, BitVec.toNat_ofInt, BitVec.toNat_ofInt, show ((255 : Int) % (2 ^ 64 : Nat)).toNat = 2 ^ 8 - 1 from by decide, Nat.and_two_pow_sub_one_eq_mod, IntKind.wrap_u64]
  omega
theorem band16 (x : Int) : bits .and .u64 x 65535 = x % 65536 := by
  show IntKind.u64.wrap (((BitVec.ofInt 64 x &&& BitVec.ofInt 64 65535).toNat : Nat) : Int) = _
  rw [BitVec.toNat_and, BitVec.toNat_ofInt, BitVec.toNat_ofInt, show ((65535 : Int) % (2 ^ 64 : Nat)).toNat = 2 ^ 16 - 1 from by decide, Nat.and_two_pow_sub_one_eq_mod, IntKind.wrap_u64]
  omega
theorem band32 (x : Int) : bits .and .u64 x 4294967295 = x % 4294967296 := by
  show IntKind.u64.wrap (((BitVec.ofInt 64 x &&& BitVec.ofInt 64 4294967295).toNat : Nat) : Int) = _
  rw [BitVec.toNat_and, BitVec.toNat_ofInt, BitVec.toNat_ofInt, show ((4294967295 : Int) % (2 ^ 64 : Nat)).toNat = 2 ^ 32 - 1 from by decide, Nat.and_two_pow_sub_one_eq_mod, IntKind.wrap_u64]
  omega

theorem bor_add (n : Nat) (c b : Nat) (hb : b < 2 ^ n) (hs : c * 2 ^ n + b < 18446744073709551616) :
    bits .or .u64 ((c : Int) * ((2 ^ n : Nat) : Int)) (b : Int) = (c : Int) * ((2 ^ n : Nat) : Int) + b := by
  have e1 : ((c : Int) * ((2 ^ n : Nat) : Int)) = ((c * 2 ^ n : Nat) : Int) := by simp
  rw [e1]
  generalize hg : c * 2 ^ n = g at *
  show IntKind.u64.wrap (((BitVec.ofInt 64 (g : Int) ||| BitVec.ofInt 64 (b : Int)).toNat : Nat) : Int) = _
  rw [BitVec.toNat_or, BitVec.toNat_ofInt, BitVec.toNat_ofInt]
  have hc : (((g : Nat) : Int) % (2 ^ 64 : Nat)).toNat = g := by omega
  have hb' : ((b : Int) % (2 ^ 64 : Nat)).toNat = b := by omega
  rw [hc, hb', ← hg, ← Nat.shiftLeft_eq, ← Nat.shiftLeft_add_eq_or_of_lt hb, Nat.shiftLeft_eq, hg, IntKind.wrap_u64]
  omega

theorem bor_at (n : Nat) (m a b c : Int) (hm : m = ((2 ^ n : Nat) : Int)) (ha : a = c * m) (hc : 0 ≤ c) (hb : 0 ≤ b) (hbm : b < m) (hs : c * m + b < 18446744073709551616) :
    bits .or .u64 a b = a + b := by
  subst hm ha
  obtain ⟨c', rfl⟩ := Int.eq_ofNat_of_zero_le hc
  obtain ⟨b', rfl⟩ := Int.eq_ofNat_of_zero_le hb
  refine bor_add n c' b' (by omega) ?_
  have : ((c' * 2 ^ n + b' : Nat) : Int) < 18446744073709551616 := by simpa using hs
  omega

/-- The word's number. -/
def pk (k p i s : Int) : Int := ((k * 256 + p) * 65536 + i) * 4294967296 + s
/-- The fields are within their widths. -/
def wOk (k p i s : Int) : Bool := decide (0 ≤ k ∧ k ≤ 255 ∧ 0 ≤ p ∧ p ≤ 255 ∧ 0 ≤ i ∧ i ≤ 65535 ∧ 0 ≤ s ∧ s ≤ 4294967295)
theorem wOk_iff {k p i s : Int} : wOk k p i s = true ↔ (0 ≤ k ∧ k ≤ 255 ∧ 0 ≤ p ∧ p ≤ 255 ∧ 0 ≤ i ∧ i ≤ 65535 ∧ 0 ≤ s ∧ s ≤ 4294967295) := by unfold wOk; simp
/-- What is made of whatever fields, masked. -/
def jn (k p i s : Int) : Int := pk (k % 256) (p % 256) (i % 65536) (s % 4294967296)
theorem jn_bd (k p i s : Int) : 0 ≤ jn k p i s ∧ jn k p i s ≤ 18446744073709551615 := by unfold jn pk; omega
theorem pk_bd {k p i s : Int} (h : wOk k p i s = true) : 0 ≤ pk k p i s ∧ pk k p i s ≤ 18446744073709551615 := by rw [wOk_iff] at h; unfold pk; omega
theorem jn_pk {k p i s : Int} (h : wOk k p i s = true) : jn k p i s = pk k p i s := by rw [wOk_iff] at h; unfold jn pk; omega
def uK (x : Int) : Int := x / 72057594037927936
def uP (x : Int) : Int := x / 281474976710656 % 256
def uI (x : Int) : Int := x / 4294967296 % 65536
def uS (x : Int) : Int := x % 4294967296
theorem unpk (k p i s : Int) : uK (jn k p i s) = k % 256 ∧ uP (jn k p i s) = p % 256 ∧ uI (jn k p i s) = i % 65536 ∧ uS (jn k p i s) = s % 4294967296 := by unfold uK uP uI uS jn pk; omega
theorem u_ok {x : Int} (h0 : 0 ≤ x) (h1 : x ≤ 18446744073709551615) : wOk (uK x) (uP x) (uI x) (uS x) = true := by rw [wOk_iff]; unfold uK uP uI uS; omega
theorem pk_u {x : Int} : pk (uK x) (uP x) (uI x) (uS x) = x := by unfold pk uK uP uI uS; omega
theorem ok_mod (k p i s : Int) : (decide (k % 256 = k) && decide (p % 256 = p) && decide (i % 65536 = i) && decide (s % 4294967296 = s)) = wOk k p i s := by
  unfold wOk; rw [Bool.eq_iff_iff]; simp; omega

theorem join_eq (k p i s : Int) :
    bits BinOp.or IntKind.u64
      (bits BinOp.or IntKind.u64
        (bits BinOp.or IntKind.u64
          (IntKind.u64.wrap (bits BinOp.and IntKind.u64 (IntKind.u64.wrap k) 255 * 72057594037927936))
          (IntKind.u64.wrap (bits BinOp.and IntKind.u64 (IntKind.u64.wrap p) 255 * 281474976710656)))
        (IntKind.u64.wrap (bits BinOp.and IntKind.u64 (IntKind.u64.wrap i) 65535 * 4294967296)))
      (bits BinOp.and IntKind.u64 (IntKind.u64.wrap s) 4294967295) = jn k p i s := by
  rw [band8, band8, band16, band32]
  have ek : IntKind.u64.wrap (IntKind.u64.wrap k % 256 * 72057594037927936) = (k % 256) * 72057594037927936 := by simp only [IntKind.wrap_u64]; omega
  have ep : IntKind.u64.wrap (IntKind.u64.wrap p % 256 * 281474976710656) = (p % 256) * 281474976710656 := by simp only [IntKind.wrap_u64]; omega
  have ei : IntKind.u64.wrap (IntKind.u64.wrap i % 65536 * 4294967296) = (i % 65536) * 4294967296 := by simp only [IntKind.wrap_u64]; omega
  have es : IntKind.u64.wrap s % 4294967296 = s % 4294967296 := by simp only [IntKind.wrap_u64]; omega
  rw [ek, ep, ei, es]
  unfold jn pk
  generalize hk : k % 256 = k'
  generalize hp : p % 256 = p'
  generalize hi : i % 65536 = i'
  generalize hs : s % 4294967296 = s'
  rw [bor_at 56 72057594037927936 (k' * 72057594037927936) (p' * 281474976710656) k' (by decide) rfl (by omega) (by omega) (by omega) (by omega)]
  rw [bor_at 48 281474976710656 (k' * 72057594037927936 + p' * 281474976710656) (i' * 4294967296) (k' * 256 + p') (by decide) (by omega) (by omega) (by omega) (by omega) (by omega)]
  rw [bor_at 32 4294967296 (k' * 72057594037927936 + p' * 281474976710656 + i' * 4294967296) s' ((k' * 256 + p') * 65536 + i') (by decide) (by omega) (by omega) (by omega) (by omega) (by omega)]
  omega

theorem ret_int {k : IntKind} {a b : Int} (h : a = b) : Ending.returned (.int k a) = .returned (.int k b) := by rw [h]
theorem ret_word {a b c d a' b' c' d' : Int} (h1 : a = a') (h2 : b = b') (h3 : c = c') (h4 : d = d') :
    Ending.returned (.agg #[.int .i64 a, .int .i64 b, .int .i64 c, .int .i64 d]) = .returned (.agg #[.int .i64 a', .int .i64 b', .int .i64 c', .int .i64 d']) := by rw [h1, h2, h3, h4]
end Go.Proofs.YtgmoemjiffglbaaGreat
namespace Go.Proofs.YtgmoemjiffglbaaGreat
open Go.RowKit
set_option linter.unusedVariables false
set_option maxHeartbeats 400000 in
theorem iUnpack (x : Int) (h0 : 0 ≤ x) (h1 : x ≤ 18446744073709551615) (w : World) :
    Calls Tryz.prog 90 #[.int .u64 x] w fun e w' => e = .returned (.agg #[.int .i64 (uK x), .int .i64 (uP x), .int .i64 (uI x), .int .i64 (uS x)]) ∧ Below w.heap.size w w' := by
  go_enter Tryz.func90, Tryz.ntmps90
  go_wp2
  go_returns
  refine ⟨ret_word ?_ ?_ ?_ ?_, by go_grown⟩
  · rw [band8]; unfold wrap64 uK; omega
  · rw [band8]; unfold wrap64 uP; omega
  · rw [band16]; unfold wrap64 uI; omega
  · rw [band32]; unfold wrap64 uS; omega
set_option maxHeartbeats 400000 in
theorem sUnpack (x : Int) (h0 : 0 ≤ x) (h1 : x ≤ 18446744073709551615) (w : World) :
    Calls Tryz.prog 66 #[.int .u64 x] w fun e w' => e = .returned (.agg #[.int .i64 (uK x), .int .i64 (uP x), .int .i64 (uI x), .int .i64 (uS x)]) ∧ Below w.heap.size w w' := by
  go_enter Tryz.func66, Tryz.ntmps66
  go_wp2
  go_returns
  refine ⟨ret_word ?_ ?_ ?_ ?_, by go_grown⟩
  · unfold uK; omega
  · unfold uP; omega
  · unfold uI; omega
  · unfold uS; omega
set_option maxHeartbeats 400000 in
theorem iJoined (k p i s : Int) (w : World) :
    Calls Tryz.prog 118 #[.agg #[.int .i64 k, .int .i64 p, .int .i64 i, .int .i64 s]] w fun e w' => e = .returned (.int .u64 (jn k p i s)) ∧ Below w.heap.size w w' := by
  go_enter Tryz.func118, Tryz.ntmps118
  go_wp2
  go_returns
  exact ⟨ret_int (join_eq k p i s), by go_grown⟩

/-- Four cells of a block that is there. -/
structure Box4 (w : World) (b : Nat) (x0 x1 x2 x3 : Value) : Prop where
  lt : b < w.heap.size
  c0 : w.cell? ⟨b, 0, none⟩ = some x0
  c1 : w.cell? ⟨b, 1, none⟩ = some x1
  c2 : w.cell? ⟨b, 2, none⟩ = some x2
  c3 : w.cell? ⟨b, 3, none⟩ = some x3
theorem Box4.new (w : World) (x0 x1 x2 x3 : Value) (t : TypeId) : Box4 (w.alloc (.cells #[x0, x1, x2, x3] t)) w.heap.size x0 x1 x2 x3 :=
  ⟨by simp, by go_simp, by go_simp, by go_simp, by go_simp⟩
theorem Box4.keep {w w' : World} {b : Nat} {x0 x1 x2 x3 : Value} (h : Box4 w b x0 x1 x2 x3) (hb : Below w.heap.size w w') : Box4 w' b x0 x1 x2 x3 :=
  ⟨Nat.lt_of_lt_of_le h.lt hb.size, (hb.cell (p := ⟨b, 0, none⟩) h.lt).trans h.c0, (hb.cell (p := ⟨b, 1, none⟩) h.lt).trans h.c1, (hb.cell (p := ⟨b, 2, none⟩) h.lt).trans h.c2, (hb.cell (p := ⟨b, 3, none⟩) h.lt).trans h.c3⟩
theorem Box4.draw {w : World} {b : Nat} {x0 x1 x2 x3 : Value} (h : Box4 w b x0 x1 x2 x3) : Box4 w.drew b x0 x1 x2 x3 := ⟨h.lt, h.c0, h.c1, h.c2, h.c3⟩

end Go.Proofs.YtgmoemjiffglbaaGreat
namespace Go.Proofs.YtgmoemjiffglbaaGreat
open Go.RowKit
set_option linter.unusedVariables false
theorem ret_bool {a b : Bool} (h : a = b) : Ending.returned (.bool a) = .returned (.bool b) := by rw [h]
theorem ret_true {b : Bool} (h : b = true) : Ending.returned (.bool true) = .returned (.bool b) := by rw [h]
theorem ret_false {b : Bool} (h : b = false) : Ending.returned (.bool false) = .returned (.bool b) := by rw [h]
set_option maxHeartbeats 1000000 in
theorem sWordOk (k p i s : Int) (w : World) :
    Calls Tryz.prog 104 #[.agg #[.int .i64 k, .int .i64 p, .int .i64 i, .int .i64 s]] w fun e w' => e = .returned (.bool (wOk k p i s)) ∧ Below w.heap.size w w' := by
  go_enter Tryz.func104, Tryz.ntmps104
  go_wp2
  all_goals go_returns
  all_goals refine ⟨?_, by go_grown⟩
  all_goals first | exact ret_true (wOk_iff.2 (by omega)) | exact ret_false (decide_eq_false (by omega)) | (refine ret_bool ?_; unfold wOk; rw [decide_eq_decide]; omega)
set_option maxHeartbeats 1000000 in
theorem sPackY (k p i s : Int) (w : World) (h : wOk k p i s = true) :
    Calls Tryz.prog 68 #[.agg #[.int .i64 k, .int .i64 p, .int .i64 i, .int .i64 s]] w fun e w' => e = .returned (.tuple #[.int .u64 (pk k p i s), .bool true]) ∧ Below w.heap.size w w' := by
  have h' := wOk_iff.1 h
  go_enter Tryz.func68, Tryz.ntmps68
  go_wp2_with (go_at_call 104; refine (sWordOk _ _ _ _ _).mono ?_; rintro e w1 ⟨rfl, hb⟩; rw [h]; have B1 := (Box4.new _ _ _ _ _ _).keep hb; have c0 := B1.c0; have c1 := B1.c1; have c2 := B1.c2; have c3 := B1.c3)
  go_returns
  exact ⟨rfl, (((Below.refl _ _).alloc (Nat.le_refl _) _)).trans (hb.mono (by simp))⟩
set_option maxHeartbeats 1000000 in
theorem sPackN (k p i s : Int) (w : World) (h : wOk k p i s = false) :
    Calls Tryz.prog 68 #[.agg #[.int .i64 k, .int .i64 p, .int .i64 i, .int .i64 s]] w fun e w' => e = .returned (.tuple #[.int .u64 0, .bool false]) ∧ Below w.heap.size w w' := by
  go_enter Tryz.func68, Tryz.ntmps68
  go_wp2_with (go_at_call 104; refine (sWordOk _ _ _ _ _).mono ?_; rintro e w1 ⟨rfl, hb⟩; rw [h])
  go_returns
  exact ⟨rfl, (((Below.refl _ _).alloc (Nat.le_refl _) _)).trans (hb.mono (by simp))⟩
end Go.Proofs.YtgmoemjiffglbaaGreat
namespace Go.Proofs.YtgmoemjiffglbaaGreat
open Go.RowKit
set_option linter.unusedVariables false
theorem ok_u (k p i s : Int) : (wOk k p i s = true ∧ uK (jn k p i s) = k ∧ uP (jn k p i s) = p ∧ uI (jn k p i s) = i ∧ uS (jn k p i s) = s) ∨
    (wOk k p i s = false ∧ (¬ uK (jn k p i s) = k ∨ (uK (jn k p i s) = k ∧ ¬ uP (jn k p i s) = p) ∨ (uK (jn k p i s) = k ∧ uP (jn k p i s) = p ∧ ¬ uI (jn k p i s) = i) ∨ (uK (jn k p i s) = k ∧ uP (jn k p i s) = p ∧ uI (jn k p i s) = i ∧ ¬ uS (jn k p i s) = s))) := by
  obtain ⟨e1, e2, e3, e4⟩ := unpk k p i s
  rw [e1, e2, e3, e4]
  by_cases h : wOk k p i s = true
  · have h' := wOk_iff.1 h; left; exact ⟨h, by omega, by omega, by omega, by omega⟩
  · have h' := mt wOk_iff.2 h
    right; refine ⟨by simpa using h, ?_⟩; omega

set_option maxHeartbeats 4000000 in
theorem iWordOk (k p i s : Int) (w : World) :
    Calls Tryz.prog 117 #[.agg #[.int .i64 k, .int .i64 p, .int .i64 i, .int .i64 s]] w fun e w' => e = .returned (.bool (wOk k p i s)) ∧ Below w.heap.size w w' := by
  have hj := jn_bd k p i s
  rcases ok_u k p i s with ⟨ho, e1, e2, e3, e4⟩ | ⟨ho, e1 | ⟨e1, e2⟩ | ⟨e1, e2, e3⟩ | ⟨e1, e2, e3, e4⟩⟩ <;> rw [ho] <;> clear ho
  all_goals
    go_enter Tryz.func117, Tryz.ntmps117
    go_wp2
    go_region_with (first
      | (go_at_call 118; refine (iJoined k p i s _).mono ?_; rintro e w1 ⟨rfl, hb⟩; have B1 := (Box4.new _ _ _ _ _ _).draw.keep hb; have c0 := B1.c0; have c1 := B1.c1; have c2 := B1.c2; have c3 := B1.c3)
      | (go_at_call 90; refine (iUnpack _ hj.1 hj.2 _).mono ?_; rintro e w2 ⟨rfl, hb2⟩; have B2 := B1.keep hb2; have d0 := B2.c0; have d1 := B2.c1; have d2 := B2.c2; have d3 := B2.c3))
    all_goals
      go_wp2
      go_returns
      exact ⟨rfl, ((((Below.refl _ _).alloc (Nat.le_refl _) _).drew).trans (hb.mono (by simp))).trans (hb2.mono (by have := hb.size; simp at this; omega))⟩
end Go.Proofs.YtgmoemjiffglbaaGreat
namespace Go.Proofs.YtgmoemjiffglbaaGreat
open Go.RowKit
set_option linter.unusedVariables false
set_option maxHeartbeats 1000000 in
theorem iPackY (k p i s : Int) (w : World) (h : wOk k p i s = true) :
    Calls Tryz.prog 109 #[.agg #[.int .i64 k, .int .i64 p, .int .i64 i, .int .i64 s]] w fun e w' => e = .returned (.tuple #[.int .u64 (pk k p i s), .bool true]) ∧ Below w.heap.size w w' := by
  have hj : Hid (jn k p i s = pk k p i s) := jn_pk h
  go_enter Tryz.func109, Tryz.ntmps109
  go_wp2_with (first
    | (go_at_call 117; refine (iWordOk _ _ _ _ _).mono ?_; rintro e w1 ⟨rfl, hb⟩; rw [h]; have B1 := (Box4.new _ _ _ _ _ _).keep hb; have c0 := B1.c0; have c1 := B1.c1; have c2 := B1.c2; have c3 := B1.c3)
    | (go_at_call 118; refine (iJoined _ _ _ _ _).mono ?_; rintro e w2 ⟨rfl, hb2⟩; rw [hj.out]))
  go_returns
  have z1 : Below w.heap.size w w1 := (((Below.refl _ _).alloc (Nat.le_refl _) _)).trans (hb.mono (by simp))
  exact ⟨rfl, z1.trans (hb2.mono z1.size)⟩
set_option maxHeartbeats 1000000 in
theorem iPackN (k p i s : Int) (w : World) (h : wOk k p i s = false) :
    Calls Tryz.prog 109 #[.agg #[.int .i64 k, .int .i64 p, .int .i64 i, .int .i64 s]] w fun e w' => e = .returned (.tuple #[.int .u64 0, .bool false]) ∧ Below w.heap.size w w' := by
  go_enter Tryz.func109, Tryz.ntmps109
  go_wp2_with (go_at_call 117; refine (iWordOk _ _ _ _ _).mono ?_; rintro e w1 ⟨rfl, hb⟩; rw [h])
  go_returns
  exact ⟨rfl, (((Below.refl _ _).alloc (Nat.le_refl _) _)).trans (hb.mono (by simp))⟩
end Go.Proofs.YtgmoemjiffglbaaGreat
namespace Go.Proofs.YtgmoemjiffglbaaGreat
open Go.ChangeShapes Go.WideShapes Go.ChangeAt Go.RowKit Go.Joins Go.Deep
set_option linter.unusedVariables false
theorem open_i64s {H : Type} {enc : TypeId × Value → H} {P : Program} {w : World} {base : Nat} {spare : Nat → Bool} {held : Bool} {r : Reach} {b0 : Nat} {t : TypeId} {fs : Array Field} {v : Value} {d : DataW H} {p : List MemPlace}
    (hs : P.underlying t = some (.struct fs)) (hone : oneCellFields P fs = true) (hC : P.cellsOf t = fs.size) (hall : ∀ (i : Nat) (f : Field), fs[i]? = some f → P.underlying f.type = some (.int .i64))
    (hv : Value.okWide P w r b0 t v) (h : DataW.Trod enc P w base spare held t v d p) :
    ∃ zs : List Int, zs.length = fs.size ∧ v = .agg (zs.map (Value.int .i64)).toArray ∧ ∀ z ∈ zs, -9223372036854775808 ≤ z ∧ z ≤ 9223372036854775807 := by
  obtain ⟨cs, rfl, hsz⟩ := okWide_struct hs hv
  obtain ⟨fuel, hf⟩ := h
  obtain ⟨xs, n, -, -, hl, hlen, hf⟩ := DataW.trod_struct hs hf
  have key : ∀ i, i < cs.size → ∃ z : Int, cs[i]? = some (.int .i64 z) ∧ -9223372036854775808 ≤ z ∧ z ≤ 9223372036854775807 := by
    intro i hi
    have hi' : i < fs.size := by omega
    obtain ⟨o, k⟩ := hone_of hone i fs[i] (by simp [hi'])
    have := hf i fs[i] (by simp [hi'])
    rw [o, k, List.getElem?_eq_getElem (by omega)] at this
    obtain ⟨z, hz, -, hw⟩ := DataW.trod_int (hall i fs[i] (by simp [hi'])) this
    refine ⟨z, ?_, bounds_i64 hw⟩
    have e : ((Value.cells (.agg cs)).toList.drop i).take 1 = [.int .i64 z] := hz
    have : (Value.cells (.agg cs)).toList[i]? = some (.int .i64 z) := by
      have := congrArg (·[0]?) e
      simpa [List.getElem?_take, List.getElem?_drop] using this
    simpa [Value.cells] using this
  refine ⟨cs.toList.map intOf, by simp; omega, ?_, ?_⟩
  · congr 1
    apply Array.ext'
    simp only [List.map_map]
    refine (List.ext_getElem? fun i => ?_)
    by_cases hi : i < cs.size
    · obtain ⟨z, hz, -⟩ := key i hi
      simp [hz, intOf]
    · simp [Nat.not_lt.1 hi]
  · intro z hz
    obtain ⟨v, hv, rfl⟩ := List.mem_map.1 hz
    obtain ⟨i, hi, rfl⟩ := List.mem_iff_getElem.1 hv
    obtain ⟨z, hz, b⟩ := key i (by simpa using hi)
    have : cs.toList[i] = .int .i64 z := by
      have h2 : cs.toList[i]? = some (.int .i64 z) := by simpa using hz
      rw [List.getElem?_eq_getElem hi] at h2
      exact Option.some.inj h2
    rw [this]
    exact b
def i64Fields (P : Program) (fs : Array Field) : Bool := (List.range fs.size).all fun i => match fs[i]? with
  | some f => (match P.underlying f.type with | some (.int .i64) => true | _ => false)
  | none => false
theorem i64Fields_of {P : Program} {fs : Array Field} (h : i64Fields P fs = true) (i : Nat) (f : Field) (hi : fs[i]? = some f) : P.underlying f.type = some (.int .i64) := by
  have hlt : i < fs.size := (Array.getElem?_eq_some_iff.1 hi).1
  have := List.all_eq_true.1 h i (List.mem_range.2 hlt)
  simp only [hi] at this
  split at this
  · assumption
  · cases this
theorem agg3 {zs : List Int} {v : Value} (h : zs.length = 3) (hv : v = .agg (zs.map (Value.int .i64)).toArray) : ∃ a0 a1 a2, zs = [a0, a1, a2] ∧ v = .agg #[.int .i64 a0, .int .i64 a1, .int .i64 a2] := by
  match zs, h with
  | [a0, a1, a2], _ => exact ⟨a0, a1, a2, rfl, hv⟩
theorem agg4 {zs : List Int} {v : Value} (h : zs.length = 4) (hv : v = .agg (zs.map (Value.int .i64)).toArray) : ∃ a0 a1 a2 a3, zs = [a0, a1, a2, a3] ∧ v = .agg #[.int .i64 a0, .int .i64 a1, .int .i64 a2, .int .i64 a3] := by
  match zs, h with
  | [a0, a1, a2, a3], _ => exact ⟨a0, a1, a2, a3, rfl, hv⟩
theorem agg5 {zs : List Int} {v : Value} (h : zs.length = 5) (hv : v = .agg (zs.map (Value.int .i64)).toArray) : ∃ a0 a1 a2 a3 a4, zs = [a0, a1, a2, a3, a4] ∧ v = .agg #[.int .i64 a0, .int .i64 a1, .int .i64 a2, .int .i64 a3, .int .i64 a4] := by
  match zs, h with
  | [a0, a1, a2, a3, a4], _ => exact ⟨a0, a1, a2, a3, a4, rfl, hv⟩
theorem agg6 {zs : List Int} {v : Value} (h : zs.length = 6) (hv : v = .agg (zs.map (Value.int .i64)).toArray) : ∃ a0 a1 a2 a3 a4 a5, zs = [a0, a1, a2, a3, a4, a5] ∧ v = .agg #[.int .i64 a0, .int .i64 a1, .int .i64 a2, .int .i64 a3, .int .i64 a4, .int .i64 a5] := by
  match zs, h with
  | [a0, a1, a2, a3, a4, a5], _ => exact ⟨a0, a1, a2, a3, a4, a5, rfl, hv⟩
theorem agg7 {zs : List Int} {v : Value} (h : zs.length = 7) (hv : v = .agg (zs.map (Value.int .i64)).toArray) : ∃ a0 a1 a2 a3 a4 a5 a6, zs = [a0, a1, a2, a3, a4, a5, a6] ∧ v = .agg #[.int .i64 a0, .int .i64 a1, .int .i64 a2, .int .i64 a3, .int .i64 a4, .int .i64 a5, .int .i64 a6] := by
  match zs, h with
  | [a0, a1, a2, a3, a4, a5, a6], _ => exact ⟨a0, a1, a2, a3, a4, a5, a6, rfl, hv⟩
theorem agg8 {zs : List Int} {v : Value} (h : zs.length = 8) (hv : v = .agg (zs.map (Value.int .i64)).toArray) : ∃ a0 a1 a2 a3 a4 a5 a6 a7, zs = [a0, a1, a2, a3, a4, a5, a6, a7] ∧ v = .agg #[.int .i64 a0, .int .i64 a1, .int .i64 a2, .int .i64 a3, .int .i64 a4, .int .i64 a5, .int .i64 a6, .int .i64 a7] := by
  match zs, h with
  | [a0, a1, a2, a3, a4, a5, a6, a7], _ => exact ⟨a0, a1, a2, a3, a4, a5, a6, a7, rfl, hv⟩
end Go.Proofs.YtgmoemjiffglbaaGreat
