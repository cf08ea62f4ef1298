/-
  Plain arithmetic of packed words: masks are remainders, a disjoint 'or' is a sum, and a word of four fields within their widths is what its packed number is taken apart into.
-/
import Derived.Handy
import Derived.Laws.BitsLemmas
namespace Go.Proofs.Ytdebjfgflldpjaa
open Go.RowKit

theorem band8 (x : Int) : bits .and .u64 x 255 = x % 256 := by
  show IntKind.u64.wrap (((BitVec.ofInt 64 x &&& BitVec.ofInt 64 255).toNat : Nat) : Int) = _
  rw [BitVec.toNat_and, BitVec.toNat_ofInt, BitVec.toNat_ofInt, show ((255 : Int) % (2 ^ 64 : Nat)).toNat = 2 ^ 8 - 1 from by decide, Nat.and_two_pow_sub_one_eq_mod, IntKind.wrap_u64]
  omega
theorem band16 (x : Int) : bits .and .u64 x 65535 = x % 65536 := by
  show IntKind.u64.wrap (((BitVec.ofInt 64 x &&& BitVec.ofInt 64 65535).toNat : Nat) : Int) = _
  rw [BitVec.toNat_and, BitVec.toNat_ofInt, BitVec.toNat_ofInt, show ((65535 : Int) % (2 ^ 64 : Nat)).toNat = 2 ^ 16 - 1 from by decide, Nat.and_two_pow_sub_one_eq_mod, IntKind.wrap_u64]
  omega
theorem band32 (x : Int) : bits .and .u64 x 4294967295 = x % 4294967296 := by
  show IntKind.u64.wrap (((BitVec.ofInt 64 x &&& BitVec.ofInt 64 4294967295).toNat : Nat) : Int) = _
  rw [BitVec.toNat_and, BitVec.toNat_ofInt, BitVec.toNat_ofInt, show ((4294967295 : Int) % (2 ^ 64 : Nat)).toNat = 2 ^ 32 - 1 from by decide, Nat.and_two_pow_sub_one_eq_mod, IntKind.wrap_u64]
  omega

theorem bor_add (n : Nat) (c b : Nat) (hb : b < 2 ^ n) (hs : c * 2 ^ n + b < 18446744073709551616) :
    bits .or .u64 ((c : Int) * ((2 ^ n : Nat) : Int)) (b : Int) = (c : Int) * ((2 ^ n : Nat) : Int) + b := by
  have e1 : ((c : Int) * ((2 ^ n : Nat) : Int)) = ((c * 2 ^ n : Nat) : Int) := by simp
  rw [e1]
  generalize hg : c * 2 ^ n = g at *
  show IntKind.u64.wrap (((BitVec.ofInt 64 (g : Int) ||| BitVec.ofInt 64 (b : Int)).toNat : Nat) : Int) = _
  rw [BitVec.toNat_or, BitVec.toNat_ofInt, BitVec.toNat_ofInt]
  have hc : (((g : Nat) : Int) % (2 ^ 64 : Nat)).toNat = g := by omega
  have hb' : ((b : Int) % (2 ^ 64 : Nat)).toNat = b := by omega
  rw [hc, hb', ← hg, ← Nat.shiftLeft_eq, ← Nat.shiftLeft_add_eq_or_of_lt hb, Nat.shiftLeft_eq, hg, IntKind.wrap_u64]
  omega

theorem bor_at (n : Nat) (m a b c : Int) (hm : m = ((2 ^ n : Nat) : Int)) (ha : a = c * m) (hc : 0 ≤ c) (hb : 0 ≤ b) (hbm : b < m) (hs : c * m + b < 18446744073709551616) :
    bits .or .u64 a b = a + b := by
  subst hm ha
  obtain ⟨c', rfl⟩ := Int.eq_ofNat_of_zero_le hc
  obtain ⟨b', rfl⟩ := Int.eq_ofNat_of_zero_le hb
  refine bor_add n c' b' (by omega) ?_
  have : ((c' * 2 ^ n + b' : Nat) : Int) < 18446744073709551616 := by simpa using hs
  omega

/-- The word's number. -/
def pk (k p i s : Int) : Int := ((k * 256 + p) * 65536 + i) * 4294967296 + s
/-- The fields are within their widths. -/
def wOk (k p i s : Int) : Bool := decide (0 ≤ k ∧ k ≤ 255 ∧ 0 ≤ p ∧ p ≤ 255 ∧ 0 ≤ i ∧ i ≤ 65535 ∧ 0 ≤ s ∧ s ≤ 4294967295)
theorem wOk_iff {k p i s : Int} : wOk k p i s = true ↔ (0 ≤ k ∧ k ≤ 255 ∧ 0 ≤ p ∧ p ≤ 255 ∧ 0 ≤ i ∧ i ≤ 65535 ∧ 0 ≤ s ∧ s ≤ 4294967295) := by unfold wOk; simp
/-- What is made of whatever fields, masked. -/
def jn (k p i s : Int) : Int := pk (k % 256) (p % 256) (i % 65536) (s % 4294967296)
theorem jn_bd (k p i s : Int) : 0 ≤ jn k p i s ∧ jn k p i s ≤ 18446744073709551615 := by unfold jn pk; omega
theorem pk_bd {k p i s : Int} (h : wOk k p i s = true) : 0 ≤ pk k p i s ∧ pk k p i s ≤ 18446744073709551615 := by rw [wOk_iff] at h; unfold pk; omega
theorem jn_pk {k p i s : Int} (h : wOk k p i s = true) : jn k p i s = pk k p i s := by rw [wOk_iff] at h; unfold jn pk; omega
def uK (x : Int) : Int := x / 72057594037927936
def uP (x : Int) : Int := x / 281474976710656 % 256
def uI (x : Int) : Int := x / 4294967296 % 65536
def uS (x : Int) : Int := x % 4294967296
theorem unpk (k p i s : Int) : uK (jn k p i s) = k % 256 ∧ uP (jn k p i s) = p % 256 ∧ uI (jn k p i s) = i % 65536 ∧ uS (jn k p i s) = s % 4294967296 := by unfold uK uP uI uS jn pk; omega
theorem u_ok {x : Int} (h0 : 0 ≤ x) (h1 : x ≤ 18446744073709551615) : wOk (uK x) (uP x) (uI x) (uS x) = true := by rw [wOk_iff]; unfold uK uP uI uS; omega
theorem pk_u {x : Int} : pk (uK x) (uP x) (uI x) (uS x) = x := by unfold pk uK uP uI uS; omega
theorem ok_mod (k p i s : Int) : (decide (k % 256 = k) && decide (p % 256 = p) && decide (i % 65536 = i) && decide (s % 4294967296 = s)) = wOk k p i s := by
  unfold wOk; rw [Bool.eq_iff_iff]; simp; omega

theorem join_eq (k p i s : Int) :
    bits BinOp.or IntKind.u64
      (bits BinOp.or IntKind.u64
        (bits BinOp.or IntKind.u64
          (IntKind.u64.wrap (bits BinOp.and IntKind.u64 (IntKind.u64.wrap k) 255 * 72057594037927936))
          (IntKind.u64.wrap (bits BinOp.and IntKind.u64 (IntKind.u64.wrap p) 255 * 281474976710656)))
        (IntKind.u64.wrap (bits BinOp.and IntKind.u64 (IntKind.u64.wrap i) 65535 * 4294967296)))
      (bits BinOp.and IntKind.u64 (IntKind.u64.wrap s) 4294967295) = jn k p i s := by
  rw [band8, band8, band16, band32]
  have ek : IntKind.u64.wrap (IntKind.u64.wrap k % 256 * 72057594037927936) = (k % 256) * 72057594037927936 := by simp only [IntKind.wrap_u64]; omega
  have ep : IntKind.u64.wrap (IntKind.u64.wrap p % 256 * 281474976710656) = (p % 256) * 281474976710656 := by simp only [IntKind.wrap_u64]; omega
  have ei : IntKind.u64.wrap (IntKind.u64.wrap i % 65536 * 4294967296) = (i % 65536) * 4294967296 := by simp only [IntKind.wrap_u64]; omega
  have es : IntKind.u64.wrap s % 4294967296 = s % 4294967296 := by simp only [IntKind.wrap_u64]; omega
  rw [ek, ep, ei, es]
  unfold jn pk
  generalize hk : k % 256 = k'
  generalize hp : p % 256 = p'
  generalize hi : i % 65536 = i'
  generalize hs : s % 4294967296 = s'
  rw [bor_at 56 72057594037927936 (k' * 72057594037927936) (p' * 281474976710656) k' (by decide) rfl (by omega) (by omega) (by omega) (by omega)]
  rw [bor_at 48 281474976710656 (k' * 72057594037927936 + p' * 281474976710656) (i' * 4294967296) (k' * 256 + p') (by decide) (by omega) (by omega) (by omega) (by omega) (by omega)]
  rw [bor_at 32 4294967296 (k' * 72057594037927936 + p' * 281474976710656 + i' * 4294967296) s' ((k' * 256 + p') * 65536 + i') (by decide) (by omega) (by omega) (by omega) (by omega) (by omega)]
  omega

theorem ret_int {k : IntKind} {a b : Int} (h : a = b) : Ending.returned (.int k a) = .returned (.int k b) := by rw [h]
theorem ret_word {a b c d a' b' c' d' : Int} (h1 : a = a') (h2 : b = b') (h3 : c = c') (h4 : d = d') :
    Ending.returned (.agg #[.int .i64 a, .int .i64 b, .int .i64 c, .int .i64 d]) = .returned (.agg #[.int .i64 a', .int .i64 b', .int .i64 c', .int .i64 d']) := by rw [h1, h2, h3, h4]
end Go.Proofs.Ytdebjfgflldpjaa
