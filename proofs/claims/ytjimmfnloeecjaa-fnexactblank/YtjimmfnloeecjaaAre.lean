/-
  Arenas: what the specification's functions of the arenas' chapter do with a list of words.
-/
import Derived.Test.YtjimmfnloeecjaaWds2
import Derived.Test.YtjimmfnloeecjaaPlan
import Derived.OwnWalk
namespace Go.Proofs.Ytjimmfnloeecjaa
open Go.RowKit
set_option linter.unusedVariables false
/-- Is that a place of a list of n words? -/
def thr (at_ : Int) (n : Nat) : Bool := decide (0 ≤ at_ ∧ at_ < (n : Int))
theorem thr_inB (a : Int) (n : Nat) : inB a 0 ((n : Int) - 1) = thr a n := by
  unfold inB thr
  rw [decide_eq_decide]
  omega
theorem thr_true {a : Int} {n : Nat} (h : thr a n = true) : ∃ i : Nat, i < n ∧ a = (i : Int) := by
  have := of_decide_eq_true h
  exact ⟨a.toNat, by omega, by omega⟩
theorem thr_nat {i n : Nat} (h : i < n) : thr (i : Int) n = true := decide_eq_true (by omega)
/-- What a write of x at a place leaves. -/
def wrote (xs : List Int) (a x : Int) : List Int := if thr a xs.length then xs.set a.toNat x else xs
/-- What a swap from y to x at a place leaves, and whether it is done. -/
def swaps (xs : List Int) (a y : Int) : Bool := thr a xs.length && xs.getD a.toNat 0 == y
def swapped (xs : List Int) (a y x : Int) : List Int := if swaps xs a y then xs.set a.toNat x else xs
set_option maxHeartbeats 400000 in
theorem sThere (a : Option Addr) (n c : Nat) (at_ : Int) (w : World) (hn : n ≤ 9223372036854775807) :
    Calls Try.prog 35 #[.slice a n c, .int .i64 at_] w fun e w' => e = .returned (.bool (thr at_ n)) ∧ w' = w := by
  go_enter Try.func35, Try.ntmps35
  go_wp2_with (go_at_call 42; refine (sIn _ _ _ _).mono ?_; rintro e w1 ⟨rfl, rfl⟩; rw [thr_inB])
  go_ret
  exact ⟨rfl, rfl⟩
theorem wlit (w : World) (B : Nat) (hb : B ≤ w.heap.size) : (w.alloc (.cells #[] 34)).ownsRow B 34 1 (.slice (some ⟨w.heap.size, 0, none⟩) 0 0) 0 [] :=
  ⟨by simp, .inr ⟨w.heap.size, 0, #[], rfl, hb, by show (w.heap.push _)[w.heap.size]? = _; simp, Nat.le_refl _, Nat.zero_le _, by simp, by simp⟩⟩
theorem Ws.news {w : World} {g n c : Nat} {xs : List Int} (h : Ws w g n c xs) : ∀ (j : Nat) (u : Value), (xs.map (Value.int .u64))[j]? = some u → w.cell? ((⟨g, 0, none⟩ : Addr).add j) = some u := by
  intro j u hj
  have hj' : j < n := by
    have := (List.getElem?_eq_some_iff.1 hj).1
    simpa [h.len] using this
  have hc := h.cell j hj'
  have e : ((⟨g, 0, none⟩ : Addr).add j) = ⟨g, j, none⟩ := by cases j <;> simp [Addr.add]
  rw [e, hc, ← hj]
  simp [h.len, hj']
theorem u64_one (xs : List Int) : ∀ u ∈ xs.map (Value.int .u64), u.oneCell' = true := by
  intro u hu
  obtain ⟨x, -, rfl⟩ := List.mem_map.1 hu
  rfl
theorem Ws.of_own {w : World} {B n : Nat} {v : Value} {xs : List Int} (hl : xs.length = n) (ho : w.ownsRow B 34 1 v n (xs.map (Value.int .u64))) (hv : v ≠ .slice none 0 0) (hb : ∀ x ∈ xs, 0 ≤ x ∧ x ≤ 18446744073709551615) :
    ∃ g c, v = .slice (some ⟨g, 0, none⟩) n c ∧ B ≤ g ∧ Ws w g n c xs := by
  rcases ho.2 with ⟨h, _⟩ | ⟨g, c, cur, rfl, h1, h2⟩
  · exact absurd h hv
  · exact ⟨g, c, rfl, h1, hl, ⟨ho.1, .inr ⟨g, c, cur, rfl, Nat.zero_le _, h2⟩⟩, hb⟩
set_option maxHeartbeats 1000000 in
theorem sCopy (g n c : Nat) (xs : List Int) (w : World) (h : Ws w g n c xs) (hn : n ≤ 16777216) :
    Calls Try.prog 37 #[.slice (some ⟨g, 0, none⟩) n c] w fun e w' => ∃ g' c', e = .returned (.slice (some ⟨g', 0, none⟩) n c') ∧ w.heap.size ≤ g' ∧ Ws w' g' n c' xs ∧ Below w.heap.size w w' := by
  obtain ⟨i0, hi, hz0, hz1, hz2⟩ := info_parts infoU
  have h1 := h.alloc (.cells #[] 34)
  have hb1 : Below w.heap.size w (w.alloc (.cells #[] 34)) := (Below.refl _ _).alloc (Nat.le_refl _) _
  go_enter Try.func37, Try.ntmps37
  go_wp2_with (at_builtin; refine wpList_append_own _ rfl (.tmp 3) (.tmp 4) 24 rfl w.heap.size 34 i0 (.int .u64 0) 1 8 Try.underlying24 hi hz0 hz1 hz2 rfl (by decide) _ 0 [] rfl (wlit w _ (Nat.le_refl _)) ⟨g, 0, none⟩ n c (xs.map (Value.int .u64)) rfl (by simp [h.len]) h1.news (u64_one xs) (by unfold maxLen; omega) (by omega) (by simp) ?_; intro v' w3 ho' hg' hn')
  have hn2 : v' = .slice none 0 0 ↔ (Value.slice (some ⟨w.heap.size, 0, none⟩) 0 0) = .slice none 0 0 ∧ n = 0 := hn'
  have hg2 : (w.alloc (.cells #[] 34)).grownBy w3 (some w.heap.size) := hg'
  have hv : v' ≠ .slice none 0 0 := fun e => by have := (hn2.1 e).1; simp at this
  have ho2 : w3.ownsRow w.heap.size 34 1 v' n (xs.map (Value.int .u64)) := by simpa using ho'
  have hb3 := hb1.grown hg2 (by simp) (by intro k hk; simp at hk; omega)
  obtain ⟨g', c', rfl, hge, hW⟩ := Ws.of_own h.len ho2 hv h.bd
  go_ret
  exact ⟨g', c', rfl, hge, hW, hb3⟩
theorem wrote_y {xs : List Int} {i n : Nat} {x : Int} (hl : xs.length = n) (h : i < n) : wrote xs (i : Int) x = xs.set i x := by
  unfold wrote
  rw [hl, thr_nat h]
  simp
theorem wrote_n {xs : List Int} {n : Nat} {a x : Int} (hl : xs.length = n) (h : thr a n = false) : wrote xs a x = xs := by
  unfold wrote
  rw [hl, h]
  simp
set_option maxHeartbeats 1000000 in
theorem sWrite (g n c : Nat) (xs : List Int) (at_ x : Int) (w : World) (h : Ws w g n c xs) (hn : n ≤ 16777216) (x0 : 0 ≤ x) (x1 : x ≤ 18446744073709551615) :
    Calls Try.prog 19 #[.slice (some ⟨g, 0, none⟩) n c, .int .i64 at_, .int .u64 x] w fun e w' => ∃ g' c', e = .returned (.tuple #[.slice (some ⟨g', 0, none⟩) n c', .bool (thr at_ n)]) ∧ w.heap.size ≤ g' ∧ Ws w' g' n c' (wrote xs at_ x) ∧ Below w.heap.size w w' := by
  cases ht : thr at_ n
  · go_enter Try.func19, Try.ntmps19
    go_wp2_with (first
      | (go_at_call 37; refine (sCopy _ _ _ xs _ h hn).mono ?_; rintro e w1 ⟨g', c', rfl, hge, hW, hb⟩)
      | (go_at_call 35; refine (sThere _ _ _ _ _ (by omega)).mono ?_; rintro e w2 ⟨rfl, rfl⟩; rw [ht]))
    go_returns
    exact ⟨g', c', rfl, hge, by rw [wrote_n h.len ht]; exact hW, hb⟩
  · obtain ⟨i, hi, rfl⟩ := thr_true ht
    go_enter Try.func19, Try.ntmps19
    go_wp2_with (first
      | (go_at_call 37; refine (sCopy _ _ _ xs _ h hn).mono ?_; rintro e w1 ⟨g', c', rfl, hge, hW, hb⟩; have c1 := hW.cell i hi; have f1 := hW.frozen i)
      | (go_at_call 35; refine (sThere _ _ _ _ _ (by omega)).mono ?_; rintro e w2 ⟨rfl, rfl⟩; rw [ht]))
    go_returns
    exact ⟨g', c', rfl, hge, by rw [wrote_y h.len hi]; exact hW.set i x ⟨x0, x1⟩, hb.setCell (p := ⟨g', i, none⟩) hge _⟩
theorem swap_y {xs : List Int} {i n : Nat} {y x : Int} (hl : xs.length = n) (h : i < n) (hy : xs.getD i 0 = y) : swaps xs (i : Int) y = true ∧ swapped xs (i : Int) y x = xs.set i x := by
  have e : swaps xs (i : Int) y = true := by
    unfold swaps
    rw [hl, thr_nat h]
    simp only [Int.toNat_natCast, hy]
    simp
  refine ⟨e, ?_⟩
  unfold swapped
  rw [e]
  simp
theorem swap_n {xs : List Int} {n : Nat} {a y x : Int} (hl : xs.length = n) (h : thr a n = false ∨ xs.getD a.toNat 0 ≠ y) : swaps xs a y = false ∧ swapped xs a y x = xs := by
  have e : swaps xs a y = false := by
    unfold swaps
    rw [hl]
    rcases h with h | h
    · rw [h]; rfl
    · rw [beq_eq_false_iff_ne.2 h, Bool.and_false]
  refine ⟨e, ?_⟩
  unfold swapped
  rw [e]
  simp
theorem toP2 {v v' : Value} {a b : Bool} (hv : v = v') (h : a = b) : Ending.returned (.tuple #[v, .bool a]) = .returned (.tuple #[v', .bool b]) := by rw [h, hv]
set_option maxHeartbeats 1000000 in
theorem sSwap (g n c : Nat) (xs : List Int) (at_ y x : Int) (w : World) (h : Ws w g n c xs) (hn : n ≤ 16777216) (x0 : 0 ≤ x) (x1 : x ≤ 18446744073709551615) :
    Calls Try.prog 21 #[.slice (some ⟨g, 0, none⟩) n c, .int .i64 at_, .int .u64 y, .int .u64 x] w fun e w' => ∃ g' c', e = .returned (.tuple #[.slice (some ⟨g', 0, none⟩) n c', .bool (swaps xs at_ y)]) ∧ w.heap.size ≤ g' ∧ Ws w' g' n c' (swapped xs at_ y x) ∧ Below w.heap.size w w' := by
  cases ht : thr at_ n
  · go_enter Try.func21, Try.ntmps21
    go_wp2_with (first
      | (go_at_call 37; refine (sCopy _ _ _ xs _ h hn).mono ?_; rintro e w1 ⟨g', c', rfl, hge, hW, hb⟩)
      | (go_at_call 35; refine (sThere _ _ _ _ _ (by omega)).mono ?_; rintro e w2 ⟨rfl, rfl⟩; rw [ht]))
    go_returns
    obtain ⟨e1, e2⟩ := swap_n (x := x) (y := y) h.len (.inl ht)
    exact ⟨g', c', toP2 rfl e1.symm, hge, by rw [e2]; exact hW, hb⟩
  · obtain ⟨i, hi, rfl⟩ := thr_true ht
    obtain ⟨z, hz⟩ : ∃ z : Int, Hid (xs.getD i 0 = z) := ⟨_, rfl⟩
    by_cases hzy : z = y
    · subst hzy
      go_enter Try.func21, Try.ntmps21
      go_wp2_with (first
        | (go_at_call 37; refine (sCopy _ _ _ xs _ h hn).mono ?_; rintro e w1 ⟨g', c', rfl, hge, hW, hb⟩; have c1 := hW.cell i hi; have f1 := hW.frozen i; have c2 := (h.keep hb).cell i hi; rw [hz.out] at c1 c2)
        | (go_at_call 35; refine (sThere _ _ _ _ _ (by omega)).mono ?_; rintro e w2 ⟨rfl, rfl⟩; rw [ht]))
      go_returns
      obtain ⟨e1, e2⟩ := swap_y (x := x) h.len hi hz.out
      exact ⟨g', c', toP2 rfl e1.symm, hge, by rw [e2]; exact hW.set i x ⟨x0, x1⟩, hb.setCell (p := ⟨g', i, none⟩) hge _⟩
    · go_enter Try.func21, Try.ntmps21
      go_wp2_with (first
        | (go_at_call 37; refine (sCopy _ _ _ xs _ h hn).mono ?_; rintro e w1 ⟨g', c', rfl, hge, hW, hb⟩; have c2 := (h.keep hb).cell i hi; rw [hz.out] at c2)
        | (go_at_call 35; refine (sThere _ _ _ _ _ (by omega)).mono ?_; rintro e w2 ⟨rfl, rfl⟩; rw [ht]))
      go_returns
      obtain ⟨e1, e2⟩ := swap_n (a := (i : Int)) (x := x) (y := y) h.len (.inr (by rw [Int.toNat_natCast, hz.out]; exact hzy))
      exact ⟨g', c', toP2 rfl e1.symm, hge, by rw [e2]; exact hW, hb⟩
/-- What is read at a place. -/
def red (xs : List Int) (a : Int) : Int := if thr a xs.length then xs.getD a.toNat 0 else 0
set_option maxHeartbeats 1000000 in
theorem sRead (g n c : Nat) (xs : List Int) (at_ : Int) (w : World) (h : Ws w g n c xs) (hn : n ≤ 16777216) :
    Calls Try.prog 17 #[.slice (some ⟨g, 0, none⟩) n c, .int .i64 at_] w fun e w' => e = .returned (.tuple #[.int .u64 (red xs at_), .bool (thr at_ n)]) ∧ w' = w := by
  have hl := h.len
  cases ht : thr at_ n
  · have er : red xs at_ = 0 := by unfold red; rw [hl, ht]; rfl
    rw [er]
    go_enter Try.func17, Try.ntmps17
    go_wp2_with (go_at_call 35; refine (sThere _ _ _ _ _ (by omega)).mono ?_; rintro e w2 ⟨rfl, rfl⟩; rw [ht])
    go_returns
    exact ⟨rfl, rfl⟩
  · obtain ⟨i, hi, rfl⟩ := thr_true ht
    have er : red xs (i : Int) = xs.getD i 0 := by unfold red; rw [hl, ht]; simp
    rw [er]
    have c2 := h.cell i hi
    obtain ⟨z, hz⟩ : ∃ z : Int, Hid (xs.getD i 0 = z) := ⟨_, rfl⟩
    rw [hz.out] at c2 ⊢
    go_enter Try.func17, Try.ntmps17
    go_wp2_with (go_at_call 35; refine (sThere _ _ _ _ _ (by omega)).mono ?_; rintro e w2 ⟨rfl, rfl⟩; rw [ht])
    go_returns
    exact ⟨rfl, rfl⟩
set_option maxHeartbeats 1000000 in
theorem iRead (g n c : Nat) (xs : List Int) (at_ : Int) (w : World) (h : Ws w g n c xs) (hn : n ≤ 16777216) :
    Calls Try.prog 18 #[.slice (some ⟨g, 0, none⟩) n c, .int .i64 at_] w fun e w' => e = .returned (.tuple #[.int .u64 (red xs at_), .bool (thr at_ n)]) ∧ w' = w := by
  have hl := h.len
  cases ht : thr at_ n
  · have er : red xs at_ = 0 := by unfold red; rw [hl, ht]; rfl
    rw [er]
    go_enter Try.func18, Try.ntmps18
    go_wp2_with (go_at_call 36; refine (iWithin _ _ _ _).mono ?_; rintro e w2 ⟨rfl, rfl⟩; rw [thr_inB, ht])
    go_returns
    exact ⟨rfl, rfl⟩
  · obtain ⟨i, hi, rfl⟩ := thr_true ht
    have er : red xs (i : Int) = xs.getD i 0 := by unfold red; rw [hl, ht]; simp
    rw [er]
    have c2 := h.cell i hi
    obtain ⟨z, hz⟩ : ∃ z : Int, Hid (xs.getD i 0 = z) := ⟨_, rfl⟩
    rw [hz.out] at c2 ⊢
    go_enter Try.func18, Try.ntmps18
    go_wp2_with (go_at_call 36; refine (iWithin _ _ _ _).mono ?_; rintro e w2 ⟨rfl, rfl⟩; rw [thr_inB, ht])
    go_returns
    exact ⟨rfl, rfl⟩
end Go.Proofs.Ytjimmfnloeecjaa
