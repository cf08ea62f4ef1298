/-
  Walks of the blank arena.
-/
import Derived.Test.YtmldeigbaafclaaWk6
import Derived.Test.YtmldeigbaafclaaBlk2
namespace Go.Proofs.Ytmldeigbaafclaa
open Go.RowKit
set_option linter.unusedVariables false
set_option linter.unusedSimpArgs false
/-- n numbers from a on. -/
def rng (a : Int) (n : Nat) : List Int := (List.range n).map (fun i : Nat => a + (i : Int))
theorem rng_len (a : Int) (n : Nat) : (rng a n).length = n := by simp [rng]
theorem rng_cons (a : Int) (n : Nat) : rng a (n + 1) = a :: rng (a + 1) n := by
  unfold rng
  rw [List.range_succ_eq_map]
  simp only [List.map_cons, List.map_map, Int.natCast_zero, Int.add_zero]
  congr 1
  apply List.map_congr_left
  intro i _
  simp only [Function.comp]
  omega
theorem rng_getD (a : Int) (n i : Nat) (h : i < n) : (rng a n).getD i 0 = a + (i : Int) := by simp [rng, h]
theorem rng_app (a b : Int) (n m : Nat) (h : b = a + (n : Int)) : rng a n ++ rng b m = rng a (n + m) := by
  subst h
  apply List.ext_getElem?
  intro i
  unfold rng
  by_cases h1 : i < n
  · rw [List.getElem?_append_left (by simp; exact h1)]
    simp [h1, show i < n + m from by omega]
  · rw [List.getElem?_append_right (by simp; omega)]
    by_cases h2 : i < n + m
    · simp [h2, show i - n < m from by omega]
      omega
    · simp [h2, show ¬ i - n < m from by omega]
/-- A walk along numbers that rise by one. -/
theorem chain (nx : Int → Int) (N : Int) : ∀ (m : Nat) (b : Int) (pre : List Int) (f : Nat), m < f → 1 ≤ b → b + (m : Int) - 1 ≤ N → (∀ x ∈ pre, x < b) → (∀ i : Nat, i + 1 < m → nx (b + (i : Int)) = b + (i : Int) + 1) → (0 < m → nx (b + (m : Int) - 1) = 0) →
    wk nx N f pre (if m = 0 then 0 else b) = some (pre ++ rng b m)
  | 0, b, pre, f, hf, _, _, _, _, _ => by
    obtain ⟨f', rfl⟩ : ∃ f', f = f' + 1 := ⟨f - 1, by omega⟩
    rw [if_pos rfl, wk_0]
    simp [rng]
  | m + 1, b, pre, f, hf, b0, b1, hp, hs, hl => by
    obtain ⟨f', rfl⟩ : ∃ f', f = f' + 1 := ⟨f - 1, by omega⟩
    have hb : b ∉ pre := fun h => by have := hp b h; omega
    rw [if_neg (by omega), wk_y (by omega) ⟨b0, by omega, hb⟩]
    have hn : nx b = if m = 0 then 0 else b + 1 := by
      by_cases h0 : m = 0
      · subst h0
        rw [if_pos rfl]
        have := hl (by omega)
        rwa [show b + ((0 + 1 : Nat) : Int) - 1 = b from by omega] at this
      · rw [if_neg h0]
        have := hs 0 (by omega)
        simpa using this
    rw [hn, chain nx N m (b + 1) (pre ++ [b]) f' (by omega) (by omega) (by omega) (fun x hx => by
      rcases List.mem_append.1 hx with h1 | h1
      · have := hp x h1; omega
      · simp at h1; omega) (fun i hi => by
      have := hs (i + 1) (by omega)
      rw [show b + ((i + 1 : Nat) : Int) = b + 1 + (i : Int) from by omega] at this
      exact this) (fun h0 => by
      have := hl (by omega)
      rwa [show b + ((m + 1 : Nat) : Int) - 1 = b + 1 + (m : Int) - 1 from by omega] at this)]
    rw [rng_cons]
    simp
theorem hung_miss (lk : Int → Int) (root first : Int) (xs : List Int) (t : Nat) : ∀ J : Nat, (∀ j : Nat, j < J → (hpl lk root first j).toNat ≠ t) → (hung lk root first xs J).getD t 0 = xs.getD t 0
  | 0, _ => rfl
  | J + 1, h => by
    show ((hung lk root first xs J).set (hpl lk root first J).toNat _).getD t 0 = _
    have := hung_miss lk root first xs t J (fun j hj => h j (by omega))
    have h1 := h J (by omega)
    rw [← this]
    simp [List.getElem?_set, h1]
theorem hung_hit (lk : Int → Int) (root first : Int) (xs : List Int) (j : Nat) : ∀ J : Nat, j < J → (hpl lk root first j).toNat < xs.length → (∀ i : Nat, j < i → i < J → (hpl lk root first i).toNat ≠ (hpl lk root first j).toNat) →
    (hung lk root first xs J).getD (hpl lk root first j).toNat 0 = pk 0 0 (first + (j : Int)) 0
  | 0, h, _, _ => by omega
  | J + 1, h, hl, hi => by
    show ((hung lk root first xs J).set (hpl lk root first J).toNat _).getD _ 0 = _
    by_cases hj : j = J
    · subst hj
      simp [List.getElem?_set, hung_len, hl]
    · have h1 := hi J (by omega) (by omega)
      have := hung_hit lk root first xs j J (by omega) hl (fun i h2 h3 => hi i h2 (by omega))
      rw [← this]
      simp [List.getElem?_set, h1]
theorem uI_pk {b : Int} (h0 : 0 ≤ b) (h1 : b ≤ 65535) : uI (pk 0 0 b 0) = b := by unfold uI pk; omega
/-- Where block b's link lies. -/
theorem vB1 {p s l c k b : Int} (ho : ok p s l c k = true) (b0 : 1 ≤ b) (b1 : b ≤ s + l) : vBlock p s l c k b 1 = sF p c + (if b ≤ s then (b - 1) * 3 else 3 * s + (b - s - 1) * 5) + 1 := by
  unfold vBlock
  rw [if_pos ⟨ho, ⟨b0, b1⟩, by omega⟩]
  split
  · rw [if_pos (by omega)]
  · rw [if_pos (by omega)]; unfold lF sF; omega
theorem vR {p s l c k r : Int} (ho : ok p s l c k = true) (r0 : 0 ≤ r) (r1 : r ≤ 4 + c) : vRoot p s l c k r = rF p + r := by
  unfold vRoot; rw [if_pos ⟨ho, r0, r1⟩]
theorem blank0_len {p s l c k : Int} : (blank0 p s l c k).length = (zF p s l c).toNat := by simp [blank0]
theorem blank2_len {p s l c k : Int} : (blank2 p s l c k).length = (zF p s l c).toNat := by unfold blank2 blank1; rw [hung_len, hung_len, blank0_len]
theorem blank_aOk {p s l c k : Int} (ho : ok p s l c k = true) : aOk p s l c k (blank2 p s l c k).length = true := by
  have h' := ok_iff.1 ho
  have hq := sq_bd h'.1 h'.2.1
  rw [blank2_len]
  refine decide_eq_true ?_
  unfold vSize
  rw [if_pos ho]
  unfold zF
  omega
/-- The place of the j-th link of a hanging, as a number. -/
theorem hpl_at {p s l c k root first : Int} {j : Nat} (ho : ok p s l c k = true) (r0 : root = 0 ∨ root = 1) (f0 : 1 ≤ first) (hj : first + (j : Int) - 1 ≤ s + l) :
    ((hpl (fun b => vBlock p s l c k b 1) (vRoot p s l c k root) first j).toNat : Int) = if j = 0 then rF p + root else sF p c + (if first + (j : Int) - 1 ≤ s then (first + (j : Int) - 2) * 3 else 3 * s + (first + (j : Int) - 1 - s - 1) * 5) + 1 := by
  have h' := ok_iff.1 ho
  have hq := sq_bd h'.1 h'.2.1
  unfold hpl
  by_cases h0 : j = 0
  · rw [if_pos h0, if_pos h0, vR ho (by omega) (by omega)]
    unfold rF
    omega
  · rw [if_neg h0, if_neg h0]
    show ((vBlock p s l c k (first + (j : Int) - 1) 1).toNat : Int) = _
    rw [vB1 ho (by omega) hj]
    unfold sF
    split <;> omega
theorem blank0_at {p s l c k : Int} {t : Nat} (ho : ok p s l c k = true) (ht : (t : Int) < zF p s l c) :
    (blank0 p s l c k).getD t 0 = if (t : Int) = rF p + 4 ∨ (t : Int) = rF p + 3 then pk 0 0 1 0 else if (t : Int) = sF p c then pk 2 0 0 0 else 0 := by
  have h' := ok_iff.1 ho
  have hq := sq_bd h'.1 h'.2.1
  have e1 : ((vBlock p s l c k 1 0).toNat : Int) = sF p c := by
    unfold vBlock
    rw [if_pos ⟨ho, ⟨by omega, by omega⟩, by omega⟩, if_pos (by omega), if_pos (by omega)]
    unfold sF
    omega
  have e3 : ((vRoot p s l c k 3).toNat : Int) = rF p + 3 := by rw [vR ho (by omega) (by omega)]; unfold rF; omega
  have e4 : ((vRoot p s l c k 4).toNat : Int) = rF p + 4 := by rw [vR ho (by omega) (by omega)]; unfold rF; omega
  unfold blank0
  generalize (vBlock p s l c k 1 0).toNat = i1 at *
  generalize (vRoot p s l c k 3).toNat = i3 at *
  generalize (vRoot p s l c k 4).toNat = i4 at *
  have hz : t < (zF p s l c).toNat := by omega
  generalize (zF p s l c).toNat = z at *
  by_cases h4 : i4 = t
  · rw [if_pos (by omega)]
    simp [List.getElem?_set, h4, hz]
  · by_cases h3 : i3 = t
    · rw [if_pos (by omega)]
      simp [List.getElem?_set, h4, h3, hz]
    · rw [if_neg (by omega)]
      by_cases h1 : i1 = t
      · rw [if_pos (by omega)]
        simp [List.getElem?_set, h4, h3, h1, hz]
      · rw [if_neg (by omega)]
        simp [List.getElem?_set, h4, h3, h1, hz]
set_option maxHeartbeats 1000000 in
theorem bl_rt {p s l c k r : Int} (ho : ok p s l c k = true) (r0 : 0 ≤ r) (r1 : r ≤ 4 + c) :
    rt p s l c k (blank2 p s l c k) r = if r = 0 then (if s = 1 then 0 else 2) else if r = 1 then (if l = 0 then 0 else s + 1) else if r = 3 ∨ r = 4 then 1 else 0 := by
  have h' := ok_iff.1 ho
  have hq := sq_bd h'.1 h'.2.1
  unfold rt
  obtain ⟨t, ht⟩ : ∃ t : Nat, (vRoot p s l c k r).toNat = t := ⟨_, rfl⟩
  have htI : (t : Int) = rF p + r := by rw [← ht, vR ho r0 r1]; unfold rF; omega
  rw [ht]
  have tz : (t : Int) < zF p s l c := by rw [htI]; unfold zF rF; omega
  have m2 : ¬ (r = 1 ∧ l ≠ 0) → (blank2 p s l c k).getD t 0 = (blank1 p s l c k).getD t 0 := by
    intro hn
    refine hung_miss _ _ _ _ t _ (fun j hj e => ?_)
    have := hpl_at (p := p) (s := s) (l := l) (c := c) (k := k) (root := 1) (first := s + 1) (j := j) ho (by omega) (by omega) (by omega)
    rw [e, htI] at this
    unfold rF sF at this
    split at this
    · omega
    · split at this <;> omega
  have m1 : ¬ (r = 0 ∧ s ≠ 1) → (blank1 p s l c k).getD t 0 = (blank0 p s l c k).getD t 0 := by
    intro hn
    refine hung_miss _ _ _ _ t _ (fun j hj e => ?_)
    have := hpl_at (p := p) (s := s) (l := l) (c := c) (k := k) (root := 0) (first := 2) (j := j) ho (by omega) (by omega) (by omega)
    rw [e, htI] at this
    unfold rF sF at this
    split at this
    · omega
    · split at this <;> omega
  by_cases c1 : r = 1 ∧ l ≠ 0
  · obtain ⟨rfl, hl⟩ := c1
    rw [if_neg (by omega), if_pos rfl, if_neg hl]
    have := hung_hit (fun b => vBlock p s l c k b 1) (vRoot p s l c k 1) (s + 1) (blank1 p s l c k) 0 (s + l - (s + 1) + 1).toNat (by omega) (by unfold blank1; rw [hung_len, blank0_len]; show (vRoot p s l c k 1).toNat < _; rw [ht]; omega) (fun i hi hJ e => by
      have a1 := hpl_at (p := p) (s := s) (l := l) (c := c) (k := k) (root := 1) (first := s + 1) (j := i) ho (by omega) (by omega) (by omega)
      have a2 := hpl_at (p := p) (s := s) (l := l) (c := c) (k := k) (root := 1) (first := s + 1) (j := 0) ho (by omega) (by omega) (by omega)
      rw [e, a2, if_pos rfl, if_neg (by omega)] at a1
      unfold rF sF at a1
      split at a1 <;> omega)
    have e2 : (blank2 p s l c k).getD t 0 = pk 0 0 (s + 1 + ((0 : Nat) : Int)) 0 := by rw [← ht]; exact this
    rw [e2, uI_pk (by omega) (by omega)]
    omega
  · rw [m2 c1]
    by_cases c0 : r = 0 ∧ s ≠ 1
    · obtain ⟨rfl, hs⟩ := c0
      rw [if_pos rfl, if_neg hs]
      have := hung_hit (fun b => vBlock p s l c k b 1) (vRoot p s l c k 0) 2 (blank0 p s l c k) 0 (s - 2 + 1).toNat (by omega) (by rw [blank0_len]; show (vRoot p s l c k 0).toNat < _; rw [ht]; omega) (fun i hi hJ e => by
        have a1 := hpl_at (p := p) (s := s) (l := l) (c := c) (k := k) (root := 0) (first := 2) (j := i) ho (by omega) (by omega) (by omega)
        have a2 := hpl_at (p := p) (s := s) (l := l) (c := c) (k := k) (root := 0) (first := 2) (j := 0) ho (by omega) (by omega) (by omega)
        rw [e, a2, if_pos rfl, if_neg (by omega)] at a1
        unfold rF sF at a1
        split at a1 <;> omega)
      have e2 : (blank1 p s l c k).getD t 0 = pk 0 0 (2 + ((0 : Nat) : Int)) 0 := by rw [← ht]; exact this
      rw [e2, uI_pk (by omega) (by omega)]
      omega
    · rw [m1 c0, blank0_at ho tz]
      by_cases c3 : r = 3 ∨ r = 4
      · rw [if_pos (by omega), uI_pk (by omega) (by omega), if_neg (by omega), if_neg (by omega), if_pos c3]
      · have e1 : ¬ ((t : Int) = sF p c) := by rw [htI]; unfold rF sF; omega
        rw [if_neg (by omega), if_neg e1]
        have e0 : uI 0 = 0 := by decide
        rw [e0]
        split
        · split <;> omega
        · split
          · split <;> omega
          · rfl
set_option maxHeartbeats 1000000 in
theorem bl_lnk {p s l c k b : Int} (ho : ok p s l c k = true) (b0 : 1 ≤ b) (b1 : b ≤ s + l) :
    lnk p s l c k (blank2 p s l c k) 1 b = if b = 1 ∨ b = s ∨ b = s + l then 0 else b + 1 := by
  have h' := ok_iff.1 ho
  have hq := sq_bd h'.1 h'.2.1
  unfold lnk
  obtain ⟨t, ht⟩ : ∃ t : Nat, (vBlock p s l c k b 1).toNat = t := ⟨_, rfl⟩
  have htI : (t : Int) = sF p c + (if b ≤ s then (b - 1) * 3 else 3 * s + (b - s - 1) * 5) + 1 := by rw [← ht, vB1 ho b0 b1]; unfold sF; split <;> omega
  rw [ht]
  have tz : (t : Int) < zF p s l c := by rw [htI]; unfold zF sF; split <;> omega
  have m2 : ¬ (s < b ∧ b < s + l) → (blank2 p s l c k).getD t 0 = (blank1 p s l c k).getD t 0 := by
    intro hn
    refine hung_miss _ _ _ _ t _ (fun j hj e => ?_)
    have := hpl_at (p := p) (s := s) (l := l) (c := c) (k := k) (root := 1) (first := s + 1) (j := j) ho (by omega) (by omega) (by omega)
    rw [e, htI] at this
    unfold rF sF at this
    split at this <;> split at this <;> first | omega | (split at this <;> omega)
  have m1 : ¬ (1 < b ∧ b < s) → (blank1 p s l c k).getD t 0 = (blank0 p s l c k).getD t 0 := by
    intro hn
    refine hung_miss _ _ _ _ t _ (fun j hj e => ?_)
    have := hpl_at (p := p) (s := s) (l := l) (c := c) (k := k) (root := 0) (first := 2) (j := j) ho (by omega) (by omega) (by omega)
    rw [e, htI] at this
    unfold rF sF at this
    split at this <;> split at this <;> first | omega | (split at this <;> omega)
  by_cases c1 : s < b ∧ b < s + l
  · have := hung_hit (fun b => vBlock p s l c k b 1) (vRoot p s l c k 1) (s + 1) (blank1 p s l c k) (b - s).toNat (s + l - (s + 1) + 1).toNat (by omega)
    have e3 : hpl (fun b => vBlock p s l c k b 1) (vRoot p s l c k 1) (s + 1) (b - s).toNat = vBlock p s l c k b 1 := by unfold hpl; rw [if_neg (by omega)]; show vBlock p s l c k _ 1 = _; congr 1; omega
    rw [e3, ht] at this
    have e2 : (blank2 p s l c k).getD t 0 = pk 0 0 (s + 1 + (((b - s).toNat : Nat) : Int)) 0 := this (by unfold blank1; rw [hung_len, blank0_len]; omega) (fun i hi hJ e => by
      have a1 := hpl_at (p := p) (s := s) (l := l) (c := c) (k := k) (root := 1) (first := s + 1) (j := i) ho (by omega) (by omega) (by omega)
      rw [e, htI, if_neg (by omega), if_neg (by omega), if_neg (by omega)] at a1
      omega)
    rw [e2, uI_pk (by omega) (by omega), if_neg (by omega)]
    omega
  · rw [m2 c1]
    by_cases c0 : 1 < b ∧ b < s
    · have := hung_hit (fun b => vBlock p s l c k b 1) (vRoot p s l c k 0) 2 (blank0 p s l c k) (b - 1).toNat (s - 2 + 1).toNat (by omega)
      have e3 : hpl (fun b => vBlock p s l c k b 1) (vRoot p s l c k 0) 2 (b - 1).toNat = vBlock p s l c k b 1 := by unfold hpl; rw [if_neg (by omega)]; show vBlock p s l c k _ 1 = _; congr 1; omega
      rw [e3, ht] at this
      have e2 : (blank1 p s l c k).getD t 0 = pk 0 0 (2 + (((b - 1).toNat : Nat) : Int)) 0 := this (by rw [blank0_len]; omega) (fun i hi hJ e => by
        have a1 := hpl_at (p := p) (s := s) (l := l) (c := c) (k := k) (root := 0) (first := 2) (j := i) ho (by omega) (by omega) (by omega)
        rw [e, htI, if_pos (by omega), if_neg (by omega), if_pos (by omega)] at a1
        omega)
      rw [e2, uI_pk (by omega) (by omega), if_neg (by omega)]
      omega
    · rw [m1 c0, blank0_at ho tz]
      have n1 : ¬ ((t : Int) = rF p + 4 ∨ (t : Int) = rF p + 3) := by rw [htI]; unfold rF sF; split <;> omega
      have n2 : ¬ ((t : Int) = sF p c) := by rw [htI]; split <;> omega
      rw [if_neg n1, if_neg n2, if_pos (by omega)]
      decide
theorem bl_free0 {p s l c k : Int} (ho : ok p s l c k = true) : freeIn p s l c k (blank2 p s l c k).length (blank2 p s l c k) 0 = some (rng 2 (s - 1).toNat) := by
  have h' := ok_iff.1 ho
  unfold freeIn nodes
  rw [if_pos (.inl rfl), if_pos (blank_aOk ho)]
  unfold wlk
  rw [bl_rt ho (by omega) (by omega), if_pos rfl]
  have := chain (lnk p s l c k (blank2 p s l c k) 1) (s + l) (s - 1).toNat 2 [] ((s + l).toNat + 1) (by omega) (by omega) (by omega) (by simp)
    (fun i hi => by rw [bl_lnk ho (by omega) (by omega), if_neg (by omega)]) (fun h0 => by rw [bl_lnk ho (by omega) (by omega), if_pos (by omega)])
  rw [List.nil_append] at this
  rw [← this]
  congr 1
  by_cases h1 : s = 1
  · rw [if_pos h1, if_pos (by omega)]
  · rw [if_neg h1, if_neg (by omega)]
theorem bl_free1 {p s l c k : Int} (ho : ok p s l c k = true) : freeIn p s l c k (blank2 p s l c k).length (blank2 p s l c k) 1 = some (rng (s + 1) l.toNat) := by
  have h' := ok_iff.1 ho
  unfold freeIn nodes
  rw [if_pos (.inr rfl), if_pos (blank_aOk ho)]
  unfold wlk
  rw [bl_rt ho (by omega) (by omega), if_neg (by omega), if_pos rfl]
  have := chain (lnk p s l c k (blank2 p s l c k) 1) (s + l) l.toNat (s + 1) [] ((s + l).toNat + 1) (by omega) (by omega) (by omega) (by simp)
    (fun i hi => by rw [bl_lnk ho (by omega) (by omega), if_neg (by omega)]) (fun h0 => by rw [bl_lnk ho (by omega) (by omega), if_pos (by omega)])
  rw [List.nil_append] at this
  rw [← this]
  congr 1
  by_cases h1 : l = 0
  · rw [if_pos h1, if_pos (by omega)]
  · rw [if_neg h1, if_neg (by omega)]
theorem bl_stack {p s l c k : Int} (ho : ok p s l c k = true) : stackOf p s l c k (blank2 p s l c k).length (blank2 p s l c k) = some [] := by
  have h' := ok_iff.1 ho
  unfold stackOf nodes
  rw [if_pos (blank_aOk ho)]
  unfold wlk
  rw [bl_rt ho (by omega) (by omega), if_neg (by omega), if_neg (by omega), if_neg (by omega), wk_0]
  rfl
theorem bl_line {p s l c k : Int} (ho : ok p s l c k = true) : lineOf p s l c k (blank2 p s l c k).length (blank2 p s l c k) = some [] := by
  have h' := ok_iff.1 ho
  have e : nodes p s l c k (blank2 p s l c k).length (blank2 p s l c k) 3 = some [1] := by
    unfold nodes
    rw [if_pos (blank_aOk ho)]
    unfold wlk
    rw [bl_rt ho (by omega) (by omega), if_neg (by omega), if_neg (by omega), if_pos (.inl rfl)]
    have := chain (lnk p s l c k (blank2 p s l c k) 1) (s + l) 1 1 [] ((s + l).toNat + 1) (by omega) (by omega) (by omega) (by simp) (fun i hi => by omega) (fun h0 => by rw [bl_lnk ho (by omega) (by omega), if_pos (by omega)])
    simpa [rng] using this
  unfold lineOf lineNodes
  rw [e, bl_rt ho (by omega) (by omega), if_neg (by omega), if_neg (by omega), if_pos (.inr rfl)]
  simp
theorem bl_cells {p s l c k : Int} (ho : ok p s l c k = true) : cellsOf p s l c k (blank2 p s l c k).length (blank2 p s l c k) = List.replicate c.toNat 0 := by
  have h' := ok_iff.1 ho
  unfold cellsOf
  rw [if_pos (blank_aOk ho)]
  apply List.ext_getElem?
  intro i
  by_cases hi : i < c.toNat
  · rw [List.getElem?_map, List.getElem?_range hi, List.getElem?_replicate, if_pos hi]
    show some (rt p s l c k (blank2 p s l c k) (5 + (i : Int))) = _
    rw [bl_rt ho (by omega) (by omega), if_neg (by omega), if_neg (by omega), if_neg (by omega)]
  · simp [hi]
end Go.Proofs.Ytmldeigbaafclaa
