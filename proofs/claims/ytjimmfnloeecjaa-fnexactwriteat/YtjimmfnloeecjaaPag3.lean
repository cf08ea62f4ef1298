/-
  What the pages of an arena's words answer: read, write, swap, and the list of them.
-/
import Derived.Test.YtjimmfnloeecjaaPag2
namespace Go.Proofs.Ytjimmfnloeecjaa
open Go.RowKit
set_option linter.unusedVariables false
set_option linter.unusedSimpArgs false
/-- What stands of a struct of words in block q: its pages hold xs, n of them. -/
structure Wst (w : World) (B q n : Nat) (xs : List Int) : Prop where
  ex : ∃ pv ps, At w q #[pv, .int .i64 n] 55 ∧ Pgs w B pv ps ((n + 63) / 64) xs ∧ pv.ownBlock ≠ some q ∧ ∀ p ∈ ps, p.1 ≠ q
  len : xs.length = n
  qB : B ≤ q
theorem Wst.keep {w w' : World} {B q n : Nat} {xs : List Int} (h : Wst w B q n xs) (hb : Below w.heap.size w w') : Wst w' B q n xs := by
  obtain ⟨⟨pv, ps, h1, h2, h3, h4⟩, hl, hq⟩ := h
  exact ⟨⟨pv, ps, h1.keep hb, h2.keep hb, h3, h4⟩, hl, hq⟩
/-- The page of a place: its pointer in the row of pages, and its words. -/
theorem Wst.page {w : World} {B q n : Nat} {xs : List Int} (h : Wst w B q n xs) {i : Nat} (hi : i < n) :
    ∃ (r cap b o : Nat) (ps : List (Nat × Nat)), w.cell? ⟨q, 0, none⟩ = some (.slice (some ⟨r, 0, none⟩) ((n + 63) / 64) cap) ∧ w.cell? ⟨q, 1, none⟩ = some (.int .i64 n) ∧
      w.cell? ⟨r, i / 64, none⟩ = some (.pointer (some ⟨b, o, none⟩)) ∧ w.frozen? ⟨r, i / 64, none⟩ = false ∧ w.rangeAt b o (chunk xs (i / 64)) ∧ i / 64 < (n + 63) / 64 ∧
      At w q #[.slice (some ⟨r, 0, none⟩) ((n + 63) / 64) cap, .int .i64 n] 55 ∧ Pgs w B (.slice (some ⟨r, 0, none⟩) ((n + 63) / 64) cap) ps ((n + 63) / 64) xs ∧ r ≠ q ∧ (∀ p ∈ ps, p.1 ≠ q) ∧ b < w.heap.size ∧ B ≤ r ∧ r < w.heap.size := by
  obtain ⟨⟨pv, ps, h1, h2, h3, h4⟩, hl, hq⟩ := h
  have hk : i / 64 < (n + 63) / 64 := by omega
  rcases h2.own.2 with ⟨rfl, h0⟩ | ⟨r, cap, cur, rfl, hB, hcur, hc1, hc2, hc3, hc4⟩
  · omega
  · have hp : i / 64 < ps.length := by rw [h2.len]; exact hk
    obtain ⟨hb, hbr, hc⟩ := h2.pg (i / 64) ps[i / 64] (List.getElem?_eq_getElem hp)
    have hcell := World.ownsRow.cellAt h2.own (i / 64) (by omega)
    refine ⟨r, cap, ps[i / 64].1, ps[i / 64].2, ps, h1.cell 0, h1.cell 1, ?_, World.ownsRow.frozenAt h2.own _, hc, hk, h1, h2, fun e => h3 (by simp [Value.ownBlock, e]), h4, hb, hB, (World.ownsRow.lt h2.own r rfl).2⟩
    rw [hcell]
    simp [hp, ptr]
set_option maxHeartbeats 2000000 in
theorem iwRead (B q n : Nat) (xs : List Int) (at_ : Int) (w : World) (h : Wst w B q n xs) (hn : n ≤ 16777216) :
    Calls Try.prog 52 #[.pointer (some ⟨q, 0, none⟩), .int .i64 at_] w fun e w' => e = .returned (.tuple #[.int .u64 (red xs at_), .bool (thr at_ n)]) ∧ w' = w := by
  have hl := h.len
  cases ht : thr at_ n
  · have er : red xs at_ = 0 := by unfold red; rw [hl, ht]; rfl
    rw [er]
    obtain ⟨⟨pv, ps, h1, -⟩, -, -⟩ := h
    have q1 := h1.cell 1
    simp at q1
    go_enter Try.func52, Try.ntmps52
    go_wp2_with (go_at_call 36; refine (iWithin _ _ _ _).mono ?_; rintro e w2 ⟨rfl, rfl⟩; rw [thr_inB, ht])
    go_returns
    exact ⟨rfl, rfl⟩
  · obtain ⟨i, hi, rfl⟩ := thr_true ht
    have er : red xs (i : Int) = xs.getD i 0 := by unfold red; rw [hl, ht]; simp
    rw [er]
    obtain ⟨r, cap, b, o, ps, q0, q1, c0, -, hc, hk, -⟩ := h.page hi
    have c1 := hc (i % 64) _ (chunk_at _ _ _ (by omega))
    rw [show 64 * (i / 64) + i % 64 = i from by omega] at c1
    obtain ⟨z, hz⟩ : ∃ z : Int, Hid (xs.getD i 0 = z) := ⟨_, rfl⟩
    rw [hz.out] at c1 ⊢
    obtain ⟨M, hM⟩ : ∃ M : Nat, Hid ((n + 63) / 64 = M) := ⟨_, rfl⟩
    rw [hM.out] at q0 hk
    obtain ⟨k, j, hkj⟩ : ∃ k j : Nat, Hid (i / 64 = k ∧ i % 64 = j) := ⟨_, _, rfl, rfl⟩
    rw [hkj.out.1] at c0 hk
    rw [hkj.out.2] at c1
    have e1 : (i : Int) / 64 = (k : Int) := by have := hkj.out; omega
    have e2 : (i : Int) % 64 = (j : Int) := by have := hkj.out; omega
    have b1 : (k : Int) < (M : Int) := by omega
    have b2 : (j : Int) < 64 := by have := hkj.out; omega
    go_enter Try.func52, Try.ntmps52
    go_wp2_with (go_at_call 36; refine (iWithin _ _ _ _).mono ?_; rintro e w2 ⟨rfl, rfl⟩; rw [thr_inB, ht])
    go_returns
    exact ⟨rfl, rfl⟩
theorem heap_setCells (b : Nat) : ∀ (vs : List Value) (o : Nat) (w : World) (k : Nat), k ≠ b → (w.setCells b o vs).heap[k]? = w.heap[k]?
  | [], _, _, _, _ => rfl
  | v :: r, o, w, k, h => by
    rw [World.setCells, heap_setCells b r (o + 1) _ k h]
    exact Below.heap_setCell _ _ _ _ h
theorem below_setCells {B : Nat} {a : World} (b : Nat) (hb : B ≤ b) : ∀ (vs : List Value) (o : Nat) (w : World), Below B a w → Below B a (w.setCells b o vs)
  | [], _, _, h => h
  | v :: r, o, w, h => by
    rw [World.setCells]
    exact below_setCells b hb r (o + 1) _ (h.setCell (p := ⟨b, o, none⟩) hb _)
theorem chunk_set {xs : List Int} {n i : Nat} (hl : xs.length = n) (hi : i < n) (x : Int) : (chunk xs (i / 64)).set (i % 64) (.int .u64 x) = chunk (xs.set i x) (i / 64) := by
  refine List.ext_getElem? fun j => ?_
  by_cases hj : j < 64
  · rw [chunk_at _ _ _ hj, List.getElem?_set]
    by_cases e : i % 64 = j
    · rw [if_pos e, if_pos (by rw [chunk_len]; omega)]
      have e2 : 64 * (i / 64) + j = i := by omega
      rw [e2]
      have : i < xs.length := by omega
      simp [this]
    · rw [if_neg e, chunk_at _ _ _ hj]
      have e2 : ¬ i = 64 * (i / 64) + j := by omega
      simp [List.getElem?_set, e2]
  · rw [List.getElem?_eq_none (by simp [chunk_len]; omega), List.getElem?_eq_none (by rw [chunk_len]; omega)]
theorem chunk_other {xs : List Int} {i k : Nat} (h : i / 64 ≠ k) (x : Int) : chunk (xs.set i x) k = chunk xs k := by
  refine List.ext_getElem? fun j => ?_
  by_cases hj : j < 64
  · rw [chunk_at _ _ _ hj, chunk_at _ _ _ hj]
    have e2 : ¬ i = 64 * k + j := by omega
    simp [List.getElem?_set, e2]
  · rw [List.getElem?_eq_none (by rw [chunk_len]; omega), List.getElem?_eq_none (by rw [chunk_len]; omega)]
theorem rangeAt_setCell {w : World} {b o : Nat} {cs : List Value} (h : w.rangeAt b o cs) (j : Nat) (hj : j < cs.length) (v : Value) : (w.setCell ⟨b, o + j, none⟩ v).rangeAt b o (cs.set j v) := by
  intro i u hu
  rw [List.getElem?_set] at hu
  by_cases e : j = i
  · subst e
    rw [if_pos rfl, if_pos hj] at hu
    simp at hu
    subst hu
    have := h j _ (List.getElem?_eq_getElem hj)
    simp [World.cell?_setCell_same, this]
  · rw [if_neg e] at hu
    rw [← h i u hu]
    exact World.cell?_setCell_other _ _ _ _ (by simp <;> omega)
/-- A page of one's own takes the place of page i / 64. -/
theorem Wst.wrote {w w1 : World} {B q n r cap W i : Nat} {xs : List Int} {ps : List (Nat × Nat)} {x : Int} (hl : xs.length = n) (hi : i < n)
    (a : At w q #[.slice (some ⟨r, 0, none⟩) ((n + 63) / 64) cap, .int .i64 n] 55) (p : Pgs w B (.slice (some ⟨r, 0, none⟩) ((n + 63) / 64) cap) ps ((n + 63) / 64) xs) (rq : r ≠ q) (hp : ∀ p ∈ ps, p.1 ≠ q) (hB : B ≤ q)
    (b1 : Below w.heap.size w w1) (hW : W = w.heap.size) (hc : w1.rangeAt W 0 (chunk (xs.set i x) (i / 64))) : Wst (w1.setCell ⟨r, i / 64, none⟩ (ptr (W, 0))) B q n (xs.set i x) := by
  have hk : i / 64 < (n + 63) / 64 := by omega
  have rl := (World.ownsRow.lt p.own r rfl).2
  have Wl : W < w1.heap.size := World.block_lt_of_cell? w1 _ (hc 0 _ (chunk_at _ _ _ (by omega)))
  have p1 := p.keep b1
  refine ⟨⟨_, ps.set (i / 64) (W, 0), (a.keep b1).other (a := ⟨r, i / 64, none⟩) (Ne.symm rq) _, ⟨by simp [p.len], ?_, ?_⟩, by simpa [Value.ownBlock] using rq, ?_⟩, by simp [hl], hB⟩
  · have := (World.ownsRow.stored p1.own (i / 64) (ptr (W, 0))).1
    simpa [List.map_set] using this
  · intro j u hu
    rw [List.getElem?_set] at hu
    by_cases e : i / 64 = j
    · subst e
      rw [if_pos rfl, if_pos (by rw [p.len]; exact hk)] at hu
      simp at hu
      subst hu
      refine ⟨by simpa [World.setCell] using Wl, fun e => (by omega : r ≠ W) (by simpa [Value.ownBlock] using e), rangeAt_block hc (Below.heap_setCell _ _ _ _ (by show W ≠ r; omega))⟩
    · rw [if_neg e] at hu
      obtain ⟨h1, h2, h3⟩ := p1.pg j u hu
      refine ⟨by simpa [World.setCell] using h1, h2, ?_⟩
      rw [chunk_other e]
      exact rangeAt_block h3 (Below.heap_setCell _ _ _ _ (fun e => h2 (by simp [Value.ownBlock]; exact e.symm)))
  · intro u hu
    rcases List.mem_or_eq_of_mem_set hu with hu | rfl
    · exact hp u hu
    · have := a.lt
      show W ≠ q
      omega
theorem infoA : (Try.prog.info? 65).map (·.size) = some 64 := by kernel_rfl
theorem zeros_there (w : World) : (w.alloc (.cells (List.replicate 64 (Value.int .u64 0)).toArray 65)).there w.heap.size 0 64 := by
  intro j hj
  have z := zeros_at w
  rw [Nat.zero_add, z.cell, z.frozen]
  simp only [List.getElem?_toArray, List.getElem?_replicate, if_pos hj]
  exact ⟨rfl, trivial⟩
set_option maxHeartbeats 4000000 in
theorem iwWrite (B q n : Nat) (xs : List Int) (at_ x : Int) (w : World) (h : Wst w B q n xs) (hn : n ≤ 16777216) :
    Calls Try.prog 39 #[.pointer (some ⟨q, 0, none⟩), .int .i64 at_, .int .u64 x] w fun e w' => e = .returned (.bool (thr at_ n)) ∧ Wst w' B q n (wrote xs at_ x) ∧ Below B w w' := by
  have hl := h.len
  cases ht : thr at_ n
  · rw [wrote_n hl ht]
    have hh := h
    obtain ⟨⟨pv, ps, h1, -⟩, -, -⟩ := hh
    have q1 := h1.cell 1
    simp at q1
    go_enter Try.func39, Try.ntmps39
    go_wp2_with (go_at_call 36; refine (iWithin _ _ _ _).mono ?_; rintro e w2 ⟨rfl, rfl⟩; rw [thr_inB, ht])
    go_ret
    exact ⟨rfl, h, Below.refl _ _⟩
  · obtain ⟨i, hi, rfl⟩ := thr_true ht
    rw [wrote_y hl hi]
    obtain ⟨r, cap, b, o, ps, q0, q1, c0, f0, hc, hk, aq, P, rq, hpq, hb, hBr, hrl⟩ := h.page hi
    have hBq := h.qB
    have hrB : B ≤ w.heap.size := by omega
    obtain ⟨M, hM⟩ : ∃ M : Nat, Hid ((n + 63) / 64 = M) := ⟨_, rfl⟩
    obtain ⟨k, j, hkj⟩ : ∃ k j : Nat, Hid (i / 64 = k ∧ i % 64 = j) := ⟨_, _, rfl, rfl⟩
    have HP : Hid (Pgs w B (.slice (some ⟨r, 0, none⟩) ((n + 63) / 64) cap) ps ((n + 63) / 64) xs ∧ At w q #[.slice (some ⟨r, 0, none⟩) ((n + 63) / 64) cap, .int .i64 n] 55) := ⟨P, aq⟩
    clear P aq
    rw [hM.out] at q0 hk
    rw [hkj.out.1] at c0 f0 hc hk
    have e1 : (i : Int) / 64 = (k : Int) := by have := hkj.out; omega
    have e2 : (i : Int) % 64 = (j : Int) := by have := hkj.out; omega
    have b1 : (k : Int) < (M : Int) := by omega
    have b2 : (j : Int) < 64 := by have := hkj.out; omega
    have hth := zeros_there w
    have hB1 : Below w.heap.size w ((w.alloc (.cells (List.replicate 64 (Value.int .u64 0)).toArray 65)).setCells w.heap.size 0 (chunk xs k)) := below_setCells _ (Nat.le_refl _) _ _ _ ((Below.refl _ _).alloc (Nat.le_refl _) _)
    have hR1 := World.rangeAt_setCells_same _ w.heap.size 0 (chunk xs k) (by rw [chunk_len]; exact hth)
    have hF1 : ∀ j, ((w.alloc (.cells (List.replicate 64 (Value.int .u64 0)).toArray 65)).setCells w.heap.size 0 (chunk xs k)).frozen? ⟨w.heap.size, j, none⟩ = false := fun j => by rw [World.frozen?_setCells]; exact (zeros_at w).frozen j
    go_enter Try.func39, Try.ntmps39
    go_upto_region 4 with (first
      | (go_at_call 36; refine (iWithin _ _ _ _).mono ?_; rintro e w2 ⟨rfl, rfl⟩; rw [thr_inB, ht])
      | (refine wpList_load_mid (by rfl) 65 (.tmp 24) (by rfl) b o (by rfl) (chunk xs k) _ hc Try.underlying65 rfl (by rw [chunk_len]; exact infoA) ?_)
      | (refine wpList_store_mid (by rfl) 65 (.tmp 7) (.tmp 25) (by rfl) w2.heap.size 0 (chunk xs k).toArray (by rfl) (by rfl) (by simp only [List.size_toArray, chunk_len]; exact hth) (by simp only [List.size_toArray, chunk_len]; exact infoA) (all_oneCell_toArray (chunk_one xs k)) ?_))
    change Code.wp _ _ _ _ ((w2.alloc (Obj.cells (List.replicate 64 (Value.int .u64 0)).toArray 65)).setCells w2.heap.size 0 (chunk xs k))
    clear hth
    generalize ((w2.alloc (Obj.cells (List.replicate 64 (Value.int .u64 0)).toArray 65)).setCells w2.heap.size 0 (chunk xs k)) = w3 at *
    have c3 := hR1 j _ (chunk_at _ _ _ (by omega))
    have f3 := hF1 j
    rw [Nat.zero_add] at c3
    have d0 := (hB1.cell (p := ⟨r, k, none⟩) hrl).trans c0
    have g0 := (hB1.frozen (p := ⟨r, k, none⟩) hrl).trans f0
    have hql := HP.out.2.lt
    have p0 := (hB1.cell (p := ⟨q, 0, none⟩) hql).trans q0
    have hne : r ≠ w2.heap.size := by omega
    have hne2 : q ≠ w2.heap.size := by omega
    have fin := Wst.wrote (x := x) hl hi HP.out.2 HP.out.1 rq hpq hBq (hB1.setCell (p := ⟨w2.heap.size, j, none⟩) (Nat.le_refl _) (.int .u64 x)) rfl (by
      have := rangeAt_setCell hR1 j (by rw [chunk_len]; omega) (.int .u64 x)
      rw [Nat.zero_add] at this
      rw [← chunk_set hl hi x, hkj.out.1, hkj.out.2]
      exact this)
    rw [hkj.out.1] at fin
    have FIN : Hid (Wst ((w3.setCell ⟨w2.heap.size, j, none⟩ (.int .u64 x)).setCell ⟨r, k, none⟩ (ptr (w2.heap.size, 0))) B q n (xs.set i x)) := fin
    clear fin hR1 hc hF1 c0 f0 q0 q1
    go_wp2
    go_ret
    refine ⟨rfl, FIN.out, ?_⟩
    exact ((hB1.mono hrB).setCell (p := ⟨w2.heap.size, j, none⟩) hrB _).setCell (p := ⟨r, k, none⟩) hBr _
end Go.Proofs.Ytjimmfnloeecjaa
