/-
  A swap over pages, the list of the words on them, and so what WriteAt and SwapAt answer.
-/
import Derived.Test.YtjimmfnloeecjaaPag3
import Derived.Deep.RegionLaw
namespace Go.Proofs.Ytjimmfnloeecjaa
open Go.RowKit
set_option linter.unusedVariables false
set_option linter.unusedSimpArgs false
set_option maxHeartbeats 2000000 in
theorem iwSwap (B q n : Nat) (xs : List Int) (at_ y x : Int) (w : World) (h : Wst w B q n xs) (hn : n ≤ 16777216) :
    Calls Try.prog 41 #[.pointer (some ⟨q, 0, none⟩), .int .i64 at_, .int .u64 y, .int .u64 x] w fun e w' => e = .returned (.bool (swaps xs at_ y)) ∧ Wst w' B q n (swapped xs at_ y x) ∧ Below B w w' := by
  have hl := h.len
  cases ht : thr at_ n
  · obtain ⟨e1, e2⟩ := swap_n (x := x) (y := y) hl (.inl ht)
    rw [e1, e2]
    go_enter Try.func41, Try.ntmps41
    go_wp2_with (go_at_call 52; refine (iwRead B q n xs _ _ h hn).mono ?_; rintro e w1 ⟨rfl, rfl⟩; rw [ht])
    go_ret
    exact ⟨rfl, h, Below.refl _ _⟩
  · obtain ⟨i, hi, rfl⟩ := thr_true ht
    obtain ⟨z, hz⟩ : ∃ z : Int, Hid (red xs (i : Int) = z) := ⟨_, rfl⟩
    have er : xs.getD i 0 = z := by rw [← hz.out]; unfold red; rw [hl, ht]; simp
    by_cases hzy : z = y
    · subst hzy
      obtain ⟨e1, e2⟩ := swap_y (x := x) hl hi er
      rw [e1, e2, ← wrote_y hl hi]
      clear er e1 e2
      go_enter Try.func41, Try.ntmps41
      go_wp2_with (first
        | (go_at_call 52; refine (iwRead B q n xs _ _ h hn).mono ?_; rintro e w1 ⟨rfl, rfl⟩; rw [ht, hz.out])
        | (go_at_call 39; refine (iwWrite B q n xs _ _ _ h hn).mono ?_; rintro e w2 ⟨rfl, hW, hb⟩; rw [ht]))
      go_ret
      exact ⟨rfl, hW, hb⟩
    · obtain ⟨e1, e2⟩ := swap_n (a := (i : Int)) (x := x) (y := y) hl (.inr (by rw [Int.toNat_natCast, er]; exact hzy))
      rw [e1, e2]
      clear er e1 e2
      go_enter Try.func41, Try.ntmps41
      go_wp2_with (go_at_call 52; refine (iwRead B q n xs _ _ h hn).mono ?_; rintro e w1 ⟨rfl, rfl⟩; rw [ht, hz.out])
      go_ret
      exact ⟨rfl, h, Below.refl _ _⟩
theorem Ws.full {w : World} {g n : Nat} {xs : List Int} (h : Ws w g n n xs) : w.heap[g]? = some (.cells (xs.map (Value.int .u64)).toArray 34 (0, 0)) := by
  rcases h.own.2 with ⟨hv, _⟩ | ⟨g', cap, cur, hv, h1, h2, h3, h4, h5, h6⟩
  · cases hv
  · obtain ⟨⟨rfl⟩, -, rfl⟩ : (some (⟨g, 0, none⟩ : Addr) = some ⟨g', 0, none⟩) ∧ n = n ∧ n = cap := by simpa using hv
    rw [h2, ← h6]
    have : cur.toList.take (n * 1) = cur.toList := List.take_of_length_le (by simp; omega)
    rw [this]
theorem Ws.of_full {w : World} {g n : Nat} {xs : List Int} (hl : xs.length = n) (hn : n ≤ 16777216) (h : w.heap[g]? = some (.cells (xs.map (Value.int .u64)).toArray 34 (0, 0))) (bd : ∀ x ∈ xs, 0 ≤ x ∧ x ≤ 18446744073709551615) : Ws w g n n xs :=
  ⟨hl, ⟨by simp [hl], .inr ⟨g, n, _, rfl, Nat.zero_le _, h, Nat.le_refl _, by unfold maxLen; omega, by simp [hl], by rw [Nat.mul_one]; exact List.take_of_length_le (by simp [hl])⟩⟩, bd⟩
/-- The words of page i, none behind the list's end. -/
def part64 (xs : List Int) (i : Nat) : List Value := ((xs.drop (64 * i)).take 64).map (Value.int .u64)
theorem part64_len {xs : List Int} {n i : Nat} (hl : xs.length = n) : (part64 xs i).length = Nat.min 64 (n - 64 * i) := by
  simp [part64, hl]
theorem part64_splice {xs : List Int} {n i : Nat} (hl : xs.length = n) (hi : 64 * i < n) :
    splice ((xs.take (64 * i) ++ List.replicate (n - 64 * i) 0).map (Value.int .u64)) (64 * i) (part64 xs i) = (xs.take (64 * (i + 1)) ++ List.replicate (n - 64 * (i + 1)) 0).map (Value.int .u64) := by
  unfold splice
  have e1 : (part64 xs i).length = min 64 (n - 64 * i) := by simp [part64, hl]
  have e2 : ((xs.take (64 * i) ++ List.replicate (n - 64 * i) 0).map (Value.int .u64)).take (64 * i) = (xs.take (64 * i)).map (Value.int .u64) := by
    rw [List.map_append, List.take_append_of_le_length (by simp; omega), List.take_of_length_le (by simp; omega)]
  have e3 : ((xs.take (64 * i) ++ List.replicate (n - 64 * i) 0).map (Value.int .u64)).drop (64 * i + (part64 xs i).length) = (List.replicate (n - 64 * (i + 1)) (0 : Int)).map (Value.int .u64) := by
    rw [e1, List.map_append, List.drop_append, List.drop_eq_nil_of_le (by simp; omega)]
    simp [hl]
    omega
  rw [e2, e3]
  have e4 : xs.take (64 * (i + 1)) = xs.take (64 * i) ++ (xs.drop (64 * i)).take 64 := by
    rw [show 64 * (i + 1) = 64 * i + 64 from by omega, List.take_add]
  rw [e4]
  simp [part64]
theorem part64_src {w : World} {b o i n : Nat} {xs : List Int} (hl : xs.length = n) (h : w.rangeAt b o (chunk xs i)) : ∀ (j : Nat) (v : Value), (part64 xs i)[j]? = some v → w.cell? ((⟨b, o, none⟩ : Addr).add j) = some v := by
  intro j v hv
  have hj : j < min 64 (n - 64 * i) := by
    have := (List.getElem?_eq_some_iff.1 hv).1
    simpa [part64, hl] using this
  rw [Addr.add_mid]
  refine h j v ?_
  rw [chunk_at _ _ _ (by omega), ← hv]
  have h2 : 64 * i + j < xs.length := by omega
  have h3 : j < 64 := by omega
  simp [part64, h2, h3]
theorem part64_one (xs : List Int) (i : Nat) : ∀ u ∈ part64 xs i, u.oneCell' = true := u64_one _
set_option maxHeartbeats 4000000 in
theorem iwList (B q n : Nat) (xs : List Int) (w : World) (h : Wst w B q n xs) (hn : n ≤ 16777216) (bd : ∀ x ∈ xs, 0 ≤ x ∧ x ≤ 18446744073709551615) :
    Calls Try.prog 40 #[.pointer (some ⟨q, 0, none⟩)] w fun e w' => e = .returned (.slice (some ⟨w.heap.size, 0, none⟩) n n) ∧ Ws w' w.heap.size n n xs ∧ Below w.heap.size w w' := by
  have hmk := run_make_row' (P := Try.prog) 24 34 (.int .u64 0) 8 Try.underlying24 infoU rfl .i64 .i64 n (by omega) (by omega)
  have hW := Ws.made w n (by omega)
  have hB : Below w.heap.size w (w.alloc (.cells (madeCells #[.int .u64 0] n) 34)) := (Below.refl _ _).alloc (Nat.le_refl _) _
  obtain ⟨⟨pv, ps, aq, P, h3, h4⟩, hl, hq⟩ := h
  obtain ⟨pa, pb, pc, rfl⟩ := P.sl
  have hpb : pb = (n + 63) / 64 := by
    rcases P.own.2 with ⟨hv, h0⟩ | ⟨r, cap, cur, hv, _⟩
    · obtain ⟨-, rfl, -⟩ : pa = none ∧ pb = 0 ∧ pc = 0 := by simpa using hv
      exact h0.symm
    · obtain ⟨-, e, -⟩ : pa = some ⟨r, 0, none⟩ ∧ pb = (n + 63) / 64 ∧ pc = cap := by simpa using hv
      exact e
  have q0 := aq.cell 0
  have q1 := aq.cell 1
  simp at q0 q1
  have ql := aq.lt
  obtain ⟨M, hM⟩ : ∃ M : Nat, Hid ((n + 63) / 64 = M) := ⟨_, rfl⟩
  rw [hM.out] at hpb P
  subst hpb
  have hMn : pb ≤ 16777216 ∧ ∀ i, i < pb → 64 * i < n := by
    have := hM.out
    exact ⟨by omega, fun i hi => by omega⟩
  have d0 : (w.alloc (.cells (madeCells #[.int .u64 0] n) 34)).cell? ⟨q, 0, none⟩ = some (.slice pa pb pc) := (hB.cell (p := ⟨q, 0, none⟩) ql).trans q0
  go_enter Try.func40, Try.ntmps40
  go_wp2
  obtain ⟨G, hG⟩ : ∃ G : Nat, Hid (G = w.heap.size) := ⟨_, rfl⟩
  rw [← hG.out]
  go_loopg [16] pb (fun g y wr => ∃ i : Nat, i ≤ pb ∧ g = pb - i ∧ y = .int .i64 i ∧ Ws wr G n n (xs.take (64 * i) ++ List.replicate (n - 64 * i) 0) ∧ Below G w wr)
  case atStart => exact ⟨0, Nat.zero_le _, rfl, rfl, by rw [hG.out]; simpa using hW, by rw [hG.out]; exact hB⟩
  case round =>
    clear hW hB hmk d0
    obtain ⟨i, i0, hg, rfl, hW, hB⟩ := hrel
    by_cases hi : i < pb
    · have hi' : (i : Int) < pb := by omega
      have hin := hMn.2 i hi
      rcases P.own.2 with ⟨hv, h0⟩ | ⟨r, cap, cur, hv, _⟩
      · omega
      · obtain ⟨rfl, -, rfl⟩ : pa = some ⟨r, 0, none⟩ ∧ pb = pb ∧ pc = cap := by simpa using hv
        have hp : i < ps.length := by rw [P.len]; exact hi
        obtain ⟨hb, hbr, hc⟩ := P.pg i ps[i] (List.getElem?_eq_getElem hp)
        obtain ⟨b, o, hbo⟩ : ∃ b o, ps[i] = (b, o) := ⟨_, _, rfl⟩
        have c0 : wr.cell? ⟨r, i, none⟩ = some (.pointer (some ⟨b, o, none⟩)) := by
          rw [hB.cell (p := ⟨r, i, none⟩) (by show r < G; rw [hG.out]; exact (World.ownsRow.lt P.own r rfl).2), World.ownsRow.cellAt P.own i (by omega)]
          simp [hp, ptr, hbo]
        rw [hbo] at hb hbr hc
        have hc1 : wr.rangeAt b o (chunk xs i) := rangeAt_block hc (hB.block b (by rw [hG.out]; exact hb))
        have hsrc := part64_src hl hc1
        have hfull := hW.full
        have hlen : (xs.take (64 * i) ++ List.replicate (n - 64 * i) 0).length = n := by simp [hl]; omega
        have hm0 := part64_len (i := i) hl
        have hfit : i * 64 + (part64 xs i).length ≤ ((xs.take (64 * i) ++ List.replicate (n - 64 * i) 0).map (Value.int .u64)).length := by
          rw [List.length_map, hlen, hm0]
          have := Nat.min_le_right 64 (n - 64 * i)
          simp only [Nat.min_def] at *
          split <;> omega
        have hsp := part64_splice hl hin
        have z1 : (i : Int) * 64 < (n : Int) := by omega
        have hm1 : (part64 xs i).length = Nat.min 64 (n - i * 64) := by rw [hm0, Nat.mul_comm]
        have HS : Hid (splice ((xs.take (64 * i) ++ List.replicate (n - 64 * i) 0).map (Value.int .u64)) (i * 64) (part64 xs i) = (xs.take (64 * (i + 1)) ++ List.replicate (n - 64 * (i + 1)) 0).map (Value.int .u64)) := by rw [Nat.mul_comm i 64]; exact hsp
        clear hsp hm0 hlen
        generalize (xs.take (64 * i) ++ List.replicate (n - 64 * i) 0).map (Value.int .u64) = cur at hfull hfit HS
        obtain ⟨s, hs⟩ : ∃ s : Nat, Hid (i * 64 = s) := ⟨_, rfl⟩
        rw [hs.out] at hfit HS hm1
        have hwr : IntKind.i64.wrap ((i : Int) * 64) = (s : Int) := by rw [IntKind.wrap_i64]; have := hs.out; omega
        have s0 : (0 : Int) ≤ (s : Int) := by omega
        have s1 : (s : Int) ≤ (n : Int) := by have := hs.out; omega
        have s2 : ¬ n = s := by have := hs.out; omega
        go_wp2
        go_region_law (refine step_copy_splice (by rfl) (.tmp 24) (.tmp 27) 24 24 (by rfl) 34 Try.underlying24 infoU1 _ _ (n - s) (n - s) 64 64 (by rfl) (by rfl) G s cur 34 hfull (part64 xs i) hm1 (fun _ => ⟨rfl, _, rfl, hsrc⟩) hfit (part64_one xs i) G w hB.drew (Nat.le_refl _) ?_; intro w4 hg4 hb4)
        all_goals
          go_wp2
          have hW4 := Ws.of_full (w := w4) (g := G) (n := n) (xs := xs.take (64 * (i + 1)) ++ List.replicate (n - 64 * (i + 1)) 0) (by simp [hl]; omega) hn (by rw [← HS.out]; exact hg4.out) (fun x hx => by
            rcases List.mem_append.1 hx with hx | hx
            · exact bd x (List.mem_of_mem_take hx)
            · have := (List.mem_replicate.1 hx).2; omega)
          go_roundg (gk - 1)
          case measure => omega
          case rel => exact ⟨i + 1, by omega, by omega, by go_num, hW4, hb4⟩
    · obtain rfl : i = pb := by omega
      go_wp2
      go_ret
      rw [← hG.out]
      refine ⟨rfl, ?_, hB⟩
      have e : xs.take (64 * i) = xs := List.take_of_length_le (by have := hM.out; omega)
      have e2 : n - 64 * i = 0 := by have := hM.out; omega
      rw [e, e2] at hW
      simpa using hW
end Go.Proofs.Ytjimmfnloeecjaa
