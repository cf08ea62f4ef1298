/-
  A swap over pages, the list of the words on them, and so what WriteAt and SwapAt answer.
  What WriteAt and SwapAt answer.
  What the program's hang leaves.
  What the specification's blank arena is.
  Hands as records: what is read out of one, and what is laid.
  Records of any type: loaded, stored, laid new.
-/
import Derived.Test.YtljpkgloegafnaaMd
import Derived.Deep.RegionLaw
import Derived.Deep.LoopGhost
import Derived.Deep.RegionHeld3
import Derived.Deep.Cut
import Derived.Deep.MidRow
import Derived.Laws.Tables
import Derived.Deep.QuietTactic
import Derived.WalkKit
import Derived.BigFrame
namespace Go.Proofs.Ytljpkgloegafnaa
open Go.RowKit
set_option maxRecDepth 100000
set_option linter.unusedVariables false
set_option linter.unusedSimpArgs false
set_option maxHeartbeats 2000000 in
theorem iwSwap (B q n : Nat) (xs : List Int) (at_ y x : Int) (w : World) (h : Wst w B q n xs) (hn : n ≤ 16777216) :
    Calls Try.prog 82 #[.pointer (some ⟨q, 0, none⟩), .int .i64 at_, .int .u64 y, .int .u64 x] w fun e w' => e = .returned (.bool (swaps xs at_ y)) ∧ Wst w' B q n (swapped xs at_ y x) ∧ Below B w w' := by
  have hl := h.len
  cases ht : thr at_ n
  · obtain ⟨e1, e2⟩ := swap_n (x := x) (y := y) hl (.inl ht)
    rw [e1, e2]
    go_enter Try.func82, Try.ntmps82
    go_wp2_with (go_at_call 92; refine (iwRead B q n xs _ _ h hn).mono ?_; rintro e w1 ⟨rfl, rfl⟩; rw [ht])
    go_ret
    exact ⟨rfl, h, Below.refl _ _⟩
  · obtain ⟨i, hi, rfl⟩ := thr_true ht
    obtain ⟨z, hz⟩ : ∃ z : Int, Hid (red xs (i : Int) = z) := ⟨_, rfl⟩
    have er : xs.getD i 0 = z := by rw [← hz.out]; unfold red; rw [hl, ht]; simp
    by_cases hzy : z = y
    · subst hzy
      obtain ⟨e1, e2⟩ := swap_y (x := x) hl hi er
      rw [e1, e2, ← wrote_y hl hi]
      clear er e1 e2
      go_enter Try.func82, Try.ntmps82
      go_wp2_with (first
        | (go_at_call 92; refine (iwRead B q n xs _ _ h hn).mono ?_; rintro e w1 ⟨rfl, rfl⟩; rw [ht, hz.out])
        | (go_at_call 76; refine (iwWrite B q n xs _ _ _ h hn).mono ?_; rintro e w2 ⟨rfl, hW, hb⟩; rw [ht]))
      go_ret
      exact ⟨rfl, hW, hb⟩
    · obtain ⟨e1, e2⟩ := swap_n (a := (i : Int)) (x := x) (y := y) hl (.inr (by rw [Int.toNat_natCast, er]; exact hzy))
      rw [e1, e2]
      clear er e1 e2
      go_enter Try.func82, Try.ntmps82
      go_wp2_with (go_at_call 92; refine (iwRead B q n xs _ _ h hn).mono ?_; rintro e w1 ⟨rfl, rfl⟩; rw [ht, hz.out])
      go_ret
      exact ⟨rfl, h, Below.refl _ _⟩
theorem Ws.full {w : World} {g n : Nat} {xs : List Int} (h : Ws w g n n xs) : w.heap[g]? = some (.cells (xs.map (Value.int .u64)).toArray 26 (0, 0)) := by
  rcases h.own.2 with ⟨hv, _⟩ | ⟨g', cap, cur, hv, h1, h2, h3, h4, h5, h6⟩
  · cases hv
  · obtain ⟨⟨rfl⟩, -, rfl⟩ : (some (⟨g, 0, none⟩ : Addr) = some ⟨g', 0, none⟩) ∧ n = n ∧ n = cap := by simpa using hv
    rw [h2, ← h6]
    have : cur.toList.take (n * 1) = cur.toList := List.take_of_length_le (by simp; omega)
    rw [this]
theorem Ws.of_full {w : World} {g n : Nat} {xs : List Int} (hl : xs.length = n) (hn : n ≤ 16777216) (h : w.heap[g]? = some (.cells (xs.map (Value.int .u64)).toArray 26 (0, 0))) (bd : ∀ x ∈ xs, 0 ≤ x ∧ x ≤ 18446744073709551615) : Ws w g n n xs :=
  ⟨hl, ⟨by simp [hl], .inr ⟨g, n, _, rfl, Nat.zero_le _, h, Nat.le_refl _, by unfold maxLen; omega, by simp [hl], by rw [Nat.mul_one]; exact List.take_of_length_le (by simp [hl])⟩⟩, bd⟩
/-- The words of page i, none behind the list's end. -/
def part64 (xs : List Int) (i : Nat) : List Value := ((xs.drop (64 * i)).take 64).map (Value.int .u64)
theorem part64_len {xs : List Int} {n i : Nat} (hl : xs.length = n) : (part64 xs i).length = Nat.min 64 (n - 64 * i) := by
  simp [part64, hl]
theorem part64_splice {xs : List Int} {n i : Nat} (hl : xs.length = n) (hi : 64 * i < n) :
    splice ((xs.take (64 * i) ++ List.replicate (n - 64 * i) 0).map (Value.int .u64)) (64 * i) (part64 xs i) = (xs.take (64 * (i + 1)) ++ List.replicate (n - 64 * (i + 1)) 0).map (Value.int .u64) := by
  unfold splice
  have e1 : (part64 xs i).length = min 64 (n - 64 * i) := by simp [part64, hl]
  have e2 : ((xs.take (64 * i) ++ List.replicate (n - 64 * i) 0).map (Value.int .u64)).take (64 * i) = (xs.take (64 * i)).map (Value.int .u64) := by
    rw [List.map_append, List.take_append_of_le_length (by simp; omega), List.take_of_length_le (by simp; omega)]
  have e3 : ((xs.take (64 * i) ++ List.replicate (n - 64 * i) 0).map (Value.int .u64)).drop (64 * i + (part64 xs i).length) = (List.replicate (n - 64 * (i + 1)) (0 : Int)).map (Value.int .u64) := by
    rw [e1, List.map_append, List.drop_append, List.drop_eq_nil_of_le (by simp; omega)]
    simp [hl]
    omega
  rw [e2, e3]
  have e4 : xs.take (64 * (i + 1)) = xs.take (64 * i) ++ (xs.drop (64 * i)).take 64 := by
    rw [show 64 * (i + 1) = 64 * i + 64 from by omega, List.take_add]
  rw [e4]
  simp [part64]
theorem part64_src {w : World} {b o i n : Nat} {xs : List Int} (hl : xs.length = n) (h : w.rangeAt b o (chunk xs i)) : ∀ (j : Nat) (v : Value), (part64 xs i)[j]? = some v → w.cell? ((⟨b, o, none⟩ : Addr).add j) = some v := by
  intro j v hv
  have hj : j < min 64 (n - 64 * i) := by
    have := (List.getElem?_eq_some_iff.1 hv).1
    simpa [part64, hl] using this
  rw [Addr.add_mid]
  refine h j v ?_
  rw [chunk_at _ _ _ (by omega), ← hv]
  have h2 : 64 * i + j < xs.length := by omega
  have h3 : j < 64 := by omega
  simp [part64, h2, h3]
theorem part64_one (xs : List Int) (i : Nat) : ∀ u ∈ part64 xs i, u.oneCell' = true := u64_one _
set_option maxHeartbeats 4000000 in
theorem iwList (B q n : Nat) (xs : List Int) (w : World) (h : Wst w B q n xs) (hn : n ≤ 16777216) (bd : ∀ x ∈ xs, 0 ≤ x ∧ x ≤ 18446744073709551615) :
    Calls Try.prog 74 #[.pointer (some ⟨q, 0, none⟩)] w fun e w' => e = .returned (.slice (some ⟨w.heap.size, 0, none⟩) n n) ∧ Ws w' w.heap.size n n xs ∧ Below w.heap.size w w' := by
  have hmk := run_make_row' (P := Try.prog) 30 26 (.int .u64 0) 8 Try.underlying30 infoU rfl .i64 .i64 n (by omega) (by omega)
  have hW := Ws.made w n (by omega)
  have hB : Below w.heap.size w (w.alloc (.cells (madeCells #[.int .u64 0] n) 26)) := (Below.refl _ _).alloc (Nat.le_refl _) _
  obtain ⟨⟨pv, ps, aq, P, h3, h4⟩, hl, hq⟩ := h
  obtain ⟨pa, pb, pc, rfl⟩ := P.sl
  have hpb : pb = (n + 63) / 64 := by
    rcases P.own.2 with ⟨hv, h0⟩ | ⟨r, cap, cur, hv, _⟩
    · obtain ⟨-, rfl, -⟩ : pa = none ∧ pb = 0 ∧ pc = 0 := by simpa using hv
      exact h0.symm
    · obtain ⟨-, e, -⟩ : pa = some ⟨r, 0, none⟩ ∧ pb = (n + 63) / 64 ∧ pc = cap := by simpa using hv
      exact e
  have q0 := aq.cell 0
  have q1 := aq.cell 1
  simp at q0 q1
  have ql := aq.lt
  obtain ⟨M, hM⟩ : ∃ M : Nat, Hid ((n + 63) / 64 = M) := ⟨_, rfl⟩
  rw [hM.out] at hpb P
  subst hpb
  have hMn : pb ≤ 16777216 ∧ ∀ i, i < pb → 64 * i < n := by
    have := hM.out
    exact ⟨by omega, fun i hi => by omega⟩
  have d0 : (w.alloc (.cells (madeCells #[.int .u64 0] n) 26)).cell? ⟨q, 0, none⟩ = some (.slice pa pb pc) := (hB.cell (p := ⟨q, 0, none⟩) ql).trans q0
  go_enter Try.func74, Try.ntmps74
  go_wp2
  obtain ⟨G, hG⟩ : ∃ G : Nat, Hid (G = w.heap.size) := ⟨_, rfl⟩
  rw [← hG.out]
  go_loopg [16] pb (fun g y wr => ∃ i : Nat, i ≤ pb ∧ g = pb - i ∧ y = .int .i64 i ∧ Ws wr G n n (xs.take (64 * i) ++ List.replicate (n - 64 * i) 0) ∧ Below G w wr)
  case atStart => exact ⟨0, Nat.zero_le _, rfl, rfl, by rw [hG.out]; simpa using hW, by rw [hG.out]; exact hB⟩
  case round =>
    clear hW hB hmk d0
    obtain ⟨i, i0, hg, rfl, hW, hB⟩ := hrel
    by_cases hi : i < pb
    · have hi' : (i : Int) < pb := by omega
      have hin := hMn.2 i hi
      rcases P.own.2 with ⟨hv, h0⟩ | ⟨r, cap, cur, hv, _⟩
      · omega
      · obtain ⟨rfl, -, rfl⟩ : pa = some ⟨r, 0, none⟩ ∧ pb = pb ∧ pc = cap := by simpa using hv
        have hp : i < ps.length := by rw [P.len]; exact hi
        obtain ⟨hb, hbr, hc⟩ := P.pg i ps[i] (List.getElem?_eq_getElem hp)
        obtain ⟨b, o, hbo⟩ : ∃ b o, ps[i] = (b, o) := ⟨_, _, rfl⟩
        have c0 : wr.cell? ⟨r, i, none⟩ = some (.pointer (some ⟨b, o, none⟩)) := by
          rw [hB.cell (p := ⟨r, i, none⟩) (by show r < G; rw [hG.out]; exact (World.ownsRow.lt P.own r rfl).2), World.ownsRow.cellAt P.own i (by omega)]
          simp [hp, ptr, hbo]
        rw [hbo] at hb hbr hc
        have hc1 : wr.rangeAt b o (chunk xs i) := rangeAt_block hc (hB.block b (by rw [hG.out]; exact hb))
        have hsrc := part64_src hl hc1
        have hfull := hW.full
        have hlen : (xs.take (64 * i) ++ List.replicate (n - 64 * i) 0).length = n := by simp [hl]; omega
        have hm0 := part64_len (i := i) hl
        have hfit : i * 64 + (part64 xs i).length ≤ ((xs.take (64 * i) ++ List.replicate (n - 64 * i) 0).map (Value.int .u64)).length := by
          rw [List.length_map, hlen, hm0]
          have := Nat.min_le_right 64 (n - 64 * i)
          simp only [Nat.min_def] at *
          split <;> omega
        have hsp := part64_splice hl hin
        have z1 : (i : Int) * 64 < (n : Int) := by omega
        have hm1 : (part64 xs i).length = Nat.min 64 (n - i * 64) := by rw [hm0, Nat.mul_comm]
        have HS : Hid (splice ((xs.take (64 * i) ++ List.replicate (n - 64 * i) 0).map (Value.int .u64)) (i * 64) (part64 xs i) = (xs.take (64 * (i + 1)) ++ List.replicate (n - 64 * (i + 1)) 0).map (Value.int .u64)) := by rw [Nat.mul_comm i 64]; exact hsp
        clear hsp hm0 hlen
        generalize (xs.take (64 * i) ++ List.replicate (n - 64 * i) 0).map (Value.int .u64) = cur at hfull hfit HS
        obtain ⟨s, hs⟩ : ∃ s : Nat, Hid (i * 64 = s) := ⟨_, rfl⟩
        rw [hs.out] at hfit HS hm1
        have hwr : IntKind.i64.wrap ((i : Int) * 64) = (s : Int) := by rw [IntKind.wrap_i64]; have := hs.out; omega
        have s0 : (0 : Int) ≤ (s : Int) := by omega
        have s1 : (s : Int) ≤ (n : Int) := by have := hs.out; omega
        have s2 : ¬ n = s := by have := hs.out; omega
        go_wp2
        go_region_law (refine step_copy_splice (by rfl) (.tmp 24) (.tmp 27) 30 30 (by rfl) 26 Try.underlying30 infoU1 _ _ (n - s) (n - s) 64 64 (by rfl) (by rfl) G s cur 26 hfull (part64 xs i) hm1 (fun _ => ⟨rfl, _, rfl, hsrc⟩) hfit (part64_one xs i) G w hB.drew (Nat.le_refl _) ?_; intro w4 hg4 hb4)
        all_goals
          go_wp2
          have hW4 := Ws.of_full (w := w4) (g := G) (n := n) (xs := xs.take (64 * (i + 1)) ++ List.replicate (n - 64 * (i + 1)) 0) (by simp [hl]; omega) hn (by rw [← HS.out]; exact hg4.out) (fun x hx => by
            rcases List.mem_append.1 hx with hx | hx
            · exact bd x (List.mem_of_mem_take hx)
            · have := (List.mem_replicate.1 hx).2; omega)
          go_roundg (gk - 1)
          case measure => omega
          case rel => exact ⟨i + 1, by omega, by omega, by go_num, hW4, hb4⟩
    · obtain rfl : i = pb := by omega
      go_wp2
      go_ret
      rw [← hG.out]
      refine ⟨rfl, ?_, hB⟩
      have e : xs.take (64 * i) = xs := List.take_of_length_le (by have := hM.out; omega)
      have e2 : n - 64 * i = 0 := by have := hM.out; omega
      rw [e, e2] at hW
      simpa using hW
end Go.Proofs.Ytljpkgloegafnaa
namespace Go.Proofs.Ytljpkgloegafnaa
open Go.RowKit
set_option maxRecDepth 100000
set_option linter.unusedVariables false
set_option linter.unusedSimpArgs false
/-- The struct that wordsOf answered, laid into a variable. -/
theorem Wst.new {w : World} {B n : Nat} {pv : Value} {ps : List (Nat × Nat)} {xs : List Int} (hl : xs.length = n) (P : Pgs w B pv ps ((n + 63) / 64) xs) (hB : B ≤ w.heap.size) :
    Wst (w.alloc (.cells #[pv, .int .i64 n] 65)) B w.heap.size n xs := by
  refine ⟨⟨pv, ps, At.new _ _ _, P.keep ((Below.refl _ _).alloc (Nat.le_refl _) _), fun e => ?_, fun p hp => ?_⟩, hl, hB⟩
  · have := (World.ownsRow.lt P.own _ e).2
    omega
  · obtain ⟨i, hi⟩ := List.getElem?_of_mem hp
    have := (P.pg i p hi).1
    omega
theorem wrote_bd {xs : List Int} {x : Int} (bd : ∀ x ∈ xs, 0 ≤ x ∧ x ≤ 18446744073709551615) (hx : 0 ≤ x ∧ x ≤ 18446744073709551615) (a : Int) : ∀ y ∈ wrote xs a x, 0 ≤ y ∧ y ≤ 18446744073709551615 := by
  intro y hy
  unfold wrote at hy
  split at hy
  · rcases List.mem_or_eq_of_mem_set hy with hy | rfl
    · exact bd y hy
    · exact hx
  · exact bd y hy
theorem swapped_bd {xs : List Int} {x : Int} (bd : ∀ x ∈ xs, 0 ≤ x ∧ x ≤ 18446744073709551615) (hx : 0 ≤ x ∧ x ≤ 18446744073709551615) (a s : Int) : ∀ y ∈ swapped xs a s x, 0 ≤ y ∧ y ≤ 18446744073709551615 := by
  intro y hy
  unfold swapped at hy
  split at hy
  · rcases List.mem_or_eq_of_mem_set hy with hy | rfl
    · exact bd y hy
    · exact hx
  · exact bd y hy
end Go.Proofs.Ytljpkgloegafnaa
namespace Go.Proofs.Ytljpkgloegafnaa
open Go.RowKit
set_option linter.unusedVariables false
set_option linter.unusedSimpArgs false
/-- What stands while blocks are hung: the plan's cells, the list. -/
structure HSt (w0 w : World) (q g n cc : Nat) (p s l c k : Int) (xs : List Int) : Prop where
  box : Box5 w q (.int .i64 p) (.int .i64 s) (.int .i64 l) (.int .i64 c) (.int .i64 k)
  ws : Ws w g n cc xs
  kept : Kept g w0 w
  qg : q ≠ g
theorem HSt.keep {w0 w w' : World} {q g n cc : Nat} {p s l c k : Int} {xs : List Int} (h : HSt w0 w q g n cc p s l c k xs) (hb : Below w.heap.size w w') : HSt w0 w' q g n cc p s l c k xs :=
  ⟨h.box.keep hb, h.ws.keep hb, h.kept.trans (Kept.of_below hb), h.qg⟩
theorem HSt.set {w0 w : World} {q g n cc : Nat} {p s l c k : Int} {xs : List Int} (h : HSt w0 w q g n cc p s l c k xs) (i : Nat) (x : Int) (hx : 0 ≤ x ∧ x ≤ 18446744073709551615) : HSt w0 (w.setCell ⟨g, i, none⟩ (.int .u64 x)) q g n cc p s l c k (xs.set i x) := by
  have hq : ∀ o, (w.setCell ⟨g, i, none⟩ (.int .u64 x)).cell? ⟨q, o, none⟩ = w.cell? ⟨q, o, none⟩ := fun o => World.cell?_of_block (w := w) (Below.heap_setCell _ _ _ _ h.qg)
  exact ⟨⟨by simpa [World.setCell] using h.box.lt, (hq 0).trans h.box.c0, (hq 1).trans h.box.c1, (hq 2).trans h.box.c2, (hq 3).trans h.box.c3, (hq 4).trans h.box.c4⟩, h.ws.set i x hx, h.kept.set _ _, h.qg⟩
theorem HSt.go {w0 w w' : World} {q g n cc : Nat} {p s l c k : Int} {xs ys : List Int} (h : HSt w0 w q g n cc p s l c k xs) (kk : Kept g w w') (W : Ws w' g n cc ys) : HSt w0 w' q g n cc p s l c k ys := by
  have hq : ∀ o, w'.cell? ⟨q, o, none⟩ = w.cell? ⟨q, o, none⟩ := fun o => kk.cell h.box.lt h.qg
  exact ⟨⟨Nat.lt_of_lt_of_le h.box.lt kk.size, (hq 0).trans h.box.c0, (hq 1).trans h.box.c1, (hq 2).trans h.box.c2, (hq 3).trans h.box.c3, (hq 4).trans h.box.c4⟩, W, h.kept.trans kk, h.qg⟩
/-- The blank arena of a plan. -/
def blank0 (p s l c k : Int) : List Int :=
  (((List.replicate (zF p s l c).toNat 0).set (vBlock p s l c k 1 0).toNat (pk 2 0 0 0)).set (vRoot p s l c k 3).toNat (pk 0 0 1 0)).set (vRoot p s l c k 4).toNat (pk 0 0 1 0)
def blank1 (p s l c k : Int) : List Int := hung (fun b => vBlock p s l c k b 1) (vRoot p s l c k 0) 2 (blank0 p s l c k) (s - 2 + 1).toNat
def blank2 (p s l c k : Int) : List Int := hung (fun b => vBlock p s l c k b 1) (vRoot p s l c k 1) (s + 1) (blank1 p s l c k) (s + l - (s + 1) + 1).toNat
def blank (p s l c k : Int) : List Int := if ok p s l c k = true then blank2 p s l c k else []
theorem kept_below {g : Nat} {w w' w0 : World} (h : Below w0.heap.size w0 w) (k : Kept g w w') (hg : w0.heap.size ≤ g) : Below w0.heap.size w0 w' := h.trans (k.below hg h.size)
end Go.Proofs.Ytljpkgloegafnaa
namespace Go.Proofs.Ytljpkgloegafnaa
open Go.RowKit
set_option linter.unusedVariables false
set_option linter.unusedSimpArgs false
/-- What stands at the head of the round of block b; and, in it, behind the writing of the root. -/
def Rb (lk : Int → Int) (q0 q1 s l : Int) (y0 y1 : List Int) (b : Int) (ys : List Int) : Prop :=
  (b ≤ s ∧ ys = hung lk q0 2 y0 (hc 2 b)) ∨ (s < b ∧ b ≤ s + l ∧ ys = hung lk q1 (s + 1) y1 (hc (s + 1) b)) ∨ (b = s + l + 1 ∧ ys = hung lk q1 (s + 1) y1 l.toNat)
def Mb (lk : Int → Int) (q0 q1 s l : Int) (y0 y1 : List Int) (b : Int) (ms : List Int) : Prop :=
  (b ≤ s ∧ ms = hung lk q0 2 y0 (b - 2 + 1).toNat) ∨ (s < b ∧ b ≤ s + l ∧ ms = hung lk q1 (s + 1) y1 (b - (s + 1) + 1).toNat)
theorem Rb.mid_n {lk : Int → Int} {q0 q1 s l : Int} {y0 y1 : List Int} {b : Int} {ys : List Int} (h : Rb lk q0 q1 s l y0 y1 b ys) (b0 : 2 ≤ b) (b1 : b ≤ s + l) (hA : ¬ (b = s + 1 ∨ (b = 2 ∧ 1 < s))) : Mb lk q0 q1 s l y0 y1 b ys := by
  rcases h with ⟨h1, h2⟩ | ⟨h1, h2, h3⟩ | ⟨h1, h2⟩
  · exact .inl ⟨h1, by rw [h2, hc_n (by omega)]⟩
  · exact .inr ⟨h1, h2, by rw [h3, hc_n (by omega)]⟩
  · omega
theorem Rb.mid_y {lk : Int → Int} {q0 q1 s l : Int} {y0 y1 : List Int} {b : Int} {ys : List Int} (h : Rb lk q0 q1 s l y0 y1 b ys) (b0 : 2 ≤ b) (b1 : b ≤ s + l) (hA : b = s + 1 ∨ (b = 2 ∧ 1 < s)) : Mb lk q0 q1 s l y0 y1 b (ys.set (if b ≤ s then q0 else q1).toNat (pk 0 0 b 0)) := by
  rcases h with ⟨h1, h2⟩ | ⟨h1, h2, h3⟩ | ⟨h1, h2⟩
  · obtain rfl : b = 2 := by omega
    rw [if_pos h1, h2]
    exact .inl ⟨h1, hung_A _ _ _ _⟩
  · obtain rfl : b = s + 1 := by omega
    rw [if_neg (by omega), h3]
    exact .inr ⟨h1, h2, hung_A _ _ _ _⟩
  · omega
theorem Mb.next_y {lk : Int → Int} {q0 q1 s l : Int} {y0 y1 : List Int} {b : Int} {ms : List Int} (h : Mb lk q0 q1 s l y0 y1 b ms) (b0 : 2 ≤ b) (h1 : b ≠ s) (h2 : b ≠ s + l) : Rb lk q0 q1 s l y0 y1 (b + 1) (ms.set (lk b).toNat (pk 0 0 (b + 1) 0)) := by
  rcases h with ⟨h3, rfl⟩ | ⟨h3, h4, rfl⟩
  · exact .inl ⟨by omega, hung_B _ _ _ _ _ (by omega)⟩
  · exact .inr (.inl ⟨by omega, by omega, hung_B _ _ _ _ _ (by omega)⟩)
theorem Mb.next_n {lk : Int → Int} {q0 q1 s l : Int} {y0 y1 : List Int} {b : Int} {ms : List Int} (h : Mb lk q0 q1 s l y0 y1 b ms) (FS : y1 = hung lk q0 2 y0 (s - 2 + 1).toNat) (b0 : 2 ≤ b) (l0 : 0 ≤ l) (h1 : b = s ∨ b = s + l) : Rb lk q0 q1 s l y0 y1 (b + 1) ms := by
  rcases h with ⟨h3, rfl⟩ | ⟨h3, h4, rfl⟩
  · obtain rfl : b = s := by omega
    rw [← FS]
    by_cases hl : 1 ≤ l
    · refine .inr (.inl ⟨by omega, by omega, ?_⟩)
      simp [hc, hung]
    · refine .inr (.inr ⟨by omega, ?_⟩)
      rw [show l.toNat = 0 from by omega]
      rfl
  · refine .inr (.inr ⟨by omega, ?_⟩)
    rw [show b - (s + 1) + 1 = l from by omega]
set_option maxHeartbeats 4000000 in
theorem sBlank (p s l c k : Int) (w : World) :
    Calls Try.prog 8 #[.agg #[.int .i64 p, .int .i64 s, .int .i64 l, .int .i64 c, .int .i64 k]] w fun e w' => ∃ g n cc, e = .returned (.slice (some ⟨g, 0, none⟩) n cc) ∧ w.heap.size ≤ g ∧ Ws w' g n cc (blank p s l c k) ∧ n ≤ 10000 ∧ Below w.heap.size w w' := by
  have z : Below w.heap.size w (w.alloc (Obj.cells #[.int .i64 p, .int .i64 s, .int .i64 l, .int .i64 c, .int .i64 k] 28)) := (Below.refl _ _).alloc (Nat.le_refl _) _
  have B := Box5.new w (.int .i64 p) (.int .i64 s) (.int .i64 l) (.int .i64 c) (.int .i64 k) 28
  cases ho : ok p s l c k
  · have e : blank p s l c k = [] := by unfold blank; rw [ho]; simp
    rw [e]
    go_enter Try.func8, Try.ntmps8
    go_wp2_with (go_at_call 21; refine (sPlanOk _ _ _ _ _ _).mono ?_; rintro e w1 ⟨rfl, hb⟩; rw [ho]; replace z := z.trans (hb.mono z.size); clear hb)
    go_ret
    exact ⟨w1.heap.size, 0, 0, rfl, z.size, ⟨rfl, by simpa using wlit w1 0 (Nat.zero_le _), by simp⟩, by omega, z.alloc z.size _⟩
  · have e : blank p s l c k = blank2 p s l c k := by unfold blank; rw [if_pos ho]
    rw [e]
    have h' := ok_iff.1 ho
    obtain ⟨n, hn1, hn2, hn3⟩ := size_in ho
    obtain ⟨i1, e1, l1⟩ := blk_in (f := 0) ho (b := 1) (by omega) (by omega) (by omega) (by omega)
    obtain ⟨i2, e2, l2⟩ := root_in ho (r := 3) (by omega) (by omega)
    obtain ⟨i3, e3, l3⟩ := root_in ho (r := 4) (by omega) (by omega)
    have E : Hid (vSize p s l c k = (n : Int) ∧ (n : Int) = zF p s l c ∧ vBlock p s l c k 1 0 = (i1 : Int) ∧ vRoot p s l c k 3 = (i2 : Int) ∧ vRoot p s l c k 4 = (i3 : Int)) := ⟨hn1, hn2, e1, e2, e3⟩
    rw [← hn2] at l1 l2 l3
    have HB : Hid (blank0 p s l c k = (((List.replicate n 0).set i1 (pk 2 0 0 0)).set i2 (pk 0 0 1 0)).set i3 (pk 0 0 1 0)) := by
      show _ = _
      unfold blank0
      rw [e1, e2, e3, ← hn2]
      simp
    clear hn1 hn2 e1 e2 e3 e
    obtain ⟨Z, hZ⟩ : ∃ Z : List Int, Hid (blank2 p s l c k = Z) := ⟨_, rfl⟩
    rw [hZ.out]
    have hmk := run_make_row' (P := Try.prog) 30 26 (.int .u64 0) 8 Try.underlying30 infoU rfl .i64 .i64 n (by omega) (by omega)
    have b1 := pk_bd (k := 2) (p := 0) (i := 0) (s := 0) (wOk_iff.2 (by omega))
    have b2 := pk_bd (k := 0) (p := 0) (i := 1) (s := 0) (wOk_iff.2 (by omega))
    obtain ⟨v1, hv1⟩ : ∃ v1 : Int, Hid (pk 2 0 0 0 = v1) := ⟨_, rfl⟩
    obtain ⟨v2, hv2⟩ : ∃ v2 : Int, Hid (pk 0 0 1 0 = v2) := ⟨_, rfl⟩
    rw [hv1.out] at HB b1
    rw [hv2.out] at HB b2
    go_enter Try.func8, Try.ntmps8
    go_wp2_with fail
    refine (sPlanOk _ _ _ _ _ _).mono ?_; rintro e w1 ⟨rfl, hb⟩; rw [ho]; replace z := z.trans (hb.mono z.size); replace B := B.keep hb; obtain ⟨c0, c1, c2, c3, c4⟩ := B.five; clear hb
    go_wp2_with fail
    refine (sSize _ _ _ _ _ _).mono ?_; rintro e w2 ⟨rfl, hb⟩; rw [E.out.1]; replace z := z.trans (hb.mono z.size); replace B := B.keep hb; clear hb c0 c1 c2 c3 c4
    have g0 := z.size
    have ql := B.lt
    have W := Ws.made w2 n (by omega)
    replace B := B.keep ((Below.refl _ _).alloc (Nat.le_refl _) (Obj.cells (madeCells #[.int .u64 0] n) 26))
    replace z := z.alloc g0 (Obj.cells (madeCells #[.int .u64 0] n) 26)
    obtain ⟨c0, c1, c2, c3, c4⟩ := B.five
    go_wp2_with fail
    clear hmk
    generalize w2.heap.size = g at *
    have st : HSt (w2.alloc (Obj.cells (madeCells #[.int .u64 0] n) 26)) (w2.alloc (Obj.cells (madeCells #[.int .u64 0] n) 26)) w.heap.size g n n p s l c k (List.replicate n 0) := ⟨B, W, Kept.refl _ _, by omega⟩
    generalize w2.alloc (Obj.cells (madeCells #[.int .u64 0] n) 26) = w3 at *
    clear B W
    refine (sBlock _ _ _ _ _ _ _ _).mono ?_; rintro e w4 ⟨rfl, hb⟩; rw [E.out.2.2.1]; replace st := st.keep hb; clear hb c0 c1 c2 c3 c4; obtain ⟨c0, c1, c2, c3, c4⟩ := st.box.five
    go_wp2_with fail
    refine (sPack1 _ _ _ _ _ (wOk_iff.2 (by omega))).mono ?_; rintro e w5 ⟨rfl, hb⟩; rw [hv1.out]; replace st := st.keep hb; clear hb c0 c1 c2 c3 c4; have d0 := st.ws.cell i1 (by omega); have f0 := st.ws.frozen i1; replace st := st.set i1 v1 b1; obtain ⟨c0, c1, c2, c3, c4⟩ := st.box.five
    go_wp2_with fail
    generalize w5.setCell ⟨g, i1, none⟩ (.int .u64 v1) = w6 at *
    clear d0 f0
    refine (sRoot _ _ _ _ _ _ _).mono ?_; rintro e w7 ⟨rfl, hb⟩; rw [E.out.2.2.2.1]; replace st := st.keep hb; clear hb c0 c1 c2 c3 c4; obtain ⟨c0, c1, c2, c3, c4⟩ := st.box.five
    go_wp2_with fail
    refine (sPack1 _ _ _ _ _ (wOk_iff.2 (by omega))).mono ?_; rintro e w8 ⟨rfl, hb⟩; rw [hv2.out]; replace st := st.keep hb; clear hb c0 c1 c2 c3 c4; have d0 := st.ws.cell i2 (by omega); have f0 := st.ws.frozen i2; replace st := st.set i2 v2 b2; obtain ⟨c0, c1, c2, c3, c4⟩ := st.box.five
    go_wp2_with fail
    generalize w8.setCell ⟨g, i2, none⟩ (.int .u64 v2) = w9 at *
    clear d0 f0
    refine (sRoot _ _ _ _ _ _ _).mono ?_; rintro e w10 ⟨rfl, hb⟩; rw [E.out.2.2.2.2]; replace st := st.keep hb; clear hb c0 c1 c2 c3 c4; obtain ⟨c0, c1, c2, c3, c4⟩ := st.box.five
    go_wp2_with fail
    refine (sPack1 _ _ _ _ _ (wOk_iff.2 (by omega))).mono ?_; rintro e w11 ⟨rfl, hb⟩; rw [hv2.out]; replace st := st.keep hb; clear hb c0 c1 c2 c3 c4; have d0 := st.ws.cell i3 (by omega); have f0 := st.ws.frozen i3; replace st := st.set i3 v2 b2; obtain ⟨c0, c1, c2, c3, c4⟩ := st.box.five
    go_wp2
    generalize w11.setCell ⟨g, i3, none⟩ (.int .u64 v2) = w12 at *
    clear d0 f0
    rw [← HB.out] at st
    have FZ : Hid (hung (fun b => vBlock p s l c k b 1) (vRoot p s l c k 1) (s + 1) (blank1 p s l c k) l.toNat = Z) := by
      show _ = _
      rw [← hZ.out]
      unfold blank2
      rw [show s + l - (s + 1) + 1 = l from by omega]
    have FS : Hid (blank1 p s l c k = hung (fun b => vBlock p s l c k b 1) (vRoot p s l c k 0) 2 (blank0 p s l c k) (s - 2 + 1).toNat) := rfl
    clear hZ
    generalize blank1 p s l c k = y1 at *
    generalize blank0 p s l c k = y0 at *
    obtain ⟨lk, hlk⟩ : ∃ lk : Int → Int, Hid ((fun b => vBlock p s l c k b 1) = lk) := ⟨_, rfl⟩
    obtain ⟨q0, hq0⟩ : ∃ q0 : Int, Hid (vRoot p s l c k 0 = q0) := ⟨_, rfl⟩
    obtain ⟨q1, hq1⟩ : ∃ q1 : Int, Hid (vRoot p s l c k 1 = q1) := ⟨_, rfl⟩
    rw [hlk.out, hq0.out] at FS
    rw [hlk.out, hq1.out] at FZ
    have HO : Hid (ok p s l c k = true) := ho
    clear ho HB c0 c1 c2 c3 c4
    go_loopg [4] ((s + l - 1).toNat) (fun g' y wr => ∃ (b : Int) (ys : List Int), 2 ≤ b ∧ b ≤ s + l + 1 ∧ (g' : Int) = s + l + 1 - b ∧ y = .int .i64 b ∧ HSt w3 wr w.heap.size g n n p s l c k ys ∧
        Rb lk q0 q1 s l y0 y1 b ys)
    case atStart =>
      refine ⟨2, y0, by omega, by omega, by omega, rfl, st, ?_⟩
      by_cases hs : 2 ≤ s
      · exact .inl ⟨hs, rfl⟩
      · have e1 : y1 = y0 := by rw [FS.out, show (s - 2 + 1).toNat = 0 from by omega]; rfl
        by_cases hl : 1 ≤ l
        · refine .inr (.inl ⟨by omega, by omega, ?_⟩)
          rw [e1, show s + 1 = 2 from by omega]
          rfl
        · refine .inr (.inr ⟨by omega, ?_⟩)
          rw [e1, show l.toNat = 0 from by omega]
          rfl
    case round =>
      clear st
      obtain ⟨b, ys, b0, bq, hg, rfl, st, hR⟩ := hrel
      have HR : Hid (Rb lk q0 q1 s l y0 y1 b ys) := hR
      clear hR
      obtain ⟨c0, c1, c2, c3, c4⟩ := st.box.five
      by_cases hb1 : b ≤ s + l
      · obtain ⟨il, el, ll⟩ := blk_in (f := 1) HO.out (b := b) (by omega) hb1 (by omega) (by omega)
        rw [← E.out.2.1] at ll
        have EL : Hid (vBlock p s l c k b 1 = (il : Int)) := el
        have bn := pk_bd (pkI (b := b + 1) (by omega) (by omega))
        obtain ⟨vn, hvn⟩ : ∃ vn : Int, Hid (pk 0 0 (b + 1) 0 = vn) := ⟨_, rfl⟩
        rw [hvn.out] at bn
        by_cases hA : b = s + 1 ∨ (b = 2 ∧ 1 < s)
        · obtain ⟨cl, ir, hcl, hir, lr, hqi⟩ : ∃ (cl : Int) (ir : Nat), Hid (vClass p s l c k b = cl ∧ 0 ≤ cl ∧ cl ≤ 1) ∧ Hid (vRoot p s l c k cl = (ir : Int)) ∧ (ir : Int) < n ∧ Hid ((if b ≤ s then q0 else q1) = (ir : Int)) := by
            by_cases hbs : b ≤ s
            · obtain ⟨ir, h1, h2⟩ := root_in HO.out (r := 0) (by omega) (by omega)
              refine ⟨0, ir, ⟨?_, by omega, by omega⟩, h1, by rw [E.out.2.1]; exact h2, ?_⟩
              · unfold vClass; rw [if_pos ⟨HO.out, by omega, by omega⟩, if_pos hbs]
              · show _ = _
                rw [if_pos hbs, ← hq0.out, h1]
            · obtain ⟨ir, h1, h2⟩ := root_in HO.out (r := 1) (by omega) (by omega)
              refine ⟨1, ir, ⟨?_, by omega, by omega⟩, h1, by rw [E.out.2.1]; exact h2, ?_⟩
              · unfold vClass; rw [if_pos ⟨HO.out, by omega, by omega⟩, if_neg hbs]
              · show _ = _
                rw [if_neg hbs, ← hq1.out, h1]
          have bv := pk_bd (pkI (b := b) (by omega) (by omega))
          have M0 := HR.out.mid_y b0 hb1 hA
          obtain ⟨vb, hvb⟩ : ∃ vb : Int, Hid (pk 0 0 b 0 = vb) := ⟨_, rfl⟩
          rw [hqi.out, hvb.out, Int.toNat_natCast] at M0
          rw [hvb.out] at bv
          have MID : Hid (Mb lk q0 q1 s l y0 y1 b (ys.set ir vb)) := M0
          clear M0
          have clb := hcl.out.2
          have hcw : IntKind.i64.wrap (0 + cl) = cl := by rw [IntKind.wrap_i64]; omega
          have hcw2 : IntKind.i64.wrap cl = cl := by rw [IntKind.wrap_i64]; omega
          have qg1 := st.qg
          have qg2 := Ne.symm st.qg
          have std := st.keep (Below.refl _ _).drew
          have hA0 : ((b == s + 1) = true) ∨ ((b == s + 1) = false ∧ (b == 2) = true ∧ 1 < s) := by
            rcases hA with hA | ⟨hA, h2⟩
            · exact .inl (by simp [hA])
            · by_cases h3 : b = s + 1
              · exact .inl (by simp [h3])
              · exact .inr ⟨by simp [h3], by simp [hA], h2⟩
          clear hA
          rcases hA0 with hA | ⟨hA, h2, h3⟩
          · go_upto_region 11 with fail
            go_region_held3 (fun w' => w'.cell? ⟨w.heap.size, 0, none⟩ = some (.int .i64 p) ∧ w'.cell? ⟨w.heap.size, 1, none⟩ = some (.int .i64 s) ∧ w'.cell? ⟨w.heap.size, 2, none⟩ = some (.int .i64 l) ∧ w'.cell? ⟨w.heap.size, 3, none⟩ = some (.int .i64 c) ∧ w'.cell? ⟨w.heap.size, 4, none⟩ = some (.int .i64 k)) (go_keep)
              (first
              | (go_at_call 26; refine (sClass _ _ _ _ _ _ _).mono ?_; rintro e w2 ⟨rfl, hb⟩; rw [hcl.out.1]; replace std := std.keep hb; clear hb c0 c1 c2 c3 c4; obtain ⟨c0, c1, c2, c3, c4⟩ := std.box.five)
              | (go_at_call 25; refine (sRoot _ _ _ _ _ _ _).mono ?_; rintro e w2 ⟨rfl, hb⟩; (first | rw [hir.out] | rw [hcw, hir.out] | rw [hcw2, hir.out]); replace std := std.keep hb; clear hb c0 c1 c2 c3 c4; obtain ⟨c0, c1, c2, c3, c4⟩ := std.box.five)
              | (go_at_call 23; refine (sPack1 _ _ _ _ _ (pkI (by omega) (by omega))).mono ?_; rintro e w2 ⟨rfl, hb⟩; rw [hvb.out]; replace std := std.keep hb; clear hb c0 c1 c2 c3 c4; obtain ⟨c0, c1, c2, c3, c4⟩ := std.box.five; have d0 := std.ws.cell ir (by omega); have f0 := std.ws.frozen ir))
            have sm := std.set ir vb bv
            have MID2 : Hid (Mb lk q0 q1 s l y0 y1 b (ys.set ir vb)) := MID
            clear MID
            clear std st d0 f0 c0 c1 c2 c3 c4
            generalize w2.setCell ⟨g, ir, none⟩ (.int .u64 vb) = wm at *
            obtain ⟨ms, hms⟩ : ∃ ms : List Int, Hid (ys.set ir vb = ms) := ⟨_, rfl⟩
            rw [hms.out] at sm MID2
            have MID := MID2
            obtain ⟨c0, c1, c2, c3, c4⟩ := sm.box.five
            by_cases hB : b = s ∨ b = s + l
            · have HN := MID.out.next_n (FS.out) b0 (by omega) hB
              have HNN : Hid (Rb lk q0 q1 s l y0 y1 (b + 1) ms) := HN
              clear HN
              by_cases hbs : b = s
              · clear hB
                go_wp2
                go_roundg (gk - 1)
                case measure => omega
                case rel => exact ⟨b + 1, ms, by omega, by omega, by omega, by go_num, sm, HNN.out⟩
              · have hB3 : b = s + l := hB.resolve_left hbs
                clear hB
                go_wp2
                go_roundg (gk - 1)
                case measure => omega
                case rel => exact ⟨b + 1, ms, by omega, by omega, by omega, by go_num, sm, HNN.out⟩
            · have hB1 : b ≠ s := fun e => hB (.inl e)
              have hB2 : b ≠ s + l := fun e => hB (.inr e)
              have HN := MID.out.next_y b0 hB1 hB2
              rw [← hlk.out, show (fun b => vBlock p s l c k b 1) b = (il : Int) from EL.out, hvn.out, Int.toNat_natCast, hlk.out] at HN
              have HNN : Hid (Rb lk q0 q1 s l y0 y1 (b + 1) (ms.set il vn)) := HN
              clear HN
              have std := sm
              clear hB
              have hB3 : (b != s) = true := by simp [hB1]
              have hB4 : (b != s + l) = true := by simp [hB2]
              go_wp2_with (first
                | (go_at_call 24; refine (sBlock _ _ _ _ _ _ _ _).mono ?_; rintro e w2 ⟨rfl, hb⟩; rw [EL.out]; replace std := std.keep hb; clear hb c0 c1 c2 c3 c4; obtain ⟨c0, c1, c2, c3, c4⟩ := std.box.five)
                | (go_at_call 23; refine (sPack1 _ _ _ _ _ (pkI (by omega) (by omega))).mono ?_; rintro e w2 ⟨rfl, hb⟩; rw [hvn.out]; replace std := std.keep hb; clear hb c0 c1 c2 c3 c4; obtain ⟨c0, c1, c2, c3, c4⟩ := std.box.five; have d0 := std.ws.cell il (by omega); have f0 := std.ws.frozen il; replace std := std.set il vn bn))
              go_roundg (gk - 1)
              case measure => omega
              case rel => exact ⟨b + 1, _, by omega, by omega, by omega, by go_num, std, HNN.out⟩
          · go_upto_region 11 with fail
            go_region_held3 (fun w' => w'.cell? ⟨w.heap.size, 0, none⟩ = some (.int .i64 p) ∧ w'.cell? ⟨w.heap.size, 1, none⟩ = some (.int .i64 s) ∧ w'.cell? ⟨w.heap.size, 2, none⟩ = some (.int .i64 l) ∧ w'.cell? ⟨w.heap.size, 3, none⟩ = some (.int .i64 c) ∧ w'.cell? ⟨w.heap.size, 4, none⟩ = some (.int .i64 k)) (go_keep)
              (first
              | (go_at_call 26; refine (sClass _ _ _ _ _ _ _).mono ?_; rintro e w2 ⟨rfl, hb⟩; rw [hcl.out.1]; replace std := std.keep hb; clear hb c0 c1 c2 c3 c4; obtain ⟨c0, c1, c2, c3, c4⟩ := std.box.five)
              | (go_at_call 25; refine (sRoot _ _ _ _ _ _ _).mono ?_; rintro e w2 ⟨rfl, hb⟩; (first | rw [hir.out] | rw [hcw, hir.out] | rw [hcw2, hir.out]); replace std := std.keep hb; clear hb c0 c1 c2 c3 c4; obtain ⟨c0, c1, c2, c3, c4⟩ := std.box.five)
              | (go_at_call 23; refine (sPack1 _ _ _ _ _ (pkI (by omega) (by omega))).mono ?_; rintro e w2 ⟨rfl, hb⟩; rw [hvb.out]; replace std := std.keep hb; clear hb c0 c1 c2 c3 c4; obtain ⟨c0, c1, c2, c3, c4⟩ := std.box.five; have d0 := std.ws.cell ir (by omega); have f0 := std.ws.frozen ir))
            have sm := std.set ir vb bv
            have MID2 : Hid (Mb lk q0 q1 s l y0 y1 b (ys.set ir vb)) := MID
            clear MID
            clear std st d0 f0 c0 c1 c2 c3 c4
            generalize w2.setCell ⟨g, ir, none⟩ (.int .u64 vb) = wm at *
            obtain ⟨ms, hms⟩ : ∃ ms : List Int, Hid (ys.set ir vb = ms) := ⟨_, rfl⟩
            rw [hms.out] at sm MID2
            have MID := MID2
            obtain ⟨c0, c1, c2, c3, c4⟩ := sm.box.five
            by_cases hB : b = s ∨ b = s + l
            · have HN := MID.out.next_n (FS.out) b0 (by omega) hB
              have HNN : Hid (Rb lk q0 q1 s l y0 y1 (b + 1) ms) := HN
              clear HN
              by_cases hbs : b = s
              · clear hB
                go_wp2
                go_roundg (gk - 1)
                case measure => omega
                case rel => exact ⟨b + 1, ms, by omega, by omega, by omega, by go_num, sm, HNN.out⟩
              · have hB3 : b = s + l := hB.resolve_left hbs
                clear hB
                go_wp2
                go_roundg (gk - 1)
                case measure => omega
                case rel => exact ⟨b + 1, ms, by omega, by omega, by omega, by go_num, sm, HNN.out⟩
            · have hB1 : b ≠ s := fun e => hB (.inl e)
              have hB2 : b ≠ s + l := fun e => hB (.inr e)
              have HN := MID.out.next_y b0 hB1 hB2
              rw [← hlk.out, show (fun b => vBlock p s l c k b 1) b = (il : Int) from EL.out, hvn.out, Int.toNat_natCast, hlk.out] at HN
              have HNN : Hid (Rb lk q0 q1 s l y0 y1 (b + 1) (ms.set il vn)) := HN
              clear HN
              have std := sm
              clear hB
              have hB3 : (b != s) = true := by simp [hB1]
              have hB4 : (b != s + l) = true := by simp [hB2]
              go_wp2_with (first
                | (go_at_call 24; refine (sBlock _ _ _ _ _ _ _ _).mono ?_; rintro e w2 ⟨rfl, hb⟩; rw [EL.out]; replace std := std.keep hb; clear hb c0 c1 c2 c3 c4; obtain ⟨c0, c1, c2, c3, c4⟩ := std.box.five)
                | (go_at_call 23; refine (sPack1 _ _ _ _ _ (pkI (by omega) (by omega))).mono ?_; rintro e w2 ⟨rfl, hb⟩; rw [hvn.out]; replace std := std.keep hb; clear hb c0 c1 c2 c3 c4; obtain ⟨c0, c1, c2, c3, c4⟩ := std.box.five; have d0 := std.ws.cell il (by omega); have f0 := std.ws.frozen il; replace std := std.set il vn bn))
              go_roundg (gk - 1)
              case measure => omega
              case rel => exact ⟨b + 1, _, by omega, by omega, by omega, by go_num, std, HNN.out⟩
        · have MID : Hid (Mb lk q0 q1 s l y0 y1 b ys) := HR.out.mid_n b0 hb1 hA
          have hA1 : ¬ b = s + 1 := fun e => hA (.inl e)
          have hA2 : ¬ (b = 2 ∧ 1 < s) := fun e => hA (.inr e)
          obtain ⟨ms, hms⟩ : ∃ ms : List Int, Hid (ms = ys) := ⟨_, rfl⟩
          have sm := st
          rw [← hms.out] at sm MID
          clear hA
          have h2 : ¬ b = 2 := by omega
          clear hA2
          go_upto_region 12 with fail
          by_cases hB : b = s ∨ b = s + l
          · have HN := MID.out.next_n (FS.out) b0 (by omega) hB
            have HNN : Hid (Rb lk q0 q1 s l y0 y1 (b + 1) ms) := HN
            clear HN
            by_cases hbs : b = s
            · clear hB
              go_wp2
              go_roundg (gk - 1)
              case measure => omega
              case rel => exact ⟨b + 1, ms, by omega, by omega, by omega, by go_num, sm, HNN.out⟩
            · have hB3 : b = s + l := hB.resolve_left hbs
              clear hB
              go_wp2
              go_roundg (gk - 1)
              case measure => omega
              case rel => exact ⟨b + 1, ms, by omega, by omega, by omega, by go_num, sm, HNN.out⟩
          · have hB1 : b ≠ s := fun e => hB (.inl e)
            have hB2 : b ≠ s + l := fun e => hB (.inr e)
            have HN := MID.out.next_y b0 hB1 hB2
            rw [← hlk.out, show (fun b => vBlock p s l c k b 1) b = (il : Int) from EL.out, hvn.out, Int.toNat_natCast, hlk.out] at HN
            have HNN : Hid (Rb lk q0 q1 s l y0 y1 (b + 1) (ms.set il vn)) := HN
            clear HN
            have std := sm
            clear hB
            have hB3 : (b != s) = true := by simp [hB1]
            have hB4 : (b != s + l) = true := by simp [hB2]
            go_wp2_with (first
              | (go_at_call 24; refine (sBlock _ _ _ _ _ _ _ _).mono ?_; rintro e w2 ⟨rfl, hb⟩; rw [EL.out]; replace std := std.keep hb; clear hb c0 c1 c2 c3 c4; obtain ⟨c0, c1, c2, c3, c4⟩ := std.box.five)
              | (go_at_call 23; refine (sPack1 _ _ _ _ _ (pkI (by omega) (by omega))).mono ?_; rintro e w2 ⟨rfl, hb⟩; rw [hvn.out]; replace std := std.keep hb; clear hb c0 c1 c2 c3 c4; obtain ⟨c0, c1, c2, c3, c4⟩ := std.box.five; have d0 := std.ws.cell il (by omega); have f0 := std.ws.frozen il; replace std := std.set il vn bn))
            go_roundg (gk - 1)
            case measure => omega
            case rel => exact ⟨b + 1, _, by omega, by omega, by omega, by go_num, std, HNN.out⟩
      · obtain rfl : b = s + l + 1 := by omega
        go_wp2
        go_ret
        have hf : ys = Z := by
          rw [← FZ.out]
          rcases HR.out with ⟨h1, h2⟩ | ⟨h1, h2, h3⟩ | ⟨h1, h2⟩
          · omega
          · omega
          · exact h2
        rw [hf] at st
        exact ⟨g, n, n, rfl, g0, st.ws, hn3, kept_below z st.kept g0⟩
end Go.Proofs.Ytljpkgloegafnaa
namespace Go.Proofs.Ytljpkgloegafnaa
open Go.RowKit
set_option linter.unusedVariables false
structure Hd where
  up : Bool
  inn : Bool
  sure : Bool
  known : Bool
  life : Int
  at_ : Int
  code : Int
  a : Int
  b : Int
  c : Int
  number : Int
  for_ : Int
  last : Int
  mine : Int
  addr : Int
  seen : Int
  put : Int
  good : Int
  bad : Int
  does : Int
  block : Int
  from_ : Int
  next : Int
  value : Int
  index : Int
  which : Int
  kept : Int
  wasCode : Int
  wasItem : Int
  wasNumber : Int
  wasKind : Int
  wasTag : Int
  reply : Int
  out : Int
  mark : Int
  begin_ : Int
def Hd.vs (h : Hd) : List Value := [.bool h.up, .bool h.inn, .bool h.sure, .bool h.known, .int .i64 h.life, .int .i64 h.at_, .int .i64 h.code, .int .i64 h.a, .int .i64 h.b, .int .i64 h.c, .int .i64 h.number, .int .i64 h.for_, .int .i64 h.last, .int .i64 h.mine, .int .i64 h.addr, .int .u64 h.seen, .int .u64 h.put, .int .i64 h.good, .int .i64 h.bad, .int .i64 h.does, .int .i64 h.block, .int .i64 h.from_, .int .i64 h.next, .int .i64 h.value, .int .i64 h.index, .int .i64 h.which, .int .i64 h.kept, .int .i64 h.wasCode, .int .i64 h.wasItem, .int .i64 h.wasNumber, .int .i64 h.wasKind, .int .i64 h.wasTag, .int .i64 h.reply, .int .i64 h.out, .int .i64 h.mark, .int .i64 h.begin_]
def Hd.ar (h : Hd) : Array Value := h.vs.toArray
def Hd.zero : Hd := ⟨false, false, false, false, 0, 0, 0, 0, 0, 0, 0, 0, 0, 0, 0, 0, 0, 0, 0, 0, 0, 0, 0, 0, 0, 0, 0, 0, 0, 0, 0, 0, 0, 0, 0, 0⟩
theorem Hd.len (h : Hd) : h.vs.length = 36 := rfl
theorem Hd.sz (h : Hd) : h.ar.size = 36 := rfl
theorem Hd.one (h : Hd) : ∀ v ∈ h.vs, v.oneCell' = true := by
  simp [Hd.vs, Value.oneCell']
def fill (cs : Array Value) : Nat → List Value → Array Value
  | _, [] => cs
  | o, v :: r => fill (cs.setIfInBounds o v) (o + 1) r
theorem fill_size : ∀ (vs : List Value) (cs : Array Value) (o : Nat), (fill cs o vs).size = cs.size
  | [], _, _ => rfl
  | v :: r, cs, o => by rw [fill, fill_size r]; simp
theorem fill_get : ∀ (vs : List Value) (cs : Array Value) (o i : Nat), o + vs.length ≤ cs.size → (fill cs o vs)[i]? = if o ≤ i ∧ i < o + vs.length then vs[i - o]? else cs[i]?
  | [], cs, o, i, h => by simp [fill]; intro h1 h2; omega
  | v :: r, cs, o, i, h => by
    simp only [List.length_cons] at h
    rw [fill, fill_get r _ (o + 1) i (by simp; omega)]
    by_cases h1 : i = o
    · subst h1
      rw [if_neg (by omega), if_pos (by simp)]
      have hs : i < cs.size := by omega
      simp [hs]
    · by_cases h2 : o ≤ i ∧ i < o + (v :: r).length
      · simp only [List.length_cons] at h2
        rw [if_pos (by omega), if_pos (by simp; omega)]
        obtain ⟨k, rfl⟩ : ∃ k, i = o + 1 + k := ⟨i - (o + 1), by omega⟩
        rw [show o + 1 + k - (o + 1) = k by omega, show o + 1 + k - o = k + 1 by omega]
        simp
      · simp only [List.length_cons] at h2
        rw [if_neg (by omega), if_neg (by simp; omega)]
        rw [Array.getElem?_setIfInBounds, if_neg (by omega)]
theorem fill_all {cs : Array Value} {vs : List Value} (h : vs.length = cs.size) : fill cs 0 vs = vs.toArray := by
  apply Array.ext_getElem?
  intro i
  rw [fill_get _ _ _ _ (by omega)]
  by_cases hi : i < vs.length
  · rw [if_pos (by omega)]; simp
  · rw [if_neg (by omega)]
    simp [show cs.size ≤ i by omega, show vs.length ≤ i by omega]
theorem At.fills {b : Nat} {t : TypeId} : ∀ (vs : List Value) (w : World) (cs : Array Value) (o : Nat), At w b cs t → At (w.setCells b o vs) b (fill cs o vs) t
  | [], _, _, _, h => h
  | v :: r, w, cs, o, h => by
    rw [World.setCells, fill]
    exact At.fills r _ _ _ (h.set o v)
theorem At.fillAll {w : World} {b : Nat} {cs : Array Value} {t : TypeId} (h : At w b cs t) {vs : List Value} (hl : vs.length = cs.size) : At (w.setCells b 0 vs) b vs.toArray t := by
  rw [← fill_all hl]; exact h.fills vs w cs 0
theorem At.there {w : World} {b : Nat} {cs : Array Value} {t : TypeId} (h : At w b cs t) (o n : Nat) (hn : o + n ≤ cs.size) : w.there b o n := fun j hj => by
  rw [h.cell, h.frozen]
  simp; omega
theorem At.range {w : World} {b : Nat} {vs : List Value} {t : TypeId} (h : At w b vs.toArray t) : w.rangeAt b 0 vs := fun j v hj => by
  rw [h.cell]; simpa using hj
theorem heap_setCells (b : Nat) : ∀ (vs : List Value) (o : Nat) (w : World) (k : Nat), k ≠ b → (w.setCells b o vs).heap[k]? = w.heap[k]?
  | [], _, _, _, _ => rfl
  | v :: r, o, w, k, h => by
    rw [World.setCells, heap_setCells b r (o + 1) _ k h]
    exact Below.heap_setCell _ _ _ _ h
theorem below_setCells {B : Nat} {a : World} (b : Nat) (hb : B ≤ b) : ∀ (vs : List Value) (o : Nat) (w : World), Below B a w → Below B a (w.setCells b o vs)
  | [], _, _, h => h
  | v :: r, o, w, h => by
    rw [World.setCells]
    exact below_setCells b hb r (o + 1) _ (h.setCell (p := ⟨b, o, none⟩) hb _)
theorem infoH : (Try.prog.info? 39).map (·.size) = some 36 := by kernel_rfl
theorem loadH {w : World} {b : Nat} {h : Hd} {t : TypeId} (H : At w b h.ar t) : (loadVar 39 ⟨b, 0, none⟩).run Try.prog w = .ok (.agg h.ar) w :=
  run_loadVar_mid w b 0 39 h.vs _ H.range Try.underlying39 rfl infoH
theorem resH {fn : Func} {T : Array Value} {w : World} {b : Nat} {k : Hd} {t : TypeId} (i : Nat) (hr : fn.results = #[.cell i 39]) (hT : T.getD i undef = .pointer (some ⟨b, 0, none⟩)) (Z : At w b k.ar t) :
    (results fn T).run Try.prog w = .ok (.agg k.ar) w := by
  have e : (asAddr (T.getD i undef)).run Try.prog w = .ok ⟨b, 0, none⟩ w := by rw [hT]; rfl
  simp only [results, hr, List.mapM_toArray, List.mapM_cons, List.mapM_nil, Sem.run_bind, Sem.run_map, Sem.run_pure, e, Result.andThen_ok, loadH Z]
  rfl
theorem resH2 {fn : Func} {T : Array Value} {w : World} {b : Nat} {k : Hd} {t : TypeId} {v : Value} (i j : Nat) (hr : fn.results = #[.cell i 39, .tmp j]) (hT : T.getD i undef = .pointer (some ⟨b, 0, none⟩)) (hj : T.getD j undef = v) (Z : At w b k.ar t) :
    (results fn T).run Try.prog w = .ok (.tuple #[.agg k.ar, v]) w := by
  have e : (asAddr (T.getD i undef)).run Try.prog w = .ok ⟨b, 0, none⟩ w := by rw [hT]; rfl
  simp only [results, hr, List.mapM_toArray, List.mapM_cons, List.mapM_nil, Sem.run_bind, Sem.run_map, Sem.run_pure, e, Result.andThen_ok, loadH Z, hj]
  rfl
theorem wp_at {P : Program} {co : Code} {Q : Exit → Act → World → Prop} {a : Act} {W : World} (R : World → Prop) (r : R W) (h : ∀ w, R w → Code.wp P co Q a w) : Code.wp P co Q a W := h W r

theorem two_new (w : World) (cs : Array Value) (t t' : TypeId) : At ((w.alloc (.cells cs t)).alloc (.cells Hd.zero.ar t')) w.heap.size cs t ∧ At ((w.alloc (.cells cs t)).alloc (.cells Hd.zero.ar t')) (w.heap.size + 1) Hd.zero.ar t' ∧ Below w.heap.size w ((w.alloc (.cells cs t)).alloc (.cells Hd.zero.ar t')) := by
  have e : (w.alloc (.cells cs t)).heap.size = w.heap.size + 1 := by simp
  refine ⟨(At.new w cs t).keep ((Below.refl _ _).alloc (Nat.le_refl _) _), ?_, ((Below.refl _ _).alloc (Nat.le_refl _) _).alloc (by omega) _⟩
  have := At.new (w.alloc (.cells cs t)) Hd.zero.ar t'
  rwa [e] at this
theorem wpList_built {P : Program} {ops : Array Oper} {rest : List Oper} {o : Oper} {a : Act} {w : World} {Q : Exit → Act → World → Prop} (hg : o.guard = none) (t : TypeId) (parts : Array (Nat × Operand)) (ho : o.op = .build t parts) (ps : List (Nat × Value)) (hp : parts.toList.map (fun x => (x.1, a.eval x.2)) = ps) (cells : Array Value) (hb : P.built t ps = some cells) (h : wpList P ops Q rest (a.put o.dst (.agg cells)) w) : wpList P ops Q (o :: rest) a w :=
  have e : (parts.map fun (i, x) => (i, a.eval x)).toList = ps := by rw [Array.toList_map]; exact hp
  wpList_build hg t parts ho (by rw [e, hb]; rfl) (by rw [e, hb]; exact h)
theorem kept_setCells (b : Nat) (vs : List Value) (o : Nat) (w : World) : Kept b w (w.setCells b o vs) := by
  have h := below_setCells (B := 0) (a := w) b (Nat.zero_le _) vs o w (Below.refl _ _)
  exact ⟨h.os, h.tape, h.output, h.size, fun k hk hc => heap_setCells b vs o w k hc⟩
theorem storeH {ops : Array Oper} {rest : List Oper} {op : Oper} {a : Act} {w : World} {Q : Exit → Act → World → Prop} (hgd : op.guard = none) (x y : Operand) (ho : op.op = .store 39 x y)
    (b : Nat) (k : Hd) (hx : a.eval x = .pointer (some ⟨b, 0, none⟩)) (hy : a.eval y = .agg k.ar) {cs : Array Value} {t : TypeId} (Z : At w b cs t) (hs : cs.size = 36)
    (h : ∀ w', At w' b k.ar t → Kept b w w' → wpList Try.prog ops Q rest (a.put op.dst undef) w') : wpList Try.prog ops Q (op :: rest) a w :=
  wpList_store_mid hgd 39 x y ho b 0 k.ar hx hy (by rw [k.sz]; exact Z.there 0 36 (by omega)) (by rw [k.sz]; exact infoH) (all_oneCell_toArray k.one) (h _ (Z.fillAll (by rw [hs]; rfl)) (kept_setCells b _ 0 w))
def Hd.downed (h : Hd) : Hd := { Hd.zero with life := h.life }
def Hd.resting (h : Hd) : Hd := { Hd.zero with up := h.up, inn := h.inn, life := h.life, last := h.last, kept := h.kept }
theorem bDowned (h : Hd) : Try.prog.built 39 [(4, .int .i64 h.life)] = some h.downed.ar := by kernel_rfl
theorem bResting (h : Hd) : Try.prog.built 39 [(0, .bool h.up), (1, .bool h.inn), (4, .int .i64 h.life), (12, .int .i64 h.last), (26, .int .i64 h.kept)] = some h.resting.ar := by kernel_rfl
set_option maxHeartbeats 4000000 in
theorem iDowned (h : Hd) (w : World) : Calls Try.prog 66 #[.agg h.ar] w fun e w' => e = .returned (.agg h.downed.ar) ∧ Below w.heap.size w w' := by
  go_enter Try.func66, Try.ntmps66
  go_upto_region 1 with fail
  refine wp_at (fun W => At W w.heap.size h.ar 39 ∧ At W (w.heap.size + 1) Hd.zero.ar 39 ∧ Below w.heap.size w W) (two_new w h.ar _ _) ?_
  rintro W ⟨A, Z, B⟩
  have c4 : W.cell? ⟨w.heap.size, 4, none⟩ = some (.int .i64 h.life) := A.cell 4
  go_wp2_with (first
    | (refine wpList_built rfl 39 #[(4, .tmp 4)] rfl [(4, .int .i64 h.life)] rfl _ (bDowned h) ?_)
    | (refine storeH rfl (.tmp 2) (.tmp 5) rfl (w.heap.size + 1) h.downed rfl rfl Z rfl ?_; intro W2 Z2 kk; replace B := B.trans (kk.below (Nat.le_succ _) B.size)))
  exact bodyPost_ret (v := .agg h.downed.ar) (resH 2 Try.results66 rfl Z2) rfl ⟨rfl, B⟩
end Go.Proofs.Ytljpkgloegafnaa
namespace Go.Proofs.Ytljpkgloegafnaa
open Go.RowKit
set_option linter.unusedVariables false
theorem storeV {ops : Array Oper} {rest : List Oper} {op : Oper} {a : Act} {w : World} {Q : Exit → Act → World → Prop} {ty : TypeId} {vs : List Value} (hi : (Try.prog.info? ty).map (·.size) = some vs.length) (h1 : ∀ v ∈ vs, v.oneCell' = true) (hgd : op.guard = none) (x y : Operand) (ho : op.op = .store ty x y)
    (b : Nat) (hx : a.eval x = .pointer (some ⟨b, 0, none⟩)) (hy : a.eval y = .agg vs.toArray) {cs : Array Value} {t : TypeId} (Z : At w b cs t) (hs : cs.size = vs.length)
    (h : ∀ w', At w' b vs.toArray t → Kept b w w' → wpList Try.prog ops Q rest (a.put op.dst undef) w') : wpList Try.prog ops Q (op :: rest) a w :=
  wpList_store_mid hgd ty x y ho b 0 vs.toArray hx hy (by simp only [List.size_toArray]; exact Z.there 0 _ (by omega)) (by simpa using hi) (all_oneCell_toArray h1) (h _ (Z.fillAll hs.symm) (kept_setCells b _ 0 w))
theorem loadV {ops : Array Oper} {rest : List Oper} {op : Oper} {a : Act} {w : World} {Q : Exit → Act → World → Prop} {ty : TypeId} {d : TypeDesc} (vs : List Value) (hu : Try.prog.underlying ty = some d) (hd : d.isRow = true) (hi : (Try.prog.info? ty).map (·.size) = some vs.length) (hgd : Region.wanted op (yielded ops a.tmps) = true) (x : Operand) (ho : op.op = .load ty x)
    (b o : Nat) (hx : a.eval x = .pointer (some ⟨b, o, none⟩)) {cs : Array Value} {t : TypeId} (Z : At w b cs t) (hr : ∀ j v, vs[j]? = some v → cs[o + j]? = some v)
    (h : wpList Try.prog ops Q rest (a.put op.dst (.agg vs.toArray)) w) : wpList Try.prog ops Q (op :: rest) a w :=
  BigFrame.wpList_want hgd fun K hK => wp_load_mid ty x ho b o hx vs d (fun j v hj => by rw [Z.cell]; exact hr j v hj) hu hd hi (hK _ _ h)
theorem newV {ops : Array Oper} {rest : List Oper} {op : Oper} {a : Act} {w : World} {Q : Exit → Act → World → Prop} {ty t : TypeId} {cs : Array Value} {vs : List Value} (hi : (Try.prog.info? ty).map (·.size) = some vs.length) (h1 : ∀ v ∈ vs, v.oneCell' = true) (hgd : op.guard = none) (x y : Operand) (ho : op.op = .store ty x y)
    (hx : a.eval x = .pointer (some ⟨w.heap.size, 0, none⟩)) (hy : a.eval y = .agg vs.toArray) (hs : cs.size = vs.length)
    (h : ∀ w', At w' w.heap.size vs.toArray t → Below w.heap.size w w' → w.heap.size < w'.heap.size → wpList Try.prog ops Q rest (a.put op.dst undef) w') : wpList Try.prog ops Q (op :: rest) a (w.alloc (.cells cs t)) :=
  storeV hi h1 hgd x y ho w.heap.size hx hy (At.new w cs t) hs fun w' Z kk => h w' Z (((Below.refl _ _).alloc (Nat.le_refl _) _).trans (kk.below (Nat.le_refl _) (by simp))) Z.lt
theorem sub_at (pre l post : List Value) (j : Nat) (v : Value) (hv : l[j]? = some v) : (pre ++ l ++ post).toArray[pre.length + j]? = some v := by
  have hj : j < l.length := (List.getElem?_eq_some_iff.1 hv).1
  simp only [List.getElem?_toArray, List.append_assoc]
  rw [List.getElem?_append_right (by omega), Nat.add_sub_cancel_left, List.getElem?_append_left hj, hv]
end Go.Proofs.Ytljpkgloegafnaa
