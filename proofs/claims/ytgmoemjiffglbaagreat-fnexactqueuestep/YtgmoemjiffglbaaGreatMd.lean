/-
  A list of words that came in, as a source that can be read.
  The pages of an arena's words: what wordsOf makes of a list.
  What wordsOf answers.
  What the pages of an arena's words answer: read, write, swap, and the list of them.
  A swap over pages, the list of the words on them, and so what WriteAt and SwapAt answer.
  What WriteAt and SwapAt answer.
-/
import Derived.Test.YtgmoemjiffglbaaGreatMc
import Derived.ProofKit
import Derived.Deep.RegionHeld3
import Derived.Deep.AppendLies
import Derived.Deep.MidRow
import Derived.Laws.CopyOwn
import Derived.Deep.LoopGhost
import Derived.Deep.Cut
import Derived.Deep.RegionLaw
namespace Go.Proofs.YtgmoemjiffglbaaGreat
open Go.RowKit
set_option linter.unusedVariables false
theorem IsRow.src {w : World} {a : Option Addr} {len cap : Nat} {zs : List Int} (h : IsRow .u64 w a len cap zs) :
    Src w a len (zs.take len) ∧ (∀ x ∈ zs.take len, 0 ≤ x ∧ x ≤ 18446744073709551615) ∧ len ≤ 9223372036854775807 := by
  rcases h with ⟨rfl, rfl, rfl, rfl⟩ | ⟨x, rfl, hl, hm, hz, hcell, hwz⟩
  · exact ⟨⟨rfl, .inl rfl⟩, fun x hx => by simp at hx, by omega⟩
  · refine ⟨⟨by rw [List.length_take]; omega, ?_⟩, fun y hy => bounds_u64 (hwz y (List.mem_of_mem_take hy)), by unfold maxLen at hm; omega⟩
    by_cases h0 : len = 0
    · exact .inl h0
    · obtain ⟨b, off, spot⟩ := x
      have hc := hcell 0 (by omega)
      have hspot : spot = none := by simpa [Addr.add] using World.cell?_spot hc
      subst hspot
      have hc' : w.cell? ⟨b, off, none⟩ = some (.int .u64 (zs.getD 0 0)) := by simpa [Addr.add] using hc
      refine .inr ⟨b, off, rfl, block_lt hc', fun j hj => ?_⟩
      have := hcell j (by omega)
      have e : (zs.take len).getD j 0 = zs.getD j 0 := by simp [List.getD, hj]
      rw [e]
      by_cases hj0 : j = 0 <;> simpa [Addr.add, hj0] using this
end Go.Proofs.YtgmoemjiffglbaaGreat
namespace Go.Proofs.YtgmoemjiffglbaaGreat
open Go.RowKit
set_option linter.unusedVariables false
theorem infoP : (Tryz.prog.info? 113).map (fun i => (i.zero, i.size, i.bytes)) = some (some (.pointer none), 1, 8) := by kernel_rfl
/-- The words of page i, 0 behind the list's end. -/
def chunk (xs : List Int) (i : Nat) : List Value := (List.range 64).map fun j => .int .u64 (xs.getD (64 * i + j) 0)
theorem chunk_len (xs : List Int) (i : Nat) : (chunk xs i).length = 64 := by simp [chunk]
theorem chunk_at (xs : List Int) (i j : Nat) (h : j < 64) : (chunk xs i)[j]? = some (.int .u64 (xs.getD (64 * i + j) 0)) := by simp [chunk, h]
theorem chunk_one (xs : List Int) (i : Nat) : ∀ u ∈ chunk xs i, u.oneCell' = true := by
  intro u hu
  obtain ⟨x, -, rfl⟩ := List.mem_map.1 hu
  rfl
def ptr (q : Nat × Nat) : Value := .pointer (some ⟨q.1, q.2, none⟩)
/-- The slice pv owns the pointers ps to the first m pages of xs. -/
structure Pgs (w : World) (B : Nat) (pv : Value) (ps : List (Nat × Nat)) (m : Nat) (xs : List Int) : Prop where
  len : ps.length = m
  own : w.ownsRow B 113 1 pv m (ps.map ptr)
  pg : ∀ i q, ps[i]? = some q → q.1 < w.heap.size ∧ pv.ownBlock ≠ some q.1 ∧ w.rangeAt q.1 q.2 (chunk xs i)
theorem rangeAt_block {w w' : World} {b o : Nat} {cs : List Value} (h : w.rangeAt b o cs) (e : w'.heap[b]? = w.heap[b]?) : w'.rangeAt b o cs :=
  fun j v hv => (World.cell?_of_block (w := w) (a := ⟨b, o + j, none⟩) e).trans (h j v hv)
theorem Pgs.kept {w w' : World} {B : Nat} {pv : Value} {ps : List (Nat × Nat)} {m : Nat} {xs : List Int} {row : Option Nat} (h : Pgs w B pv ps m xs) (hg : w.grownBy w' row)
    (hne : pv.ownBlock = none ∨ pv.ownBlock ≠ row) (hp : ∀ q ∈ ps, some q.1 ≠ row) : Pgs w' B pv ps m xs :=
  ⟨h.len, h.own.kept hg hne, fun i q hq => by
    obtain ⟨h1, h2, h3⟩ := h.pg i q hq
    exact ⟨Nat.lt_of_lt_of_le h1 hg.size, h2, rangeAt_block h3 (hg.block _ h1 (hp q (List.mem_of_getElem? hq)))⟩⟩
theorem Pgs.keep {w w' : World} {B : Nat} {pv : Value} {ps : List (Nat × Nat)} {m : Nat} {xs : List Int} (h : Pgs w B pv ps m xs) (hb : Below w.heap.size w w') : Pgs w' B pv ps m xs :=
  h.kept (row := none) ⟨hb.os, hb.tape, hb.output, hb.size, fun k hk _ => hb.block k hk⟩ (by cases pv.ownBlock <;> simp) (by simp)
theorem Pgs.other {w : World} {B : Nat} {pv : Value} {ps : List (Nat × Nat)} {m : Nat} {xs : List Int} (h : Pgs w B pv ps m xs) {a : Addr} (ha : pv.ownBlock ≠ some a.block) (hp : ∀ q ∈ ps, q.1 ≠ a.block) (v : Value) : Pgs (w.setCell a v) B pv ps m xs :=
  h.kept (row := some a.block) ⟨rfl, rfl, rfl, by simp [World.setCell], fun k hk hne => Below.heap_setCell _ _ _ _ (fun e => hne (by rw [e]))⟩ (.inr ha) (fun q hq => by simpa using hp q hq)
theorem Pgs.app {w w' : World} {B : Nat} {pv : Value} {ps : List (Nat × Nat)} {m : Nat} {xs : List Int} (h : Pgs w B pv ps m xs) {r cap b o : Nat}
    (ho : w'.ownsRow B 113 1 (.slice (some ⟨r, 0, none⟩) (m + 1) cap) (m + 1) (ps.map ptr ++ [ptr (b, o)])) (hg : w.grownBy w' pv.ownBlock) (hat : pv.ownBlock = some r ∨ r = w.heap.size)
    (hb : b < w.heap.size) (hbr : pv.ownBlock ≠ some b) (hc : w.rangeAt b o (chunk xs m)) : Pgs w' B (.slice (some ⟨r, 0, none⟩) (m + 1) cap) (ps ++ [(b, o)]) (m + 1) xs := by
  refine ⟨by simp [h.len], by simpa using ho, fun i q hq => ?_⟩
  have key : ∀ d, d < w.heap.size → pv.ownBlock ≠ some d → r ≠ d := by
    rintro d hd hn rfl
    rcases hat with hat | hat
    · exact hn hat
    · omega
  by_cases hi : i < ps.length
  · rw [List.getElem?_append_left hi] at hq
    obtain ⟨h1, h2, h3⟩ := h.pg i q hq
    exact ⟨Nat.lt_of_lt_of_le h1 hg.size, fun e => key _ h1 h2 (by simpa [Value.ownBlock] using e), rangeAt_block h3 (hg.block _ h1 (fun e => h2 e.symm))⟩
  · rw [List.getElem?_append_right (by omega)] at hq
    have hi2 : i = m := by
      have h1 := (List.getElem?_eq_some_iff.1 hq).1
      have h2 := h.len
      rw [List.length_singleton] at h1
      omega
    subst hi2
    simp [h.len] at hq
    subst hq
    exact ⟨Nat.lt_of_lt_of_le hb hg.size, fun e => key _ hb hbr (by simpa [Value.ownBlock] using e), rangeAt_block hc (hg.block _ hb (fun e => hbr e.symm))⟩
theorem Pgs.nil (w : World) (B : Nat) (xs : List Int) : Pgs w B (.slice none 0 0) [] 0 xs := ⟨rfl, ⟨rfl, .inl ⟨rfl, rfl⟩⟩, fun i q hq => by simp at hq⟩
theorem Ws.chunk {w : World} {g n c : Nat} {xs : List Int} (h : Ws w g n c xs) (i : Nat) (hi : 64 * (i + 1) ≤ n) : w.rangeAt g (64 * i) (chunk xs i) := by
  intro j v hv
  have hj : j < 64 := by have := (List.getElem?_eq_some_iff.1 hv).1; rwa [chunk_len] at this
  rw [chunk_at _ _ _ hj] at hv
  rw [h.cell _ (by omega)]
  exact hv
theorem one_ptr (q : Nat × Nat) : ∀ u ∈ [ptr q], u.oneCell' = true := by
  intro u hu
  simp at hu
  subst hu
  rfl
end Go.Proofs.YtgmoemjiffglbaaGreat
namespace Go.Proofs.YtgmoemjiffglbaaGreat
open Go.RowKit
set_option maxRecDepth 100000
set_option linter.unusedVariables false
/-- What stands while the pages are gathered: the struct q, the result r, the list itself, the pages. -/
structure PSt (w0 w : World) (r q g n c : Nat) (xs : List Int) (pv : Value) (ps : List (Nat × Nat)) (m : Nat) : Prop where
  atR : At w r #[.slice none 0 0, .int .i64 0] 52
  atQ : At w q #[pv, .int .i64 n] 52
  ws : Ws w g n c xs
  pgs : Pgs w w0.heap.size pv ps m xs
  low : Below w0.heap.size w0 w
  rge : w0.heap.size ≤ r
  qge : w0.heap.size ≤ q
  rq : r ≠ q
  gl : g < w0.heap.size
  ro : pv.ownBlock ≠ some r
  qo : pv.ownBlock ≠ some q
  pp : ∀ p ∈ ps, p.1 ≠ r ∧ p.1 ≠ q
theorem PSt.keep {w0 w w' : World} {r q g n c : Nat} {xs : List Int} {pv : Value} {ps : List (Nat × Nat)} {m : Nat} (h : PSt w0 w r q g n c xs pv ps m) (hb : Below w.heap.size w w') : PSt w0 w' r q g n c xs pv ps m :=
  ⟨h.atR.keep hb, h.atQ.keep hb, h.ws.keep hb, h.pgs.keep hb, h.low.trans (hb.mono h.low.size), h.rge, h.qge, h.rq, h.gl, h.ro, h.qo, h.pp⟩
theorem PSt.app {w0 w w' : World} {r q g n c : Nat} {xs : List Int} {pv : Value} {ps : List (Nat × Nat)} {m : Nat} (h : PSt w0 w r q g n c xs pv ps m) {b o t cap : Nat}
    (hb : b < w.heap.size) (hbr : pv.ownBlock ≠ some b) (br : b ≠ r) (bq : b ≠ q) (hc : w.rangeAt b o (chunk xs m))
    (ho : w'.ownsRow w0.heap.size 113 1 (.slice (some ⟨t, 0, none⟩) (m + 1) cap) (m + 1) (ps.map ptr ++ [ptr (b, o)])) (hg : w.grownBy w' pv.ownBlock) (hat : pv.ownBlock = some t ∨ t = w.heap.size) :
    PSt w0 (w'.setCell ⟨q, 0, none⟩ (.slice (some ⟨t, 0, none⟩) (m + 1) cap)) r q g n c xs (.slice (some ⟨t, 0, none⟩) (m + 1) cap) (ps ++ [(b, o)]) (m + 1) := by
  have P := h.pgs.app ho hg hat hb hbr hc
  have key : ∀ d, d < w.heap.size → pv.ownBlock ≠ some d → t ≠ d := by
    rintro d hd hn rfl
    rcases hat with hat | hat
    · exact hn hat
    · omega
  have tr := key r h.atR.lt h.ro
  have tq := key q h.atQ.lt h.qo
  have og : pv.ownBlock ≠ some g := fun e => by have := (World.ownsRow.lt h.pgs.own g e).1; have := h.gl; omega
  have pp : ∀ p ∈ ps ++ [(b, o)], p.1 ≠ r ∧ p.1 ≠ q := by
    intro p hp
    rcases List.mem_append.1 hp with hp | hp
    · exact h.pp p hp
    · obtain rfl : p = (b, o) := by simpa using hp
      exact ⟨br, bq⟩
  have aq : At w' q #[pv, .int .i64 n] 52 := ⟨(hg.block q h.atQ.lt (fun e => h.qo e.symm)).trans h.atQ.is⟩
  have ar : At w' r #[.slice none 0 0, .int .i64 0] 52 := ⟨(hg.block r h.atR.lt (fun e => h.ro e.symm)).trans h.atR.is⟩
  have lo := h.low.grown hg h.low.size (fun k hk => (World.ownsRow.lt h.pgs.own k hk).1)
  refine ⟨ar.other (a := ⟨q, 0, none⟩) h.rq _, aq.set 0 _, (h.ws.of_block (hg.block g h.ws.lt (fun e => og e.symm))).other (a := ⟨q, 0, none⟩) (by have := h.gl; have := h.qge; show g ≠ q; omega) _,
    P.other (a := ⟨q, 0, none⟩) (by simp [Value.ownBlock]; exact tq) (fun p hp => (pp p hp).2) _, lo.setCell (p := ⟨q, 0, none⟩) h.qge _, h.rge, h.qge, h.rq, h.gl, by simp [Value.ownBlock]; exact tr, by simp [Value.ownBlock]; exact tq, pp⟩
theorem PSt.q0 {w0 w w' : World} {r q g n c : Nat} {xs : List Int} {pv : Value} {ps : List (Nat × Nat)} {m : Nat} (h : PSt w0 w r q g n c xs pv ps m) (hg : w.grownBy w' pv.ownBlock) : w'.cell? ⟨q, 0, none⟩ = some pv ∧ w'.frozen? ⟨q, 0, none⟩ = false := by
  have aq : At w' q #[pv, .int .i64 n] 52 := ⟨(hg.block q h.atQ.lt (fun e => h.qo e.symm)).trans h.atQ.is⟩
  exact ⟨aq.cell 0, aq.frozen 0⟩
theorem Pgs.sl {w : World} {B : Nat} {pv : Value} {ps : List (Nat × Nat)} {m : Nat} {xs : List Int} (h : Pgs w B pv ps m xs) : ∃ a b c, pv = .slice a b c := by
  rcases h.own.2 with ⟨rfl, _⟩ | ⟨g, cap, cur, rfl, _⟩
  · exact ⟨_, _, _, rfl⟩
  · exact ⟨_, _, _, rfl⟩
theorem zeros_at (w : World) : At (w.alloc (.cells (List.replicate 64 (Value.int .u64 0)).toArray 115)) w.heap.size (List.replicate 64 (Value.int .u64 0)).toArray 115 := At.new _ _ _
/-- The rest of a list behind its whole pages. -/
def tail64 (xs : List Int) (k : Nat) : List Value := (xs.drop (64 * k)).map (Value.int .u64)
theorem tail64_splice {xs : List Int} {n k m : Nat} (hl : xs.length = n) (hn : n = 64 * k + m) (hm : m < 64) : splice (List.replicate 64 (Value.int .u64 0)) 0 (tail64 xs k) = chunk xs k := by
  have e : (tail64 xs k).length = m := by simp [tail64]; omega
  refine List.ext_getElem? fun j => ?_
  unfold splice
  simp only [List.take_zero, List.nil_append, Nat.zero_add, e]
  by_cases hj : j < m
  · rw [List.getElem?_append_left (by omega), chunk_at _ _ _ (by omega)]
    have h2 : 64 * k + j < xs.length := by omega
    simp [tail64, h2]
  · rw [List.getElem?_append_right (by omega), e]
    by_cases h64 : j < 64
    · rw [chunk_at _ _ _ h64]
      have h2 : ¬ 64 * k + j < xs.length := by omega
      rw [List.getElem?_drop, List.getElem?_replicate, if_pos (by omega)]
      simp [List.getElem?_eq_none (Nat.not_lt.1 h2)]
    · rw [List.getElem?_eq_none (l := chunk xs k) (by rw [chunk_len]; omega), List.getElem?_drop, List.getElem?_replicate, if_neg (by omega)]
theorem tail64_src {w : World} {g n c k m : Nat} {xs : List Int} (h : Ws w g n c xs) (hn : n = 64 * k + m) : ∀ (j : Nat) (v : Value), (tail64 xs k)[j]? = some v → w.cell? ((⟨g, 64 * k, none⟩ : Addr).add j) = some v := by
  intro j v hv
  have e : (tail64 xs k).length = m := by have := h.len; simp [tail64]; omega
  have hj : j < m := by have := (List.getElem?_eq_some_iff.1 hv).1; omega
  rw [Addr.add_mid, h.cell _ (by omega), ← hv]
  have h2 : 64 * k + j < xs.length := by have := h.len; omega
  simp [tail64, h2]
theorem wordsFin {w0 w1 : World} {r q g n c : Nat} {xs : List Int} {pv : Value} {ps : List (Nat × Nat)} {m : Nat} {T : Array Value} (st : PSt w0 w1 r q g n c xs pv ps m) (hT : T[2]?.getD undef = .pointer (some ⟨r, 0, none⟩)) :
    bodyPost Tryz.prog Tryz.f45 (fun e w' => ∃ pv, e = .returned (.agg #[pv, .int .i64 n]) ∧ (∃ ps, Pgs w' w0.heap.size pv ps m xs) ∧ Below w0.heap.size w0 w') .ret ⟨T, []⟩ ((w1.setCell ⟨r, 0, none⟩ pv).setCell ⟨r, 1, none⟩ (.int .i64 n)) := by
  have R := (st.atR.set 0 pv).set 1 (.int .i64 n)
  have r0 := R.cell 0
  have r1 := R.cell 1
  simp at r0 r1
  exact bodyPost_ret (v := .agg #[pv, .int .i64 n]) (by simp [results, Tryz.results45, go_sem, hT, r0, r1]) rfl
    ⟨pv, rfl, ⟨ps, (st.pgs.other (a := ⟨r, 0, none⟩) st.ro (fun p hp => (st.pp p hp).1) _).other (a := ⟨r, 1, none⟩) st.ro (fun p hp => (st.pp p hp).1) _⟩,
      (st.low.setCell (p := ⟨r, 0, none⟩) st.rge _).setCell (p := ⟨r, 1, none⟩) st.rge _⟩
theorem run_arrayAt (b o m cc : Nat) (h : 64 ≤ m) (w : World) : (Instr.arrayAt 115 (.slice (some ⟨b, o, none⟩) m cc)).run Tryz.prog w = .ok (.pointer (some ⟨b, o, none⟩)) w := by
  have hm : ¬ m < 64 := by omega
  simp [Instr.arrayAt, go_sem, hm]
theorem infoU1 : (Tryz.prog.info? 25).map (·.size) = some 1 := by kernel_rfl
set_option maxHeartbeats 4000000 in
theorem iWords (g n c : Nat) (xs : List Int) (w : World) (h : Ws w g n c xs) (hn : n ≤ 16777216) :
    Calls Tryz.prog 45 #[.slice (some ⟨g, 0, none⟩) n c] w fun e w' => ∃ pv, e = .returned (.agg #[pv, .int .i64 n]) ∧ (∃ ps, Pgs w' w.heap.size pv ps ((n + 63) / 64) xs) ∧ Below w.heap.size w w' := by
  obtain ⟨i0, hi, hz0, hz1, hz2⟩ := info_parts infoP
  have st0 : PSt w ((w.alloc (Obj.cells #[.slice none 0 0, .int .i64 0] 52)).alloc (Obj.cells #[.slice none 0 0, .int .i64 n] 52)) w.heap.size (w.heap.size + 1) g n c xs (.slice none 0 0) [] 0 := by
    have b1 : Below w.heap.size w (w.alloc (Obj.cells #[.slice none 0 0, .int .i64 0] 52)) := (Below.refl _ _).alloc (Nat.le_refl _) _
    have e1 : (w.alloc (Obj.cells #[.slice none 0 0, .int .i64 0] 52)).heap.size = w.heap.size + 1 := by simp
    refine ⟨(At.new w _ _).keep ((Below.refl _ _).alloc (Nat.le_refl _) _), ?_, (h.alloc _).alloc _, Pgs.nil _ _ _, b1.alloc (by omega) _, Nat.le_refl _, by omega, by omega, h.lt, by simp [Value.ownBlock], by simp [Value.ownBlock], by simp⟩
    rw [← e1]
    exact At.new _ _ _
  have hcn : n ≤ c ∧ c ≤ 9223372036854775807 := by
    rcases h.own.2 with ⟨hv, _⟩ | ⟨g', cap, cur, hv, h1, h2, h3, h4, _⟩
    · cases hv
    · obtain ⟨-, -, rfl⟩ : (some (⟨g, 0, none⟩ : Addr) = some ⟨g', 0, none⟩) ∧ n = n ∧ c = cap := by simpa using hv
      exact ⟨h3, by unfold maxLen at h4; omega⟩
  obtain ⟨M, hM⟩ : ∃ M : Nat, Hid ((n + 63) / 64 = M) := ⟨_, rfl⟩
  rw [hM.out]
  go_enter Tryz.func45, Tryz.ntmps45
  go_wp2
  generalize hr : w.heap.size = r at *
  generalize hq : r + 1 = q at *
  go_loopg [0] n (fun g' y wr => ∃ (k m cc : Nat) (ad : Addr) (pv : Value) (ps : List (Nat × Nat)), n = 64 * k + m ∧ c = 64 * k + cc ∧ g' = m ∧ y = .slice (some ad) m cc ∧ (0 < m → ad = ⟨g, 64 * k, none⟩) ∧ PSt w wr r q g n c xs pv ps k)
  case atStart => exact ⟨0, n, c, ⟨g, 0, none⟩, .slice none 0 0, [], by omega, by omega, rfl, rfl, fun _ => rfl, st0⟩
  case round =>
    clear st0
    obtain ⟨k, m, cc, ad, pv, ps, hnk0, hck0, hg, rfl, had, st⟩ := hrel
    have hge := st.low.size
    have hnk : Hid (n = 64 * k + m ∧ c = 64 * k + cc) := ⟨hnk0, hck0⟩
    have hmc : (m : Int) ≤ (cc : Int) ∧ m ≤ 16777216 ∧ k ≤ 16777216 ∧ (cc : Int) ≤ 9223372036854775807 := by omega
    clear hnk0 hck0
    have q0 := st.atQ.cell 0
    have q1 := st.atQ.cell 1
    have qf := st.atQ.frozen 0
    simp at q0 q1
    by_cases hm : 64 ≤ m
    · obtain rfl := had (by omega)
      have hm' : (64 : Int) ≤ (m : Int) := by omega
      have hql := st.atQ.lt
      have hfz : ∀ o, (wr.alloc o).frozen? ⟨q, 0, none⟩ = false := fun o => ((st.atQ.keep ((Below.refl _ _).alloc (Nat.le_refl _) o)).frozen 0)
      have hne := World.new_ne wr ⟨q, 0, none⟩ q0
      have ha := run_arrayAt g (64 * k) m cc hm
      have st1 := st.keep ((Below.refl _ _).alloc (Nat.le_refl _) (Obj.cells #[ptr (g, 64 * k)] 113))
      go_wp2_with fail
      go_region_law
        ((refine step_append_lies _ (by rfl) _ _ _ (by rfl) w.heap.size 113 i0 _ 1 8 Tryz.underlying50 hi hz0 hz1 hz2 rfl (by decide) pv k (ps.map ptr) (by rfl) (st1.pgs.own.drew) ⟨wr.heap.size, 0, none⟩ 1 1 [ptr (g, 64 * k)] (by rfl) (by rfl) (World.news_of_block (cs := #[ptr (g, 64 * k)]) (t := 113) (fr := (0, 0)) (heap_alloc_new wr _)) (one_ptr _) (by decide) (by unfold maxLen; omega) (by omega) (by simp; have := st.low.size; omega) (wr.heap.size + 1) (by simp) ?_; intro t cap w1 hown hgrow hat hlt; obtain ⟨k0, k1⟩ := (st1.keep (Below.refl _ _).drew).q0 hgrow))
      all_goals
        have st2 := (st1.keep (Below.refl _ _).drew).app (b := g) (o := 64 * k) (by have := st1.ws.lt; simpa using this) (fun e => by have := (World.ownsRow.lt st.pgs.own g e).1; have := st.gl; omega) (by have := st.gl; have := st.rge; omega) (by have := st.gl; have := st.qge; omega) (((st1.keep (Below.refl _ _).drew).ws).chunk k (by have := hnk.out; omega)) hown hgrow (by simpa using hat)
        clear hown hgrow hat hlt k0 k1 st1 st ha hne hfz hql q0 q1 qf had
        generalize w1.setCell ⟨q, 0, none⟩ (.slice (some ⟨t, 0, none⟩) (k + 1) cap) = w2 at *
        go_wp2
      all_goals
        have hnk' := hnk.out
        go_roundg (m - 64)
        case measure => omega
        case rel =>
          first
          | exact ⟨k + 1, m - 64, 0, _, _, _, by omega, by omega, rfl, rfl, fun hpos => by omega, st2⟩
          | exact ⟨k + 1, m - 64, cc - 64, _, _, _, by omega, by omega, rfl, rfl, fun hpos => rfl, st2⟩
    · have hm' : (m : Int) < 64 := by omega
      by_cases h0 : m = 0
      · subst h0
        have r0 := st.atR.cell 0
        have r1 := st.atR.cell 1
        have rf0 := st.atR.frozen 0
        have rf1 := st.atR.frozen 1
        have rq := st.rq
        simp at r0 r1
        obtain ⟨pa, pb, pc, rfl⟩ := st.pgs.sl
        go_wp2
        obtain rfl : M = k := by have := hnk.out; have := hM.out; omega
        subst hr
        exact wordsFin st (by rfl)
      · obtain rfl := had (by omega)
        have h1 : (0 : Int) < (m : Int) := by omega
        clear q0 q1 qf
        go_upto_region 7 with fail
        change Code.wp _ _ _ _ (wr.alloc (Obj.cells (List.replicate 64 (Value.int .u64 0)).toArray 115))
        have hb1 : Below wr.heap.size wr (wr.alloc (Obj.cells (List.replicate 64 (Value.int .u64 0)).toArray 115)) := (Below.refl _ _).alloc (Nat.le_refl _) _
        have z1 := zeros_at wr
        have st1 := st.keep hb1
        generalize wr.alloc (Obj.cells (List.replicate 64 (Value.int .u64 0)).toArray 115) = w1 at *
        have hsrc := tail64_src st1.ws hnk.out.1
        have hlen : (tail64 xs k).length = m := by have := st1.ws.len; have := hnk.out; simp [tail64]; omega
        have hsp := tail64_splice st1.ws.len hnk.out.1 (by omega)
        have h64 : Hid (Nat.min m 64 = m) := Nat.min_eq_left (by omega)
        have hfit : 0 + (tail64 xs k).length ≤ (List.replicate 64 (Value.int .u64 0)).length := by rw [hlen, List.length_replicate]; omega
        have h1c : ∀ v ∈ tail64 xs k, v.oneCell' = true := u64_one (xs.drop (64 * k))
        go_upto_region 9 with (first
          | (refine wpList_copy_splice (by rfl) (.tmp 26) (.tmp 27) 24 24 (by rfl) 25 Tryz.underlying24 infoU1 _ _ 64 64 m cc (by rfl) (by rfl) wr.heap.size 0 (List.replicate 64 (Value.int .u64 0)) 115 z1.is (tail64 xs k) (hlen.trans h64.out.symm) (fun _ => ⟨rfl, _, rfl, hsrc⟩) hfit h1c wr.heap.size w1 (Below.refl _ _) (Nat.le_refl _) ?_; intro w2 HG2 hB2; have st2 := st.keep (hb1.trans hB2); have st3 := st2.keep ((Below.refl _ _).alloc (Nat.le_refl _) (Obj.cells #[ptr (wr.heap.size, 0)] 113)); have q0 := st2.atQ.cell 0; have q1 := st2.atQ.cell 1; simp at q0 q1; have qf := st2.atQ.frozen 0; have hql := st2.atQ.lt)
          | (at_builtin; refine wpList_append_lies _ rfl (.tmp 30) (.tmp 32) 50 rfl w.heap.size 113 i0 (.pointer none) 1 8 Tryz.underlying50 hi hz0 hz1 hz2 rfl (by decide) pv k (ps.map ptr) rfl st3.pgs.own ⟨w2.heap.size, 0, none⟩ 1 1 [ptr (wr.heap.size, 0)] rfl rfl (World.news_of_block (cs := #[ptr (wr.heap.size, 0)]) (t := 113) (fr := (0, 0)) (heap_alloc_new w2 _)) (one_ptr _) (by decide) (by unfold maxLen; omega) (by omega) (by simp; have := st2.low.size; omega) (w2.heap.size + 1) (by simp) ?_; intro t cap w3 hown hgrow hat hlt; obtain ⟨k0, k1⟩ := st3.q0 hgrow))
        have hA : At w2 wr.heap.size (chunk xs k).toArray 115 := ⟨by rw [← hsp]; exact HG2.out⟩
        have hc : w2.rangeAt wr.heap.size 0 (chunk xs k) := fun j v hv => by rw [Nat.zero_add, hA.cell]; simpa using hv
        have st4 := st3.app (b := wr.heap.size) (o := 0) (by have := hA.lt; simp; omega) (fun e => by have := (World.ownsRow.lt st.pgs.own _ e).2; omega) (by have := st.atR.lt; omega) (by have := st.atQ.lt; omega) (World.rangeAt_alloc hc _) hown hgrow (by simpa using hat)
        clear hown hgrow hat hlt k0 k1 st3 st2 st1 st q0 q1 qf hsrc hsp hfit h1c HG2 hA hc hB2 hb1 z1
        generalize w3.setCell ⟨q, 0, none⟩ (.slice (some ⟨t, 0, none⟩) (k + 1) cap) = w4 at *
        have q0 := st4.atQ.cell 0
        have q1 := st4.atQ.cell 1
        have r0 := st4.atR.cell 0
        have r1 := st4.atR.cell 1
        have rf0 := st4.atR.frozen 0
        have rf1 := st4.atR.frozen 1
        have rq := st4.rq
        simp at q0 q1 r0 r1
        go_wp2
        obtain rfl : M = k + 1 := by have := hnk.out; have := hM.out; omega
        subst hr
        exact wordsFin st4 (by rfl)
end Go.Proofs.YtgmoemjiffglbaaGreat
namespace Go.Proofs.YtgmoemjiffglbaaGreat
open Go.RowKit
set_option maxRecDepth 100000
set_option linter.unusedVariables false
set_option linter.unusedSimpArgs false
/-- What stands of a struct of words in block q: its pages hold xs, n of them. -/
structure Wst (w : World) (B q n : Nat) (xs : List Int) : Prop where
  ex : ∃ pv ps, At w q #[pv, .int .i64 n] 52 ∧ Pgs w B pv ps ((n + 63) / 64) xs ∧ pv.ownBlock ≠ some q ∧ ∀ p ∈ ps, p.1 ≠ q
  len : xs.length = n
  qB : B ≤ q
theorem Wst.keep {w w' : World} {B q n : Nat} {xs : List Int} (h : Wst w B q n xs) (hb : Below w.heap.size w w') : Wst w' B q n xs := by
  obtain ⟨⟨pv, ps, h1, h2, h3, h4⟩, hl, hq⟩ := h
  exact ⟨⟨pv, ps, h1.keep hb, h2.keep hb, h3, h4⟩, hl, hq⟩
/-- The page of a place: its pointer in the row of pages, and its words. -/
theorem Wst.page {w : World} {B q n : Nat} {xs : List Int} (h : Wst w B q n xs) {i : Nat} (hi : i < n) :
    ∃ (r cap b o : Nat) (ps : List (Nat × Nat)), w.cell? ⟨q, 0, none⟩ = some (.slice (some ⟨r, 0, none⟩) ((n + 63) / 64) cap) ∧ w.cell? ⟨q, 1, none⟩ = some (.int .i64 n) ∧
      w.cell? ⟨r, i / 64, none⟩ = some (.pointer (some ⟨b, o, none⟩)) ∧ w.frozen? ⟨r, i / 64, none⟩ = false ∧ w.rangeAt b o (chunk xs (i / 64)) ∧ i / 64 < (n + 63) / 64 ∧
      At w q #[.slice (some ⟨r, 0, none⟩) ((n + 63) / 64) cap, .int .i64 n] 52 ∧ Pgs w B (.slice (some ⟨r, 0, none⟩) ((n + 63) / 64) cap) ps ((n + 63) / 64) xs ∧ r ≠ q ∧ (∀ p ∈ ps, p.1 ≠ q) ∧ b < w.heap.size ∧ B ≤ r ∧ r < w.heap.size := by
  obtain ⟨⟨pv, ps, h1, h2, h3, h4⟩, hl, hq⟩ := h
  have hk : i / 64 < (n + 63) / 64 := by omega
  rcases h2.own.2 with ⟨rfl, h0⟩ | ⟨r, cap, cur, rfl, hB, hcur, hc1, hc2, hc3, hc4⟩
  · omega
  · have hp : i / 64 < ps.length := by rw [h2.len]; exact hk
    obtain ⟨hb, hbr, hc⟩ := h2.pg (i / 64) ps[i / 64] (List.getElem?_eq_getElem hp)
    have hcell := World.ownsRow.cellAt h2.own (i / 64) (by omega)
    refine ⟨r, cap, ps[i / 64].1, ps[i / 64].2, ps, h1.cell 0, h1.cell 1, ?_, World.ownsRow.frozenAt h2.own _, hc, hk, h1, h2, fun e => h3 (by simp [Value.ownBlock, e]), h4, hb, hB, (World.ownsRow.lt h2.own r rfl).2⟩
    rw [hcell]
    simp [hp, ptr]
set_option maxHeartbeats 2000000 in
theorem iwRead (B q n : Nat) (xs : List Int) (at_ : Int) (w : World) (h : Wst w B q n xs) (hn : n ≤ 16777216) :
    Calls Tryz.prog 112 #[.pointer (some ⟨q, 0, none⟩), .int .i64 at_] w fun e w' => e = .returned (.tuple #[.int .u64 (red xs at_), .bool (thr at_ n)]) ∧ w' = w := by
  have hl := h.len
  cases ht : thr at_ n
  · have er : red xs at_ = 0 := by unfold red; rw [hl, ht]; rfl
    rw [er]
    obtain ⟨⟨pv, ps, h1, -⟩, -, -⟩ := h
    have q1 := h1.cell 1
    simp at q1
    go_enter Tryz.func112, Tryz.ntmps112
    go_wp2_with (go_at_call 73; refine (iWithin _ _ _ _).mono ?_; rintro e w2 ⟨rfl, rfl⟩; rw [thr_inB, ht])
    go_returns
    exact ⟨rfl, rfl⟩
  · obtain ⟨i, hi, rfl⟩ := thr_true ht
    have er : red xs (i : Int) = xs.getD i 0 := by unfold red; rw [hl, ht]; simp
    rw [er]
    obtain ⟨r, cap, b, o, ps, q0, q1, c0, -, hc, hk, -⟩ := h.page hi
    have c1 := hc (i % 64) _ (chunk_at _ _ _ (by omega))
    rw [show 64 * (i / 64) + i % 64 = i from by omega] at c1
    obtain ⟨z, hz⟩ : ∃ z : Int, Hid (xs.getD i 0 = z) := ⟨_, rfl⟩
    rw [hz.out] at c1 ⊢
    obtain ⟨M, hM⟩ : ∃ M : Nat, Hid ((n + 63) / 64 = M) := ⟨_, rfl⟩
    rw [hM.out] at q0 hk
    obtain ⟨k, j, hkj⟩ : ∃ k j : Nat, Hid (i / 64 = k ∧ i % 64 = j) := ⟨_, _, rfl, rfl⟩
    rw [hkj.out.1] at c0 hk
    rw [hkj.out.2] at c1
    have e1 : (i : Int) / 64 = (k : Int) := by have := hkj.out; omega
    have e2 : (i : Int) % 64 = (j : Int) := by have := hkj.out; omega
    have b1 : (k : Int) < (M : Int) := by omega
    have b2 : (j : Int) < 64 := by have := hkj.out; omega
    go_enter Tryz.func112, Tryz.ntmps112
    go_wp2_with (go_at_call 73; refine (iWithin _ _ _ _).mono ?_; rintro e w2 ⟨rfl, rfl⟩; rw [thr_inB, ht])
    go_returns
    exact ⟨rfl, rfl⟩
theorem heap_setCellsW (b : Nat) : ∀ (vs : List Value) (o : Nat) (w : World) (k : Nat), k ≠ b → (w.setCells b o vs).heap[k]? = w.heap[k]?
  | [], _, _, _, _ => rfl
  | v :: r, o, w, k, h => by
    rw [World.setCells, heap_setCellsW b r (o + 1) _ k h]
    exact Below.heap_setCell _ _ _ _ h
theorem below_setCellsW {B : Nat} {a : World} (b : Nat) (hb : B ≤ b) : ∀ (vs : List Value) (o : Nat) (w : World), Below B a w → Below B a (w.setCells b o vs)
  | [], _, _, h => h
  | v :: r, o, w, h => by
    rw [World.setCells]
    exact below_setCellsW b hb r (o + 1) _ (h.setCell (p := ⟨b, o, none⟩) hb _)
theorem chunk_set {xs : List Int} {n i : Nat} (hl : xs.length = n) (hi : i < n) (x : Int) : (chunk xs (i / 64)).set (i % 64) (.int .u64 x) = chunk (xs.set i x) (i / 64) := by
  refine List.ext_getElem? fun j => ?_
  by_cases hj : j < 64
  · rw [chunk_at _ _ _ hj, List.getElem?_set]
    by_cases e : i % 64 = j
    · rw [if_pos e, if_pos (by rw [chunk_len]; omega)]
      have e2 : 64 * (i / 64) + j = i := by omega
      rw [e2]
      have : i < xs.length := by omega
      simp [this]
    · rw [if_neg e, chunk_at _ _ _ hj]
      have e2 : ¬ i = 64 * (i / 64) + j := by omega
      simp [List.getElem?_set, e2]
  · rw [List.getElem?_eq_none (by simp [chunk_len]; omega), List.getElem?_eq_none (by rw [chunk_len]; omega)]
theorem chunk_other {xs : List Int} {i k : Nat} (h : i / 64 ≠ k) (x : Int) : chunk (xs.set i x) k = chunk xs k := by
  refine List.ext_getElem? fun j => ?_
  by_cases hj : j < 64
  · rw [chunk_at _ _ _ hj, chunk_at _ _ _ hj]
    have e2 : ¬ i = 64 * k + j := by omega
    simp [List.getElem?_set, e2]
  · rw [List.getElem?_eq_none (by rw [chunk_len]; omega), List.getElem?_eq_none (by rw [chunk_len]; omega)]
theorem rangeAt_setCell {w : World} {b o : Nat} {cs : List Value} (h : w.rangeAt b o cs) (j : Nat) (hj : j < cs.length) (v : Value) : (w.setCell ⟨b, o + j, none⟩ v).rangeAt b o (cs.set j v) := by
  intro i u hu
  rw [List.getElem?_set] at hu
  by_cases e : j = i
  · subst e
    rw [if_pos rfl, if_pos hj] at hu
    simp at hu
    subst hu
    have := h j _ (List.getElem?_eq_getElem hj)
    simp [World.cell?_setCell_same, this]
  · rw [if_neg e] at hu
    rw [← h i u hu]
    exact World.cell?_setCell_other _ _ _ _ (by simp <;> omega)
/-- A page of one's own takes the place of page i / 64. -/
theorem Wst.wrote {w w1 : World} {B q n r cap W i : Nat} {xs : List Int} {ps : List (Nat × Nat)} {x : Int} (hl : xs.length = n) (hi : i < n)
    (a : At w q #[.slice (some ⟨r, 0, none⟩) ((n + 63) / 64) cap, .int .i64 n] 52) (p : Pgs w B (.slice (some ⟨r, 0, none⟩) ((n + 63) / 64) cap) ps ((n + 63) / 64) xs) (rq : r ≠ q) (hp : ∀ p ∈ ps, p.1 ≠ q) (hB : B ≤ q)
    (b1 : Below w.heap.size w w1) (hW : W = w.heap.size) (hc : w1.rangeAt W 0 (chunk (xs.set i x) (i / 64))) : Wst (w1.setCell ⟨r, i / 64, none⟩ (ptr (W, 0))) B q n (xs.set i x) := by
  have hk : i / 64 < (n + 63) / 64 := by omega
  have rl := (World.ownsRow.lt p.own r rfl).2
  have Wl : W < w1.heap.size := World.block_lt_of_cell? w1 _ (hc 0 _ (chunk_at _ _ _ (by omega)))
  have p1 := p.keep b1
  refine ⟨⟨_, ps.set (i / 64) (W, 0), (a.keep b1).other (a := ⟨r, i / 64, none⟩) (Ne.symm rq) _, ⟨by simp [p.len], ?_, ?_⟩, by simpa [Value.ownBlock] using rq, ?_⟩, by simp [hl], hB⟩
  · have := (World.ownsRow.stored p1.own (i / 64) (ptr (W, 0))).1
    simpa [List.map_set] using this
  · intro j u hu
    rw [List.getElem?_set] at hu
    by_cases e : i / 64 = j
    · subst e
      rw [if_pos rfl, if_pos (by rw [p.len]; exact hk)] at hu
      simp at hu
      subst hu
      refine ⟨by simpa [World.setCell] using Wl, fun e => (by omega : r ≠ W) (by simpa [Value.ownBlock] using e), rangeAt_block hc (Below.heap_setCell _ _ _ _ (by show W ≠ r; omega))⟩
    · rw [if_neg e] at hu
      obtain ⟨h1, h2, h3⟩ := p1.pg j u hu
      refine ⟨by simpa [World.setCell] using h1, h2, ?_⟩
      rw [chunk_other e]
      exact rangeAt_block h3 (Below.heap_setCell _ _ _ _ (fun e => h2 (by simp [Value.ownBlock]; exact e.symm)))
  · intro u hu
    rcases List.mem_or_eq_of_mem_set hu with hu | rfl
    · exact hp u hu
    · have := a.lt
      show W ≠ q
      omega
theorem infoA : (Tryz.prog.info? 115).map (·.size) = some 64 := by kernel_rfl
theorem zeros_there (w : World) : (w.alloc (.cells (List.replicate 64 (Value.int .u64 0)).toArray 115)).there w.heap.size 0 64 := by
  intro j hj
  have z := zeros_at w
  rw [Nat.zero_add, z.cell, z.frozen]
  simp only [List.getElem?_toArray, List.getElem?_replicate, if_pos hj]
  exact ⟨rfl, trivial⟩
set_option maxHeartbeats 4000000 in
theorem iwWrite (B q n : Nat) (xs : List Int) (at_ x : Int) (w : World) (h : Wst w B q n xs) (hn : n ≤ 16777216) :
    Calls Tryz.prog 85 #[.pointer (some ⟨q, 0, none⟩), .int .i64 at_, .int .u64 x] w fun e w' => e = .returned (.bool (thr at_ n)) ∧ Wst w' B q n (wrote xs at_ x) ∧ Below B w w' := by
  have hl := h.len
  cases ht : thr at_ n
  · rw [wrote_n hl ht]
    have hh := h
    obtain ⟨⟨pv, ps, h1, -⟩, -, -⟩ := hh
    have q1 := h1.cell 1
    simp at q1
    go_enter Tryz.func85, Tryz.ntmps85
    go_wp2_with (go_at_call 73; refine (iWithin _ _ _ _).mono ?_; rintro e w2 ⟨rfl, rfl⟩; rw [thr_inB, ht])
    go_ret
    exact ⟨rfl, h, Below.refl _ _⟩
  · obtain ⟨i, hi, rfl⟩ := thr_true ht
    rw [wrote_y hl hi]
    obtain ⟨r, cap, b, o, ps, q0, q1, c0, f0, hc, hk, aq, P, rq, hpq, hb, hBr, hrl⟩ := h.page hi
    have hBq := h.qB
    have hrB : B ≤ w.heap.size := by omega
    obtain ⟨M, hM⟩ : ∃ M : Nat, Hid ((n + 63) / 64 = M) := ⟨_, rfl⟩
    obtain ⟨k, j, hkj⟩ : ∃ k j : Nat, Hid (i / 64 = k ∧ i % 64 = j) := ⟨_, _, rfl, rfl⟩
    have HP : Hid (Pgs w B (.slice (some ⟨r, 0, none⟩) ((n + 63) / 64) cap) ps ((n + 63) / 64) xs ∧ At w q #[.slice (some ⟨r, 0, none⟩) ((n + 63) / 64) cap, .int .i64 n] 52) := ⟨P, aq⟩
    clear P aq
    rw [hM.out] at q0 hk
    rw [hkj.out.1] at c0 f0 hc hk
    have e1 : (i : Int) / 64 = (k : Int) := by have := hkj.out; omega
    have e2 : (i : Int) % 64 = (j : Int) := by have := hkj.out; omega
    have b1 : (k : Int) < (M : Int) := by omega
    have b2 : (j : Int) < 64 := by have := hkj.out; omega
    have hth := zeros_there w
    have hB1 : Below w.heap.size w ((w.alloc (.cells (List.replicate 64 (Value.int .u64 0)).toArray 115)).setCells w.heap.size 0 (chunk xs k)) := below_setCellsW _ (Nat.le_refl _) _ _ _ ((Below.refl _ _).alloc (Nat.le_refl _) _)
    have hR1 := World.rangeAt_setCells_same _ w.heap.size 0 (chunk xs k) (by rw [chunk_len]; exact hth)
    have hF1 : ∀ j, ((w.alloc (.cells (List.replicate 64 (Value.int .u64 0)).toArray 115)).setCells w.heap.size 0 (chunk xs k)).frozen? ⟨w.heap.size, j, none⟩ = false := fun j => by rw [World.frozen?_setCells]; exact (zeros_at w).frozen j
    go_enter Tryz.func85, Tryz.ntmps85
    go_upto_region 4 with (first
      | (go_at_call 73; refine (iWithin _ _ _ _).mono ?_; rintro e w2 ⟨rfl, rfl⟩; rw [thr_inB, ht])
      | (refine wpList_load_mid (by rfl) 115 (.tmp 24) (by rfl) b o (by rfl) (chunk xs k) _ hc Tryz.underlying115 rfl (by rw [chunk_len]; exact infoA) ?_)
      | (refine wpList_store_mid (by rfl) 115 (.tmp 7) (.tmp 25) (by rfl) w2.heap.size 0 (chunk xs k).toArray (by rfl) (by rfl) (by simp only [List.size_toArray, chunk_len]; exact hth) (by simp only [List.size_toArray, chunk_len]; exact infoA) (all_oneCell_toArray (chunk_one xs k)) ?_))
    change Code.wp _ _ _ _ ((w2.alloc (Obj.cells (List.replicate 64 (Value.int .u64 0)).toArray 115)).setCells w2.heap.size 0 (chunk xs k))
    clear hth
    generalize ((w2.alloc (Obj.cells (List.replicate 64 (Value.int .u64 0)).toArray 115)).setCells w2.heap.size 0 (chunk xs k)) = w3 at *
    have c3 := hR1 j _ (chunk_at _ _ _ (by omega))
    have f3 := hF1 j
    rw [Nat.zero_add] at c3
    have d0 := (hB1.cell (p := ⟨r, k, none⟩) hrl).trans c0
    have g0 := (hB1.frozen (p := ⟨r, k, none⟩) hrl).trans f0
    have hql := HP.out.2.lt
    have p0 := (hB1.cell (p := ⟨q, 0, none⟩) hql).trans q0
    have hne : r ≠ w2.heap.size := by omega
    have hne2 : q ≠ w2.heap.size := by omega
    have fin := Wst.wrote (x := x) hl hi HP.out.2 HP.out.1 rq hpq hBq (hB1.setCell (p := ⟨w2.heap.size, j, none⟩) (Nat.le_refl _) (.int .u64 x)) rfl (by
      have := rangeAt_setCell hR1 j (by rw [chunk_len]; omega) (.int .u64 x)
      rw [Nat.zero_add] at this
      rw [← chunk_set hl hi x, hkj.out.1, hkj.out.2]
      exact this)
    rw [hkj.out.1] at fin
    have FIN : Hid (Wst ((w3.setCell ⟨w2.heap.size, j, none⟩ (.int .u64 x)).setCell ⟨r, k, none⟩ (ptr (w2.heap.size, 0))) B q n (xs.set i x)) := fin
    clear fin hR1 hc hF1 c0 f0 q0 q1
    go_wp2
    go_ret
    refine ⟨rfl, FIN.out, ?_⟩
    exact ((hB1.mono hrB).setCell (p := ⟨w2.heap.size, j, none⟩) hrB _).setCell (p := ⟨r, k, none⟩) hBr _
end Go.Proofs.YtgmoemjiffglbaaGreat
namespace Go.Proofs.YtgmoemjiffglbaaGreat
open Go.RowKit
set_option maxRecDepth 100000
set_option linter.unusedVariables false
set_option linter.unusedSimpArgs false
set_option maxHeartbeats 2000000 in
theorem iwSwap (B q n : Nat) (xs : List Int) (at_ y x : Int) (w : World) (h : Wst w B q n xs) (hn : n ≤ 16777216) :
    Calls Tryz.prog 116 #[.pointer (some ⟨q, 0, none⟩), .int .i64 at_, .int .u64 y, .int .u64 x] w fun e w' => e = .returned (.bool (swaps xs at_ y)) ∧ Wst w' B q n (swapped xs at_ y x) ∧ Below B w w' := by
  have hl := h.len
  cases ht : thr at_ n
  · obtain ⟨e1, e2⟩ := swap_n (x := x) (y := y) hl (.inl ht)
    rw [e1, e2]
    go_enter Tryz.func116, Tryz.ntmps116
    go_wp2_with (go_at_call 112; refine (iwRead B q n xs _ _ h hn).mono ?_; rintro e w1 ⟨rfl, rfl⟩; rw [ht])
    go_ret
    exact ⟨rfl, h, Below.refl _ _⟩
  · obtain ⟨i, hi, rfl⟩ := thr_true ht
    obtain ⟨z, hz⟩ : ∃ z : Int, Hid (red xs (i : Int) = z) := ⟨_, rfl⟩
    have er : xs.getD i 0 = z := by rw [← hz.out]; unfold red; rw [hl, ht]; simp
    by_cases hzy : z = y
    · subst hzy
      obtain ⟨e1, e2⟩ := swap_y (x := x) hl hi er
      rw [e1, e2, ← wrote_y hl hi]
      clear er e1 e2
      go_enter Tryz.func116, Tryz.ntmps116
      go_wp2_with (first
        | (go_at_call 112; refine (iwRead B q n xs _ _ h hn).mono ?_; rintro e w1 ⟨rfl, rfl⟩; rw [ht, hz.out])
        | (go_at_call 85; refine (iwWrite B q n xs _ _ _ h hn).mono ?_; rintro e w2 ⟨rfl, hW, hb⟩; rw [ht]))
      go_ret
      exact ⟨rfl, hW, hb⟩
    · obtain ⟨e1, e2⟩ := swap_n (a := (i : Int)) (x := x) (y := y) hl (.inr (by rw [Int.toNat_natCast, er]; exact hzy))
      rw [e1, e2]
      clear er e1 e2
      go_enter Tryz.func116, Tryz.ntmps116
      go_wp2_with (go_at_call 112; refine (iwRead B q n xs _ _ h hn).mono ?_; rintro e w1 ⟨rfl, rfl⟩; rw [ht, hz.out])
      go_ret
      exact ⟨rfl, h, Below.refl _ _⟩
theorem Ws.full {w : World} {g n : Nat} {xs : List Int} (h : Ws w g n n xs) : w.heap[g]? = some (.cells (xs.map (Value.int .u64)).toArray 25 (0, 0)) := by
  rcases h.own.2 with ⟨hv, _⟩ | ⟨g', cap, cur, hv, h1, h2, h3, h4, h5, h6⟩
  · cases hv
  · obtain ⟨⟨rfl⟩, -, rfl⟩ : (some (⟨g, 0, none⟩ : Addr) = some ⟨g', 0, none⟩) ∧ n = n ∧ n = cap := by simpa using hv
    rw [h2, ← h6]
    have : cur.toList.take (n * 1) = cur.toList := List.take_of_length_le (by simp; omega)
    rw [this]
theorem Ws.of_full {w : World} {g n : Nat} {xs : List Int} (hl : xs.length = n) (hn : n ≤ 16777216) (h : w.heap[g]? = some (.cells (xs.map (Value.int .u64)).toArray 25 (0, 0))) (bd : ∀ x ∈ xs, 0 ≤ x ∧ x ≤ 18446744073709551615) : Ws w g n n xs :=
  ⟨hl, ⟨by simp [hl], .inr ⟨g, n, _, rfl, Nat.zero_le _, h, Nat.le_refl _, by unfold maxLen; omega, by simp [hl], by rw [Nat.mul_one]; exact List.take_of_length_le (by simp [hl])⟩⟩, bd⟩
/-- The words of page i, none behind the list's end. -/
def part64 (xs : List Int) (i : Nat) : List Value := ((xs.drop (64 * i)).take 64).map (Value.int .u64)
theorem part64_len {xs : List Int} {n i : Nat} (hl : xs.length = n) : (part64 xs i).length = Nat.min 64 (n - 64 * i) := by
  simp [part64, hl]
theorem part64_splice {xs : List Int} {n i : Nat} (hl : xs.length = n) (hi : 64 * i < n) :
    splice ((xs.take (64 * i) ++ List.replicate (n - 64 * i) 0).map (Value.int .u64)) (64 * i) (part64 xs i) = (xs.take (64 * (i + 1)) ++ List.replicate (n - 64 * (i + 1)) 0).map (Value.int .u64) := by
  unfold splice
  have e1 : (part64 xs i).length = min 64 (n - 64 * i) := by simp [part64, hl]
  have e2 : ((xs.take (64 * i) ++ List.replicate (n - 64 * i) 0).map (Value.int .u64)).take (64 * i) = (xs.take (64 * i)).map (Value.int .u64) := by
    rw [List.map_append, List.take_append_of_le_length (by simp; omega), List.take_of_length_le (by simp; omega)]
  have e3 : ((xs.take (64 * i) ++ List.replicate (n - 64 * i) 0).map (Value.int .u64)).drop (64 * i + (part64 xs i).length) = (List.replicate (n - 64 * (i + 1)) (0 : Int)).map (Value.int .u64) := by
    rw [e1, List.map_append, List.drop_append, List.drop_eq_nil_of_le (by simp; omega)]
    simp [hl]
    omega
  rw [e2, e3]
  have e4 : xs.take (64 * (i + 1)) = xs.take (64 * i) ++ (xs.drop (64 * i)).take 64 := by
    rw [show 64 * (i + 1) = 64 * i + 64 from by omega, List.take_add]
  rw [e4]
  simp [part64]
theorem part64_src {w : World} {b o i n : Nat} {xs : List Int} (hl : xs.length = n) (h : w.rangeAt b o (chunk xs i)) : ∀ (j : Nat) (v : Value), (part64 xs i)[j]? = some v → w.cell? ((⟨b, o, none⟩ : Addr).add j) = some v := by
  intro j v hv
  have hj : j < min 64 (n - 64 * i) := by
    have := (List.getElem?_eq_some_iff.1 hv).1
    simpa [part64, hl] using this
  rw [Addr.add_mid]
  refine h j v ?_
  rw [chunk_at _ _ _ (by omega), ← hv]
  have h2 : 64 * i + j < xs.length := by omega
  have h3 : j < 64 := by omega
  simp [part64, h2, h3]
theorem part64_one (xs : List Int) (i : Nat) : ∀ u ∈ part64 xs i, u.oneCell' = true := u64_one _
set_option maxHeartbeats 4000000 in
theorem iwList (B q n : Nat) (xs : List Int) (w : World) (h : Wst w B q n xs) (hn : n ≤ 16777216) (bd : ∀ x ∈ xs, 0 ≤ x ∧ x ≤ 18446744073709551615) :
    Calls Tryz.prog 84 #[.pointer (some ⟨q, 0, none⟩)] w fun e w' => e = .returned (.slice (some ⟨w.heap.size, 0, none⟩) n n) ∧ Ws w' w.heap.size n n xs ∧ Below w.heap.size w w' := by
  have hmk := run_make_row' (P := Tryz.prog) 24 25 (.int .u64 0) 8 Tryz.underlying24 infoU rfl .i64 .i64 n (by omega) (by omega)
  have hW := Ws.made w n (by omega)
  have hB : Below w.heap.size w (w.alloc (.cells (madeCells #[.int .u64 0] n) 25)) := (Below.refl _ _).alloc (Nat.le_refl _) _
  obtain ⟨⟨pv, ps, aq, P, h3, h4⟩, hl, hq⟩ := h
  obtain ⟨pa, pb, pc, rfl⟩ := P.sl
  have hpb : pb = (n + 63) / 64 := by
    rcases P.own.2 with ⟨hv, h0⟩ | ⟨r, cap, cur, hv, _⟩
    · obtain ⟨-, rfl, -⟩ : pa = none ∧ pb = 0 ∧ pc = 0 := by simpa using hv
      exact h0.symm
    · obtain ⟨-, e, -⟩ : pa = some ⟨r, 0, none⟩ ∧ pb = (n + 63) / 64 ∧ pc = cap := by simpa using hv
      exact e
  have q0 := aq.cell 0
  have q1 := aq.cell 1
  simp at q0 q1
  have ql := aq.lt
  obtain ⟨M, hM⟩ : ∃ M : Nat, Hid ((n + 63) / 64 = M) := ⟨_, rfl⟩
  rw [hM.out] at hpb P
  subst hpb
  have hMn : pb ≤ 16777216 ∧ ∀ i, i < pb → 64 * i < n := by
    have := hM.out
    exact ⟨by omega, fun i hi => by omega⟩
  have d0 : (w.alloc (.cells (madeCells #[.int .u64 0] n) 25)).cell? ⟨q, 0, none⟩ = some (.slice pa pb pc) := (hB.cell (p := ⟨q, 0, none⟩) ql).trans q0
  go_enter Tryz.func84, Tryz.ntmps84
  go_wp2
  obtain ⟨G, hG⟩ : ∃ G : Nat, Hid (G = w.heap.size) := ⟨_, rfl⟩
  rw [← hG.out]
  go_loopg [16] pb (fun g y wr => ∃ i : Nat, i ≤ pb ∧ g = pb - i ∧ y = .int .i64 i ∧ Ws wr G n n (xs.take (64 * i) ++ List.replicate (n - 64 * i) 0) ∧ Below G w wr)
  case atStart => exact ⟨0, Nat.zero_le _, rfl, rfl, by rw [hG.out]; simpa using hW, by rw [hG.out]; exact hB⟩
  case round =>
    clear hW hB hmk d0
    obtain ⟨i, i0, hg, rfl, hW, hB⟩ := hrel
    by_cases hi : i < pb
    · have hi' : (i : Int) < pb := by omega
      have hin := hMn.2 i hi
      rcases P.own.2 with ⟨hv, h0⟩ | ⟨r, cap, cur, hv, _⟩
      · omega
      · obtain ⟨rfl, -, rfl⟩ : pa = some ⟨r, 0, none⟩ ∧ pb = pb ∧ pc = cap := by simpa using hv
        have hp : i < ps.length := by rw [P.len]; exact hi
        obtain ⟨hb, hbr, hc⟩ := P.pg i ps[i] (List.getElem?_eq_getElem hp)
        obtain ⟨b, o, hbo⟩ : ∃ b o, ps[i] = (b, o) := ⟨_, _, rfl⟩
        have c0 : wr.cell? ⟨r, i, none⟩ = some (.pointer (some ⟨b, o, none⟩)) := by
          rw [hB.cell (p := ⟨r, i, none⟩) (by show r < G; rw [hG.out]; exact (World.ownsRow.lt P.own r rfl).2), World.ownsRow.cellAt P.own i (by omega)]
          simp [hp, ptr, hbo]
        rw [hbo] at hb hbr hc
        have hc1 : wr.rangeAt b o (chunk xs i) := rangeAt_block hc (hB.block b (by rw [hG.out]; exact hb))
        have hsrc := part64_src hl hc1
        have hfull := hW.full
        have hlen : (xs.take (64 * i) ++ List.replicate (n - 64 * i) 0).length = n := by simp [hl]; omega
        have hm0 := part64_len (i := i) hl
        have hfit : i * 64 + (part64 xs i).length ≤ ((xs.take (64 * i) ++ List.replicate (n - 64 * i) 0).map (Value.int .u64)).length := by
          rw [List.length_map, hlen, hm0]
          have := Nat.min_le_right 64 (n - 64 * i)
          simp only [Nat.min_def] at *
          split <;> omega
        have hsp := part64_splice hl hin
        have z1 : (i : Int) * 64 < (n : Int) := by omega
        have hm1 : (part64 xs i).length = Nat.min 64 (n - i * 64) := by rw [hm0, Nat.mul_comm]
        have HS : Hid (splice ((xs.take (64 * i) ++ List.replicate (n - 64 * i) 0).map (Value.int .u64)) (i * 64) (part64 xs i) = (xs.take (64 * (i + 1)) ++ List.replicate (n - 64 * (i + 1)) 0).map (Value.int .u64)) := by rw [Nat.mul_comm i 64]; exact hsp
        clear hsp hm0 hlen
        generalize (xs.take (64 * i) ++ List.replicate (n - 64 * i) 0).map (Value.int .u64) = cur at hfull hfit HS
        obtain ⟨s, hs⟩ : ∃ s : Nat, Hid (i * 64 = s) := ⟨_, rfl⟩
        rw [hs.out] at hfit HS hm1
        have hwr : IntKind.i64.wrap ((i : Int) * 64) = (s : Int) := by rw [IntKind.wrap_i64]; have := hs.out; omega
        have s0 : (0 : Int) ≤ (s : Int) := by omega
        have s1 : (s : Int) ≤ (n : Int) := by have := hs.out; omega
        have s2 : ¬ n = s := by have := hs.out; omega
        go_wp2
        go_region_law (refine step_copy_splice (by rfl) (.tmp 24) (.tmp 27) 24 24 (by rfl) 25 Tryz.underlying24 infoU1 _ _ (n - s) (n - s) 64 64 (by rfl) (by rfl) G s cur 25 hfull (part64 xs i) hm1 (fun _ => ⟨rfl, _, rfl, hsrc⟩) hfit (part64_one xs i) G w hB.drew (Nat.le_refl _) ?_; intro w4 hg4 hb4)
        all_goals
          go_wp2
          have hW4 := Ws.of_full (w := w4) (g := G) (n := n) (xs := xs.take (64 * (i + 1)) ++ List.replicate (n - 64 * (i + 1)) 0) (by simp [hl]; omega) hn (by rw [← HS.out]; exact hg4.out) (fun x hx => by
            rcases List.mem_append.1 hx with hx | hx
            · exact bd x (List.mem_of_mem_take hx)
            · have := (List.mem_replicate.1 hx).2; omega)
          go_roundg (gk - 1)
          case measure => omega
          case rel => exact ⟨i + 1, by omega, by omega, by go_num, hW4, hb4⟩
    · obtain rfl : i = pb := by omega
      go_wp2
      go_ret
      rw [← hG.out]
      refine ⟨rfl, ?_, hB⟩
      have e : xs.take (64 * i) = xs := List.take_of_length_le (by have := hM.out; omega)
      have e2 : n - 64 * i = 0 := by have := hM.out; omega
      rw [e, e2] at hW
      simpa using hW
end Go.Proofs.YtgmoemjiffglbaaGreat
namespace Go.Proofs.YtgmoemjiffglbaaGreat
open Go.RowKit
set_option maxRecDepth 100000
set_option linter.unusedVariables false
set_option linter.unusedSimpArgs false
/-- The struct that wordsOf answered, laid into a variable. -/
theorem Wst.new {w : World} {B n : Nat} {pv : Value} {ps : List (Nat × Nat)} {xs : List Int} (hl : xs.length = n) (P : Pgs w B pv ps ((n + 63) / 64) xs) (hB : B ≤ w.heap.size) :
    Wst (w.alloc (.cells #[pv, .int .i64 n] 52)) B w.heap.size n xs := by
  refine ⟨⟨pv, ps, At.new _ _ _, P.keep ((Below.refl _ _).alloc (Nat.le_refl _) _), fun e => ?_, fun p hp => ?_⟩, hl, hB⟩
  · have := (World.ownsRow.lt P.own _ e).2
    omega
  · obtain ⟨i, hi⟩ := List.getElem?_of_mem hp
    have := (P.pg i p hi).1
    omega
theorem wrote_bd {xs : List Int} {x : Int} (bd : ∀ x ∈ xs, 0 ≤ x ∧ x ≤ 18446744073709551615) (hx : 0 ≤ x ∧ x ≤ 18446744073709551615) (a : Int) : ∀ y ∈ wrote xs a x, 0 ≤ y ∧ y ≤ 18446744073709551615 := by
  intro y hy
  unfold wrote at hy
  split at hy
  · rcases List.mem_or_eq_of_mem_set hy with hy | rfl
    · exact bd y hy
    · exact hx
  · exact bd y hy
theorem swapped_bd {xs : List Int} {x : Int} (bd : ∀ x ∈ xs, 0 ≤ x ∧ x ≤ 18446744073709551615) (hx : 0 ≤ x ∧ x ≤ 18446744073709551615) (a s : Int) : ∀ y ∈ swapped xs a s x, 0 ≤ y ∧ y ≤ 18446744073709551615 := by
  intro y hy
  unfold swapped at hy
  split at hy
  · rcases List.mem_or_eq_of_mem_set hy with hy | rfl
    · exact bd y hy
    · exact hx
  · exact bd y hy
end Go.Proofs.YtgmoemjiffglbaaGreat
