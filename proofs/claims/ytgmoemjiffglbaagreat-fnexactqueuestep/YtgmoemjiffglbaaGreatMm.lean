/-
  The specification's step: the next thing.
  The specification's step: AtNote.
  The specification's step: the next thing, where a swap is done.
  The specification's step and the program's come to the same.
  The answers of steps, compared, marked and held.
  The answer of a step where it lies: its own block, and that of its words.
-/
import Derived.Test.YtgmoemjiffglbaaGreatMl
namespace Go.Proofs.YtgmoemjiffglbaaGreat
open Go.RowKit
set_option maxRecDepth 100000
set_option linter.unusedVariables false
set_option linter.unusedSimpArgs false
def S8.note (st : S8) : Int := vNote st.p st.s st.l st.c st.k (uP st.h.seen) st.h.for_
def S8.sayT (st : S8) : S8 := (st.wr (st.slot 4) (pk st.h.reply 0 st.h.out st.h.number)).to 3
def S8.noteT (st : S8) : S8 := (st.rdS st.note).to (if st.rd st.note < uS st.h.seen then 7 else 8)
def S8.swapT (st : S8) : S8 := if (st.swp st.h.addr st.h.seen st.h.put).1 = true then (if st.h.does = 0 then ((st.swp st.h.addr st.h.seen st.h.put).2).to st.h.good else S8.to { (st.swp st.h.addr st.h.seen st.h.put).2 with d := st.h.told st.h.does } st.h.good) else ((st.swp st.h.addr st.h.seen st.h.put).2).to st.h.bad
end Go.Proofs.YtgmoemjiffglbaaGreat
namespace Go.Proofs.YtgmoemjiffglbaaGreat
open Go.RowKit
set_option maxRecDepth 100000
set_option linter.unusedVariables false
set_option linter.unusedSimpArgs false
theorem sl8ReadY (b : Nat) (st : S8) (a : Int) (w : World) (S : SAt w b st) (hn : st.n ≤ 16777216) (ht : thr a st.n = true) :
    Calls Tryz.prog 31 #[.pointer (some ⟨b, 0, none⟩), .int .i64 a] w fun e w' => e = .returned (.int .u64 (st.rd a)) ∧ w' = w := by
  have cA := S.cA
  have hl := S.ws.len
  obtain ⟨i, hi, rfl⟩ := thr_true ht
  have e1 : st.rd (i : Int) = st.ar.getD i 0 := by unfold S8.rd red; rw [hl, ht]; simp
  rw [e1]
  have d0 := S.ws.cell i hi
  generalize st.ar.getD i 0 = x at *
  go_enter Tryz.func31, Tryz.ntmps31
  go_wp2_with (go_at_call 65; refine (sThere _ _ _ _ _ (by omega)).mono ?_; rintro e w2 ⟨rfl, rfl⟩; rw [ht])
  go_ret
  exact ⟨rfl, rfl⟩
end Go.Proofs.YtgmoemjiffglbaaGreat
namespace Go.Proofs.YtgmoemjiffglbaaGreat
open Go.RowKit
set_option maxRecDepth 100000
set_option linter.unusedVariables false
set_option linter.unusedSimpArgs false
end Go.Proofs.YtgmoemjiffglbaaGreat
namespace Go.Proofs.YtgmoemjiffglbaaGreat
open Go.RowKit
set_option maxRecDepth 100000
set_option linter.unusedVariables false
set_option linter.unusedSimpArgs false
/-- Both steps stand alike. -/
structure Sm (s : S8) (t : I8) : Prop where
  p : s.p = t.p
  ss : s.s = t.s
  l : s.l = t.l
  c : s.c = t.c
  k : s.k = t.k
  n : s.n = t.n
  ar : s.ar = t.xs
  len : s.ar.length = s.n
  h : s.h = t.h
  d : s.d = t.d
/-- What the specification makes of a step is what the program makes of it; where the one gave up, the other is not right. -/
def Agr (s : S8) (o : Option I8) : Prop := match o with
  | some t => Sm s t ∧ s.ok = true
  | none => s.ok = false
theorem Sm.hand {s : S8} {t : I8} (M : Sm s t) (f : Hd → Hd) : Sm { s with h := f s.h } { t with h := f t.h } := ⟨M.p, M.ss, M.l, M.c, M.k, M.n, M.ar, M.len, by show f s.h = f t.h; rw [M.h], M.d⟩
theorem Agr.map {s : S8} {o : Option I8} (H : Agr s o) (f : Hd → Hd) : Agr { s with h := f s.h } (o.map fun t => { t with h := f t.h }) := by
  cases o with
  | none => exact H
  | some t => exact ⟨H.1.hand f, H.2⟩
theorem Sm.slot {s : S8} {t : I8} (M : Sm s t) (f : Int) : s.slot f = t.slot f := by unfold S8.slot I8.slot; rw [M.p, M.ss, M.l, M.c, M.k, M.h]
theorem Sm.note {s : S8} {t : I8} (M : Sm s t) : s.note = t.note := by unfold S8.note I8.note; rw [M.p, M.ss, M.l, M.c, M.k, M.h]
theorem wr_bad {s : S8} (h : s.ok = false) (a x : Int) : (s.wr a x).ok = false := by unfold S8.wr; split <;> simp [h]
theorem wrd_bad {s : S8} (h : s.ok = false) (k p i v : Int) : (s.wrd k p i v).ok = false := by unfold S8.wrd; split <;> simp [h]
theorem rdS_bad {s : S8} (h : s.ok = false) (a : Int) : (s.rdS a).ok = false := by unfold S8.rdS; split <;> simp [h]
theorem agr_wr {s : S8} {t : I8} (M : Sm s t) (ok : s.ok = true) (a x k p i v : Int) (hx : wOk k p i v = true) (e : x = pk k p i v) : Agr (s.wr a x) (t.wrO a k p i v) := by
  subst e
  cases ht : thr a t.n
  · have e : t.wrO a k p i v = none := by unfold I8.wrO; rw [ht]; simp
    rw [e]
    show (s.wr a _).ok = false
    unfold S8.wr
    rw [M.n, ht]
    rfl
  · have e : t.wrO a k p i v = some { t with xs := wrote t.xs a (pk k p i v) } := by unfold I8.wrO; rw [if_pos ⟨hx, ht⟩]
    rw [e]
    have hl : t.xs.length = t.n := by rw [← M.ar, M.len, M.n]
    have ew : s.wr a (pk k p i v) = { s with turn := true, at_ := a, was := s.ar.getD a.toNat 0, ar := s.ar.set a.toNat (pk k p i v) } := by unfold S8.wr; rw [M.n, ht]; rfl
    rw [ew]
    obtain ⟨j, hj, rfl⟩ := thr_true ht
    rw [wrote_y hl hj]
    exact ⟨⟨M.p, M.ss, M.l, M.c, M.k, M.n, by show s.ar.set _ _ = _; rw [M.ar]; rfl, by show (s.ar.set _ _).length = s.n; rw [List.length_set]; exact M.len, M.h, M.d⟩, ok⟩
theorem agr_put {s : S8} {t : I8} (M : Sm s t) (ok : s.ok = true) (a k p i v : Int) : Agr ((s.wrd k p i v).wr a (wv k p i v)) (t.wrO a k p i v) := by
  cases hx : wOk k p i v
  · have e : t.wrO a k p i v = none := by unfold I8.wrO; rw [hx]; simp
    rw [e]
    refine wr_bad ?_ _ _
    unfold S8.wrd
    rw [hx]
    rfl
  · have e1 : wv k p i v = pk k p i v := by unfold wv; rw [hx]; rfl
    have e2 : s.wrd k p i v = s := by unfold S8.wrd; rw [hx]; rfl
    rw [e1, e2]
    exact agr_wr M ok a _ k p i v hx rfl
theorem agr_get {s : S8} {t : I8} (M : Sm s t) (ok : s.ok = true) (a : Int) : Agr (s.getT a) (some (t.getR a)) := by
  unfold S8.getT I8.getR
  rw [M.k, M.h]
  by_cases hk : t.k ≤ t.h.kept
  · rw [if_pos hk, if_pos hk]
    exact ⟨M.hand (fun h => { h with reply := 8, out := 0, at_ := 2 }), ok⟩
  · rw [if_neg hk, if_neg hk]
    exact ⟨M.hand (fun h => { h with at_ := a }), ok⟩
theorem getT_bad {s : S8} (h : s.ok = false) (a : Int) : (s.getT a).ok = false := by unfold S8.getT; split <;> exact h
theorem openT_bad {s : S8} (h : s.ok = false) : s.openT.ok = false := by
  unfold S8.openT
  by_cases k2 : s.h.code = 2
  · rw [if_pos k2]; exact h
  rw [if_neg k2]
  by_cases k6 : s.h.code = 6
  · rw [if_pos k6]; exact h
  rw [if_neg k6]
  by_cases k8 : s.h.code = 8
  · rw [if_pos k8]; exact h
  rw [if_neg k8]
  by_cases k3 : s.h.code = 3
  · rw [if_pos k3]; exact h
  rw [if_neg k3]
  by_cases k4 : s.h.code = 4
  · rw [if_pos k4]; exact h
  rw [if_neg k4]
  by_cases k5 : s.h.code = 5
  · rw [if_pos k5]; exact h
  rw [if_neg k5]
  by_cases k7 : s.h.code = 7
  · rw [if_pos k7]; exact getT_bad h _
  rw [if_neg k7]
  by_cases k9 : s.h.code = 9
  · rw [if_pos k9]; exact getT_bad h _
  rw [if_neg k9]
  by_cases k10 : s.h.code = 10
  · rw [if_pos k10]; exact h
  rw [if_neg k10]
  by_cases k11 : s.h.code = 11
  · rw [if_pos k11]; exact h
  rw [if_neg k11]
  by_cases k12 : s.h.code = 12
  · rw [if_pos k12]; exact h
  rw [if_neg k12]
  by_cases k13 : s.h.code = 13
  · rw [if_pos k13]; exact h
  rw [if_neg k13]
  by_cases k14 : s.h.code = 14
  · rw [if_pos k14]; exact h
  rw [if_neg k14]

theorem agr_open {s : S8} {o : Option I8} (H : Agr s o) : Agr s.openT (o.bind I8.openR) := by
  cases o with
  | none => exact openT_bad H
  | some t =>
    obtain ⟨M, ok⟩ := H
    show Agr s.openT t.openR
    have hc : s.h.code = t.h.code := by rw [M.h]
    unfold S8.openT I8.openR
    rw [hc]
    by_cases k2 : t.h.code = 2
    · rw [if_pos k2, if_pos k2]; exact ⟨M.hand (fun h => { h with at_ := 9 }), ok⟩
    rw [if_neg k2, if_neg k2]
    by_cases k6 : t.h.code = 6
    · rw [if_pos k6, if_pos k6]; exact ⟨M.hand (fun h => { h with at_ := 9 }), ok⟩
    rw [if_neg k6, if_neg k6]
    by_cases k8 : t.h.code = 8
    · rw [if_pos k8, if_pos k8]; exact ⟨M.hand (fun h => { h with at_ := 9 }), ok⟩
    rw [if_neg k8, if_neg k8]
    by_cases k3 : t.h.code = 3
    · rw [if_pos k3, if_pos k3]; exact ⟨M.hand (fun h => { h with at_ := 14 }), ok⟩
    rw [if_neg k3, if_neg k3]
    by_cases k4 : t.h.code = 4
    · rw [if_pos k4, if_pos k4]; exact ⟨M.hand (fun h => { h with at_ := 14 }), ok⟩
    rw [if_neg k4, if_neg k4]
    by_cases k5 : t.h.code = 5
    · rw [if_pos k5, if_pos k5]; exact ⟨M.hand (fun h => { h with at_ := 14 }), ok⟩
    rw [if_neg k5, if_neg k5]
    by_cases k7 : t.h.code = 7
    · rw [if_pos k7, if_pos k7]; exact agr_get M ok 25
    rw [if_neg k7, if_neg k7]
    by_cases k9 : t.h.code = 9
    · rw [if_pos k9, if_pos k9]; exact agr_get M ok 41
    rw [if_neg k9, if_neg k9]
    by_cases k10 : t.h.code = 10
    · rw [if_pos k10, if_pos k10]; exact ⟨M.hand (fun h => { h with at_ := 49 }), ok⟩
    rw [if_neg k10, if_neg k10]
    by_cases k11 : t.h.code = 11
    · rw [if_pos k11, if_pos k11]; exact ⟨M.hand (fun h => { h with at_ := 49 }), ok⟩
    rw [if_neg k11, if_neg k11]
    by_cases k12 : t.h.code = 12
    · rw [if_pos k12, if_pos k12]; exact ⟨M.hand (fun h => { h with kept := 0, index := 1, at_ := 69 }), ok⟩
    rw [if_neg k12, if_neg k12]
    by_cases k13 : t.h.code = 13
    · rw [if_pos k13, if_pos k13]; exact ⟨M.hand (fun h => { h with for_ := h.a, mine := h.last, at_ := 52 }), ok⟩
    rw [if_neg k13, if_neg k13]
    by_cases k14 : t.h.code = 14
    · rw [if_pos k14, if_pos k14]; exact ⟨M.hand (fun h => { h with at_ := 51 }), ok⟩
    rw [if_neg k14, if_neg k14]
    rfl
/-- What the specification's step comes to. -/
def S8.go8 (s : S8) : S8 :=
  if s.h.at_ = 1 then s.numb.openW.openT else if s.h.at_ = 2 then s.sayT else if s.h.at_ = 3 then (s.intend 0 0).to 4 else
  if s.h.at_ = 4 then (s.wr (s.slot 5) 0).to 5 else if s.h.at_ = 5 then (s.wr (s.slot 6) 0).to 0 else
  if s.h.at_ = 6 then s.noteT else if s.h.at_ = 7 then (s.wr s.note (uS s.h.seen)).to 8 else s.swapT
theorem Agr.to {s : S8} {o : Option I8} (H : Agr s o) (a : Int) : Agr (s.to a) (o.map fun t => t.to a) := H.map (fun h => { h with at_ := a })
theorem agr_intend {s : S8} {t : I8} (M : Sm s t) (ok : s.ok = true) (kind block : Int) : Agr (s.intend kind block) (t.intO kind block) := by
  unfold S8.intend I8.intO
  have N : Sm (s.u_Last (w64 (s.h.last + 1))) t.more := by
    have := M.hand (fun h => { h with last := wrap64 (h.last + 1) })
    exact this
  have e : w64 (s.h.last + 1) = wrap64 (t.h.last + 1) := by rw [M.h]; rfl
  rw [M.slot, e]
  rw [e] at N
  exact agr_put N ok _ _ _ _ _
theorem agr_swap {s : S8} {t : I8} (M : Sm s t) (ok : s.ok = true) (ha : thr t.h.addr t.n = true) : Agr s.swapT (some t.swapO) := by
  have hl : t.xs.length = t.n := by rw [← M.ar, M.len, M.n]
  have e1 : s.rdS t.h.addr = s := by unfold S8.rdS; rw [M.n, ha]; rfl
  obtain ⟨i, hi, hie⟩ := thr_true ha
  have e2 : s.rd t.h.addr = t.xs.getD i 0 := by
    unfold S8.rd red
    rw [M.ar, hl, ha, hie]
    simp
  unfold S8.swapT I8.swapO
  rw [M.h]
  by_cases hy : t.xs.getD i 0 = t.h.seen
  · obtain ⟨f1, f2⟩ := swap_y (x := t.h.put) hl hi hy
    have e3 : s.swp t.h.addr t.h.seen t.h.put = (true, s.wr t.h.addr t.h.put) := by
      unfold S8.swp
      rw [e1, e2, if_neg (by rw [ok]; simpa using hy)]
    have e4 : s.wr t.h.addr t.h.put = { s with turn := true, at_ := t.h.addr, was := s.ar.getD t.h.addr.toNat 0, ar := s.ar.set i t.h.put } := by
      unfold S8.wr
      rw [M.n, ha, hie]
      simp
    have e5 : t.turned = { t with xs := t.xs.set i t.h.put } := by
      unfold I8.turned
      rw [hie, f2]
    have N : Sm (s.wr t.h.addr t.h.put) t.turned := by
      rw [e4, e5]
      exact ⟨M.p, M.ss, M.l, M.c, M.k, M.n, by show s.ar.set _ _ = _; rw [M.ar], by show (s.ar.set _ _).length = s.n; rw [List.length_set]; exact M.len, M.h, M.d⟩
    have okw : (s.wr t.h.addr t.h.put).ok = true := by rw [e4]; exact ok
    rw [e3, hie, f1, if_pos rfl, if_pos rfl, ← hie]
    by_cases hd : t.h.does = 0
    · rw [if_pos hd, if_pos hd]
      exact ⟨N.hand (fun h => { h with at_ := t.h.good }), okw⟩
    · rw [if_neg hd, if_neg hd]
      have N2 : Sm { (s.wr t.h.addr t.h.put) with d := t.h.told t.h.does } { t.turned with d := t.h.told t.h.does } := ⟨N.p, N.ss, N.l, N.c, N.k, N.n, N.ar, N.len, N.h, rfl⟩
      exact ⟨N2.hand (fun h => { h with at_ := t.h.good }), okw⟩
  · obtain ⟨f1, f2⟩ := swap_n (a := t.h.addr) (x := t.h.put) hl (.inr (by rw [hie]; simpa using hy))
    have e3 : s.swp t.h.addr t.h.seen t.h.put = (false, s) := by
      unfold S8.swp
      rw [e1, e2, if_pos (.inl hy)]
    have e5 : t.turned = t := by
      unfold I8.turned
      rw [f2]
    rw [e3, f1, e5, if_neg (by simp), if_neg (by simp)]
    exact ⟨M.hand (fun h => { h with at_ := t.h.bad }), ok⟩
theorem wOk_zero : wOk 0 0 0 0 = true := by decide
theorem wOk_seq {x : Int} (h : 0 ≤ x) : wOk 0 0 0 (uS x) = true := by
  have := uS_bd h
  rw [wOk_iff]
  omega
theorem join8 {s : S8} {t : I8} (M : Sm s t) (ok : s.ok = true) (hs : 0 ≤ t.h.seen) (hsay : t.h.at_ = 2 → wOk t.h.reply 0 t.h.out t.h.number = true) (ha : thr t.h.addr t.n = true) : Agr s.go8 t.next := by
  have hc : s.h.at_ = t.h.at_ := by rw [M.h]
  unfold S8.go8 I8.next
  rw [hc]
  by_cases k1 : t.h.at_ = 1
  · rw [if_pos k1, if_pos k1]
    unfold I8.openO
    have N : Sm s.numb t.numb := M.hand (fun h => { h with last := wrap64 (h.last + 1), number := wrap64 (h.last + 1) })
    refine agr_open ?_
    unfold S8.openW
    rw [N.slot, N.h]
    exact agr_put N ok _ _ _ _ _
  rw [if_neg k1, if_neg k1]
  by_cases k2 : t.h.at_ = 2
  · rw [if_pos k2, if_pos k2]
    unfold S8.sayT I8.sayO
    rw [M.slot, M.h]
    exact (agr_wr M ok _ _ _ _ _ _ (hsay k2) rfl).to 3
  rw [if_neg k2, if_neg k2]
  by_cases k3 : t.h.at_ = 3
  · rw [if_pos k3, if_pos k3]
    exact (agr_intend M ok 0 0).to 4
  rw [if_neg k3, if_neg k3]
  by_cases k4 : t.h.at_ = 4
  · rw [if_pos k4, if_pos k4, M.slot]
    exact (agr_wr M ok _ _ _ _ _ _ wOk_zero rfl).to 5
  rw [if_neg k4, if_neg k4]
  by_cases k5 : t.h.at_ = 5
  · rw [if_pos k5, if_pos k5, M.slot]
    exact (agr_wr M ok _ _ _ _ _ _ wOk_zero rfl).to 0
  rw [if_neg k5, if_neg k5]
  by_cases k6 : t.h.at_ = 6
  · rw [if_pos k6, if_pos k6]
    unfold S8.noteT I8.noteO
    have e2 : s.rd t.note = red t.xs t.note := by unfold S8.rd; rw [M.ar]
    rw [M.note, M.h, e2]
    cases ht : thr t.note t.n
    · rw [if_neg (show ¬ (false = true) by decide)]
      show (s.rdS t.note).ok = false
      unfold S8.rdS
      rw [M.n, ht]
      rfl
    · have e1 : s.rdS t.note = s := by unfold S8.rdS; rw [M.n, ht]; rfl
      rw [if_pos (show true = true from rfl), e1]
      exact ⟨M.hand (fun h => { h with at_ := if red t.xs t.note < uS t.h.seen then 7 else 8 }), ok⟩
  rw [if_neg k6, if_neg k6]
  by_cases k7 : t.h.at_ = 7
  · rw [if_pos k7, if_pos k7]
    unfold I8.markO
    rw [M.note, M.h]
    exact (agr_wr M ok _ _ _ _ _ _ (wOk_seq hs) (by unfold pk; omega)).to 8
  rw [if_neg k7, if_neg k7]
  exact agr_swap M ok ha
/-- A step that has come from another one keeps its place, its plan, and what it must put back. -/
structure Nc (a b : S8) : Prop where
  g : b.g = a.g
  n : b.n = a.n
  cc : b.cc = a.cc
  tn : b.turn = true → thr b.at_ b.n = true
  was : 0 ≤ b.was ∧ b.was ≤ 18446744073709551615
  bd : Bdx b.ar
theorem Nc.hand {a b : S8} (h : Nc a b) (x : Hd) : Nc a { b with h := x } := ⟨h.g, h.n, h.cc, h.tn, h.was, h.bd⟩
theorem Nc.deed {a b : S8} (h : Nc a b) (x : Dd) : Nc a { b with d := x } := ⟨h.g, h.n, h.cc, h.tn, h.was, h.bd⟩
theorem Nc.bad {a b : S8} (h : Nc a b) : Nc a { b with ok := false } := ⟨h.g, h.n, h.cc, h.tn, h.was, h.bd⟩
theorem getD_bd {xs : List Int} (h : Bdx xs) (i : Nat) : 0 ≤ xs.getD i 0 ∧ xs.getD i 0 ≤ 18446744073709551615 := by
  by_cases hi : i < xs.length
  · have := h (xs.getD i 0) (by rw [List.getD_eq_getElem?_getD]; simp [hi])
    exact this
  · have : xs.getD i 0 = 0 := by rw [List.getD_eq_getElem?_getD]; simp [Nat.le_of_not_lt hi]
    omega
theorem set_bdx {xs : List Int} (h : Bdx xs) (i : Nat) {x : Int} (hx : 0 ≤ x ∧ x ≤ 18446744073709551615) : Bdx (xs.set i x) := by
  intro y hy
  rcases List.mem_or_eq_of_mem_set hy with h1 | rfl
  · exact h y h1
  · exact hx
theorem Nc.wr {a b : S8} (h : Nc a b) (at_ x : Int) (hx : 0 ≤ x ∧ x ≤ 18446744073709551615) : Nc a (b.wr at_ x) := by
  unfold S8.wr
  split
  · rename_i ht
    exact ⟨h.g, h.n, h.cc, fun _ => ht, getD_bd h.bd _, set_bdx h.bd _ hx⟩
  · exact h.bad
theorem Nc.wrd {a b : S8} (h : Nc a b) (k p i v : Int) : Nc a (b.wrd k p i v) := by
  unfold S8.wrd
  split
  · exact h
  · exact h.bad
theorem Nc.rdS {a b : S8} (h : Nc a b) (x : Int) : Nc a (b.rdS x) := by
  unfold S8.rdS
  split
  · exact h
  · exact h.bad
theorem Nc.getT {a b : S8} (h : Nc a b) (x : Int) : Nc a (b.getT x) := by
  unfold S8.getT
  split
  · exact h.hand _
  · exact h.hand _
theorem Nc.openT {a b : S8} (h : Nc a b) : Nc a b.openT := by
  unfold S8.openT
  by_cases k2 : b.h.code = 2
  · rw [if_pos k2]; exact h.hand _
  rw [if_neg k2]
  by_cases k6 : b.h.code = 6
  · rw [if_pos k6]; exact h.hand _
  rw [if_neg k6]
  by_cases k8 : b.h.code = 8
  · rw [if_pos k8]; exact h.hand _
  rw [if_neg k8]
  by_cases k3 : b.h.code = 3
  · rw [if_pos k3]; exact h.hand _
  rw [if_neg k3]
  by_cases k4 : b.h.code = 4
  · rw [if_pos k4]; exact h.hand _
  rw [if_neg k4]
  by_cases k5 : b.h.code = 5
  · rw [if_pos k5]; exact h.hand _
  rw [if_neg k5]
  by_cases k7 : b.h.code = 7
  · rw [if_pos k7]; exact h.getT _
  rw [if_neg k7]
  by_cases k9 : b.h.code = 9
  · rw [if_pos k9]; exact h.getT _
  rw [if_neg k9]
  by_cases k10 : b.h.code = 10
  · rw [if_pos k10]; exact h.hand _
  rw [if_neg k10]
  by_cases k11 : b.h.code = 11
  · rw [if_pos k11]; exact h.hand _
  rw [if_neg k11]
  by_cases k12 : b.h.code = 12
  · rw [if_pos k12]; exact h.hand _
  rw [if_neg k12]
  by_cases k13 : b.h.code = 13
  · rw [if_pos k13]; exact h.hand _
  rw [if_neg k13]
  by_cases k14 : b.h.code = 14
  · rw [if_pos k14]; exact h.hand _
  rw [if_neg k14]
  exact h.bad
theorem Nc.intend {a b : S8} (h : Nc a b) (k i : Int) : Nc a (b.intend k i) := ((h.hand _).wrd _ _ _ _).wr _ _ (wv_bd _ _ _ _)
theorem Nc.swp {a b : S8} (h : Nc a b) (at_ y x : Int) (hx : 0 ≤ x ∧ x ≤ 18446744073709551615) : Nc a (b.swp at_ y x).2 := by
  unfold S8.swp
  split
  · exact h.rdS _
  · exact (h.rdS _).wr _ _ hx
theorem nc8 {s : S8} (h : Nc s s) (hs : 0 ≤ s.h.seen) (hp : 0 ≤ s.h.put ∧ s.h.put ≤ 18446744073709551615) (hsay : s.h.at_ = 2 → wOk s.h.reply 0 s.h.out s.h.number = true) : Nc s s.go8 := by
  unfold S8.go8
  split
  · exact (((h.hand _).wrd _ _ _ _).wr _ _ (wv_bd _ _ _ _)).openT
  split
  · rename_i k2
    exact (h.wr _ _ (pk_bd (hsay k2))).hand _
  split
  · exact (h.intend _ _).hand _
  split
  · exact (h.wr _ _ (by omega)).hand _
  split
  · exact (h.wr _ _ (by omega)).hand _
  split
  · exact (h.rdS _).hand _
  split
  · exact (h.wr _ _ (by have := uS_bd hs; omega)).hand _
  · unfold S8.swapT
    have k := h.swp s.h.addr s.h.seen s.h.put hp
    split
    · split
      · exact k.hand _
      · exact (k.deed _).hand _
    · exact k.hand _
theorem fin_of {s : S8} {o : Option I8} (H : Agr s o) : (s.good = true ∧ ∃ t, fin8 o = some t ∧ t.xs = s.ar ∧ t.h = s.h ∧ t.d = s.d ∧ t.n = s.n) ∨ (s.good = false ∧ fin8 o = none) := by
  cases o with
  | none => exact .inr ⟨by unfold S8.good; rw [show s.ok = false from H]; rfl, rfl⟩
  | some t =>
    obtain ⟨M, ok⟩ := H
    have e : s.good = hOk t.p t.s t.l t.c t.k t.h := by unfold S8.good; rw [ok, M.p, M.ss, M.l, M.c, M.k, M.h]; rfl
    cases hk : hOk t.p t.s t.l t.c t.k t.h
    · exact .inr ⟨by rw [e, hk], by unfold fin8; simp only [hk]; rfl⟩
    · exact .inl ⟨by rw [e, hk], t, by unfold fin8; simp only [hk]; rfl, M.ar.symm, M.h.symm, M.d.symm, M.n.symm⟩
end Go.Proofs.YtgmoemjiffglbaaGreat
namespace Go.Proofs.YtgmoemjiffglbaaGreat
open Go.RowKit
set_option maxRecDepth 100000
set_option linter.unusedVariables false
set_option linter.unusedSimpArgs false
/-- A list of words that is an answer's own, or none. -/
def Rw (w : World) (lo : Nat) (a : Option Addr) (n c : Nat) (xs : List Int) : Prop := (a = none ∧ n = 0 ∧ c = 0 ∧ xs = []) ∨ ∃ g, a = some ⟨g, 0, none⟩ ∧ lo ≤ g ∧ Ws w g n c xs
theorem Rw.src {w : World} {lo : Nat} {a : Option Addr} {n c : Nat} {xs : List Int} (h : Rw w lo a n c xs) : Src w a n xs := by
  rcases h with ⟨rfl, rfl, rfl, rfl⟩ | ⟨g, rfl, hg, G⟩
  · exact ⟨rfl, .inl rfl⟩
  · exact G.src
theorem Rw.keep {w w' : World} {lo : Nat} {a : Option Addr} {n c : Nat} {xs : List Int} (h : Rw w lo a n c xs) (hb : Below w.heap.size w w') : Rw w' lo a n c xs := by
  rcases h with h | ⟨g, e, hg, G⟩
  · exact .inl h
  · exact .inr ⟨g, e, hg, G.keep hb⟩
theorem Rw.kept {w w' : World} {lo b : Nat} {a : Option Addr} {n c : Nat} {xs : List Int} (h : Rw w lo a n c xs) (kk : Kept b w w') (hb : ∀ g, a = some ⟨g, 0, none⟩ → g ≠ b) : Rw w' lo a n c xs := by
  rcases h with h | ⟨g, e, hg, G⟩
  · exact .inl h
  · exact .inr ⟨g, e, hg, G.kept kk (hb g e)⟩
theorem Rw.one {w : World} {lo : Nat} {a : Option Addr} {n c : Nat} {xs : List Int} (h : Rw w lo a n c xs) : (Value.slice a n c).oneCell' = true := by
  rcases h with ⟨rfl, rfl, rfl, rfl⟩ | ⟨g, rfl, hg, G⟩ <;> rfl
/-- What a step's face answers. -/
structure Ans where
  xs : List Int
  h : Hd
  d : Dd
  is : Bool
def Ans.zero : Ans := ⟨[], Hd.zero, Dd.zero, false⟩
def Ans.of (r : Option I8) : Ans := match r with
  | some t => ⟨t.xs, t.h, t.d, true⟩
  | none => Ans.zero
def OutR (w : World) (R : Ans) (e : Ending) (w' : World) : Prop := ∃ a n c, e = .returned (.tuple #[.agg (doneVs (.slice a n c) R.h R.d).toArray, .bool R.is]) ∧ Rw w' w.heap.size a n c R.xs ∧ Below w.heap.size w w'
theorem OutR.zero {w w' : World} (hb : Below w.heap.size w w') : OutR w Ans.zero (.returned (.tuple #[.agg doneZ.toArray, .bool false])) w' := ⟨none, 0, 0, rfl, .inl ⟨rfl, rfl, rfl, rfl⟩, hb⟩
theorem dn_h (v : Value) (h : Hd) (d : Dd) : ∀ j u, h.vs[j]? = some u → (doneVs v h d).toArray[1 + j]? = some u := fun j u hu => sub_at [v] h.vs d.vs j u hu
theorem dn_d (v : Value) (h : Hd) (d : Dd) : ∀ j u, d.vs[j]? = some u → (doneVs v h d).toArray[37 + j]? = some u := fun j u hu => by
  have := sub_at ([v] ++ h.vs) d.vs [] j u hu
  simp only [List.append_nil, List.length_append, List.length_cons, List.length_nil, Hd.len] at this
  exact this
set_option maxHeartbeats 4000000 in
theorem eqDd (d : Dd) (w : World) : Calls Tryz.prog 23 #[.agg d.vs.toArray, .agg d.vs.toArray] w fun e w' => e = .returned (.bool true) ∧ Below w.heap.size w w' := by
  go_enter Tryz.func23, Tryz.ntmps23
  go_upto_region 1 with fail
  refine wp_at (fun W => At W w.heap.size d.vs.toArray 30 ∧ At W (w.heap.size + 1) d.vs.toArray 30 ∧ Below w.heap.size w W) (two_box w _ _ _ _) ?_
  rintro W ⟨A, Z, B⟩
  have c0 : W.cell? ⟨w.heap.size, 0, none⟩ = some (.int .i64 d.kind) := A.cell 0
  have e0 : W.cell? ⟨w.heap.size + 1, 0, none⟩ = some (.int .i64 d.kind) := Z.cell 0
  have c1 : W.cell? ⟨w.heap.size, 1, none⟩ = some (.int .i64 d.slot) := A.cell 1
  have e1 : W.cell? ⟨w.heap.size + 1, 1, none⟩ = some (.int .i64 d.slot) := Z.cell 1
  have c2 : W.cell? ⟨w.heap.size, 2, none⟩ = some (.int .i64 d.number) := A.cell 2
  have e2 : W.cell? ⟨w.heap.size + 1, 2, none⟩ = some (.int .i64 d.number) := Z.cell 2
  have c3 : W.cell? ⟨w.heap.size, 3, none⟩ = some (.int .i64 d.item) := A.cell 3
  have e3 : W.cell? ⟨w.heap.size + 1, 3, none⟩ = some (.int .i64 d.item) := Z.cell 3
  have c4 : W.cell? ⟨w.heap.size, 4, none⟩ = some (.int .i64 d.value) := A.cell 4
  have e4 : W.cell? ⟨w.heap.size + 1, 4, none⟩ = some (.int .i64 d.value) := Z.cell 4
  have c5 : W.cell? ⟨w.heap.size, 5, none⟩ = some (.int .i64 d.clock) := A.cell 5
  have e5 : W.cell? ⟨w.heap.size + 1, 5, none⟩ = some (.int .i64 d.clock) := Z.cell 5
  go_wp2
  go_ret
  exact ⟨rfl, B⟩
set_option maxHeartbeats 4000000 in
theorem eqDn (a b : Option Addr) (n m ca cb : Nat) (xs : List Int) (h : Hd) (d : Dd) (w : World) (G : Src w a n xs) (K : Src w b m xs) (hn : n ≤ 9223372036854775807) (hm : m ≤ 9223372036854775807) :
    Calls Tryz.prog 9 #[.agg (doneVs (.slice a n ca) h d).toArray, .agg (doneVs (.slice b m cb) h d).toArray] w fun e w' => e = .returned (.bool true) ∧ Below w.heap.size w w' := by
  go_enter Tryz.func9, Tryz.ntmps9
  go_upto_region 1 with fail
  refine wp_at (fun W => At W w.heap.size (doneVs (.slice a n ca) h d).toArray 32 ∧ At W (w.heap.size + 1) (doneVs (.slice b m cb) h d).toArray 32 ∧ Below w.heap.size w W) (two_box w _ _ _ _) ?_
  rintro W ⟨A, Z, B⟩
  replace G := G.keep B
  replace K := K.keep B
  have c0 : W.cell? ⟨w.heap.size, 0, none⟩ = some (.slice a n ca) := A.cell 0
  have e0 : W.cell? ⟨w.heap.size + 1, 0, none⟩ = some (.slice b m cb) := Z.cell 0
  go_upto_region 3 with (go_at_call 10; refine (eqU _ _ _ _ _ _ xs xs _ G K hn hm).mono ?_; rintro e w1 ⟨rfl, hb⟩; rw [decide_eq_true rfl]; replace A := A.keep hb; replace Z := Z.keep hb; replace B := B.trans (hb.mono B.size); clear hb c0 e0)
  go_upto_region 5 with (first
    | (refine loadV h.vs Tryz.underlying28 rfl infoH rfl (.tmp 11) rfl w.heap.size 1 rfl A (dn_h _ _ _) ?_)
    | (refine loadV h.vs Tryz.underlying28 rfl infoH rfl (.tmp 13) rfl (w.heap.size + 1) 1 rfl Z (dn_h _ _ _) ?_)
    | (go_at_call 22; refine (eqH h _).mono ?_; rintro e w2 ⟨rfl, hb⟩; replace A := A.keep hb; replace Z := Z.keep hb; replace B := B.trans (hb.mono B.size); clear hb))
  go_wp2_with (first
    | (refine loadV d.vs Tryz.underlying30 rfl (by kernel_rfl) rfl (.tmp 17) rfl w.heap.size 37 rfl A (dn_d _ _ _) ?_)
    | (refine loadV d.vs Tryz.underlying30 rfl (by kernel_rfl) rfl (.tmp 19) rfl (w.heap.size + 1) 37 rfl Z (dn_d _ _ _) ?_)
    | (go_at_call 23; refine (eqDd d _).mono ?_; rintro e w3 ⟨rfl, hb⟩; replace B := B.trans (hb.mono B.size); clear hb))
  go_ret
  exact ⟨rfl, B⟩
set_option maxHeartbeats 1000000 in
theorem markU0 (c : Nat) (k : Int) (w : World) (k0 : 0 ≤ k) (k1 : k ≤ 1048576) :
    Calls Tryz.prog 11 #[.slice none 0 c, .int .i64 k] w fun e w' => e = .returned (.int .i64 k) ∧ Below w.heap.size w w' := by
  go_enter Tryz.func11, Tryz.ntmps11
  go_wp2
  go_loopg [1, 5] 0 (fun g' x y wr => x = .int .i64 k ∧ y = .int .i64 0 ∧ Below w.heap.size w wr)
  case atStart => exact ⟨rfl, rfl, Below.refl _ _⟩
  case round =>
    obtain ⟨rfl, rfl, hB⟩ := hrel
    go_wp2
    go_ret
    exact ⟨rfl, hB⟩
set_option maxHeartbeats 1000000 in
theorem markDn (lo : Nat) (a : Option Addr) (n c : Nat) (xs : List Int) (h : Hd) (d : Dd) (k : Int) (w : World) (G : Rw w lo a n c xs) (hn : n ≤ 1048576) (k0 : 0 ≤ k) (k1 : k ≤ 1048576) :
    Calls Tryz.prog 12 #[.agg (doneVs (.slice a n c) h d).toArray, .int .i64 k] w fun e w' => e = .returned (.int .i64 (k + n)) ∧ Rw w' lo a n c (marks k n) ∧ ∃ w1, Below w.heap.size w w1 ∧ ((∃ g, a = some ⟨g, 0, none⟩ ∧ Kept g w1 w') ∨ (a = none ∧ Below w1.heap.size w1 w')) := by
  go_enter Tryz.func12, Tryz.ntmps12
  go_upto_region 1 with fail
  refine wp_at (fun W => At W w.heap.size (doneVs (.slice a n c) h d).toArray 32 ∧ Below w.heap.size w W) ⟨At.new w _ _, (Below.refl _ _).alloc (Nat.le_refl _) _⟩ ?_
  rintro W ⟨A, B⟩
  replace G := G.keep B
  have c0 : W.cell? ⟨w.heap.size, 0, none⟩ = some (.slice a n c) := A.cell 0
  rcases G with ⟨rfl, rfl, rfl, rfl⟩ | ⟨g, rfl, hg, G⟩
  · go_wp2_with (go_at_call 11; refine (markU0 _ k _ k0 k1).mono ?_; rintro e w1 ⟨rfl, hb⟩)
    go_ret
    exact ⟨by simp, .inl ⟨rfl, rfl, rfl, rfl⟩, W, B, by first | exact hb | exact Or.inr ⟨rfl, hb⟩⟩
  · go_wp2_with (go_at_call 11; refine (markU g n c xs k _ G hn k0 k1).mono ?_; rintro e w1 ⟨rfl, G1, kk⟩)
    go_ret
    exact ⟨rfl, .inr ⟨g, rfl, hg, G1⟩, W, B, by first | exact kk | exact Or.inl ⟨g, rfl, kk⟩ | exact Or.inl kk⟩
set_option maxHeartbeats 1000000 in
theorem heldDn (a : Option Addr) (n c : Nat) (h : Hd) (d : Dd) (k : Int) (w : World) (G : Src w a n (marks k n)) (hn : n ≤ 1048576) (k0 : 0 ≤ k) (k1 : k ≤ 1048576) :
    Calls Tryz.prog 13 #[.agg (doneVs (.slice a n c) h d).toArray, .int .i64 k] w fun e w' => e = .returned (.int .i64 (k + n)) ∧ Below w.heap.size w w' := by
  have hk : ¬ (k + n < 0) := by omega
  go_enter Tryz.func13, Tryz.ntmps13
  go_upto_region 1 with fail
  refine wp_at (fun W => At W w.heap.size (doneVs (.slice a n c) h d).toArray 32 ∧ Below w.heap.size w W) ⟨At.new w _ _, (Below.refl _ _).alloc (Nat.le_refl _) _⟩ ?_
  rintro W ⟨A, B⟩
  replace G := G.keep B
  have c0 : W.cell? ⟨w.heap.size, 0, none⟩ = some (.slice a n c) := A.cell 0
  go_wp2_with (go_at_call 24; refine (heldU a n c k _ G hn k0 k1).mono ?_; rintro e w1 ⟨rfl, hb⟩; replace B := B.trans (hb.mono B.size))
  go_ret
  exact ⟨rfl, B⟩
end Go.Proofs.YtgmoemjiffglbaaGreat
namespace Go.Proofs.YtgmoemjiffglbaaGreat
open Go.RowKit
set_option maxRecDepth 100000
set_option linter.unusedVariables false
set_option linter.unusedSimpArgs false
theorem Rw.bds {w : World} {lo : Nat} {a : Option Addr} {n c : Nat} {xs : List Int} (h : Rw w lo a n c xs) (g : Nat) (e : a = some ⟨g, 0, none⟩) : lo ≤ g ∧ g < w.heap.size := by
  rcases h with ⟨rfl, -, -, -⟩ | ⟨g', rfl, hg, G⟩
  · cases e
  · cases e
    exact ⟨hg, G.lt⟩
theorem Rw.mono {w : World} {lo lo' : Nat} {a : Option Addr} {n c : Nat} {xs : List Int} (h : Rw w lo a n c xs) (hl : lo' ≤ lo) : Rw w lo' a n c xs := by
  rcases h with h | ⟨g, e, hg, G⟩
  · exact .inl h
  · exact .inr ⟨g, e, by omega, G⟩
theorem Rw.len {w : World} {lo : Nat} {a : Option Addr} {n c : Nat} {xs : List Int} (h : Rw w lo a n c xs) : xs.length = n := h.src.1
/-- All but what lies from lo to hi stays. -/
structure Rng (lo hi : Nat) (w w' : World) : Prop where
  os : w'.os = w.os
  tape : w'.tape = w.tape
  output : w'.output = w.output
  size : w.heap.size ≤ w'.heap.size
  block : ∀ k, k < w.heap.size → k < lo ∨ hi ≤ k → w'.heap[k]? = w.heap[k]?
theorem Rng.of_below {lo hi : Nat} {w w' : World} (h : Below w.heap.size w w') : Rng lo hi w w' := ⟨h.os, h.tape, h.output, h.size, fun k hk _ => h.block k hk⟩
theorem Rng.of_kept {lo hi q : Nat} {w w' : World} (h : Kept q w w') (h1 : lo ≤ q) (h2 : q < hi) : Rng lo hi w w' := ⟨h.os, h.tape, h.output, h.size, fun k hk hb => h.block k hk (by omega)⟩
theorem Rng.trans {lo hi : Nat} {x y z : World} (h : Rng lo hi x y) (k : Rng lo hi y z) : Rng lo hi x z :=
  ⟨k.os.trans h.os, k.tape.trans h.tape, k.output.trans h.output, Nat.le_trans h.size k.size, fun i hi hb => (k.block i (Nat.lt_of_lt_of_le hi h.size) hb).trans (h.block i hi hb)⟩
theorem Rng.below {lo hi B : Nat} {w w' : World} (h : Rng lo hi w w') (hB : B ≤ lo) (hw : B ≤ w.heap.size) : Below B w w' := ⟨h.os, h.tape, h.output, h.size, fun k hk => h.block k (by omega) (.inl (by omega))⟩
theorem At.rng {lo hi b : Nat} {w w' : World} {cs : Array Value} {t : TypeId} (h : At w b cs t) (k : Rng lo hi w w') (hb : b < lo ∨ hi ≤ b) : At w' b cs t := ⟨(k.block b h.lt hb).trans h.is⟩
theorem Src.rng {lo hi : Nat} {w w' : World} {a : Option Addr} {n : Nat} {xs : List Int} (h : Src w a n xs) (k : Rng lo hi w w') (hb : ∀ b o, a = some ⟨b, o, none⟩ → 0 < n → b < lo) : Src w' a n xs := by
  refine ⟨h.1, ?_⟩
  rcases h.2 with h0 | ⟨b, o, e, hl, hc⟩
  · exact .inl h0
  · by_cases hn : n = 0
    · exact .inl hn
    · have := hb b o e (by omega)
      refine .inr ⟨b, o, e, Nat.lt_of_lt_of_le hl k.size, fun i hi => ?_⟩
      exact (World.cell?_of_block (w := w) (a := ⟨b, o + i, none⟩) (k.block b hl (.inl this))).trans (hc i hi)
theorem Ws.rng {lo hi g : Nat} {w w' : World} {n c : Nat} {xs : List Int} (h : Ws w g n c xs) (k : Rng lo hi w w') (hb : g < lo ∨ hi ≤ g) : Ws w' g n c xs := h.of_block (k.block g h.lt hb)
/-- An answer where it lies. -/
structure DoneAt (w : World) (lo hi b : Nat) (a : Option Addr) (n c : Nat) (xs : List Int) (h : Hd) (d : Dd) : Prop where
  z : At w b (doneVs (.slice a n c) h d).toArray 32
  r : Rw w lo a n c xs
  ne : ∀ g, a = some ⟨g, 0, none⟩ → g ≠ b
  lb : lo ≤ b
  ub : b < hi
  ur : ∀ g, a = some ⟨g, 0, none⟩ → g < hi
theorem DoneAt.keep {w w' : World} {lo hi b : Nat} {a : Option Addr} {n c : Nat} {xs : List Int} {h : Hd} {d : Dd} (D : DoneAt w lo hi b a n c xs h d) (hb : Below w.heap.size w w') : DoneAt w' lo hi b a n c xs h d := ⟨D.z.keep hb, D.r.keep hb, D.ne, D.lb, D.ub, D.ur⟩
theorem DoneAt.kept {w w' : World} {lo hi b q : Nat} {a : Option Addr} {n c : Nat} {xs : List Int} {h : Hd} {d : Dd} (D : DoneAt w lo hi b a n c xs h d) (kk : Kept q w w') (hq : q < lo ∨ hi ≤ q) : DoneAt w' lo hi b a n c xs h d := by
  have h1 := D.lb
  have h2 := D.ub
  refine ⟨D.z.kept kk (by omega), D.r.kept kk (fun g e => ?_), D.ne, D.lb, D.ub, D.ur⟩
  have := (D.r.bds g e).1
  have := D.ur g e
  omega
theorem DoneAt.rng {w w' : World} {lo hi b p q : Nat} {a : Option Addr} {n c : Nat} {xs : List Int} {h : Hd} {d : Dd} (D : DoneAt w lo hi b a n c xs h d) (k : Rng p q w w') (hq : hi ≤ p ∨ q ≤ lo) : DoneAt w' lo hi b a n c xs h d := by
  have h1 := D.lb
  have h2 := D.ub
  refine ⟨D.z.rng k (by omega), ?_, D.ne, D.lb, D.ub, D.ur⟩
  rcases D.r with h0 | ⟨g, e, hg, G⟩
  · exact .inl h0
  · have := D.ur g e
    exact .inr ⟨g, e, hg, G.rng k (by omega)⟩
theorem markAt {w : World} {lo hi b : Nat} {a : Option Addr} {n c : Nat} {xs : List Int} {h : Hd} {d : Dd} (D : DoneAt w lo hi b a n c xs h d) (k : Int) (hn : n ≤ 1048576) (k0 : 0 ≤ k) (k1 : k ≤ 1048576) :
    Calls Tryz.prog 12 #[.agg (doneVs (.slice a n c) h d).toArray, .int .i64 k] w fun e w' => e = .returned (.int .i64 (k + n)) ∧ DoneAt w' lo hi b a n c (marks k n) h d ∧ Rng lo hi w w' := by
  refine (markDn lo a n c xs h d k w D.r hn k0 k1).mono ?_
  rintro e w' ⟨rfl, R, w1, hb, hk⟩
  rcases hk with ⟨g, e, kk⟩ | ⟨rfl, hb2⟩
  · exact ⟨rfl, ⟨(D.z.keep hb).kept kk (fun x => D.ne g e x.symm), R, D.ne, D.lb, D.ub, D.ur⟩, (Rng.of_below hb).trans (Rng.of_kept kk (D.r.bds g e).1 (D.ur g e))⟩
  · exact ⟨rfl, ⟨(D.z.keep hb).keep hb2, R, D.ne, D.lb, D.ub, D.ur⟩, (Rng.of_below hb).trans (Rng.of_below hb2)⟩
/-- Loads of it. -/
theorem loadDone {ops : Array Oper} {rest : List Oper} {op : Oper} {a0 : Act} {w : World} {Q : Exit → Act → World → Prop} {lo hi b : Nat} {a : Option Addr} {n c : Nat} {xs : List Int} {h : Hd} {d : Dd} (D : DoneAt w lo hi b a n c xs h d) (hgd : Region.wanted op (yielded ops a0.tmps) = true) (x : Operand) (ho : op.op = .load 32 x) (hx : a0.eval x = .pointer (some ⟨b, 0, none⟩))
    (hh : wpList Tryz.prog ops Q rest (a0.put op.dst (.agg (doneVs (.slice a n c) h d).toArray)) w) : wpList Tryz.prog ops Q (op :: rest) a0 w :=
  loadV (doneVs (.slice a n c) h d) Tryz.underlying32 rfl (infoDn _ _ _) hgd x ho b 0 hx D.z (fun j v hj => by rw [Nat.zero_add]; simpa using hj) hh
end Go.Proofs.YtgmoemjiffglbaaGreat
