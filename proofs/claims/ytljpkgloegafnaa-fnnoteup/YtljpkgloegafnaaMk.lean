/-
  May a step be done at all (both sides); what the program's InstallStep answers.
  What the program's InstallStep answers.
  What the program's InstallStep answers, where it may.
  The laws' copies, comparisons and differences of arenas.
  A hand at AtNote and at AtMark: it is right; what its steps come to.
-/
import Derived.Test.YtljpkgloegafnaaMj
import Derived.Deep.LoopGhost
import Derived.WalkLawsBesides
namespace Go.Proofs.Ytljpkgloegafnaa
open Go.RowKit
set_option maxRecDepth 100000
set_option linter.unusedVariables false
set_option linter.unusedSimpArgs false
noncomputable def mayB (p s l c k : Int) (n : Nat) (me : Int) (h : Hd) (ch : Int) : Bool := aOk p s l c k n && inB me 0 (p - 1) && hOk p s l c k h && h.up && (layer h.at_ == ch)
theorem ok_of_aOk {p s l c k : Int} {n : Nat} (h : aOk p s l c k n = true) : ok p s l c k = true := by
  cases ho : ok p s l c k
  · rw [aOk_n ho] at h; cases h
  · rfl
set_option maxHeartbeats 8000000 in
theorem iMay (p s l c k : Int) (a : Option Addr) (n cc : Nat) (me : Int) (h : Hd) (ch : Int) (w : World) (hn : n ≤ 16777216) :
    Calls Try.prog 30 #[.agg #[.int .i64 p, .int .i64 s, .int .i64 l, .int .i64 c, .int .i64 k], .slice a n cc, .int .i64 me, .agg h.ar, .int .i64 ch] w fun e w' => e = .returned (.bool (mayB p s l c k n me h ch)) ∧ Below w.heap.size w w' := by
  unfold mayB
  cases e1 : aOk p s l c k n
  · simp only [Bool.false_and]
    go_enter Try.func30, Try.ntmps30
    go_upto_region 1 with fail
    refine wp_at (fun W => At W w.heap.size #[.int .i64 p, .int .i64 s, .int .i64 l, .int .i64 c, .int .i64 k] 28 ∧ At W (w.heap.size + 1) h.ar 39 ∧ Below w.heap.size w W) (two_box w _ _ _ _) ?_
    rintro W ⟨P, A, z⟩
    obtain ⟨d0, d1, d2, d3, d4⟩ := P.five
    go_wp2_with (first
      | (go_at_call 44; refine (iArena _ _ _ _ _ _ _ _ _ (by omega)).mono ?_; rintro e w1 ⟨rfl, hb⟩; rw [e1]; clear d0 d1 d2 d3 d4; replace P := P.keep hb; replace A := A.keep hb; replace z := z.trans (hb.mono z.size); clear hb; obtain ⟨d0, d1, d2, d3, d4⟩ := P.five; have c0 : w1.cell? ⟨w.heap.size + 1, 0, none⟩ = some (.bool h.up) := A.cell 0; have c5 : w1.cell? ⟨w.heap.size + 1, 5, none⟩ = some (.int .i64 h.at_) := A.cell 5))
    go_returns
    exact ⟨rfl, z⟩
  · have ho := ok_of_aOk e1
    cases e2 : inB me 0 (p - 1)
    · simp only [Bool.true_and, Bool.false_and]
      go_enter Try.func30, Try.ntmps30
      go_upto_region 1 with fail
      refine wp_at (fun W => At W w.heap.size #[.int .i64 p, .int .i64 s, .int .i64 l, .int .i64 c, .int .i64 k] 28 ∧ At W (w.heap.size + 1) h.ar 39 ∧ Below w.heap.size w W) (two_box w _ _ _ _) ?_
      rintro W ⟨P, A, z⟩
      obtain ⟨d0, d1, d2, d3, d4⟩ := P.five
      go_wp2_with (first
        | (go_at_call 44; refine (iArena _ _ _ _ _ _ _ _ _ (by omega)).mono ?_; rintro e w1 ⟨rfl, hb⟩; rw [e1]; clear d0 d1 d2 d3 d4; replace P := P.keep hb; replace A := A.keep hb; replace z := z.trans (hb.mono z.size); clear hb; obtain ⟨d0, d1, d2, d3, d4⟩ := P.five; have c0 : w1.cell? ⟨w.heap.size + 1, 0, none⟩ = some (.bool h.up) := A.cell 0; have c5 : w1.cell? ⟨w.heap.size + 1, 5, none⟩ = some (.int .i64 h.at_) := A.cell 5)
        | (go_at_call 45; refine (iHas _ _ _ _ _ _ ho _).mono ?_; rintro e w2 ⟨rfl, hb⟩; rw [e2]; clear d0 d1 d2 d3 d4; replace P := P.keep hb; replace A := A.keep hb; replace z := z.trans (hb.mono z.size); clear hb; obtain ⟨d0, d1, d2, d3, d4⟩ := P.five; have c0 : w2.cell? ⟨w.heap.size + 1, 0, none⟩ = some (.bool h.up) := A.cell 0; have c5 : w2.cell? ⟨w.heap.size + 1, 5, none⟩ = some (.int .i64 h.at_) := A.cell 5; (try rw [e4] at c0)))
      go_returns
      exact ⟨rfl, z⟩
    · cases e3 : hOk p s l c k h
      · simp only [Bool.true_and, Bool.false_and]
        go_enter Try.func30, Try.ntmps30
        go_upto_region 1 with fail
        refine wp_at (fun W => At W w.heap.size #[.int .i64 p, .int .i64 s, .int .i64 l, .int .i64 c, .int .i64 k] 28 ∧ At W (w.heap.size + 1) h.ar 39 ∧ Below w.heap.size w W) (two_box w _ _ _ _) ?_
        rintro W ⟨P, A, z⟩
        obtain ⟨d0, d1, d2, d3, d4⟩ := P.five
        go_wp2_with (first
          | (go_at_call 44; refine (iArena _ _ _ _ _ _ _ _ _ (by omega)).mono ?_; rintro e w1 ⟨rfl, hb⟩; rw [e1]; clear d0 d1 d2 d3 d4; replace P := P.keep hb; replace A := A.keep hb; replace z := z.trans (hb.mono z.size); clear hb; obtain ⟨d0, d1, d2, d3, d4⟩ := P.five; have c0 : w1.cell? ⟨w.heap.size + 1, 0, none⟩ = some (.bool h.up) := A.cell 0; have c5 : w1.cell? ⟨w.heap.size + 1, 5, none⟩ = some (.int .i64 h.at_) := A.cell 5)
          | (go_at_call 45; refine (iHas _ _ _ _ _ _ ho _).mono ?_; rintro e w2 ⟨rfl, hb⟩; rw [e2]; clear d0 d1 d2 d3 d4; replace P := P.keep hb; replace A := A.keep hb; replace z := z.trans (hb.mono z.size); clear hb; obtain ⟨d0, d1, d2, d3, d4⟩ := P.five; have c0 : w2.cell? ⟨w.heap.size + 1, 0, none⟩ = some (.bool h.up) := A.cell 0; have c5 : w2.cell? ⟨w.heap.size + 1, 5, none⟩ = some (.int .i64 h.at_) := A.cell 5; (try rw [e4] at c0))
          | (refine loadHg (by rfl) (.tmp 8) rfl (w.heap.size + 1) h rfl A ?_)
          | (go_at_call 46; refine (iHandOk _ _ _ _ _ h _).mono ?_; rintro e w3 ⟨rfl, hb⟩; rw [e3]; clear d0 d1 d2 d3 d4; replace P := P.keep hb; replace A := A.keep hb; replace z := z.trans (hb.mono z.size); clear hb; obtain ⟨d0, d1, d2, d3, d4⟩ := P.five; have c0 : w3.cell? ⟨w.heap.size + 1, 0, none⟩ = some (.bool h.up) := A.cell 0; have c5 : w3.cell? ⟨w.heap.size + 1, 5, none⟩ = some (.int .i64 h.at_) := A.cell 5; (try rw [e4] at c0)))
        go_returns
        exact ⟨rfl, z⟩
      · cases e4 : h.up
        · simp only [Bool.true_and, Bool.false_and]
          go_enter Try.func30, Try.ntmps30
          go_upto_region 1 with fail
          refine wp_at (fun W => At W w.heap.size #[.int .i64 p, .int .i64 s, .int .i64 l, .int .i64 c, .int .i64 k] 28 ∧ At W (w.heap.size + 1) h.ar 39 ∧ Below w.heap.size w W) (two_box w _ _ _ _) ?_
          rintro W ⟨P, A, z⟩
          obtain ⟨d0, d1, d2, d3, d4⟩ := P.five
          go_wp2_with (first
            | (go_at_call 44; refine (iArena _ _ _ _ _ _ _ _ _ (by omega)).mono ?_; rintro e w1 ⟨rfl, hb⟩; rw [e1]; clear d0 d1 d2 d3 d4; replace P := P.keep hb; replace A := A.keep hb; replace z := z.trans (hb.mono z.size); clear hb; obtain ⟨d0, d1, d2, d3, d4⟩ := P.five; have c0 : w1.cell? ⟨w.heap.size + 1, 0, none⟩ = some (.bool h.up) := A.cell 0; have c5 : w1.cell? ⟨w.heap.size + 1, 5, none⟩ = some (.int .i64 h.at_) := A.cell 5)
            | (go_at_call 45; refine (iHas _ _ _ _ _ _ ho _).mono ?_; rintro e w2 ⟨rfl, hb⟩; rw [e2]; clear d0 d1 d2 d3 d4; replace P := P.keep hb; replace A := A.keep hb; replace z := z.trans (hb.mono z.size); clear hb; obtain ⟨d0, d1, d2, d3, d4⟩ := P.five; have c0 : w2.cell? ⟨w.heap.size + 1, 0, none⟩ = some (.bool h.up) := A.cell 0; have c5 : w2.cell? ⟨w.heap.size + 1, 5, none⟩ = some (.int .i64 h.at_) := A.cell 5; (try rw [e4] at c0))
            | (refine loadHg (by rfl) (.tmp 8) rfl (w.heap.size + 1) h rfl A ?_)
            | (go_at_call 46; refine (iHandOk _ _ _ _ _ h _).mono ?_; rintro e w3 ⟨rfl, hb⟩; rw [e3]; clear d0 d1 d2 d3 d4; replace P := P.keep hb; replace A := A.keep hb; replace z := z.trans (hb.mono z.size); clear hb; obtain ⟨d0, d1, d2, d3, d4⟩ := P.five; have c0 : w3.cell? ⟨w.heap.size + 1, 0, none⟩ = some (.bool h.up) := A.cell 0; have c5 : w3.cell? ⟨w.heap.size + 1, 5, none⟩ = some (.int .i64 h.at_) := A.cell 5; (try rw [e4] at c0)))
          go_returns
          exact ⟨rfl, z⟩
        · simp only [Bool.true_and]
          go_enter Try.func30, Try.ntmps30
          go_upto_region 1 with fail
          refine wp_at (fun W => At W w.heap.size #[.int .i64 p, .int .i64 s, .int .i64 l, .int .i64 c, .int .i64 k] 28 ∧ At W (w.heap.size + 1) h.ar 39 ∧ Below w.heap.size w W) (two_box w _ _ _ _) ?_
          rintro W ⟨P, A, z⟩
          obtain ⟨d0, d1, d2, d3, d4⟩ := P.five
          go_wp2_with (first
            | (go_at_call 44; refine (iArena _ _ _ _ _ _ _ _ _ (by omega)).mono ?_; rintro e w1 ⟨rfl, hb⟩; rw [e1]; clear d0 d1 d2 d3 d4; replace P := P.keep hb; replace A := A.keep hb; replace z := z.trans (hb.mono z.size); clear hb; obtain ⟨d0, d1, d2, d3, d4⟩ := P.five; have c0 : w1.cell? ⟨w.heap.size + 1, 0, none⟩ = some (.bool h.up) := A.cell 0; have c5 : w1.cell? ⟨w.heap.size + 1, 5, none⟩ = some (.int .i64 h.at_) := A.cell 5)
            | (go_at_call 45; refine (iHas _ _ _ _ _ _ ho _).mono ?_; rintro e w2 ⟨rfl, hb⟩; rw [e2]; clear d0 d1 d2 d3 d4; replace P := P.keep hb; replace A := A.keep hb; replace z := z.trans (hb.mono z.size); clear hb; obtain ⟨d0, d1, d2, d3, d4⟩ := P.five; have c0 : w2.cell? ⟨w.heap.size + 1, 0, none⟩ = some (.bool h.up) := A.cell 0; have c5 : w2.cell? ⟨w.heap.size + 1, 5, none⟩ = some (.int .i64 h.at_) := A.cell 5; (try rw [e4] at c0))
            | (refine loadHg (by rfl) (.tmp 8) rfl (w.heap.size + 1) h rfl A ?_)
            | (go_at_call 46; refine (iHandOk _ _ _ _ _ h _).mono ?_; rintro e w3 ⟨rfl, hb⟩; rw [e3]; clear d0 d1 d2 d3 d4; replace P := P.keep hb; replace A := A.keep hb; replace z := z.trans (hb.mono z.size); clear hb; obtain ⟨d0, d1, d2, d3, d4⟩ := P.five; have c0 : w3.cell? ⟨w.heap.size + 1, 0, none⟩ = some (.bool h.up) := A.cell 0; have c5 : w3.cell? ⟨w.heap.size + 1, 5, none⟩ = some (.int .i64 h.at_) := A.cell 5; (try rw [e4] at c0))
            | (go_at_call 47; refine (iLayer _ _).mono ?_; rintro e w4 ⟨rfl, rfl⟩))
          go_returns
          exact ⟨ret_b (by first | rfl | rw [Bool.eq_iff_iff]), z⟩
end Go.Proofs.Ytljpkgloegafnaa
namespace Go.Proofs.Ytljpkgloegafnaa
open Go.RowKit
set_option maxRecDepth 100000
set_option linter.unusedVariables false
set_option linter.unusedSimpArgs false
theorem goes_in {P : Program} {f : FuncId} {fn : Func} (hf : P.funcs[f]? = some fn) (hn : (fn.name == "runtime.NumGoroutine") = false) (hb : fn.body.isNone = false) (args : Array Value) (w : World) : (callFunc f args).run P w = .ok (.enter f args) w := by
  have h1 : fn.name ≠ "runtime.NumGoroutine" := by simpa using hn
  have h2 : fn.body ≠ none := by intro e; rw [e] at hb; cases hb
  simp [callFunc, hf, h1, h2]
def Bdx (xs : List Int) : Prop := ∀ x ∈ xs, 0 ≤ x ∧ x ≤ 18446744073709551615
/-- The words and the plan of a step keep their measure. -/
structure Meas (st t : I8) : Prop where
  n : t.n = st.n
  p : t.p = st.p
  s : t.s = st.s
  l : t.l = st.l
  c : t.c = st.c
  k : t.k = st.k
  bd : Bdx st.xs → Bdx t.xs
theorem Meas.refl (st : I8) : Meas st st := ⟨rfl, rfl, rfl, rfl, rfl, rfl, id⟩
theorem Meas.trans {a b c : I8} (h : Meas a b) (k : Meas b c) : Meas a c := ⟨k.n.trans h.n, k.p.trans h.p, k.s.trans h.s, k.l.trans h.l, k.c.trans h.c, k.k.trans h.k, fun x => k.bd (h.bd x)⟩
theorem Meas.hand (st : I8) (h : Hd) : Meas st { st with h := h } := ⟨rfl, rfl, rfl, rfl, rfl, rfl, id⟩
theorem Meas.wrO {st t : I8} {a k p i v : Int} (h : st.wrO a k p i v = some t) : Meas st t := by
  unfold I8.wrO at h
  split at h
  · rename_i hw
    cases h
    exact ⟨rfl, rfl, rfl, rfl, rfl, rfl, fun b => wrote_bd b (pk_bd hw.1) a⟩
  · cases h
/-- What a step comes to, if it is done. -/
noncomputable def fin8 (r : Option I8) : Option I8 := match r with
  | some t => if hOk t.p t.s t.l t.c t.k t.h = true then some t else none
  | none => none
/-- How a step's face answers. -/
def Told8 (w : World) (B : Nat) (r : Option I8) (e : Ending) (w' : World) : Prop := match r with
  | some t => (∃ g, e = .returned (.tuple #[.agg (doneVs (.slice (some ⟨g, 0, none⟩) t.n t.n) t.h t.d).toArray, .bool true]) ∧ w.heap.size ≤ g ∧ Ws w' g t.n t.n t.xs) ∧ Below B w w'
  | none => e = .returned (.tuple #[.agg doneZ.toArray, .bool false]) ∧ Below B w w'
theorem iCaught (nx : FuncId) (B q : Nat) (HC : ∀ w, (callFunc nx #[.pointer (some ⟨q, 0, none⟩)]).run Try.prog w = .ok (.enter nx #[.pointer (some ⟨q, 0, none⟩)]) w) (st : I8) (w : World) (S : IAt w B q st) (hn : st.n ≤ 16777216) (bd : Bdx st.xs) (r : Option I8) (HN : ∀ w1, IAt w1 B q st → Calls Try.prog nx #[.pointer (some ⟨q, 0, none⟩)] w1 (Ends B q st.pv w1 r)) (HM : ∀ t, r = some t → Meas st t) :
    Calls Try.prog 32 #[.pointer (some ⟨q, 0, none⟩), .func (.func nx) #[.pointer (some ⟨q, 0, none⟩)] #[]] w (Told8 w B (fin8 r)) := by
  cases r with
  | none => exact iCaughtN nx B q HC st w S HN
  | some t =>
    have M := HM t rfl
    cases hk : hOk t.p t.s t.l t.c t.k t.h
    · have e : fin8 (some t) = none := by unfold fin8; simp only [hk]; rfl
      rw [e]
      exact iCaughtD nx B q HC st w S t HN hk
    · have e : fin8 (some t) = some t := by unfold fin8; simp only [hk]; rfl
      rw [e]
      refine (iCaughtY nx B q HC st w S t HN hk (by rw [M.n]; exact hn) (M.bd bd)).mono ?_
      rintro e w' ⟨g, h1, h2, h3, h4⟩
      exact ⟨⟨g, h1, h2, h3⟩, h4⟩
theorem Wso.fresh {w : World} {b n : Nat} {st : I8} {ps : List (Nat × Nat)} {Z : Nat} (hl : st.xs.length = st.n) (P : Pgs w Z st.pv ps ((st.n + 63) / 64) st.xs) (A : At w b st.ar st.ty) (hb : Z ≤ b) (h1 : st.pv.ownBlock ≠ some b) (h2 : ∀ p ∈ ps, p.1 ≠ b) : IAt w Z b st :=
  ⟨⟨st.pv, ps, A, rfl, rfl, P, h1, h2⟩, hl, hb⟩
theorem resDn2 {fn : Func} {T : Array Value} {w : World} {b : Nat} {v u : Value} {h : Hd} {d : Dd} {t : TypeId} (i j : Nat) (hr : fn.results = #[.cell i 43, .tmp j]) (hT : T.getD i undef = .pointer (some ⟨b, 0, none⟩)) (hj : T.getD j undef = u) (Z : At w b (doneVs v h d).toArray t) :
    (results fn T).run Try.prog w = .ok (.tuple #[.agg (doneVs v h d).toArray, u]) w := by
  have e : (asAddr (T.getD i undef)).run Try.prog w = .ok ⟨b, 0, none⟩ w := by rw [hT]; rfl
  have l : (loadVar 43 ⟨b, 0, none⟩).run Try.prog w = .ok (.agg (doneVs v h d).toArray) w := run_loadVar_mid w b 0 43 (doneVs v h d) _ Z.range Try.underlying43 rfl (infoDn v h d)
  simp only [results, hr, List.mapM_toArray, List.mapM_cons, List.mapM_nil, Sem.run_bind, Sem.run_map, Sem.run_pure, e, Result.andThen_ok, l, hj]
  rfl
theorem storeIn {ops : Array Oper} {rest : List Oper} {op : Oper} {a : Act} {w : World} {Q : Exit → Act → World → Prop} (hgd : op.guard = none) (x y : Operand) (ho : op.op = .store 67 x y) (st : I8) (hp : st.pv.oneCell' = true) (hx : a.eval x = .pointer (some ⟨w.heap.size, 0, none⟩)) (hy : a.eval y = .agg st.ar) {cs : Array Value} {t : TypeId} (hs : cs.size = 49)
    (hh : ∀ w', At w' w.heap.size st.ar t → Below w.heap.size w w' → wpList Try.prog ops Q rest (a.put op.dst undef) w') : wpList Try.prog ops Q (op :: rest) a (w.alloc (.cells cs t)) :=
  newV (vs := st.vs) (infoI st) (st.one hp) hgd x y ho hx hy (by rw [hs]; rfl) fun w' Z hb _ => hh w' Z hb
set_option maxHeartbeats 8000000 in
theorem iInstallN (p s l c k : Int) (g n cc : Nat) (xs : List Int) (me : Int) (h : Hd) (w : World) (G : Ws w g n cc xs) (hn : n ≤ 16777216) (hm : mayB p s l c k n me h 8 = false) :
    Calls Try.prog 12 #[.agg #[.int .i64 p, .int .i64 s, .int .i64 l, .int .i64 c, .int .i64 k], .slice (some ⟨g, 0, none⟩) n cc, .int .i64 me, .agg h.ar] w fun e w' => e = .returned (.tuple #[.agg doneZ.toArray, .bool false]) ∧ Below w.heap.size w w' := by
  go_enter Try.func12, Try.ntmps12
  go_upto_region 1 with fail
  refine wp_at (fun W => At W w.heap.size #[.int .i64 p, .int .i64 s, .int .i64 l, .int .i64 c, .int .i64 k] 28 ∧ At W (w.heap.size + 1) h.ar 39 ∧ At W (w.heap.size + 2) doneZ.toArray 43 ∧ Below w.heap.size w W) (three_box w _ _ _ _ _ _) ?_
  rintro w1 ⟨P, A, R, z⟩
  obtain ⟨d0, d1, d2, d3, d4⟩ := P.five
  go_wp2_with (first
    | (refine loadHg (by rfl) (.tmp 7) rfl (w.heap.size + 1) h rfl A ?_)
    | (go_at_call 30; refine (iMay p s l c k _ n cc me h 8 _ hn).mono ?_; rintro e w2 ⟨rfl, hb⟩; rw [hm]; replace R := R.keep hb; replace z := z.trans (hb.mono z.size); clear hb)
    | (refine wpList_built rfl 43 #[] rfl [] rfl _ bDone0 ?_)
    | (refine storeDn rfl (.tmp 8) (.tmp 17) rfl (w.heap.size + 2) (.slice none 0 0) Hd.zero Dd.zero rfl rfl rfl R rfl ?_; intro w3 R3 kk))
  refine bodyPost_ret (resDn2 (v := .slice none 0 0) (h := Hd.zero) (d := Dd.zero) 8 9 rfl rfl rfl R3) rfl ?_
  exact ⟨rfl, z.trans (kk.below (by omega) z.size)⟩
end Go.Proofs.Ytljpkgloegafnaa
namespace Go.Proofs.Ytljpkgloegafnaa
open Go.RowKit
set_option maxRecDepth 100000
set_option linter.unusedVariables false
set_option linter.unusedSimpArgs false
/-- The step as it begins. -/
def st0 (p s l c k : Int) (pv : Value) (n : Nat) (xs : List Int) (h : Hd) (ty : TypeId := 67) : I8 := ⟨p, s, l, c, k, pv, n, xs, h, Dd.zero, ty⟩
theorem pv_ne {w : World} {B : Nat} {pv : Value} {ps : List (Nat × Nat)} {m : Nat} {xs : List Int} (P : Pgs w B pv ps m xs) : pv.ownBlock ≠ some w.heap.size ∧ ∀ p ∈ ps, p.1 ≠ w.heap.size := by
  refine ⟨fun e => ?_, fun p hp => ?_⟩
  · have := (World.ownsRow.lt P.own _ e).2
    omega
  · obtain ⟨i, hi⟩ := List.getElem?_of_mem hp
    have := (P.pg i p hi).1
    omega
set_option maxHeartbeats 8000000 in
theorem iInstallY (p s l c k : Int) (g n cc : Nat) (xs : List Int) (me : Int) (h : Hd) (w : World) (G : Ws w g n cc xs) (hn : n ≤ 16777216) (hm : mayB p s l c k n me h 8 = true) (r : Value → Option I8)
    (HN : ∀ pv q B w1, IAt w1 B q (st0 p s l c k pv n xs h 67) → Calls Try.prog 33 #[.pointer (some ⟨q, 0, none⟩)] w1 (Ends B q pv w1 (r pv))) (HM : ∀ pv t, r pv = some t → Meas (st0 p s l c k pv n xs h 67) t) :
    Calls Try.prog 12 #[.agg #[.int .i64 p, .int .i64 s, .int .i64 l, .int .i64 c, .int .i64 k], .slice (some ⟨g, 0, none⟩) n cc, .int .i64 me, .agg h.ar] w fun e w' => ∃ pv, Told8 w w.heap.size (fin8 (r pv)) e w' := by
  go_enter Try.func12, Try.ntmps12
  go_upto_region 1 with fail
  refine wp_at (fun W => At W w.heap.size #[.int .i64 p, .int .i64 s, .int .i64 l, .int .i64 c, .int .i64 k] 28 ∧ At W (w.heap.size + 1) h.ar 39 ∧ At W (w.heap.size + 2) doneZ.toArray 43 ∧ Below w.heap.size w W) (three_box w _ _ _ _ _ _) ?_
  rintro w1 ⟨P, A, R, z⟩
  obtain ⟨d0, d1, d2, d3, d4⟩ := P.five
  have hmf : ∀ (fn : Fn) (first cap : Array Value) (w : World), (Instr.makeFunc fn first cap).run Try.prog w = .ok (.func fn first cap) w := fun _ _ _ _ => rfl
  go_upto_region 4 with (first
    | (refine loadHg (by rfl) (.tmp 7) rfl (w.heap.size + 1) h rfl A ?_)
    | (go_at_call 30; refine (iMay p s l c k _ n cc me h 8 _ hn).mono ?_; rintro e w2 ⟨rfl, hb⟩; rw [hm]; replace R := R.keep hb; have hrq := R.lt; replace P := P.keep hb; replace A := A.keep hb; replace G := (G.keep z).keep hb; replace z := z.trans (hb.mono z.size); clear hb d0 d1 d2 d3 d4; obtain ⟨d0, d1, d2, d3, d4⟩ := P.five)
    | (go_at_call 31; refine (iInstOf p s l c k g n cc xs h _ G hn).mono ?_; rintro e w3 ⟨pv, rfl, hpv, ⟨ps, PG⟩, hb⟩; have hzz := z.size; replace R := R.keep hb; replace z := z.trans (hb.mono z.size))
    | (refine storeIn rfl (.tmp 10) (.tmp 21) rfl (st0 p s l c k pv n xs h 67) hpv rfl rfl rfl ?_; intro w4 Q hb4; have hpn := pv_ne PG; replace PG := PG.keep hb4; have hz3 := z.size; replace z := z.trans (hb4.mono z.size); have Rl := R.lt; replace R := R.keep hb4))
  obtain ⟨q, hq⟩ : ∃ q, Hid (w3.heap.size = q) := ⟨_, rfl⟩
  rw [hq.out] at Q hpn
  rw [hq.out]
  have hw2 : w2.heap.size ≤ q := by have := hb.size; have := hq.out; omega
  have S : IAt w4 w2.heap.size q (st0 p s l c k pv n xs h 67) := Wso.fresh (n := n) (st := st0 p s l c k pv n xs h 67) G.len PG Q hw2 hpn.1 hpn.2
  have CC := iCaught 33 w2.heap.size q (goes_in Try.func33 (by kernel_rfl) (by kernel_rfl) _) (st0 p s l c k pv n xs h 67) w4 S hn G.bd (r pv) (fun w1 S1 => HN pv q _ w1 S1) (HM pv)
  have hw4 : w.heap.size ≤ w4.heap.size := z.size
  cases hf : fin8 (r pv) with
  | none =>
    rw [hf] at CC
    go_wp2_with (first
      | (go_at_call 32; refine CC.mono ?_; rintro e w5 ⟨rfl, hb5⟩; replace R := R.under hb5 hrq; replace z := z.trans (hb5.mono hzz))
      | (refine storeDn rfl (.tmp 8) (.tmp 24) rfl (w.heap.size + 2) (.slice none 0 0) Hd.zero Dd.zero rfl rfl rfl R rfl ?_; intro w6 R6 kk))
    refine bodyPost_ret (resDn2 (v := .slice none 0 0) (h := Hd.zero) (d := Dd.zero) 8 9 rfl rfl rfl R6) rfl ?_
    refine ⟨pv, ?_⟩
    rw [hf]
    exact ⟨rfl, z.trans (kk.below (by omega) z.size)⟩
  | some t =>
    rw [hf] at CC
    go_wp2_with (first
      | (go_at_call 32; refine CC.mono ?_; rintro e w5 ⟨⟨g5, rfl, hg5, G5⟩, hb5⟩; replace R := R.under hb5 hrq; replace z := z.trans (hb5.mono hzz))
      | (refine storeDn rfl (.tmp 8) (.tmp 24) rfl (w.heap.size + 2) (.slice (some ⟨g5, 0, none⟩) t.n t.n) t.h t.d rfl rfl rfl R rfl ?_; intro w6 R6 kk))
    refine bodyPost_ret (resDn2 (v := .slice (some ⟨g5, 0, none⟩) t.n t.n) (h := t.h) (d := t.d) 8 9 rfl rfl rfl R6) rfl ?_
    refine ⟨pv, ?_⟩
    rw [hf]
    exact ⟨⟨g5, rfl, by omega, G5.kept kk (by have := S.lt; omega)⟩, z.trans (kk.below (by omega) z.size)⟩
end Go.Proofs.Ytljpkgloegafnaa
namespace Go.Proofs.Ytljpkgloegafnaa
open Go.RowKit
set_option maxRecDepth 100000
set_option linter.unusedVariables false
set_option linter.unusedSimpArgs false
set_option maxHeartbeats 1000000 in
theorem lCopied (g n c : Nat) (xs : List Int) (w : World) (h : Ws w g n c xs) (hn : n ≤ 16777216) :
    Calls Try.prog 13 #[.slice (some ⟨g, 0, none⟩) n c] w fun e w' => ∃ g' c', e = .returned (.slice (some ⟨g', 0, none⟩) n c') ∧ w.heap.size ≤ g' ∧ Ws w' g' n c' xs ∧ Below w.heap.size w w' := by
  obtain ⟨i0, hi, hz0, hz1, hz2⟩ := info_parts infoU
  have h1 := h.alloc (.cells #[] 26)
  have hb1 : Below w.heap.size w (w.alloc (.cells #[] 26)) := (Below.refl _ _).alloc (Nat.le_refl _) _
  go_enter Try.func13, Try.ntmps13
  go_wp2_with (at_builtin; refine wpList_append_own _ rfl (.tmp 3) (.tmp 4) 30 rfl w.heap.size 26 i0 (.int .u64 0) 1 8 Try.underlying30 hi hz0 hz1 hz2 rfl (by decide) _ 0 [] rfl (wlit w _ (Nat.le_refl _)) ⟨g, 0, none⟩ n c (xs.map (Value.int .u64)) rfl (by simp [h.len]) h1.news (u64_one xs) (by unfold maxLen; omega) (by omega) (by simp) ?_; intro v' w3 ho' hg' hn')
  have hn2 : v' = .slice none 0 0 ↔ (Value.slice (some ⟨w.heap.size, 0, none⟩) 0 0) = .slice none 0 0 ∧ n = 0 := hn'
  have hg2 : (w.alloc (.cells #[] 26)).grownBy w3 (some w.heap.size) := hg'
  have hv : v' ≠ .slice none 0 0 := fun e => by have := (hn2.1 e).1; simp at this
  have ho2 : w3.ownsRow w.heap.size 26 1 v' n (xs.map (Value.int .u64)) := by simpa using ho'
  have hb3 := hb1.grown hg2 (by simp) (by intro k hk; simp at hk; omega)
  obtain ⟨g', c', rfl, hge, hW⟩ := Ws.of_own h.len ho2 hv h.bd
  go_ret
  exact ⟨g', c', rfl, hge, hW, hb3⟩
theorem rett2 {b : Bool} (h : b = true) : Ending.returned (.bool true) = .returned (.bool b) := by rw [h]
theorem retf2 {b : Bool} (h : b = false) : Ending.returned (.bool false) = .returned (.bool b) := by rw [h]
set_option maxHeartbeats 1000000 in
theorem likeA (a b n m ca cb : Nat) (xs ys : List Int) (w : World) (h : Ws w a n ca xs) (k : Ws w b m cb ys) (hn : n ≤ 16777216) (hm : m ≤ 16777216) :
    Calls Try.prog 14 #[.slice (some ⟨a, 0, none⟩) n ca, .slice (some ⟨b, 0, none⟩) m cb] w fun e w' => e = .returned (.bool (decide (xs = ys))) ∧ Below w.heap.size w w' := by
  by_cases hnm : n = m
  · subst hnm
    go_enter Try.func14, Try.ntmps14
    go_wp2
    go_loopg [5] n (fun g y wr => ∃ i : Nat, i ≤ n ∧ g = n - i ∧ y = .int .i64 i ∧ (∀ j, j < i → xs.getD j 0 = ys.getD j 0) ∧ Below w.heap.size w wr)
    case atStart => exact ⟨0, Nat.zero_le _, rfl, rfl, fun j hj => by omega, Below.refl _ _⟩
    case round =>
      obtain ⟨i, i0, hg, rfl, hj, hB⟩ := hrel
      by_cases hi : i < n
      · have hi' : (i : Int) < n := by omega
        have c1 : wr.cell? ⟨a, i, none⟩ = some (.int .u64 (xs.getD i 0)) := (h.keep hB).cell i hi
        have c2 : wr.cell? ⟨b, i, none⟩ = some (.int .u64 (ys.getD i 0)) := (k.keep hB).cell i hi
        obtain ⟨x, hx⟩ : ∃ x : Int, xs.getD i 0 = x := ⟨_, rfl⟩
        obtain ⟨y, hy⟩ : ∃ y : Int, ys.getD i 0 = y := ⟨_, rfl⟩
        rw [hx] at c1
        rw [hy] at c2
        have HJ : Hid (∀ j, j < i → xs.getD j 0 = ys.getD j 0) := hj
        have HX : Hid (xs.getD i 0 = x) := hx
        have HY : Hid (ys.getD i 0 = y) := hy
        clear hj hx hy
        by_cases hxy : x = y
        · subst hxy
          go_wp2
          go_region
          go_wp2
          go_roundg (gk - 1)
          case measure => omega
          case rel =>
            refine ⟨i + 1, by omega, by omega, by go_num, fun j hj => ?_, hB.drew⟩
            by_cases hji : j = i
            · subst hji; rw [HX.out, HY.out]
            · exact HJ.out j (by omega)
        · go_wp2
          go_region
          go_wp2
          go_ret
          refine ⟨retf2 (decide_eq_false ?_), hB.drew⟩
          rintro rfl
          exact hxy (HX.out.symm.trans HY.out)
      · obtain rfl : i = n := by omega
        go_wp2
        go_ret
        refine ⟨rett2 (decide_eq_true ?_), hB⟩
        refine List.ext_getElem (h.len.trans k.len.symm) fun j h1 h2 => ?_
        have := hj j (by have := h.len; omega)
        simpa [h1, h2] using this
  · have e : ¬ (n : Int) = m := by omega
    go_enter Try.func14, Try.ntmps14
    go_wp2
    go_ret
    refine ⟨retf2 (decide_eq_false ?_), Below.refl _ _⟩
    rintro rfl
    exact hnm (h.len.symm.trans k.len)
/-- How many of the first i places differ. -/
def cntd (xs ys : List Int) : Nat → Nat
  | 0 => 0
  | i + 1 => cntd xs ys i + (if xs.getD i 0 = ys.getD i 0 then 0 else 1)
theorem cntd_le (xs ys : List Int) : ∀ i, cntd xs ys i ≤ i
  | 0 => Nat.le_refl _
  | i + 1 => by
    have := cntd_le xs ys i
    unfold cntd
    split <;> omega
theorem cntd_set {xs : List Int} {a : Nat} {x : Int} (ha : a < xs.length) (hx : xs.getD a 0 ≠ x) : ∀ i, cntd xs (xs.set a x) i = if a < i then 1 else 0
  | 0 => by simp [cntd]
  | i + 1 => by
    unfold cntd
    rw [cntd_set ha hx i]
    by_cases h : i = a
    · subst h
      have e : (xs.set i x).getD i 0 = x := by simp [ha]
      rw [e, if_neg hx]
      simp
    · have e : (xs.set a x).getD i 0 = xs.getD i 0 := by
        simp only [List.getD_eq_getElem?_getD]
        rw [List.getElem?_set_ne (Ne.symm h)]
      rw [e, if_pos rfl]
      by_cases h2 : a < i
      · rw [if_pos h2, if_pos (by omega)]
      · rw [if_neg h2, if_neg (by omega)]
set_option maxHeartbeats 1000000 in
theorem lDiffer (a b n ca cb : Nat) (xs ys : List Int) (w : World) (h : Ws w a n ca xs) (k : Ws w b n cb ys) (hn : n ≤ 16777216) :
    Calls Try.prog 15 #[.slice (some ⟨a, 0, none⟩) n ca, .slice (some ⟨b, 0, none⟩) n cb] w fun e w' => e = .returned (.int .i64 (cntd xs ys n)) ∧ Below w.heap.size w w' := by
  go_enter Try.func15, Try.ntmps15
  go_wp2
  go_loopg [5, 6] n (fun g y z wr => ∃ i : Nat, i ≤ n ∧ g = n - i ∧ y = .int .i64 (cntd xs ys i) ∧ z = .int .i64 i ∧ Below w.heap.size w wr)
  case atStart => exact ⟨0, Nat.zero_le _, rfl, rfl, rfl, Below.refl _ _⟩
  case round =>
    obtain ⟨i, i0, hg, rfl, rfl, hB⟩ := hrel
    by_cases hi : i < n
    · have hi' : (i : Int) < n := by omega
      have c1 : wr.cell? ⟨a, i, none⟩ = some (.int .u64 (xs.getD i 0)) := (h.keep hB).cell i hi
      have c2 : wr.cell? ⟨b, i, none⟩ = some (.int .u64 (ys.getD i 0)) := (k.keep hB).cell i hi
      obtain ⟨x, hx⟩ : ∃ x : Int, xs.getD i 0 = x := ⟨_, rfl⟩
      obtain ⟨y, hy⟩ : ∃ y : Int, ys.getD i 0 = y := ⟨_, rfl⟩
      rw [hx] at c1
      rw [hy] at c2
      have hle := cntd_le xs ys i
      have HX : Hid (cntd xs ys (i + 1) = cntd xs ys i + (if x = y then 0 else 1)) := by unfold Hid; rw [← hx, ← hy]; rfl
      clear hx hy
      generalize cntd xs ys i = q at *
      by_cases hxy : x = y
      · subst hxy
        go_wp2
        go_region
        go_wp2
        go_roundg (gk - 1)
        case measure => omega
        case rel => exact ⟨i + 1, by omega, by omega, by rw [HX.out]; simp, by go_num, hB.drew⟩
      · go_wp2
        go_region
        go_wp2
        go_roundg (gk - 1)
        case measure => omega
        case rel => exact ⟨i + 1, by omega, by omega, by rw [HX.out, if_neg hxy]; go_num, by go_num, hB.drew⟩
    · obtain rfl : i = n := by omega
      go_wp2
      go_ret
      exact ⟨rfl, hB⟩
end Go.Proofs.Ytljpkgloegafnaa
namespace Go.Proofs.Ytljpkgloegafnaa
open Go.RowKit
set_option maxRecDepth 100000
set_option linter.unusedVariables false
set_option linter.unusedSimpArgs false
def nh (me a s : Int) : Hd := { Hd.zero with up := true, life := 1, at_ := a, code := 7, for_ := me, seen := s }
theorem nh_ok {p s l c k me a x : Int} (ho : ok p s l c k = true) (hm : inB me 0 (p - 1) = true) (ha : 0 ≤ a ∧ a ≤ 70) : hOk p s l c k (nh me a x) = true := by
  have h' := ok_iff.1 ho
  have hq := sq_bd h'.1 h'.2.1
  have hz : 1 ≤ zF p s l c := by unfold zF; (try unfold sF); (try unfold rF); (try unfold nF); omega
  unfold hOk
  rw [ho]
  have e1 : (nh me a x).own p = true := by
    unfold Hd.own
    simp only [nh, Hd.zero, hm]
    simp [inB, ha]
  have e2 : (nh me a x).swap p s l c = true := by
    unfold Hd.swap
    simp only [nh, Hd.zero]
    simp only [inB, Bool.and_eq_true, decide_eq_true_eq]
    omega
  have e3 : (nh me a x).was = true := by
    unfold Hd.was
    simp [nh, Hd.zero, inB]
  rw [e1, e2, e3]
  simp [nh, inB]
set_option maxHeartbeats 1000000 in
theorem iNext6 (B q : Nat) (st : I8) (w : World) (S : IAt w B q st) (hn : st.n ≤ 16777216) (hs : 0 ≤ st.h.seen ∧ st.h.seen ≤ 18446744073709551615) (hat : st.h.at_ = 6) :
    Calls Try.prog 33 #[.pointer (some ⟨q, 0, none⟩)] w (Ends B q st.pv w st.noteO) := by
  have c12 : w.cell? ⟨q, 12, none⟩ = some (.int .i64 st.h.at_) := S.is.cell 12
  rw [hat] at c12
  cases hr : st.noteO
  all_goals
    unfold Ends
    go_enter Try.func33, Try.ntmps33
  · go_wp2_with (go_at_call 56; refine (iNote8 B q st _ S hn hs).mono ?_; intro e w3 hE; rw [hr] at hE; obtain ⟨rfl, z3⟩ := hE)
    exact ⟨rfl, rfl, z3⟩
  · go_wp2_with (go_at_call 56; refine (iNote8 B q st _ S hn hs).mono ?_; intro e w3 hE; rw [hr] at hE; obtain ⟨rfl, S3, z3⟩ := hE)
    first | go_end0 | refine bodyPost_ret (results_none rfl _ _ _) rfl ?_
    exact ⟨rfl, S3, z3⟩
set_option maxHeartbeats 1000000 in
theorem iNext7 (B q : Nat) (st : I8) (w : World) (S : IAt w B q st) (hn : st.n ≤ 16777216) (hs : 0 ≤ st.h.seen ∧ st.h.seen ≤ 18446744073709551615) (hat : st.h.at_ = 7) :
    Calls Try.prog 33 #[.pointer (some ⟨q, 0, none⟩)] w (Ends B q st.pv w st.markO) := by
  have c12 : w.cell? ⟨q, 12, none⟩ = some (.int .i64 st.h.at_) := S.is.cell 12
  rw [hat] at c12
  cases hr : st.markO
  all_goals
    unfold Ends
    go_enter Try.func33, Try.ntmps33
  · go_wp2_with (go_at_call 57; refine (iMark B q st hs _ S hn).mono ?_; intro e w3 hE; rw [hr] at hE; obtain ⟨rfl, z3⟩ := hE)
    exact ⟨rfl, rfl, z3⟩
  · go_wp2_with (go_at_call 57; refine (iMark B q st hs _ S hn).mono ?_; intro e w3 hE; rw [hr] at hE; obtain ⟨rfl, S3, z3⟩ := hE)
    first | go_end0 | refine bodyPost_ret (results_none rfl _ _ _) rfl ?_
    exact ⟨rfl, S3, z3⟩
theorem may_nh {p s l c k me a x : Int} {n : Nat} (ho : ok p s l c k = true) (hn : aOk p s l c k n = true) (hm : inB me 0 (p - 1) = true) (ha : a = 6 ∨ a = 7) : mayB p s l c k n me (nh me a x) 8 = true := by
  unfold mayB
  rw [hn, hm, nh_ok ho hm (by omega)]
  rcases ha with rfl | rfl <;> simp [nh, layer]
/-- The step at AtNote. -/
theorem iNoteStep (p s l c k me x : Int) (g n cc : Nat) (xs : List Int) (w : World) (G : Ws w g n cc xs) (hn : n ≤ 16777216) (ho : ok p s l c k = true) (ha : aOk p s l c k n = true) (hm : inB me 0 (p - 1) = true) (hx : 0 ≤ x ∧ x ≤ 18446744073709551615)
    (i : Nat) (hi : i < n) (hni : vNote p s l c k (uP x) me = (i : Int)) :
    Calls Try.prog 12 #[.agg #[.int .i64 p, .int .i64 s, .int .i64 l, .int .i64 c, .int .i64 k], .slice (some ⟨g, 0, none⟩) n cc, .int .i64 me, .agg (nh me 6 x).ar] w fun e w' => ∃ g', e = .returned (.tuple #[.agg (doneVs (.slice (some ⟨g', 0, none⟩) n n) (nh me (if xs.getD i 0 < uS x then 7 else 8) x) Dd.zero).toArray, .bool true]) ∧ w.heap.size ≤ g' ∧ Ws w' g' n n xs ∧ Below w.heap.size w w' := by
  have ht : thr (i : Int) n = true := thr_nat hi
  have er : red xs (i : Int) = xs.getD i 0 := by unfold red; rw [G.len, ht]; simp
  have e1 : ∀ pv, (st0 p s l c k pv n xs (nh me 6 x)).noteO = some (st0 p s l c k pv n xs (nh me (if xs.getD i 0 < uS x then 7 else 8) x)) := by
    intro pv
    have en : (st0 p s l c k pv n xs (nh me 6 x)).note = (i : Int) := hni
    unfold I8.noteO
    rw [en]
    show (if thr (i : Int) n = true then some (I8.to _ (if red xs (i : Int) < uS x then 7 else 8)) else none) = _
    rw [if_pos ht, er]
    rfl
  refine (iInstallY p s l c k g n cc xs me (nh me 6 x) w G hn (may_nh ho ha hm (.inl rfl)) (fun pv => (st0 p s l c k pv n xs (nh me 6 x)).noteO) (fun pv q B w1 S => iNext6 B q _ w1 S hn hx rfl) (fun pv t h => by
    rw [e1] at h; cases h; exact Meas.hand (st0 p s l c k pv n xs (nh me 6 x)) _)).mono ?_
  rintro e w' ⟨pv, h⟩
  simp only [e1] at h
  have hf : fin8 (some (st0 p s l c k pv n xs (nh me (if xs.getD i 0 < uS x then 7 else 8) x))) = some (st0 p s l c k pv n xs (nh me (if xs.getD i 0 < uS x then 7 else 8) x)) := by
    unfold fin8
    have : hOk p s l c k (nh me (if xs.getD i 0 < uS x then 7 else 8) x) = true := nh_ok ho hm (by split <;> omega)
    simp only [st0, this]
    rfl
  rw [hf] at h
  obtain ⟨⟨g', h1, h2, h3⟩, h4⟩ := h
  exact ⟨g', h1, h2, h3, h4⟩
/-- The step at AtMark. -/
theorem iMarkStep (p s l c k me x : Int) (g n cc : Nat) (xs : List Int) (w : World) (G : Ws w g n cc xs) (hn : n ≤ 16777216) (ho : ok p s l c k = true) (ha : aOk p s l c k n = true) (hm : inB me 0 (p - 1) = true) (hx : 0 ≤ x ∧ x ≤ 18446744073709551615)
    (i : Nat) (hi : i < n) (hni : vNote p s l c k (uP x) me = (i : Int)) :
    Calls Try.prog 12 #[.agg #[.int .i64 p, .int .i64 s, .int .i64 l, .int .i64 c, .int .i64 k], .slice (some ⟨g, 0, none⟩) n cc, .int .i64 me, .agg (nh me 7 x).ar] w fun e w' => ∃ g', e = .returned (.tuple #[.agg (doneVs (.slice (some ⟨g', 0, none⟩) n n) (nh me 8 x) Dd.zero).toArray, .bool true]) ∧ w.heap.size ≤ g' ∧ Ws w' g' n n (xs.set i (uS x)) ∧ Below w.heap.size w w' := by
  have ht : thr (i : Int) n = true := thr_nat hi
  have hu := uS_bd hx.1
  have hw : wOk 0 0 0 (uS x) = true := wOk_iff.2 (by omega)
  have e1 : ∀ pv, (st0 p s l c k pv n xs (nh me 7 x)).markO = some (st0 p s l c k pv n (xs.set i (uS x)) (nh me 8 x)) := by
    intro pv
    have en : (st0 p s l c k pv n xs (nh me 7 x)).note = (i : Int) := hni
    unfold I8.markO I8.wrO
    rw [en]
    show Option.map _ (if wOk 0 0 0 (uS x) = true ∧ thr (i : Int) n = true then _ else none) = _
    rw [if_pos ⟨hw, ht⟩]
    have ep : pk 0 0 0 (uS x) = uS x := by unfold pk; omega
    show some (st0 p s l c k pv n (wrote xs (i : Int) (pk 0 0 0 (uS x))) (nh me 8 x)) = _
    rw [ep, wrote_y G.len hi]
  refine (iInstallY p s l c k g n cc xs me (nh me 7 x) w G hn (may_nh ho ha hm (.inr rfl)) (fun pv => (st0 p s l c k pv n xs (nh me 7 x)).markO) (fun pv q B w1 S => iNext7 B q _ w1 S hn hx rfl) (fun pv t h => by
    have h0 := h
    unfold I8.markO at h
    cases hr : (st0 p s l c k pv n xs (nh me 7 x)).wrO (st0 p s l c k pv n xs (nh me 7 x)).note 0 0 0 (uS (st0 p s l c k pv n xs (nh me 7 x)).h.seen) with
    | none => rw [hr] at h; cases h
    | some u => rw [hr] at h; cases h; exact (Meas.wrO hr).trans (Meas.hand _ _))).mono ?_
  rintro e w' ⟨pv, h⟩
  simp only [e1] at h
  have hf : fin8 (some (st0 p s l c k pv n (xs.set i (uS x)) (nh me 8 x))) = some (st0 p s l c k pv n (xs.set i (uS x)) (nh me 8 x)) := by
    unfold fin8
    have : hOk p s l c k (nh me 8 x) = true := nh_ok ho hm (by omega)
    simp only [st0, this]
    rfl
  rw [hf] at h
  obtain ⟨⟨g', h1, h2, h3⟩, h4⟩ := h
  exact ⟨g', h1, h2, h3, h4⟩
end Go.Proofs.Ytljpkgloegafnaa
