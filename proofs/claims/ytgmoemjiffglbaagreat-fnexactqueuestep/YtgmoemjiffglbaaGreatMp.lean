/-
  The specification's pool: whose a block is; to chain one.
  The specification's pool: to chain a block; the next thing.
  The pool: the specification's step and the program's come to the same.
  The specification's stack: the next thing.
  The specification's stack: to pick, to push; the next thing.
  The specification's queue: the tail goes on; who gets out of it.
-/
import Derived.Test.YtgmoemjiffglbaaGreatMo
namespace Go.Proofs.YtgmoemjiffglbaaGreat
open Go.RowKit
set_option maxRecDepth 100000
set_option linter.unusedVariables false
set_option linter.unusedSimpArgs false
def mn0 : Oper := { dst := some 3, op := Op.move (Operand.tmp 0), type := 45, pos := "l09_pool.go:30", after := #[], guard := none }
def mn1 : Oper := { dst := some 4, op := Op.move (Operand.tmp 0), type := 45, pos := "l09_pool.go:30", after := #[], guard := none }
def mn2 : Oper := { dst := some 5, op := Op.nilCheck (Operand.tmp 4), type := 0, pos := "l09_pool.go:30", after := #[{ on := 1, ground := Ground.data }], guard := none }
def mn3 : Oper := { dst := some 6, op := Op.fieldAddr 69 (Operand.tmp 5) 0, type := 0, pos := "l09_pool.go:30", after := #[{ on := 2, ground := Ground.data }], guard := none }
def mn4 : Oper := { dst := some 7, op := Op.load 35 (Operand.tmp 6), type := 35, pos := "l09_pool.go:30", after := #[{ on := 3, ground := Ground.data }], guard := none }
def mn5 : Oper := { dst := some 8, op := Op.move (Operand.tmp 0), type := 45, pos := "l09_pool.go:30", after := #[], guard := none }
def mn6 : Oper := { dst := some 9, op := Op.nilCheck (Operand.tmp 8), type := 0, pos := "l09_pool.go:30", after := #[{ on := 5, ground := Ground.data }], guard := none }
def mn7 : Oper := { dst := some 10, op := Op.fieldAddr 69 (Operand.tmp 9) 4, type := 0, pos := "l09_pool.go:30", after := #[{ on := 6, ground := Ground.data }], guard := none }
def mn8 : Oper := { dst := some 11, op := Op.fieldAddr 28 (Operand.tmp 10) 7, type := 0, pos := "l09_pool.go:30", after := #[{ on := 7, ground := Ground.data }], guard := none }
def mn9 : Oper := { dst := some 12, op := Op.load 2 (Operand.tmp 11), type := 2, pos := "l09_pool.go:30", after := #[{ on := 8, ground := Ground.data }], guard := none }
def mn10 : Oper := { dst := some 13, op := Op.call { callee := Callee.value (Operand.func 69), args := #[Operand.tmp 7, Operand.tmp 12, Operand.const (Value.int IntKind.i64 0)], argTypes := #[35, 2, 2] }, type := 2, pos := "l09_pool.go:30", after := #[{ on := 4, ground := Ground.data }, { on := 9, ground := Ground.data }], guard := none }
def mn11 : Oper := { dst := some 14, op := Op.call { callee := Callee.value (Operand.func 31), args := #[Operand.tmp 3, Operand.tmp 13], argTypes := #[45, 2] }, type := 25, pos := "l09_pool.go:30", after := #[{ on := 0, ground := Ground.data }, { on := 10, ground := Ground.data }, { on := 10, ground := Ground.chain }], guard := none }
def mn12 : Oper := { dst := some 15, op := Op.call { callee := Callee.value (Operand.func 66), args := #[Operand.tmp 14], argTypes := #[25] }, type := 85, pos := "l09_pool.go:30", after := #[{ on := 11, ground := Ground.data }, { on := 11, ground := Ground.chain }], guard := none }
def mn13 : Oper := { dst := some 2, op := Op.alloc 85, type := 0, pos := "l09_pool.go:30", after := #[], guard := none }
def mn14 : Oper := { dst := none, op := Op.store 85 (Operand.tmp 2) (Operand.tmp 15), type := 0, pos := "l09_pool.go:30", after := #[{ on := 13, ground := Ground.data }, { on := 12, ground := Ground.data }, { on := 12, ground := Ground.chain }, { on := 0, ground := Ground.phase }, { on := 1, ground := Ground.phase }, { on := 2, ground := Ground.phase }, { on := 3, ground := Ground.phase }, { on := 4, ground := Ground.phase }, { on := 5, ground := Ground.phase }, { on := 6, ground := Ground.phase }, { on := 7, ground := Ground.phase }, { on := 8, ground := Ground.phase }, { on := 9, ground := Ground.phase }, { on := 10, ground := Ground.phase }, { on := 11, ground := Ground.phase }, { on := 12, ground := Ground.phase }, { on := 13, ground := Ground.phase }], guard := none }
theorem any_at9 {P : Program} {md : Region.Mode} {ops : Array Oper} {Q : Exit → Act → World → Prop} {S : World → Prop} {fuel : Nat} {listed : Array Bool} {a : Act} {W : World} (R : World → Prop) (r : R W) (h : ∀ w, R w → wpAnyH P md ops Q S fuel listed a w) : wpAnyH P md ops Q S fuel listed a W := h W r
theorem At.K2 {w w' : World} {q b g : Nat} {cs : Array Value} {t : TypeId} (h : At w q cs t) (k : K2 b g w w') (hb : q ≠ b) (hg : q ≠ g) : At w' q cs t := ⟨(k.block q h.lt hb hg).trans h.is⟩
theorem wp_storeW {o : Oper} {a : Act} {w : World} {K : Act → World → Prop} {Q : Exit → Act → World → Prop} (x y : Operand) (ho : o.op = .store 85 x y) (b : Nat) (vs : List Value) (hl : vs.length = 4) (h1 : ∀ v ∈ vs, v.oneCell' = true) (hx : a.eval x = .pointer (some ⟨b, 0, none⟩)) (hy : a.eval y = .agg vs.toArray) {cs : Array Value} {t : TypeId} (Z : At w b cs t) (hs : cs.size = 4)
    (h : ∀ w', At w' b vs.toArray t → Kept b w w' → K (a.put o.dst undef) w') : o.wp Tryz.prog a w K Q :=
  wp_store_mid 85 x y ho b 0 vs.toArray hx hy (by rw [List.size_toArray, hl]; exact Z.there 0 4 (by omega)) (by rw [List.size_toArray, hl]; kernel_rfl) (all_oneCell_toArray h1) (h _ (Z.fillAll (by rw [hs, hl])) (kept_setCells b _ 0 w))
theorem SAt.past {w0 v v' : World} {b q : Nat} {st T : S8} (S : SAt w0 b st) (S3 : SAt v b T) (kk : Kept q v v') (hq : w0.heap.size ≤ q) (k : K2 b st.g w0 v) (eg : T.g = st.g) (era : T.ra = st.ra) (er : T.runs = st.runs) : SAt v' b T := by
  have h1 := S.is.lt
  have h2 := S.ws.lt
  refine ⟨S3.is.kept kk (by omega), S3.ws.kept kk (by rw [eg]; omega), S3.bg, ?_⟩
  have k' := k.afterK kk hq
  rw [eg, era, er]
  exact S.run.of_block k'.size k'.block
/-- Some step of this hand and plan lies there. -/
def MS (st : S8) (b : Nat) (x : World) : Prop := ∃ s2 : S8, SAt x b s2 ∧ s2.p = st.p ∧ s2.s = st.s ∧ s2.l = st.l ∧ s2.c = st.c ∧ s2.k = st.k ∧ s2.h = st.h
def S8.mineAt9 (st : S8) : Int := vBlock st.p st.s st.l st.c st.k st.h.a 0
def S8.mineT (T : S8) (x f : Int) : S8 := if hsay9 1 f x = true then { T with h := { T.h with block := T.h.a, at_ := if T.h.code = 3 then 17 else if T.h.code = 4 then 15 else 16 } } else T.reply 7 0
def S8.mine9 (st : S8) : S8 := (st.rdS st.mineAt9).mineT (st.rd st.mineAt9) st.h.for_
end Go.Proofs.YtgmoemjiffglbaaGreat
namespace Go.Proofs.YtgmoemjiffglbaaGreat
open Go.RowKit
set_option maxRecDepth 100000
set_option linter.unusedVariables false
set_option linter.unusedSimpArgs false
theorem ins_Code (X : S8) (a x d g b : Int) : (X.install a x d g b).h.code = X.h.code := by simp only [S8.install, S8.u_Addr, S8.u_Put, S8.u_Does, S8.u_Good, S8.u_Bad, S8.u_At, S8.uh_h]
theorem ins_Index (X : S8) (a x d g b : Int) : (X.install a x d g b).h.index = X.h.index := by simp only [S8.install, S8.u_Addr, S8.u_Put, S8.u_Does, S8.u_Good, S8.u_Bad, S8.u_At, S8.uh_h]
def S8.chainT (st : S8) : S8 := (st.wrd 0 0 (uI st.h.seen) 0).wr (st.blk 1) (wv 0 0 (uI st.h.seen) 0)
def S8.chainI (T : S8) (a : Int) : S8 := ((T.wrd 0 T.h.for_ T.h.block T.h.last).install a (wv 0 T.h.for_ T.h.block T.h.last) 2 67 19)
def S8.chainE (I : S8) (c i : Int) : S8 := if c = 3 then { I with h := { I.h with reply := 1, out := 0, good := 2 } } else if c = 12 then { I with h := { I.h with good := 69 } } else if i = 0 then { I with h := { I.h with good := 64 } } else I
def S8.chain9 (st : S8) : S8 := (st.chainT.chainI (st.chainT.root9 st.cls9)).chainE st.h.code st.h.index
/-- What the specification's step of the pool comes to. -/
def S8.go9 (st : S8) : S8 :=
  if st.h.at_ = 9 then st.free9 else
  if st.h.at_ = 10 then st.under9 else
  if st.h.at_ = 11 then st.want9 else
  if st.h.at_ = 12 then st.hold9 else
  if st.h.at_ = 13 then ((st.wrd 0 0 st.h.b 0).wr (st.blk 2) (wv 0 0 st.h.b 0)).to 21 else
  if st.h.at_ = 14 then st.mine9 else
  if st.h.at_ = 15 then ((st.wrd 0 0 st.h.c 0).wr st.value9 (wv 0 0 st.h.c 0)).reply 1 0 else
  if st.h.at_ = 16 then (st.rdS st.value9).reply 2 (uI (st.rd st.value9)) else
  if st.h.at_ = 17 then (st.intend 2 st.h.block).to 18 else
  if st.h.at_ = 18 then ((st.wrd 0 0 0 0).wr (st.blk 0) (wv 0 0 0 0)).to 19 else
  if st.h.at_ = 19 then (st.rd9 (st.root9 st.cls9)).to 20 else
  st.chain9
end Go.Proofs.YtgmoemjiffglbaaGreat
namespace Go.Proofs.YtgmoemjiffglbaaGreat
open Go.RowKit
set_option maxRecDepth 100000
set_option linter.unusedVariables false
set_option linter.unusedSimpArgs false
theorem Sm.blk {s : S8} {t : I8} (M : Sm s t) (f : Int) : s.blk f = t.blk f := by unfold S8.blk I8.blk; rw [M.p, M.ss, M.l, M.c, M.k, M.h]
theorem Sm.cls {s : S8} {t : I8} (M : Sm s t) : s.cls9 = t.cls := by unfold S8.cls9 I8.cls; rw [M.p, M.ss, M.l, M.c, M.k, M.h]
theorem Sm.asked {s : S8} {t : I8} (M : Sm s t) : s.class9 = t.asked := by unfold S8.class9 I8.asked; rw [M.h]
theorem Sm.root9 {s : S8} {t : I8} (M : Sm s t) (c : Int) : s.root9 c = if inB c 0 1 = true then t.root c else -1 := by unfold S8.root9 S8.root I8.root; rw [M.p, M.ss, M.l, M.c, M.k]
theorem Sm.rd {s : S8} {t : I8} (M : Sm s t) (a : Int) : s.rd a = red t.xs a := by unfold S8.rd; rw [M.ar]
theorem Sm.rdY {s : S8} {t : I8} (M : Sm s t) {a : Int} (h : thr a t.n = true) : s.rdS a = s := by unfold S8.rdS; rw [M.n, h]; rfl
theorem Sm.rdN {s : S8} {t : I8} (M : Sm s t) {a : Int} (h : thr a t.n = false) : (s.rdS a).ok = false := by unfold S8.rdS; rw [M.n, h]; rfl
theorem reply_e (s : S8) (r o : Int) : s.reply r o = { s with h := { s.h with reply := r, out := o, at_ := 2 } } := by
  simp only [S8.reply, S8.u_At, S8.u_Out, S8.u_Reply, S8.uh]
theorem install_e (s : S8) (a x d g b : Int) : s.install a x d g b = { s with h := { s.h with addr := a, put := x, does := d, good := g, bad := b, at_ := 6 } } := by
  simp only [S8.install, S8.u_Addr, S8.u_Put, S8.u_Does, S8.u_Good, S8.u_Bad, S8.u_At, S8.uh]
theorem Agr.reply {s : S8} {o : Option I8} (H : Agr s o) (r u : Int) : Agr (s.reply r u) (o.map fun t => t.rep r u) := by
  rw [reply_e]
  exact H.map (fun h => { h with reply := r, out := u, at_ := 2 })
/-- A word that is not right, or a root of no class: nothing is done. -/
def Fin (s : S8) (o : Option I8) : Prop := (s.good = true ∧ (∃ t, fin8 o = some t ∧ t.xs = s.ar ∧ t.h = s.h ∧ t.d = s.d ∧ t.n = s.n) ∧ s.ar.length = s.n) ∨ (s.good = false ∧ fin8 o = none)
theorem Agr.fin {s : S8} {o : Option I8} (H : Agr s o) : Fin s o := by
  rcases fin_of H with ⟨g, h⟩ | h
  · cases o with
    | none => have hb : s.ok = false := H; rw [S8.good, hb] at g; cases g
    | some t => exact .inl ⟨g, h, H.1.len⟩
  · exact .inr h
theorem Fin.old {s : S8} {o : Option I8} (H : Fin s o) : (s.good = true ∧ ∃ t, fin8 o = some t ∧ t.xs = s.ar ∧ t.h = s.h ∧ t.d = s.d ∧ t.n = s.n) ∨ (s.good = false ∧ fin8 o = none) := by
  rcases H with ⟨g, h, -⟩ | h
  · exact .inl ⟨g, h⟩
  · exact .inr h
theorem Fin.len {s : S8} {o : Option I8} (H : Fin s o) : (Ans.of (fin8 o)).xs.length ≤ s.n := by
  rcases H with ⟨g, ⟨t, h1, h2, -, -, -⟩, hl⟩ | ⟨-, h⟩
  · rw [h1]
    show t.xs.length ≤ _
    rw [h2, hl]
    exact Nat.le_refl _
  · rw [h]
    exact Nat.zero_le _
theorem thr_neg {n : Nat} : thr (-1) n = false := by unfold thr; simp
theorem good_no {s : S8} (h : s.ok = false) : s.good = false := by unfold S8.good; rw [h]; rfl
theorem agr_prep {s : S8} {t : I8} (M : Sm s t) (ok : s.ok = true) (a block d g b : Int) : Agr ((s.wrd 0 s.h.for_ block s.h.last).install a (wv 0 s.h.for_ block s.h.last) d g b) (t.prepO a block d g b) := by
  rw [install_e]
  unfold I8.prepO
  rw [M.h]
  cases hw : wOk 0 t.h.for_ block t.h.last
  · rw [if_neg (by decide)]
    show (s.wrd 0 t.h.for_ block t.h.last).ok = false
    unfold S8.wrd
    rw [hw]
    rfl
  · rw [if_pos rfl]
    have e1 : s.wrd 0 t.h.for_ block t.h.last = s := by unfold S8.wrd; rw [hw]; rfl
    have e2 : wv 0 t.h.for_ block t.h.last = pk 0 t.h.for_ block t.h.last := by unfold wv; rw [hw]; rfl
    rw [e1, e2]
    exact ⟨M.hand (fun h => { h with addr := a, put := pk 0 t.h.for_ block t.h.last, does := d, good := g, bad := b, at_ := 6 }), ok⟩
theorem wrd_ok {s : S8} (h : s.ok = false) (k p i v : Int) : (s.wrd k p i v).ok = false := by unfold S8.wrd; split <;> simp [h]
theorem inst_ok {s : S8} (h : s.ok = false) (a x d g b : Int) : (s.install a x d g b).ok = false := by rw [install_e]; exact h
/-- What is wanted. -/
theorem agr_want {s : S8} {t : I8} (M : Sm s t) (ok : s.ok = true) (ha : aOk t.p t.s t.l t.c t.k t.n = true) : Agr s.want9 t.wantO := by
  unfold S8.want9 I8.wantO
  have H := agr_intend M ok 1 t.h.block
  have e : s.h.block = t.h.block := by rw [M.h]
  rw [e]
  cases hr : t.intO 1 t.h.block with
  | none =>
    rw [hr] at H
    have hb : (s.intend 1 t.h.block).ok = false := H
    show Agr _ none
    unfold S8.wantI
    refine inst_ok (wrd_ok ?_ _ _ _ _) _ _ _ _ _
    unfold S8.wantU
    split
    · rfl
    · exact hb
  | some u =>
    rw [hr] at H
    obtain ⟨N, ok2⟩ := H
    show Agr _ (if inB u.asked 0 1 = true then u.prepO (u.root u.asked) u.h.next 1 12 9 else none)
    have hpl : u.p = t.p ∧ u.s = t.s ∧ u.l = t.l ∧ u.c = t.c ∧ u.k = t.k ∧ u.n = t.n := by
      have := (Meas.hand t { t.h with last := wrap64 (t.h.last + 1) }).trans (Meas.wrO hr)
      exact ⟨this.p, this.s, this.l, this.c, this.k, this.n⟩
    generalize s.intend 1 t.h.block = s1 at *
    rw [N.asked, N.root9]
    unfold S8.wantU
    rw [N.asked, N.root9]
    cases hc : inB u.asked 0 1
    · rw [if_neg (show ¬ (false = true) by decide), if_neg (show ¬ (false = true) by decide), if_pos (show (-1 : Int) < 0 by decide)]
      show (S8.wantI _ _).ok = false
      unfold S8.wantI
      exact inst_ok (wrd_ok rfl _ _ _ _) _ _ _ _ _
    · have hc2 : 0 ≤ u.asked ∧ u.asked ≤ 1 := by unfold inB at hc; simpa using hc
      have ht : thr (u.root u.asked) u.n = true := by
        unfold I8.root
        obtain ⟨h1, h2, h3, h4, h5, h6⟩ := hpl
        rw [h1, h2, h3, h4, h5, h6]
        exact root_thr ha hc2.1 (by omega)
      have hn : ¬ u.root u.asked < 0 := by unfold thr at ht; have := of_decide_eq_true ht; omega
      rw [if_pos rfl, if_pos rfl, if_neg hn]
      unfold S8.wantI
      have e2 : s1.h.next = u.h.next := by rw [N.h]
      rw [e2]
      exact agr_prep N ok2 _ _ _ _ _
theorem agr_free {s : S8} {t : I8} (M : Sm s t) (ok : s.ok = true) (ha : aOk t.p t.s t.l t.c t.k t.n = true) : Agr s.free9 t.freeO := by
  unfold S8.free9 I8.freeO S8.rd9
  rw [M.asked, M.root9]
  cases hc : inB t.asked 0 1
  · rw [if_neg (show ¬ (false = true) by decide), if_neg (show ¬ (false = true) by decide)]
    have hb := M.rdN (a := -1) thr_neg
    show (S8.ok _) = false
    split
    · rw [reply_e]; exact hb
    · exact hb
  · rw [if_pos (show true = true from rfl), if_pos (show true = true from rfl)]
    have hc2 : 0 ≤ t.asked ∧ t.asked ≤ 1 := by unfold inB at hc; simpa using hc
    have ht : thr (t.root t.asked) t.n = true := root_thr ha hc2.1 (by omega)
    rw [M.rdY ht, M.rd]
    unfold I8.freeT
    by_cases h0 : uI (red t.xs (t.root t.asked)) = 0
    · rw [if_pos h0, if_pos h0, reply_e]
      exact ⟨M.hand (fun h => { h with seen := red t.xs (t.root t.asked), reply := 4, out := 0, at_ := 2 }), ok⟩
    · rw [if_neg h0, if_neg h0]
      exact ⟨M.hand (fun h => { h with seen := red t.xs (t.root t.asked), block := uI (red t.xs (t.root t.asked)), at_ := 10 }), ok⟩
theorem agr_under {s : S8} {t : I8} (M : Sm s t) (ok : s.ok = true) : Agr s.under9 t.underO := by
  unfold S8.under9 I8.underO
  rw [M.blk]
  cases ht : thr (t.blk 1) t.n
  · rw [if_neg (by decide)]
    exact M.rdN ht
  · rw [if_pos rfl, M.rdY ht, M.rd]
    exact ⟨M.hand (fun h => { h with next := uI (red t.xs (t.blk 1)), at_ := 11 }), ok⟩
theorem agr_hold {s : S8} {t : I8} (M : Sm s t) (ok : s.ok = true) : Agr s.hold9 t.holdO := by
  unfold S8.hold9 I8.holdO
  have H := agr_put M ok (t.blk 0) 1 t.h.for_ 0 0
  rw [M.blk, M.h]
  by_cases hk : t.h.code = 2
  · simp only [if_pos hk]
    exact H.reply 1 t.h.block
  · simp only [if_neg hk]
    exact H.to 13
theorem agr_mine {s : S8} {t : I8} (M : Sm s t) (ok : s.ok = true) : Agr s.mine9 t.mineO := by
  unfold S8.mine9 I8.mineO
  have e : s.mineAt9 = t.mineAt := by unfold S8.mineAt9 I8.mineAt; rw [M.p, M.ss, M.l, M.c, M.k, M.h]
  rw [e]
  cases ht : thr t.mineAt t.n
  · rw [if_neg (by decide)]
    have hb := M.rdN ht
    show (S8.ok _) = false
    unfold S8.mineT
    split
    · exact hb
    · rw [reply_e]; exact hb
  · rw [if_pos rfl, M.rdY ht, M.rd]
    unfold S8.mineT I8.mineT
    rw [M.h]
    cases hy : hsay9 1 t.h.for_ (red t.xs t.mineAt)
    · rw [if_neg (by decide), if_neg (by decide), reply_e]
      exact ⟨M.hand (fun h => { h with reply := 7, out := 0, at_ := 2 }), ok⟩
    · rw [if_pos rfl, if_pos rfl]
      have := M.hand (fun h => { h with block := h.a, at_ := if h.code = 3 then 17 else if h.code = 4 then 15 else 16 })
      rw [M.h] at this
      exact ⟨this, ok⟩
theorem agr_fetch {s : S8} {t : I8} (M : Sm s t) (ok : s.ok = true) : Agr ((s.rdS s.value9).reply 2 (uI (s.rd s.value9))) t.fetchO := by
  unfold I8.fetchO
  have e : s.value9 = t.valAt := by unfold S8.value9 I8.valAt I8.blk w64; rw [M.p, M.ss, M.l, M.c, M.k, M.h]
  rw [e]
  cases ht : thr t.valAt t.n
  · rw [if_neg (by decide), reply_e]
    exact M.rdN ht
  · rw [if_pos rfl, M.rdY ht, M.rd, reply_e]
    exact ⟨M.hand (fun h => { h with reply := 2, out := uI (red t.xs t.valAt), at_ := 2 }), ok⟩
theorem agr_store {s : S8} {t : I8} (M : Sm s t) (ok : s.ok = true) : Agr (((s.wrd 0 0 s.h.c 0).wr s.value9 (wv 0 0 s.h.c 0)).reply 1 0) t.storeO := by
  unfold I8.storeO
  have e : s.value9 = t.blk (wrap64 (2 + t.h.b)) := by unfold S8.value9 I8.blk w64; rw [M.p, M.ss, M.l, M.c, M.k, M.h]
  rw [e, M.h]
  exact (agr_put M ok _ _ _ _ _).reply 1 0
theorem agr_list {s : S8} {t : I8} (M : Sm s t) (ok : s.ok = true) (ha : aOk t.p t.s t.l t.c t.k t.n = true) : Agr ((s.rd9 (s.root9 s.cls9)).to 20) t.listO := by
  unfold I8.listO S8.rd9
  rw [M.cls, M.root9]
  cases hc : inB t.cls 0 1
  · rw [if_neg (show ¬ (false = true) by decide), if_neg (show ¬ (false = true) by decide)]
    exact M.rdN (a := -1) thr_neg
  · rw [if_pos (show true = true from rfl), if_pos (show true = true from rfl)]
    have hc2 : 0 ≤ t.cls ∧ t.cls ≤ 1 := by unfold inB at hc; simpa using hc
    have ht : thr (t.root t.cls) t.n = true := root_thr ha hc2.1 (by omega)
    rw [M.rdY ht, M.rd]
    exact ⟨M.hand (fun h => { h with seen := red t.xs (t.root t.cls), at_ := 20 }), ok⟩
theorem hok_addr {p s l c k : Int} {h : Hd} (hu : h.up = true) (ha : h.addr = -1) : hOk p s l c k h = false := by
  cases hh : hOk p s l c k h
  · rfl
  · have := (swap_y2 (hOk_y hh hu).2.1).1
    omega
theorem chainE_ok {I : S8} (h : I.ok = false) (c i : Int) : (I.chainE c i).ok = false := by
  unfold S8.chainE
  split
  · exact h
  · split
    · exact h
    · split <;> exact h
theorem chainE_addr (I : S8) (c i : Int) : (I.chainE c i).h.addr = I.h.addr := by
  unfold S8.chainE
  split
  · rfl
  · split
    · rfl
    · split <;> rfl
theorem chainE_up (I : S8) (c i : Int) : (I.chainE c i).h.up = I.h.up := by
  unfold S8.chainE
  split
  · rfl
  · split
    · rfl
    · split <;> rfl
theorem fin_chain {s : S8} {t : I8} (M : Sm s t) (ok : s.ok = true) (hu : t.h.up = true) : Fin s.chain9 t.chainO := by
  unfold S8.chain9 I8.chainO
  have H := agr_put M ok (t.blk 1) 0 0 (uI t.h.seen) 0
  have e : s.chainT = (s.wrd 0 0 (uI t.h.seen) 0).wr (t.blk 1) (wv 0 0 (uI t.h.seen) 0) := by unfold S8.chainT; rw [M.blk, M.h]
  rw [← e] at H
  rw [M.cls, M.h]
  cases hr : t.wrO (t.blk 1) 0 0 (uI t.h.seen) 0 with
  | none =>
    rw [hr] at H
    have hb : s.chainT.ok = false := H
    refine Agr.fin (o := none) ?_
    show (S8.chainE _ _ _).ok = false
    refine chainE_ok ?_ _ _
    unfold S8.chainI
    exact inst_ok (wrd_ok hb _ _ _ _) _ _ _ _ _
  | some u =>
    rw [hr] at H
    obtain ⟨N, ok2⟩ := H
    have uh := I8.wrO_h hr
    have me := Meas.wrO hr
    have hcl : u.cls = t.cls := by unfold I8.cls; rw [uh, me.p, me.s, me.l, me.c, me.k]
    generalize s.chainT = s1 at *
    show Fin ((s1.chainI (s1.root9 t.cls)).chainE t.h.code t.h.index) (u.chain2.map t.done3)
    rw [N.root9]
    unfold I8.chain2
    rw [hcl]
    cases hc : inB t.cls 0 1
    · rw [if_neg (show ¬ (false = true) by decide), if_neg (show ¬ (false = true) by decide)]
      refine .inr ⟨?_, rfl⟩
      unfold S8.good
      have e1 : (S8.chainE (s1.chainI (-1)) t.h.code t.h.index).h.addr = -1 := by
        rw [chainE_addr]; unfold S8.chainI; rw [install_e]
      have e2 : (S8.chainE (s1.chainI (-1)) t.h.code t.h.index).h.up = true := by
        rw [chainE_up]; unfold S8.chainI; rw [install_e]
        show (S8.h (s1.wrd _ _ _ _)).up = true
        rw [S8.wrd_h, N.h, uh]
        exact hu
      rw [hok_addr e2 e1]
      simp
    · rw [if_pos (show true = true from rfl), if_pos (show true = true from rfl)]
      refine Agr.fin ?_
      unfold S8.chainI I8.prepO
      rw [install_e, N.h]
      cases hw : wOk 0 u.h.for_ u.h.block u.h.last
      · rw [if_neg (show ¬ (false = true) by decide)]
        show (S8.chainE _ _ _).ok = false
        refine chainE_ok ?_ _ _
        show (s1.wrd 0 u.h.for_ u.h.block u.h.last).ok = false
        unfold S8.wrd
        rw [hw]
        rfl
      · rw [if_pos (show true = true from rfl)]
        have e1 : s1.wrd 0 u.h.for_ u.h.block u.h.last = s1 := by unfold S8.wrd; rw [hw]; rfl
        have e2 : wv 0 u.h.for_ u.h.block u.h.last = pk 0 u.h.for_ u.h.block u.h.last := by unfold wv; rw [hw]; rfl
        rw [e1, e2]
        show Agr _ (some (t.done3 _))
        unfold S8.chainE I8.done3 I8.behind
        rw [uh]
        by_cases k3 : t.h.code = 3
        · simp only [if_pos k3]
          have := N.hand (fun h => { h with addr := u.root t.cls, put := pk 0 t.h.for_ t.h.block t.h.last, does := 2, good := 2, bad := 19, at_ := 6, reply := 1, out := 0 })
          rw [uh] at this
          exact ⟨this, ok2⟩
        · simp only [if_neg k3]
          by_cases k12 : t.h.code = 12
          · simp only [if_pos k12]
            have := N.hand (fun h => { h with addr := u.root t.cls, put := pk 0 t.h.for_ t.h.block t.h.last, does := 2, good := 69, bad := 19, at_ := 6 })
            rw [uh] at this
            exact ⟨this, ok2⟩
          · simp only [if_neg k12]
            by_cases k0 : t.h.index = 0
            · simp only [if_pos k0]
              have := N.hand (fun h => { h with addr := u.root t.cls, put := pk 0 t.h.for_ t.h.block t.h.last, does := 2, good := 64, bad := 19, at_ := 6 })
              rw [uh] at this
              exact ⟨this, ok2⟩
            · simp only [if_neg k0]
              have := N.hand (fun h => { h with addr := u.root t.cls, put := pk 0 t.h.for_ t.h.block t.h.last, does := 2, good := 67, bad := 19, at_ := 6 })
              rw [uh] at this
              exact ⟨this, ok2⟩
theorem join9 {s : S8} {t : I8} (M : Sm s t) (ok : s.ok = true) (ha : aOk t.p t.s t.l t.c t.k t.n = true) (hu : t.h.up = true) : Fin s.go9 t.pnext := by
  have hc : s.h.at_ = t.h.at_ := by rw [M.h]
  unfold S8.go9 I8.pnext
  rw [hc]
  by_cases k9 : t.h.at_ = 9
  · rw [if_pos k9, if_pos k9]
    exact (agr_free M ok ha).fin
  rw [if_neg k9, if_neg k9]
  by_cases k10 : t.h.at_ = 10
  · rw [if_pos k10, if_pos k10]
    exact (agr_under M ok).fin
  rw [if_neg k10, if_neg k10]
  by_cases k11 : t.h.at_ = 11
  · rw [if_pos k11, if_pos k11]
    exact (agr_want M ok ha).fin
  rw [if_neg k11, if_neg k11]
  by_cases k12 : t.h.at_ = 12
  · rw [if_pos k12, if_pos k12]
    exact (agr_hold M ok).fin
  rw [if_neg k12, if_neg k12]
  by_cases k13 : t.h.at_ = 13
  · rw [if_pos k13, if_pos k13]
    unfold I8.fillO
    rw [M.blk, M.h]
    exact ((agr_put M ok _ _ _ _ _).to 21).fin
  rw [if_neg k13, if_neg k13]
  by_cases k14 : t.h.at_ = 14
  · rw [if_pos k14, if_pos k14]
    exact (agr_mine M ok).fin
  rw [if_neg k14, if_neg k14]
  by_cases k15 : t.h.at_ = 15
  · rw [if_pos k15, if_pos k15]
    exact (agr_store M ok).fin
  rw [if_neg k15, if_neg k15]
  by_cases k16 : t.h.at_ = 16
  · rw [if_pos k16, if_pos k16]
    exact (agr_fetch M ok).fin
  rw [if_neg k16, if_neg k16]
  by_cases k17 : t.h.at_ = 17
  · rw [if_pos k17, if_pos k17]
    unfold I8.yieldO
    rw [M.h]
    exact ((agr_intend M ok _ _).to 18).fin
  rw [if_neg k17, if_neg k17]
  by_cases k18 : t.h.at_ = 18
  · rw [if_pos k18, if_pos k18]
    unfold I8.looseO
    rw [M.blk]
    exact ((agr_put M ok _ _ _ _ _).to 19).fin
  rw [if_neg k18, if_neg k18]
  by_cases k19 : t.h.at_ = 19
  · rw [if_pos k19, if_pos k19]
    exact (agr_list M ok ha).fin
  rw [if_neg k19, if_neg k19]
  exact fin_chain M ok hu
theorem Nc.reply {a b : S8} (h : Nc a b) (r o : Int) : Nc a (b.reply r o) := by rw [reply_e]; exact h.hand _
theorem Nc.install {a b : S8} (h : Nc a b) (x y z u v : Int) : Nc a (b.install x y z u v) := by rw [install_e]; exact h.hand _
theorem Nc.put {a b : S8} (h : Nc a b) (x k p i v : Int) : Nc a ((b.wrd k p i v).wr x (wv k p i v)) := (h.wrd _ _ _ _).wr _ _ (wv_bd _ _ _ _)
theorem nc9 {s : S8} (h : Nc s s) : Nc s s.go9 := by
  unfold S8.go9
  split
  · unfold S8.free9 S8.rd9
    split
    · exact (Nc.hand (h.rdS _) _).reply _ _
    · exact (Nc.hand (h.rdS _) _)
  split
  · exact (h.rdS _).hand _
  split
  · unfold S8.want9 S8.wantI
    refine Nc.install (Nc.wrd ?_ _ _ _ _) _ _ _ _ _
    unfold S8.wantU
    split
    · exact (h.intend _ _).bad
    · exact h.intend _ _
  split
  · unfold S8.hold9
    split
    · exact (h.put _ _ _ _ _).reply _ _
    · exact (h.put _ _ _ _ _).hand _
  split
  · exact (h.put _ _ _ _ _).hand _
  split
  · unfold S8.mine9 S8.mineT
    split
    · exact (h.rdS _).hand _
    · exact (h.rdS _).reply _ _
  split
  · exact (h.put _ _ _ _ _).reply _ _
  split
  · exact (h.rdS _).reply _ _
  split
  · exact (h.intend _ _).hand _
  split
  · exact (h.put _ _ _ _ _).hand _
  split
  · exact ((h.rdS _).hand _).hand _
  · unfold S8.chain9 S8.chainI S8.chainT
    have k := Nc.install (Nc.wrd (h.put (s.blk 1) 0 0 (uI s.h.seen) 0) 0 (S8.h ((s.wrd 0 0 (uI s.h.seen) 0).wr (s.blk 1) (wv 0 0 (uI s.h.seen) 0))).for_ (S8.h ((s.wrd 0 0 (uI s.h.seen) 0).wr (s.blk 1) (wv 0 0 (uI s.h.seen) 0))).block (S8.h ((s.wrd 0 0 (uI s.h.seen) 0).wr (s.blk 1) (wv 0 0 (uI s.h.seen) 0))).last)
    unfold S8.chainE
    split
    · exact (k _ _ _ _ _).hand _
    · split
      · exact (k _ _ _ _ _).hand _
      · split
        · exact (k _ _ _ _ _).hand _
        · exact k _ _ _ _ _
/-- The pool's step keeps the measure of its words. -/
theorem Meas.intO {st t : I8} {k b : Int} (h : st.intO k b = some t) : Meas st t := (Meas.hand st { st.h with last := wrap64 (st.h.last + 1) }).trans (Meas.wrO h)
theorem Meas.prepO {st t : I8} {a b d g c : Int} (h : st.prepO a b d g c = some t) : Meas st t := by
  unfold I8.prepO at h
  split at h
  · cases h; exact Meas.hand _ _
  · cases h
theorem Meas.pnext {st t : I8} (h : st.pnext = some t) : Meas st t := by
  unfold I8.pnext at h
  split at h
  · unfold I8.freeO at h
    split at h
    · cases h; unfold I8.freeT; split <;> exact Meas.hand st _
    · cases h
  split at h
  · unfold I8.underO at h
    split at h
    · cases h; exact Meas.hand st _
    · cases h
  split at h
  · unfold I8.wantO at h
    cases hr : st.intO 1 st.h.block with
    | none => rw [hr] at h; cases h
    | some u =>
      rw [hr] at h
      have h2 : (if inB u.asked 0 1 = true then u.prepO (u.root u.asked) u.h.next 1 12 9 else none) = some t := h
      split at h2
      · exact (Meas.intO hr).trans (Meas.prepO h2)
      · cases h2
  split at h
  · unfold I8.holdO at h
    cases hr : st.wrO (st.blk 0) 1 st.h.for_ 0 0 with
    | none => rw [hr] at h; cases h
    | some u =>
      rw [hr] at h
      have h2 : some (if st.h.code = 2 then u.rep 1 st.h.block else u.to 13) = some t := h
      cases h2
      split <;> exact (Meas.wrO hr).trans (Meas.hand u _)
  split at h
  · unfold I8.fillO at h
    cases hr : st.wrO (st.blk 2) 0 0 st.h.b 0 with
    | none => rw [hr] at h; cases h
    | some u => rw [hr] at h; cases h; exact (Meas.wrO hr).trans (Meas.hand u _)
  split at h
  · unfold I8.mineO at h
    split at h
    · cases h; unfold I8.mineT; split <;> exact Meas.hand st _
    · cases h
  split at h
  · unfold I8.storeO at h
    cases hr : st.wrO (st.blk (wrap64 (2 + st.h.b))) 0 0 st.h.c 0 with
    | none => rw [hr] at h; cases h
    | some u => rw [hr] at h; cases h; exact (Meas.wrO hr).trans (Meas.hand u _)
  split at h
  · unfold I8.fetchO at h
    split at h
    · cases h; exact Meas.hand st _
    · cases h
  split at h
  · unfold I8.yieldO at h
    cases hr : st.intO 2 st.h.block with
    | none => rw [hr] at h; cases h
    | some u => rw [hr] at h; cases h; exact (Meas.intO hr).trans (Meas.hand u _)
  split at h
  · unfold I8.looseO at h
    cases hr : st.wrO (st.blk 0) 0 0 0 0 with
    | none => rw [hr] at h; cases h
    | some u => rw [hr] at h; cases h; exact (Meas.wrO hr).trans (Meas.hand u _)
  split at h
  · unfold I8.listO at h
    split at h
    · cases h; exact Meas.hand st _
    · cases h
  · unfold I8.chainO at h
    cases hr : st.wrO (st.blk 1) 0 0 (uI st.h.seen) 0 with
    | none => rw [hr] at h; cases h
    | some u =>
      rw [hr] at h
      have h2 : u.chain2.map st.done3 = some t := h
      cases hp : u.chain2 with
      | none => rw [hp] at h2; cases h2
      | some v =>
        rw [hp] at h2
        cases h2
        unfold I8.chain2 at hp
        split at hp
        · have m := (Meas.wrO hr).trans (Meas.prepO hp)
          unfold I8.done3
          split
          · exact m.trans (Meas.hand v _)
          · exact m
        · cases hp
end Go.Proofs.YtgmoemjiffglbaaGreat
namespace Go.Proofs.YtgmoemjiffglbaaGreat
open Go.RowKit
set_option maxRecDepth 100000
set_option linter.unusedVariables false
set_option linter.unusedSimpArgs false
def S8.peek10 (st : S8) : S8 := if uI (st.rd (st.root 2)) = 0 then (st.rd9 (st.root 2)).reply 3 0 else { (st.rd9 (st.root 2)) with h := { (st.rd9 (st.root 2)).h with block := uI (st.rd (st.root 2)), at_ := 26 } }
def S8.kept10 (T : S8) : S8 := { T with h := { T.h with kept := wrap64 (T.h.kept + 1), at_ := 2 } }
def S8.next10 (st : S8) : S8 := { (st.rdS (st.blk 1)) with h := { (st.rdS (st.blk 1)).h with next := uI (st.rd (st.blk 1)), from_ := (st.rdS (st.blk 1)).h.block, at_ := 29 } }
def S8.look10 (st : S8) : Int := vBlock st.p st.s st.l st.c st.k st.h.from_ 2
def S8.again10 (st : S8) : S8 := if (st.to 25).rd ((st.to 25).root 2) = st.h.seen then ((st.to 25).rdS ((st.to 25).root 2)).to 28 else (st.to 25).rdS ((st.to 25).root 2)
end Go.Proofs.YtgmoemjiffglbaaGreat
namespace Go.Proofs.YtgmoemjiffglbaaGreat
open Go.RowKit
set_option maxRecDepth 100000
set_option linter.unusedVariables false
set_option linter.unusedSimpArgs false
def S8.ret10 (u : S8) (r o : Int) : S8 := { u with h := { u.h with reply := r, out := o } }
theorem ins_Value (X : S8) (a x d g b : Int) : (X.install a x d g b).h.value = X.h.value := by simp only [S8.install, S8.u_Addr, S8.u_Put, S8.u_Does, S8.u_Good, S8.u_Bad, S8.u_At, S8.uh_h]
theorem ins_g (X : S8) (a x d g b : Int) : (X.install a x d g b).g = X.g := by simp only [S8.install, S8.u_Addr, S8.u_Put, S8.u_Does, S8.u_Good, S8.u_Bad, S8.u_At, S8.uh_g]
def S8.aim10 (st : S8) : S8 := (st.intend (if st.h.code = 8 then 5 else 3) st.h.block).to 22
def S8.node10 (st : S8) : S8 := if st.h.code = 8 then ((st.wrd 2 0 0 0).wr (st.blk 0) (wv 2 0 0 0)).to 33 else ((st.wrd 2 0 0 0).wr (st.blk 0) (wv 2 0 0 0)).to 23
def S8.joinI (T : S8) (a : Int) : S8 := ((T.wrd 0 T.h.for_ T.h.block T.h.last).install a (wv 0 T.h.for_ T.h.block T.h.last) 3 2 23)
def S8.join10 (st : S8) : S8 := (st.chainT.joinI (st.chainT.root 2)).ret10 1 0
def S8.pickI (T : S8) (a d bd : Int) : S8 := ((T.wrd 0 T.h.for_ T.h.next T.h.last).install a (wv 0 T.h.for_ T.h.next T.h.last) d 32 bd)
def S8.pickT (T : S8) (root d bd : Int) : S8 := (T.pickI (T.root root) d bd).ret10 2 (T.pickI (T.root root) d bd).h.value
def S8.pick10 (st : S8) : S8 := if st.h.code = 9 then (st.intend 6 st.h.block).pickT 3 6 41 else (st.intend 4 st.h.block).pickT 2 4 25
/-- What the specification's step of the stack comes to. -/
def S8.go10 (st : S8) : S8 :=
  if st.h.at_ = 21 then st.aim10 else
  if st.h.at_ = 22 then st.node10 else
  if st.h.at_ = 23 then (st.rd9 (st.root 2)).to 24 else
  if st.h.at_ = 24 then st.join10 else
  if st.h.at_ = 25 then st.peek10 else
  if st.h.at_ = 26 then ((st.wrd 0 0 st.h.block 0).wr (st.slot 5) (wv 0 0 st.h.block 0)).to 27 else
  if st.h.at_ = 27 then st.again10 else
  if st.h.at_ = 28 then st.next10 else
  if st.h.at_ = 29 then { (st.rdS st.look10) with h := { (st.rdS st.look10).h with value := uI (st.rd st.look10), at_ := 30 } } else
  if st.h.at_ = 30 then ((st.wrd 0 0 st.h.value 0).wr (st.slot 3) (wv 0 0 st.h.value 0)).to 31 else
  if st.h.at_ = 31 then st.pick10 else
  ((st.wrd 3 st.h.for_ 0 0).wr (st.blk 0) (wv 3 st.h.for_ 0 0)).kept10
end Go.Proofs.YtgmoemjiffglbaaGreat
namespace Go.Proofs.YtgmoemjiffglbaaGreat
open Go.RowKit
set_option maxRecDepth 100000
set_option linter.unusedVariables false
set_option linter.unusedSimpArgs false
/-- At goes back; on, where the root is still what was seen. -/
def S8.agn (st : S8) (back root on : Int) : S8 := if (st.to back).rd ((st.to back).root root) = st.h.seen then ((st.to back).rdS ((st.to back).root root)).to on else (st.to back).rdS ((st.to back).root root)
def S8.pull (st : S8) (y blk : Int) : S8 := ((st.wrd 0 0 blk (IntKind.i64.wrap (uS y + 1))).swp (st.root 4) y (wv 0 0 blk (IntKind.i64.wrap (uS y + 1)))).2
theorem At.k2 {w w' : World} {c b g : Nat} {cs : Array Value} {t : TypeId} (h : At w c cs t) (k : Go.Proofs.YtgmoemjiffglbaaGreat.K2 b g w w') (h1 : c ≠ b) (h2 : c ≠ g) : At w' c cs t := ⟨(k.block c h.lt h1 h2).trans h.is⟩
theorem swp_f {X : Type} (f : S8 → X) (h1 : ∀ s a, f (S8.rdS s a) = f s) (h2 : ∀ s a x, f (S8.wr s a x) = f s) (st : S8) (a y x : Int) : f (st.swp a y x).2 = f st := by
  unfold S8.swp
  split
  · exact h1 _ _
  · exact (h2 _ _ _).trans (h1 _ _)
theorem swp_h (st : S8) (a y x : Int) : (st.swp a y x).2.h = st.h := swp_f S8.h S8.rdS_h S8.wr_h st a y x
theorem swp_g (st : S8) (a y x : Int) : (st.swp a y x).2.g = st.g := swp_f S8.g S8.rdS_g S8.wr_g st a y x
theorem pull_h (st : S8) (y k : Int) : (st.pull y k).h = st.h := by unfold S8.pull; rw [swp_h, S8.wrd_h]
theorem pull_g (st : S8) (y k : Int) : (st.pull y k).g = st.g := by unfold S8.pull; rw [swp_g, S8.wrd_g]
set_option maxHeartbeats 16000000 in
theorem sPull (b : Nat) (st : S8) (w : World) (S : SAt w b st) (hn : st.n ≤ 16777216) (y blk : Int) (hy : 0 ≤ y ∧ y ≤ 18446744073709551615) :
    Calls Tryz.prog 38 #[.pointer (some ⟨b, 0, none⟩), .int .u64 y, .int .i64 blk] w fun e w' => e = .returned (.tuple #[]) ∧ SAt w' b (st.pull y blk) ∧ K2 b st.g w w' := by
  obtain ⟨W, hW⟩ : ∃ W, Hid (st.wrd 0 0 blk (IntKind.i64.wrap (uS y + 1)) = W) := ⟨_, rfl⟩
  have hWg : W.g = st.g := by rw [← hW.out, S8.wrd_g]
  have hWn : W.n ≤ 16777216 := by rw [← hW.out, S8.wrd_n]; exact hn
  have tW : W.p = st.p ∧ W.s = st.s ∧ W.l = st.l ∧ W.c = st.c ∧ W.k = st.k := by rw [← hW.out]; exact ⟨S8.wrd_p .., S8.wrd_s .., S8.wrd_l .., S8.wrd_c .., S8.wrd_k ..⟩
  obtain ⟨x, hx⟩ : ∃ x, Hid (wv 0 0 blk (IntKind.i64.wrap (uS y + 1)) = x) := ⟨_, rfl⟩
  have hxb : Hid (0 ≤ x ∧ x ≤ 18446744073709551615) := by rw [← hx.out]; exact wv_bd _ _ _ _
  obtain ⟨F, hF⟩ : ∃ F, Hid ((W.swp (st.root 4) y x).2 = F) := ⟨_, rfl⟩
  have tF : F.p = st.p ∧ F.s = st.s ∧ F.l = st.l ∧ F.c = st.c ∧ F.k = st.k := by
    rw [← hF.out]
    exact ⟨(swp_f S8.p S8.rdS_p S8.wr_p ..).trans tW.1, (swp_f S8.s S8.rdS_s S8.wr_s ..).trans tW.2.1, (swp_f S8.l S8.rdS_l S8.wr_l ..).trans tW.2.2.1, (swp_f S8.c S8.rdS_c S8.wr_c ..).trans tW.2.2.2.1, (swp_f S8.k S8.rdS_k S8.wr_k ..).trans tW.2.2.2.2⟩
  have hP : Hid (st.pull y blk = F) := by unfold Hid S8.pull; rw [hW.out, hx.out, hF.out]
  have HR : Hid (∀ w1, Calls Tryz.prog 30 #[.agg #[.int .i64 st.p, .int .i64 st.s, .int .i64 st.l, .int .i64 st.c, .int .i64 st.k], .int .i64 4] w1 fun e w' => e = .returned (.int .i64 (st.root 4)) ∧ Below w1.heap.size w1 w') := fun w1 => sRoot _ _ _ _ _ _ w1
  go_enter Tryz.func38, Tryz.ntmps38
  go_upto_region 1 with (go_at_call 66; refine (sUnpack _ hy.1 hy.2 _).mono ?_; rintro e w0 ⟨rfl, hb⟩; replace S := S.keep hb; have z := hb; clear hb)
  refine wp_at (fun W => At W w0.heap.size #[.int .i64 (uK y), .int .i64 (uP y), .int .i64 (uI y), .int .i64 (uS y)] 85 ∧ SAt W b st ∧ K2 b st.g w W) ⟨by exact At.new w0 _ _, S.keep ((Below.refl _ _).alloc (Nat.le_refl _) _), (K2.of_below z).trans (K2.of_below ((Below.refl _ _).alloc (Nat.le_refl _) _))⟩ ?_
  have hb1 : w0.heap.size ≠ b := by have := S.is.lt; omega
  have hb2 : w0.heap.size ≠ st.g := by have := S.ws.lt; omega
  clear S z
  rintro w1 ⟨U, S1, k1⟩
  obtain ⟨ub, hub⟩ : ∃ ub, Hid (w0.heap.size = ub) := ⟨_, rfl⟩
  rw [hub.out] at U hb1 hb2
  rw [hub.out]
  replace S1 := S1.drew
  replace k1 := k1.drew
  replace U := U.keep (Below.refl w1.heap.size w1).drew
  obtain ⟨d0, d1, d2, d3, d4⟩ := S1.plan
  have u3 : w1.drew.cell? ⟨ub, 3, none⟩ = some (.int .i64 (uS y)) := U.cell 3
  go_region_held3 (fun w' => w'.cell? ⟨b, 0, none⟩ = some (.int .i64 st.p) ∧ w'.cell? ⟨b, 1, none⟩ = some (.int .i64 st.s) ∧ w'.cell? ⟨b, 2, none⟩ = some (.int .i64 st.l) ∧ w'.cell? ⟨b, 3, none⟩ = some (.int .i64 st.c) ∧ w'.cell? ⟨b, 4, none⟩ = some (.int .i64 st.k) ∧ w'.cell? ⟨ub, 3, none⟩ = some (.int .i64 (uS y))) (first | go_keep | (refine ⟨?_, ?_, ?_, ?_, ?_, ?_⟩ <;> (simp [go_sem]; assumption)))
    (first
    | (go_at_call 30; refine (HR.out _).mono ?_; rintro e w2 ⟨rfl, hb⟩; replace S1 := S1.keep hb; replace U := U.keep hb; replace k1 := k1.trans (K2.of_below hb); clear hb d0 d1 d2 d3 d4 u3; obtain ⟨d0, d1, d2, d3, d4⟩ := S1.plan; have u3 : w2.cell? ⟨ub, 3, none⟩ = some (.int .i64 (uS y)) := U.cell 3)
    | (go_at_call 35; refine (sl8Word b st _ _ _ _ _ S1).mono ?_; rintro e w3 ⟨rfl, S2, k2⟩; rw [hW.out] at S2; rw [hx.out]; replace U := U.k2 k2 hb1 hb2; replace k1 := k1.trans k2; clear k2 S1 d0 d1 d2 d3 d4 u3; obtain ⟨d0, d1, d2, d3, d4⟩ := S2.plan; rw [tW.1] at d0; rw [tW.2.1] at d1; rw [tW.2.2.1] at d2; rw [tW.2.2.2.1] at d3; rw [tW.2.2.2.2] at d4; have u3 : w3.cell? ⟨ub, 3, none⟩ = some (.int .i64 (uS y)) := U.cell 3)
    | (go_at_call 70; refine (sl8Swap b W (st.root 4) y x _ S2 hWn hxb.out).mono ?_; rintro e w4 ⟨rfl, S3, k2⟩; rw [hF.out] at S3; rw [hWg] at k2; replace U := U.k2 k2 hb1 hb2; replace k1 := k1.trans k2; clear k2 S2 d0 d1 d2 d3 d4 u3; obtain ⟨d0, d1, d2, d3, d4⟩ := S3.plan; rw [tF.1] at d0; rw [tF.2.1] at d1; rw [tF.2.2.1] at d2; rw [tF.2.2.2.1] at d3; rw [tF.2.2.2.2] at d4; have u3 : w4.cell? ⟨ub, 3, none⟩ = some (.int .i64 (uS y)) := U.cell 3))
  clear tW tF
  go_wp2
  first | go_end0 | refine bodyPost_ret (results_none rfl _ _ _) rfl ?_
  rw [hP.out]
  exact ⟨rfl, S3, k1⟩
set_option maxHeartbeats 16000000 in
theorem g11_41 (b : Nat) (st : S8) (w : World) (S : SAt w b st) (hn : st.n ≤ 16777216) (hat : st.h.at_ = 41) :
    Calls Tryz.prog 16 #[.pointer (some ⟨b, 0, none⟩)] w fun e w' => e = .returned (.tuple #[]) ∧ SAt w' b ({ (st.rd9 (st.root 3)) with h := { (st.rd9 (st.root 3)).h with block := uI (st.rd (st.root 3)), at_ := 42 } } : S8) ∧ K2 b st.g w w' := by
  obtain ⟨T, hT⟩ : ∃ T, Hid (st.rdS (st.root 3) = T) := ⟨_, rfl⟩
  obtain ⟨x, hx⟩ : ∃ x, Hid (st.rd (st.root 3) = x) := ⟨_, rfl⟩
  have hF : Hid (({ (st.rd9 (st.root 3)) with h := { (st.rd9 (st.root 3)).h with block := uI (st.rd (st.root 3)), at_ := 42 } } : S8) = { T with h := { T.h with seen := x, block := uI x, at_ := 42 } }) := by unfold Hid S8.rd9; rw [hT.out, hx.out]
  have c13 : w.cell? ⟨b, 13, none⟩ = some (.int .i64 st.h.at_) := S.c_h_At
  rw [hat] at c13
  have hhat : Hid (st.h.at_ = 41) := hat
  clear hat
  obtain ⟨d0, d1, d2, d3, d4⟩ := S.plan
  have HR : Hid (∀ w1, Calls Tryz.prog 30 #[.agg #[.int .i64 st.p, .int .i64 st.s, .int .i64 st.l, .int .i64 st.c, .int .i64 st.k], .int .i64 3] w1 fun e w' => e = .returned (.int .i64 (st.root 3)) ∧ Below w1.heap.size w1 w') := fun w1 => sRoot _ _ _ _ _ _ w1
  go_enter Tryz.func16, Tryz.ntmps16
  go_upto_region 1 with (go_at_call 30; refine (HR.out _).mono ?_; rintro e w1 ⟨rfl, hb⟩; replace S := S.keep hb; have k1 : K2 b st.g w w1 := K2.of_below hb; clear hb d0 d1 d2 d3 d4 c13)
  have c13 : w1.cell? ⟨b, 13, none⟩ = some (.int .i64 41) := by (have hq := S.c_h_At; rw [hhat.out] at hq; exact hq)
  have f13 := S.fz 13
  go_upto_region 4 with fail
  go_upto_region 5 with (go_at_call 31; refine (sl8Read b st (st.root 3) _ S hn).mono ?_; rintro e w3 ⟨rfl, S3, k3, hbd⟩; replace k1 := k1.trans k3; rw [hT.out] at S3; rw [hx.out] at hbd; rw [hx.out]; clear k3 c13 f13; have c23 : w3.cell? ⟨b, 23, none⟩ = some (.int .u64 T.h.seen) := S3.c_h_Seen; have f23 := S3.fz 23)
  change Code.wp _ _ _ _ (w3.setCell ⟨b, 23, none⟩ (.int .u64 x))
  have S4 : SAt (w3.setCell ⟨b, 23, none⟩ (.int .u64 x)) b { T with h := { T.h with seen := x } } := S3.put (st' := { T with h := { T.h with seen := x } }) 23 _ rfl ⟨rfl, rfl, rfl, rfl, rfl, rfl⟩
  replace k1 := k1.set 23 (.int .u64 x)
  generalize w3.setCell ⟨b, 23, none⟩ (.int .u64 x) = w4 at *
  clear c23 f23 S3 S
  have c23 : w4.cell? ⟨b, 23, none⟩ = some (.int .u64 x) := S4.c_h_Seen
  go_wp2_with (go_at_call 32; refine (sIndex _ hbd.1 hbd.2 _).mono ?_; rintro e w5 ⟨rfl, hb⟩; replace S4 := S4.keep hb; replace k1 := k1.trans (K2.of_below hb); clear hb; have c28 : w5.cell? ⟨b, 28, none⟩ = some (.int .i64 T.h.block) := S4.c_h_Block; have f28 := S4.fz 28; have c13 : w5.cell? ⟨b, 13, none⟩ = some (.int .i64 T.h.at_) := S4.c_h_At; have f13 := S4.fz 13)
  first | go_end0 | refine bodyPost_ret (results_none rfl _ _ _) rfl ?_
  rw [hF.out]
  exact ⟨rfl, (S4.put (st' := { T with h := { T.h with seen := x, block := uI x } }) 28 _ rfl ⟨rfl, rfl, rfl, rfl, rfl, rfl⟩).put 13 _ rfl ⟨rfl, rfl, rfl, rfl, rfl, rfl⟩, (k1.set _ _).set _ _⟩
set_option maxHeartbeats 16000000 in
theorem g11_42 (b : Nat) (st : S8) (w : World) (S : SAt w b st) (hn : st.n ≤ 16777216) (hat : st.h.at_ = 42) :
    Calls Tryz.prog 16 #[.pointer (some ⟨b, 0, none⟩)] w fun e w' => e = .returned (.tuple #[]) ∧ SAt w' b (((st.wrd 0 0 st.h.block 0).wr (st.slot 5) (wv 0 0 st.h.block 0)).to 43) ∧ K2 b st.g w w' := by
  obtain ⟨T, hT⟩ : ∃ T, Hid (((st.wrd 0 0 st.h.block 0).wr (st.slot 5) (wv 0 0 st.h.block 0)) = T) := ⟨_, rfl⟩
  have c13 : w.cell? ⟨b, 13, none⟩ = some (.int .i64 st.h.at_) := S.c_h_At
  rw [hat] at c13
  have hhat : Hid (st.h.at_ = 42) := hat
  clear hat
  obtain ⟨d0, d1, d2, d3, d4⟩ := S.plan
  have HR : Hid (∀ w1, Calls Tryz.prog 30 #[.agg #[.int .i64 st.p, .int .i64 st.s, .int .i64 st.l, .int .i64 st.c, .int .i64 st.k], .int .i64 3] w1 fun e w' => e = .returned (.int .i64 (st.root 3)) ∧ Below w1.heap.size w1 w') := fun w1 => sRoot _ _ _ _ _ _ w1
  go_enter Tryz.func16, Tryz.ntmps16
  go_upto_region 1 with (go_at_call 30; refine (HR.out _).mono ?_; rintro e w1 ⟨rfl, hb⟩; replace S := S.keep hb; have k1 : K2 b st.g w w1 := K2.of_below hb; clear hb d0 d1 d2 d3 d4 c13)
  have c13 : w1.cell? ⟨b, 13, none⟩ = some (.int .i64 42) := by (have hq := S.c_h_At; rw [hhat.out] at hq; exact hq)
  have f13 := S.fz 13
  go_upto_region 8 with fail
  have S1 := S.drew
  replace k1 := k1.drew
  have c28 : w1.drew.cell? ⟨b, 28, none⟩ = some (.int .i64 st.h.block) := S1.c_h_Block
  clear c13 f13 S
  go_region_held3 (fun w' => w'.cell? ⟨b, 28, none⟩ = some (.int .i64 st.h.block)) (go_keep)
    (first
    | (go_at_call 34; refine (sl8Slot b st 5 _ S1).mono ?_; rintro e w7 ⟨rfl, hb⟩; replace S1 := S1.keep hb; replace k1 := k1.trans (K2.of_below hb); clear hb; clear c28; have c28 : w7.cell? ⟨b, 28, none⟩ = some (.int .i64 st.h.block) := (by have hq := S1.c_h_Block; exact hq))
    | (go_at_call 35; refine (sl8Word b st _ _ _ _ _ S1).mono ?_; rintro e w8 ⟨rfl, S2, k2⟩; replace k1 := k1.trans k2; clear k2 S1; clear c28; have c28 : w8.cell? ⟨b, 28, none⟩ = some (.int .i64 st.h.block) := (by have hq := S2.c_h_Block; rw [S8.wrd_h] at hq; exact hq))
    | (go_at_call 33; refine (sl8Write b _ _ _ _ S2 (by rw [S8.wrd_n]; exact hn) (wv_bd _ _ _ _)).mono ?_; rintro e w9 ⟨rfl, S9, k2⟩; rw [S8.wrd_g] at k2; replace k1 := k1.trans k2; clear k2 S2; clear c28; have c28 : w9.cell? ⟨b, 28, none⟩ = some (.int .i64 st.h.block) := (by have hq := S9.c_h_Block; rw [S8.wr_h, S8.wrd_h] at hq; exact hq)))
  rw [hT.out] at S9
  have c13 : w9.cell? ⟨b, 13, none⟩ = some (.int .i64 T.h.at_) := S9.c_h_At
  have f13 := S9.fz 13
  go_wp2
  first | go_end0 | refine bodyPost_ret (results_none rfl _ _ _) rfl ?_
  rw [hT.out]
  exact ⟨rfl, S9.to _, k1.set _ _⟩
set_option maxHeartbeats 16000000 in
theorem g11_43 (b : Nat) (st : S8) (w : World) (S : SAt w b st) (hn : st.n ≤ 16777216) (hat : st.h.at_ = 43) :
    Calls Tryz.prog 16 #[.pointer (some ⟨b, 0, none⟩)] w fun e w' => e = .returned (.tuple #[]) ∧ SAt w' b (st.agn 41 3 44) ∧ K2 b st.g w w' := by
  obtain ⟨T, hT⟩ : ∃ T, Hid ((st.to 41).rdS (st.root 3) = T) := ⟨_, rfl⟩
  have hTs : Hid (T.h.seen = st.h.seen) := by unfold Hid; rw [← hT.out, S8.rdS_h]; rfl
  obtain ⟨x, hx⟩ : ∃ x, Hid ((st.to 41).rd (st.root 3) = x) := ⟨_, rfl⟩
  have hF : Hid ((st.agn 41 3 44) = if x = st.h.seen then T.to 44 else T) := by
    have e : (st.to 41).root 3 = st.root 3 := rfl
    unfold Hid S8.agn
    rw [e, hT.out, hx.out]
  by_cases hk : x = st.h.seen
  · skip
    have h1 : (x == st.h.seen) = true := by simp [hk]
    have h2 : x = st.h.seen := hk
    have c13 : w.cell? ⟨b, 13, none⟩ = some (.int .i64 st.h.at_) := S.c_h_At
    rw [hat] at c13
    have hhat : Hid (st.h.at_ = 43) := hat
    clear hat
    obtain ⟨d0, d1, d2, d3, d4⟩ := S.plan
    have HR : Hid (∀ w1, Calls Tryz.prog 30 #[.agg #[.int .i64 st.p, .int .i64 st.s, .int .i64 st.l, .int .i64 st.c, .int .i64 st.k], .int .i64 3] w1 fun e w' => e = .returned (.int .i64 (st.root 3)) ∧ Below w1.heap.size w1 w') := fun w1 => sRoot _ _ _ _ _ _ w1
    go_enter Tryz.func16, Tryz.ntmps16
    go_upto_region 1 with (go_at_call 30; refine (HR.out _).mono ?_; rintro e w1 ⟨rfl, hb⟩; replace S := S.keep hb; have k1 : K2 b st.g w w1 := K2.of_below hb; clear hb d0 d1 d2 d3 d4 c13)
    have c13 : w1.cell? ⟨b, 13, none⟩ = some (.int .i64 43) := by (have hq := S.c_h_At; rw [hhat.out] at hq; exact hq)
    have f13 := S.fz 13
    go_upto_region 12 with fail
    change Code.wp _ _ _ _ (w1.setCell ⟨b, 13, none⟩ (.int .i64 41))
    have S1 : SAt (w1.setCell ⟨b, 13, none⟩ (.int .i64 41)) b (st.to 41) := S.to 41
    replace k1 := k1.set 13 (.int .i64 41)
    generalize w1.setCell ⟨b, 13, none⟩ (.int .i64 41) = w2 at *
    clear c13 f13 S
    replace S1 := S1.drew
    replace k1 := k1.drew
    have c23 : w2.drew.cell? ⟨b, 23, none⟩ = some (.int .u64 st.h.seen) := S1.c_h_Seen
    go_region_held3 (fun w' => w'.cell? ⟨b, 23, none⟩ = some (.int .u64 st.h.seen)) (go_keep)
      (first
      | (go_at_call 31; refine (sl8Read b (st.to 41) (st.root 3) _ S1 hn).mono ?_; rintro e w3 ⟨rfl, S3, k3, hbd⟩; replace k1 := k1.trans k3; rw [hT.out] at S3; rw [hx.out]; clear k3 S1 c23; have c23 : w3.cell? ⟨b, 23, none⟩ = some (.int .u64 st.h.seen) := by (rw [← hTs.out]; exact S3.c_h_Seen)))
    have c13 : w3.cell? ⟨b, 13, none⟩ = some (.int .i64 T.h.at_) := S3.c_h_At
    have f13 := S3.fz 13
    go_wp2
    first | go_end0 | refine bodyPost_ret (results_none rfl _ _ _) rfl ?_
    rw [hF.out, if_pos hk]
    exact ⟨rfl, S3.to _, k1.set _ _⟩
  · skip
    have h1 : (x == st.h.seen) = false := by simp [hk]
    have h2 : ¬ x = st.h.seen := hk
    have c13 : w.cell? ⟨b, 13, none⟩ = some (.int .i64 st.h.at_) := S.c_h_At
    rw [hat] at c13
    have hhat : Hid (st.h.at_ = 43) := hat
    clear hat
    obtain ⟨d0, d1, d2, d3, d4⟩ := S.plan
    have HR : Hid (∀ w1, Calls Tryz.prog 30 #[.agg #[.int .i64 st.p, .int .i64 st.s, .int .i64 st.l, .int .i64 st.c, .int .i64 st.k], .int .i64 3] w1 fun e w' => e = .returned (.int .i64 (st.root 3)) ∧ Below w1.heap.size w1 w') := fun w1 => sRoot _ _ _ _ _ _ w1
    go_enter Tryz.func16, Tryz.ntmps16
    go_upto_region 1 with (go_at_call 30; refine (HR.out _).mono ?_; rintro e w1 ⟨rfl, hb⟩; replace S := S.keep hb; have k1 : K2 b st.g w w1 := K2.of_below hb; clear hb d0 d1 d2 d3 d4 c13)
    have c13 : w1.cell? ⟨b, 13, none⟩ = some (.int .i64 43) := by (have hq := S.c_h_At; rw [hhat.out] at hq; exact hq)
    have f13 := S.fz 13
    go_upto_region 12 with fail
    change Code.wp _ _ _ _ (w1.setCell ⟨b, 13, none⟩ (.int .i64 41))
    have S1 : SAt (w1.setCell ⟨b, 13, none⟩ (.int .i64 41)) b (st.to 41) := S.to 41
    replace k1 := k1.set 13 (.int .i64 41)
    generalize w1.setCell ⟨b, 13, none⟩ (.int .i64 41) = w2 at *
    clear c13 f13 S
    replace S1 := S1.drew
    replace k1 := k1.drew
    have c23 : w2.drew.cell? ⟨b, 23, none⟩ = some (.int .u64 st.h.seen) := S1.c_h_Seen
    go_region_held3 (fun w' => w'.cell? ⟨b, 23, none⟩ = some (.int .u64 st.h.seen)) (go_keep)
      (first
      | (go_at_call 31; refine (sl8Read b (st.to 41) (st.root 3) _ S1 hn).mono ?_; rintro e w3 ⟨rfl, S3, k3, hbd⟩; replace k1 := k1.trans k3; rw [hT.out] at S3; rw [hx.out]; clear k3 S1 c23; have c23 : w3.cell? ⟨b, 23, none⟩ = some (.int .u64 st.h.seen) := by (rw [← hTs.out]; exact S3.c_h_Seen)))
    go_wp2
    first | go_end0 | refine bodyPost_ret (results_none rfl _ _ _) rfl ?_
    rw [hF.out, if_neg hk]
    exact ⟨rfl, S3, k1⟩
def S8.nx11 (st : S8) (x : Int) : S8 := { (st.rdS (st.blk 1)) with h := { (st.rdS (st.blk 1)).h with next := uI x } }
def S8.first11 (st : S8) : S8 := if uI (st.rd (st.blk 1)) = 0 then (st.nx11 (st.rd (st.blk 1))).reply 3 0 else (st.nx11 (st.rd (st.blk 1))).to 45
set_option maxHeartbeats 16000000 in
theorem g11_44 (b : Nat) (st : S8) (w : World) (S : SAt w b st) (hn : st.n ≤ 16777216) (hat : st.h.at_ = 44) :
    Calls Tryz.prog 16 #[.pointer (some ⟨b, 0, none⟩)] w fun e w' => e = .returned (.tuple #[]) ∧ SAt w' b st.first11 ∧ K2 b st.g w w' := by
  obtain ⟨T, hT⟩ : ∃ T, Hid (st.rdS (st.blk 1) = T) := ⟨_, rfl⟩
  obtain ⟨x, hx⟩ : ∃ x, Hid (st.rd (st.blk 1) = x) := ⟨_, rfl⟩
  have hTg : Hid (T.g = st.g) := by unfold Hid; rw [← hT.out, S8.rdS_g]
  have hF : Hid (st.first11 = if uI x = 0 then S8.reply { T with h := { T.h with next := uI x } } 3 0 else S8.to { T with h := { T.h with next := uI x } } 45) := by unfold Hid S8.first11 S8.nx11; rw [hT.out, hx.out]
  have c13 : w.cell? ⟨b, 13, none⟩ = some (.int .i64 st.h.at_) := S.c_h_At
  rw [hat] at c13
  have hhat : Hid (st.h.at_ = 44) := hat
  clear hat
  obtain ⟨d0, d1, d2, d3, d4⟩ := S.plan
  have HR : Hid (∀ w1, Calls Tryz.prog 30 #[.agg #[.int .i64 st.p, .int .i64 st.s, .int .i64 st.l, .int .i64 st.c, .int .i64 st.k], .int .i64 3] w1 fun e w' => e = .returned (.int .i64 (st.root 3)) ∧ Below w1.heap.size w1 w') := fun w1 => sRoot _ _ _ _ _ _ w1
  go_enter Tryz.func16, Tryz.ntmps16
  go_upto_region 1 with (go_at_call 30; refine (HR.out _).mono ?_; rintro e w1 ⟨rfl, hb⟩; replace S := S.keep hb; have k1 : K2 b st.g w w1 := K2.of_below hb; clear hb d0 d1 d2 d3 d4 c13)
  have c13 : w1.cell? ⟨b, 13, none⟩ = some (.int .i64 44) := by (have hq := S.c_h_At; rw [hhat.out] at hq; exact hq)
  have f13 := S.fz 13
  go_upto_region 15 with fail
  go_upto_region 16 with (first
    | (go_at_call 36; refine (sl8Block b st _ _ S).mono ?_; rintro e w2 ⟨rfl, hb⟩; replace S := S.keep hb; replace k1 := k1.trans (K2.of_below hb); clear hb)
    | (go_at_call 31; refine (sl8Read b st (st.blk 1) _ S hn).mono ?_; rintro e w3 ⟨rfl, S3, k3, hbd⟩; replace k1 := k1.trans k3; rw [hT.out] at S3; rw [hx.out] at hbd; rw [hx.out]; clear k3 c13 f13)
    | (go_at_call 32; refine (sIndex _ hbd.1 hbd.2 _).mono ?_; rintro e w4 ⟨rfl, hb⟩; replace S3 := S3.keep hb; replace k1 := k1.trans (K2.of_below hb); clear hb; have c30 : w4.cell? ⟨b, 30, none⟩ = some (.int .i64 T.h.next) := S3.c_h_Next; have f30 := S3.fz 30))
  change Code.wp _ _ _ _ (w4.setCell ⟨b, 30, none⟩ (.int .i64 (uI x)))
  have S4 : SAt (w4.setCell ⟨b, 30, none⟩ (.int .i64 (uI x))) b { T with h := { T.h with next := uI x } } := S3.put (st' := { T with h := { T.h with next := uI x } }) 30 _ rfl ⟨rfl, rfl, rfl, rfl, rfl, rfl⟩
  replace k1 := k1.set 30 (.int .i64 (uI x))
  generalize w4.setCell ⟨b, 30, none⟩ (.int .i64 (uI x)) = w6 at *
  clear c30 f30 S3
  by_cases h0 : uI x = 0
  · have c30 : w6.cell? ⟨b, 30, none⟩ = some (.int .i64 0) := by (rw [← h0]; exact S4.c_h_Next)
    go_wp2_with (go_at_call 37; refine (sl8Reply b _ 3 0 _ S4).mono ?_; rintro e w7 ⟨rfl, S6, k6⟩)
    first | go_end0 | refine bodyPost_ret (results_none rfl _ _ _) rfl ?_
    rw [hF.out, if_pos h0]
    exact ⟨rfl, S6, k1.trans (hTg.out ▸ k6)⟩
  · have h0b : (uI x == 0) = false := by simp [h0]
    have c30 : w6.cell? ⟨b, 30, none⟩ = some (.int .i64 (uI x)) := S4.c_h_Next
    have c13 : w6.cell? ⟨b, 13, none⟩ = some (.int .i64 T.h.at_) := S4.c_h_At
    have f13 := S4.fz 13
    go_wp2
    first | go_end0 | refine bodyPost_ret (results_none rfl _ _ _) rfl ?_
    rw [hF.out, if_neg h0]
    exact ⟨rfl, S4.to _, k1.set _ _⟩
set_option maxHeartbeats 16000000 in
theorem g11_45 (b : Nat) (st : S8) (w : World) (S : SAt w b st) (hn : st.n ≤ 16777216) (hat : st.h.at_ = 45) :
    Calls Tryz.prog 16 #[.pointer (some ⟨b, 0, none⟩)] w fun e w' => e = .returned (.tuple #[]) ∧ SAt w' b (((st.wrd 0 0 st.h.next 0).wr (st.slot 6) (wv 0 0 st.h.next 0)).to 46) ∧ K2 b st.g w w' := by
  obtain ⟨T, hT⟩ : ∃ T, Hid (((st.wrd 0 0 st.h.next 0).wr (st.slot 6) (wv 0 0 st.h.next 0)) = T) := ⟨_, rfl⟩
  have c13 : w.cell? ⟨b, 13, none⟩ = some (.int .i64 st.h.at_) := S.c_h_At
  rw [hat] at c13
  have hhat : Hid (st.h.at_ = 45) := hat
  clear hat
  obtain ⟨d0, d1, d2, d3, d4⟩ := S.plan
  have HR : Hid (∀ w1, Calls Tryz.prog 30 #[.agg #[.int .i64 st.p, .int .i64 st.s, .int .i64 st.l, .int .i64 st.c, .int .i64 st.k], .int .i64 3] w1 fun e w' => e = .returned (.int .i64 (st.root 3)) ∧ Below w1.heap.size w1 w') := fun w1 => sRoot _ _ _ _ _ _ w1
  go_enter Tryz.func16, Tryz.ntmps16
  go_upto_region 1 with (go_at_call 30; refine (HR.out _).mono ?_; rintro e w1 ⟨rfl, hb⟩; replace S := S.keep hb; have k1 : K2 b st.g w w1 := K2.of_below hb; clear hb d0 d1 d2 d3 d4 c13)
  have c13 : w1.cell? ⟨b, 13, none⟩ = some (.int .i64 45) := by (have hq := S.c_h_At; rw [hhat.out] at hq; exact hq)
  have f13 := S.fz 13
  go_upto_region 20 with fail
  have S1 := S.drew
  replace k1 := k1.drew
  have c30 : w1.drew.cell? ⟨b, 30, none⟩ = some (.int .i64 st.h.next) := S1.c_h_Next
  clear c13 f13 S
  go_region_held3 (fun w' => w'.cell? ⟨b, 30, none⟩ = some (.int .i64 st.h.next)) (go_keep)
    (first
    | (go_at_call 34; refine (sl8Slot b st 6 _ S1).mono ?_; rintro e w7 ⟨rfl, hb⟩; replace S1 := S1.keep hb; replace k1 := k1.trans (K2.of_below hb); clear hb; clear c30; have c30 : w7.cell? ⟨b, 30, none⟩ = some (.int .i64 st.h.next) := (by have hq := S1.c_h_Next; exact hq))
    | (go_at_call 35; refine (sl8Word b st _ _ _ _ _ S1).mono ?_; rintro e w8 ⟨rfl, S2, k2⟩; replace k1 := k1.trans k2; clear k2 S1; clear c30; have c30 : w8.cell? ⟨b, 30, none⟩ = some (.int .i64 st.h.next) := (by have hq := S2.c_h_Next; rw [S8.wrd_h] at hq; exact hq))
    | (go_at_call 33; refine (sl8Write b _ _ _ _ S2 (by rw [S8.wrd_n]; exact hn) (wv_bd _ _ _ _)).mono ?_; rintro e w9 ⟨rfl, S9, k2⟩; rw [S8.wrd_g] at k2; replace k1 := k1.trans k2; clear k2 S2; clear c30; have c30 : w9.cell? ⟨b, 30, none⟩ = some (.int .i64 st.h.next) := (by have hq := S9.c_h_Next; rw [S8.wr_h, S8.wrd_h] at hq; exact hq)))
  rw [hT.out] at S9
  have c13 : w9.cell? ⟨b, 13, none⟩ = some (.int .i64 T.h.at_) := S9.c_h_At
  have f13 := S9.fz 13
  go_wp2
  first | go_end0 | refine bodyPost_ret (results_none rfl _ _ _) rfl ?_
  rw [hT.out]
  exact ⟨rfl, S9.to _, k1.set _ _⟩
def S8.still11 (T : S8) : S8 := { T with h := { T.h with from_ := T.h.next, at_ := 47 } }
def S8.agn46 (st : S8) : S8 := if (st.to 41).rd ((st.to 41).root 3) = st.h.seen then ((st.to 41).rdS ((st.to 41).root 3)).still11 else (st.to 41).rdS ((st.to 41).root 3)
set_option maxHeartbeats 16000000 in
theorem g11_46 (b : Nat) (st : S8) (w : World) (S : SAt w b st) (hn : st.n ≤ 16777216) (hat : st.h.at_ = 46) :
    Calls Tryz.prog 16 #[.pointer (some ⟨b, 0, none⟩)] w fun e w' => e = .returned (.tuple #[]) ∧ SAt w' b st.agn46 ∧ K2 b st.g w w' := by
  obtain ⟨T, hT⟩ : ∃ T, Hid ((st.to 41).rdS (st.root 3) = T) := ⟨_, rfl⟩
  have hTs : Hid (T.h.seen = st.h.seen) := by unfold Hid; rw [← hT.out, S8.rdS_h]; rfl
  obtain ⟨x, hx⟩ : ∃ x, Hid ((st.to 41).rd (st.root 3) = x) := ⟨_, rfl⟩
  have hF : Hid (st.agn46 = if x = st.h.seen then S8.still11 T else T) := by
    have e : (st.to 41).root 3 = st.root 3 := rfl
    unfold Hid S8.agn46
    rw [e, hT.out, hx.out]
  by_cases hk : x = st.h.seen
  · skip
    have h1 : (x == st.h.seen) = true := by simp [hk]
    have h2 : x = st.h.seen := hk
    have c13 : w.cell? ⟨b, 13, none⟩ = some (.int .i64 st.h.at_) := S.c_h_At
    rw [hat] at c13
    have hhat : Hid (st.h.at_ = 46) := hat
    clear hat
    obtain ⟨d0, d1, d2, d3, d4⟩ := S.plan
    have HR : Hid (∀ w1, Calls Tryz.prog 30 #[.agg #[.int .i64 st.p, .int .i64 st.s, .int .i64 st.l, .int .i64 st.c, .int .i64 st.k], .int .i64 3] w1 fun e w' => e = .returned (.int .i64 (st.root 3)) ∧ Below w1.heap.size w1 w') := fun w1 => sRoot _ _ _ _ _ _ w1
    go_enter Tryz.func16, Tryz.ntmps16
    go_upto_region 1 with (go_at_call 30; refine (HR.out _).mono ?_; rintro e w1 ⟨rfl, hb⟩; replace S := S.keep hb; have k1 : K2 b st.g w w1 := K2.of_below hb; clear hb d0 d1 d2 d3 d4 c13)
    have c13 : w1.cell? ⟨b, 13, none⟩ = some (.int .i64 46) := by (have hq := S.c_h_At; rw [hhat.out] at hq; exact hq)
    have f13 := S.fz 13
    go_upto_region 24 with fail
    change Code.wp _ _ _ _ (w1.setCell ⟨b, 13, none⟩ (.int .i64 41))
    have S1 : SAt (w1.setCell ⟨b, 13, none⟩ (.int .i64 41)) b (st.to 41) := S.to 41
    replace k1 := k1.set 13 (.int .i64 41)
    generalize w1.setCell ⟨b, 13, none⟩ (.int .i64 41) = w2 at *
    clear c13 f13 S
    replace S1 := S1.drew
    replace k1 := k1.drew
    have c23 : w2.drew.cell? ⟨b, 23, none⟩ = some (.int .u64 st.h.seen) := S1.c_h_Seen
    go_region_held3 (fun w' => w'.cell? ⟨b, 23, none⟩ = some (.int .u64 st.h.seen)) (go_keep)
      (first
      | (go_at_call 31; refine (sl8Read b (st.to 41) (st.root 3) _ S1 hn).mono ?_; rintro e w3 ⟨rfl, S3, k3, hbd⟩; replace k1 := k1.trans k3; rw [hT.out] at S3; rw [hx.out]; clear k3 S1 c23; have c23 : w3.cell? ⟨b, 23, none⟩ = some (.int .u64 st.h.seen) := by (rw [← hTs.out]; exact S3.c_h_Seen)))
    have c13 : w3.cell? ⟨b, 13, none⟩ = some (.int .i64 T.h.at_) := S3.c_h_At
    have f13 := S3.fz 13
    have c30 : w3.cell? ⟨b, 30, none⟩ = some (.int .i64 T.h.next) := S3.c_h_Next
    have c29 : w3.cell? ⟨b, 29, none⟩ = some (.int .i64 T.h.from_) := S3.c_h_From
    have f29 := S3.fz 29
    go_wp2
    first | go_end0 | refine bodyPost_ret (results_none rfl _ _ _) rfl ?_
    rw [hF.out, if_pos hk]
    exact ⟨rfl, (S3.put (st' := { T with h := { T.h with from_ := T.h.next } }) 29 _ rfl ⟨rfl, rfl, rfl, rfl, rfl, rfl⟩).put 13 _ rfl ⟨rfl, rfl, rfl, rfl, rfl, rfl⟩, (k1.set _ _).set _ _⟩
  · skip
    have h1 : (x == st.h.seen) = false := by simp [hk]
    have h2 : ¬ x = st.h.seen := hk
    have c13 : w.cell? ⟨b, 13, none⟩ = some (.int .i64 st.h.at_) := S.c_h_At
    rw [hat] at c13
    have hhat : Hid (st.h.at_ = 46) := hat
    clear hat
    obtain ⟨d0, d1, d2, d3, d4⟩ := S.plan
    have HR : Hid (∀ w1, Calls Tryz.prog 30 #[.agg #[.int .i64 st.p, .int .i64 st.s, .int .i64 st.l, .int .i64 st.c, .int .i64 st.k], .int .i64 3] w1 fun e w' => e = .returned (.int .i64 (st.root 3)) ∧ Below w1.heap.size w1 w') := fun w1 => sRoot _ _ _ _ _ _ w1
    go_enter Tryz.func16, Tryz.ntmps16
    go_upto_region 1 with (go_at_call 30; refine (HR.out _).mono ?_; rintro e w1 ⟨rfl, hb⟩; replace S := S.keep hb; have k1 : K2 b st.g w w1 := K2.of_below hb; clear hb d0 d1 d2 d3 d4 c13)
    have c13 : w1.cell? ⟨b, 13, none⟩ = some (.int .i64 46) := by (have hq := S.c_h_At; rw [hhat.out] at hq; exact hq)
    have f13 := S.fz 13
    go_upto_region 24 with fail
    change Code.wp _ _ _ _ (w1.setCell ⟨b, 13, none⟩ (.int .i64 41))
    have S1 : SAt (w1.setCell ⟨b, 13, none⟩ (.int .i64 41)) b (st.to 41) := S.to 41
    replace k1 := k1.set 13 (.int .i64 41)
    generalize w1.setCell ⟨b, 13, none⟩ (.int .i64 41) = w2 at *
    clear c13 f13 S
    replace S1 := S1.drew
    replace k1 := k1.drew
    have c23 : w2.drew.cell? ⟨b, 23, none⟩ = some (.int .u64 st.h.seen) := S1.c_h_Seen
    go_region_held3 (fun w' => w'.cell? ⟨b, 23, none⟩ = some (.int .u64 st.h.seen)) (go_keep)
      (first
      | (go_at_call 31; refine (sl8Read b (st.to 41) (st.root 3) _ S1 hn).mono ?_; rintro e w3 ⟨rfl, S3, k3, hbd⟩; replace k1 := k1.trans k3; rw [hT.out] at S3; rw [hx.out]; clear k3 S1 c23; have c23 : w3.cell? ⟨b, 23, none⟩ = some (.int .u64 st.h.seen) := by (rw [← hTs.out]; exact S3.c_h_Seen)))
    go_wp2
    first | go_end0 | refine bodyPost_ret (results_none rfl _ _ _) rfl ?_
    rw [hF.out, if_neg hk]
    exact ⟨rfl, S3, k1⟩
def S8.lag11 (st : S8) : S8 := if uI (st.rd (st.root 4)) = st.h.block then { (st.rdS (st.root 4)) with h := { (st.rdS (st.root 4)).h with put := st.rd (st.root 4), at_ := 48 } } else (st.rdS (st.root 4)).to 29
set_option maxHeartbeats 16000000 in
theorem g11_47 (b : Nat) (st : S8) (w : World) (S : SAt w b st) (hn : st.n ≤ 16777216) (hat : st.h.at_ = 47) :
    Calls Tryz.prog 16 #[.pointer (some ⟨b, 0, none⟩)] w fun e w' => e = .returned (.tuple #[]) ∧ SAt w' b st.lag11 ∧ K2 b st.g w w' := by
  obtain ⟨T, hT⟩ : ∃ T, Hid (st.rdS (st.root 4) = T) := ⟨_, rfl⟩
  obtain ⟨x, hx⟩ : ∃ x, Hid (st.rd (st.root 4) = x) := ⟨_, rfl⟩
  have hTb : Hid (T.h.block = st.h.block) := by unfold Hid; rw [← hT.out, S8.rdS_h]
  have hF : Hid (st.lag11 = if uI x = st.h.block then { T with h := { T.h with put := x, at_ := 48 } } else T.to 29) := by unfold Hid S8.lag11; rw [hT.out, hx.out]
  by_cases hk : uI x = st.h.block
  · skip
    have h1 : (uI x == st.h.block) = true := by simp [hk]
    have h2 : uI x = st.h.block := hk
    have c13 : w.cell? ⟨b, 13, none⟩ = some (.int .i64 st.h.at_) := S.c_h_At
    rw [hat] at c13
    have hhat : Hid (st.h.at_ = 47) := hat
    clear hat
    obtain ⟨d0, d1, d2, d3, d4⟩ := S.plan
    have HR : Hid (∀ w1, Calls Tryz.prog 30 #[.agg #[.int .i64 st.p, .int .i64 st.s, .int .i64 st.l, .int .i64 st.c, .int .i64 st.k], .int .i64 3] w1 fun e w' => e = .returned (.int .i64 (st.root 3)) ∧ Below w1.heap.size w1 w') := fun w1 => sRoot _ _ _ _ _ _ w1
    go_enter Tryz.func16, Tryz.ntmps16
    go_upto_region 1 with (go_at_call 30; refine (HR.out _).mono ?_; rintro e w1 ⟨rfl, hb⟩; replace S := S.keep hb; have k1 : K2 b st.g w w1 := K2.of_below hb; clear hb d0 d1 d2 d3 d4 c13)
    have c13 : w1.cell? ⟨b, 13, none⟩ = some (.int .i64 47) := by (have hq := S.c_h_At; rw [hhat.out] at hq; exact hq)
    have f13 := S.fz 13
    obtain ⟨d0, d1, d2, d3, d4⟩ := S.plan
    go_upto_region 28 with fail
    go_upto_region 30 with (first
      | (go_at_call 30; refine (sRoot _ _ _ _ _ _ _).mono ?_; rintro e w2 ⟨rfl, hb⟩; replace S := S.keep hb; replace k1 := k1.trans (K2.of_below hb); clear hb d0 d1 d2 d3 d4)
      | (go_at_call 31; refine (sl8Read b st (st.root 4) _ S hn).mono ?_; rintro e w3 ⟨rfl, S3, k3, hbd⟩; replace k1 := k1.trans k3; rw [hT.out] at S3; rw [hx.out] at hbd; rw [hx.out]; clear k3 c13 f13; have c13 : w3.cell? ⟨b, 13, none⟩ = some (.int .i64 T.h.at_) := S3.c_h_At; have f13 := S3.fz 13))
    change Code.wp _ _ _ _ (w3.setCell ⟨b, 13, none⟩ (.int .i64 29))
    have S4 : SAt (w3.setCell ⟨b, 13, none⟩ (.int .i64 29)) b (T.to 29) := S3.to 29
    replace k1 := k1.set 13 (.int .i64 29)
    generalize w3.setCell ⟨b, 13, none⟩ (.int .i64 29) = w4 at *
    clear c13 f13 S3 S
    replace S4 := S4.drew
    replace k1 := k1.drew
    have c28 : w4.drew.cell? ⟨b, 28, none⟩ = some (.int .i64 st.h.block) := by (rw [← hTb.out]; exact S4.c_h_Block)
    go_region_held3 (fun w' => w'.cell? ⟨b, 28, none⟩ = some (.int .i64 st.h.block)) (go_keep)
      (first | (go_at_call 32; refine (sIndex _ hbd.1 hbd.2 _).mono ?_; rintro e w5 ⟨rfl, hb⟩; replace S4 := S4.keep hb; replace k1 := k1.trans (K2.of_below hb); clear hb c28; have c28 : w5.cell? ⟨b, 28, none⟩ = some (.int .i64 st.h.block) := by (rw [← hTb.out]; exact S4.c_h_Block)))
    have c13 : w5.cell? ⟨b, 13, none⟩ = some (.int .i64 29) := S4.c_h_At
    have f13 := S4.fz 13
    have c24 : w5.cell? ⟨b, 24, none⟩ = some (.int .u64 T.h.put) := S4.c_h_Put
    have f24 := S4.fz 24
    go_wp2
    first | go_end0 | refine bodyPost_ret (results_none rfl _ _ _) rfl ?_
    rw [hF.out, if_pos hk]
    exact ⟨rfl, (S4.put (st' := { T with h := { T.h with at_ := 29, put := x } }) 24 _ rfl ⟨rfl, rfl, rfl, rfl, rfl, rfl⟩).put 13 _ rfl ⟨rfl, rfl, rfl, rfl, rfl, rfl⟩, (k1.set _ _).set _ _⟩
  · skip
    have h1 : (uI x == st.h.block) = false := by simp [hk]
    have h2 : ¬ uI x = st.h.block := hk
    have c13 : w.cell? ⟨b, 13, none⟩ = some (.int .i64 st.h.at_) := S.c_h_At
    rw [hat] at c13
    have hhat : Hid (st.h.at_ = 47) := hat
    clear hat
    obtain ⟨d0, d1, d2, d3, d4⟩ := S.plan
    have HR : Hid (∀ w1, Calls Tryz.prog 30 #[.agg #[.int .i64 st.p, .int .i64 st.s, .int .i64 st.l, .int .i64 st.c, .int .i64 st.k], .int .i64 3] w1 fun e w' => e = .returned (.int .i64 (st.root 3)) ∧ Below w1.heap.size w1 w') := fun w1 => sRoot _ _ _ _ _ _ w1
    go_enter Tryz.func16, Tryz.ntmps16
    go_upto_region 1 with (go_at_call 30; refine (HR.out _).mono ?_; rintro e w1 ⟨rfl, hb⟩; replace S := S.keep hb; have k1 : K2 b st.g w w1 := K2.of_below hb; clear hb d0 d1 d2 d3 d4 c13)
    have c13 : w1.cell? ⟨b, 13, none⟩ = some (.int .i64 47) := by (have hq := S.c_h_At; rw [hhat.out] at hq; exact hq)
    have f13 := S.fz 13
    obtain ⟨d0, d1, d2, d3, d4⟩ := S.plan
    go_upto_region 28 with fail
    go_upto_region 30 with (first
      | (go_at_call 30; refine (sRoot _ _ _ _ _ _ _).mono ?_; rintro e w2 ⟨rfl, hb⟩; replace S := S.keep hb; replace k1 := k1.trans (K2.of_below hb); clear hb d0 d1 d2 d3 d4)
      | (go_at_call 31; refine (sl8Read b st (st.root 4) _ S hn).mono ?_; rintro e w3 ⟨rfl, S3, k3, hbd⟩; replace k1 := k1.trans k3; rw [hT.out] at S3; rw [hx.out] at hbd; rw [hx.out]; clear k3 c13 f13; have c13 : w3.cell? ⟨b, 13, none⟩ = some (.int .i64 T.h.at_) := S3.c_h_At; have f13 := S3.fz 13))
    change Code.wp _ _ _ _ (w3.setCell ⟨b, 13, none⟩ (.int .i64 29))
    have S4 : SAt (w3.setCell ⟨b, 13, none⟩ (.int .i64 29)) b (T.to 29) := S3.to 29
    replace k1 := k1.set 13 (.int .i64 29)
    generalize w3.setCell ⟨b, 13, none⟩ (.int .i64 29) = w4 at *
    clear c13 f13 S3 S
    replace S4 := S4.drew
    replace k1 := k1.drew
    have c28 : w4.drew.cell? ⟨b, 28, none⟩ = some (.int .i64 st.h.block) := by (rw [← hTb.out]; exact S4.c_h_Block)
    go_region_held3 (fun w' => w'.cell? ⟨b, 28, none⟩ = some (.int .i64 st.h.block)) (go_keep)
      (first | (go_at_call 32; refine (sIndex _ hbd.1 hbd.2 _).mono ?_; rintro e w5 ⟨rfl, hb⟩; replace S4 := S4.keep hb; replace k1 := k1.trans (K2.of_below hb); clear hb c28; have c28 : w5.cell? ⟨b, 28, none⟩ = some (.int .i64 st.h.block) := by (rw [← hTb.out]; exact S4.c_h_Block)))
    go_wp2
    first | go_end0 | refine bodyPost_ret (results_none rfl _ _ _) rfl ?_
    rw [hF.out, if_neg hk]
    exact ⟨rfl, S4, k1⟩
set_option maxHeartbeats 16000000 in
theorem g11_48 (b : Nat) (st : S8) (w : World) (S : SAt w b st) (hn : st.n ≤ 16777216) (hp : 0 ≤ st.h.put ∧ st.h.put ≤ 18446744073709551615) (hat : st.h.at_ = 48) :
    Calls Tryz.prog 16 #[.pointer (some ⟨b, 0, none⟩)] w fun e w' => e = .returned (.tuple #[]) ∧ SAt w' b ((st.pull st.h.put st.h.next).to 29) ∧ K2 b st.g w w' := by
  obtain ⟨T, hT⟩ : ∃ T, Hid (st.pull st.h.put st.h.next = T) := ⟨_, rfl⟩
  have c13 : w.cell? ⟨b, 13, none⟩ = some (.int .i64 st.h.at_) := S.c_h_At
  rw [hat] at c13
  have hhat : Hid (st.h.at_ = 48) := hat
  clear hat
  obtain ⟨d0, d1, d2, d3, d4⟩ := S.plan
  have HR : Hid (∀ w1, Calls Tryz.prog 30 #[.agg #[.int .i64 st.p, .int .i64 st.s, .int .i64 st.l, .int .i64 st.c, .int .i64 st.k], .int .i64 3] w1 fun e w' => e = .returned (.int .i64 (st.root 3)) ∧ Below w1.heap.size w1 w') := fun w1 => sRoot _ _ _ _ _ _ w1
  go_enter Tryz.func16, Tryz.ntmps16
  go_upto_region 1 with (go_at_call 30; refine (HR.out _).mono ?_; rintro e w1 ⟨rfl, hb⟩; replace S := S.keep hb; have k1 : K2 b st.g w w1 := K2.of_below hb; clear hb d0 d1 d2 d3 d4 c13)
  have c13 : w1.cell? ⟨b, 13, none⟩ = some (.int .i64 48) := by (have hq := S.c_h_At; rw [hhat.out] at hq; exact hq)
  have f13 := S.fz 13
  go_upto_region 34 with fail
  have S1 := S.drew
  replace k1 := k1.drew
  have c24 : w1.drew.cell? ⟨b, 24, none⟩ = some (.int .u64 st.h.put) := S1.c_h_Put
  have c30 : w1.drew.cell? ⟨b, 30, none⟩ = some (.int .i64 st.h.next) := S1.c_h_Next
  clear c13 f13 S
  go_region_held3 (fun w' => w'.cell? ⟨b, 24, none⟩ = some (.int .u64 st.h.put) ∧ w'.cell? ⟨b, 30, none⟩ = some (.int .i64 st.h.next)) (go_keep)
    (first | (go_at_call 38; refine (sPull b st _ S1 hn st.h.put st.h.next hp).mono ?_; rintro e w9 ⟨rfl, S9, k2⟩; rw [hT.out] at S9; replace k1 := k1.trans k2; clear k2 S1; clear c24 c30; have c24 : w9.cell? ⟨b, 24, none⟩ = some (.int .u64 st.h.put) := (by have hq := S9.c_h_Put; rw [← hT.out, pull_h] at hq; exact hq); have c30 : w9.cell? ⟨b, 30, none⟩ = some (.int .i64 st.h.next) := (by have hq := S9.c_h_Next; rw [← hT.out, pull_h] at hq; exact hq)))
  have c13 : w9.cell? ⟨b, 13, none⟩ = some (.int .i64 T.h.at_) := S9.c_h_At
  have f13 := S9.fz 13
  go_wp2
  first | go_end0 | refine bodyPost_ret (results_none rfl _ _ _) rfl ?_
  rw [hT.out]
  exact ⟨rfl, S9.to _, k1.set _ _⟩
end Go.Proofs.YtgmoemjiffglbaaGreat
