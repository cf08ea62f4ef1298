/-
  The specification's pool: whose a block is; to chain one.
  The specification's pool: to chain a block; the next thing.
  The pool: the specification's step and the program's come to the same.
  What the specification's PoolStep answers.
  What the program's PoolStep answers, in the same form.
-/
import Derived.Test.YtdebjfgflldpjaaGreatMo
namespace Go.Proofs.YtdebjfgflldpjaaGreat
open Go.RowKit
set_option maxRecDepth 100000
set_option linter.unusedVariables false
set_option linter.unusedSimpArgs false
def mn0 : Oper := { dst := some 3, op := Op.move (Operand.tmp 0), type := 45, pos := "l09_pool.go:30", after := #[], guard := none }
def mn1 : Oper := { dst := some 4, op := Op.move (Operand.tmp 0), type := 45, pos := "l09_pool.go:30", after := #[], guard := none }
def mn2 : Oper := { dst := some 5, op := Op.nilCheck (Operand.tmp 4), type := 0, pos := "l09_pool.go:30", after := #[{ on := 1, ground := Ground.data }], guard := none }
def mn3 : Oper := { dst := some 6, op := Op.fieldAddr 69 (Operand.tmp 5) 0, type := 0, pos := "l09_pool.go:30", after := #[{ on := 2, ground := Ground.data }], guard := none }
def mn4 : Oper := { dst := some 7, op := Op.load 35 (Operand.tmp 6), type := 35, pos := "l09_pool.go:30", after := #[{ on := 3, ground := Ground.data }], guard := none }
def mn5 : Oper := { dst := some 8, op := Op.move (Operand.tmp 0), type := 45, pos := "l09_pool.go:30", after := #[], guard := none }
def mn6 : Oper := { dst := some 9, op := Op.nilCheck (Operand.tmp 8), type := 0, pos := "l09_pool.go:30", after := #[{ on := 5, ground := Ground.data }], guard := none }
def mn7 : Oper := { dst := some 10, op := Op.fieldAddr 69 (Operand.tmp 9) 4, type := 0, pos := "l09_pool.go:30", after := #[{ on := 6, ground := Ground.data }], guard := none }
def mn8 : Oper := { dst := some 11, op := Op.fieldAddr 28 (Operand.tmp 10) 7, type := 0, pos := "l09_pool.go:30", after := #[{ on := 7, ground := Ground.data }], guard := none }
def mn9 : Oper := { dst := some 12, op := Op.load 2 (Operand.tmp 11), type := 2, pos := "l09_pool.go:30", after := #[{ on := 8, ground := Ground.data }], guard := none }
def mn10 : Oper := { dst := some 13, op := Op.call { callee := Callee.value (Operand.func 72), args := #[Operand.tmp 7, Operand.tmp 12, Operand.const (Value.int IntKind.i64 0)], argTypes := #[35, 2, 2] }, type := 2, pos := "l09_pool.go:30", after := #[{ on := 4, ground := Ground.data }, { on := 9, ground := Ground.data }], guard := none }
def mn11 : Oper := { dst := some 14, op := Op.call { callee := Callee.value (Operand.func 35), args := #[Operand.tmp 3, Operand.tmp 13], argTypes := #[45, 2] }, type := 25, pos := "l09_pool.go:30", after := #[{ on := 0, ground := Ground.data }, { on := 10, ground := Ground.data }, { on := 10, ground := Ground.chain }], guard := none }
def mn12 : Oper := { dst := some 15, op := Op.call { callee := Callee.value (Operand.func 84), args := #[Operand.tmp 14], argTypes := #[25] }, type := 85, pos := "l09_pool.go:30", after := #[{ on := 11, ground := Ground.data }, { on := 11, ground := Ground.chain }], guard := none }
def mn13 : Oper := { dst := some 2, op := Op.alloc 85, type := 0, pos := "l09_pool.go:30", after := #[], guard := none }
def mn14 : Oper := { dst := none, op := Op.store 85 (Operand.tmp 2) (Operand.tmp 15), type := 0, pos := "l09_pool.go:30", after := #[{ on := 13, ground := Ground.data }, { on := 12, ground := Ground.data }, { on := 12, ground := Ground.chain }, { on := 0, ground := Ground.phase }, { on := 1, ground := Ground.phase }, { on := 2, ground := Ground.phase }, { on := 3, ground := Ground.phase }, { on := 4, ground := Ground.phase }, { on := 5, ground := Ground.phase }, { on := 6, ground := Ground.phase }, { on := 7, ground := Ground.phase }, { on := 8, ground := Ground.phase }, { on := 9, ground := Ground.phase }, { on := 10, ground := Ground.phase }, { on := 11, ground := Ground.phase }, { on := 12, ground := Ground.phase }, { on := 13, ground := Ground.phase }], guard := none }
theorem any_at9 {P : Program} {md : Region.Mode} {ops : Array Oper} {Q : Exit → Act → World → Prop} {S : World → Prop} {fuel : Nat} {listed : Array Bool} {a : Act} {W : World} (R : World → Prop) (r : R W) (h : ∀ w, R w → wpAnyH P md ops Q S fuel listed a w) : wpAnyH P md ops Q S fuel listed a W := h W r
theorem At.K2 {w w' : World} {q b g : Nat} {cs : Array Value} {t : TypeId} (h : At w q cs t) (k : K2 b g w w') (hb : q ≠ b) (hg : q ≠ g) : At w' q cs t := ⟨(k.block q h.lt hb hg).trans h.is⟩
theorem wp_storeW {o : Oper} {a : Act} {w : World} {K : Act → World → Prop} {Q : Exit → Act → World → Prop} (x y : Operand) (ho : o.op = .store 85 x y) (b : Nat) (vs : List Value) (hl : vs.length = 4) (h1 : ∀ v ∈ vs, v.oneCell' = true) (hx : a.eval x = .pointer (some ⟨b, 0, none⟩)) (hy : a.eval y = .agg vs.toArray) {cs : Array Value} {t : TypeId} (Z : At w b cs t) (hs : cs.size = 4)
    (h : ∀ w', At w' b vs.toArray t → Kept b w w' → K (a.put o.dst undef) w') : o.wp Tryz.prog a w K Q :=
  wp_store_mid 85 x y ho b 0 vs.toArray hx hy (by rw [List.size_toArray, hl]; exact Z.there 0 4 (by omega)) (by rw [List.size_toArray, hl]; kernel_rfl) (all_oneCell_toArray h1) (h _ (Z.fillAll (by rw [hs, hl])) (kept_setCells b _ 0 w))
theorem SAt.past {w0 v v' : World} {b q : Nat} {st T : S8} (S : SAt w0 b st) (S3 : SAt v b T) (kk : Kept q v v') (hq : w0.heap.size ≤ q) (k : K2 b st.g w0 v) (eg : T.g = st.g) (era : T.ra = st.ra) (er : T.runs = st.runs) : SAt v' b T := by
  have h1 := S.is.lt
  have h2 := S.ws.lt
  refine ⟨S3.is.kept kk (by omega), S3.ws.kept kk (by rw [eg]; omega), S3.bg, ?_⟩
  have k' := k.afterK kk hq
  rw [eg, era, er]
  exact S.run.of_block k'.size k'.block
/-- Some step of this hand and plan lies there. -/
def MS (st : S8) (b : Nat) (x : World) : Prop := ∃ s2 : S8, SAt x b s2 ∧ s2.p = st.p ∧ s2.s = st.s ∧ s2.l = st.l ∧ s2.c = st.c ∧ s2.k = st.k ∧ s2.h = st.h
def S8.mineAt9 (st : S8) : Int := vBlock st.p st.s st.l st.c st.k st.h.a 0
def S8.mineT (T : S8) (x f : Int) : S8 := if hsay9 1 f x = true then { T with h := { T.h with block := T.h.a, at_ := if T.h.code = 3 then 17 else if T.h.code = 4 then 15 else 16 } } else T.reply 7 0
def S8.mine9 (st : S8) : S8 := (st.rdS st.mineAt9).mineT (st.rd st.mineAt9) st.h.for_
set_option maxHeartbeats 32000000 in
theorem sMine9 (b : Nat) (st : S8) (w : World) (S : SAt w b st) (hn : st.n ≤ 16777216) :
    Calls Tryz.prog 45 #[.pointer (some ⟨b, 0, none⟩)] w fun e w' => e = .returned (.tuple #[]) ∧ SAt w' b st.mine9 ∧ K2 b st.g w w' := by
  obtain ⟨T, hT⟩ : ∃ T, Hid (st.rdS st.mineAt9 = T) := ⟨_, rfl⟩
  obtain ⟨x, hx⟩ : ∃ x, Hid (st.rd st.mineAt9 = x) := ⟨_, rfl⟩
  have hF : Hid (st.mine9 = T.mineT x st.h.for_) := by unfold Hid S8.mine9; rw [hT.out, hx.out]
  have hTh : T.h = st.h := by rw [← hT.out, S8.rdS_h]
  have hTg : T.g = st.g := by rw [← hT.out, S8.rdS_g]
  have hTra : T.ra = st.ra := by rw [← hT.out, S8.rdS_ra]
  have hTru : T.runs = st.runs := by rw [← hT.out, S8.rdS_runs]
  have t0 : T.p = st.p := by rw [← hT.out, S8.rdS_p]
  have t1 : T.s = st.s := by rw [← hT.out, S8.rdS_s]
  have t2 : T.l = st.l := by rw [← hT.out, S8.rdS_l]
  have t3 : T.c = st.c := by rw [← hT.out, S8.rdS_c]
  have t4 : T.k = st.k := by rw [← hT.out, S8.rdS_k]
  have hbl := S.is.lt
  have hgl := S.ws.lt
  have hTgH : Hid (T.g = st.g) := hTg
  go_enter Tryz.func45, Tryz.ntmps45
  go_upto_region 0 with fail
  go_cut [2] from 16 (fun u wc => ∃ ub : Nat, u = .pointer (some ⟨ub, 0, none⟩) ∧ At wc ub #[.int .i64 (uK x), .int .i64 (uP x), .int .i64 (uI x), .int .i64 (uS x)] 85 ∧ SAt wc b T ∧ K2 b st.g w wc)
  case first =>
    have lp : ∀ w', MS st b w' → (loadVar 35 ⟨b, 0, none⟩).run Tryz.prog w' = .ok (.agg #[.int .i64 st.p, .int .i64 st.s, .int .i64 st.l, .int .i64 st.c, .int .i64 st.k]) w' := by
      rintro w' ⟨s2, S', e0, e1, e2, e3, e4, e5⟩
      have := ldS (o := 0) S'.is s2.pl Tryz.underlying35 rfl (by kernel_rfl) w' ⟨Below.refl _ _⟩
      rw [e0, e1, e2, e3, e4] at this
      exact this
    have la : ∀ w', MS st b w' → (loadVar 2 ⟨b, 15, none⟩).run Tryz.prog w' = .ok (.int .i64 st.h.a) w' := by
      rintro w' ⟨s2, S', e0, e1, e2, e3, e4, e5⟩
      have := ld_i (x := s2.h.a) (i := 15) S'.is Tryz.underlying2 rfl w' ⟨Below.refl _ _⟩
      rw [e5] at this
      exact this
    refine wp_region_held_drew (S := MS st b) (by kernel_rfl) ⟨st, S.drew, rfl, rfl, rfl, rfl, rfl, rfl⟩ (fun hS => ?_)
    have SA := S.drew
    have k1 : K2 b st.g w w.drew := (K2.refl _ _ _).drew
    generalize w.drew = v0 at *
    refine tk_pure (i := 0) (oi := mn0) rfl (by kernel_rfl) (by kernel_rfl) (by kernel_rfl) (fun _ _ _ h => h) (by rfl) hS (fun w9 => by simp only [mn0]; go_simp; (try with_reducible rfl)) ?_
    simp only [mn0, Act.put, List.setIfInBounds_toArray, List.set_cons_zero, List.set_cons_succ]
    refine tk_pure (i := 1) (oi := mn1) rfl (by kernel_rfl) (by kernel_rfl) (by kernel_rfl) (fun _ _ _ h => h) (by rfl) hS (fun w9 => by simp only [mn1]; go_simp; (try with_reducible rfl)) ?_
    simp only [mn1, Act.put, List.setIfInBounds_toArray, List.set_cons_zero, List.set_cons_succ]
    refine tk_pure (i := 2) (oi := mn2) rfl (by kernel_rfl) (by kernel_rfl) (by kernel_rfl) (fun _ _ _ h => h) (by rfl) hS (fun w9 => by simp only [mn2]; go_simp; (try with_reducible rfl)) ?_
    simp only [mn2, Act.put, List.setIfInBounds_toArray, List.set_cons_zero, List.set_cons_succ]
    refine tk_pure (i := 3) (oi := mn3) rfl (by kernel_rfl) (by kernel_rfl) (by kernel_rfl) (fun _ _ _ h => h) (by rfl) hS (fun w9 => by simp only [mn3]; go_simp; (try with_reducible rfl)) ?_
    simp only [mn3, Act.put, List.setIfInBounds_toArray, List.set_cons_zero, List.set_cons_succ]
    refine tk_load (i := 4) (oi := mn4) rfl (by kernel_rfl) (by kernel_rfl) (by kernel_rfl) (fun _ _ _ h => h) (by rfl) _ _ _ rfl rfl (by assumption) hS ?_
    simp only [mn4, Act.put, List.setIfInBounds_toArray, List.set_cons_zero, List.set_cons_succ]
    refine tk_pure (i := 5) (oi := mn5) rfl (by kernel_rfl) (by kernel_rfl) (by kernel_rfl) (fun _ _ _ h => h) (by rfl) hS (fun w9 => by simp only [mn5]; go_simp; (try with_reducible rfl)) ?_
    simp only [mn5, Act.put, List.setIfInBounds_toArray, List.set_cons_zero, List.set_cons_succ]
    refine tk_pure (i := 6) (oi := mn6) rfl (by kernel_rfl) (by kernel_rfl) (by kernel_rfl) (fun _ _ _ h => h) (by rfl) hS (fun w9 => by simp only [mn6]; go_simp; (try with_reducible rfl)) ?_
    simp only [mn6, Act.put, List.setIfInBounds_toArray, List.set_cons_zero, List.set_cons_succ]
    refine tk_pure (i := 7) (oi := mn7) rfl (by kernel_rfl) (by kernel_rfl) (by kernel_rfl) (fun _ _ _ h => h) (by rfl) hS (fun w9 => by simp only [mn7]; go_simp; (try with_reducible rfl)) ?_
    simp only [mn7, Act.put, List.setIfInBounds_toArray, List.set_cons_zero, List.set_cons_succ]
    refine tk_pure (i := 8) (oi := mn8) rfl (by kernel_rfl) (by kernel_rfl) (by kernel_rfl) (fun _ _ _ h => h) (by rfl) hS (fun w9 => by simp only [mn8]; go_simp; (try with_reducible rfl)) ?_
    simp only [mn8, Act.put, List.setIfInBounds_toArray, List.set_cons_zero, List.set_cons_succ]
    refine tk_load (i := 9) (oi := mn9) rfl (by kernel_rfl) (by kernel_rfl) (by kernel_rfl) (fun _ _ _ h => h) (by rfl) _ _ _ rfl rfl (by assumption) hS ?_
    simp only [mn9, Act.put, List.setIfInBounds_toArray, List.set_cons_zero, List.set_cons_succ]
    refine wpAnyH_ready (rs := [10, 13]) (by kernel_rfl) (by simp) ?_
    refine AllReadyH.cons (o := mn10) rfl (fun K hK => ?_) ?_
    · rw [if_pos (by rfl)]
      simp only [mn10]
      go_simp
      go_at_call 72
      refine (sBlock _ _ _ _ _ _ _ _).mono ?_
      rintro e v1 ⟨rfl, hb⟩
      (go_wp2_with fail)
      replace SA := SA.keep hb
      replace k1 := k1.trans (K2.of_below hb)
      clear hb
      refine hK.out _ _ ⟨st, SA, rfl, rfl, rfl, rfl, rfl, rfl⟩ (fun hS => ?_)
      clear hK K
      (try simp only [mn10, Act.put, List.setIfInBounds_toArray, List.set_cons_zero, List.set_cons_succ])
      refine wpAnyH_ready (rs := [11, 13]) (by kernel_rfl) (by simp) ?_
      refine AllReadyH.cons (o := mn11) rfl (fun K hK => ?_) ?_
      · rw [if_pos (by rfl)]
        simp only [mn11]
        go_simp
        go_at_call 35
        refine (sl8Read b st st.mineAt9 _ SA hn).mono ?_
        rintro e v2 ⟨rfl, S3, k3, hbd⟩
        (go_wp2_with fail)
        rw [hT.out] at S3
        rw [hx.out] at hbd
        rw [hx.out]
        replace k1 := k1.trans k3
        clear SA
        have SA := S3
        clear S3 k3
        refine hK.out _ _ ⟨T, SA, t0, t1, t2, t3, t4, hTh⟩ (fun hS => ?_)
        clear hK K
        (try simp only [mn11, Act.put, List.setIfInBounds_toArray, List.set_cons_zero, List.set_cons_succ])
        refine wpAnyH_ready (rs := [12, 13]) (by kernel_rfl) (by simp) ?_
        refine AllReadyH.cons (o := mn12) rfl (fun K hK => ?_) ?_
        · rw [if_pos (by rfl)]
          simp only [mn12]
          go_simp
          go_at_call 84
          refine (sUnpack _ hbd.1 hbd.2 _).mono ?_
          rintro e v3 ⟨rfl, hb⟩
          (go_wp2_with fail)
          replace SA := SA.keep hb
          replace k1 := k1.trans (K2.of_below hb)
          clear hb
          refine hK.out _ _ ⟨T, SA, t0, t1, t2, t3, t4, hTh⟩ (fun hS => ?_)
          clear hK K
          (try simp only [mn12, Act.put, List.setIfInBounds_toArray, List.set_cons_zero, List.set_cons_succ])
          refine wpAnyH_ready (rs := [13]) (by kernel_rfl) (by simp) ?_
          refine AllReadyH.cons (o := mn13) rfl (fun K hK => ?_) ?_
          · rw [if_pos (by rfl)]
            simp only [mn13]
            go_simp
            have hzz : w.heap.size ≤ v3.heap.size := k1.size
            refine hK.out _ _ ⟨T, SA.keep ((Below.refl _ _).alloc (Nat.le_refl _) _), t0, t1, t2, t3, t4, hTh⟩ (fun hS => ?_)
            clear hK K
            (try simp only [mn13, Act.put, List.setIfInBounds_toArray, List.set_cons_zero, List.set_cons_succ])
            refine any_at9 (fun x => At x v3.heap.size #[.int .i64 0, .int .i64 0, .int .i64 0, .int .i64 0] 85 ∧ Below v3.heap.size v3 x) ⟨At.new _ _ _, (Below.refl _ _).alloc (Nat.le_refl _) _⟩ ?_
            clear hS
            rintro v4 ⟨al, hb⟩
            replace SA := SA.keep hb
            replace k1 := k1.trans (K2.of_below hb)
            have hS : MS st b v4 := ⟨T, SA, t0, t1, t2, t3, t4, hTh⟩
            obtain ⟨ub, hub⟩ : ∃ q, Hid (v3.heap.size = q) := ⟨_, rfl⟩
            have hge : w.heap.size ≤ ub := by have := hub.out; omega
            rw [hub.out] at al
            rw [hub.out]
            clear hb hub hzz
            refine wpAnyH_ready (rs := [14]) (by kernel_rfl) (by simp) ?_
            refine AllReadyH.cons (o := mn14) rfl (fun K hK => ?_) ?_
            · rw [if_pos (by rfl)]
              refine wp_storeW (.tmp 2) (.tmp 15) rfl ub [.int .i64 (uK x), .int .i64 (uP x), .int .i64 (uI x), .int .i64 (uS x)] rfl (by simp [Value.oneCell']) rfl rfl al rfl ?_
              intro v5 al2 kk
              replace SA := S.past SA kk hge k1 hTg hTra hTru
              replace k1 := k1.afterK kk hge
              refine hK.out _ _ ⟨T, SA, t0, t1, t2, t3, t4, hTh⟩ (fun hS => ?_)
              clear hK K
              simp only [mn14, Act.put]
              refine wpAnyH_done (by kernel_rfl) ?_ _
              (go_wp2_with fail)
              go_meet
              case rel => exact ⟨ub, rfl, al2, SA, k1⟩
            exact AllReadyH.nil
          exact AllReadyH.nil
        refine AllReadyH.cons (o := mn13) rfl (fun K hK => ?_) ?_
        · rw [if_pos (by rfl)]
          simp only [mn13]
          go_simp
          have hzz : w.heap.size ≤ v2.heap.size := k1.size
          refine hK.out _ _ ⟨T, SA.keep ((Below.refl _ _).alloc (Nat.le_refl _) _), t0, t1, t2, t3, t4, hTh⟩ (fun hS => ?_)
          clear hK K
          (try simp only [mn13, Act.put, List.setIfInBounds_toArray, List.set_cons_zero, List.set_cons_succ])
          refine any_at9 (fun x => At x v2.heap.size #[.int .i64 0, .int .i64 0, .int .i64 0, .int .i64 0] 85 ∧ Below v2.heap.size v2 x) ⟨At.new _ _ _, (Below.refl _ _).alloc (Nat.le_refl _) _⟩ ?_
          clear hS
          rintro v3 ⟨al, hb⟩
          replace SA := SA.keep hb
          replace k1 := k1.trans (K2.of_below hb)
          have hS : MS st b v3 := ⟨T, SA, t0, t1, t2, t3, t4, hTh⟩
          obtain ⟨ub, hub⟩ : ∃ q, Hid (v2.heap.size = q) := ⟨_, rfl⟩
          have hge : w.heap.size ≤ ub := by have := hub.out; omega
          rw [hub.out] at al
          rw [hub.out]
          clear hb hub hzz
          refine wpAnyH_ready (rs := [12]) (by kernel_rfl) (by simp) ?_
          refine AllReadyH.cons (o := mn12) rfl (fun K hK => ?_) ?_
          · rw [if_pos (by rfl)]
            simp only [mn12]
            go_simp
            go_at_call 84
            refine (sUnpack _ hbd.1 hbd.2 _).mono ?_
            rintro e v4 ⟨rfl, hb⟩
            (go_wp2_with fail)
            replace al := al.keep hb
            replace SA := SA.keep hb
            replace k1 := k1.trans (K2.of_below hb)
            clear hb
            refine hK.out _ _ ⟨T, SA, t0, t1, t2, t3, t4, hTh⟩ (fun hS => ?_)
            clear hK K
            (try simp only [mn12, Act.put, List.setIfInBounds_toArray, List.set_cons_zero, List.set_cons_succ])
            refine wpAnyH_ready (rs := [14]) (by kernel_rfl) (by simp) ?_
            refine AllReadyH.cons (o := mn14) rfl (fun K hK => ?_) ?_
            · rw [if_pos (by rfl)]
              refine wp_storeW (.tmp 2) (.tmp 15) rfl ub [.int .i64 (uK x), .int .i64 (uP x), .int .i64 (uI x), .int .i64 (uS x)] rfl (by simp [Value.oneCell']) rfl rfl al rfl ?_
              intro v5 al2 kk
              replace SA := S.past SA kk hge k1 hTg hTra hTru
              replace k1 := k1.afterK kk hge
              refine hK.out _ _ ⟨T, SA, t0, t1, t2, t3, t4, hTh⟩ (fun hS => ?_)
              clear hK K
              simp only [mn14, Act.put]
              refine wpAnyH_done (by kernel_rfl) ?_ _
              (go_wp2_with fail)
              go_meet
              case rel => exact ⟨ub, rfl, al2, SA, k1⟩
            exact AllReadyH.nil
          exact AllReadyH.nil
        exact AllReadyH.nil
      refine AllReadyH.cons (o := mn13) rfl (fun K hK => ?_) ?_
      · rw [if_pos (by rfl)]
        simp only [mn13]
        go_simp
        have hzz : w.heap.size ≤ v1.heap.size := k1.size
        refine hK.out _ _ ⟨st, SA.keep ((Below.refl _ _).alloc (Nat.le_refl _) _), rfl, rfl, rfl, rfl, rfl, rfl⟩ (fun hS => ?_)
        clear hK K
        (try simp only [mn13, Act.put, List.setIfInBounds_toArray, List.set_cons_zero, List.set_cons_succ])
        refine any_at9 (fun x => At x v1.heap.size #[.int .i64 0, .int .i64 0, .int .i64 0, .int .i64 0] 85 ∧ Below v1.heap.size v1 x) ⟨At.new _ _ _, (Below.refl _ _).alloc (Nat.le_refl _) _⟩ ?_
        clear hS
        rintro v2 ⟨al, hb⟩
        replace SA := SA.keep hb
        replace k1 := k1.trans (K2.of_below hb)
        have hS : MS st b v2 := ⟨st, SA, rfl, rfl, rfl, rfl, rfl, rfl⟩
        obtain ⟨ub, hub⟩ : ∃ q, Hid (v1.heap.size = q) := ⟨_, rfl⟩
        have hge : w.heap.size ≤ ub := by have := hub.out; omega
        rw [hub.out] at al
        rw [hub.out]
        clear hb hub hzz
        refine wpAnyH_ready (rs := [11]) (by kernel_rfl) (by simp) ?_
        refine AllReadyH.cons (o := mn11) rfl (fun K hK => ?_) ?_
        · rw [if_pos (by rfl)]
          simp only [mn11]
          go_simp
          go_at_call 35
          refine (sl8Read b st st.mineAt9 _ SA hn).mono ?_
          rintro e v3 ⟨rfl, S3, k3, hbd⟩
          (go_wp2_with fail)
          rw [hT.out] at S3
          rw [hx.out] at hbd
          rw [hx.out]
          replace al := al.K2 k3 (by have := hbl; omega) (by have := hgl; omega)
          replace k1 := k1.trans k3
          clear SA
          have SA := S3
          clear S3 k3
          refine hK.out _ _ ⟨T, SA, t0, t1, t2, t3, t4, hTh⟩ (fun hS => ?_)
          clear hK K
          (try simp only [mn11, Act.put, List.setIfInBounds_toArray, List.set_cons_zero, List.set_cons_succ])
          refine wpAnyH_ready (rs := [12]) (by kernel_rfl) (by simp) ?_
          refine AllReadyH.cons (o := mn12) rfl (fun K hK => ?_) ?_
          · rw [if_pos (by rfl)]
            simp only [mn12]
            go_simp
            go_at_call 84
            refine (sUnpack _ hbd.1 hbd.2 _).mono ?_
            rintro e v4 ⟨rfl, hb⟩
            (go_wp2_with fail)
            replace al := al.keep hb
            replace SA := SA.keep hb
            replace k1 := k1.trans (K2.of_below hb)
            clear hb
            refine hK.out _ _ ⟨T, SA, t0, t1, t2, t3, t4, hTh⟩ (fun hS => ?_)
            clear hK K
            (try simp only [mn12, Act.put, List.setIfInBounds_toArray, List.set_cons_zero, List.set_cons_succ])
            refine wpAnyH_ready (rs := [14]) (by kernel_rfl) (by simp) ?_
            refine AllReadyH.cons (o := mn14) rfl (fun K hK => ?_) ?_
            · rw [if_pos (by rfl)]
              refine wp_storeW (.tmp 2) (.tmp 15) rfl ub [.int .i64 (uK x), .int .i64 (uP x), .int .i64 (uI x), .int .i64 (uS x)] rfl (by simp [Value.oneCell']) rfl rfl al rfl ?_
              intro v5 al2 kk
              replace SA := S.past SA kk hge k1 hTg hTra hTru
              replace k1 := k1.afterK kk hge
              refine hK.out _ _ ⟨T, SA, t0, t1, t2, t3, t4, hTh⟩ (fun hS => ?_)
              clear hK K
              simp only [mn14, Act.put]
              refine wpAnyH_done (by kernel_rfl) ?_ _
              (go_wp2_with fail)
              go_meet
              case rel => exact ⟨ub, rfl, al2, SA, k1⟩
            exact AllReadyH.nil
          exact AllReadyH.nil
        exact AllReadyH.nil
      exact AllReadyH.nil
    refine AllReadyH.cons (o := mn13) rfl (fun K hK => ?_) ?_
    · rw [if_pos (by rfl)]
      simp only [mn13]
      go_simp
      have hzz : w.heap.size ≤ v0.heap.size := k1.size
      refine hK.out _ _ ⟨st, SA.keep ((Below.refl _ _).alloc (Nat.le_refl _) _), rfl, rfl, rfl, rfl, rfl, rfl⟩ (fun hS => ?_)
      clear hK K
      (try simp only [mn13, Act.put, List.setIfInBounds_toArray, List.set_cons_zero, List.set_cons_succ])
      refine any_at9 (fun x => At x v0.heap.size #[.int .i64 0, .int .i64 0, .int .i64 0, .int .i64 0] 85 ∧ Below v0.heap.size v0 x) ⟨At.new _ _ _, (Below.refl _ _).alloc (Nat.le_refl _) _⟩ ?_
      clear hS
      rintro v1 ⟨al, hb⟩
      replace SA := SA.keep hb
      replace k1 := k1.trans (K2.of_below hb)
      have hS : MS st b v1 := ⟨st, SA, rfl, rfl, rfl, rfl, rfl, rfl⟩
      obtain ⟨ub, hub⟩ : ∃ q, Hid (v0.heap.size = q) := ⟨_, rfl⟩
      have hge : w.heap.size ≤ ub := by have := hub.out; omega
      rw [hub.out] at al
      rw [hub.out]
      clear hb hub hzz
      refine wpAnyH_ready (rs := [10]) (by kernel_rfl) (by simp) ?_
      refine AllReadyH.cons (o := mn10) rfl (fun K hK => ?_) ?_
      · rw [if_pos (by rfl)]
        simp only [mn10]
        go_simp
        go_at_call 72
        refine (sBlock _ _ _ _ _ _ _ _).mono ?_
        rintro e v2 ⟨rfl, hb⟩
        (go_wp2_with fail)
        replace al := al.keep hb
        replace SA := SA.keep hb
        replace k1 := k1.trans (K2.of_below hb)
        clear hb
        refine hK.out _ _ ⟨st, SA, rfl, rfl, rfl, rfl, rfl, rfl⟩ (fun hS => ?_)
        clear hK K
        (try simp only [mn10, Act.put, List.setIfInBounds_toArray, List.set_cons_zero, List.set_cons_succ])
        refine wpAnyH_ready (rs := [11]) (by kernel_rfl) (by simp) ?_
        refine AllReadyH.cons (o := mn11) rfl (fun K hK => ?_) ?_
        · rw [if_pos (by rfl)]
          simp only [mn11]
          go_simp
          go_at_call 35
          refine (sl8Read b st st.mineAt9 _ SA hn).mono ?_
          rintro e v3 ⟨rfl, S3, k3, hbd⟩
          (go_wp2_with fail)
          rw [hT.out] at S3
          rw [hx.out] at hbd
          rw [hx.out]
          replace al := al.K2 k3 (by have := hbl; omega) (by have := hgl; omega)
          replace k1 := k1.trans k3
          clear SA
          have SA := S3
          clear S3 k3
          refine hK.out _ _ ⟨T, SA, t0, t1, t2, t3, t4, hTh⟩ (fun hS => ?_)
          clear hK K
          (try simp only [mn11, Act.put, List.setIfInBounds_toArray, List.set_cons_zero, List.set_cons_succ])
          refine wpAnyH_ready (rs := [12]) (by kernel_rfl) (by simp) ?_
          refine AllReadyH.cons (o := mn12) rfl (fun K hK => ?_) ?_
          · rw [if_pos (by rfl)]
            simp only [mn12]
            go_simp
            go_at_call 84
            refine (sUnpack _ hbd.1 hbd.2 _).mono ?_
            rintro e v4 ⟨rfl, hb⟩
            (go_wp2_with fail)
            replace al := al.keep hb
            replace SA := SA.keep hb
            replace k1 := k1.trans (K2.of_below hb)
            clear hb
            refine hK.out _ _ ⟨T, SA, t0, t1, t2, t3, t4, hTh⟩ (fun hS => ?_)
            clear hK K
            (try simp only [mn12, Act.put, List.setIfInBounds_toArray, List.set_cons_zero, List.set_cons_succ])
            refine wpAnyH_ready (rs := [14]) (by kernel_rfl) (by simp) ?_
            refine AllReadyH.cons (o := mn14) rfl (fun K hK => ?_) ?_
            · rw [if_pos (by rfl)]
              refine wp_storeW (.tmp 2) (.tmp 15) rfl ub [.int .i64 (uK x), .int .i64 (uP x), .int .i64 (uI x), .int .i64 (uS x)] rfl (by simp [Value.oneCell']) rfl rfl al rfl ?_
              intro v5 al2 kk
              replace SA := S.past SA kk hge k1 hTg hTra hTru
              replace k1 := k1.afterK kk hge
              refine hK.out _ _ ⟨T, SA, t0, t1, t2, t3, t4, hTh⟩ (fun hS => ?_)
              clear hK K
              simp only [mn14, Act.put]
              refine wpAnyH_done (by kernel_rfl) ?_ _
              (go_wp2_with fail)
              go_meet
              case rel => exact ⟨ub, rfl, al2, SA, k1⟩
            exact AllReadyH.nil
          exact AllReadyH.nil
        exact AllReadyH.nil
      exact AllReadyH.nil
    exact AllReadyH.nil
  case rest =>
  obtain ⟨ub, rfl, U, S3, k1⟩ := hcut
  clear S hTg hTra hTru t0 t1 t2 t3 t4
  go_upto_region 1 with fail
  have A := S3.is
  have l0 : ∀ w', Cls wc w' → (loadVar 2 ⟨ub, 0, none⟩).run Tryz.prog w' = .ok (.int .i64 (uK x)) w' := ld_i U Tryz.underlying2 rfl
  have l1 : ∀ w', Cls wc w' → (loadVar 2 ⟨ub, 1, none⟩).run Tryz.prog w' = .ok (.int .i64 (uP x)) w' := ld_i U Tryz.underlying2 rfl
  have l2 : ∀ w', Cls wc w' → (loadVar 2 ⟨b, 19, none⟩).run Tryz.prog w' = .ok (.int .i64 st.h.for_) w' := by rw [← hTh]; exact ld_i A Tryz.underlying2 rfl
  clear A hTh
  by_cases hK : uK x = 1
  · rw [hK] at l0
    by_cases hP : uP x = st.h.for_
    · rw [hP] at l1
      have hsy : hsay9 1 st.h.for_ x = true := decide_eq_true ⟨hK, hP⟩
      clear hK hP
      refine wp_region_cls (by kernel_rfl) (by kernel_rfl) ?_
      repeat' (first
        | go_big_quiet_skip
        | (go_big_quiet_want; first
          | (refine q_load _ _ _ _ rfl rfl (by assumption) ?_; simp only [Act.put, List.setIfInBounds_toArray, List.set_cons_zero, List.set_cons_succ]; go_big_quiet_on)
          | (go_big_quiet_op; first
            | go_big_quiet_on
            | (refine ⟨_, fun _ _ => rfl, ?_⟩; go_big_quiet_on))))
      refine wpQuiet_nil ?_
      intro w2 hw2
      replace S3 := S3.keep hw2.below
      replace k1 := k1.trans (K2.of_below hw2.below)
      by_cases k3 : T.h.code = 3
      · have hk3 : Hid (T.h.code = 3) := k3
        clear k3
        have c13 : w2.cell? ⟨b, 13, none⟩ = some (.int .i64 T.h.at_) := S3.c_h_At
        have f13 := S3.fz 13
        have c28 : w2.cell? ⟨b, 28, none⟩ = some (.int .i64 T.h.block) := S3.c_h_Block
        have f28 := S3.fz 28
        have c15 : w2.cell? ⟨b, 15, none⟩ = some (.int .i64 T.h.a) := S3.c_h_A
        have c14 : w2.cell? ⟨b, 14, none⟩ = some (.int .i64 3) := (by rw [← hk3.out]; exact S3.c_h_Code)
        have FS : Hid (SAt ((w2.setCell ⟨b, 28, none⟩ (.int .i64 T.h.a)).setCell ⟨b, 13, none⟩ (.int .i64 17)) b { T with h := { T.h with block := T.h.a, at_ := 17 } }) := (S3.put (st' := { T with h := { T.h with block := T.h.a } }) 28 _ rfl ⟨rfl, rfl, rfl, rfl, rfl, rfl⟩).put 13 _ rfl ⟨rfl, rfl, rfl, rfl, rfl, rfl⟩
        go_wp2
        first | go_end0 | refine bodyPost_ret (results_none rfl _ _ _) rfl ?_
        rw [hF.out]
        unfold S8.mineT
        rw [if_pos hsy]
        rw [if_pos hk3.out]
        exact ⟨rfl, FS.out, (k1.set _ _).set _ _⟩
      have kb3 : (T.h.code == 3) = false := by simp [k3]
      by_cases k4 : T.h.code = 4
      · have hk4 : Hid (T.h.code = 4) := k4
        clear k4
        have c13 : w2.cell? ⟨b, 13, none⟩ = some (.int .i64 T.h.at_) := S3.c_h_At
        have f13 := S3.fz 13
        have c28 : w2.cell? ⟨b, 28, none⟩ = some (.int .i64 T.h.block) := S3.c_h_Block
        have f28 := S3.fz 28
        have c15 : w2.cell? ⟨b, 15, none⟩ = some (.int .i64 T.h.a) := S3.c_h_A
        have c14 : w2.cell? ⟨b, 14, none⟩ = some (.int .i64 4) := (by rw [← hk4.out]; exact S3.c_h_Code)
        have FS : Hid (SAt ((w2.setCell ⟨b, 28, none⟩ (.int .i64 T.h.a)).setCell ⟨b, 13, none⟩ (.int .i64 15)) b { T with h := { T.h with block := T.h.a, at_ := 15 } }) := (S3.put (st' := { T with h := { T.h with block := T.h.a } }) 28 _ rfl ⟨rfl, rfl, rfl, rfl, rfl, rfl⟩).put 13 _ rfl ⟨rfl, rfl, rfl, rfl, rfl, rfl⟩
        go_wp2
        first | go_end0 | refine bodyPost_ret (results_none rfl _ _ _) rfl ?_
        rw [hF.out]
        unfold S8.mineT
        rw [if_pos hsy]
        rw [if_neg k3, if_pos hk4.out]
        exact ⟨rfl, FS.out, (k1.set _ _).set _ _⟩
      have kb4 : (T.h.code == 4) = false := by simp [k4]
      have c13 : w2.cell? ⟨b, 13, none⟩ = some (.int .i64 T.h.at_) := S3.c_h_At
      have f13 := S3.fz 13
      have c28 : w2.cell? ⟨b, 28, none⟩ = some (.int .i64 T.h.block) := S3.c_h_Block
      have f28 := S3.fz 28
      have c15 : w2.cell? ⟨b, 15, none⟩ = some (.int .i64 T.h.a) := S3.c_h_A
      have c14 : w2.cell? ⟨b, 14, none⟩ = some (.int .i64 T.h.code) := S3.c_h_Code
      have FS : Hid (SAt ((w2.setCell ⟨b, 28, none⟩ (.int .i64 T.h.a)).setCell ⟨b, 13, none⟩ (.int .i64 16)) b { T with h := { T.h with block := T.h.a, at_ := 16 } }) := (S3.put (st' := { T with h := { T.h with block := T.h.a } }) 28 _ rfl ⟨rfl, rfl, rfl, rfl, rfl, rfl⟩).put 13 _ rfl ⟨rfl, rfl, rfl, rfl, rfl, rfl⟩
      go_wp2
      first | go_end0 | refine bodyPost_ret (results_none rfl _ _ _) rfl ?_
      rw [hF.out]
      unfold S8.mineT
      rw [if_pos hsy]
      rw [if_neg k3, if_neg k4]
      exact ⟨rfl, FS.out, (k1.set _ _).set _ _⟩
    · have hsy : hsay9 1 st.h.for_ x = false := decide_eq_false (fun h => hP h.2)
      have hPb : (uP x == st.h.for_) = false := by simp [hP]
      refine wp_region_cls (by kernel_rfl) (by kernel_rfl) ?_
      repeat' (first
        | go_big_quiet_skip
        | (go_big_quiet_want; first
          | (refine q_load _ _ _ _ rfl rfl (by assumption) ?_; simp only [Act.put, List.setIfInBounds_toArray, List.set_cons_zero, List.set_cons_succ]; go_big_quiet_on)
          | (go_big_quiet_op; first
            | go_big_quiet_on
            | (refine ⟨_, fun _ _ => rfl, ?_⟩; go_big_quiet_on))))
      refine wpQuiet_nil ?_
      intro w2 hw2
      replace S3 := S3.keep hw2.below
      replace k1 := k1.trans (K2.of_below hw2.below)
      go_wp2_with (go_at_call 39; refine (sl8Reply b T 7 0 _ S3).mono ?_; rintro e w4 ⟨rfl, S4, k4⟩; rw [hTgH.out] at k4)
      first | go_end0 | refine bodyPost_ret (results_none rfl _ _ _) rfl ?_
      rw [hF.out]
      unfold S8.mineT
      rw [if_neg (by rw [hsy]; decide)]
      exact ⟨rfl, S4, k1.trans k4⟩
  · have hsy : hsay9 1 st.h.for_ x = false := decide_eq_false (fun h => hK h.1)
    have hKb : (uK x == 1) = false := by simp [hK]
    refine wp_region_cls (by kernel_rfl) (by kernel_rfl) ?_
    repeat' (first
      | go_big_quiet_skip
      | (go_big_quiet_want; first
        | (refine q_load _ _ _ _ rfl rfl (by assumption) ?_; simp only [Act.put, List.setIfInBounds_toArray, List.set_cons_zero, List.set_cons_succ]; go_big_quiet_on)
        | (go_big_quiet_op; first
          | go_big_quiet_on
          | (refine exB (b := !(uK x == 1)) (fun _ _ => rfl) (fun _ => ?_) (fun e1 => by rw [hKb] at e1; cases e1); go_big_quiet_on)
          | (refine ⟨_, fun _ _ => rfl, ?_⟩; go_big_quiet_on))))
    refine wpQuiet_nil ?_
    intro w2 hw2
    replace S3 := S3.keep hw2.below
    replace k1 := k1.trans (K2.of_below hw2.below)
    go_wp2_with (go_at_call 39; refine (sl8Reply b T 7 0 _ S3).mono ?_; rintro e w4 ⟨rfl, S4, k4⟩; rw [hTgH.out] at k4)
    first | go_end0 | refine bodyPost_ret (results_none rfl _ _ _) rfl ?_
    rw [hF.out]
    unfold S8.mineT
    rw [if_neg (by rw [hsy]; decide)]
    exact ⟨rfl, S4, k1.trans k4⟩
theorem g9_14 (b : Nat) (st : S8) (w : World) (S : SAt w b st) (hn : st.n ≤ 16777216) (hat : st.h.at_ = 14) :
    Calls Tryz.prog 19 #[.pointer (some ⟨b, 0, none⟩)] w fun e w' => e = .returned (.tuple #[]) ∧ SAt w' b st.mine9 ∧ K2 b st.g w w' := by
  have c13 : w.cell? ⟨b, 13, none⟩ = some (.int .i64 st.h.at_) := S.c_h_At
  rw [hat] at c13
  have hhat : Hid (st.h.at_ = 14) := hat
  clear hat
  go_enter Tryz.func19, Tryz.ntmps19
  go_wp2_with (go_at_call 45; refine (sMine9 b st _ S hn).mono ?_; rintro e w4 ⟨rfl, S4, k4⟩)
  first | go_end0 | refine bodyPost_ret (results_none rfl _ _ _) rfl ?_
  exact ⟨rfl, S4, k4⟩
end Go.Proofs.YtdebjfgflldpjaaGreat
namespace Go.Proofs.YtdebjfgflldpjaaGreat
open Go.RowKit
set_option maxRecDepth 100000
set_option linter.unusedVariables false
set_option linter.unusedSimpArgs false
theorem ins_Code (X : S8) (a x d g b : Int) : (X.install a x d g b).h.code = X.h.code := by simp only [S8.install, S8.u_Addr, S8.u_Put, S8.u_Does, S8.u_Good, S8.u_Bad, S8.u_At, S8.uh_h]
theorem ins_Index (X : S8) (a x d g b : Int) : (X.install a x d g b).h.index = X.h.index := by simp only [S8.install, S8.u_Addr, S8.u_Put, S8.u_Does, S8.u_Good, S8.u_Bad, S8.u_At, S8.uh_h]
def S8.chainT (st : S8) : S8 := (st.wrd 0 0 (uI st.h.seen) 0).wr (st.blk 1) (wv 0 0 (uI st.h.seen) 0)
def S8.chainI (T : S8) (a : Int) : S8 := ((T.wrd 0 T.h.for_ T.h.block T.h.last).install a (wv 0 T.h.for_ T.h.block T.h.last) 2 67 19)
def S8.chainE (I : S8) (c i : Int) : S8 := if c = 3 then { I with h := { I.h with reply := 1, out := 0, good := 2 } } else if c = 12 then { I with h := { I.h with good := 69 } } else if i = 0 then { I with h := { I.h with good := 64 } } else I
def S8.chain9 (st : S8) : S8 := (st.chainT.chainI (st.chainT.root9 st.cls9)).chainE st.h.code st.h.index
set_option maxHeartbeats 32000000 in
theorem sChain9 (b : Nat) (st : S8) (w : World) (S : SAt w b st) (hn : st.n ≤ 16777216) (hs : 0 ≤ st.h.seen ∧ st.h.seen ≤ 18446744073709551615) :
    Calls Tryz.prog 48 #[.pointer (some ⟨b, 0, none⟩)] w fun e w' => e = .returned (.tuple #[]) ∧ SAt w' b st.chain9 ∧ K2 b st.g w w' := by
  obtain ⟨T, hT⟩ : ∃ T, Hid (st.chainT = T) := ⟨_, rfl⟩
  have hTh : T.h = st.h := by rw [← hT.out]; unfold S8.chainT; rw [S8.wr_h, S8.wrd_h]
  have hTg : T.g = st.g := by rw [← hT.out]; unfold S8.chainT; rw [S8.wr_g, S8.wrd_g]
  have hT2 : Hid ((st.wrd 0 0 (uI st.h.seen) 0).wr (st.blk 1) (wv 0 0 (uI st.h.seen) 0) = T) := hT
  obtain ⟨a, hA⟩ : ∃ a, Hid (T.root9 (vClass st.p st.s st.l st.c st.k st.h.block) = a) := ⟨_, rfl⟩
  have hA2 : T.root9 st.cls9 = a := hA.out
  obtain ⟨I, hI⟩ : ∃ I, Hid (((T.wrd 0 T.h.for_ T.h.block T.h.last).install a (wv 0 T.h.for_ T.h.block T.h.last) 2 67 19) = I) := ⟨_, rfl⟩
  have hIc : I.h.code = st.h.code := by rw [← hI.out, ins_Code, S8.wrd_h, hTh]
  have hIi : I.h.index = st.h.index := by rw [← hI.out, ins_Index, S8.wrd_h, hTh]
  have hF : Hid (st.chain9 = I.chainE st.h.code st.h.index) := by unfold Hid S8.chain9 S8.chainI; rw [hT.out, hA2, hI.out]
  clear hA2 hTh
  have A := S.is
  have lp : ∀ w', Cls w w' → (loadVar 35 ⟨b, 0, none⟩).run Tryz.prog w' = .ok (.agg #[.int .i64 st.p, .int .i64 st.s, .int .i64 st.l, .int .i64 st.c, .int .i64 st.k]) w' := ldS (o := 0) A st.pl Tryz.underlying35 rfl (by kernel_rfl)
  have lb : ∀ w', Cls w w' → (loadVar 2 ⟨b, 28, none⟩).run Tryz.prog w' = .ok (.int .i64 st.h.block) w' := ld_i A Tryz.underlying2 rfl
  clear A
  go_enter Tryz.func48, Tryz.ntmps48
  go_upto_region 0 with fail
  refine wp_region_cls (by kernel_rfl) (by kernel_rfl) ?_
  repeat' (first
    | go_big_quiet_skip
    | (go_big_quiet_want; first
      | (refine q_load _ _ _ _ rfl rfl (by assumption) ?_; simp only [Act.put, List.setIfInBounds_toArray, List.set_cons_zero, List.set_cons_succ]; go_big_quiet_on)
      | (go_big_quiet_op; first
        | go_big_quiet_on
        | (refine ⟨_, fun _ _ => rfl, ?_⟩; go_big_quiet_on)
        | (apply Exists.intro; refine ⟨fun w' hw' => ?_, ?_⟩
           · (go_at_call 47; exact cls_below hw' (sClass _ _ _ _ _ _ _))
           go_big_quiet_on))))
  refine wpQuiet_nil ?_
  intro w2 hw2
  go_upto_region 1 with fail
  have S1 := (S.keep hw2.below).drew
  have k1 : K2 b st.g w w2.drew := (K2.of_below hw2.below).drew
  have c23 : w2.drew.cell? ⟨b, 23, none⟩ = some (.int .u64 st.h.seen) := S1.c_h_Seen
  clear lp lb
  go_region_held3 (fun w' => w'.cell? ⟨b, 23, none⟩ = some (.int .u64 st.h.seen)) (go_keep)
    (first
    | (go_at_call 40; refine (sl8Block b st 1 _ S1).mono ?_; rintro e w3 ⟨rfl, hb⟩; replace S1 := S1.keep hb; replace k1 := k1.trans (K2.of_below hb); clear hb; clear c23; have c23 : w3.cell? ⟨b, 23, none⟩ = some (.int .u64 st.h.seen) := (by have hq := S1.c_h_Seen; exact hq))
    | (go_at_call 38; refine (sIndex _ hs.1 hs.2 _).mono ?_; rintro e w3 ⟨rfl, hb⟩; replace S1 := S1.keep hb; replace k1 := k1.trans (K2.of_below hb); clear hb; clear c23; have c23 : w3.cell? ⟨b, 23, none⟩ = some (.int .u64 st.h.seen) := (by have hq := S1.c_h_Seen; exact hq))
    | (go_at_call 43; refine (sl8Word b st _ _ _ _ _ S1).mono ?_; rintro e w3 ⟨rfl, S2, k2⟩; replace k1 := k1.trans k2; clear k2 S1; clear c23; have c23 : w3.cell? ⟨b, 23, none⟩ = some (.int .u64 st.h.seen) := (by have hq := S2.c_h_Seen; rw [S8.wrd_h] at hq; exact hq))
    | (go_at_call 44; refine (sl8Write b _ _ _ _ S2 (by rw [S8.wrd_n]; exact hn) (wv_bd _ _ _ _)).mono ?_; rintro e w4 ⟨rfl, S3, k2⟩; rw [S8.wrd_g] at k2; replace k1 := k1.trans k2; clear k2 S2; clear c23; have c23 : w4.cell? ⟨b, 23, none⟩ = some (.int .u64 st.h.seen) := (by have hq := S3.c_h_Seen; rw [S8.wr_h, S8.wrd_h] at hq; exact hq)))
  rw [hT2.out] at S3
  clear c23 S
  go_upto_region 2 with fail
  refine wp_at (fun W => SAt W b T ∧ K2 b st.g w W) ⟨S3, k1⟩ ?_
  clear S3 k1
  rintro w1 ⟨S1, k1⟩
  have hUg : T.g = st.g := hTg
  have S1 := S1.drew
  replace k1 := k1.drew
  have c19 : w1.drew.cell? ⟨b, 19, none⟩ = some (.int .i64 T.h.for_) := S1.c_h_For
  have c28 : w1.drew.cell? ⟨b, 28, none⟩ = some (.int .i64 T.h.block) := S1.c_h_Block
  have c20 : w1.drew.cell? ⟨b, 20, none⟩ = some (.int .i64 T.h.last) := S1.c_h_Last
  go_region_held3 (fun w' => w'.cell? ⟨b, 19, none⟩ = some (.int .i64 T.h.for_) ∧ w'.cell? ⟨b, 28, none⟩ = some (.int .i64 T.h.block) ∧ w'.cell? ⟨b, 20, none⟩ = some (.int .i64 T.h.last)) (go_keep)
    (first
    | (go_at_call 36; refine (sl9Root b T _ _ S1).mono ?_; rintro e w2 ⟨rfl, hb⟩; rw [hA.out]; replace S1 := S1.keep hb; replace k1 := k1.trans (K2.of_below hb); clear hb; clear c19 c28 c20; have c19 : w2.cell? ⟨b, 19, none⟩ = some (.int .i64 T.h.for_) := (by have hq := S1.c_h_For; exact hq); have c28 : w2.cell? ⟨b, 28, none⟩ = some (.int .i64 T.h.block) := (by have hq := S1.c_h_Block; exact hq); have c20 : w2.cell? ⟨b, 20, none⟩ = some (.int .i64 T.h.last) := (by have hq := S1.c_h_Last; exact hq))
    | (go_at_call 43; refine (sl8Word b T _ _ _ _ _ S1).mono ?_; rintro e w2 ⟨rfl, S2, k2⟩; replace k1 := k1.trans (hUg ▸ k2); clear k2 S1; clear c19 c28 c20; have c19 : w2.cell? ⟨b, 19, none⟩ = some (.int .i64 T.h.for_) := (by have hq := S2.c_h_For; rw [S8.wrd_h] at hq; exact hq); have c28 : w2.cell? ⟨b, 28, none⟩ = some (.int .i64 T.h.block) := (by have hq := S2.c_h_Block; rw [S8.wrd_h] at hq; exact hq); have c20 : w2.cell? ⟨b, 20, none⟩ = some (.int .i64 T.h.last) := (by have hq := S2.c_h_Last; rw [S8.wrd_h] at hq; exact hq))
    | (go_at_call 42; refine (sl9Install b _ a _ 2 67 19 _ S2).mono ?_; rintro e w3 ⟨rfl, S3, k2⟩; rw [S8.wrd_g] at k2; replace k1 := k1.trans (hUg ▸ k2); clear k2 S2; clear c19 c28 c20; have c19 : w3.cell? ⟨b, 19, none⟩ = some (.int .i64 T.h.for_) := (by have hq := S3.c_h_For; rw [ins_For, S8.wrd_h] at hq; exact hq); have c28 : w3.cell? ⟨b, 28, none⟩ = some (.int .i64 T.h.block) := (by have hq := S3.c_h_Block; rw [ins_Block, S8.wrd_h] at hq; exact hq); have c20 : w3.cell? ⟨b, 20, none⟩ = some (.int .i64 T.h.last) := (by have hq := S3.c_h_Last; rw [ins_Last, S8.wrd_h] at hq; exact hq)))
  rw [hI.out] at S3
  have c25 : w3.cell? ⟨b, 25, none⟩ = some (.int .i64 I.h.good) := S3.c_h_Good
  have f25 := S3.fz 25
  clear c19 c28 c20
  by_cases k3 : st.h.code = 3
  · have c14 : w3.cell? ⟨b, 14, none⟩ = some (.int .i64 3) := by rw [← k3, ← hIc]; exact S3.c_h_Code
    have c40 : w3.cell? ⟨b, 40, none⟩ = some (.int .i64 I.h.reply) := S3.c_h_Reply
    have f40 := S3.fz 40
    have c41 : w3.cell? ⟨b, 41, none⟩ = some (.int .i64 I.h.out) := S3.c_h_Out
    have f41 := S3.fz 41
    have FS : Hid (SAt (((w3.setCell ⟨b, 40, none⟩ (.int .i64 1)).setCell ⟨b, 41, none⟩ (.int .i64 0)).setCell ⟨b, 25, none⟩ (.int .i64 2)) b { I with h := { I.h with reply := 1, out := 0, good := 2 } }) := ((S3.put (st' := { I with h := { I.h with reply := 1 } }) 40 _ rfl ⟨rfl, rfl, rfl, rfl, rfl, rfl⟩).put (st' := { I with h := { I.h with reply := 1, out := 0 } }) 41 _ rfl ⟨rfl, rfl, rfl, rfl, rfl, rfl⟩).put 25 _ rfl ⟨rfl, rfl, rfl, rfl, rfl, rfl⟩
    go_wp2
    first | go_end0 | refine bodyPost_ret (results_none rfl _ _ _) rfl ?_
    rw [hF.out]
    unfold S8.chainE
    rw [if_pos k3]
    exact ⟨rfl, FS.out, ((k1.set _ _).set _ _).set _ _⟩
  have kb3 : (st.h.code == 3) = false := by simp [k3]
  by_cases k12 : st.h.code = 12
  · have c14 : w3.cell? ⟨b, 14, none⟩ = some (.int .i64 12) := by rw [← k12, ← hIc]; exact S3.c_h_Code
    have FS : Hid (SAt (w3.setCell ⟨b, 25, none⟩ (.int .i64 69)) b { I with h := { I.h with good := 69 } }) := S3.put 25 _ rfl ⟨rfl, rfl, rfl, rfl, rfl, rfl⟩
    go_wp2
    first | go_end0 | refine bodyPost_ret (results_none rfl _ _ _) rfl ?_
    rw [hF.out]
    unfold S8.chainE
    rw [if_neg k3, if_pos k12]
    exact ⟨rfl, FS.out, k1.set _ _⟩
  have kb12 : (st.h.code == 12) = false := by simp [k12]
  have c14 : w3.cell? ⟨b, 14, none⟩ = some (.int .i64 st.h.code) := by rw [← hIc]; exact S3.c_h_Code
  by_cases k0 : st.h.index = 0
  · have c32 : w3.cell? ⟨b, 32, none⟩ = some (.int .i64 0) := by rw [← k0, ← hIi]; exact S3.c_h_Index
    have FS : Hid (SAt (w3.setCell ⟨b, 25, none⟩ (.int .i64 64)) b { I with h := { I.h with good := 64 } }) := S3.put 25 _ rfl ⟨rfl, rfl, rfl, rfl, rfl, rfl⟩
    go_wp2
    first | go_end0 | refine bodyPost_ret (results_none rfl _ _ _) rfl ?_
    rw [hF.out]
    unfold S8.chainE
    rw [if_neg k3, if_neg k12, if_pos k0]
    exact ⟨rfl, FS.out, k1.set _ _⟩
  have kb0 : (st.h.index == 0) = false := by simp [k0]
  have c32 : w3.cell? ⟨b, 32, none⟩ = some (.int .i64 st.h.index) := by rw [← hIi]; exact S3.c_h_Index
  go_wp2
  first | go_end0 | refine bodyPost_ret (results_none rfl _ _ _) rfl ?_
  rw [hF.out]
  unfold S8.chainE
  rw [if_neg k3, if_neg k12, if_neg k0]
  exact ⟨rfl, S3, k1⟩
theorem g9_20 (b : Nat) (st : S8) (w : World) (S : SAt w b st) (hn : st.n ≤ 16777216) (hs : 0 ≤ st.h.seen ∧ st.h.seen ≤ 18446744073709551615) (hat : st.h.at_ = 20) :
    Calls Tryz.prog 19 #[.pointer (some ⟨b, 0, none⟩)] w fun e w' => e = .returned (.tuple #[]) ∧ SAt w' b st.chain9 ∧ K2 b st.g w w' := by
  have c13 : w.cell? ⟨b, 13, none⟩ = some (.int .i64 st.h.at_) := S.c_h_At
  rw [hat] at c13
  have hhat : Hid (st.h.at_ = 20) := hat
  clear hat
  go_enter Tryz.func19, Tryz.ntmps19
  go_wp2_with (go_at_call 48; refine (sChain9 b st _ S hn hs).mono ?_; rintro e w4 ⟨rfl, S4, k4⟩)
  first | go_end0 | refine bodyPost_ret (results_none rfl _ _ _) rfl ?_
  exact ⟨rfl, S4, k4⟩
/-- What the specification's step of the pool comes to. -/
def S8.go9 (st : S8) : S8 :=
  if st.h.at_ = 9 then st.free9 else
  if st.h.at_ = 10 then st.under9 else
  if st.h.at_ = 11 then st.want9 else
  if st.h.at_ = 12 then st.hold9 else
  if st.h.at_ = 13 then ((st.wrd 0 0 st.h.b 0).wr (st.blk 2) (wv 0 0 st.h.b 0)).to 21 else
  if st.h.at_ = 14 then st.mine9 else
  if st.h.at_ = 15 then ((st.wrd 0 0 st.h.c 0).wr st.value9 (wv 0 0 st.h.c 0)).reply 1 0 else
  if st.h.at_ = 16 then (st.rdS st.value9).reply 2 (uI (st.rd st.value9)) else
  if st.h.at_ = 17 then (st.intend 2 st.h.block).to 18 else
  if st.h.at_ = 18 then ((st.wrd 0 0 0 0).wr (st.blk 0) (wv 0 0 0 0)).to 19 else
  if st.h.at_ = 19 then (st.rd9 (st.root9 st.cls9)).to 20 else
  st.chain9
theorem sGo9 (b : Nat) (st : S8) (w : World) (S : SAt w b st) (hn : st.n ≤ 16777216) (hs : 0 ≤ st.h.seen ∧ st.h.seen ≤ 18446744073709551615) (hat : 9 ≤ st.h.at_ ∧ st.h.at_ ≤ 20) :
    Calls Tryz.prog 19 #[.pointer (some ⟨b, 0, none⟩)] w fun e w' => e = .returned (.tuple #[]) ∧ SAt w' b st.go9 ∧ K2 b st.g w w' := by
  unfold S8.go9
  by_cases k9 : st.h.at_ = 9
  · rw [if_pos k9]; exact g9_9 b st w S hn k9
  rw [if_neg k9]
  by_cases k10 : st.h.at_ = 10
  · rw [if_pos k10]; exact g9_10 b st w S hn k10
  rw [if_neg k10]
  by_cases k11 : st.h.at_ = 11
  · rw [if_pos k11]; exact g9_11 b st w S hn k11
  rw [if_neg k11]
  by_cases k12 : st.h.at_ = 12
  · rw [if_pos k12]; exact g9_12 b st w S hn k12
  rw [if_neg k12]
  by_cases k13 : st.h.at_ = 13
  · rw [if_pos k13]; exact g9_13 b st w S hn k13
  rw [if_neg k13]
  by_cases k14 : st.h.at_ = 14
  · rw [if_pos k14]; exact g9_14 b st w S hn k14
  rw [if_neg k14]
  by_cases k15 : st.h.at_ = 15
  · rw [if_pos k15]; exact g9_15 b st w S hn k15
  rw [if_neg k15]
  by_cases k16 : st.h.at_ = 16
  · rw [if_pos k16]; exact g9_16 b st w S hn k16
  rw [if_neg k16]
  by_cases k17 : st.h.at_ = 17
  · rw [if_pos k17]; exact g9_17 b st w S hn k17
  rw [if_neg k17]
  by_cases k18 : st.h.at_ = 18
  · rw [if_pos k18]; exact g9_18 b st w S hn k18
  rw [if_neg k18]
  by_cases k19 : st.h.at_ = 19
  · rw [if_pos k19]; exact g9_19 b st w S hn k19
  rw [if_neg k19]
  exact g9_20 b st w S hn hs (by omega)
end Go.Proofs.YtdebjfgflldpjaaGreat
namespace Go.Proofs.YtdebjfgflldpjaaGreat
open Go.RowKit
set_option maxRecDepth 100000
set_option linter.unusedVariables false
set_option linter.unusedSimpArgs false
theorem Sm.blk {s : S8} {t : I8} (M : Sm s t) (f : Int) : s.blk f = t.blk f := by unfold S8.blk I8.blk; rw [M.p, M.ss, M.l, M.c, M.k, M.h]
theorem Sm.cls {s : S8} {t : I8} (M : Sm s t) : s.cls9 = t.cls := by unfold S8.cls9 I8.cls; rw [M.p, M.ss, M.l, M.c, M.k, M.h]
theorem Sm.asked {s : S8} {t : I8} (M : Sm s t) : s.class9 = t.asked := by unfold S8.class9 I8.asked; rw [M.h]
theorem Sm.root9 {s : S8} {t : I8} (M : Sm s t) (c : Int) : s.root9 c = if inB c 0 1 = true then t.root c else -1 := by unfold S8.root9 S8.root I8.root; rw [M.p, M.ss, M.l, M.c, M.k]
theorem Sm.rd {s : S8} {t : I8} (M : Sm s t) (a : Int) : s.rd a = red t.xs a := by unfold S8.rd; rw [M.ar]
theorem Sm.rdY {s : S8} {t : I8} (M : Sm s t) {a : Int} (h : thr a t.n = true) : s.rdS a = s := by unfold S8.rdS; rw [M.n, h]; rfl
theorem Sm.rdN {s : S8} {t : I8} (M : Sm s t) {a : Int} (h : thr a t.n = false) : (s.rdS a).ok = false := by unfold S8.rdS; rw [M.n, h]; rfl
theorem reply_e (s : S8) (r o : Int) : s.reply r o = { s with h := { s.h with reply := r, out := o, at_ := 2 } } := by
  simp only [S8.reply, S8.u_At, S8.u_Out, S8.u_Reply, S8.uh]
theorem install_e (s : S8) (a x d g b : Int) : s.install a x d g b = { s with h := { s.h with addr := a, put := x, does := d, good := g, bad := b, at_ := 6 } } := by
  simp only [S8.install, S8.u_Addr, S8.u_Put, S8.u_Does, S8.u_Good, S8.u_Bad, S8.u_At, S8.uh]
theorem Agr.reply {s : S8} {o : Option I8} (H : Agr s o) (r u : Int) : Agr (s.reply r u) (o.map fun t => t.rep r u) := by
  rw [reply_e]
  exact H.map (fun h => { h with reply := r, out := u, at_ := 2 })
/-- A word that is not right, or a root of no class: nothing is done. -/
def Fin (s : S8) (o : Option I8) : Prop := (s.good = true ∧ (∃ t, fin8 o = some t ∧ t.xs = s.ar ∧ t.h = s.h ∧ t.d = s.d ∧ t.n = s.n) ∧ s.ar.length = s.n) ∨ (s.good = false ∧ fin8 o = none)
theorem Agr.fin {s : S8} {o : Option I8} (H : Agr s o) : Fin s o := by
  rcases fin_of H with ⟨g, h⟩ | h
  · cases o with
    | none => have hb : s.ok = false := H; rw [S8.good, hb] at g; cases g
    | some t => exact .inl ⟨g, h, H.1.len⟩
  · exact .inr h
theorem Fin.old {s : S8} {o : Option I8} (H : Fin s o) : (s.good = true ∧ ∃ t, fin8 o = some t ∧ t.xs = s.ar ∧ t.h = s.h ∧ t.d = s.d ∧ t.n = s.n) ∨ (s.good = false ∧ fin8 o = none) := by
  rcases H with ⟨g, h, -⟩ | h
  · exact .inl ⟨g, h⟩
  · exact .inr h
theorem Fin.len {s : S8} {o : Option I8} (H : Fin s o) : (Ans.of (fin8 o)).xs.length ≤ s.n := by
  rcases H with ⟨g, ⟨t, h1, h2, -, -, -⟩, hl⟩ | ⟨-, h⟩
  · rw [h1]
    show t.xs.length ≤ _
    rw [h2, hl]
    exact Nat.le_refl _
  · rw [h]
    exact Nat.zero_le _
theorem thr_neg {n : Nat} : thr (-1) n = false := by unfold thr; simp
theorem good_no {s : S8} (h : s.ok = false) : s.good = false := by unfold S8.good; rw [h]; rfl
theorem agr_prep {s : S8} {t : I8} (M : Sm s t) (ok : s.ok = true) (a block d g b : Int) : Agr ((s.wrd 0 s.h.for_ block s.h.last).install a (wv 0 s.h.for_ block s.h.last) d g b) (t.prepO a block d g b) := by
  rw [install_e]
  unfold I8.prepO
  rw [M.h]
  cases hw : wOk 0 t.h.for_ block t.h.last
  · rw [if_neg (by decide)]
    show (s.wrd 0 t.h.for_ block t.h.last).ok = false
    unfold S8.wrd
    rw [hw]
    rfl
  · rw [if_pos rfl]
    have e1 : s.wrd 0 t.h.for_ block t.h.last = s := by unfold S8.wrd; rw [hw]; rfl
    have e2 : wv 0 t.h.for_ block t.h.last = pk 0 t.h.for_ block t.h.last := by unfold wv; rw [hw]; rfl
    rw [e1, e2]
    exact ⟨M.hand (fun h => { h with addr := a, put := pk 0 t.h.for_ block t.h.last, does := d, good := g, bad := b, at_ := 6 }), ok⟩
theorem wrd_ok {s : S8} (h : s.ok = false) (k p i v : Int) : (s.wrd k p i v).ok = false := by unfold S8.wrd; split <;> simp [h]
theorem inst_ok {s : S8} (h : s.ok = false) (a x d g b : Int) : (s.install a x d g b).ok = false := by rw [install_e]; exact h
/-- What is wanted. -/
theorem agr_want {s : S8} {t : I8} (M : Sm s t) (ok : s.ok = true) (ha : aOk t.p t.s t.l t.c t.k t.n = true) : Agr s.want9 t.wantO := by
  unfold S8.want9 I8.wantO
  have H := agr_intend M ok 1 t.h.block
  have e : s.h.block = t.h.block := by rw [M.h]
  rw [e]
  cases hr : t.intO 1 t.h.block with
  | none =>
    rw [hr] at H
    have hb : (s.intend 1 t.h.block).ok = false := H
    show Agr _ none
    unfold S8.wantI
    refine inst_ok (wrd_ok ?_ _ _ _ _) _ _ _ _ _
    unfold S8.wantU
    split
    · rfl
    · exact hb
  | some u =>
    rw [hr] at H
    obtain ⟨N, ok2⟩ := H
    show Agr _ (if inB u.asked 0 1 = true then u.prepO (u.root u.asked) u.h.next 1 12 9 else none)
    have hpl : u.p = t.p ∧ u.s = t.s ∧ u.l = t.l ∧ u.c = t.c ∧ u.k = t.k ∧ u.n = t.n := by
      have := (Meas.hand t { t.h with last := wrap64 (t.h.last + 1) }).trans (Meas.wrO hr)
      exact ⟨this.p, this.s, this.l, this.c, this.k, this.n⟩
    generalize s.intend 1 t.h.block = s1 at *
    rw [N.asked, N.root9]
    unfold S8.wantU
    rw [N.asked, N.root9]
    cases hc : inB u.asked 0 1
    · rw [if_neg (show ¬ (false = true) by decide), if_neg (show ¬ (false = true) by decide), if_pos (show (-1 : Int) < 0 by decide)]
      show (S8.wantI _ _).ok = false
      unfold S8.wantI
      exact inst_ok (wrd_ok rfl _ _ _ _) _ _ _ _ _
    · have hc2 : 0 ≤ u.asked ∧ u.asked ≤ 1 := by unfold inB at hc; simpa using hc
      have ht : thr (u.root u.asked) u.n = true := by
        unfold I8.root
        obtain ⟨h1, h2, h3, h4, h5, h6⟩ := hpl
        rw [h1, h2, h3, h4, h5, h6]
        exact root_thr ha hc2.1 (by omega)
      have hn : ¬ u.root u.asked < 0 := by unfold thr at ht; have := of_decide_eq_true ht; omega
      rw [if_pos rfl, if_pos rfl, if_neg hn]
      unfold S8.wantI
      have e2 : s1.h.next = u.h.next := by rw [N.h]
      rw [e2]
      exact agr_prep N ok2 _ _ _ _ _
theorem agr_free {s : S8} {t : I8} (M : Sm s t) (ok : s.ok = true) (ha : aOk t.p t.s t.l t.c t.k t.n = true) : Agr s.free9 t.freeO := by
  unfold S8.free9 I8.freeO S8.rd9
  rw [M.asked, M.root9]
  cases hc : inB t.asked 0 1
  · rw [if_neg (show ¬ (false = true) by decide), if_neg (show ¬ (false = true) by decide)]
    have hb := M.rdN (a := -1) thr_neg
    show (S8.ok _) = false
    split
    · rw [reply_e]; exact hb
    · exact hb
  · rw [if_pos (show true = true from rfl), if_pos (show true = true from rfl)]
    have hc2 : 0 ≤ t.asked ∧ t.asked ≤ 1 := by unfold inB at hc; simpa using hc
    have ht : thr (t.root t.asked) t.n = true := root_thr ha hc2.1 (by omega)
    rw [M.rdY ht, M.rd]
    unfold I8.freeT
    by_cases h0 : uI (red t.xs (t.root t.asked)) = 0
    · rw [if_pos h0, if_pos h0, reply_e]
      exact ⟨M.hand (fun h => { h with seen := red t.xs (t.root t.asked), reply := 4, out := 0, at_ := 2 }), ok⟩
    · rw [if_neg h0, if_neg h0]
      exact ⟨M.hand (fun h => { h with seen := red t.xs (t.root t.asked), block := uI (red t.xs (t.root t.asked)), at_ := 10 }), ok⟩
theorem agr_under {s : S8} {t : I8} (M : Sm s t) (ok : s.ok = true) : Agr s.under9 t.underO := by
  unfold S8.under9 I8.underO
  rw [M.blk]
  cases ht : thr (t.blk 1) t.n
  · rw [if_neg (by decide)]
    exact M.rdN ht
  · rw [if_pos rfl, M.rdY ht, M.rd]
    exact ⟨M.hand (fun h => { h with next := uI (red t.xs (t.blk 1)), at_ := 11 }), ok⟩
theorem agr_hold {s : S8} {t : I8} (M : Sm s t) (ok : s.ok = true) : Agr s.hold9 t.holdO := by
  unfold S8.hold9 I8.holdO
  have H := agr_put M ok (t.blk 0) 1 t.h.for_ 0 0
  rw [M.blk, M.h]
  by_cases hk : t.h.code = 2
  · simp only [if_pos hk]
    exact H.reply 1 t.h.block
  · simp only [if_neg hk]
    exact H.to 13
theorem agr_mine {s : S8} {t : I8} (M : Sm s t) (ok : s.ok = true) : Agr s.mine9 t.mineO := by
  unfold S8.mine9 I8.mineO
  have e : s.mineAt9 = t.mineAt := by unfold S8.mineAt9 I8.mineAt; rw [M.p, M.ss, M.l, M.c, M.k, M.h]
  rw [e]
  cases ht : thr t.mineAt t.n
  · rw [if_neg (by decide)]
    have hb := M.rdN ht
    show (S8.ok _) = false
    unfold S8.mineT
    split
    · exact hb
    · rw [reply_e]; exact hb
  · rw [if_pos rfl, M.rdY ht, M.rd]
    unfold S8.mineT I8.mineT
    rw [M.h]
    cases hy : hsay9 1 t.h.for_ (red t.xs t.mineAt)
    · rw [if_neg (by decide), if_neg (by decide), reply_e]
      exact ⟨M.hand (fun h => { h with reply := 7, out := 0, at_ := 2 }), ok⟩
    · rw [if_pos rfl, if_pos rfl]
      have := M.hand (fun h => { h with block := h.a, at_ := if h.code = 3 then 17 else if h.code = 4 then 15 else 16 })
      rw [M.h] at this
      exact ⟨this, ok⟩
theorem agr_fetch {s : S8} {t : I8} (M : Sm s t) (ok : s.ok = true) : Agr ((s.rdS s.value9).reply 2 (uI (s.rd s.value9))) t.fetchO := by
  unfold I8.fetchO
  have e : s.value9 = t.valAt := by unfold S8.value9 I8.valAt I8.blk w64; rw [M.p, M.ss, M.l, M.c, M.k, M.h]
  rw [e]
  cases ht : thr t.valAt t.n
  · rw [if_neg (by decide), reply_e]
    exact M.rdN ht
  · rw [if_pos rfl, M.rdY ht, M.rd, reply_e]
    exact ⟨M.hand (fun h => { h with reply := 2, out := uI (red t.xs t.valAt), at_ := 2 }), ok⟩
theorem agr_store {s : S8} {t : I8} (M : Sm s t) (ok : s.ok = true) : Agr (((s.wrd 0 0 s.h.c 0).wr s.value9 (wv 0 0 s.h.c 0)).reply 1 0) t.storeO := by
  unfold I8.storeO
  have e : s.value9 = t.blk (wrap64 (2 + t.h.b)) := by unfold S8.value9 I8.blk w64; rw [M.p, M.ss, M.l, M.c, M.k, M.h]
  rw [e, M.h]
  exact (agr_put M ok _ _ _ _ _).reply 1 0
theorem agr_list {s : S8} {t : I8} (M : Sm s t) (ok : s.ok = true) (ha : aOk t.p t.s t.l t.c t.k t.n = true) : Agr ((s.rd9 (s.root9 s.cls9)).to 20) t.listO := by
  unfold I8.listO S8.rd9
  rw [M.cls, M.root9]
  cases hc : inB t.cls 0 1
  · rw [if_neg (show ¬ (false = true) by decide), if_neg (show ¬ (false = true) by decide)]
    exact M.rdN (a := -1) thr_neg
  · rw [if_pos (show true = true from rfl), if_pos (show true = true from rfl)]
    have hc2 : 0 ≤ t.cls ∧ t.cls ≤ 1 := by unfold inB at hc; simpa using hc
    have ht : thr (t.root t.cls) t.n = true := root_thr ha hc2.1 (by omega)
    rw [M.rdY ht, M.rd]
    exact ⟨M.hand (fun h => { h with seen := red t.xs (t.root t.cls), at_ := 20 }), ok⟩
theorem hok_addr {p s l c k : Int} {h : Hd} (hu : h.up = true) (ha : h.addr = -1) : hOk p s l c k h = false := by
  cases hh : hOk p s l c k h
  · rfl
  · have := (swap_y2 (hOk_y hh hu).2.1).1
    omega
theorem chainE_ok {I : S8} (h : I.ok = false) (c i : Int) : (I.chainE c i).ok = false := by
  unfold S8.chainE
  split
  · exact h
  · split
    · exact h
    · split <;> exact h
theorem chainE_addr (I : S8) (c i : Int) : (I.chainE c i).h.addr = I.h.addr := by
  unfold S8.chainE
  split
  · rfl
  · split
    · rfl
    · split <;> rfl
theorem chainE_up (I : S8) (c i : Int) : (I.chainE c i).h.up = I.h.up := by
  unfold S8.chainE
  split
  · rfl
  · split
    · rfl
    · split <;> rfl
theorem fin_chain {s : S8} {t : I8} (M : Sm s t) (ok : s.ok = true) (hu : t.h.up = true) : Fin s.chain9 t.chainO := by
  unfold S8.chain9 I8.chainO
  have H := agr_put M ok (t.blk 1) 0 0 (uI t.h.seen) 0
  have e : s.chainT = (s.wrd 0 0 (uI t.h.seen) 0).wr (t.blk 1) (wv 0 0 (uI t.h.seen) 0) := by unfold S8.chainT; rw [M.blk, M.h]
  rw [← e] at H
  rw [M.cls, M.h]
  cases hr : t.wrO (t.blk 1) 0 0 (uI t.h.seen) 0 with
  | none =>
    rw [hr] at H
    have hb : s.chainT.ok = false := H
    refine Agr.fin (o := none) ?_
    show (S8.chainE _ _ _).ok = false
    refine chainE_ok ?_ _ _
    unfold S8.chainI
    exact inst_ok (wrd_ok hb _ _ _ _) _ _ _ _ _
  | some u =>
    rw [hr] at H
    obtain ⟨N, ok2⟩ := H
    have uh := I8.wrO_h hr
    have me := Meas.wrO hr
    have hcl : u.cls = t.cls := by unfold I8.cls; rw [uh, me.p, me.s, me.l, me.c, me.k]
    generalize s.chainT = s1 at *
    show Fin ((s1.chainI (s1.root9 t.cls)).chainE t.h.code t.h.index) (u.chain2.map t.done3)
    rw [N.root9]
    unfold I8.chain2
    rw [hcl]
    cases hc : inB t.cls 0 1
    · rw [if_neg (show ¬ (false = true) by decide), if_neg (show ¬ (false = true) by decide)]
      refine .inr ⟨?_, rfl⟩
      unfold S8.good
      have e1 : (S8.chainE (s1.chainI (-1)) t.h.code t.h.index).h.addr = -1 := by
        rw [chainE_addr]; unfold S8.chainI; rw [install_e]
      have e2 : (S8.chainE (s1.chainI (-1)) t.h.code t.h.index).h.up = true := by
        rw [chainE_up]; unfold S8.chainI; rw [install_e]
        show (S8.h (s1.wrd _ _ _ _)).up = true
        rw [S8.wrd_h, N.h, uh]
        exact hu
      rw [hok_addr e2 e1]
      simp
    · rw [if_pos (show true = true from rfl), if_pos (show true = true from rfl)]
      refine Agr.fin ?_
      unfold S8.chainI I8.prepO
      rw [install_e, N.h]
      cases hw : wOk 0 u.h.for_ u.h.block u.h.last
      · rw [if_neg (show ¬ (false = true) by decide)]
        show (S8.chainE _ _ _).ok = false
        refine chainE_ok ?_ _ _
        show (s1.wrd 0 u.h.for_ u.h.block u.h.last).ok = false
        unfold S8.wrd
        rw [hw]
        rfl
      · rw [if_pos (show true = true from rfl)]
        have e1 : s1.wrd 0 u.h.for_ u.h.block u.h.last = s1 := by unfold S8.wrd; rw [hw]; rfl
        have e2 : wv 0 u.h.for_ u.h.block u.h.last = pk 0 u.h.for_ u.h.block u.h.last := by unfold wv; rw [hw]; rfl
        rw [e1, e2]
        show Agr _ (some (t.done3 _))
        unfold S8.chainE I8.done3 I8.behind
        rw [uh]
        by_cases k3 : t.h.code = 3
        · simp only [if_pos k3]
          have := N.hand (fun h => { h with addr := u.root t.cls, put := pk 0 t.h.for_ t.h.block t.h.last, does := 2, good := 2, bad := 19, at_ := 6, reply := 1, out := 0 })
          rw [uh] at this
          exact ⟨this, ok2⟩
        · simp only [if_neg k3]
          by_cases k12 : t.h.code = 12
          · simp only [if_pos k12]
            have := N.hand (fun h => { h with addr := u.root t.cls, put := pk 0 t.h.for_ t.h.block t.h.last, does := 2, good := 69, bad := 19, at_ := 6 })
            rw [uh] at this
            exact ⟨this, ok2⟩
          · simp only [if_neg k12]
            by_cases k0 : t.h.index = 0
            · simp only [if_pos k0]
              have := N.hand (fun h => { h with addr := u.root t.cls, put := pk 0 t.h.for_ t.h.block t.h.last, does := 2, good := 64, bad := 19, at_ := 6 })
              rw [uh] at this
              exact ⟨this, ok2⟩
            · simp only [if_neg k0]
              have := N.hand (fun h => { h with addr := u.root t.cls, put := pk 0 t.h.for_ t.h.block t.h.last, does := 2, good := 67, bad := 19, at_ := 6 })
              rw [uh] at this
              exact ⟨this, ok2⟩
theorem join9 {s : S8} {t : I8} (M : Sm s t) (ok : s.ok = true) (ha : aOk t.p t.s t.l t.c t.k t.n = true) (hu : t.h.up = true) : Fin s.go9 t.pnext := by
  have hc : s.h.at_ = t.h.at_ := by rw [M.h]
  unfold S8.go9 I8.pnext
  rw [hc]
  by_cases k9 : t.h.at_ = 9
  · rw [if_pos k9, if_pos k9]
    exact (agr_free M ok ha).fin
  rw [if_neg k9, if_neg k9]
  by_cases k10 : t.h.at_ = 10
  · rw [if_pos k10, if_pos k10]
    exact (agr_under M ok).fin
  rw [if_neg k10, if_neg k10]
  by_cases k11 : t.h.at_ = 11
  · rw [if_pos k11, if_pos k11]
    exact (agr_want M ok ha).fin
  rw [if_neg k11, if_neg k11]
  by_cases k12 : t.h.at_ = 12
  · rw [if_pos k12, if_pos k12]
    exact (agr_hold M ok).fin
  rw [if_neg k12, if_neg k12]
  by_cases k13 : t.h.at_ = 13
  · rw [if_pos k13, if_pos k13]
    unfold I8.fillO
    rw [M.blk, M.h]
    exact ((agr_put M ok _ _ _ _ _).to 21).fin
  rw [if_neg k13, if_neg k13]
  by_cases k14 : t.h.at_ = 14
  · rw [if_pos k14, if_pos k14]
    exact (agr_mine M ok).fin
  rw [if_neg k14, if_neg k14]
  by_cases k15 : t.h.at_ = 15
  · rw [if_pos k15, if_pos k15]
    exact (agr_store M ok).fin
  rw [if_neg k15, if_neg k15]
  by_cases k16 : t.h.at_ = 16
  · rw [if_pos k16, if_pos k16]
    exact (agr_fetch M ok).fin
  rw [if_neg k16, if_neg k16]
  by_cases k17 : t.h.at_ = 17
  · rw [if_pos k17, if_pos k17]
    unfold I8.yieldO
    rw [M.h]
    exact ((agr_intend M ok _ _).to 18).fin
  rw [if_neg k17, if_neg k17]
  by_cases k18 : t.h.at_ = 18
  · rw [if_pos k18, if_pos k18]
    unfold I8.looseO
    rw [M.blk]
    exact ((agr_put M ok _ _ _ _ _).to 19).fin
  rw [if_neg k18, if_neg k18]
  by_cases k19 : t.h.at_ = 19
  · rw [if_pos k19, if_pos k19]
    exact (agr_list M ok ha).fin
  rw [if_neg k19, if_neg k19]
  exact fin_chain M ok hu
theorem Nc.reply {a b : S8} (h : Nc a b) (r o : Int) : Nc a (b.reply r o) := by rw [reply_e]; exact h.hand _
theorem Nc.install {a b : S8} (h : Nc a b) (x y z u v : Int) : Nc a (b.install x y z u v) := by rw [install_e]; exact h.hand _
theorem Nc.put {a b : S8} (h : Nc a b) (x k p i v : Int) : Nc a ((b.wrd k p i v).wr x (wv k p i v)) := (h.wrd _ _ _ _).wr _ _ (wv_bd _ _ _ _)
theorem nc9 {s : S8} (h : Nc s s) : Nc s s.go9 := by
  unfold S8.go9
  split
  · unfold S8.free9 S8.rd9
    split
    · exact (Nc.hand (h.rdS _) _).reply _ _
    · exact (Nc.hand (h.rdS _) _)
  split
  · exact (h.rdS _).hand _
  split
  · unfold S8.want9 S8.wantI
    refine Nc.install (Nc.wrd ?_ _ _ _ _) _ _ _ _ _
    unfold S8.wantU
    split
    · exact (h.intend _ _).bad
    · exact h.intend _ _
  split
  · unfold S8.hold9
    split
    · exact (h.put _ _ _ _ _).reply _ _
    · exact (h.put _ _ _ _ _).hand _
  split
  · exact (h.put _ _ _ _ _).hand _
  split
  · unfold S8.mine9 S8.mineT
    split
    · exact (h.rdS _).hand _
    · exact (h.rdS _).reply _ _
  split
  · exact (h.put _ _ _ _ _).reply _ _
  split
  · exact (h.rdS _).reply _ _
  split
  · exact (h.intend _ _).hand _
  split
  · exact (h.put _ _ _ _ _).hand _
  split
  · exact ((h.rdS _).hand _).hand _
  · unfold S8.chain9 S8.chainI S8.chainT
    have k := Nc.install (Nc.wrd (h.put (s.blk 1) 0 0 (uI s.h.seen) 0) 0 (S8.h ((s.wrd 0 0 (uI s.h.seen) 0).wr (s.blk 1) (wv 0 0 (uI s.h.seen) 0))).for_ (S8.h ((s.wrd 0 0 (uI s.h.seen) 0).wr (s.blk 1) (wv 0 0 (uI s.h.seen) 0))).block (S8.h ((s.wrd 0 0 (uI s.h.seen) 0).wr (s.blk 1) (wv 0 0 (uI s.h.seen) 0))).last)
    unfold S8.chainE
    split
    · exact (k _ _ _ _ _).hand _
    · split
      · exact (k _ _ _ _ _).hand _
      · split
        · exact (k _ _ _ _ _).hand _
        · exact k _ _ _ _ _
/-- The pool's step keeps the measure of its words. -/
theorem Meas.intO {st t : I8} {k b : Int} (h : st.intO k b = some t) : Meas st t := (Meas.hand st { st.h with last := wrap64 (st.h.last + 1) }).trans (Meas.wrO h)
theorem Meas.prepO {st t : I8} {a b d g c : Int} (h : st.prepO a b d g c = some t) : Meas st t := by
  unfold I8.prepO at h
  split at h
  · cases h; exact Meas.hand _ _
  · cases h
theorem Meas.pnext {st t : I8} (h : st.pnext = some t) : Meas st t := by
  unfold I8.pnext at h
  split at h
  · unfold I8.freeO at h
    split at h
    · cases h; unfold I8.freeT; split <;> exact Meas.hand st _
    · cases h
  split at h
  · unfold I8.underO at h
    split at h
    · cases h; exact Meas.hand st _
    · cases h
  split at h
  · unfold I8.wantO at h
    cases hr : st.intO 1 st.h.block with
    | none => rw [hr] at h; cases h
    | some u =>
      rw [hr] at h
      have h2 : (if inB u.asked 0 1 = true then u.prepO (u.root u.asked) u.h.next 1 12 9 else none) = some t := h
      split at h2
      · exact (Meas.intO hr).trans (Meas.prepO h2)
      · cases h2
  split at h
  · unfold I8.holdO at h
    cases hr : st.wrO (st.blk 0) 1 st.h.for_ 0 0 with
    | none => rw [hr] at h; cases h
    | some u =>
      rw [hr] at h
      have h2 : some (if st.h.code = 2 then u.rep 1 st.h.block else u.to 13) = some t := h
      cases h2
      split <;> exact (Meas.wrO hr).trans (Meas.hand u _)
  split at h
  · unfold I8.fillO at h
    cases hr : st.wrO (st.blk 2) 0 0 st.h.b 0 with
    | none => rw [hr] at h; cases h
    | some u => rw [hr] at h; cases h; exact (Meas.wrO hr).trans (Meas.hand u _)
  split at h
  · unfold I8.mineO at h
    split at h
    · cases h; unfold I8.mineT; split <;> exact Meas.hand st _
    · cases h
  split at h
  · unfold I8.storeO at h
    cases hr : st.wrO (st.blk (wrap64 (2 + st.h.b))) 0 0 st.h.c 0 with
    | none => rw [hr] at h; cases h
    | some u => rw [hr] at h; cases h; exact (Meas.wrO hr).trans (Meas.hand u _)
  split at h
  · unfold I8.fetchO at h
    split at h
    · cases h; exact Meas.hand st _
    · cases h
  split at h
  · unfold I8.yieldO at h
    cases hr : st.intO 2 st.h.block with
    | none => rw [hr] at h; cases h
    | some u => rw [hr] at h; cases h; exact (Meas.intO hr).trans (Meas.hand u _)
  split at h
  · unfold I8.looseO at h
    cases hr : st.wrO (st.blk 0) 0 0 0 0 with
    | none => rw [hr] at h; cases h
    | some u => rw [hr] at h; cases h; exact (Meas.wrO hr).trans (Meas.hand u _)
  split at h
  · unfold I8.listO at h
    split at h
    · cases h; exact Meas.hand st _
    · cases h
  · unfold I8.chainO at h
    cases hr : st.wrO (st.blk 1) 0 0 (uI st.h.seen) 0 with
    | none => rw [hr] at h; cases h
    | some u =>
      rw [hr] at h
      have h2 : u.chain2.map st.done3 = some t := h
      cases hp : u.chain2 with
      | none => rw [hp] at h2; cases h2
      | some v =>
        rw [hp] at h2
        cases h2
        unfold I8.chain2 at hp
        split at hp
        · have m := (Meas.wrO hr).trans (Meas.prepO hp)
          unfold I8.done3
          split
          · exact m.trans (Meas.hand v _)
          · exact m
        · cases hp
end Go.Proofs.YtdebjfgflldpjaaGreat
namespace Go.Proofs.YtdebjfgflldpjaaGreat
open Go.RowKit
set_option maxRecDepth 100000
set_option linter.unusedVariables false
set_option linter.unusedSimpArgs false
theorem lay9 {a : Int} (h : layer a = 9) : 9 ≤ a ∧ a ≤ 20 := by
  unfold layer at h
  repeat' (split at h)
  all_goals omega
/-- What PoolStep answers. -/
noncomputable def ans9 (p s l c k : Int) (n : Nat) (xs : List Int) (me : Int) (h : Hd) : Ans := if mayB p s l c k n me h 9 = true then Ans.of (fin8 (st0 p s l c k (.slice none 0 0) n xs h 57).pnext) else Ans.zero
set_option maxHeartbeats 8000000 in
theorem sPool (p s l c k : Int) (g n cc : Nat) (xs : List Int) (me : Int) (h : Hd) (w : World) (G : Ws w g n cc xs) (hn : n ≤ 16777216) (hs : 0 ≤ h.seen ∧ h.seen ≤ 18446744073709551615) (hp : 0 ≤ h.put ∧ h.put ≤ 18446744073709551615) :
    Calls Tryz.prog 5 #[.agg #[.int .i64 p, .int .i64 s, .int .i64 l, .int .i64 c, .int .i64 k], .slice (some ⟨g, 0, none⟩) n cc, .int .i64 me, .agg h.ar] w (OutR w (ans9 p s l c k n xs me h)) := by
  unfold ans9
  cases hm : mayB p s l c k n me h 9
  · rw [if_neg (by decide)]
    go_enter Tryz.func5, Tryz.ntmps5
    go_upto_region 1 with fail
    refine wp_at (fun W => At W w.heap.size #[.int .i64 p, .int .i64 s, .int .i64 l, .int .i64 c, .int .i64 k] 35 ∧ At W (w.heap.size + 1) h.ar 28 ∧ At W (w.heap.size + 2) doneZ.toArray 32 ∧ Below w.heap.size w W) (three_box w _ _ _ _ _ _) ?_
    rintro w1 ⟨P, A, R, z⟩
    obtain ⟨d0, d1, d2, d3, d4⟩ := P.five
    go_wp2_with (first
      | (refine loadHg (by rfl) (.tmp 7) rfl (w.heap.size + 1) h rfl A ?_)
      | (go_at_call 17; refine (sMay p s l c k _ n cc me h 9 _ hn).mono ?_; rintro e w2 ⟨rfl, hb⟩; rw [hm]; replace R := R.keep hb; replace z := z.trans (hb.mono z.size); clear hb)
      | (refine wpList_built rfl 32 #[] rfl [] rfl _ bDone0 ?_)
      | (refine storeDn rfl (.tmp 8) (.tmp 17) rfl (w.heap.size + 2) (.slice none 0 0) Hd.zero Dd.zero rfl rfl rfl R rfl ?_; intro w3 R3 kk))
    refine bodyPost_ret (resDn2 (v := .slice none 0 0) (h := Hd.zero) (d := Dd.zero) 8 9 rfl rfl rfl R3) rfl ?_
    exact OutR.zero (z.trans (kk.below (by omega) z.size))
  · rw [if_pos rfl]
    have hao := (may_y hm).1
    have hup := (may_y hm).2.2.1
    have hat := lay9 (may_y hm).2.2.2
    have hl := G.len
    have hpk : Hid (∀ w3 b g' c' ra, SAt w3 b (s0 p s l c k g' n c' xs ra 0 [] me h) → ∃ st : S8, SAt w3 b st ∧ Fin st.go9 (st0 p s l c k (.slice none 0 0) n xs h 57).pnext ∧ Nc st st.go9 ∧ st.h = h ∧ st.n = n ∧ st.g = g') := fun w3 b g' c' ra S =>
      ⟨_, S, join9 (sm0 p s l c k g' n c' xs ra 0 [] me h (.slice none 0 0) 57 hl) rfl hao hup, nc9 (nc0 p s l c k g' n c' xs ra 0 [] me h G.bd), rfl, rfl, rfl⟩
    obtain ⟨o, ho⟩ : ∃ o, Hid ((st0 p s l c k (.slice none 0 0) n xs h 57).pnext = o) := ⟨_, rfl⟩
    rw [ho.out] at hpk
    rw [ho.out]
    clear ho hl
    go_enter Tryz.func5, Tryz.ntmps5
    go_upto_region 1 with fail
    refine wp_at (fun W => At W w.heap.size #[.int .i64 p, .int .i64 s, .int .i64 l, .int .i64 c, .int .i64 k] 35 ∧ At W (w.heap.size + 1) h.ar 28 ∧ At W (w.heap.size + 2) doneZ.toArray 32 ∧ Below w.heap.size w W) (three_box w _ _ _ _ _ _) ?_
    rintro w1 ⟨P, A, R, z⟩
    obtain ⟨d0, d1, d2, d3, d4⟩ := P.five
    go_upto_region 3 with (first
      | (refine loadHg (by rfl) (.tmp 7) rfl (w.heap.size + 1) h rfl A ?_)
      | (go_at_call 17; refine (sMay p s l c k _ n cc me h 9 _ hn).mono ?_; rintro e w2 ⟨rfl, hb⟩; rw [hm]; replace R := R.keep hb; replace P := P.keep hb; replace A := A.keep hb; replace G := (G.keep z).keep hb; replace z := z.trans (hb.mono z.size); clear hb d0 d1 d2 d3 d4; obtain ⟨d0, d1, d2, d3, d4⟩ := P.five))
    go_upto_region 4 with (first
      | (refine loadHg (by rfl) (.tmp 7) rfl (w.heap.size + 1) h rfl (A.keep ((Below.refl _ _).alloc (Nat.le_refl _) _)) ?_)
      | (go_at_call 18; refine (sNew8 p s l c k g n cc xs _ 0 [] me h _ (G.keep ((Below.refl _ _).alloc (Nat.le_refl _) _)) hn (.inl rfl)).mono ?_; rintro e w3 ⟨b, g', c', rfl, hbb, hgg, S, hb⟩))
    obtain ⟨st, S, J, N, sh, sn, sg⟩ := hpk.out _ _ _ _ _ S
    have za := (Below.refl w2.heap.size w2).alloc (Nat.le_refl _) (.cells #[] 2)
    have hwb : w2.heap.size < b := by have := hbb; simp at this; omega
    have hwg : w2.heap.size < g' := by have := hgg; simp at this; omega
    have Rl := R.lt
    replace R := (R.keep za).keep hb
    replace z := (z.trans (za.mono z.size)).trans (hb.mono (by have := z.size; simp; omega))
    clear hbb hgg hb za P A G d0 d1 d2 d3 d4 hpk
    have hn' : st.n ≤ 16777216 := by rw [sn]; exact hn
    have CG := sGo9 b st w3 S hn' (by rw [sh]; exact hs) (by rw [sh]; exact hat)
    have z0 := z.size
    go_upto_region 5 with (go_at_call 19; refine CG.mono ?_; rintro e w4 ⟨rfl, S4, k4⟩)
    have Ng := N.g
    rw [sg] at Ng k4
    replace R : At w4 (w.heap.size + 2) doneZ.toArray 32 := ⟨(k4.block _ R.lt (by omega) (by omega)).trans R.is⟩
    have z4 : Below w.heap.size w w4 := z.trans (below_of_K2 k4 (by omega) (by omega) z0)
    obtain ⟨F, hF⟩ : ∃ F, Hid (st.go9 = F) := ⟨_, rfl⟩
    rw [hF.out] at S4 J N Ng
    clear CG hF k4 S
    have zs4 := z4.size
    rcases J.old with ⟨hgood, t, ht, tx, th, td, tn⟩ | ⟨hbad, ht⟩
    · have hA : Hid (Ans.of (fin8 o) = ⟨F.ar, F.h, F.d, true⟩) := by unfold Hid; rw [ht]; show (⟨t.xs, t.h, t.d, true⟩ : Ans) = _; rw [tx, th, td]
      clear ht tx th td tn J
      go_wp2_with (first
        | (go_at_call 20; refine (sDoneY b F _ S4 hgood).mono ?_; rintro e w5 ⟨rfl, GF, hb5⟩; rw [Ng] at GF; replace R := R.keep hb5; replace z4 := z4.trans (hb5.mono zs4))
        | (refine storeDn rfl (.tmp 8) (.tmp 28) rfl (w.heap.size + 2) (.slice (some ⟨g', 0, none⟩) F.n F.cc) F.h F.d rfl rfl rfl R rfl ?_; intro w6 R6 kk))
      refine bodyPost_ret (resDn2 (v := .slice (some ⟨g', 0, none⟩) F.n F.cc) (h := F.h) (d := F.d) 8 9 rfl rfl rfl R6) rfl ?_
      rw [hA.out]
      exact ⟨some ⟨g', 0, none⟩, F.n, F.cc, rfl, .inr ⟨g', rfl, by omega, GF.kept kk (by omega)⟩, z4.trans (kk.below (by omega) z4.size)⟩
    · have hA : Hid (Ans.of (fin8 o) = Ans.zero) := by unfold Hid; rw [ht]; rfl
      clear ht J
      go_wp2_with (first
        | (go_at_call 20; refine (sDoneN b F _ S4 hbad N.tn N.was).mono ?_; rintro e w5 ⟨rfl, k5⟩; replace R : At w5 (w.heap.size + 2) doneZ.toArray 32 := ⟨(k5.block _ R.lt (by omega) (by omega)).trans R.is⟩; replace z4 := z4.trans (below_of_K2 k5 (by omega) (by omega) zs4))
        | (refine storeDn rfl (.tmp 8) (.tmp 28) rfl (w.heap.size + 2) (.slice none 0 0) Hd.zero Dd.zero rfl rfl rfl R rfl ?_; intro w6 R6 kk))
      refine bodyPost_ret (resDn2 (v := .slice none 0 0) (h := Hd.zero) (d := Dd.zero) 8 9 rfl rfl rfl R6) rfl ?_
      rw [hA.out]
      exact OutR.zero (z4.trans (kk.below (by omega) z4.size))
end Go.Proofs.YtdebjfgflldpjaaGreat
namespace Go.Proofs.YtdebjfgflldpjaaGreat
open Go.RowKit
set_option maxRecDepth 100000
set_option linter.unusedVariables false
set_option linter.unusedSimpArgs false
theorem infoPo (st : I8) : (Tryz.prog.info? 57).map (·.size) = some st.vs.length := by kernel_rfl
theorem bPool (st : I8) : Tryz.prog.built 57 [(0, .agg st.ar)] = some st.ar := by kernel_rfl
theorem storePo {ops : Array Oper} {rest : List Oper} {op : Oper} {a : Act} {w : World} {Q : Exit → Act → World → Prop} (hgd : op.guard = none) (x y : Operand) (ho : op.op = .store 57 x y) (st : I8) (hp : st.pv.oneCell' = true) (hx : a.eval x = .pointer (some ⟨w.heap.size, 0, none⟩)) (hy : a.eval y = .agg st.ar) {cs : Array Value} {t : TypeId} (hs : cs.size = 49)
    (hh : ∀ w', At w' w.heap.size st.ar t → Below w.heap.size w w' → wpList Tryz.prog ops Q rest (a.put op.dst undef) w') : wpList Tryz.prog ops Q (op :: rest) a (w.alloc (.cells cs t)) :=
  newV (vs := st.vs) (infoPo st) (st.one hp) hgd x y ho hx hy (by rw [hs]; rfl) fun w' Z hb _ => hh w' Z hb
set_option maxHeartbeats 8000000 in
theorem iPoolN (p s l c k : Int) (g n cc : Nat) (xs : List Int) (me : Int) (h : Hd) (w : World) (G : Ws w g n cc xs) (hn : n ≤ 16777216) (hm : mayB p s l c k n me h 9 = false) :
    Calls Tryz.prog 9 #[.agg #[.int .i64 p, .int .i64 s, .int .i64 l, .int .i64 c, .int .i64 k], .slice (some ⟨g, 0, none⟩) n cc, .int .i64 me, .agg h.ar] w fun e w' => e = .returned (.tuple #[.agg doneZ.toArray, .bool false]) ∧ Below w.heap.size w w' := by
  go_enter Tryz.func9, Tryz.ntmps9
  go_upto_region 1 with fail
  refine wp_at (fun W => At W w.heap.size #[.int .i64 p, .int .i64 s, .int .i64 l, .int .i64 c, .int .i64 k] 35 ∧ At W (w.heap.size + 1) h.ar 28 ∧ At W (w.heap.size + 2) doneZ.toArray 32 ∧ Below w.heap.size w W) (three_box w _ _ _ _ _ _) ?_
  rintro w1 ⟨P, A, R, z⟩
  obtain ⟨d0, d1, d2, d3, d4⟩ := P.five
  go_wp2_with (first
    | (refine loadHg (by rfl) (.tmp 7) rfl (w.heap.size + 1) h rfl A ?_)
    | (go_at_call 21; refine (iMay p s l c k _ n cc me h 9 _ hn).mono ?_; rintro e w2 ⟨rfl, hb⟩; rw [hm]; replace R := R.keep hb; replace z := z.trans (hb.mono z.size); clear hb)
    | (refine wpList_built rfl 32 #[] rfl [] rfl _ bDone0 ?_)
    | (refine storeDn rfl (.tmp 8) (.tmp 17) rfl (w.heap.size + 2) (.slice none 0 0) Hd.zero Dd.zero rfl rfl rfl R rfl ?_; intro w3 R3 kk))
  refine bodyPost_ret (resDn2 (v := .slice none 0 0) (h := Hd.zero) (d := Dd.zero) 8 9 rfl rfl rfl R3) rfl ?_
  exact ⟨rfl, z.trans (kk.below (by omega) z.size)⟩
set_option maxHeartbeats 8000000 in
theorem iPoolY (p s l c k : Int) (g n cc : Nat) (xs : List Int) (me : Int) (h : Hd) (w : World) (G : Ws w g n cc xs) (hn : n ≤ 16777216) (hm : mayB p s l c k n me h 9 = true) (r : Value → Option I8)
    (HN : ∀ pv q B w1, IAt w1 B q (st0 p s l c k pv n xs h 57) → Calls Tryz.prog 24 #[.pointer (some ⟨q, 0, none⟩)] w1 (Ends B q pv w1 (r pv))) (HM : ∀ pv t, r pv = some t → Meas (st0 p s l c k pv n xs h 57) t) :
    Calls Tryz.prog 9 #[.agg #[.int .i64 p, .int .i64 s, .int .i64 l, .int .i64 c, .int .i64 k], .slice (some ⟨g, 0, none⟩) n cc, .int .i64 me, .agg h.ar] w fun e w' => ∃ pv, Told8 w w.heap.size (fin8 (r pv)) e w' := by
  go_enter Tryz.func9, Tryz.ntmps9
  go_upto_region 1 with fail
  refine wp_at (fun W => At W w.heap.size #[.int .i64 p, .int .i64 s, .int .i64 l, .int .i64 c, .int .i64 k] 35 ∧ At W (w.heap.size + 1) h.ar 28 ∧ At W (w.heap.size + 2) doneZ.toArray 32 ∧ Below w.heap.size w W) (three_box w _ _ _ _ _ _) ?_
  rintro w1 ⟨P, A, R, z⟩
  obtain ⟨d0, d1, d2, d3, d4⟩ := P.five
  have hmf : ∀ (fn : Fn) (first cap : Array Value) (w : World), (Instr.makeFunc fn first cap).run Tryz.prog w = .ok (.func fn first cap) w := fun _ _ _ _ => rfl
  go_upto_region 4 with (first
    | (refine loadHg (by rfl) (.tmp 7) rfl (w.heap.size + 1) h rfl A ?_)
    | (go_at_call 21; refine (iMay p s l c k _ n cc me h 9 _ hn).mono ?_; rintro e w2 ⟨rfl, hb⟩; rw [hm]; replace R := R.keep hb; have hrq := R.lt; replace P := P.keep hb; replace A := A.keep hb; replace G := (G.keep z).keep hb; replace z := z.trans (hb.mono z.size); clear hb d0 d1 d2 d3 d4; obtain ⟨d0, d1, d2, d3, d4⟩ := P.five)
    | (go_at_call 22; refine (iInstOf p s l c k g n cc xs h _ G hn).mono ?_; rintro e w3 ⟨pv, rfl, hpv, ⟨ps, PG⟩, hb⟩; have hzz := z.size; replace R := R.keep hb; replace z := z.trans (hb.mono z.size))
    | (refine wpList_built rfl 57 #[(0, .tmp 21)] rfl [(0, .agg (st0 p s l c k pv n xs h 57).ar)] rfl _ (bPool _) ?_)
    | (refine storePo rfl (.tmp 10) (.tmp 22) rfl (st0 p s l c k pv n xs h 57) hpv rfl rfl rfl ?_; intro w4 Q hb4; have hpn := pv_ne PG; replace PG := PG.keep hb4; have hz3 := z.size; replace z := z.trans (hb4.mono z.size); have Rl := R.lt; replace R := R.keep hb4))
  obtain ⟨q, hq⟩ : ∃ q, Hid (w3.heap.size = q) := ⟨_, rfl⟩
  rw [hq.out] at Q hpn
  rw [hq.out]
  have hw2 : w2.heap.size ≤ q := by have := hb.size; have := hq.out; omega
  have S : IAt w4 w2.heap.size q (st0 p s l c k pv n xs h 57) := Wso.fresh (n := n) (st := st0 p s l c k pv n xs h 57) G.len PG Q hw2 hpn.1 hpn.2
  have CC := iCaught 24 w2.heap.size q (goes_in Tryz.func24 (by kernel_rfl) (by kernel_rfl) _) (st0 p s l c k pv n xs h 57) w4 S hn G.bd (r pv) (fun w1 S1 => HN pv q _ w1 S1) (HM pv)
  have hw4 : w.heap.size ≤ w4.heap.size := z.size
  cases hf : fin8 (r pv) with
  | none =>
    rw [hf] at CC
    go_wp2_with (first
      | (go_at_call 23; refine CC.mono ?_; rintro e w5 ⟨rfl, hb5⟩; replace R := R.under hb5 hrq; replace z := z.trans (hb5.mono hzz))
      | (refine storeDn rfl (.tmp 8) (.tmp 26) rfl (w.heap.size + 2) (.slice none 0 0) Hd.zero Dd.zero rfl rfl rfl R rfl ?_; intro w6 R6 kk))
    refine bodyPost_ret (resDn2 (v := .slice none 0 0) (h := Hd.zero) (d := Dd.zero) 8 9 rfl rfl rfl R6) rfl ?_
    refine ⟨pv, ?_⟩
    rw [hf]
    exact ⟨rfl, z.trans (kk.below (by omega) z.size)⟩
  | some t =>
    rw [hf] at CC
    go_wp2_with (first
      | (go_at_call 23; refine CC.mono ?_; rintro e w5 ⟨⟨g5, rfl, hg5, G5⟩, hb5⟩; replace R := R.under hb5 hrq; replace z := z.trans (hb5.mono hzz))
      | (refine storeDn rfl (.tmp 8) (.tmp 26) rfl (w.heap.size + 2) (.slice (some ⟨g5, 0, none⟩) t.n t.n) t.h t.d rfl rfl rfl R rfl ?_; intro w6 R6 kk))
    refine bodyPost_ret (resDn2 (v := .slice (some ⟨g5, 0, none⟩) t.n t.n) (h := t.h) (d := t.d) 8 9 rfl rfl rfl R6) rfl ?_
    refine ⟨pv, ?_⟩
    rw [hf]
    exact ⟨⟨g5, rfl, by omega, G5.kept kk (by have := S.lt; omega)⟩, z.trans (kk.below (by omega) z.size)⟩
theorem iPool (p s l c k : Int) (g n cc : Nat) (xs : List Int) (me : Int) (h : Hd) (w : World) (G : Ws w g n cc xs) (hn : n ≤ 16777216) (hs : 0 ≤ h.seen ∧ h.seen ≤ 18446744073709551615) (hp : 0 ≤ h.put ∧ h.put ≤ 18446744073709551615) :
    Calls Tryz.prog 9 #[.agg #[.int .i64 p, .int .i64 s, .int .i64 l, .int .i64 c, .int .i64 k], .slice (some ⟨g, 0, none⟩) n cc, .int .i64 me, .agg h.ar] w (OutR w (ans9 p s l c k n xs me h)) := by
  unfold ans9
  cases hm : mayB p s l c k n me h 9
  · rw [if_neg (by decide)]
    refine (iPoolN p s l c k g n cc xs me h w G hn hm).mono ?_
    rintro e w' ⟨rfl, hb⟩
    exact OutR.zero hb
  · rw [if_pos rfl]
    have hao := (may_y hm).1
    have hup := (may_y hm).2.2.1
    have hat := lay9 (may_y hm).2.2.2
    refine (iPoolY p s l c k g n cc xs me h w G hn hm (fun pv => (st0 p s l c k pv n xs h 57).pnext) (fun pv q B w1 S => pNext B q _ w1 S hn hs hao G.bd hat) (fun pv t e => Meas.pnext e)).mono ?_
    rintro e w' ⟨pv, T⟩
    exact told_ans ((join9 (sm0 p s l c k 0 n 0 xs none 0 [] me h pv 57 G.len) rfl hao hup).old) ((join9 (sm0 p s l c k 0 n 0 xs none 0 [] me h (.slice none 0 0) 57 G.len) rfl hao hup).old) T
theorem ans9_len (p s l c k : Int) (n : Nat) (xs : List Int) (me : Int) (h : Hd) (hl : xs.length = n) (hs : 0 ≤ h.seen) (hp : 0 ≤ h.put ∧ h.put ≤ 18446744073709551615) (bd : Bdx xs) : (ans9 p s l c k n xs me h).xs.length ≤ n := by
  unfold ans9
  split
  · rename_i hm
    have J := join9 (sm0 p s l c k 0 n 0 xs none 0 [] me h (.slice none 0 0) 57 hl) rfl (may_y hm).1 (may_y hm).2.2.1
    have N := nc9 (nc0 p s l c k 0 n 0 xs none 0 [] me h bd)
    have := J.len
    rw [N.n] at this
    exact this
  · exact Nat.zero_le _
end Go.Proofs.YtdebjfgflldpjaaGreat
