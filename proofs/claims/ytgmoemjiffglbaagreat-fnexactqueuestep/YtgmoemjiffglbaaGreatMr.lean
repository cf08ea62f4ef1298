/-
  What the specification's QueueStep answers.
  What the program's QueueStep answers, in the same form.
-/
import Derived.Test.YtgmoemjiffglbaaGreatMq
namespace Go.Proofs.YtgmoemjiffglbaaGreat
open Go.RowKit
set_option maxRecDepth 100000
set_option linter.unusedVariables false
set_option linter.unusedSimpArgs false
theorem lay11 {a : Int} (h : layer a = 11) : 33 ≤ a ∧ a ≤ 48 := by
  unfold layer at h
  repeat' (split at h)
  all_goals omega
/-- What QueueStep answers. -/
noncomputable def ans11 (p s l c k : Int) (n : Nat) (xs : List Int) (me : Int) (h : Hd) : Ans := if mayB p s l c k n me h 11 = true then Ans.of (fin8 (st0 p s l c k (.slice none 0 0) n xs h 59).unext) else Ans.zero
set_option maxHeartbeats 8000000 in
theorem sQueS (p s l c k : Int) (g n cc : Nat) (xs : List Int) (me : Int) (h : Hd) (w : World) (G : Ws w g n cc xs) (hn : n ≤ 16777216) (hs : 0 ≤ h.seen ∧ h.seen ≤ 18446744073709551615) (hp : 0 ≤ h.put ∧ h.put ≤ 18446744073709551615) :
    Calls Tryz.prog 4 #[.agg #[.int .i64 p, .int .i64 s, .int .i64 l, .int .i64 c, .int .i64 k], .slice (some ⟨g, 0, none⟩) n cc, .int .i64 me, .agg h.ar] w (OutR w (ans11 p s l c k n xs me h)) := by
  unfold ans11
  cases hm : mayB p s l c k n me h 11
  · rw [if_neg (by decide)]
    go_enter Tryz.func4, Tryz.ntmps4
    go_upto_region 1 with fail
    refine wp_at (fun W => At W w.heap.size #[.int .i64 p, .int .i64 s, .int .i64 l, .int .i64 c, .int .i64 k] 35 ∧ At W (w.heap.size + 1) h.ar 28 ∧ At W (w.heap.size + 2) doneZ.toArray 32 ∧ Below w.heap.size w W) (three_box w _ _ _ _ _ _) ?_
    rintro w1 ⟨P, A, R, z⟩
    obtain ⟨d0, d1, d2, d3, d4⟩ := P.five
    go_wp2_with (first
      | (refine loadHg (by rfl) (.tmp 7) rfl (w.heap.size + 1) h rfl A ?_)
      | (go_at_call 14; refine (sMay p s l c k _ n cc me h 11 _ hn).mono ?_; rintro e w2 ⟨rfl, hb⟩; rw [hm]; replace R := R.keep hb; replace z := z.trans (hb.mono z.size); clear hb)
      | (refine wpList_built rfl 32 #[] rfl [] rfl _ bDone0 ?_)
      | (refine storeDn rfl (.tmp 8) (.tmp 17) rfl (w.heap.size + 2) (.slice none 0 0) Hd.zero Dd.zero rfl rfl rfl R rfl ?_; intro w3 R3 kk))
    refine bodyPost_ret (resDn2 (v := .slice none 0 0) (h := Hd.zero) (d := Dd.zero) 8 9 rfl rfl rfl R3) rfl ?_
    exact OutR.zero (z.trans (kk.below (by omega) z.size))
  · rw [if_pos rfl]
    have hao := (may_y hm).1
    have hup := (may_y hm).2.2.1
    have hat := lay11 (may_y hm).2.2.2
    have hl := G.len
    have hpk : Hid (∀ w3 b g' c' ra, SAt w3 b (s0 p s l c k g' n c' xs ra 0 [] me h) → ∃ st : S8, SAt w3 b st ∧ Fin st.go11 (st0 p s l c k (.slice none 0 0) n xs h 59).unext ∧ Nc st st.go11 ∧ st.h = h ∧ st.n = n ∧ st.g = g') := fun w3 b g' c' ra S =>
      ⟨_, S, join11 (sm0 p s l c k g' n c' xs ra 0 [] me h (.slice none 0 0) 59 hl) rfl hao hup, nc11 (nc0 p s l c k g' n c' xs ra 0 [] me h G.bd), rfl, rfl, rfl⟩
    obtain ⟨o, ho⟩ : ∃ o, Hid ((st0 p s l c k (.slice none 0 0) n xs h 59).unext = o) := ⟨_, rfl⟩
    rw [ho.out] at hpk
    rw [ho.out]
    clear ho hl
    go_enter Tryz.func4, Tryz.ntmps4
    go_upto_region 1 with fail
    refine wp_at (fun W => At W w.heap.size #[.int .i64 p, .int .i64 s, .int .i64 l, .int .i64 c, .int .i64 k] 35 ∧ At W (w.heap.size + 1) h.ar 28 ∧ At W (w.heap.size + 2) doneZ.toArray 32 ∧ Below w.heap.size w W) (three_box w _ _ _ _ _ _) ?_
    rintro w1 ⟨P, A, R, z⟩
    obtain ⟨d0, d1, d2, d3, d4⟩ := P.five
    go_upto_region 3 with (first
      | (refine loadHg (by rfl) (.tmp 7) rfl (w.heap.size + 1) h rfl A ?_)
      | (go_at_call 14; refine (sMay p s l c k _ n cc me h 11 _ hn).mono ?_; rintro e w2 ⟨rfl, hb⟩; rw [hm]; replace R := R.keep hb; replace P := P.keep hb; replace A := A.keep hb; replace G := (G.keep z).keep hb; replace z := z.trans (hb.mono z.size); clear hb d0 d1 d2 d3 d4; obtain ⟨d0, d1, d2, d3, d4⟩ := P.five))
    go_upto_region 4 with (first
      | (refine loadHg (by rfl) (.tmp 7) rfl (w.heap.size + 1) h rfl (A.keep ((Below.refl _ _).alloc (Nat.le_refl _) _)) ?_)
      | (go_at_call 15; refine (sNew8 p s l c k g n cc xs _ 0 [] me h _ (G.keep ((Below.refl _ _).alloc (Nat.le_refl _) _)) hn (.inl rfl)).mono ?_; rintro e w3 ⟨b, g', c', rfl, hbb, hgg, S, hb⟩))
    obtain ⟨st, S, J, N, sh, sn, sg⟩ := hpk.out _ _ _ _ _ S
    have za := (Below.refl w2.heap.size w2).alloc (Nat.le_refl _) (.cells #[] 2)
    have hwb : w2.heap.size < b := by have := hbb; simp at this; omega
    have hwg : w2.heap.size < g' := by have := hgg; simp at this; omega
    have Rl := R.lt
    replace R := (R.keep za).keep hb
    replace z := (z.trans (za.mono z.size)).trans (hb.mono (by have := z.size; simp; omega))
    clear hbb hgg hb za P A G d0 d1 d2 d3 d4 hpk
    have hn' : st.n ≤ 16777216 := by rw [sn]; exact hn
    have CG := sGo11 b st w3 S hn' (by rw [sh]; exact hs) (by rw [sh]; exact hp) (by rw [sh]; exact hat)
    have z0 := z.size
    go_upto_region 5 with (go_at_call 16; refine CG.mono ?_; rintro e w4 ⟨rfl, S4, k4⟩)
    have Ng := N.g
    rw [sg] at Ng k4
    replace R : At w4 (w.heap.size + 2) doneZ.toArray 32 := ⟨(k4.block _ R.lt (by omega) (by omega)).trans R.is⟩
    have z4 : Below w.heap.size w w4 := z.trans (below_of_K2 k4 (by omega) (by omega) z0)
    obtain ⟨F, hF⟩ : ∃ F, Hid (st.go11 = F) := ⟨_, rfl⟩
    rw [hF.out] at S4 J N Ng
    clear CG hF k4 S
    have zs4 := z4.size
    rcases J.old with ⟨hgood, t, ht, tx, th, td, tn⟩ | ⟨hbad, ht⟩
    · have hA : Hid (Ans.of (fin8 o) = ⟨F.ar, F.h, F.d, true⟩) := by unfold Hid; rw [ht]; show (⟨t.xs, t.h, t.d, true⟩ : Ans) = _; rw [tx, th, td]
      clear ht tx th td tn J
      go_wp2_with (first
        | (go_at_call 17; refine (sDoneY b F _ S4 hgood).mono ?_; rintro e w5 ⟨rfl, GF, hb5⟩; rw [Ng] at GF; replace R := R.keep hb5; replace z4 := z4.trans (hb5.mono zs4))
        | (refine storeDn rfl (.tmp 8) (.tmp 28) rfl (w.heap.size + 2) (.slice (some ⟨g', 0, none⟩) F.n F.cc) F.h F.d rfl rfl rfl R rfl ?_; intro w6 R6 kk))
      refine bodyPost_ret (resDn2 (v := .slice (some ⟨g', 0, none⟩) F.n F.cc) (h := F.h) (d := F.d) 8 9 rfl rfl rfl R6) rfl ?_
      rw [hA.out]
      exact ⟨some ⟨g', 0, none⟩, F.n, F.cc, rfl, .inr ⟨g', rfl, by omega, GF.kept kk (by omega)⟩, z4.trans (kk.below (by omega) z4.size)⟩
    · have hA : Hid (Ans.of (fin8 o) = Ans.zero) := by unfold Hid; rw [ht]; rfl
      clear ht J
      go_wp2_with (first
        | (go_at_call 17; refine (sDoneN b F _ S4 hbad N.tn N.was).mono ?_; rintro e w5 ⟨rfl, k5⟩; replace R : At w5 (w.heap.size + 2) doneZ.toArray 32 := ⟨(k5.block _ R.lt (by omega) (by omega)).trans R.is⟩; replace z4 := z4.trans (below_of_K2 k5 (by omega) (by omega) zs4))
        | (refine storeDn rfl (.tmp 8) (.tmp 28) rfl (w.heap.size + 2) (.slice none 0 0) Hd.zero Dd.zero rfl rfl rfl R rfl ?_; intro w6 R6 kk))
      refine bodyPost_ret (resDn2 (v := .slice none 0 0) (h := Hd.zero) (d := Dd.zero) 8 9 rfl rfl rfl R6) rfl ?_
      rw [hA.out]
      exact OutR.zero (z4.trans (kk.below (by omega) z4.size))
end Go.Proofs.YtgmoemjiffglbaaGreat
namespace Go.Proofs.YtgmoemjiffglbaaGreat
open Go.RowKit
set_option maxRecDepth 100000
set_option linter.unusedVariables false
set_option linter.unusedSimpArgs false
theorem infoKu (st : I8) : (Tryz.prog.info? 59).map (·.size) = some st.vs.length := by kernel_rfl
theorem bPoolQ (st : I8) : Tryz.prog.built 57 [(0, .agg st.ar)] = some st.ar := by kernel_rfl
theorem bQueue (st : I8) : Tryz.prog.built 59 [(0, .agg st.ar)] = some st.ar := by kernel_rfl
theorem storeKu {ops : Array Oper} {rest : List Oper} {op : Oper} {a : Act} {w : World} {Q : Exit → Act → World → Prop} (hgd : op.guard = none) (x y : Operand) (ho : op.op = .store 59 x y) (st : I8) (hp : st.pv.oneCell' = true) (hx : a.eval x = .pointer (some ⟨w.heap.size, 0, none⟩)) (hy : a.eval y = .agg st.ar) {cs : Array Value} {t : TypeId} (hs : cs.size = 49)
    (hh : ∀ w', At w' w.heap.size st.ar t → Below w.heap.size w w' → wpList Tryz.prog ops Q rest (a.put op.dst undef) w') : wpList Tryz.prog ops Q (op :: rest) a (w.alloc (.cells cs t)) :=
  newV (vs := st.vs) (infoKu st) (st.one hp) hgd x y ho hx hy (by rw [hs]; rfl) fun w' Z hb _ => hh w' Z hb
set_option maxHeartbeats 8000000 in
theorem iQueSN (p s l c k : Int) (g n cc : Nat) (xs : List Int) (me : Int) (h : Hd) (w : World) (G : Ws w g n cc xs) (hn : n ≤ 16777216) (hm : mayB p s l c k n me h 11 = false) :
    Calls Tryz.prog 8 #[.agg #[.int .i64 p, .int .i64 s, .int .i64 l, .int .i64 c, .int .i64 k], .slice (some ⟨g, 0, none⟩) n cc, .int .i64 me, .agg h.ar] w fun e w' => e = .returned (.tuple #[.agg doneZ.toArray, .bool false]) ∧ Below w.heap.size w w' := by
  go_enter Tryz.func8, Tryz.ntmps8
  go_upto_region 1 with fail
  refine wp_at (fun W => At W w.heap.size #[.int .i64 p, .int .i64 s, .int .i64 l, .int .i64 c, .int .i64 k] 35 ∧ At W (w.heap.size + 1) h.ar 28 ∧ At W (w.heap.size + 2) doneZ.toArray 32 ∧ Below w.heap.size w W) (three_box w _ _ _ _ _ _) ?_
  rintro w1 ⟨P, A, R, z⟩
  obtain ⟨d0, d1, d2, d3, d4⟩ := P.five
  go_wp2_with (first
    | (refine loadHg (by rfl) (.tmp 7) rfl (w.heap.size + 1) h rfl A ?_)
    | (go_at_call 18; refine (iMay p s l c k _ n cc me h 11 _ hn).mono ?_; rintro e w2 ⟨rfl, hb⟩; rw [hm]; replace R := R.keep hb; replace z := z.trans (hb.mono z.size); clear hb)
    | (refine wpList_built rfl 32 #[] rfl [] rfl _ bDone0 ?_)
    | (refine storeDn rfl (.tmp 8) (.tmp 17) rfl (w.heap.size + 2) (.slice none 0 0) Hd.zero Dd.zero rfl rfl rfl R rfl ?_; intro w3 R3 kk))
  refine bodyPost_ret (resDn2 (v := .slice none 0 0) (h := Hd.zero) (d := Dd.zero) 8 9 rfl rfl rfl R3) rfl ?_
  exact ⟨rfl, z.trans (kk.below (by omega) z.size)⟩
set_option maxHeartbeats 8000000 in
theorem iQueSY (p s l c k : Int) (g n cc : Nat) (xs : List Int) (me : Int) (h : Hd) (w : World) (G : Ws w g n cc xs) (hn : n ≤ 16777216) (hm : mayB p s l c k n me h 11 = true) (r : Value → Option I8)
    (HN : ∀ pv q B w1, IAt w1 B q (st0 p s l c k pv n xs h 59) → Calls Tryz.prog 21 #[.pointer (some ⟨q, 0, none⟩)] w1 (Ends B q pv w1 (r pv))) (HM : ∀ pv t, r pv = some t → Meas (st0 p s l c k pv n xs h 59) t) :
    Calls Tryz.prog 8 #[.agg #[.int .i64 p, .int .i64 s, .int .i64 l, .int .i64 c, .int .i64 k], .slice (some ⟨g, 0, none⟩) n cc, .int .i64 me, .agg h.ar] w fun e w' => ∃ pv, Told8 w w.heap.size (fin8 (r pv)) e w' := by
  go_enter Tryz.func8, Tryz.ntmps8
  go_upto_region 1 with fail
  refine wp_at (fun W => At W w.heap.size #[.int .i64 p, .int .i64 s, .int .i64 l, .int .i64 c, .int .i64 k] 35 ∧ At W (w.heap.size + 1) h.ar 28 ∧ At W (w.heap.size + 2) doneZ.toArray 32 ∧ Below w.heap.size w W) (three_box w _ _ _ _ _ _) ?_
  rintro w1 ⟨P, A, R, z⟩
  obtain ⟨d0, d1, d2, d3, d4⟩ := P.five
  have hmf : ∀ (fn : Fn) (first cap : Array Value) (w : World), (Instr.makeFunc fn first cap).run Tryz.prog w = .ok (.func fn first cap) w := fun _ _ _ _ => rfl
  go_upto_region 4 with (first
    | (refine loadHg (by rfl) (.tmp 7) rfl (w.heap.size + 1) h rfl A ?_)
    | (go_at_call 18; refine (iMay p s l c k _ n cc me h 11 _ hn).mono ?_; rintro e w2 ⟨rfl, hb⟩; rw [hm]; replace R := R.keep hb; have hrq := R.lt; replace P := P.keep hb; replace A := A.keep hb; replace G := (G.keep z).keep hb; replace z := z.trans (hb.mono z.size); clear hb d0 d1 d2 d3 d4; obtain ⟨d0, d1, d2, d3, d4⟩ := P.five)
    | (go_at_call 19; refine (iInstOf p s l c k g n cc xs h _ G hn).mono ?_; rintro e w3 ⟨pv, rfl, hpv, ⟨ps, PG⟩, hb⟩; have hzz := z.size; replace R := R.keep hb; replace z := z.trans (hb.mono z.size))
    | (refine wpList_built rfl 57 #[(0, .tmp 21)] rfl [(0, .agg (st0 p s l c k pv n xs h 59).ar)] rfl _ (bPoolQ _) ?_)
    | (refine wpList_built rfl 59 #[(0, .tmp 22)] rfl [(0, .agg (st0 p s l c k pv n xs h 59).ar)] rfl _ (bQueue _) ?_)
    | (refine storeKu rfl (.tmp 10) (.tmp 23) rfl (st0 p s l c k pv n xs h 59) hpv rfl rfl rfl ?_; intro w4 Q hb4; have hpn := pv_ne PG; replace PG := PG.keep hb4; have hz3 := z.size; replace z := z.trans (hb4.mono z.size); have Rl := R.lt; replace R := R.keep hb4))
  obtain ⟨q, hq⟩ : ∃ q, Hid (w3.heap.size = q) := ⟨_, rfl⟩
  rw [hq.out] at Q hpn
  rw [hq.out]
  have hw2 : w2.heap.size ≤ q := by have := hb.size; have := hq.out; omega
  have S : IAt w4 w2.heap.size q (st0 p s l c k pv n xs h 59) := Wso.fresh (n := n) (st := st0 p s l c k pv n xs h 59) G.len PG Q hw2 hpn.1 hpn.2
  have CC := iCaught 21 w2.heap.size q (goes_in Tryz.func21 (by kernel_rfl) (by kernel_rfl) _) (st0 p s l c k pv n xs h 59) w4 S hn G.bd (r pv) (fun w1 S1 => HN pv q _ w1 S1) (HM pv)
  have hw4 : w.heap.size ≤ w4.heap.size := z.size
  cases hf : fin8 (r pv) with
  | none =>
    rw [hf] at CC
    go_wp2_with (first
      | (go_at_call 20; refine CC.mono ?_; rintro e w5 ⟨rfl, hb5⟩; replace R := R.under hb5 hrq; replace z := z.trans (hb5.mono hzz))
      | (refine storeDn rfl (.tmp 8) (.tmp 28) rfl (w.heap.size + 2) (.slice none 0 0) Hd.zero Dd.zero rfl rfl rfl R rfl ?_; intro w6 R6 kk))
    refine bodyPost_ret (resDn2 (v := .slice none 0 0) (h := Hd.zero) (d := Dd.zero) 8 9 rfl rfl rfl R6) rfl ?_
    refine ⟨pv, ?_⟩
    rw [hf]
    exact ⟨rfl, z.trans (kk.below (by omega) z.size)⟩
  | some t =>
    rw [hf] at CC
    go_wp2_with (first
      | (go_at_call 20; refine CC.mono ?_; rintro e w5 ⟨⟨g5, rfl, hg5, G5⟩, hb5⟩; replace R := R.under hb5 hrq; replace z := z.trans (hb5.mono hzz))
      | (refine storeDn rfl (.tmp 8) (.tmp 28) rfl (w.heap.size + 2) (.slice (some ⟨g5, 0, none⟩) t.n t.n) t.h t.d rfl rfl rfl R rfl ?_; intro w6 R6 kk))
    refine bodyPost_ret (resDn2 (v := .slice (some ⟨g5, 0, none⟩) t.n t.n) (h := t.h) (d := t.d) 8 9 rfl rfl rfl R6) rfl ?_
    refine ⟨pv, ?_⟩
    rw [hf]
    exact ⟨⟨g5, rfl, by omega, G5.kept kk (by have := S.lt; omega)⟩, z.trans (kk.below (by omega) z.size)⟩
theorem iQueS (p s l c k : Int) (g n cc : Nat) (xs : List Int) (me : Int) (h : Hd) (w : World) (G : Ws w g n cc xs) (hn : n ≤ 16777216) (hs : 0 ≤ h.seen ∧ h.seen ≤ 18446744073709551615) (hp : 0 ≤ h.put ∧ h.put ≤ 18446744073709551615) :
    Calls Tryz.prog 8 #[.agg #[.int .i64 p, .int .i64 s, .int .i64 l, .int .i64 c, .int .i64 k], .slice (some ⟨g, 0, none⟩) n cc, .int .i64 me, .agg h.ar] w (OutR w (ans11 p s l c k n xs me h)) := by
  unfold ans11
  cases hm : mayB p s l c k n me h 11
  · rw [if_neg (by decide)]
    refine (iQueSN p s l c k g n cc xs me h w G hn hm).mono ?_
    rintro e w' ⟨rfl, hb⟩
    exact OutR.zero hb
  · rw [if_pos rfl]
    have hao := (may_y hm).1
    have hup := (may_y hm).2.2.1
    have hat := lay11 (may_y hm).2.2.2
    refine (iQueSY p s l c k g n cc xs me h w G hn hm (fun pv => (st0 p s l c k pv n xs h 59).unext) (fun pv q B w1 S => uNext B q _ w1 S hn hs hp hao G.bd hat) (fun pv t e => Meas.unext e)).mono ?_
    rintro e w' ⟨pv, T⟩
    exact told_ans ((join11 (sm0 p s l c k 0 n 0 xs none 0 [] me h pv 59 G.len) rfl hao hup).old) ((join11 (sm0 p s l c k 0 n 0 xs none 0 [] me h (.slice none 0 0) 59 G.len) rfl hao hup).old) T
theorem ans11_len (p s l c k : Int) (n : Nat) (xs : List Int) (me : Int) (h : Hd) (hl : xs.length = n) (hs : 0 ≤ h.seen) (hp : 0 ≤ h.put ∧ h.put ≤ 18446744073709551615) (bd : Bdx xs) : (ans11 p s l c k n xs me h).xs.length ≤ n := by
  unfold ans11
  split
  · rename_i hm
    have J := join11 (sm0 p s l c k 0 n 0 xs none 0 [] me h (.slice none 0 0) 59 hl) rfl (may_y hm).1 (may_y hm).2.2.1
    have N := nc11 (nc0 p s l c k 0 n 0 xs none 0 [] me h bd)
    have := J.len
    rw [N.n] at this
    exact this
  · exact Nat.zero_le _
end Go.Proofs.YtgmoemjiffglbaaGreat
