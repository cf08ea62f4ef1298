/-
  What the specification's InstallStep answers.
  What the program's InstallStep answers, in the same form.
-/
import Derived.Test.YtljpkgloegafnaaGreatMn
namespace Go.Proofs.YtljpkgloegafnaaGreat
open Go.RowKit
set_option maxRecDepth 100000
set_option linter.unusedVariables false
set_option linter.unusedSimpArgs false
theorem sGo8 (b : Nat) (st : S8) (w : World) (S : SAt w b st) (hn : st.n ≤ 16777216) (hs : 0 ≤ st.h.seen ∧ st.h.seen ≤ 18446744073709551615) (hp : 0 ≤ st.h.put ∧ st.h.put ≤ 18446744073709551615) (hat : 1 ≤ st.h.at_ ∧ st.h.at_ ≤ 8) (hsay : st.h.at_ = 2 → wOk st.h.reply 0 st.h.out st.h.number = true) :
    Calls Tryz.prog 19 #[.pointer (some ⟨b, 0, none⟩)] w fun e w' => e = .returned (.tuple #[]) ∧ SAt w' b st.go8 ∧ K2 b st.g w w' := by
  unfold S8.go8
  by_cases k1 : st.h.at_ = 1
  · rw [if_pos k1]; exact go8_1 b st w S hn hs k1
  rw [if_neg k1]
  by_cases k2 : st.h.at_ = 2
  · rw [if_pos k2]; exact go8_2 b st w S hn hs k2 (hsay k2)
  rw [if_neg k2]
  by_cases k3 : st.h.at_ = 3
  · rw [if_pos k3]; exact go8_3 b st w S hn hs k3
  rw [if_neg k3]
  by_cases k4 : st.h.at_ = 4
  · rw [if_pos k4]; exact go8_4 b st w S hn hs k4
  rw [if_neg k4]
  by_cases k5 : st.h.at_ = 5
  · rw [if_pos k5]; exact go8_5 b st w S hn hs k5
  rw [if_neg k5]
  by_cases k6 : st.h.at_ = 6
  · rw [if_pos k6]
    cases ht : thr st.note st.n
    · exact go8_6N b st w S hn hs k6 ht
    · exact go8_6Y b st w S hn hs k6 ht
  rw [if_neg k6]
  by_cases k7 : st.h.at_ = 7
  · rw [if_pos k7]; exact go8_7 b st w S hn hs k7
  rw [if_neg k7]
  exact go8_8 b st w S hn hs (by omega) hp
/-- What may be done is of a right hand. -/
theorem may_y {p s l c k me ch : Int} {n : Nat} {h : Hd} (hm : mayB p s l c k n me h ch = true) : aOk p s l c k n = true ∧ hOk p s l c k h = true ∧ h.up = true ∧ layer h.at_ = ch := by
  unfold mayB at hm
  simp only [Bool.and_eq_true, beq_iff_eq] at hm
  exact ⟨hm.1.1.1.1, hm.1.1.2, hm.1.2, hm.2⟩
theorem hOk_y {p s l c k : Int} {h : Hd} (hh : hOk p s l c k h = true) (hu : h.up = true) : h.own p = true ∧ h.swap p s l c = true ∧ h.was = true := by
  unfold hOk at hh
  rw [hu] at hh
  simp only [Bool.and_eq_true, if_true] at hh
  exact ⟨hh.2.1.1.2, hh.2.1.2, hh.2.2⟩
theorem inB_y {n a b : Int} (h : inB n a b = true) : a ≤ n ∧ n ≤ b := by unfold inB at h; simpa using h
theorem own_y {h : Hd} {p : Int} (ho : h.own p = true) : (0 ≤ h.reply ∧ h.reply ≤ 255) ∧ (0 ≤ h.out ∧ h.out ≤ 65535) ∧ (0 ≤ h.number ∧ h.number ≤ 4294967295) ∧ (0 ≤ h.for_ ∧ h.for_ ≤ p - 1) ∧ (0 ≤ h.last ∧ h.last ≤ 4294967295) := by
  unfold Hd.own at ho
  simp only [Bool.and_eq_true] at ho
  obtain ⟨⟨⟨⟨⟨⟨⟨⟨⟨⟨⟨⟨⟨h1, h2⟩, h3⟩, h4⟩, h5⟩, h6⟩, h7⟩, h8⟩, h9⟩, h10⟩, h11⟩, h12⟩, h13⟩, h14⟩ := ho
  exact ⟨inB_y h11, inB_y h12, inB_y h6, inB_y h7, inB_y h8⟩
theorem swap_y2 {h : Hd} {p s l c : Int} (ho : h.swap p s l c = true) : 0 ≤ h.addr ∧ h.addr ≤ zF p s l c - 1 := by
  unfold Hd.swap at ho
  simp only [Bool.and_eq_true] at ho
  obtain ⟨⟨⟨⟨⟨⟨⟨⟨⟨h1, h2⟩, h3⟩, h4⟩, h5⟩, h6⟩, h7⟩, h8⟩, h9⟩, h10⟩ := ho
  exact inB_y h1
theorem say_ok {p s l c k me ch : Int} {n : Nat} {h : Hd} (hm : mayB p s l c k n me h ch = true) : wOk h.reply 0 h.out h.number = true := by
  obtain ⟨h1, h2, h3, h4⟩ := may_y hm
  obtain ⟨h5, h6, h7⟩ := hOk_y h2 h3
  obtain ⟨a, b, d, -, -⟩ := own_y h5
  rw [wOk_iff]
  omega
theorem aOk_size {p s l c k : Int} {n : Nat} (h : aOk p s l c k n = true) : ok p s l c k = true ∧ (n : Int) = zF p s l c := by
  cases ho : ok p s l c k
  · rw [aOk_n ho] at h; cases h
  · have := of_decide_eq_true h
    unfold vSize at this
    rw [if_pos ho] at this
    exact ⟨rfl, this⟩
theorem addr_ok {p s l c k me ch : Int} {n : Nat} {h : Hd} (hm : mayB p s l c k n me h ch = true) : thr h.addr n = true := by
  obtain ⟨h1, h2, h3, h4⟩ := may_y hm
  obtain ⟨h5, h6, h7⟩ := hOk_y h2 h3
  obtain ⟨a, b⟩ := swap_y2 h6
  obtain ⟨ho, hz⟩ := aOk_size h1
  unfold thr
  exact decide_eq_true (by omega)
theorem lay8 {a : Int} (h : layer a = 8) : 1 ≤ a ∧ a ≤ 8 := by
  unfold layer at h
  repeat' (split at h)
  all_goals omega
theorem sm0 (p s l c k : Int) (g n cc : Nat) (xs : List Int) (ra : Option Addr) (rc : Nat) (runs : List Int) (me : Int) (h : Hd) (pv : Value) (ty : TypeId) (hl : xs.length = n) : Sm (s0 p s l c k g n cc xs ra rc runs me h) (st0 p s l c k pv n xs h ty) := ⟨rfl, rfl, rfl, rfl, rfl, rfl, rfl, hl, rfl, rfl⟩
theorem nc0 (p s l c k : Int) (g n cc : Nat) (xs : List Int) (ra : Option Addr) (rc : Nat) (runs : List Int) (me : Int) (h : Hd) (bd : Bdx xs) : Nc (s0 p s l c k g n cc xs ra rc runs me h) (s0 p s l c k g n cc xs ra rc runs me h) := ⟨rfl, rfl, rfl, fun e => (by cases e), ⟨Int.le_refl 0, (by show (0 : Int) ≤ _; omega)⟩, bd⟩
/-- What InstallStep answers. -/
noncomputable def ans8 (p s l c k : Int) (n : Nat) (xs : List Int) (me : Int) (h : Hd) : Ans := if mayB p s l c k n me h 8 = true then Ans.of (fin8 (st0 p s l c k (.slice none 0 0) n xs h).next) else Ans.zero
theorem below_of_K2 {B b g : Nat} {w w' : World} (k : K2 b g w w') (hb : B ≤ b) (hg : B ≤ g) (hB : B ≤ w.heap.size) : Below B w w' := ⟨k.os, k.tape, k.output, k.size, fun i hi => k.block i (by omega) (by omega) (by omega)⟩
set_option maxHeartbeats 8000000 in
theorem sInstall (p s l c k : Int) (g n cc : Nat) (xs : List Int) (me : Int) (h : Hd) (w : World) (G : Ws w g n cc xs) (hn : n ≤ 16777216) (hs : 0 ≤ h.seen ∧ h.seen ≤ 18446744073709551615) (hp : 0 ≤ h.put ∧ h.put ≤ 18446744073709551615) :
    Calls Tryz.prog 5 #[.agg #[.int .i64 p, .int .i64 s, .int .i64 l, .int .i64 c, .int .i64 k], .slice (some ⟨g, 0, none⟩) n cc, .int .i64 me, .agg h.ar] w (OutR w (ans8 p s l c k n xs me h)) := by
  unfold ans8
  cases hm : mayB p s l c k n me h 8
  · rw [if_neg (by decide)]
    go_enter Tryz.func5, Tryz.ntmps5
    go_upto_region 1 with fail
    refine wp_at (fun W => At W w.heap.size #[.int .i64 p, .int .i64 s, .int .i64 l, .int .i64 c, .int .i64 k] 35 ∧ At W (w.heap.size + 1) h.ar 28 ∧ At W (w.heap.size + 2) doneZ.toArray 32 ∧ Below w.heap.size w W) (three_box w _ _ _ _ _ _) ?_
    rintro w1 ⟨P, A, R, z⟩
    obtain ⟨d0, d1, d2, d3, d4⟩ := P.five
    go_wp2_with (first
      | (refine loadHg (by rfl) (.tmp 7) rfl (w.heap.size + 1) h rfl A ?_)
      | (go_at_call 17; refine (sMay p s l c k _ n cc me h 8 _ hn).mono ?_; rintro e w2 ⟨rfl, hb⟩; rw [hm]; replace R := R.keep hb; replace z := z.trans (hb.mono z.size); clear hb)
      | (refine wpList_built rfl 32 #[] rfl [] rfl _ bDone0 ?_)
      | (refine storeDn rfl (.tmp 8) (.tmp 17) rfl (w.heap.size + 2) (.slice none 0 0) Hd.zero Dd.zero rfl rfl rfl R rfl ?_; intro w3 R3 kk))
    refine bodyPost_ret (resDn2 (v := .slice none 0 0) (h := Hd.zero) (d := Dd.zero) 8 9 rfl rfl rfl R3) rfl ?_
    exact OutR.zero (z.trans (kk.below (by omega) z.size))
  · rw [if_pos rfl]
    have hsay := say_ok hm
    have haddr := addr_ok hm
    have hat := lay8 (may_y hm).2.2.2
    have hl := G.len
    have hpk : Hid (∀ w3 b g' c' ra, SAt w3 b (s0 p s l c k g' n c' xs ra 0 [] me h) → ∃ st : S8, SAt w3 b st ∧ Agr st.go8 (st0 p s l c k (.slice none 0 0) n xs h).next ∧ Nc st st.go8 ∧ st.h = h ∧ st.n = n ∧ st.g = g') := fun w3 b g' c' ra S =>
      ⟨_, S, join8 (sm0 p s l c k g' n c' xs ra 0 [] me h (.slice none 0 0) 54 hl) rfl hs.1 (fun _ => hsay) haddr, nc8 (nc0 p s l c k g' n c' xs ra 0 [] me h G.bd) hs.1 hp (fun _ => hsay), rfl, rfl, rfl⟩
    obtain ⟨o, ho⟩ : ∃ o, Hid ((st0 p s l c k (.slice none 0 0) n xs h).next = o) := ⟨_, rfl⟩
    rw [ho.out] at hpk
    rw [ho.out]
    clear ho hl
    go_enter Tryz.func5, Tryz.ntmps5
    go_upto_region 1 with fail
    refine wp_at (fun W => At W w.heap.size #[.int .i64 p, .int .i64 s, .int .i64 l, .int .i64 c, .int .i64 k] 35 ∧ At W (w.heap.size + 1) h.ar 28 ∧ At W (w.heap.size + 2) doneZ.toArray 32 ∧ Below w.heap.size w W) (three_box w _ _ _ _ _ _) ?_
    rintro w1 ⟨P, A, R, z⟩
    obtain ⟨d0, d1, d2, d3, d4⟩ := P.five
    go_upto_region 3 with (first
      | (refine loadHg (by rfl) (.tmp 7) rfl (w.heap.size + 1) h rfl A ?_)
      | (go_at_call 17; refine (sMay p s l c k _ n cc me h 8 _ hn).mono ?_; rintro e w2 ⟨rfl, hb⟩; rw [hm]; replace R := R.keep hb; replace P := P.keep hb; replace A := A.keep hb; replace G := (G.keep z).keep hb; replace z := z.trans (hb.mono z.size); clear hb d0 d1 d2 d3 d4; obtain ⟨d0, d1, d2, d3, d4⟩ := P.five))
    go_upto_region 4 with (first
      | (refine loadHg (by rfl) (.tmp 7) rfl (w.heap.size + 1) h rfl (A.keep ((Below.refl _ _).alloc (Nat.le_refl _) _)) ?_)
      | (go_at_call 18; refine (sNew8 p s l c k g n cc xs _ 0 [] me h _ (G.keep ((Below.refl _ _).alloc (Nat.le_refl _) _)) hn (.inl rfl)).mono ?_; rintro e w3 ⟨b, g', c', rfl, hbb, hgg, S, hb⟩))
    obtain ⟨st, S, J, N, sh, sn, sg⟩ := hpk.out _ _ _ _ _ S
    have za := (Below.refl w2.heap.size w2).alloc (Nat.le_refl _) (.cells #[] 2)
    have hwb : w2.heap.size < b := by have := hbb; simp at this; omega
    have hwg : w2.heap.size < g' := by have := hgg; simp at this; omega
    have Rl := R.lt
    replace R := (R.keep za).keep hb
    replace z := (z.trans (za.mono z.size)).trans (hb.mono (by have := z.size; simp; omega))
    clear hbb hgg hb za P A G d0 d1 d2 d3 d4 hpk
    have hn' : st.n ≤ 16777216 := by rw [sn]; exact hn
    have CG := sGo8 b st w3 S hn' (by rw [sh]; exact hs) (by rw [sh]; exact hp) (by rw [sh]; exact hat) (fun _ => by rw [sh]; exact hsay)
    have z0 := z.size
    go_upto_region 5 with (go_at_call 19; refine CG.mono ?_; rintro e w4 ⟨rfl, S4, k4⟩)
    have Ng := N.g
    rw [sg] at Ng k4
    replace R : At w4 (w.heap.size + 2) doneZ.toArray 32 := ⟨(k4.block _ R.lt (by omega) (by omega)).trans R.is⟩
    have z4 : Below w.heap.size w w4 := z.trans (below_of_K2 k4 (by omega) (by omega) z0)
    obtain ⟨F, hF⟩ : ∃ F, Hid (st.go8 = F) := ⟨_, rfl⟩
    rw [hF.out] at S4 J N Ng
    clear CG hF k4 S
    have zs4 := z4.size
    rcases fin_of J with ⟨hgood, t, ht, tx, th, td, tn⟩ | ⟨hbad, ht⟩
    · have hA : Hid (Ans.of (fin8 o) = ⟨F.ar, F.h, F.d, true⟩) := by unfold Hid; rw [ht]; show (⟨t.xs, t.h, t.d, true⟩ : Ans) = _; rw [tx, th, td]
      clear ht tx th td tn J
      go_wp2_with (first
        | (go_at_call 20; refine (sDoneY b F _ S4 hgood).mono ?_; rintro e w5 ⟨rfl, GF, hb5⟩; rw [Ng] at GF; replace R := R.keep hb5; replace z4 := z4.trans (hb5.mono zs4))
        | (refine storeDn rfl (.tmp 8) (.tmp 28) rfl (w.heap.size + 2) (.slice (some ⟨g', 0, none⟩) F.n F.cc) F.h F.d rfl rfl rfl R rfl ?_; intro w6 R6 kk))
      refine bodyPost_ret (resDn2 (v := .slice (some ⟨g', 0, none⟩) F.n F.cc) (h := F.h) (d := F.d) 8 9 rfl rfl rfl R6) rfl ?_
      rw [hA.out]
      exact ⟨some ⟨g', 0, none⟩, F.n, F.cc, rfl, .inr ⟨g', rfl, by omega, GF.kept kk (by omega)⟩, z4.trans (kk.below (by omega) z4.size)⟩
    · have hA : Hid (Ans.of (fin8 o) = Ans.zero) := by unfold Hid; rw [ht]; rfl
      clear ht J
      go_wp2_with (first
        | (go_at_call 20; refine (sDoneN b F _ S4 hbad N.tn N.was).mono ?_; rintro e w5 ⟨rfl, k5⟩; replace R : At w5 (w.heap.size + 2) doneZ.toArray 32 := ⟨(k5.block _ R.lt (by omega) (by omega)).trans R.is⟩; replace z4 := z4.trans (below_of_K2 k5 (by omega) (by omega) zs4))
        | (refine storeDn rfl (.tmp 8) (.tmp 28) rfl (w.heap.size + 2) (.slice none 0 0) Hd.zero Dd.zero rfl rfl rfl R rfl ?_; intro w6 R6 kk))
      refine bodyPost_ret (resDn2 (v := .slice none 0 0) (h := Hd.zero) (d := Dd.zero) 8 9 rfl rfl rfl R6) rfl ?_
      rw [hA.out]
      exact OutR.zero (z4.trans (kk.below (by omega) z4.size))
end Go.Proofs.YtljpkgloegafnaaGreat
namespace Go.Proofs.YtljpkgloegafnaaGreat
open Go.RowKit
set_option maxRecDepth 100000
set_option linter.unusedVariables false
set_option linter.unusedSimpArgs false
/-- What the program told is what is asked of it: the words' own pages make no difference. -/
theorem told_ans {w w' : World} {e : Ending} {F : S8} {o1 o2 : Option I8} (J1 : (F.good = true ∧ ∃ t, fin8 o1 = some t ∧ t.xs = F.ar ∧ t.h = F.h ∧ t.d = F.d ∧ t.n = F.n) ∨ (F.good = false ∧ fin8 o1 = none))
    (J2 : (F.good = true ∧ ∃ t, fin8 o2 = some t ∧ t.xs = F.ar ∧ t.h = F.h ∧ t.d = F.d ∧ t.n = F.n) ∨ (F.good = false ∧ fin8 o2 = none)) (T : Told8 w w.heap.size (fin8 o1) e w') : OutR w (Ans.of (fin8 o2)) e w' := by
  rcases J1 with ⟨g1, t1, f1, x1, h1, d1, n1⟩ | ⟨b1, f1⟩
  · rcases J2 with ⟨g2, t2, f2, x2, h2, d2, n2⟩ | ⟨b2, f2⟩
    · rw [f1] at T
      rw [f2]
      obtain ⟨⟨g, rfl, hg, G⟩, hb⟩ := T
      have hA : Ans.of (some t2) = ⟨t1.xs, t1.h, t1.d, true⟩ := by show (⟨t2.xs, t2.h, t2.d, true⟩ : Ans) = _; rw [x1, h1, d1, x2, h2, d2]
      rw [hA]
      exact ⟨some ⟨g, 0, none⟩, t1.n, t1.n, rfl, .inr ⟨g, rfl, hg, G⟩, hb⟩
    · rw [b2] at g1; cases g1
  · rcases J2 with ⟨g2, t2, f2, x2, h2, d2, n2⟩ | ⟨b2, f2⟩
    · rw [b1] at g2; cases g2
    · rw [f1] at T
      rw [f2]
      obtain ⟨rfl, hb⟩ := T
      exact OutR.zero hb
theorem iInstall (p s l c k : Int) (g n cc : Nat) (xs : List Int) (me : Int) (h : Hd) (w : World) (G : Ws w g n cc xs) (hn : n ≤ 16777216) (hs : 0 ≤ h.seen ∧ h.seen ≤ 18446744073709551615) (hp : 0 ≤ h.put ∧ h.put ≤ 18446744073709551615) :
    Calls Tryz.prog 9 #[.agg #[.int .i64 p, .int .i64 s, .int .i64 l, .int .i64 c, .int .i64 k], .slice (some ⟨g, 0, none⟩) n cc, .int .i64 me, .agg h.ar] w (OutR w (ans8 p s l c k n xs me h)) := by
  unfold ans8
  cases hm : mayB p s l c k n me h 8
  · rw [if_neg (by decide)]
    refine (iInstallN p s l c k g n cc xs me h w G hn hm).mono ?_
    rintro e w' ⟨rfl, hb⟩
    exact OutR.zero hb
  · rw [if_pos rfl]
    have hsay := say_ok hm
    have haddr := addr_ok hm
    have hat := lay8 (may_y hm).2.2.2
    refine (iInstallY p s l c k g n cc xs me h w G hn hm (fun pv => (st0 p s l c k pv n xs h).next) (fun pv q B w1 S => iNext B q _ w1 S hn hs hat) (fun pv t e => Meas.next hp e)).mono ?_
    rintro e w' ⟨pv, T⟩
    exact told_ans (fin_of (join8 (sm0 p s l c k 0 n 0 xs none 0 [] me h pv 54 G.len) rfl hs.1 (fun _ => hsay) haddr)) (fin_of (join8 (sm0 p s l c k 0 n 0 xs none 0 [] me h (.slice none 0 0) 54 G.len) rfl hs.1 (fun _ => hsay) haddr)) T
theorem len_of {s : S8} {o : Option I8} (H : Agr s o) : (Ans.of (fin8 o)).xs.length ≤ s.n := by
  cases o with
  | none => exact Nat.zero_le _
  | some t =>
    obtain ⟨M, ok⟩ := H
    cases hk : hOk t.p t.s t.l t.c t.k t.h
    · have : fin8 (some t) = none := by unfold fin8; simp only [hk]; rfl
      rw [this]
      exact Nat.zero_le _
    · have : fin8 (some t) = some t := by unfold fin8; simp only [hk]; rfl
      rw [this]
      show t.xs.length ≤ _
      rw [← M.ar, M.len]
      exact Nat.le_refl _
theorem ans8_len (p s l c k : Int) (n : Nat) (xs : List Int) (me : Int) (h : Hd) (hl : xs.length = n) (hs : 0 ≤ h.seen) (hp : 0 ≤ h.put ∧ h.put ≤ 18446744073709551615) (bd : Bdx xs) : (ans8 p s l c k n xs me h).xs.length ≤ n := by
  unfold ans8
  split
  · rename_i hm
    have J := join8 (sm0 p s l c k 0 n 0 xs none 0 [] me h (.slice none 0 0) 54 hl) rfl hs (fun _ => say_ok hm) (addr_ok hm)
    have N := nc8 (nc0 p s l c k 0 n 0 xs none 0 [] me h bd) hs hp (fun _ => say_ok hm)
    have := len_of J
    rw [N.n] at this
    exact this
  · exact Nat.zero_le _
end Go.Proofs.YtljpkgloegafnaaGreat
