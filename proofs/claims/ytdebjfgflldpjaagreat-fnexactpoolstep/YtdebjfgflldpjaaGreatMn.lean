/-
  What the specification's InstallStep answers.
  What the program's InstallStep answers, in the same form.
  Whose a head is: the program's question.
  The program's pool: what its steps ask and make ready.
  The program's pool: its parts.
  The program's pool: its parts.
-/
import Derived.Test.YtdebjfgflldpjaaGreatMm
import Derived.WalkKit
import Derived.Deep.RegionHeld3
namespace Go.Proofs.YtdebjfgflldpjaaGreat
open Go.RowKit
set_option maxRecDepth 100000
set_option linter.unusedVariables false
set_option linter.unusedSimpArgs false
/-- What may be done is of a right hand. -/
theorem may_y {p s l c k me ch : Int} {n : Nat} {h : Hd} (hm : mayB p s l c k n me h ch = true) : aOk p s l c k n = true ∧ hOk p s l c k h = true ∧ h.up = true ∧ layer h.at_ = ch := by
  unfold mayB at hm
  simp only [Bool.and_eq_true, beq_iff_eq] at hm
  exact ⟨hm.1.1.1.1, hm.1.1.2, hm.1.2, hm.2⟩
theorem hOk_y {p s l c k : Int} {h : Hd} (hh : hOk p s l c k h = true) (hu : h.up = true) : h.own p = true ∧ h.swap p s l c = true ∧ h.was = true := by
  unfold hOk at hh
  rw [hu] at hh
  simp only [Bool.and_eq_true, if_true] at hh
  exact ⟨hh.2.1.1.2, hh.2.1.2, hh.2.2⟩
theorem inB_y {n a b : Int} (h : inB n a b = true) : a ≤ n ∧ n ≤ b := by unfold inB at h; simpa using h
theorem own_y {h : Hd} {p : Int} (ho : h.own p = true) : (0 ≤ h.reply ∧ h.reply ≤ 255) ∧ (0 ≤ h.out ∧ h.out ≤ 65535) ∧ (0 ≤ h.number ∧ h.number ≤ 4294967295) ∧ (0 ≤ h.for_ ∧ h.for_ ≤ p - 1) ∧ (0 ≤ h.last ∧ h.last ≤ 4294967295) := by
  unfold Hd.own at ho
  simp only [Bool.and_eq_true] at ho
  obtain ⟨⟨⟨⟨⟨⟨⟨⟨⟨⟨⟨⟨⟨h1, h2⟩, h3⟩, h4⟩, h5⟩, h6⟩, h7⟩, h8⟩, h9⟩, h10⟩, h11⟩, h12⟩, h13⟩, h14⟩ := ho
  exact ⟨inB_y h11, inB_y h12, inB_y h6, inB_y h7, inB_y h8⟩
theorem swap_y2 {h : Hd} {p s l c : Int} (ho : h.swap p s l c = true) : 0 ≤ h.addr ∧ h.addr ≤ zF p s l c - 1 := by
  unfold Hd.swap at ho
  simp only [Bool.and_eq_true] at ho
  obtain ⟨⟨⟨⟨⟨⟨⟨⟨⟨h1, h2⟩, h3⟩, h4⟩, h5⟩, h6⟩, h7⟩, h8⟩, h9⟩, h10⟩ := ho
  exact inB_y h1
theorem say_ok {p s l c k me ch : Int} {n : Nat} {h : Hd} (hm : mayB p s l c k n me h ch = true) : wOk h.reply 0 h.out h.number = true := by
  obtain ⟨h1, h2, h3, h4⟩ := may_y hm
  obtain ⟨h5, h6, h7⟩ := hOk_y h2 h3
  obtain ⟨a, b, d, -, -⟩ := own_y h5
  rw [wOk_iff]
  omega
theorem aOk_size {p s l c k : Int} {n : Nat} (h : aOk p s l c k n = true) : ok p s l c k = true ∧ (n : Int) = zF p s l c := by
  cases ho : ok p s l c k
  · rw [aOk_n ho] at h; cases h
  · have := of_decide_eq_true h
    unfold vSize at this
    rw [if_pos ho] at this
    exact ⟨rfl, this⟩
theorem addr_ok {p s l c k me ch : Int} {n : Nat} {h : Hd} (hm : mayB p s l c k n me h ch = true) : thr h.addr n = true := by
  obtain ⟨h1, h2, h3, h4⟩ := may_y hm
  obtain ⟨h5, h6, h7⟩ := hOk_y h2 h3
  obtain ⟨a, b⟩ := swap_y2 h6
  obtain ⟨ho, hz⟩ := aOk_size h1
  unfold thr
  exact decide_eq_true (by omega)
theorem lay8 {a : Int} (h : layer a = 8) : 1 ≤ a ∧ a ≤ 8 := by
  unfold layer at h
  repeat' (split at h)
  all_goals omega
theorem sm0 (p s l c k : Int) (g n cc : Nat) (xs : List Int) (ra : Option Addr) (rc : Nat) (runs : List Int) (me : Int) (h : Hd) (pv : Value) (ty : TypeId) (hl : xs.length = n) : Sm (s0 p s l c k g n cc xs ra rc runs me h) (st0 p s l c k pv n xs h ty) := ⟨rfl, rfl, rfl, rfl, rfl, rfl, rfl, hl, rfl, rfl⟩
theorem nc0 (p s l c k : Int) (g n cc : Nat) (xs : List Int) (ra : Option Addr) (rc : Nat) (runs : List Int) (me : Int) (h : Hd) (bd : Bdx xs) : Nc (s0 p s l c k g n cc xs ra rc runs me h) (s0 p s l c k g n cc xs ra rc runs me h) := ⟨rfl, rfl, rfl, fun e => (by cases e), ⟨Int.le_refl 0, (by show (0 : Int) ≤ _; omega)⟩, bd⟩
/-- What InstallStep answers. -/
noncomputable def ans8 (p s l c k : Int) (n : Nat) (xs : List Int) (me : Int) (h : Hd) : Ans := if mayB p s l c k n me h 8 = true then Ans.of (fin8 (st0 p s l c k (.slice none 0 0) n xs h).next) else Ans.zero
theorem below_of_K2 {B b g : Nat} {w w' : World} (k : K2 b g w w') (hb : B ≤ b) (hg : B ≤ g) (hB : B ≤ w.heap.size) : Below B w w' := ⟨k.os, k.tape, k.output, k.size, fun i hi => k.block i (by omega) (by omega) (by omega)⟩
end Go.Proofs.YtdebjfgflldpjaaGreat
namespace Go.Proofs.YtdebjfgflldpjaaGreat
open Go.RowKit
set_option maxRecDepth 100000
set_option linter.unusedVariables false
set_option linter.unusedSimpArgs false
/-- What the program told is what is asked of it: the words' own pages make no difference. -/
theorem told_ans {w w' : World} {e : Ending} {F : S8} {o1 o2 : Option I8} (J1 : (F.good = true ∧ ∃ t, fin8 o1 = some t ∧ t.xs = F.ar ∧ t.h = F.h ∧ t.d = F.d ∧ t.n = F.n) ∨ (F.good = false ∧ fin8 o1 = none))
    (J2 : (F.good = true ∧ ∃ t, fin8 o2 = some t ∧ t.xs = F.ar ∧ t.h = F.h ∧ t.d = F.d ∧ t.n = F.n) ∨ (F.good = false ∧ fin8 o2 = none)) (T : Told8 w w.heap.size (fin8 o1) e w') : OutR w (Ans.of (fin8 o2)) e w' := by
  rcases J1 with ⟨g1, t1, f1, x1, h1, d1, n1⟩ | ⟨b1, f1⟩
  · rcases J2 with ⟨g2, t2, f2, x2, h2, d2, n2⟩ | ⟨b2, f2⟩
    · rw [f1] at T
      rw [f2]
      obtain ⟨⟨g, rfl, hg, G⟩, hb⟩ := T
      have hA : Ans.of (some t2) = ⟨t1.xs, t1.h, t1.d, true⟩ := by show (⟨t2.xs, t2.h, t2.d, true⟩ : Ans) = _; rw [x1, h1, d1, x2, h2, d2]
      rw [hA]
      exact ⟨some ⟨g, 0, none⟩, t1.n, t1.n, rfl, .inr ⟨g, rfl, hg, G⟩, hb⟩
    · rw [b2] at g1; cases g1
  · rcases J2 with ⟨g2, t2, f2, x2, h2, d2, n2⟩ | ⟨b2, f2⟩
    · rw [b1] at g2; cases g2
    · rw [f1] at T
      rw [f2]
      obtain ⟨rfl, hb⟩ := T
      exact OutR.zero hb
theorem len_of {s : S8} {o : Option I8} (H : Agr s o) : (Ans.of (fin8 o)).xs.length ≤ s.n := by
  cases o with
  | none => exact Nat.zero_le _
  | some t =>
    obtain ⟨M, ok⟩ := H
    cases hk : hOk t.p t.s t.l t.c t.k t.h
    · have : fin8 (some t) = none := by unfold fin8; simp only [hk]; rfl
      rw [this]
      exact Nat.zero_le _
    · have : fin8 (some t) = some t := by unfold fin8; simp only [hk]; rfl
      rw [this]
      show t.xs.length ≤ _
      rw [← M.ar, M.len]
      exact Nat.le_refl _
theorem ans8_len (p s l c k : Int) (n : Nat) (xs : List Int) (me : Int) (h : Hd) (hl : xs.length = n) (hs : 0 ≤ h.seen) (hp : 0 ≤ h.put ∧ h.put ≤ 18446744073709551615) (bd : Bdx xs) : (ans8 p s l c k n xs me h).xs.length ≤ n := by
  unfold ans8
  split
  · rename_i hm
    have J := join8 (sm0 p s l c k 0 n 0 xs none 0 [] me h (.slice none 0 0) 54 hl) rfl hs (fun _ => say_ok hm) (addr_ok hm)
    have N := nc8 (nc0 p s l c k 0 n 0 xs none 0 [] me h bd) hs hp (fun _ => say_ok hm)
    have := len_of J
    rw [N.n] at this
    exact this
  · exact Nat.zero_le _
end Go.Proofs.YtdebjfgflldpjaaGreat
namespace Go.Proofs.YtdebjfgflldpjaaGreat
open Go.RowKit
set_option maxRecDepth 100000
set_option linter.unusedVariables false
set_option linter.unusedSimpArgs false
def hsay9 (kind slot x : Int) : Bool := decide (uK x = kind ∧ uP x = slot)
theorem run_wordI9 (x0 x1 x2 x3 : Int) (w : World) : (Instr.field 85 (.agg #[.int .i64 x0, .int .i64 x1, .int .i64 x2, .int .i64 x3]) 2).run Tryz.prog w = .ok (.int .i64 x2) w := by
  simp [Instr.field, go_sem, asAgg]
set_option maxHeartbeats 2000000 in
theorem iNames9 (kind x pid : Int) (h0 : 0 ≤ x) (h1 : x ≤ 18446744073709551615) (w : World) :
    Calls Tryz.prog 106 #[.int .i64 kind, .int .u64 x, .int .i64 pid] w fun e w' => e = .returned (.bool (hsay9 kind pid x)) ∧ Below w.heap.size w w' := by
  go_enter Tryz.func106, Tryz.ntmps106
  go_wp2_with (go_at_call 101; refine (iUnpack _ h0 h1 _).mono ?_; rintro e w1 ⟨rfl, hb⟩)
  all_goals
    go_ret
    refine ⟨?_, hb.alloc hb.size _⟩
    first
      | exact ret_f (decide_eq_false (fun h => by omega))
      | (refine ret_b ?_; unfold hsay9; rw [Bool.eq_iff_iff]; simp; omega)
end Go.Proofs.YtdebjfgflldpjaaGreat
namespace Go.Proofs.YtdebjfgflldpjaaGreat
open Go.RowKit
set_option maxRecDepth 100000
set_option linter.unusedVariables false
set_option linter.unusedSimpArgs false
def I8.blk (st : I8) (f : Int) : Int := vBlock st.p st.s st.l st.c st.k st.h.block f
def I8.cls (st : I8) : Int := vClass st.p st.s st.l st.c st.k st.h.block
def I8.root (st : I8) (r : Int) : Int := vRoot st.p st.s st.l st.c st.k r
def I8.asked (st : I8) : Int := if st.h.code = 2 then st.h.a else 0
theorem uIb (x : Int) : 0 ≤ uI x ∧ uI x ≤ 65535 := by unfold uI; omega
theorem pBlock (B q : Nat) (st : I8) (f : Int) (w : World) (S : IAt w B q st) :
    Calls Tryz.prog 59 #[.pointer (some ⟨q, 0, none⟩), .int .i64 f] w fun e w' => e = .returned (.int .i64 (st.blk f)) ∧ Below w.heap.size w w' := by
  have A := S.is
  have lp : ∀ w', Cls w w' → (loadVar 35 ⟨q, 0, none⟩).run Tryz.prog w' = .ok (.agg #[.int .i64 st.p, .int .i64 st.s, .int .i64 st.l, .int .i64 st.c, .int .i64 st.k]) w' := ld_sub (o := 0) A st.pl Tryz.underlying35 rfl (by kernel_rfl)
  have lb : ∀ w', Cls w w' → (loadVar 2 ⟨q, 27, none⟩).run Tryz.prog w' = .ok (.int .i64 st.h.block) w' := ld_i A Tryz.underlying2 rfl
  clear A
  go_enter Tryz.func59, Tryz.ntmps59
  go_upto_region 1 with fail
  refine wp_region_cls (by kernel_rfl) (by kernel_rfl) ?_
  repeat' (first
    | go_big_quiet_skip
    | (go_big_quiet_want; first
      | (refine q_load _ _ _ _ rfl rfl (by assumption) ?_; simp only [Act.put, List.setIfInBounds_toArray, List.set_cons_zero, List.set_cons_succ]; go_big_quiet_on)
      | (go_big_quiet_op; first
        | go_big_quiet_on
        | (refine ⟨_, fun _ _ => rfl, ?_⟩; go_big_quiet_on)
        | (apply Exists.intro; refine ⟨fun w' hw' => ?_, ?_⟩
           · (first
             | (go_at_call 102; exact cls_below hw' (iBlock _ _ _ _ _ _ _ _)))
           go_big_quiet_on))))
  refine wpQuiet_nil ?_
  intro w2 hw2
  go_wp2
  go_ret
  exact ⟨rfl, hw2.below⟩
theorem pClass (B q : Nat) (st : I8) (w : World) (S : IAt w B q st) :
    Calls Tryz.prog 68 #[.pointer (some ⟨q, 0, none⟩)] w fun e w' => e = .returned (.int .i64 st.cls) ∧ Below w.heap.size w w' := by
  have A := S.is
  have lp : ∀ w', Cls w w' → (loadVar 35 ⟨q, 0, none⟩).run Tryz.prog w' = .ok (.agg #[.int .i64 st.p, .int .i64 st.s, .int .i64 st.l, .int .i64 st.c, .int .i64 st.k]) w' := ld_sub (o := 0) A st.pl Tryz.underlying35 rfl (by kernel_rfl)
  have lb : ∀ w', Cls w w' → (loadVar 2 ⟨q, 27, none⟩).run Tryz.prog w' = .ok (.int .i64 st.h.block) w' := ld_i A Tryz.underlying2 rfl
  clear A
  go_enter Tryz.func68, Tryz.ntmps68
  go_upto_region 1 with fail
  refine wp_region_cls (by kernel_rfl) (by kernel_rfl) ?_
  repeat' (first
    | go_big_quiet_skip
    | (go_big_quiet_want; first
      | (refine q_load _ _ _ _ rfl rfl (by assumption) ?_; simp only [Act.put, List.setIfInBounds_toArray, List.set_cons_zero, List.set_cons_succ]; go_big_quiet_on)
      | (go_big_quiet_op; first
        | go_big_quiet_on
        | (refine ⟨_, fun _ _ => rfl, ?_⟩; go_big_quiet_on)
        | (apply Exists.intro; refine ⟨fun w' hw' => ?_, ?_⟩
           · (first
             | (go_at_call 110; exact cls_below hw' (iClass _ _ _ _ _ _ _)))
           go_big_quiet_on))))
  refine wpQuiet_nil ?_
  intro w2 hw2
  go_wp2
  go_ret
  exact ⟨rfl, hw2.below⟩
theorem pAsked (B q : Nat) (st : I8) (w : World) (S : IAt w B q st) :
    Calls Tryz.prog 100 #[.pointer (some ⟨q, 0, none⟩)] w fun e w' => e = .returned (.int .i64 st.asked) ∧ w' = w := by
  have c13 : w.cell? ⟨q, 13, none⟩ = some (.int .i64 st.h.code) := S.is.cell 13
  have c14 : w.cell? ⟨q, 14, none⟩ = some (.int .i64 st.h.a) := S.is.cell 14
  unfold I8.asked
  by_cases hk : st.h.code = 2
  · rw [if_pos hk]
    rw [hk] at c13
    go_enter Tryz.func100, Tryz.ntmps100
    go_wp2
    go_ret
    exact ⟨rfl, rfl⟩
  · rw [if_neg hk]
    have hkb : (st.h.code == 2) = false := by simp [hk]
    go_enter Tryz.func100, Tryz.ntmps100
    go_wp2
    go_ret
    exact ⟨rfl, rfl⟩
theorem pFreeN (B q : Nat) (st : I8) (cl : Int) (w : World) (S : IAt w B q st) (hc : inB cl 0 1 = false) :
    Calls Tryz.prog 67 #[.pointer (some ⟨q, 0, none⟩), .int .i64 cl] w fun e w' => e = .panicked gu ∧ w' = w := by
  go_enter Tryz.func67, Tryz.ntmps67
  go_wp2_with (first
    | (go_at_call 88; refine (iWithin _ _ _ _).mono ?_; rintro e w1 ⟨rfl, rfl⟩; rw [hc])
    | (go_at_call 98; refine (iGiveUp _).mono ?_; rintro e w2 ⟨rfl, rfl⟩))
  exact ⟨rfl, rfl, rfl⟩
theorem pFreeY (B q : Nat) (st : I8) (cl : Int) (w : World) (S : IAt w B q st) (hc : inB cl 0 1 = true) :
    Calls Tryz.prog 67 #[.pointer (some ⟨q, 0, none⟩), .int .i64 cl] w fun e w' => e = .returned (.int .i64 (st.root cl)) ∧ Below w.heap.size w w' := by
  have hc2 : 0 ≤ cl ∧ cl ≤ 1 := by unfold inB at hc; simpa using hc
  have hw : IntKind.i64.wrap cl = cl := by rw [IntKind.wrap_i64]; omega
  obtain ⟨c0, c1, c2, c3, c4⟩ : w.cell? ⟨q, 0, none⟩ = some (.int .i64 st.p) ∧ w.cell? ⟨q, 1, none⟩ = some (.int .i64 st.s) ∧ w.cell? ⟨q, 2, none⟩ = some (.int .i64 st.l) ∧ w.cell? ⟨q, 3, none⟩ = some (.int .i64 st.c) ∧ w.cell? ⟨q, 4, none⟩ = some (.int .i64 st.k) := ⟨S.is.cell 0, S.is.cell 1, S.is.cell 2, S.is.cell 3, S.is.cell 4⟩
  go_enter Tryz.func67, Tryz.ntmps67
  go_wp2_with (first
    | (go_at_call 88; refine (iWithin _ _ _ _).mono ?_; rintro e w1 ⟨rfl, rfl⟩; rw [hc])
    | (go_at_call 109; refine (iRoot _ _ _ _ _ _ _).mono ?_; rintro e w2 ⟨rfl, hb⟩))
  go_ret
  exact ⟨by first | rfl | (unfold I8.root; simp [hw]), hb⟩
theorem pIndexY (B q : Nat) (st : I8) (a : Int) (w : World) (S : IAt w B q st) (hn : st.n ≤ 16777216) (ht : thr a st.n = true) (bd : 0 ≤ red st.xs a ∧ red st.xs a ≤ 18446744073709551615) :
    Calls Tryz.prog 58 #[.pointer (some ⟨q, 0, none⟩), .int .i64 a] w fun e w' => e = .returned (.int .i64 (uI (red st.xs a))) ∧ Below w.heap.size w w' := by
  have hf := run_wordI9
  obtain ⟨x, hx⟩ : ∃ x, Hid (red st.xs a = x) := ⟨_, rfl⟩
  rw [hx.out] at bd
  rw [hx.out]
  go_enter Tryz.func58, Tryz.ntmps58
  go_wp2_with (first
    | (go_at_call 66; refine (iStReadY B q st a _ S hn ht).mono ?_; rintro e w1 ⟨rfl, rfl⟩; rw [hx.out])
    | (go_at_call 101; refine (iUnpack _ bd.1 bd.2 _).mono ?_; rintro e w2 ⟨rfl, hb⟩))
  go_ret
  exact ⟨rfl, hb⟩
theorem pIndexN (B q : Nat) (st : I8) (a : Int) (w : World) (S : IAt w B q st) (hn : st.n ≤ 16777216) (ht : thr a st.n = false) :
    Calls Tryz.prog 58 #[.pointer (some ⟨q, 0, none⟩), .int .i64 a] w fun e w' => e = .panicked gu ∧ w' = w := by
  go_enter Tryz.func58, Tryz.ntmps58
  go_wp2_with (go_at_call 66; refine (iStReadN B q st a _ S hn ht).mono ?_; rintro e w1 ⟨rfl, rfl⟩)
  exact ⟨rfl, rfl, rfl⟩
def I8.behind (st : I8) : Int := if st.h.code = 3 then 2 else if st.h.code = 12 then 69 else if st.h.index = 0 then 64 else 67
theorem pBehind (B q : Nat) (st : I8) (w : World) (S : IAt w B q st) :
    Calls Tryz.prog 112 #[.pointer (some ⟨q, 0, none⟩)] w fun e w' => e = .returned (.int .i64 st.behind) ∧ w' = w := by
  have c13 : w.cell? ⟨q, 13, none⟩ = some (.int .i64 st.h.code) := S.is.cell 13
  have c31 : w.cell? ⟨q, 31, none⟩ = some (.int .i64 st.h.index) := S.is.cell 31
  unfold I8.behind
  by_cases k3 : st.h.code = 3
  · rw [if_pos k3]
    rw [k3] at c13
    go_enter Tryz.func112, Tryz.ntmps112
    go_wp2
    go_ret
    exact ⟨rfl, rfl⟩
  rw [if_neg k3]
  have kb3 : (st.h.code == 3) = false := by simp [k3]
  by_cases k12 : st.h.code = 12
  · rw [if_pos k12]
    rw [k12] at c13
    go_enter Tryz.func112, Tryz.ntmps112
    go_wp2
    go_ret
    exact ⟨rfl, rfl⟩
  rw [if_neg k12]
  have kb12 : (st.h.code == 12) = false := by simp [k12]
  by_cases k0 : st.h.index = 0
  · rw [if_pos k0]
    rw [k0] at c31
    go_enter Tryz.func112, Tryz.ntmps112
    go_wp2
    go_ret
    exact ⟨rfl, rfl⟩
  rw [if_neg k0]
  have kb0 : (st.h.index == 0) = false := by simp [k0]
  go_enter Tryz.func112, Tryz.ntmps112
  go_wp2
  go_ret
  exact ⟨rfl, rfl⟩
end Go.Proofs.YtdebjfgflldpjaaGreat
namespace Go.Proofs.YtdebjfgflldpjaaGreat
open Go.RowKit
set_option maxRecDepth 100000
set_option linter.unusedVariables false
set_option linter.unusedSimpArgs false
theorem I8.wrO_h {st st' : I8} {a k p i v : Int} (h : st.wrO a k p i v = some st') : st'.h = st.h := by
  unfold I8.wrO at h
  split at h
  · cases h; rfl
  · cases h
theorem root_thr {p s l c k r : Int} {n : Nat} (h : aOk p s l c k n = true) (r0 : 0 ≤ r) (r1 : r ≤ 4) : thr (vRoot p s l c k r) n = true := by
  cases ho : ok p s l c k
  · rw [aOk_n ho] at h; cases h
  · have hz := of_decide_eq_true h
    unfold vSize at hz
    rw [if_pos ho] at hz
    have h' := ok_iff.1 ho
    have hq := sq_bd h'.1 h'.2.1
    have e : vRoot p s l c k r = rF p + r := by unfold vRoot; rw [if_pos ⟨ho, by omega, by omega⟩]
    unfold thr
    rw [e]
    exact decide_eq_true (by unfold zF rF at *; omega)
theorem red_bd {xs : List Int} (bd : ∀ x ∈ xs, 0 ≤ x ∧ x ≤ 18446744073709551615) (a : Int) : 0 ≤ red xs a ∧ red xs a ≤ 18446744073709551615 := by
  unfold red
  split
  · exact bd_getD bd _
  · omega
/-- A swap of a root is made ready. -/
def I8.prepO (st : I8) (root block does good bad : Int) : Option I8 := if wOk 0 st.h.for_ block st.h.last = true then some { st with h := { st.h with addr := root, put := pk 0 st.h.for_ block st.h.last, does := does, good := good, bad := bad, at_ := 6 } } else none
theorem prep_fin {w : World} {B q : Nat} {st : I8} (S : IAt w B q st) (root x does good bad : Int) : IAt ((((((w.setCell ⟨q, 21, none⟩ (.int .i64 root)).setCell ⟨q, 23, none⟩ (.int .u64 x)).setCell ⟨q, 26, none⟩ (.int .i64 does)).setCell ⟨q, 24, none⟩ (.int .i64 good)).setCell ⟨q, 25, none⟩ (.int .i64 bad)).setCell ⟨q, 12, none⟩ (.int .i64 6)) B q { st with h := { st.h with addr := root, put := x, does := does, good := good, bad := bad, at_ := 6 } } :=
  (((((S.put (st' := { st with h := { st.h with addr := root } }) 21 _ (by omega) rfl rfl rfl).put (st' := { st with h := { st.h with addr := root, put := x } }) 23 _ (by omega) rfl rfl rfl).put (st' := { st with h := { st.h with addr := root, put := x, does := does } }) 26 _ (by omega) rfl rfl rfl).put (st' := { st with h := { st.h with addr := root, put := x, does := does, good := good } }) 24 _ (by omega) rfl rfl rfl).put (st' := { st with h := { st.h with addr := root, put := x, does := does, good := good, bad := bad } }) 25 _ (by omega) rfl rfl rfl).put 12 _ (by omega) rfl rfl rfl
set_option maxHeartbeats 2000000 in
theorem pPrepN (B q : Nat) (st : I8) (root block does good bad : Int) (w : World) (S : IAt w B q st) (hw : wOk 0 st.h.for_ block st.h.last = false) :
    Calls Tryz.prog 103 #[.pointer (some ⟨q, 0, none⟩), .int .i64 root, .int .i64 block, .int .i64 does, .int .i64 good, .int .i64 bad] w fun e w' => e = .panicked gu ∧ Below w.heap.size w w' := by
  have A := S.is
  have lf : ∀ w', Cls w w' → (loadVar 2 ⟨q, 18, none⟩).run Tryz.prog w' = .ok (.int .i64 st.h.for_) w' := ld_i A Tryz.underlying2 rfl
  have ll : ∀ w', Cls w w' → (loadVar 2 ⟨q, 19, none⟩).run Tryz.prog w' = .ok (.int .i64 st.h.last) w' := ld_i A Tryz.underlying2 rfl
  clear A
  go_enter Tryz.func103, Tryz.ntmps103
  go_upto_region 1 with fail
  refine wp_region_dies (C := Cls w) [0, 1, 2, 3, 4, 5, 6, 7, 8, 9, 10, 11, 12] 13 (by simp only [List.map_cons, List.map_nil, List.getD_cons_succ, List.getD_cons_zero]; rfl) (by kernel_rfl) rfl (by kernel_rfl) (by kernel_rfl) (by kernel_rfl) (by decide) ⟨(Below.refl _ _).drew⟩ (fun c a d v w h => by cases d <;> exact h) ?_
  repeat' (first
    | go_big_quiet_skip
    | (go_big_quiet_want; first
      | (refine q_load _ _ _ _ rfl rfl (by assumption) ?_; simp only [Act.put, List.setIfInBounds_toArray, List.set_cons_zero, List.set_cons_succ]; go_big_quiet_on)
      | (go_big_quiet_op; first
        | go_big_quiet_on
        | (refine ⟨_, fun _ _ => rfl, ?_⟩; go_big_quiet_on))))
  refine wpQuiet_nil ?_
  refine ⟨by rfl, fun w2 hw2 => ?_⟩
  go_simp
  go_at_call 105
  refine (iPackedN _ _ _ _ _ hw).mono ?_
  rintro e w3 ⟨rfl, hb⟩
  exact ⟨rfl, rfl, hw2.below.trans (hb.mono hw2.below.size)⟩
set_option maxHeartbeats 4000000 in
theorem pPrepY (B q : Nat) (st : I8) (root block does good bad : Int) (w : World) (S : IAt w B q st) (hw : wOk 0 st.h.for_ block st.h.last = true) :
    Calls Tryz.prog 103 #[.pointer (some ⟨q, 0, none⟩), .int .i64 root, .int .i64 block, .int .i64 does, .int .i64 good, .int .i64 bad] w fun e w' => e = .returned (.tuple #[]) ∧ IAt w' B q { st with h := { st.h with addr := root, put := pk 0 st.h.for_ block st.h.last, does := does, good := good, bad := bad, at_ := 6 } } ∧ Kq q st.pv w w' := by
  have c18 : w.cell? ⟨q, 18, none⟩ = some (.int .i64 st.h.for_) := S.is.cell 18
  have c19 : w.cell? ⟨q, 19, none⟩ = some (.int .i64 st.h.last) := S.is.cell 19
  have FIN : Hid (∀ w x, IAt w B q st → IAt ((((((w.setCell ⟨q, 21, none⟩ (.int .i64 root)).setCell ⟨q, 23, none⟩ (.int .u64 x)).setCell ⟨q, 26, none⟩ (.int .i64 does)).setCell ⟨q, 24, none⟩ (.int .i64 good)).setCell ⟨q, 25, none⟩ (.int .i64 bad)).setCell ⟨q, 12, none⟩ (.int .i64 6)) B q { st with h := { st.h with addr := root, put := x, does := does, good := good, bad := bad, at_ := 6 } }) := fun w x S => prep_fin S root x does good bad
  obtain ⟨x, hx⟩ : ∃ x, Hid (pk 0 st.h.for_ block st.h.last = x) := ⟨_, rfl⟩
  rw [hx.out]
  go_enter Tryz.func103, Tryz.ntmps103
  go_upto_region 1 with fail
  have z : Below w.heap.size w w.drew := (Below.refl _ _).drew
  replace S := S.keep z
  go_region_held3 (fun w' => w'.cell? ⟨q, 18, none⟩ = some (.int .i64 st.h.for_) ∧ w'.cell? ⟨q, 19, none⟩ = some (.int .i64 st.h.last)) (first | go_keep | (refine ⟨?_, ?_⟩ <;> (simp [go_sem]; assumption)))
    (first | (go_at_call 105; refine (iPackedY _ _ _ _ _ hw).mono ?_; rintro e w2 ⟨rfl, hb⟩; rw [hx.out]; replace z := z.trans (hb.mono z.size); replace S := S.keep hb; clear hb c18 c19; have c18 : w2.cell? ⟨q, 18, none⟩ = some (.int .i64 st.h.for_) := S.is.cell 18; have c19 : w2.cell? ⟨q, 19, none⟩ = some (.int .i64 st.h.last) := S.is.cell 19; have c21 : w2.cell? ⟨q, 21, none⟩ = some (.int .i64 st.h.addr) := S.is.cell 21; have f21 := S.fz 21; have c23 : w2.cell? ⟨q, 23, none⟩ = some (.int .u64 st.h.put) := S.is.cell 23; have f23 := S.fz 23))
  have c26 : w2.cell? ⟨q, 26, none⟩ = some (.int .i64 st.h.does) := S.is.cell 26
  have f26 := S.fz 26
  have c24 : w2.cell? ⟨q, 24, none⟩ = some (.int .i64 st.h.good) := S.is.cell 24
  have f24 := S.fz 24
  have c25 : w2.cell? ⟨q, 25, none⟩ = some (.int .i64 st.h.bad) := S.is.cell 25
  have f25 := S.fz 25
  have c12 : w2.cell? ⟨q, 12, none⟩ = some (.int .i64 st.h.at_) := S.is.cell 12
  have f12 := S.fz 12
  go_wp2
  first | go_end0 | refine bodyPost_ret (results_none rfl _ _ _) rfl ?_
  exact ⟨rfl, FIN.out _ _ S, ((((((Kq.of_below z).set 21 _).set 23 _).set 26 _).set 24 _).set 25 _).set 12 _⟩
end Go.Proofs.YtdebjfgflldpjaaGreat
namespace Go.Proofs.YtdebjfgflldpjaaGreat
open Go.RowKit
set_option maxRecDepth 100000
set_option linter.unusedVariables false
set_option linter.unusedSimpArgs false
def I8.freeT (st : I8) (x : Int) : I8 := if uI x = 0 then { st with h := { st.h with seen := x, reply := 4, out := 0, at_ := 2 } } else { st with h := { st.h with seen := x, block := uI x, at_ := 10 } }
def I8.freeO (st : I8) : Option I8 := if inB st.asked 0 1 = true then some (st.freeT (red st.xs (st.root st.asked))) else none
set_option maxHeartbeats 2000000 in
theorem pSee (B q : Nat) (st : I8) (w : World) (S : IAt w B q st) (hn : st.n ≤ 16777216) (ha : aOk st.p st.s st.l st.c st.k st.n = true) (bd : ∀ x ∈ st.xs, 0 ≤ x ∧ x ≤ 18446744073709551615) :
    Calls Tryz.prog 57 #[.pointer (some ⟨q, 0, none⟩)] w (Ends B q st.pv w st.freeO) := by
  unfold I8.freeO
  cases hc : inB st.asked 0 1
  · rw [if_neg (by decide)]
    unfold Ends
    go_enter Tryz.func57, Tryz.ntmps57
    go_upto_region 1 with fail
    refine wp_region_dies (C := Cls w) [0, 1, 2, 3, 4, 5, 6] 7 (by simp only [List.map_cons, List.map_nil, List.getD_cons_succ, List.getD_cons_zero]; rfl) (by kernel_rfl) rfl (by kernel_rfl) (by kernel_rfl) (by kernel_rfl) (by decide) ⟨(Below.refl _ _).drew⟩ (fun c a d v w h => by cases d <;> exact h) ?_
    repeat' (first
      | go_big_quiet_skip
      | (go_big_quiet_want; first
        | (refine q_load _ _ _ _ rfl rfl (by assumption) ?_; simp only [Act.put, List.setIfInBounds_toArray, List.set_cons_zero, List.set_cons_succ]; go_big_quiet_on)
        | (go_big_quiet_op; first
          | go_big_quiet_on
          | (refine ⟨_, fun _ _ => rfl, ?_⟩; go_big_quiet_on)
          | (apply Exists.intro; refine ⟨fun w' hw' => ?_, ?_⟩
             · (first
               | (go_at_call 100; exact cls_same hw' (pAsked B q st _ (S.keep hw'.below))))
             go_big_quiet_on))))
    refine wpQuiet_nil ?_
    refine ⟨by rfl, fun w2 hw2 => ?_⟩
    go_simp
    go_at_call 67
    refine (pFreeN B q st _ _ (S.keep hw2.below) hc).mono ?_
    rintro e w3 ⟨rfl, rfl⟩
    exact ⟨rfl, rfl, Kq.of_below hw2.below⟩
  · rw [if_pos rfl]
    have hc2 : 0 ≤ st.asked ∧ st.asked ≤ 1 := by unfold inB at hc; simpa using hc
    have ht : thr (st.root st.asked) st.n = true := root_thr ha hc2.1 (by omega)
    obtain ⟨x, hx⟩ : ∃ x, Hid (red st.xs (st.root st.asked) = x) := ⟨_, rfl⟩
    have hb : 0 ≤ x ∧ x ≤ 18446744073709551615 := by rw [← hx.out]; exact red_bd bd _
    rw [hx.out]
    have hf := run_wordI9
    have c22 : w.cell? ⟨q, 22, none⟩ = some (.int .u64 st.h.seen) := S.is.cell 22
    have f22 := S.fz 22
    unfold Ends
    clear bd ha hc2
    go_enter Tryz.func57, Tryz.ntmps57
    go_upto_region 1 with fail
    refine wp_region_bar (C := Cls w) rfl rfl (by kernel_rfl) (by kernel_rfl) ⟨(Below.refl _ _).drew⟩ ?_
    simp only [List.dropLast]
    repeat' (first
      | go_big_quiet_skip
      | (go_big_quiet_want; first
        | (refine q_load _ _ _ _ rfl rfl (by assumption) ?_; simp only [Act.put, List.setIfInBounds_toArray, List.set_cons_zero, List.set_cons_succ]; go_big_quiet_on)
        | (go_big_quiet_op; first
          | go_big_quiet_on
          | (refine ⟨_, fun _ _ => rfl, ?_⟩; go_big_quiet_on)
          | (apply Exists.intro; refine ⟨fun w' hw' => ?_, ?_⟩
             · (first
               | (go_at_call 100; exact cls_same hw' (pAsked B q st _ (S.keep hw'.below)))
               | (go_at_call 67; exact cls_below hw' (pFreeY B q st _ _ (S.keep hw'.below) hc))
               | (go_at_call 66; exact cls_same hw' (by have hq := iStReadY B q st _ _ (S.keep hw'.below) hn ht; rw [hx.out] at hq; exact hq)))
             go_big_quiet_on))))
    refine wpQuiet_nil ?_
    intro w2 hw2
    have S2 := S.keep hw2.below
    clear c22 f22
    have c22 : w2.cell? ⟨q, 22, none⟩ = some (.int .u64 st.h.seen) := S2.is.cell 22
    have f22 := S2.fz 22
    have z2 : Kq q st.pv w w2 := Kq.of_below hw2.below
    have FS : Hid (IAt (w2.setCell ⟨q, 22, none⟩ (.int .u64 x)) B q { st with h := { st.h with seen := x } }) := S2.put (st' := { st with h := { st.h with seen := x } }) 22 _ (by omega) rfl rfl rfl
    go_upto_region 2 with fail
    change Code.wp _ _ _ _ (w2.setCell ⟨q, 22, none⟩ (.int .u64 x))
    replace z2 := z2.set 22 (.int .u64 x)
    generalize w2.setCell ⟨q, 22, none⟩ (.int .u64 x) = w3 at *
    have S3 := FS.out
    clear c22 f22 S2 S FS
    have c22 : w3.cell? ⟨q, 22, none⟩ = some (.int .u64 x) := S3.is.cell 22
    by_cases h0 : uI x = 0
    · go_wp2_with (first
        | (go_at_call 101; refine (iUnpack _ hb.1 hb.2 _).mono ?_; rintro e w4 ⟨rfl, hb4⟩; rw [h0]; replace S3 := S3.keep hb4; replace z2 := z2.trans (Kq.of_below hb4))
        | (go_at_call 64; refine (iReply B q _ 4 0 _ S3).mono ?_; rintro e w5 ⟨rfl, S5, z5⟩))
      first | go_end0 | refine bodyPost_ret (results_none rfl _ _ _) rfl ?_
      refine ⟨rfl, ?_, z2.trans z5⟩
      unfold I8.freeT
      rw [if_pos h0]
      exact S5
    · have h0b : (uI x == 0) = false := by simp [h0]
      go_upto_region 5 with (go_at_call 101; refine (iUnpack _ hb.1 hb.2 _).mono ?_; rintro e w4 ⟨rfl, hb4⟩; replace S3 := S3.keep hb4; replace z2 := z2.trans (Kq.of_below hb4))
      have c27 : w4.cell? ⟨q, 27, none⟩ = some (.int .i64 st.h.block) := S3.is.cell 27
      have f27 := S3.fz 27
      have c12 : w4.cell? ⟨q, 12, none⟩ = some (.int .i64 st.h.at_) := S3.is.cell 12
      have f12 := S3.fz 12
      have FS : Hid (IAt ((w4.setCell ⟨q, 27, none⟩ (.int .i64 (uI x))).setCell ⟨q, 12, none⟩ (.int .i64 10)) B q { st with h := { st.h with seen := x, block := uI x, at_ := 10 } }) := (S3.put (st' := { st with h := { st.h with seen := x, block := uI x } }) 27 _ (by omega) rfl rfl rfl).put 12 _ (by omega) rfl rfl rfl
      go_wp2
      first | go_end0 | refine bodyPost_ret (results_none rfl _ _ _) rfl ?_
      refine ⟨rfl, ?_, (z2.set 27 _).set 12 _⟩
      unfold I8.freeT
      rw [if_neg h0]
      exact FS.out
def I8.holdO (st : I8) : Option I8 := (st.wrO (st.blk 0) 1 st.h.for_ 0 0).map fun t => if st.h.code = 2 then t.rep 1 st.h.block else t.to 13
set_option maxHeartbeats 2000000 in
theorem pHold (B q : Nat) (st : I8) (w : World) (S : IAt w B q st) (hn : st.n ≤ 16777216) (ha : aOk st.p st.s st.l st.c st.k st.n = true) (bd : ∀ x ∈ st.xs, 0 ≤ x ∧ x ≤ 18446744073709551615) :
    Calls Tryz.prog 61 #[.pointer (some ⟨q, 0, none⟩)] w (Ends B q st.pv w st.holdO) := by
  have A := S.is
  have lf : ∀ w', Cls w w' → (loadVar 2 ⟨q, 18, none⟩).run Tryz.prog w' = .ok (.int .i64 st.h.for_) w' := ld_i A Tryz.underlying2 rfl
  clear A
  unfold I8.holdO
  cases hr : st.wrO (st.blk 0) 1 st.h.for_ 0 0 with
  | none =>
    simp only [Option.map_none]
    unfold Ends
    go_enter Tryz.func61, Tryz.ntmps61
    go_upto_region 1 with fail
    refine wp_region_bar (C := Cls w) rfl rfl (by kernel_rfl) (by kernel_rfl) ⟨(Below.refl _ _).drew⟩ ?_
    simp only [List.dropLast]
    repeat' (first
      | go_big_quiet_skip
      | (go_big_quiet_want; first
        | (refine q_load _ _ _ _ rfl rfl (by assumption) ?_; simp only [Act.put, List.setIfInBounds_toArray, List.set_cons_zero, List.set_cons_succ]; go_big_quiet_on)
        | (go_big_quiet_op; first
          | go_big_quiet_on
          | (refine ⟨_, fun _ _ => rfl, ?_⟩; go_big_quiet_on)
          | (apply Exists.intro; refine ⟨fun w' hw' => ?_, ?_⟩
             · (first
               | (go_at_call 59; exact cls_below hw' (pBlock B q st _ _ (S.keep hw'.below))))
             go_big_quiet_on))))
    refine wpQuiet_nil ?_
    intro w2 hw2
    go_wp2_with (go_at_call 62; refine (iStWrite B q st _ _ _ _ _ _ (S.keep hw2.below) hn).mono ?_; intro e w3 hE; rw [hr] at hE; obtain ⟨rfl, z3⟩ := hE)
    exact ⟨rfl, rfl, (Kq.of_below hw2.below).trans z3⟩
  | some t =>
    simp only [Option.map_some]
    have hth := I8.wrO_h hr
    have hpv := I8.wrO_pv hr
    by_cases hk : st.h.code = 2
    · rw [if_pos hk]
      unfold Ends
      go_enter Tryz.func61, Tryz.ntmps61
      go_upto_region 1 with fail
      refine wp_region_bar (C := Cls w) rfl rfl (by kernel_rfl) (by kernel_rfl) ⟨(Below.refl _ _).drew⟩ ?_
      simp only [List.dropLast]
      repeat' (first
        | go_big_quiet_skip
        | (go_big_quiet_want; first
          | (refine q_load _ _ _ _ rfl rfl (by assumption) ?_; simp only [Act.put, List.setIfInBounds_toArray, List.set_cons_zero, List.set_cons_succ]; go_big_quiet_on)
          | (go_big_quiet_op; first
            | go_big_quiet_on
            | (refine ⟨_, fun _ _ => rfl, ?_⟩; go_big_quiet_on)
            | (apply Exists.intro; refine ⟨fun w' hw' => ?_, ?_⟩
               · (first
                 | (go_at_call 59; exact cls_below hw' (pBlock B q st _ _ (S.keep hw'.below))))
               go_big_quiet_on))))
      refine wpQuiet_nil ?_
      intro w2 hw2
      go_upto_region 3 with (go_at_call 62; refine (iStWrite B q st _ _ _ _ _ _ (S.keep hw2.below) hn).mono ?_; intro e w3 hE; rw [hr] at hE; obtain ⟨rfl, S3, z3⟩ := hE; have c13 : w3.cell? ⟨q, 13, none⟩ = some (.int .i64 2) := (S3.is.cell 13).trans (by show some (Value.int .i64 t.h.code) = _; rw [hth, hk]))
      have A := S3.is
      have lb : ∀ w', Cls w3 w' → (loadVar 2 ⟨q, 27, none⟩).run Tryz.prog w' = .ok (.int .i64 t.h.block) w' := ld_i A Tryz.underlying2 rfl
      clear A
      rw [hth] at lb
      refine wp_region_bar (C := Cls w3) rfl rfl (by kernel_rfl) (by kernel_rfl) ⟨(Below.refl _ _).drew⟩ ?_
      simp only [List.dropLast]
      repeat' (first
        | go_big_quiet_skip
        | (go_big_quiet_want; first
          | (refine q_load _ _ _ _ rfl rfl (by assumption) ?_; simp only [Act.put, List.setIfInBounds_toArray, List.set_cons_zero, List.set_cons_succ]; go_big_quiet_on)
          | (go_big_quiet_op; first
            | go_big_quiet_on
            | (refine ⟨_, fun _ _ => rfl, ?_⟩; go_big_quiet_on))))
      refine wpQuiet_nil ?_
      intro w4 hw4
      go_wp2_with (go_at_call 64; refine (iReply B q t 1 st.h.block _ (S3.keep hw4.below)).mono ?_; rintro e w5 ⟨rfl, S5, z5⟩; rw [hpv] at z5)
      first | go_end0 | refine bodyPost_ret (results_none rfl _ _ _) rfl ?_
      exact ⟨rfl, S5, (((Kq.of_below hw2.below).trans z3).trans (Kq.of_below hw4.below)).trans z5⟩
    · rw [if_neg hk]
      have hkb : (st.h.code == 2) = false := by simp [hk]
      unfold Ends
      go_enter Tryz.func61, Tryz.ntmps61
      go_upto_region 1 with fail
      refine wp_region_bar (C := Cls w) rfl rfl (by kernel_rfl) (by kernel_rfl) ⟨(Below.refl _ _).drew⟩ ?_
      simp only [List.dropLast]
      repeat' (first
        | go_big_quiet_skip
        | (go_big_quiet_want; first
          | (refine q_load _ _ _ _ rfl rfl (by assumption) ?_; simp only [Act.put, List.setIfInBounds_toArray, List.set_cons_zero, List.set_cons_succ]; go_big_quiet_on)
          | (go_big_quiet_op; first
            | go_big_quiet_on
            | (refine ⟨_, fun _ _ => rfl, ?_⟩; go_big_quiet_on)
            | (apply Exists.intro; refine ⟨fun w' hw' => ?_, ?_⟩
               · (first
                 | (go_at_call 59; exact cls_below hw' (pBlock B q st _ _ (S.keep hw'.below))))
               go_big_quiet_on))))
      refine wpQuiet_nil ?_
      intro w2 hw2
      go_wp2_with (go_at_call 62; refine (iStWrite B q st _ _ _ _ _ _ (S.keep hw2.below) hn).mono ?_; intro e w3 hE; rw [hr] at hE; obtain ⟨rfl, S3, z3⟩ := hE; have c13 : w3.cell? ⟨q, 13, none⟩ = some (.int .i64 st.h.code) := (S3.is.cell 13).trans (by show some (Value.int .i64 t.h.code) = _; rw [hth]); have c12 : w3.cell? ⟨q, 12, none⟩ = some (.int .i64 t.h.at_) := S3.is.cell 12; have f12 := S3.fz 12)
      first | go_end0 | refine bodyPost_ret (results_none rfl _ _ _) rfl ?_
      exact ⟨rfl, S3.to 13, ((Kq.of_below hw2.below).trans z3).set _ _⟩
def I8.mineT (st : I8) (x : Int) : I8 := if hsay9 1 st.h.for_ x = true then { st with h := { st.h with block := st.h.a, at_ := if st.h.code = 3 then 17 else if st.h.code = 4 then 15 else 16 } } else st.rep 7 0
def I8.mineAt (st : I8) : Int := vBlock st.p st.s st.l st.c st.k st.h.a 0
def I8.mineO (st : I8) : Option I8 := if thr st.mineAt st.n = true then some (st.mineT (red st.xs st.mineAt)) else none
set_option maxHeartbeats 2000000 in
theorem pMine (B q : Nat) (st : I8) (w : World) (S : IAt w B q st) (hn : st.n ≤ 16777216) (ha : aOk st.p st.s st.l st.c st.k st.n = true) (bd : ∀ x ∈ st.xs, 0 ≤ x ∧ x ≤ 18446744073709551615) :
    Calls Tryz.prog 63 #[.pointer (some ⟨q, 0, none⟩)] w (Ends B q st.pv w st.mineO) := by
  have A := S.is
  have lp : ∀ w', Cls w w' → (loadVar 35 ⟨q, 0, none⟩).run Tryz.prog w' = .ok (.agg #[.int .i64 st.p, .int .i64 st.s, .int .i64 st.l, .int .i64 st.c, .int .i64 st.k]) w' := ld_sub (o := 0) A st.pl Tryz.underlying35 rfl (by kernel_rfl)
  have la : ∀ w', Cls w w' → (loadVar 2 ⟨q, 14, none⟩).run Tryz.prog w' = .ok (.int .i64 st.h.a) w' := ld_i A Tryz.underlying2 rfl
  have lf : ∀ w', Cls w w' → (loadVar 2 ⟨q, 18, none⟩).run Tryz.prog w' = .ok (.int .i64 st.h.for_) w' := ld_i A Tryz.underlying2 rfl
  clear A
  unfold I8.mineO
  cases ht : thr st.mineAt st.n
  · rw [if_neg (by decide)]
    unfold Ends
    go_enter Tryz.func63, Tryz.ntmps63
    go_upto_region 1 with fail
    refine wp_region_dies (C := Cls w) [0, 1, 2, 3, 4, 5, 6, 7, 8, 9, 10, 11, 12] 13 (by simp only [List.map_cons, List.map_nil, List.getD_cons_succ, List.getD_cons_zero]; rfl) (by kernel_rfl) rfl (by kernel_rfl) (by kernel_rfl) (by kernel_rfl) (by decide) ⟨(Below.refl _ _).drew⟩ (fun c a d v w h => by cases d <;> exact h) ?_
    repeat' (first
      | go_big_quiet_skip
      | (go_big_quiet_want; first
        | (refine q_load _ _ _ _ rfl rfl (by assumption) ?_; simp only [Act.put, List.setIfInBounds_toArray, List.set_cons_zero, List.set_cons_succ]; go_big_quiet_on)
        | (go_big_quiet_op; first
          | go_big_quiet_on
          | (refine ⟨_, fun _ _ => rfl, ?_⟩; go_big_quiet_on)
          | (apply Exists.intro; refine ⟨fun w' hw' => ?_, ?_⟩
             · (first
               | (go_at_call 102; exact cls_below hw' (iBlock _ _ _ _ _ _ _ _)))
             go_big_quiet_on))))
    refine wpQuiet_nil ?_
    refine ⟨by rfl, fun w2 hw2 => ?_⟩
    go_simp
    go_at_call 66
    refine (iStReadN B q st st.mineAt _ (S.keep hw2.below) hn ht).mono ?_
    rintro e w3 ⟨rfl, rfl⟩
    exact ⟨rfl, rfl, Kq.of_below hw2.below⟩
  · rw [if_pos rfl]
    obtain ⟨x, hx⟩ : ∃ x, Hid (red st.xs st.mineAt = x) := ⟨_, rfl⟩
    have hb : 0 ≤ x ∧ x ≤ 18446744073709551615 := by rw [← hx.out]; exact red_bd bd _
    rw [hx.out]
    clear bd ha
    unfold I8.mineT
    cases hy : hsay9 1 st.h.for_ x
    · rw [if_neg (by decide)]
      unfold Ends
      go_enter Tryz.func63, Tryz.ntmps63
      go_upto_region 1 with fail
      refine wp_region_cls (by kernel_rfl) (by kernel_rfl) ?_
      repeat' (first
        | go_big_quiet_skip
        | (go_big_quiet_want; first
          | (refine q_load _ _ _ _ rfl rfl (by assumption) ?_; simp only [Act.put, List.setIfInBounds_toArray, List.set_cons_zero, List.set_cons_succ]; go_big_quiet_on)
          | (go_big_quiet_op; first
            | go_big_quiet_on
            | (refine ⟨_, fun _ _ => rfl, ?_⟩; go_big_quiet_on)
            | (apply Exists.intro; refine ⟨fun w' hw' => ?_, ?_⟩
               · (first
                 | (go_at_call 102; exact cls_below hw' (iBlock _ _ _ _ _ _ _ _))
                 | (go_at_call 66; exact cls_same hw' (by have hq := iStReadY B q st st.mineAt _ (S.keep hw'.below) hn ht; rw [hx.out] at hq; exact hq)))
               go_big_quiet_on))))
      refine wpQuiet_nil ?_
      intro w2 hw2
      have S2 := S.keep hw2.below
      have c18 : w2.cell? ⟨q, 18, none⟩ = some (.int .i64 st.h.for_) := S2.is.cell 18
      go_wp2_with (first
        | (go_at_call 106; refine (iNames9 1 x _ hb.1 hb.2 _).mono ?_; rintro e w3 ⟨rfl, hb3⟩; rw [hy]; replace S2 := S2.keep hb3)
        | (go_at_call 64; refine (iReply B q _ 7 0 _ S2).mono ?_; rintro e w5 ⟨rfl, S5, z5⟩))
      first | go_end0 | refine bodyPost_ret (results_none rfl _ _ _) rfl ?_
      exact ⟨rfl, S5, ((Kq.of_below hw2.below).trans (Kq.of_below hb3)).trans z5⟩
    · rw [if_pos rfl]
      by_cases k3 : st.h.code = 3
      · rw [if_pos k3]
        have hk3 : Hid (st.h.code = 3) := k3
        clear k3
        unfold Ends
        go_enter Tryz.func63, Tryz.ntmps63
        go_upto_region 1 with fail
        refine wp_region_cls (by kernel_rfl) (by kernel_rfl) ?_
        repeat' (first
          | go_big_quiet_skip
          | (go_big_quiet_want; first
            | (refine q_load _ _ _ _ rfl rfl (by assumption) ?_; simp only [Act.put, List.setIfInBounds_toArray, List.set_cons_zero, List.set_cons_succ]; go_big_quiet_on)
            | (go_big_quiet_op; first
              | go_big_quiet_on
              | (refine ⟨_, fun _ _ => rfl, ?_⟩; go_big_quiet_on)
              | (apply Exists.intro; refine ⟨fun w' hw' => ?_, ?_⟩
                 · (first
                   | (go_at_call 102; exact cls_below hw' (iBlock _ _ _ _ _ _ _ _))
                   | (go_at_call 66; exact cls_same hw' (by have hq := iStReadY B q st st.mineAt _ (S.keep hw'.below) hn ht; rw [hx.out] at hq; exact hq)))
                 go_big_quiet_on))))
        refine wpQuiet_nil ?_
        intro w2 hw2
        have S2 := S.keep hw2.below
        have c18 : w2.cell? ⟨q, 18, none⟩ = some (.int .i64 st.h.for_) := S2.is.cell 18
        go_upto_region 4 with (go_at_call 106; refine (iNames9 1 x _ hb.1 hb.2 _).mono ?_; rintro e w3 ⟨rfl, hb3⟩; rw [hy]; replace S2 := S2.keep hb3)
        have c14 : w3.cell? ⟨q, 14, none⟩ = some (.int .i64 st.h.a) := S2.is.cell 14
        have c27 : w3.cell? ⟨q, 27, none⟩ = some (.int .i64 st.h.block) := S2.is.cell 27
        have f27 := S2.fz 27
        have c12 : w3.cell? ⟨q, 12, none⟩ = some (.int .i64 st.h.at_) := S2.is.cell 12
        have f12 := S2.fz 12
        have c13 : w3.cell? ⟨q, 13, none⟩ = some (.int .i64 3) := (S2.is.cell 13).trans (by show some (Value.int .i64 st.h.code) = _; rw [hk3.out])
        have FS : Hid (IAt ((w3.setCell ⟨q, 27, none⟩ (.int .i64 st.h.a)).setCell ⟨q, 12, none⟩ (.int .i64 17)) B q { st with h := { st.h with block := st.h.a, at_ := 17 } }) := (S2.put (st' := { st with h := { st.h with block := st.h.a } }) 27 _ (by omega) rfl rfl rfl).put 12 _ (by omega) rfl rfl rfl
        go_wp2
        first | go_end0 | refine bodyPost_ret (results_none rfl _ _ _) rfl ?_
        exact ⟨rfl, FS.out, (((Kq.of_below hw2.below).trans (Kq.of_below hb3)).set 27 _).set 12 _⟩
      rw [if_neg k3]
      have kb3 : (st.h.code == 3) = false := by simp [k3]
      by_cases k4 : st.h.code = 4
      · rw [if_pos k4]
        have hk4 : Hid (st.h.code = 4) := k4
        clear k4
        unfold Ends
        go_enter Tryz.func63, Tryz.ntmps63
        go_upto_region 1 with fail
        refine wp_region_cls (by kernel_rfl) (by kernel_rfl) ?_
        repeat' (first
          | go_big_quiet_skip
          | (go_big_quiet_want; first
            | (refine q_load _ _ _ _ rfl rfl (by assumption) ?_; simp only [Act.put, List.setIfInBounds_toArray, List.set_cons_zero, List.set_cons_succ]; go_big_quiet_on)
            | (go_big_quiet_op; first
              | go_big_quiet_on
              | (refine ⟨_, fun _ _ => rfl, ?_⟩; go_big_quiet_on)
              | (apply Exists.intro; refine ⟨fun w' hw' => ?_, ?_⟩
                 · (first
                   | (go_at_call 102; exact cls_below hw' (iBlock _ _ _ _ _ _ _ _))
                   | (go_at_call 66; exact cls_same hw' (by have hq := iStReadY B q st st.mineAt _ (S.keep hw'.below) hn ht; rw [hx.out] at hq; exact hq)))
                 go_big_quiet_on))))
        refine wpQuiet_nil ?_
        intro w2 hw2
        have S2 := S.keep hw2.below
        have c18 : w2.cell? ⟨q, 18, none⟩ = some (.int .i64 st.h.for_) := S2.is.cell 18
        go_upto_region 4 with (go_at_call 106; refine (iNames9 1 x _ hb.1 hb.2 _).mono ?_; rintro e w3 ⟨rfl, hb3⟩; rw [hy]; replace S2 := S2.keep hb3)
        have c14 : w3.cell? ⟨q, 14, none⟩ = some (.int .i64 st.h.a) := S2.is.cell 14
        have c27 : w3.cell? ⟨q, 27, none⟩ = some (.int .i64 st.h.block) := S2.is.cell 27
        have f27 := S2.fz 27
        have c12 : w3.cell? ⟨q, 12, none⟩ = some (.int .i64 st.h.at_) := S2.is.cell 12
        have f12 := S2.fz 12
        have c13 : w3.cell? ⟨q, 13, none⟩ = some (.int .i64 4) := (S2.is.cell 13).trans (by show some (Value.int .i64 st.h.code) = _; rw [hk4.out])
        have FS : Hid (IAt ((w3.setCell ⟨q, 27, none⟩ (.int .i64 st.h.a)).setCell ⟨q, 12, none⟩ (.int .i64 15)) B q { st with h := { st.h with block := st.h.a, at_ := 15 } }) := (S2.put (st' := { st with h := { st.h with block := st.h.a } }) 27 _ (by omega) rfl rfl rfl).put 12 _ (by omega) rfl rfl rfl
        go_wp2
        first | go_end0 | refine bodyPost_ret (results_none rfl _ _ _) rfl ?_
        exact ⟨rfl, FS.out, (((Kq.of_below hw2.below).trans (Kq.of_below hb3)).set 27 _).set 12 _⟩
      rw [if_neg k4]
      have kb4 : (st.h.code == 4) = false := by simp [k4]
      unfold Ends
      go_enter Tryz.func63, Tryz.ntmps63
      go_upto_region 1 with fail
      refine wp_region_cls (by kernel_rfl) (by kernel_rfl) ?_
      repeat' (first
        | go_big_quiet_skip
        | (go_big_quiet_want; first
          | (refine q_load _ _ _ _ rfl rfl (by assumption) ?_; simp only [Act.put, List.setIfInBounds_toArray, List.set_cons_zero, List.set_cons_succ]; go_big_quiet_on)
          | (go_big_quiet_op; first
            | go_big_quiet_on
            | (refine ⟨_, fun _ _ => rfl, ?_⟩; go_big_quiet_on)
            | (apply Exists.intro; refine ⟨fun w' hw' => ?_, ?_⟩
               · (first
                 | (go_at_call 102; exact cls_below hw' (iBlock _ _ _ _ _ _ _ _))
                 | (go_at_call 66; exact cls_same hw' (by have hq := iStReadY B q st st.mineAt _ (S.keep hw'.below) hn ht; rw [hx.out] at hq; exact hq)))
               go_big_quiet_on))))
      refine wpQuiet_nil ?_
      intro w2 hw2
      have S2 := S.keep hw2.below
      have c18 : w2.cell? ⟨q, 18, none⟩ = some (.int .i64 st.h.for_) := S2.is.cell 18
      go_upto_region 4 with (go_at_call 106; refine (iNames9 1 x _ hb.1 hb.2 _).mono ?_; rintro e w3 ⟨rfl, hb3⟩; rw [hy]; replace S2 := S2.keep hb3)
      have c14 : w3.cell? ⟨q, 14, none⟩ = some (.int .i64 st.h.a) := S2.is.cell 14
      have c27 : w3.cell? ⟨q, 27, none⟩ = some (.int .i64 st.h.block) := S2.is.cell 27
      have f27 := S2.fz 27
      have c12 : w3.cell? ⟨q, 12, none⟩ = some (.int .i64 st.h.at_) := S2.is.cell 12
      have f12 := S2.fz 12
      have c13 : w3.cell? ⟨q, 13, none⟩ = some (.int .i64 st.h.code) := (S2.is.cell 13).trans (by show some (Value.int .i64 st.h.code) = _; rfl)
      have FS : Hid (IAt ((w3.setCell ⟨q, 27, none⟩ (.int .i64 st.h.a)).setCell ⟨q, 12, none⟩ (.int .i64 16)) B q { st with h := { st.h with block := st.h.a, at_ := 16 } }) := (S2.put (st' := { st with h := { st.h with block := st.h.a } }) 27 _ (by omega) rfl rfl rfl).put 12 _ (by omega) rfl rfl rfl
      go_wp2
      first | go_end0 | refine bodyPost_ret (results_none rfl _ _ _) rfl ?_
      exact ⟨rfl, FS.out, (((Kq.of_below hw2.below).trans (Kq.of_below hb3)).set 27 _).set 12 _⟩
end Go.Proofs.YtdebjfgflldpjaaGreat
