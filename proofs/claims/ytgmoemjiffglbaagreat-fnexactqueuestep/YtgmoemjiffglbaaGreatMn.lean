/-
  What the specification's InstallStep answers.
  What the program's InstallStep answers, in the same form.
  Whose a head is: the program's question.
  The program's pool: what its steps ask and make ready.
  The program's pool: its parts.
  The program's pool: its parts.
-/
import Derived.Test.YtgmoemjiffglbaaGreatMm
import Derived.WalkKit
import Derived.Deep.RegionHeld3
namespace Go.Proofs.YtgmoemjiffglbaaGreat
open Go.RowKit
set_option maxRecDepth 100000
set_option linter.unusedVariables false
set_option linter.unusedSimpArgs false
/-- What may be done is of a right hand. -/
theorem may_y {p s l c k me ch : Int} {n : Nat} {h : Hd} (hm : mayB p s l c k n me h ch = true) : aOk p s l c k n = true ∧ hOk p s l c k h = true ∧ h.up = true ∧ layer h.at_ = ch := by
  unfold mayB at hm
  simp only [Bool.and_eq_true, beq_iff_eq] at hm
  exact ⟨hm.1.1.1.1, hm.1.1.2, hm.1.2, hm.2⟩
theorem hOk_y {p s l c k : Int} {h : Hd} (hh : hOk p s l c k h = true) (hu : h.up = true) : h.own p = true ∧ h.swap p s l c = true ∧ h.was = true := by
  unfold hOk at hh
  rw [hu] at hh
  simp only [Bool.and_eq_true, if_true] at hh
  exact ⟨hh.2.1.1.2, hh.2.1.2, hh.2.2⟩
theorem inB_y {n a b : Int} (h : inB n a b = true) : a ≤ n ∧ n ≤ b := by unfold inB at h; simpa using h
theorem own_y {h : Hd} {p : Int} (ho : h.own p = true) : (0 ≤ h.reply ∧ h.reply ≤ 255) ∧ (0 ≤ h.out ∧ h.out ≤ 65535) ∧ (0 ≤ h.number ∧ h.number ≤ 4294967295) ∧ (0 ≤ h.for_ ∧ h.for_ ≤ p - 1) ∧ (0 ≤ h.last ∧ h.last ≤ 4294967295) := by
  unfold Hd.own at ho
  simp only [Bool.and_eq_true] at ho
  obtain ⟨⟨⟨⟨⟨⟨⟨⟨⟨⟨⟨⟨⟨h1, h2⟩, h3⟩, h4⟩, h5⟩, h6⟩, h7⟩, h8⟩, h9⟩, h10⟩, h11⟩, h12⟩, h13⟩, h14⟩ := ho
  exact ⟨inB_y h11, inB_y h12, inB_y h6, inB_y h7, inB_y h8⟩
theorem swap_y2 {h : Hd} {p s l c : Int} (ho : h.swap p s l c = true) : 0 ≤ h.addr ∧ h.addr ≤ zF p s l c - 1 := by
  unfold Hd.swap at ho
  simp only [Bool.and_eq_true] at ho
  obtain ⟨⟨⟨⟨⟨⟨⟨⟨⟨h1, h2⟩, h3⟩, h4⟩, h5⟩, h6⟩, h7⟩, h8⟩, h9⟩, h10⟩ := ho
  exact inB_y h1
theorem say_ok {p s l c k me ch : Int} {n : Nat} {h : Hd} (hm : mayB p s l c k n me h ch = true) : wOk h.reply 0 h.out h.number = true := by
  obtain ⟨h1, h2, h3, h4⟩ := may_y hm
  obtain ⟨h5, h6, h7⟩ := hOk_y h2 h3
  obtain ⟨a, b, d, -, -⟩ := own_y h5
  rw [wOk_iff]
  omega
theorem aOk_size {p s l c k : Int} {n : Nat} (h : aOk p s l c k n = true) : ok p s l c k = true ∧ (n : Int) = zF p s l c := by
  cases ho : ok p s l c k
  · rw [aOk_n ho] at h; cases h
  · have := of_decide_eq_true h
    unfold vSize at this
    rw [if_pos ho] at this
    exact ⟨rfl, this⟩
theorem addr_ok {p s l c k me ch : Int} {n : Nat} {h : Hd} (hm : mayB p s l c k n me h ch = true) : thr h.addr n = true := by
  obtain ⟨h1, h2, h3, h4⟩ := may_y hm
  obtain ⟨h5, h6, h7⟩ := hOk_y h2 h3
  obtain ⟨a, b⟩ := swap_y2 h6
  obtain ⟨ho, hz⟩ := aOk_size h1
  unfold thr
  exact decide_eq_true (by omega)
theorem lay8 {a : Int} (h : layer a = 8) : 1 ≤ a ∧ a ≤ 8 := by
  unfold layer at h
  repeat' (split at h)
  all_goals omega
theorem sm0 (p s l c k : Int) (g n cc : Nat) (xs : List Int) (ra : Option Addr) (rc : Nat) (runs : List Int) (me : Int) (h : Hd) (pv : Value) (ty : TypeId) (hl : xs.length = n) : Sm (s0 p s l c k g n cc xs ra rc runs me h) (st0 p s l c k pv n xs h ty) := ⟨rfl, rfl, rfl, rfl, rfl, rfl, rfl, hl, rfl, rfl⟩
theorem nc0 (p s l c k : Int) (g n cc : Nat) (xs : List Int) (ra : Option Addr) (rc : Nat) (runs : List Int) (me : Int) (h : Hd) (bd : Bdx xs) : Nc (s0 p s l c k g n cc xs ra rc runs me h) (s0 p s l c k g n cc xs ra rc runs me h) := ⟨rfl, rfl, rfl, fun e => (by cases e), ⟨Int.le_refl 0, (by show (0 : Int) ≤ _; omega)⟩, bd⟩
/-- What InstallStep answers. -/
noncomputable def ans8 (p s l c k : Int) (n : Nat) (xs : List Int) (me : Int) (h : Hd) : Ans := if mayB p s l c k n me h 8 = true then Ans.of (fin8 (st0 p s l c k (.slice none 0 0) n xs h).next) else Ans.zero
theorem below_of_K2 {B b g : Nat} {w w' : World} (k : K2 b g w w') (hb : B ≤ b) (hg : B ≤ g) (hB : B ≤ w.heap.size) : Below B w w' := ⟨k.os, k.tape, k.output, k.size, fun i hi => k.block i (by omega) (by omega) (by omega)⟩
end Go.Proofs.YtgmoemjiffglbaaGreat
namespace Go.Proofs.YtgmoemjiffglbaaGreat
open Go.RowKit
set_option maxRecDepth 100000
set_option linter.unusedVariables false
set_option linter.unusedSimpArgs false
/-- What the program told is what is asked of it: the words' own pages make no difference. -/
theorem told_ans {w w' : World} {e : Ending} {F : S8} {o1 o2 : Option I8} (J1 : (F.good = true ∧ ∃ t, fin8 o1 = some t ∧ t.xs = F.ar ∧ t.h = F.h ∧ t.d = F.d ∧ t.n = F.n) ∨ (F.good = false ∧ fin8 o1 = none))
    (J2 : (F.good = true ∧ ∃ t, fin8 o2 = some t ∧ t.xs = F.ar ∧ t.h = F.h ∧ t.d = F.d ∧ t.n = F.n) ∨ (F.good = false ∧ fin8 o2 = none)) (T : Told8 w w.heap.size (fin8 o1) e w') : OutR w (Ans.of (fin8 o2)) e w' := by
  rcases J1 with ⟨g1, t1, f1, x1, h1, d1, n1⟩ | ⟨b1, f1⟩
  · rcases J2 with ⟨g2, t2, f2, x2, h2, d2, n2⟩ | ⟨b2, f2⟩
    · rw [f1] at T
      rw [f2]
      obtain ⟨⟨g, rfl, hg, G⟩, hb⟩ := T
      have hA : Ans.of (some t2) = ⟨t1.xs, t1.h, t1.d, true⟩ := by show (⟨t2.xs, t2.h, t2.d, true⟩ : Ans) = _; rw [x1, h1, d1, x2, h2, d2]
      rw [hA]
      exact ⟨some ⟨g, 0, none⟩, t1.n, t1.n, rfl, .inr ⟨g, rfl, hg, G⟩, hb⟩
    · rw [b2] at g1; cases g1
  · rcases J2 with ⟨g2, t2, f2, x2, h2, d2, n2⟩ | ⟨b2, f2⟩
    · rw [b1] at g2; cases g2
    · rw [f1] at T
      rw [f2]
      obtain ⟨rfl, hb⟩ := T
      exact OutR.zero hb
theorem len_of {s : S8} {o : Option I8} (H : Agr s o) : (Ans.of (fin8 o)).xs.length ≤ s.n := by
  cases o with
  | none => exact Nat.zero_le _
  | some t =>
    obtain ⟨M, ok⟩ := H
    cases hk : hOk t.p t.s t.l t.c t.k t.h
    · have : fin8 (some t) = none := by unfold fin8; simp only [hk]; rfl
      rw [this]
      exact Nat.zero_le _
    · have : fin8 (some t) = some t := by unfold fin8; simp only [hk]; rfl
      rw [this]
      show t.xs.length ≤ _
      rw [← M.ar, M.len]
      exact Nat.le_refl _
theorem ans8_len (p s l c k : Int) (n : Nat) (xs : List Int) (me : Int) (h : Hd) (hl : xs.length = n) (hs : 0 ≤ h.seen) (hp : 0 ≤ h.put ∧ h.put ≤ 18446744073709551615) (bd : Bdx xs) : (ans8 p s l c k n xs me h).xs.length ≤ n := by
  unfold ans8
  split
  · rename_i hm
    have J := join8 (sm0 p s l c k 0 n 0 xs none 0 [] me h (.slice none 0 0) 54 hl) rfl hs (fun _ => say_ok hm) (addr_ok hm)
    have N := nc8 (nc0 p s l c k 0 n 0 xs none 0 [] me h bd) hs hp (fun _ => say_ok hm)
    have := len_of J
    rw [N.n] at this
    exact this
  · exact Nat.zero_le _
end Go.Proofs.YtgmoemjiffglbaaGreat
namespace Go.Proofs.YtgmoemjiffglbaaGreat
open Go.RowKit
set_option maxRecDepth 100000
set_option linter.unusedVariables false
set_option linter.unusedSimpArgs false
def hsay9 (kind slot x : Int) : Bool := decide (uK x = kind ∧ uP x = slot)
theorem run_wordI9 (x0 x1 x2 x3 : Int) (w : World) : (Instr.field 85 (.agg #[.int .i64 x0, .int .i64 x1, .int .i64 x2, .int .i64 x3]) 2).run Tryz.prog w = .ok (.int .i64 x2) w := by
  simp [Instr.field, go_sem, asAgg]
end Go.Proofs.YtgmoemjiffglbaaGreat
namespace Go.Proofs.YtgmoemjiffglbaaGreat
open Go.RowKit
set_option maxRecDepth 100000
set_option linter.unusedVariables false
set_option linter.unusedSimpArgs false
def I8.blk (st : I8) (f : Int) : Int := vBlock st.p st.s st.l st.c st.k st.h.block f
def I8.cls (st : I8) : Int := vClass st.p st.s st.l st.c st.k st.h.block
def I8.root (st : I8) (r : Int) : Int := vRoot st.p st.s st.l st.c st.k r
def I8.asked (st : I8) : Int := if st.h.code = 2 then st.h.a else 0
theorem uIb (x : Int) : 0 ≤ uI x ∧ uI x ≤ 65535 := by unfold uI; omega
theorem pBlock (B q : Nat) (st : I8) (f : Int) (w : World) (S : IAt w B q st) :
    Calls Tryz.prog 49 #[.pointer (some ⟨q, 0, none⟩), .int .i64 f] w fun e w' => e = .returned (.int .i64 (st.blk f)) ∧ Below w.heap.size w w' := by
  have A := S.is
  have lp : ∀ w', Cls w w' → (loadVar 35 ⟨q, 0, none⟩).run Tryz.prog w' = .ok (.agg #[.int .i64 st.p, .int .i64 st.s, .int .i64 st.l, .int .i64 st.c, .int .i64 st.k]) w' := ld_sub (o := 0) A st.pl Tryz.underlying35 rfl (by kernel_rfl)
  have lb : ∀ w', Cls w w' → (loadVar 2 ⟨q, 27, none⟩).run Tryz.prog w' = .ok (.int .i64 st.h.block) w' := ld_i A Tryz.underlying2 rfl
  clear A
  go_enter Tryz.func49, Tryz.ntmps49
  go_upto_region 1 with fail
  refine wp_region_cls (by kernel_rfl) (by kernel_rfl) ?_
  repeat' (first
    | go_big_quiet_skip
    | (go_big_quiet_want; first
      | (refine q_load _ _ _ _ rfl rfl (by assumption) ?_; simp only [Act.put, List.setIfInBounds_toArray, List.set_cons_zero, List.set_cons_succ]; go_big_quiet_on)
      | (go_big_quiet_op; first
        | go_big_quiet_on
        | (refine ⟨_, fun _ _ => rfl, ?_⟩; go_big_quiet_on)
        | (apply Exists.intro; refine ⟨fun w' hw' => ?_, ?_⟩
           · (first
             | (go_at_call 87; exact cls_below hw' (iBlock _ _ _ _ _ _ _ _)))
           go_big_quiet_on))))
  refine wpQuiet_nil ?_
  intro w2 hw2
  go_wp2
  go_ret
  exact ⟨rfl, hw2.below⟩
theorem pIndexY (B q : Nat) (st : I8) (a : Int) (w : World) (S : IAt w B q st) (hn : st.n ≤ 16777216) (ht : thr a st.n = true) (bd : 0 ≤ red st.xs a ∧ red st.xs a ≤ 18446744073709551615) :
    Calls Tryz.prog 115 #[.pointer (some ⟨q, 0, none⟩), .int .i64 a] w fun e w' => e = .returned (.int .i64 (uI (red st.xs a))) ∧ Below w.heap.size w w' := by
  have hf := run_wordI9
  obtain ⟨x, hx⟩ : ∃ x, Hid (red st.xs a = x) := ⟨_, rfl⟩
  rw [hx.out] at bd
  rw [hx.out]
  go_enter Tryz.func115, Tryz.ntmps115
  go_wp2_with (first
    | (go_at_call 88; refine (iStReadY B q st a _ S hn ht).mono ?_; rintro e w1 ⟨rfl, rfl⟩; rw [hx.out])
    | (go_at_call 90; refine (iUnpack _ bd.1 bd.2 _).mono ?_; rintro e w2 ⟨rfl, hb⟩))
  go_ret
  exact ⟨rfl, hb⟩
theorem pIndexN (B q : Nat) (st : I8) (a : Int) (w : World) (S : IAt w B q st) (hn : st.n ≤ 16777216) (ht : thr a st.n = false) :
    Calls Tryz.prog 115 #[.pointer (some ⟨q, 0, none⟩), .int .i64 a] w fun e w' => e = .panicked gu ∧ w' = w := by
  go_enter Tryz.func115, Tryz.ntmps115
  go_wp2_with (go_at_call 88; refine (iStReadN B q st a _ S hn ht).mono ?_; rintro e w1 ⟨rfl, rfl⟩)
  exact ⟨rfl, rfl, rfl⟩
def I8.behind (st : I8) : Int := if st.h.code = 3 then 2 else if st.h.code = 12 then 69 else if st.h.index = 0 then 64 else 67
end Go.Proofs.YtgmoemjiffglbaaGreat
namespace Go.Proofs.YtgmoemjiffglbaaGreat
open Go.RowKit
set_option maxRecDepth 100000
set_option linter.unusedVariables false
set_option linter.unusedSimpArgs false
theorem I8.wrO_h {st st' : I8} {a k p i v : Int} (h : st.wrO a k p i v = some st') : st'.h = st.h := by
  unfold I8.wrO at h
  split at h
  · cases h; rfl
  · cases h
theorem root_thr {p s l c k r : Int} {n : Nat} (h : aOk p s l c k n = true) (r0 : 0 ≤ r) (r1 : r ≤ 4) : thr (vRoot p s l c k r) n = true := by
  cases ho : ok p s l c k
  · rw [aOk_n ho] at h; cases h
  · have hz := of_decide_eq_true h
    unfold vSize at hz
    rw [if_pos ho] at hz
    have h' := ok_iff.1 ho
    have hq := sq_bd h'.1 h'.2.1
    have e : vRoot p s l c k r = rF p + r := by unfold vRoot; rw [if_pos ⟨ho, by omega, by omega⟩]
    unfold thr
    rw [e]
    exact decide_eq_true (by unfold zF rF at *; omega)
theorem red_bd {xs : List Int} (bd : ∀ x ∈ xs, 0 ≤ x ∧ x ≤ 18446744073709551615) (a : Int) : 0 ≤ red xs a ∧ red xs a ≤ 18446744073709551615 := by
  unfold red
  split
  · exact bd_getD bd _
  · omega
/-- A swap of a root is made ready. -/
def I8.prepO (st : I8) (root block does good bad : Int) : Option I8 := if wOk 0 st.h.for_ block st.h.last = true then some { st with h := { st.h with addr := root, put := pk 0 st.h.for_ block st.h.last, does := does, good := good, bad := bad, at_ := 6 } } else none
theorem prep_fin {w : World} {B q : Nat} {st : I8} (S : IAt w B q st) (root x does good bad : Int) : IAt ((((((w.setCell ⟨q, 21, none⟩ (.int .i64 root)).setCell ⟨q, 23, none⟩ (.int .u64 x)).setCell ⟨q, 26, none⟩ (.int .i64 does)).setCell ⟨q, 24, none⟩ (.int .i64 good)).setCell ⟨q, 25, none⟩ (.int .i64 bad)).setCell ⟨q, 12, none⟩ (.int .i64 6)) B q { st with h := { st.h with addr := root, put := x, does := does, good := good, bad := bad, at_ := 6 } } :=
  (((((S.put (st' := { st with h := { st.h with addr := root } }) 21 _ (by omega) rfl rfl rfl).put (st' := { st with h := { st.h with addr := root, put := x } }) 23 _ (by omega) rfl rfl rfl).put (st' := { st with h := { st.h with addr := root, put := x, does := does } }) 26 _ (by omega) rfl rfl rfl).put (st' := { st with h := { st.h with addr := root, put := x, does := does, good := good } }) 24 _ (by omega) rfl rfl rfl).put (st' := { st with h := { st.h with addr := root, put := x, does := does, good := good, bad := bad } }) 25 _ (by omega) rfl rfl rfl).put 12 _ (by omega) rfl rfl rfl
end Go.Proofs.YtgmoemjiffglbaaGreat
namespace Go.Proofs.YtgmoemjiffglbaaGreat
open Go.RowKit
set_option maxRecDepth 100000
set_option linter.unusedVariables false
set_option linter.unusedSimpArgs false
def I8.freeT (st : I8) (x : Int) : I8 := if uI x = 0 then { st with h := { st.h with seen := x, reply := 4, out := 0, at_ := 2 } } else { st with h := { st.h with seen := x, block := uI x, at_ := 10 } }
def I8.freeO (st : I8) : Option I8 := if inB st.asked 0 1 = true then some (st.freeT (red st.xs (st.root st.asked))) else none
def I8.holdO (st : I8) : Option I8 := (st.wrO (st.blk 0) 1 st.h.for_ 0 0).map fun t => if st.h.code = 2 then t.rep 1 st.h.block else t.to 13
def I8.mineT (st : I8) (x : Int) : I8 := if hsay9 1 st.h.for_ x = true then { st with h := { st.h with block := st.h.a, at_ := if st.h.code = 3 then 17 else if st.h.code = 4 then 15 else 16 } } else st.rep 7 0
def I8.mineAt (st : I8) : Int := vBlock st.p st.s st.l st.c st.k st.h.a 0
def I8.mineO (st : I8) : Option I8 := if thr st.mineAt st.n = true then some (st.mineT (red st.xs st.mineAt)) else none
end Go.Proofs.YtgmoemjiffglbaaGreat
