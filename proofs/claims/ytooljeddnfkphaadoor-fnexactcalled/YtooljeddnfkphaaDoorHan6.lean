/-
  The ranges of a hand: the specification's swap part, by one walk of a region that draws its order.
-/
import Derived.Test.YtooljeddnfkphaaDoorHan5
import Derived.Test.YtooljeddnfkphaaDoorQui
namespace Go.Proofs.YtooljeddnfkphaaDoor
open Go.RowKit
set_option linter.unusedVariables false
set_option maxHeartbeats 32000000 in
theorem sSwp (p s l c k : Int) (h : Hd) (ho : ok p s l c k = true) (w : World) : Calls Tryd.prog 36 #[.agg #[.int .i64 p, .int .i64 s, .int .i64 l, .int .i64 c, .int .i64 k], .agg h.ar] w fun e w' => e = .returned (.bool (h.swap p s l c)) ∧ Below w.heap.size w w' := by
  have h' := ok_iff.1 ho
  obtain ⟨z0, ez⟩ : ∃ z0 : Int, Hid (zF p s l c = z0) := ⟨_, rfl⟩
  have eS : Hid (vSize p s l c k = z0) := by rw [← ez.out]; unfold vSize; rw [ho]; rfl
  have eB : Hid (vBlocks p s l c k = s + l) := by unfold vBlocks; rw [ho]; rfl
  have zb : 0 ≤ z0 ∧ z0 ≤ 100000 := by
    have hq := sq_bd h'.1 h'.2.1
    rw [← ez.out]; unfold zF; (try unfold sF); (try unfold rF); (try unfold nF); omega
  go_enter Tryd.func36, Tryd.ntmps36
  go_upto_region 1 with fail
  refine wp_at (fun W => At W w.heap.size #[.int .i64 p, .int .i64 s, .int .i64 l, .int .i64 c, .int .i64 k] 25 ∧ At W (w.heap.size + 1) h.ar 31 ∧ Below w.heap.size w W) (two_box w _ _ _ _) ?_
  rintro W ⟨P, A, z⟩
  have l14 : ∀ w', Cls W w' → (loadVar 2 ⟨w.heap.size + 1, 14, none⟩).run Tryd.prog w' = .ok (.int .i64 h.addr) w' := ld_i A Tryd.underlying2 rfl
  have l17 : ∀ w', Cls W w' → (loadVar 2 ⟨w.heap.size + 1, 17, none⟩).run Tryd.prog w' = .ok (.int .i64 h.good) w' := ld_i A Tryd.underlying2 rfl
  have l18 : ∀ w', Cls W w' → (loadVar 2 ⟨w.heap.size + 1, 18, none⟩).run Tryd.prog w' = .ok (.int .i64 h.bad) w' := ld_i A Tryd.underlying2 rfl
  have l19 : ∀ w', Cls W w' → (loadVar 2 ⟨w.heap.size + 1, 19, none⟩).run Tryd.prog w' = .ok (.int .i64 h.does) w' := ld_i A Tryd.underlying2 rfl
  have l20 : ∀ w', Cls W w' → (loadVar 2 ⟨w.heap.size + 1, 20, none⟩).run Tryd.prog w' = .ok (.int .i64 h.block) w' := ld_i A Tryd.underlying2 rfl
  have l21 : ∀ w', Cls W w' → (loadVar 2 ⟨w.heap.size + 1, 21, none⟩).run Tryd.prog w' = .ok (.int .i64 h.from_) w' := ld_i A Tryd.underlying2 rfl
  have l22 : ∀ w', Cls W w' → (loadVar 2 ⟨w.heap.size + 1, 22, none⟩).run Tryd.prog w' = .ok (.int .i64 h.next) w' := ld_i A Tryd.underlying2 rfl
  have l23 : ∀ w', Cls W w' → (loadVar 2 ⟨w.heap.size + 1, 23, none⟩).run Tryd.prog w' = .ok (.int .i64 h.value) w' := ld_i A Tryd.underlying2 rfl
  have l24 : ∀ w', Cls W w' → (loadVar 2 ⟨w.heap.size + 1, 24, none⟩).run Tryd.prog w' = .ok (.int .i64 h.index) w' := ld_i A Tryd.underlying2 rfl
  have l25 : ∀ w', Cls W w' → (loadVar 2 ⟨w.heap.size + 1, 25, none⟩).run Tryd.prog w' = .ok (.int .i64 h.which) w' := ld_i A Tryd.underlying2 rfl
  have lp : ∀ w', Cls W w' → (loadVar 25 ⟨w.heap.size, 0, none⟩).run Tryd.prog w' = .ok (.agg #[.int .i64 p, .int .i64 s, .int .i64 l, .int .i64 c, .int .i64 k]) w' := ld_agg (vs := [.int .i64 p, .int .i64 s, .int .i64 l, .int .i64 c, .int .i64 k]) P Tryd.underlying25 rfl (by kernel_rfl)
  have l0 : ∀ w', Cls W w' → (loadVar 2 ⟨w.heap.size, 0, none⟩).run Tryd.prog w' = .ok (.int .i64 p) w' := ld_i P Tryd.underlying2 rfl
  refine wp_region_cls (by kernel_rfl) (by kernel_rfl) ?_
  repeat' (first
    | go_big_quiet_skip
    | (go_big_quiet_want; first
      | (refine q_load _ _ _ _ rfl rfl (by assumption) ?_; simp only [Act.put, List.setIfInBounds_toArray, List.set_cons_zero, List.set_cons_succ]; go_big_quiet_on)
      | (go_big_quiet_op; first
        | go_big_quiet_on
        | (refine ⟨_, fun _ _ => rfl, ?_⟩; go_big_quiet_on)
        | (apply exB
           case hT => (intro w' hw'; first
             | (go_at_call 19; exact cls_same hw' (sIn _ _ _ _))
             | (go_at_call 49; exact cls_same hw' (sAt6 _ _))
             | (go_at_call 22; exact cls_same hw' (sInd _ _)))
           all_goals (intro e1; go_big_quiet_on))
        | (apply Exists.intro; refine ⟨fun w' hw' => ?_, ?_⟩
           · (first
             | (go_at_call 53; have hq := sSize p s l c k w'; rw [eS.out] at hq; exact cls_below hw' hq)
             | (go_at_call 54; have hq := sBlocks p s l c k w'; rw [eB.out] at hq; exact cls_below hw' hq))
           go_big_quiet_on))))
  all_goals (refine wpQuiet_nil ?_; intro w2 hw2)
  all_goals go_wp2
  all_goals go_returns
  all_goals refine ⟨ret_b ?_, z.trans (hw2.below.mono z.size)⟩
  all_goals (have ez' := ez.out; clear l0 lp l14 l17 l18 l19 l20 l21 l22 l23 l24 l25 eS eB ez; simp_all [Hd.swap])
end Go.Proofs.YtooljeddnfkphaaDoor
