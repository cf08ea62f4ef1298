/-
  The program's pool: to want a block, to chain one.
  The program's pool: to chain a block.
  The program's pool: the next thing.
  The specification's pool: its helpers.
  The specification's pool: the next thing.
  The specification's pool: to want a block, to list one.
-/
import Derived.Test.YtgmoemjiffglbaaGreatMn
import Derived.Deep.Cut
import Derived.Deep.RegionHeld3
namespace Go.Proofs.YtgmoemjiffglbaaGreat
open Go.RowKit
set_option maxRecDepth 100000
set_option linter.unusedVariables false
set_option linter.unusedSimpArgs false
theorem intO_pv {st t : I8} {k b : Int} (h : st.intO k b = some t) : t.pv = st.pv := (I8.wrO_pv h).trans rfl
theorem intO_n {st t : I8} {k b : Int} (h : st.intO k b = some t) : t.n = st.n := (I8.wrO_some h).trans rfl
def I8.wantO (st : I8) : Option I8 := (st.intO 1 st.h.block).bind fun t => if inB t.asked 0 1 = true then t.prepO (t.root t.asked) t.h.next 1 12 9 else none
end Go.Proofs.YtgmoemjiffglbaaGreat
namespace Go.Proofs.YtgmoemjiffglbaaGreat
open Go.RowKit
set_option maxRecDepth 100000
set_option linter.unusedVariables false
set_option linter.unusedSimpArgs false
def I8.done3 (st u : I8) : I8 := if st.h.code = 3 then { u with h := { u.h with reply := 1, out := 0 } } else u
def I8.chain2 (t : I8) : Option I8 := if inB t.cls 0 1 = true then t.prepO (t.root t.cls) t.h.block 2 t.behind 19 else none
def I8.chainO (st : I8) : Option I8 := (st.wrO (st.blk 1) 0 0 (uI st.h.seen) 0).bind fun t => t.chain2.map st.done3
end Go.Proofs.YtgmoemjiffglbaaGreat
namespace Go.Proofs.YtgmoemjiffglbaaGreat
open Go.RowKit
set_option maxRecDepth 100000
set_option linter.unusedVariables false
set_option linter.unusedSimpArgs false
def I8.underO (st : I8) : Option I8 := if thr (st.blk 1) st.n = true then some { st with h := { st.h with next := uI (red st.xs (st.blk 1)), at_ := 11 } } else none
def I8.fillO (st : I8) : Option I8 := (st.wrO (st.blk 2) 0 0 st.h.b 0).map fun t => t.to 21
def I8.storeO (st : I8) : Option I8 := (st.wrO (st.blk (wrap64 (2 + st.h.b))) 0 0 st.h.c 0).map fun t => t.rep 1 0
def I8.yieldO (st : I8) : Option I8 := (st.intO 2 st.h.block).map fun t => t.to 18
def I8.looseO (st : I8) : Option I8 := (st.wrO (st.blk 0) 0 0 0 0).map fun t => t.to 19
def I8.valAt (st : I8) : Int := st.blk (wrap64 (2 + st.h.b))
def I8.fetchO (st : I8) : Option I8 := if thr st.valAt st.n = true then some (st.rep 2 (uI (red st.xs st.valAt))) else none
def I8.listO (st : I8) : Option I8 := if inB st.cls 0 1 = true then some { st with h := { st.h with seen := red st.xs (st.root st.cls), at_ := 20 } } else none
def I8.pnext (st : I8) : Option I8 :=
  if st.h.at_ = 9 then st.freeO else if st.h.at_ = 10 then st.underO else if st.h.at_ = 11 then st.wantO else if st.h.at_ = 12 then st.holdO else
  if st.h.at_ = 13 then st.fillO else if st.h.at_ = 14 then st.mineO else if st.h.at_ = 15 then st.storeO else if st.h.at_ = 16 then st.fetchO else
  if st.h.at_ = 17 then st.yieldO else if st.h.at_ = 18 then st.looseO else if st.h.at_ = 19 then st.listO else st.chainO
end Go.Proofs.YtgmoemjiffglbaaGreat
namespace Go.Proofs.YtgmoemjiffglbaaGreat
open Go.RowKit
set_option maxRecDepth 100000
set_option linter.unusedVariables false
set_option linter.unusedSimpArgs false
theorem cell_other (b k : Nat) : ∀ (w : World) (i : Nat) (v : Value), i ≠ k → (w.setCell ⟨b, k, none⟩ v).cell? ⟨b, i, none⟩ = w.cell? ⟨b, i, none⟩ := fun w i v h => World.cell?_setCell_other _ _ _ _ (by simp <;> omega)
theorem SAt.cast {w : World} {b : Nat} {s1 s2 : S8} (h : SAt w b s1) (e : s1 = s2) : SAt w b s2 := e ▸ h
theorem K2.low {b g : Nat} {w w' : World} (h : K2 b g w w') (hb : ∀ k, k < w.heap.size → w'.heap[k]? = w.heap[k]?) : Below w.heap.size w w' := ⟨h.os, h.tape, h.output, h.size, hb⟩
theorem run_wordField (x0 x1 x2 x3 : Int) (w : World) : (Instr.field 85 (.agg #[.int .i64 x0, .int .i64 x1, .int .i64 x2, .int .i64 x3]) 2).run Tryz.prog w = .ok (.int .i64 x2) w := by
  simp [Instr.field, go_sem, asAgg]
set_option maxHeartbeats 400000 in
theorem sIndex (x : Int) (h0 : 0 ≤ x) (h1 : x ≤ 18446744073709551615) (w : World) :
    Calls Tryz.prog 32 #[.int .u64 x] w fun e w' => e = .returned (.int .i64 (uI x)) ∧ Below w.heap.size w w' := by
  have hf := run_wordField
  go_enter Tryz.func32, Tryz.ntmps32
  go_wp2_with (go_at_call 66; refine (sUnpack _ h0 h1 _).mono ?_; rintro e w1 ⟨rfl, hb⟩)
  go_ret
  exact ⟨rfl, hb⟩

def S8.reply (st : S8) (r o : Int) : S8 := ((st.u_Reply r).u_Out o).u_At 2
set_option maxRecDepth 100000 in
set_option maxHeartbeats 4000000 in
theorem sl8Reply (b : Nat) (st : S8) (r o : Int) (w : World) (S : SAt w b st) :
    Calls Tryz.prog 37 #[.pointer (some ⟨b, 0, none⟩), .int .i64 r, .int .i64 o] w fun e w' => e = .returned (.tuple #[]) ∧ SAt w' b (st.reply r o) ∧ K2 b st.g w w' := by
  have hw : ∀ x : Int, IntKind.i64.wrap x = w64 x := fun x => by unfold w64 wrap64; exact IntKind.wrap_i64 x
  have hw2 : ∀ x : Int, wrap64 x = w64 x := fun _ => rfl
  have k1 := K2.refl b st.g w
  have y13 := S.c_h_At
  (try simp only [S8.rdS_h, S8.wrd_h, S8.wr_h, S8.rdS_d, S8.wrd_d, S8.wr_d, S8.rdS_me, S8.wrd_me, S8.wr_me, S8.rdS_p, S8.wrd_p, S8.wr_p, S8.rdS_s, S8.wrd_s, S8.wr_s, S8.rdS_l, S8.wrd_l, S8.wr_l, S8.rdS_c, S8.wrd_c, S8.wr_c, S8.rdS_k, S8.wrd_k, S8.wr_k, S8.rdS_n, S8.wrd_n, S8.wr_n, S8.rdS_g, S8.wrd_g, S8.wr_g, S8.rdS_cc, S8.wrd_cc, S8.wr_cc, S8.rdS_ra, S8.wrd_ra, S8.wr_ra, S8.rdS_rc, S8.wrd_rc, S8.wr_rc, S8.rdS_runs, S8.wrd_runs, S8.wr_runs, S8.intend_h, S8.intend_p, S8.intend_s, S8.intend_l, S8.intend_c, S8.intend_k, S8.intend_g, S8.intend_n, S8.intend_cc, S8.intend_ra, S8.intend_rc, S8.intend_runs, S8.intend_me, S8.intend_d, S8.uh_h, S8.uh_p, S8.uh_s, S8.uh_l, S8.uh_c, S8.uh_k, S8.uh_g, S8.uh_n, S8.uh_cc, S8.uh_ra, S8.uh_rc, S8.uh_runs, S8.uh_me, S8.uh_d, S8.uok_h, S8.uok_p, S8.uok_s, S8.uok_l, S8.uok_c, S8.uok_k, S8.uok_g, S8.uok_n, S8.uok_cc, S8.uok_ra, S8.uok_rc, S8.uok_runs, S8.uok_me, S8.uok_d, S8.u_Up, S8.u_In, S8.u_Sure, S8.u_Known, S8.u_Life, S8.u_At, S8.u_Code, S8.u_A, S8.u_B, S8.u_C, S8.u_Number, S8.u_For, S8.u_Last, S8.u_Mine, S8.u_Addr, S8.u_Seen, S8.u_Put, S8.u_Good, S8.u_Bad, S8.u_Does, S8.u_Block, S8.u_From, S8.u_Next, S8.u_Value, S8.u_Index, S8.u_Which, S8.u_Kept, S8.u_WasCode, S8.u_WasItem, S8.u_WasNumber, S8.u_WasKind, S8.u_WasTag, S8.u_Reply, S8.u_Out, S8.u_Mark, S8.u_Begin, S8.install, S8.reply, S8.back, S8.never] at y13)
  have y40 := S.c_h_Reply
  (try simp only [S8.rdS_h, S8.wrd_h, S8.wr_h, S8.rdS_d, S8.wrd_d, S8.wr_d, S8.rdS_me, S8.wrd_me, S8.wr_me, S8.rdS_p, S8.wrd_p, S8.wr_p, S8.rdS_s, S8.wrd_s, S8.wr_s, S8.rdS_l, S8.wrd_l, S8.wr_l, S8.rdS_c, S8.wrd_c, S8.wr_c, S8.rdS_k, S8.wrd_k, S8.wr_k, S8.rdS_n, S8.wrd_n, S8.wr_n, S8.rdS_g, S8.wrd_g, S8.wr_g, S8.rdS_cc, S8.wrd_cc, S8.wr_cc, S8.rdS_ra, S8.wrd_ra, S8.wr_ra, S8.rdS_rc, S8.wrd_rc, S8.wr_rc, S8.rdS_runs, S8.wrd_runs, S8.wr_runs, S8.intend_h, S8.intend_p, S8.intend_s, S8.intend_l, S8.intend_c, S8.intend_k, S8.intend_g, S8.intend_n, S8.intend_cc, S8.intend_ra, S8.intend_rc, S8.intend_runs, S8.intend_me, S8.intend_d, S8.uh_h, S8.uh_p, S8.uh_s, S8.uh_l, S8.uh_c, S8.uh_k, S8.uh_g, S8.uh_n, S8.uh_cc, S8.uh_ra, S8.uh_rc, S8.uh_runs, S8.uh_me, S8.uh_d, S8.uok_h, S8.uok_p, S8.uok_s, S8.uok_l, S8.uok_c, S8.uok_k, S8.uok_g, S8.uok_n, S8.uok_cc, S8.uok_ra, S8.uok_rc, S8.uok_runs, S8.uok_me, S8.uok_d, S8.u_Up, S8.u_In, S8.u_Sure, S8.u_Known, S8.u_Life, S8.u_At, S8.u_Code, S8.u_A, S8.u_B, S8.u_C, S8.u_Number, S8.u_For, S8.u_Last, S8.u_Mine, S8.u_Addr, S8.u_Seen, S8.u_Put, S8.u_Good, S8.u_Bad, S8.u_Does, S8.u_Block, S8.u_From, S8.u_Next, S8.u_Value, S8.u_Index, S8.u_Which, S8.u_Kept, S8.u_WasCode, S8.u_WasItem, S8.u_WasNumber, S8.u_WasKind, S8.u_WasTag, S8.u_Reply, S8.u_Out, S8.u_Mark, S8.u_Begin, S8.install, S8.reply, S8.back, S8.never] at y40)
  have y41 := S.c_h_Out
  (try simp only [S8.rdS_h, S8.wrd_h, S8.wr_h, S8.rdS_d, S8.wrd_d, S8.wr_d, S8.rdS_me, S8.wrd_me, S8.wr_me, S8.rdS_p, S8.wrd_p, S8.wr_p, S8.rdS_s, S8.wrd_s, S8.wr_s, S8.rdS_l, S8.wrd_l, S8.wr_l, S8.rdS_c, S8.wrd_c, S8.wr_c, S8.rdS_k, S8.wrd_k, S8.wr_k, S8.rdS_n, S8.wrd_n, S8.wr_n, S8.rdS_g, S8.wrd_g, S8.wr_g, S8.rdS_cc, S8.wrd_cc, S8.wr_cc, S8.rdS_ra, S8.wrd_ra, S8.wr_ra, S8.rdS_rc, S8.wrd_rc, S8.wr_rc, S8.rdS_runs, S8.wrd_runs, S8.wr_runs, S8.intend_h, S8.intend_p, S8.intend_s, S8.intend_l, S8.intend_c, S8.intend_k, S8.intend_g, S8.intend_n, S8.intend_cc, S8.intend_ra, S8.intend_rc, S8.intend_runs, S8.intend_me, S8.intend_d, S8.uh_h, S8.uh_p, S8.uh_s, S8.uh_l, S8.uh_c, S8.uh_k, S8.uh_g, S8.uh_n, S8.uh_cc, S8.uh_ra, S8.uh_rc, S8.uh_runs, S8.uh_me, S8.uh_d, S8.uok_h, S8.uok_p, S8.uok_s, S8.uok_l, S8.uok_c, S8.uok_k, S8.uok_g, S8.uok_n, S8.uok_cc, S8.uok_ra, S8.uok_rc, S8.uok_runs, S8.uok_me, S8.uok_d, S8.u_Up, S8.u_In, S8.u_Sure, S8.u_Known, S8.u_Life, S8.u_At, S8.u_Code, S8.u_A, S8.u_B, S8.u_C, S8.u_Number, S8.u_For, S8.u_Last, S8.u_Mine, S8.u_Addr, S8.u_Seen, S8.u_Put, S8.u_Good, S8.u_Bad, S8.u_Does, S8.u_Block, S8.u_From, S8.u_Next, S8.u_Value, S8.u_Index, S8.u_Which, S8.u_Kept, S8.u_WasCode, S8.u_WasItem, S8.u_WasNumber, S8.u_WasKind, S8.u_WasTag, S8.u_Reply, S8.u_Out, S8.u_Mark, S8.u_Begin, S8.install, S8.reply, S8.back, S8.never] at y41)
  have z13 := S.fz 13
  have z40 := S.fz 40
  have z41 := S.fz 41
  go_enter Tryz.func37, Tryz.ntmps37
  go_wp2_with fail
  all_goals (first | go_end0 | refine bodyPost_ret (results_none rfl _ _ _) rfl ?_)
  refine ⟨rfl, SAt.cast (by repeat (first | with_reducible apply SAt.s_h_At | with_reducible apply SAt.s_h_Reply | with_reducible apply SAt.s_h_Out | with_reducible exact S | with_reducible apply SAt.drew)) ?_, by repeat (first | with_reducible exact k1 | with_reducible apply K2.set | with_reducible apply K2.drew)⟩
  rfl
def S8.install (st : S8) (a x d g b : Int) : S8 := (((((st.u_Addr a).u_Put x).u_Does d).u_Good g).u_Bad b).u_At 6
theorem sl8Block (b : Nat) (st : S8) (f : Int) (w : World) (S : SAt w b st) :
    Calls Tryz.prog 36 #[.pointer (some ⟨b, 0, none⟩), .int .i64 f] w fun e w' => e = .returned (.int .i64 (st.blk f)) ∧ Below w.heap.size w w' := by
  obtain ⟨c0, c1, c2, c3, c4⟩ := S.plan
  have c5 := S.c_h_Block
  go_enter Tryz.func36, Tryz.ntmps36
  go_wp2_with fail
  go_region_held3 (fun w' => w'.cell? ⟨b, 0, none⟩ = some (.int .i64 st.p) ∧ w'.cell? ⟨b, 1, none⟩ = some (.int .i64 st.s) ∧ w'.cell? ⟨b, 2, none⟩ = some (.int .i64 st.l) ∧ w'.cell? ⟨b, 3, none⟩ = some (.int .i64 st.c) ∧ w'.cell? ⟨b, 4, none⟩ = some (.int .i64 st.k) ∧ w'.cell? ⟨b, 28, none⟩ = some (.int .i64 st.h.block)) (go_keep)
    (first | (go_at_call 69; refine (sBlock _ _ _ _ _ _ _ _).mono ?_; rintro e w2 ⟨rfl, hb⟩; obtain ⟨c0, c1, c2, c3, c4⟩ := (S.drew.keep hb).plan; have c5 := (S.drew.keep hb).c_h_Block))
  go_wp2
  go_ret
  exact ⟨rfl, (Below.refl _ _).drew.trans hb⟩
def S8.root (st : S8) (r : Int) : Int := vRoot st.p st.s st.l st.c st.k r
def S8.root9 (st : S8) (cl : Int) : Int := if inB cl 0 1 then st.root cl else -1
def S8.class9 (st : S8) : Int := if st.h.code = 2 then st.h.a else 0
def S8.value9 (st : S8) : Int := vBlock st.p st.s st.l st.c st.k st.h.block (w64 (2 + st.h.b))
theorem S8.rdS_slot (st : S8) (x : Int) (f : Int) : (st.rdS x).slot f = st.slot f := by simp only [S8.slot, S8.root, S8.root9, S8.blk, S8.value9, S8.class9, S8.rdS_h, S8.rdS_p, S8.rdS_s, S8.rdS_l, S8.rdS_c, S8.rdS_k]
theorem S8.rdS_root (st : S8) (x : Int) (f : Int) : (st.rdS x).root f = st.root f := by simp only [S8.slot, S8.root, S8.root9, S8.blk, S8.value9, S8.class9, S8.rdS_h, S8.rdS_p, S8.rdS_s, S8.rdS_l, S8.rdS_c, S8.rdS_k]
theorem S8.rdS_root9 (st : S8) (x : Int) (f : Int) : (st.rdS x).root9 f = st.root9 f := by simp only [S8.slot, S8.root, S8.root9, S8.blk, S8.value9, S8.class9, S8.rdS_h, S8.rdS_p, S8.rdS_s, S8.rdS_l, S8.rdS_c, S8.rdS_k]
theorem S8.rdS_blk (st : S8) (x : Int) (f : Int) : (st.rdS x).blk f = st.blk f := by simp only [S8.slot, S8.root, S8.root9, S8.blk, S8.value9, S8.class9, S8.rdS_h, S8.rdS_p, S8.rdS_s, S8.rdS_l, S8.rdS_c, S8.rdS_k]
theorem S8.rdS_value9 (st : S8) (x : Int)  : (st.rdS x).value9 = st.value9 := by simp only [S8.slot, S8.root, S8.root9, S8.blk, S8.value9, S8.class9, S8.rdS_h, S8.rdS_p, S8.rdS_s, S8.rdS_l, S8.rdS_c, S8.rdS_k]
theorem S8.rdS_class9 (st : S8) (x : Int)  : (st.rdS x).class9 = st.class9 := by simp only [S8.slot, S8.root, S8.root9, S8.blk, S8.value9, S8.class9, S8.rdS_h, S8.rdS_p, S8.rdS_s, S8.rdS_l, S8.rdS_c, S8.rdS_k]
end Go.Proofs.YtgmoemjiffglbaaGreat
namespace Go.Proofs.YtgmoemjiffglbaaGreat
open Go.RowKit
set_option maxRecDepth 100000
set_option linter.unusedVariables false
set_option linter.unusedSimpArgs false
def S8.hold9 (st : S8) : S8 := if st.h.code = 2 then ((st.wrd 1 st.h.for_ 0 0).wr (st.blk 0) (wv 1 st.h.for_ 0 0)).reply 1 st.h.block else ((st.wrd 1 st.h.for_ 0 0).wr (st.blk 0) (wv 1 st.h.for_ 0 0)).to 13
def S8.under9 (st : S8) : S8 := { (st.rdS (st.blk 1)) with h := { (st.rdS (st.blk 1)).h with next := uI (st.rd (st.blk 1)), at_ := 11 } }
def S8.rd9 (st : S8) (a : Int) : S8 := { (st.rdS a) with h := { (st.rdS a).h with seen := st.rd a } }
def S8.free9 (st : S8) : S8 := if uI (st.rd (st.root9 st.class9)) = 0 then (st.rd9 (st.root9 st.class9)).reply 4 0 else { (st.rd9 (st.root9 st.class9)) with h := { (st.rd9 (st.root9 st.class9)).h with block := uI (st.rd (st.root9 st.class9)), at_ := 10 } }
end Go.Proofs.YtgmoemjiffglbaaGreat
namespace Go.Proofs.YtgmoemjiffglbaaGreat
open Go.RowKit
set_option maxRecDepth 100000
set_option linter.unusedVariables false
set_option linter.unusedSimpArgs false
theorem ins_For (X : S8) (a x d g b : Int) : (X.install a x d g b).h.for_ = X.h.for_ := by simp only [S8.install, S8.u_Addr, S8.u_Put, S8.u_Does, S8.u_Good, S8.u_Bad, S8.u_At, S8.uh_h]
theorem ins_Next (X : S8) (a x d g b : Int) : (X.install a x d g b).h.next = X.h.next := by simp only [S8.install, S8.u_Addr, S8.u_Put, S8.u_Does, S8.u_Good, S8.u_Bad, S8.u_At, S8.uh_h]
theorem ins_Last (X : S8) (a x d g b : Int) : (X.install a x d g b).h.last = X.h.last := by simp only [S8.install, S8.u_Addr, S8.u_Put, S8.u_Does, S8.u_Good, S8.u_Bad, S8.u_At, S8.uh_h]
theorem ins_Block (X : S8) (a x d g b : Int) : (X.install a x d g b).h.block = X.h.block := by simp only [S8.install, S8.u_Addr, S8.u_Put, S8.u_Does, S8.u_Good, S8.u_Bad, S8.u_At, S8.uh_h]
def S8.wantU (T : S8) : S8 := if T.root9 T.class9 < 0 then { T with ok := false } else T
def S8.wantI (U : S8) (a : Int) : S8 := ((U.wrd 0 U.h.for_ U.h.next U.h.last).install a (wv 0 U.h.for_ U.h.next U.h.last) 1 12 9)
def S8.want9 (st : S8) : S8 := ((st.intend 1 st.h.block).wantU).wantI ((st.intend 1 st.h.block).root9 (st.intend 1 st.h.block).class9)
theorem intend_g8 (st : S8) (i j : Int) : (st.intend i j).g = st.g := by simp only [S8.intend, S8.wr_g, S8.wrd_g, S8.u_Last, S8.uh_g]
theorem intend_n8 (st : S8) (i j : Int) : (st.intend i j).n = st.n := by simp only [S8.intend, S8.wr_n, S8.wrd_n, S8.u_Last, S8.uh_n]
def S8.cls9 (st : S8) : Int := vClass st.p st.s st.l st.c st.k st.h.block
end Go.Proofs.YtgmoemjiffglbaaGreat
