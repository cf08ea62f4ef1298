/-
  A hand in parts: the program's side.
-/
import Derived.Test.YtooljeddnfkphaaDoorHan8
import Derived.Test.YtooljeddnfkphaaDoorHan4
import Derived.Test.YtooljeddnfkphaaDoorHld
namespace Go.Proofs.YtooljeddnfkphaaDoor
open Go.RowKit
set_option linter.unusedVariables false
def Hd.cp (h : Hd) : List Value := [.int .i64 h.code, .int .i64 h.a, .int .i64 h.b, .int .i64 h.c, .int .i64 h.number, .int .i64 h.for_, .int .i64 h.mine, .int .i64 h.reply, .int .i64 h.out, .int .i64 h.mark, .int .i64 h.begin_]
def Hd.sp (h : Hd) : List Value := [.int .i64 h.addr, .int .u64 h.seen, .int .u64 h.put, .int .i64 h.good, .int .i64 h.bad, .int .i64 h.does, .int .i64 h.block, .int .i64 h.from_, .int .i64 h.next, .int .i64 h.value]
def Hd.mp (h : Hd) : List Value := [.bool h.sure, .bool h.known, .int .i64 h.index, .int .i64 h.which, .int .i64 h.wasCode, .int .i64 h.wasItem, .int .i64 h.wasNumber, .int .i64 h.wasKind, .int .i64 h.wasTag]
def Hd.ps (h : Hd) : List Value := [.bool h.up, .bool h.inn, .int .i64 h.life, .int .i64 h.at_, .int .i64 h.last, .int .i64 h.kept, .int .i64 h.code, .int .i64 h.a, .int .i64 h.b, .int .i64 h.c, .int .i64 h.number, .int .i64 h.for_, .int .i64 h.mine, .int .i64 h.reply, .int .i64 h.out, .int .i64 h.mark, .int .i64 h.begin_, .int .i64 h.addr, .int .u64 h.seen, .int .u64 h.put, .int .i64 h.good, .int .i64 h.bad, .int .i64 h.does, .int .i64 h.block, .int .i64 h.from_, .int .i64 h.next, .int .i64 h.value, .bool h.sure, .bool h.known, .int .i64 h.index, .int .i64 h.which, .int .i64 h.wasCode, .int .i64 h.wasItem, .int .i64 h.wasNumber, .int .i64 h.wasKind, .int .i64 h.wasTag]
theorem Hd.ps_one (h : Hd) : ∀ v ∈ h.ps, v.oneCell' = true := by simp [Hd.ps, Value.oneCell']
theorem storeR {ops : Array Oper} {rest : List Oper} {op : Oper} {a : Act} {w : World} {Q : Exit → Act → World → Prop} {ty : TypeId} {vs : List Value} (hi : (Tryd.prog.info? ty).map (·.size) = some vs.length) (h1 : ∀ v ∈ vs, v.oneCell' = true) (hgd : op.guard = none) (x y : Operand) (ho : op.op = .store ty x y)
    (b : Nat) (hx : a.eval x = .pointer (some ⟨b, 0, none⟩)) (hy : a.eval y = .agg vs.toArray) {cs : Array Value} {t : TypeId} (Z : At w b cs t) (hs : cs.size = vs.length)
    (h : ∀ w', At w' b vs.toArray t → Kept b w w' → wpList Tryd.prog ops Q rest (a.put op.dst undef) w') : wpList Tryd.prog ops Q (op :: rest) a w :=
  wpList_store_mid hgd ty x y ho b 0 vs.toArray hx hy (by simp only [List.size_toArray]; exact Z.there 0 _ (by omega)) (by simpa using hi) (all_oneCell_toArray h1) (h _ (Z.fillAll hs.symm) (kept_setCells b _ 0 w))
theorem loadR {ops : Array Oper} {rest : List Oper} {op : Oper} {a : Act} {w : World} {Q : Exit → Act → World → Prop} {ty : TypeId} {d : TypeDesc} (vs : List Value) (hu : Tryd.prog.underlying ty = some d) (hd : d.isRow = true) (hi : (Tryd.prog.info? ty).map (·.size) = some vs.length) (hgd : Region.wanted op (yielded ops a.tmps) = true) (x : Operand) (ho : op.op = .load ty x)
    (b o : Nat) (hx : a.eval x = .pointer (some ⟨b, o, none⟩)) {cs : Array Value} {t : TypeId} (Z : At w b cs t) (hr : ∀ j v, vs[j]? = some v → cs[o + j]? = some v)
    (h : wpList Tryd.prog ops Q rest (a.put op.dst (.agg vs.toArray)) w) : wpList Tryd.prog ops Q (op :: rest) a w :=
  BigFrame.wpList_want hgd fun K hK => wp_load_mid ty x ho b o hx vs d (fun j v hj => by rw [Z.cell]; exact hr j v hj) hu hd hi (hK _ _ h)
theorem iUpToN (m : Int) (xs : List Int) (n : Nat) (hl : xs.length = n) (hn : n ≤ 1000) (W : World) (t : TypeId) :
    Calls Tryd.prog 38 #[.int .i64 m, .slice (some ⟨W.heap.size, 0, none⟩) n n] (W.alloc (.cells (xs.map (Value.int .i64)).toArray t)) fun e w' => e = .returned (.bool (allUp m xs)) ∧ Below W.heap.size W w' :=
  (iUpTo m W.heap.size n xs hl hn _ (slices W xs t n hl)).mono fun e w' h => ⟨h.1, by rw [h.2]; exact (Below.refl _ _).alloc (Nat.le_refl _) _⟩
theorem iUpTo1 (m x0 : Int) (W : World) (t : TypeId) :
    Calls Tryd.prog 38 #[.int .i64 m, .slice (some ⟨W.heap.size, 0, none⟩) 1 1] (W.alloc (.cells #[.int .i64 x0] t)) fun e w' => e = .returned (.bool (allUp m [x0])) ∧ Below W.heap.size W w' :=
  iUpToN m [x0] 1 rfl (by omega) W t
theorem iUpTo2 (m x0 x1 : Int) (W : World) (t : TypeId) :
    Calls Tryd.prog 38 #[.int .i64 m, .slice (some ⟨W.heap.size, 0, none⟩) 2 2] (W.alloc (.cells #[.int .i64 x0, .int .i64 x1] t)) fun e w' => e = .returned (.bool (allUp m [x0, x1])) ∧ Below W.heap.size W w' :=
  iUpToN m [x0, x1] 2 rfl (by omega) W t
theorem iUpTo3 (m x0 x1 x2 : Int) (W : World) (t : TypeId) :
    Calls Tryd.prog 38 #[.int .i64 m, .slice (some ⟨W.heap.size, 0, none⟩) 3 3] (W.alloc (.cells #[.int .i64 x0, .int .i64 x1, .int .i64 x2] t)) fun e w' => e = .returned (.bool (allUp m [x0, x1, x2])) ∧ Below W.heap.size W w' :=
  iUpToN m [x0, x1, x2] 3 rfl (by omega) W t
theorem iUpTo4 (m x0 x1 x2 x3 : Int) (W : World) (t : TypeId) :
    Calls Tryd.prog 38 #[.int .i64 m, .slice (some ⟨W.heap.size, 0, none⟩) 4 4] (W.alloc (.cells #[.int .i64 x0, .int .i64 x1, .int .i64 x2, .int .i64 x3] t)) fun e w' => e = .returned (.bool (allUp m [x0, x1, x2, x3])) ∧ Below W.heap.size W w' :=
  iUpToN m [x0, x1, x2, x3] 4 rfl (by omega) W t
theorem bCall (h : Hd) : Tryd.prog.built 62 [(0, .int .i64 h.code), (1, .int .i64 h.a), (2, .int .i64 h.b), (3, .int .i64 h.c), (4, .int .i64 h.number), (5, .int .i64 h.for_), (6, .int .i64 h.mine), (7, .int .i64 h.reply), (8, .int .i64 h.out), (9, .int .i64 h.mark), (10, .int .i64 h.begin_)] = some h.cp.toArray := by kernel_rfl
theorem bSwap (h : Hd) : Tryd.prog.built 64 [(0, .int .i64 h.addr), (1, .int .u64 h.seen), (2, .int .u64 h.put), (3, .int .i64 h.good), (4, .int .i64 h.bad), (5, .int .i64 h.does), (6, .int .i64 h.block), (7, .int .i64 h.from_), (8, .int .i64 h.next), (9, .int .i64 h.value)] = some h.sp.toArray := by kernel_rfl
theorem bMend (h : Hd) : Tryd.prog.built 66 [(0, .bool h.sure), (1, .bool h.known), (2, .int .i64 h.index), (3, .int .i64 h.which), (4, .int .i64 h.wasCode), (5, .int .i64 h.wasItem), (6, .int .i64 h.wasNumber), (7, .int .i64 h.wasKind), (8, .int .i64 h.wasTag)] = some h.mp.toArray := by kernel_rfl
theorem bParts (h : Hd) : Tryd.prog.built 68 [(0, .bool h.up), (1, .bool h.inn), (2, .int .i64 h.life), (3, .int .i64 h.at_), (4, .int .i64 h.last), (5, .int .i64 h.kept), (6, .agg h.cp.toArray), (7, .agg h.sp.toArray), (8, .agg h.mp.toArray)] = some h.ps.toArray := by kernel_rfl
set_option maxHeartbeats 16000000 in
theorem iParts (h : Hd) (w : World) : Calls Tryd.prog 40 #[.agg h.ar] w fun e w' => e = .returned (.agg h.ps.toArray) ∧ Below w.heap.size w w' := by
  obtain ⟨A, Z, B⟩ := two_box w h.ar #[.bool false, .bool false, .int .i64 0, .int .i64 0, .int .i64 0, .int .i64 0, .int .i64 0, .int .i64 0, .int .i64 0, .int .i64 0, .int .i64 0, .int .i64 0, .int .i64 0, .int .i64 0, .int .i64 0, .int .i64 0, .int .i64 0, .int .i64 0, .int .u64 0, .int .u64 0, .int .i64 0, .int .i64 0, .int .i64 0, .int .i64 0, .int .i64 0, .int .i64 0, .int .i64 0, .bool false, .bool false, .int .i64 0, .int .i64 0, .int .i64 0, .int .i64 0, .int .i64 0, .int .i64 0, .int .i64 0] 31 68
  have a0 : h.ar[0]? = some (.bool h.up) := rfl
  have a1 : h.ar[1]? = some (.bool h.inn) := rfl
  have a2 : h.ar[2]? = some (.bool h.sure) := rfl
  have a3 : h.ar[3]? = some (.bool h.known) := rfl
  have a4 : h.ar[4]? = some (.int .i64 h.life) := rfl
  have a5 : h.ar[5]? = some (.int .i64 h.at_) := rfl
  have a6 : h.ar[6]? = some (.int .i64 h.code) := rfl
  have a7 : h.ar[7]? = some (.int .i64 h.a) := rfl
  have a8 : h.ar[8]? = some (.int .i64 h.b) := rfl
  have a9 : h.ar[9]? = some (.int .i64 h.c) := rfl
  have a10 : h.ar[10]? = some (.int .i64 h.number) := rfl
  have a11 : h.ar[11]? = some (.int .i64 h.for_) := rfl
  have a12 : h.ar[12]? = some (.int .i64 h.last) := rfl
  have a13 : h.ar[13]? = some (.int .i64 h.mine) := rfl
  have a14 : h.ar[14]? = some (.int .i64 h.addr) := rfl
  have a15 : h.ar[15]? = some (.int .u64 h.seen) := rfl
  have a16 : h.ar[16]? = some (.int .u64 h.put) := rfl
  have a17 : h.ar[17]? = some (.int .i64 h.good) := rfl
  have a18 : h.ar[18]? = some (.int .i64 h.bad) := rfl
  have a19 : h.ar[19]? = some (.int .i64 h.does) := rfl
  have a20 : h.ar[20]? = some (.int .i64 h.block) := rfl
  have a21 : h.ar[21]? = some (.int .i64 h.from_) := rfl
  have a22 : h.ar[22]? = some (.int .i64 h.next) := rfl
  have a23 : h.ar[23]? = some (.int .i64 h.value) := rfl
  have a24 : h.ar[24]? = some (.int .i64 h.index) := rfl
  have a25 : h.ar[25]? = some (.int .i64 h.which) := rfl
  have a26 : h.ar[26]? = some (.int .i64 h.kept) := rfl
  have a27 : h.ar[27]? = some (.int .i64 h.wasCode) := rfl
  have a28 : h.ar[28]? = some (.int .i64 h.wasItem) := rfl
  have a29 : h.ar[29]? = some (.int .i64 h.wasNumber) := rfl
  have a30 : h.ar[30]? = some (.int .i64 h.wasKind) := rfl
  have a31 : h.ar[31]? = some (.int .i64 h.wasTag) := rfl
  have a32 : h.ar[32]? = some (.int .i64 h.reply) := rfl
  have a33 : h.ar[33]? = some (.int .i64 h.out) := rfl
  have a34 : h.ar[34]? = some (.int .i64 h.mark) := rfl
  have a35 : h.ar[35]? = some (.int .i64 h.begin_) := rfl
  go_enter Tryd.func40, Tryd.ntmps40
  go_wp2_with (first
    | (refine wpList_built rfl 62 #[(0, .tmp 16), (1, .tmp 18), (2, .tmp 20), (3, .tmp 22), (4, .tmp 24), (5, .tmp 26), (6, .tmp 28), (7, .tmp 30), (8, .tmp 32), (9, .tmp 34), (10, .tmp 36)] rfl [(0, .int .i64 h.code), (1, .int .i64 h.a), (2, .int .i64 h.b), (3, .int .i64 h.c), (4, .int .i64 h.number), (5, .int .i64 h.for_), (6, .int .i64 h.mine), (7, .int .i64 h.reply), (8, .int .i64 h.out), (9, .int .i64 h.mark), (10, .int .i64 h.begin_)] rfl _ (bCall h) ?_)
    | (refine wpList_built rfl 64 #[(0, .tmp 39), (1, .tmp 41), (2, .tmp 43), (3, .tmp 45), (4, .tmp 47), (5, .tmp 49), (6, .tmp 51), (7, .tmp 53), (8, .tmp 55), (9, .tmp 57)] rfl [(0, .int .i64 h.addr), (1, .int .u64 h.seen), (2, .int .u64 h.put), (3, .int .i64 h.good), (4, .int .i64 h.bad), (5, .int .i64 h.does), (6, .int .i64 h.block), (7, .int .i64 h.from_), (8, .int .i64 h.next), (9, .int .i64 h.value)] rfl _ (bSwap h) ?_)
    | (refine wpList_built rfl 66 #[(0, .tmp 60), (1, .tmp 62), (2, .tmp 64), (3, .tmp 66), (4, .tmp 68), (5, .tmp 70), (6, .tmp 72), (7, .tmp 74), (8, .tmp 76)] rfl [(0, .bool h.sure), (1, .bool h.known), (2, .int .i64 h.index), (3, .int .i64 h.which), (4, .int .i64 h.wasCode), (5, .int .i64 h.wasItem), (6, .int .i64 h.wasNumber), (7, .int .i64 h.wasKind), (8, .int .i64 h.wasTag)] rfl _ (bMend h) ?_)
    | (refine wpList_built rfl 68 #[(0, .tmp 4), (1, .tmp 6), (2, .tmp 8), (3, .tmp 10), (4, .tmp 12), (5, .tmp 14), (6, .tmp 37), (7, .tmp 58), (8, .tmp 77)] rfl [(0, .bool h.up), (1, .bool h.inn), (2, .int .i64 h.life), (3, .int .i64 h.at_), (4, .int .i64 h.last), (5, .int .i64 h.kept), (6, .agg h.cp.toArray), (7, .agg h.sp.toArray), (8, .agg h.mp.toArray)] rfl _ (bParts h) ?_)
    | (refine storeR (vs := h.ps) (by kernel_rfl) h.ps_one rfl (.tmp 2) (.tmp 78) rfl (w.heap.size + 1) rfl rfl Z rfl ?_; intro W2 Z2 kk; replace B := B.trans (kk.below (Nat.le_succ _) B.size)))
  have e2 : (loadVar 68 ⟨w.heap.size + 1, 0, none⟩).run Tryd.prog W2 = .ok (.agg h.ps.toArray) W2 := run_loadVar_mid W2 _ 0 68 h.ps _ Z2.range Tryd.underlying68 rfl (by kernel_rfl)
  refine bodyPost_ret (v := .agg h.ps.toArray) ?_ rfl ⟨rfl, B⟩
  simp only [results, Tryd.results40, List.mapM_toArray, List.mapM_cons, List.mapM_nil, Sem.run_bind, Sem.run_map, Sem.run_pure]
  rw [show (asAddr _).run Tryd.prog W2 = .ok ⟨w.heap.size + 1, 0, none⟩ W2 from rfl]
  simp only [Result.andThen_ok, e2]
  rfl
end Go.Proofs.YtooljeddnfkphaaDoor
