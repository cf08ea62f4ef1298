/-
  A hand, a deed, and a step under way, as records.
  The deed that a swap tells.
  How a step under way lies in memory.
  The specification's small helpers of a step: what they read and leave.
  The specification's small helpers of a step: swaps, intents, replies, deeds, the close.
  The specification's telling of a deed: what its cases share.
-/
import Derived.Test.YtgmoemjiffglbaaGreatMg
import Derived.Deep.RegionHeld3
import Derived.Deep.DrawnRows
namespace Go.Proofs.YtgmoemjiffglbaaGreat
open Go.RowKit
set_option linter.unusedVariables false
structure Dd where
  kind : Int
  slot : Int
  number : Int
  item : Int
  value : Int
  clock : Int
def Dd.vs (d : Dd) : List Value := [.int .i64 d.kind, .int .i64 d.slot, .int .i64 d.number, .int .i64 d.item, .int .i64 d.value, .int .i64 d.clock]
/-- A step under way: the plan, the words, who runs, and what is to come of it. -/
structure S8 where
  p : Int
  s : Int
  l : Int
  c : Int
  k : Int
  g : Nat
  n : Nat
  cc : Nat
  ar : List Int
  ra : Option Addr
  rc : Nat
  runs : List Int
  me : Int
  h : Hd
  d : Dd
  ok : Bool
  at_ : Int
  was : Int
  turn : Bool
def S8.vs (st : S8) : List Value := [.int .i64 st.p, .int .i64 st.s, .int .i64 st.l, .int .i64 st.c, .int .i64 st.k, .slice (some ⟨st.g, 0, none⟩) st.n st.cc, .slice st.ra st.runs.length st.rc, .int .i64 st.me, .bool st.h.up, .bool st.h.inn, .bool st.h.sure, .bool st.h.known, .int .i64 st.h.life, .int .i64 st.h.at_, .int .i64 st.h.code, .int .i64 st.h.a, .int .i64 st.h.b, .int .i64 st.h.c, .int .i64 st.h.number, .int .i64 st.h.for_, .int .i64 st.h.last, .int .i64 st.h.mine, .int .i64 st.h.addr, .int .u64 st.h.seen, .int .u64 st.h.put, .int .i64 st.h.good, .int .i64 st.h.bad, .int .i64 st.h.does, .int .i64 st.h.block, .int .i64 st.h.from_, .int .i64 st.h.next, .int .i64 st.h.value, .int .i64 st.h.index, .int .i64 st.h.which, .int .i64 st.h.kept, .int .i64 st.h.wasCode, .int .i64 st.h.wasItem, .int .i64 st.h.wasNumber, .int .i64 st.h.wasKind, .int .i64 st.h.wasTag, .int .i64 st.h.reply, .int .i64 st.h.out, .int .i64 st.h.mark, .int .i64 st.h.begin_, .int .i64 st.d.kind, .int .i64 st.d.slot, .int .i64 st.d.number, .int .i64 st.d.item, .int .i64 st.d.value, .int .i64 st.d.clock, .bool st.ok, .int .i64 st.at_, .int .u64 st.was, .bool st.turn]
def S8.uh (st : S8) (h : Hd) : S8 := { st with h := h }
def S8.uok (st : S8) (x : Bool) : S8 := { st with ok := x }
theorem S8.uh_p (st : S8) (h : Hd) : (st.uh h).p = st.p := rfl
theorem S8.uh_s (st : S8) (h : Hd) : (st.uh h).s = st.s := rfl
theorem S8.uh_l (st : S8) (h : Hd) : (st.uh h).l = st.l := rfl
theorem S8.uh_c (st : S8) (h : Hd) : (st.uh h).c = st.c := rfl
theorem S8.uh_k (st : S8) (h : Hd) : (st.uh h).k = st.k := rfl
theorem S8.uh_g (st : S8) (h : Hd) : (st.uh h).g = st.g := rfl
theorem S8.uh_n (st : S8) (h : Hd) : (st.uh h).n = st.n := rfl
theorem S8.uh_cc (st : S8) (h : Hd) : (st.uh h).cc = st.cc := rfl
theorem S8.uh_ar (st : S8) (h : Hd) : (st.uh h).ar = st.ar := rfl
theorem S8.uh_ra (st : S8) (h : Hd) : (st.uh h).ra = st.ra := rfl
theorem S8.uh_rc (st : S8) (h : Hd) : (st.uh h).rc = st.rc := rfl
theorem S8.uh_runs (st : S8) (h : Hd) : (st.uh h).runs = st.runs := rfl
theorem S8.uh_me (st : S8) (h : Hd) : (st.uh h).me = st.me := rfl
theorem S8.uh_d (st : S8) (h : Hd) : (st.uh h).d = st.d := rfl
theorem S8.uh_ok (st : S8) (h : Hd) : (st.uh h).ok = st.ok := rfl
theorem S8.uh_at_ (st : S8) (h : Hd) : (st.uh h).at_ = st.at_ := rfl
theorem S8.uh_was (st : S8) (h : Hd) : (st.uh h).was = st.was := rfl
theorem S8.uh_turn (st : S8) (h : Hd) : (st.uh h).turn = st.turn := rfl
theorem S8.uh_h (st : S8) (h : Hd) : (st.uh h).h = h := rfl
theorem S8.uh_uh (st : S8) (h h2 : Hd) : (st.uh h).uh h2 = st.uh h2 := rfl
theorem S8.uok_p (st : S8) (x : Bool) : (st.uok x).p = st.p := rfl
theorem S8.uok_s (st : S8) (x : Bool) : (st.uok x).s = st.s := rfl
theorem S8.uok_l (st : S8) (x : Bool) : (st.uok x).l = st.l := rfl
theorem S8.uok_c (st : S8) (x : Bool) : (st.uok x).c = st.c := rfl
theorem S8.uok_k (st : S8) (x : Bool) : (st.uok x).k = st.k := rfl
theorem S8.uok_g (st : S8) (x : Bool) : (st.uok x).g = st.g := rfl
theorem S8.uok_n (st : S8) (x : Bool) : (st.uok x).n = st.n := rfl
theorem S8.uok_cc (st : S8) (x : Bool) : (st.uok x).cc = st.cc := rfl
theorem S8.uok_ar (st : S8) (x : Bool) : (st.uok x).ar = st.ar := rfl
theorem S8.uok_ra (st : S8) (x : Bool) : (st.uok x).ra = st.ra := rfl
theorem S8.uok_rc (st : S8) (x : Bool) : (st.uok x).rc = st.rc := rfl
theorem S8.uok_runs (st : S8) (x : Bool) : (st.uok x).runs = st.runs := rfl
theorem S8.uok_me (st : S8) (x : Bool) : (st.uok x).me = st.me := rfl
theorem S8.uok_h (st : S8) (x : Bool) : (st.uok x).h = st.h := rfl
theorem S8.uok_d (st : S8) (x : Bool) : (st.uok x).d = st.d := rfl
theorem S8.uok_at_ (st : S8) (x : Bool) : (st.uok x).at_ = st.at_ := rfl
theorem S8.uok_was (st : S8) (x : Bool) : (st.uok x).was = st.was := rfl
theorem S8.uok_turn (st : S8) (x : Bool) : (st.uok x).turn = st.turn := rfl
def S8.u_Up (st : S8) (x : Bool) : S8 := st.uh { st.h with up := x }
def S8.u_In (st : S8) (x : Bool) : S8 := st.uh { st.h with inn := x }
def S8.u_Sure (st : S8) (x : Bool) : S8 := st.uh { st.h with sure := x }
def S8.u_Known (st : S8) (x : Bool) : S8 := st.uh { st.h with known := x }
def S8.u_Life (st : S8) (x : Int) : S8 := st.uh { st.h with life := x }
def S8.u_At (st : S8) (x : Int) : S8 := st.uh { st.h with at_ := x }
def S8.u_Code (st : S8) (x : Int) : S8 := st.uh { st.h with code := x }
def S8.u_A (st : S8) (x : Int) : S8 := st.uh { st.h with a := x }
def S8.u_B (st : S8) (x : Int) : S8 := st.uh { st.h with b := x }
def S8.u_C (st : S8) (x : Int) : S8 := st.uh { st.h with c := x }
def S8.u_Number (st : S8) (x : Int) : S8 := st.uh { st.h with number := x }
def S8.u_For (st : S8) (x : Int) : S8 := st.uh { st.h with for_ := x }
def S8.u_Last (st : S8) (x : Int) : S8 := st.uh { st.h with last := x }
def S8.u_Mine (st : S8) (x : Int) : S8 := st.uh { st.h with mine := x }
def S8.u_Addr (st : S8) (x : Int) : S8 := st.uh { st.h with addr := x }
def S8.u_Seen (st : S8) (x : Int) : S8 := st.uh { st.h with seen := x }
def S8.u_Put (st : S8) (x : Int) : S8 := st.uh { st.h with put := x }
def S8.u_Good (st : S8) (x : Int) : S8 := st.uh { st.h with good := x }
def S8.u_Bad (st : S8) (x : Int) : S8 := st.uh { st.h with bad := x }
def S8.u_Does (st : S8) (x : Int) : S8 := st.uh { st.h with does := x }
def S8.u_Block (st : S8) (x : Int) : S8 := st.uh { st.h with block := x }
def S8.u_From (st : S8) (x : Int) : S8 := st.uh { st.h with from_ := x }
def S8.u_Next (st : S8) (x : Int) : S8 := st.uh { st.h with next := x }
def S8.u_Value (st : S8) (x : Int) : S8 := st.uh { st.h with value := x }
def S8.u_Index (st : S8) (x : Int) : S8 := st.uh { st.h with index := x }
def S8.u_Which (st : S8) (x : Int) : S8 := st.uh { st.h with which := x }
def S8.u_Kept (st : S8) (x : Int) : S8 := st.uh { st.h with kept := x }
def S8.u_WasCode (st : S8) (x : Int) : S8 := st.uh { st.h with wasCode := x }
def S8.u_WasItem (st : S8) (x : Int) : S8 := st.uh { st.h with wasItem := x }
def S8.u_WasNumber (st : S8) (x : Int) : S8 := st.uh { st.h with wasNumber := x }
def S8.u_WasKind (st : S8) (x : Int) : S8 := st.uh { st.h with wasKind := x }
def S8.u_WasTag (st : S8) (x : Int) : S8 := st.uh { st.h with wasTag := x }
def S8.u_Reply (st : S8) (x : Int) : S8 := st.uh { st.h with reply := x }
def S8.u_Out (st : S8) (x : Int) : S8 := st.uh { st.h with out := x }
def S8.u_Mark (st : S8) (x : Int) : S8 := st.uh { st.h with mark := x }
def S8.u_Begin (st : S8) (x : Int) : S8 := st.uh { st.h with begin_ := x }
def S8.u_ok (st : S8) (x : Bool) : S8 := st.uok x
end Go.Proofs.YtgmoemjiffglbaaGreat
namespace Go.Proofs.YtgmoemjiffglbaaGreat
open Go.RowKit
set_option maxRecDepth 100000
set_option linter.unusedVariables false
def Hd.told (h : Hd) (kind : Int) : Dd := ⟨kind, h.for_, if h.code = 1 then 0 else if h.code = 13 then 0 else h.number, if kind = 7 then h.a else h.block, if kind = 3 then h.b else if kind = 5 then h.b else if kind = 4 then h.value else if kind = 6 then h.value else if kind = 7 then h.c else 0, 0⟩
theorem bDeed (k f n i : Int) : Tryz.prog.built 30 [(0, .int .i64 k), (1, .int .i64 f), (2, .int .i64 n), (3, .int .i64 i)] = some (Dd.vs ⟨k, f, n, i, 0, 0⟩).toArray := by kernel_rfl
theorem Dd.one (d : Dd) : ∀ v ∈ d.vs, v.oneCell' = true := by simp [Dd.vs, Value.oneCell']
def Dd.zero : Dd := ⟨0, 0, 0, 0, 0, 0⟩
end Go.Proofs.YtgmoemjiffglbaaGreat
namespace Go.Proofs.YtgmoemjiffglbaaGreat
open Go.RowKit
set_option linter.unusedVariables false
/-- All but the blocks b and g stays. -/
structure K2 (b g : Nat) (w w' : World) : Prop where
  os : w'.os = w.os
  tape : w'.tape = w.tape
  output : w'.output = w.output
  size : w.heap.size ≤ w'.heap.size
  block : ∀ k, k < w.heap.size → k ≠ b → k ≠ g → w'.heap[k]? = w.heap[k]?
theorem K2.refl (b g : Nat) (w : World) : K2 b g w w := ⟨rfl, rfl, rfl, Nat.le_refl _, fun _ _ _ _ => rfl⟩
theorem K2.trans {b g : Nat} {x y z : World} (h : K2 b g x y) (k : K2 b g y z) : K2 b g x z :=
  ⟨k.os.trans h.os, k.tape.trans h.tape, k.output.trans h.output, Nat.le_trans h.size k.size, fun i hi hb hg => (k.block i (Nat.lt_of_lt_of_le hi h.size) hb hg).trans (h.block i hi hb hg)⟩
theorem K2.of_below {b g : Nat} {w w' : World} (h : Below w.heap.size w w') : K2 b g w w' := ⟨h.os, h.tape, h.output, h.size, fun k hk _ _ => h.block k hk⟩
theorem K2.set {b g : Nat} {a w : World} (h : K2 b g a w) (o : Nat) (v : Value) : K2 b g a (w.setCell ⟨b, o, none⟩ v) :=
  ⟨h.os, h.tape, h.output, by simpa [World.setCell] using h.size, fun k hk hb hg => (Below.heap_setCell _ _ _ _ hb).trans (h.block k hk hb hg)⟩
theorem K2.setg {b g : Nat} {a w : World} (h : K2 b g a w) (o : Nat) (v : Value) : K2 b g a (w.setCell ⟨g, o, none⟩ v) :=
  ⟨h.os, h.tape, h.output, by simpa [World.setCell] using h.size, fun k hk hb hg => (Below.heap_setCell _ _ _ _ hg).trans (h.block k hk hb hg)⟩
theorem K2.drew {b g : Nat} {a w : World} (h : K2 b g a w) : K2 b g a w.drew := ⟨h.os, h.tape, h.output, h.size, h.block⟩
/-- The numbers of a list of int64, where they lie. -/
def Isrc (w : World) (b g : Nat) (a : Option Addr) (xs : List Int) : Prop :=
  xs = [] ∨ ∃ rb ro, a = some ⟨rb, ro, none⟩ ∧ rb < w.heap.size ∧ rb ≠ b ∧ rb ≠ g ∧ ∀ i, i < xs.length → w.cell? ⟨rb, ro + i, none⟩ = some (.int .i64 (xs.getD i 0))
theorem Isrc.of_block {w w' : World} {b g : Nat} {a : Option Addr} {xs : List Int} (h : Isrc w b g a xs) (hs : w.heap.size ≤ w'.heap.size) (hk : ∀ k, k < w.heap.size → k ≠ b → k ≠ g → w'.heap[k]? = w.heap[k]?) : Isrc w' b g a xs := by
  rcases h with h | ⟨rb, ro, h1, h2, h3, h4, h5⟩
  · exact .inl h
  · exact .inr ⟨rb, ro, h1, by omega, h3, h4, fun i hi => (World.cell?_of_block (w := w) (a := ⟨rb, ro + i, none⟩) (hk rb h2 h3 h4)).trans (h5 i hi)⟩
/-- Block b is the step st, its words lie in their own block. -/
structure SAt (w : World) (b : Nat) (st : S8) : Prop where
  is : At w b st.vs.toArray 69
  ws : Ws w st.g st.n st.cc st.ar
  bg : b ≠ st.g
  run : Isrc w b st.g st.ra st.runs
theorem SAt.keep {w w' : World} {b : Nat} {st : S8} (h : SAt w b st) (hb : Below w.heap.size w w') : SAt w' b st :=
  ⟨h.is.keep hb, h.ws.keep hb, h.bg, h.run.of_block hb.size (fun k hk _ _ => hb.block k hk)⟩
theorem SAt.put {w : World} {b : Nat} {st st' : S8} (h : SAt w b st) (i : Nat) (v : Value) (e : st.vs.toArray.setIfInBounds i v = st'.vs.toArray) (e1 : st'.g = st.g ∧ st'.n = st.n ∧ st'.cc = st.cc ∧ st'.ar = st.ar ∧ st'.ra = st.ra ∧ st'.runs = st.runs) : SAt (w.setCell ⟨b, i, none⟩ v) b st' := by
  obtain ⟨e1, e2, e3, e4, e5, e6⟩ := e1
  refine ⟨by rw [← e]; exact h.is.set i v, by rw [e1, e2, e3, e4]; exact h.ws.other (a := ⟨b, i, none⟩) (Ne.symm h.bg) v, by rw [e1]; exact h.bg, ?_⟩
  rw [e1, e5, e6]
  exact h.run.of_block (by simp [World.setCell]) (fun k hk hb hg => Below.heap_setCell _ _ _ _ hb)
theorem SAt.write {w : World} {b : Nat} {st : S8} (h : SAt w b st) (i : Nat) (x : Int) (hx : 0 ≤ x ∧ x ≤ 18446744073709551615) : SAt (w.setCell ⟨st.g, i, none⟩ (.int .u64 x)) b { st with ar := st.ar.set i x } :=
  ⟨h.is.other (a := ⟨st.g, i, none⟩) h.bg _, h.ws.set i x hx, h.bg, h.run.of_block (by simp [World.setCell]) (fun k hk hb hg => Below.heap_setCell _ _ _ _ hg)⟩
theorem SAt.drew {w : World} {b : Nat} {st : S8} (h : SAt w b st) : SAt w.drew b st := h.keep (Below.refl _ _).drew
theorem SAt.cA {w : World} {b : Nat} {st : S8} (h : SAt w b st) : w.cell? ⟨b, 5, none⟩ = some (.slice (some ⟨st.g, 0, none⟩) st.n st.cc) := h.is.cell 5
theorem SAt.cRun {w : World} {b : Nat} {st : S8} (h : SAt w b st) : w.cell? ⟨b, 6, none⟩ = some (.slice st.ra st.runs.length st.rc) := h.is.cell 6
theorem SAt.plan {w : World} {b : Nat} {st : S8} (h : SAt w b st) : w.cell? ⟨b, 0, none⟩ = some (.int .i64 st.p) ∧ w.cell? ⟨b, 1, none⟩ = some (.int .i64 st.s) ∧ w.cell? ⟨b, 2, none⟩ = some (.int .i64 st.l) ∧ w.cell? ⟨b, 3, none⟩ = some (.int .i64 st.c) ∧ w.cell? ⟨b, 4, none⟩ = some (.int .i64 st.k) := ⟨h.is.cell 0, h.is.cell 1, h.is.cell 2, h.is.cell 3, h.is.cell 4⟩
theorem SAt.c_me {w : World} {b : Nat} {st : S8} (h : SAt w b st) : w.cell? ⟨b, 7, none⟩ = some (.int .i64 st.me) := h.is.cell 7
theorem SAt.c_h_Up {w : World} {b : Nat} {st : S8} (h : SAt w b st) : w.cell? ⟨b, 8, none⟩ = some (.bool st.h.up) := h.is.cell 8
theorem SAt.s_h_Up {w : World} {b : Nat} {st : S8} (h : SAt w b st) (x : Bool) : SAt (w.setCell ⟨b, 8, none⟩ (.bool x)) b (st.u_Up x) := h.put 8 _ rfl ⟨rfl, rfl, rfl, rfl, rfl, rfl⟩
theorem SAt.c_h_In {w : World} {b : Nat} {st : S8} (h : SAt w b st) : w.cell? ⟨b, 9, none⟩ = some (.bool st.h.inn) := h.is.cell 9
theorem SAt.s_h_In {w : World} {b : Nat} {st : S8} (h : SAt w b st) (x : Bool) : SAt (w.setCell ⟨b, 9, none⟩ (.bool x)) b (st.u_In x) := h.put 9 _ rfl ⟨rfl, rfl, rfl, rfl, rfl, rfl⟩
theorem SAt.c_h_Sure {w : World} {b : Nat} {st : S8} (h : SAt w b st) : w.cell? ⟨b, 10, none⟩ = some (.bool st.h.sure) := h.is.cell 10
theorem SAt.s_h_Sure {w : World} {b : Nat} {st : S8} (h : SAt w b st) (x : Bool) : SAt (w.setCell ⟨b, 10, none⟩ (.bool x)) b (st.u_Sure x) := h.put 10 _ rfl ⟨rfl, rfl, rfl, rfl, rfl, rfl⟩
theorem SAt.c_h_Known {w : World} {b : Nat} {st : S8} (h : SAt w b st) : w.cell? ⟨b, 11, none⟩ = some (.bool st.h.known) := h.is.cell 11
theorem SAt.s_h_Known {w : World} {b : Nat} {st : S8} (h : SAt w b st) (x : Bool) : SAt (w.setCell ⟨b, 11, none⟩ (.bool x)) b (st.u_Known x) := h.put 11 _ rfl ⟨rfl, rfl, rfl, rfl, rfl, rfl⟩
theorem SAt.c_h_Life {w : World} {b : Nat} {st : S8} (h : SAt w b st) : w.cell? ⟨b, 12, none⟩ = some (.int .i64 st.h.life) := h.is.cell 12
theorem SAt.s_h_Life {w : World} {b : Nat} {st : S8} (h : SAt w b st) (x : Int) : SAt (w.setCell ⟨b, 12, none⟩ (.int .i64 x)) b (st.u_Life x) := h.put 12 _ rfl ⟨rfl, rfl, rfl, rfl, rfl, rfl⟩
theorem SAt.c_h_At {w : World} {b : Nat} {st : S8} (h : SAt w b st) : w.cell? ⟨b, 13, none⟩ = some (.int .i64 st.h.at_) := h.is.cell 13
theorem SAt.s_h_At {w : World} {b : Nat} {st : S8} (h : SAt w b st) (x : Int) : SAt (w.setCell ⟨b, 13, none⟩ (.int .i64 x)) b (st.u_At x) := h.put 13 _ rfl ⟨rfl, rfl, rfl, rfl, rfl, rfl⟩
theorem SAt.c_h_Code {w : World} {b : Nat} {st : S8} (h : SAt w b st) : w.cell? ⟨b, 14, none⟩ = some (.int .i64 st.h.code) := h.is.cell 14
theorem SAt.s_h_Code {w : World} {b : Nat} {st : S8} (h : SAt w b st) (x : Int) : SAt (w.setCell ⟨b, 14, none⟩ (.int .i64 x)) b (st.u_Code x) := h.put 14 _ rfl ⟨rfl, rfl, rfl, rfl, rfl, rfl⟩
theorem SAt.c_h_A {w : World} {b : Nat} {st : S8} (h : SAt w b st) : w.cell? ⟨b, 15, none⟩ = some (.int .i64 st.h.a) := h.is.cell 15
theorem SAt.s_h_A {w : World} {b : Nat} {st : S8} (h : SAt w b st) (x : Int) : SAt (w.setCell ⟨b, 15, none⟩ (.int .i64 x)) b (st.u_A x) := h.put 15 _ rfl ⟨rfl, rfl, rfl, rfl, rfl, rfl⟩
theorem SAt.c_h_B {w : World} {b : Nat} {st : S8} (h : SAt w b st) : w.cell? ⟨b, 16, none⟩ = some (.int .i64 st.h.b) := h.is.cell 16
theorem SAt.s_h_B {w : World} {b : Nat} {st : S8} (h : SAt w b st) (x : Int) : SAt (w.setCell ⟨b, 16, none⟩ (.int .i64 x)) b (st.u_B x) := h.put 16 _ rfl ⟨rfl, rfl, rfl, rfl, rfl, rfl⟩
theorem SAt.c_h_C {w : World} {b : Nat} {st : S8} (h : SAt w b st) : w.cell? ⟨b, 17, none⟩ = some (.int .i64 st.h.c) := h.is.cell 17
theorem SAt.s_h_C {w : World} {b : Nat} {st : S8} (h : SAt w b st) (x : Int) : SAt (w.setCell ⟨b, 17, none⟩ (.int .i64 x)) b (st.u_C x) := h.put 17 _ rfl ⟨rfl, rfl, rfl, rfl, rfl, rfl⟩
theorem SAt.c_h_Number {w : World} {b : Nat} {st : S8} (h : SAt w b st) : w.cell? ⟨b, 18, none⟩ = some (.int .i64 st.h.number) := h.is.cell 18
theorem SAt.s_h_Number {w : World} {b : Nat} {st : S8} (h : SAt w b st) (x : Int) : SAt (w.setCell ⟨b, 18, none⟩ (.int .i64 x)) b (st.u_Number x) := h.put 18 _ rfl ⟨rfl, rfl, rfl, rfl, rfl, rfl⟩
theorem SAt.c_h_For {w : World} {b : Nat} {st : S8} (h : SAt w b st) : w.cell? ⟨b, 19, none⟩ = some (.int .i64 st.h.for_) := h.is.cell 19
theorem SAt.s_h_For {w : World} {b : Nat} {st : S8} (h : SAt w b st) (x : Int) : SAt (w.setCell ⟨b, 19, none⟩ (.int .i64 x)) b (st.u_For x) := h.put 19 _ rfl ⟨rfl, rfl, rfl, rfl, rfl, rfl⟩
theorem SAt.c_h_Last {w : World} {b : Nat} {st : S8} (h : SAt w b st) : w.cell? ⟨b, 20, none⟩ = some (.int .i64 st.h.last) := h.is.cell 20
theorem SAt.s_h_Last {w : World} {b : Nat} {st : S8} (h : SAt w b st) (x : Int) : SAt (w.setCell ⟨b, 20, none⟩ (.int .i64 x)) b (st.u_Last x) := h.put 20 _ rfl ⟨rfl, rfl, rfl, rfl, rfl, rfl⟩
theorem SAt.c_h_Mine {w : World} {b : Nat} {st : S8} (h : SAt w b st) : w.cell? ⟨b, 21, none⟩ = some (.int .i64 st.h.mine) := h.is.cell 21
theorem SAt.s_h_Mine {w : World} {b : Nat} {st : S8} (h : SAt w b st) (x : Int) : SAt (w.setCell ⟨b, 21, none⟩ (.int .i64 x)) b (st.u_Mine x) := h.put 21 _ rfl ⟨rfl, rfl, rfl, rfl, rfl, rfl⟩
theorem SAt.c_h_Addr {w : World} {b : Nat} {st : S8} (h : SAt w b st) : w.cell? ⟨b, 22, none⟩ = some (.int .i64 st.h.addr) := h.is.cell 22
theorem SAt.s_h_Addr {w : World} {b : Nat} {st : S8} (h : SAt w b st) (x : Int) : SAt (w.setCell ⟨b, 22, none⟩ (.int .i64 x)) b (st.u_Addr x) := h.put 22 _ rfl ⟨rfl, rfl, rfl, rfl, rfl, rfl⟩
theorem SAt.c_h_Seen {w : World} {b : Nat} {st : S8} (h : SAt w b st) : w.cell? ⟨b, 23, none⟩ = some (.int .u64 st.h.seen) := h.is.cell 23
theorem SAt.s_h_Seen {w : World} {b : Nat} {st : S8} (h : SAt w b st) (x : Int) : SAt (w.setCell ⟨b, 23, none⟩ (.int .u64 x)) b (st.u_Seen x) := h.put 23 _ rfl ⟨rfl, rfl, rfl, rfl, rfl, rfl⟩
theorem SAt.c_h_Put {w : World} {b : Nat} {st : S8} (h : SAt w b st) : w.cell? ⟨b, 24, none⟩ = some (.int .u64 st.h.put) := h.is.cell 24
theorem SAt.s_h_Put {w : World} {b : Nat} {st : S8} (h : SAt w b st) (x : Int) : SAt (w.setCell ⟨b, 24, none⟩ (.int .u64 x)) b (st.u_Put x) := h.put 24 _ rfl ⟨rfl, rfl, rfl, rfl, rfl, rfl⟩
theorem SAt.c_h_Good {w : World} {b : Nat} {st : S8} (h : SAt w b st) : w.cell? ⟨b, 25, none⟩ = some (.int .i64 st.h.good) := h.is.cell 25
theorem SAt.s_h_Good {w : World} {b : Nat} {st : S8} (h : SAt w b st) (x : Int) : SAt (w.setCell ⟨b, 25, none⟩ (.int .i64 x)) b (st.u_Good x) := h.put 25 _ rfl ⟨rfl, rfl, rfl, rfl, rfl, rfl⟩
theorem SAt.c_h_Bad {w : World} {b : Nat} {st : S8} (h : SAt w b st) : w.cell? ⟨b, 26, none⟩ = some (.int .i64 st.h.bad) := h.is.cell 26
theorem SAt.s_h_Bad {w : World} {b : Nat} {st : S8} (h : SAt w b st) (x : Int) : SAt (w.setCell ⟨b, 26, none⟩ (.int .i64 x)) b (st.u_Bad x) := h.put 26 _ rfl ⟨rfl, rfl, rfl, rfl, rfl, rfl⟩
theorem SAt.c_h_Does {w : World} {b : Nat} {st : S8} (h : SAt w b st) : w.cell? ⟨b, 27, none⟩ = some (.int .i64 st.h.does) := h.is.cell 27
theorem SAt.s_h_Does {w : World} {b : Nat} {st : S8} (h : SAt w b st) (x : Int) : SAt (w.setCell ⟨b, 27, none⟩ (.int .i64 x)) b (st.u_Does x) := h.put 27 _ rfl ⟨rfl, rfl, rfl, rfl, rfl, rfl⟩
theorem SAt.c_h_Block {w : World} {b : Nat} {st : S8} (h : SAt w b st) : w.cell? ⟨b, 28, none⟩ = some (.int .i64 st.h.block) := h.is.cell 28
theorem SAt.s_h_Block {w : World} {b : Nat} {st : S8} (h : SAt w b st) (x : Int) : SAt (w.setCell ⟨b, 28, none⟩ (.int .i64 x)) b (st.u_Block x) := h.put 28 _ rfl ⟨rfl, rfl, rfl, rfl, rfl, rfl⟩
theorem SAt.c_h_From {w : World} {b : Nat} {st : S8} (h : SAt w b st) : w.cell? ⟨b, 29, none⟩ = some (.int .i64 st.h.from_) := h.is.cell 29
theorem SAt.s_h_From {w : World} {b : Nat} {st : S8} (h : SAt w b st) (x : Int) : SAt (w.setCell ⟨b, 29, none⟩ (.int .i64 x)) b (st.u_From x) := h.put 29 _ rfl ⟨rfl, rfl, rfl, rfl, rfl, rfl⟩
theorem SAt.c_h_Next {w : World} {b : Nat} {st : S8} (h : SAt w b st) : w.cell? ⟨b, 30, none⟩ = some (.int .i64 st.h.next) := h.is.cell 30
theorem SAt.s_h_Next {w : World} {b : Nat} {st : S8} (h : SAt w b st) (x : Int) : SAt (w.setCell ⟨b, 30, none⟩ (.int .i64 x)) b (st.u_Next x) := h.put 30 _ rfl ⟨rfl, rfl, rfl, rfl, rfl, rfl⟩
theorem SAt.c_h_Value {w : World} {b : Nat} {st : S8} (h : SAt w b st) : w.cell? ⟨b, 31, none⟩ = some (.int .i64 st.h.value) := h.is.cell 31
theorem SAt.s_h_Value {w : World} {b : Nat} {st : S8} (h : SAt w b st) (x : Int) : SAt (w.setCell ⟨b, 31, none⟩ (.int .i64 x)) b (st.u_Value x) := h.put 31 _ rfl ⟨rfl, rfl, rfl, rfl, rfl, rfl⟩
theorem SAt.c_h_Index {w : World} {b : Nat} {st : S8} (h : SAt w b st) : w.cell? ⟨b, 32, none⟩ = some (.int .i64 st.h.index) := h.is.cell 32
theorem SAt.s_h_Index {w : World} {b : Nat} {st : S8} (h : SAt w b st) (x : Int) : SAt (w.setCell ⟨b, 32, none⟩ (.int .i64 x)) b (st.u_Index x) := h.put 32 _ rfl ⟨rfl, rfl, rfl, rfl, rfl, rfl⟩
theorem SAt.c_h_Which {w : World} {b : Nat} {st : S8} (h : SAt w b st) : w.cell? ⟨b, 33, none⟩ = some (.int .i64 st.h.which) := h.is.cell 33
theorem SAt.s_h_Which {w : World} {b : Nat} {st : S8} (h : SAt w b st) (x : Int) : SAt (w.setCell ⟨b, 33, none⟩ (.int .i64 x)) b (st.u_Which x) := h.put 33 _ rfl ⟨rfl, rfl, rfl, rfl, rfl, rfl⟩
theorem SAt.c_h_Kept {w : World} {b : Nat} {st : S8} (h : SAt w b st) : w.cell? ⟨b, 34, none⟩ = some (.int .i64 st.h.kept) := h.is.cell 34
theorem SAt.s_h_Kept {w : World} {b : Nat} {st : S8} (h : SAt w b st) (x : Int) : SAt (w.setCell ⟨b, 34, none⟩ (.int .i64 x)) b (st.u_Kept x) := h.put 34 _ rfl ⟨rfl, rfl, rfl, rfl, rfl, rfl⟩
theorem SAt.c_h_WasCode {w : World} {b : Nat} {st : S8} (h : SAt w b st) : w.cell? ⟨b, 35, none⟩ = some (.int .i64 st.h.wasCode) := h.is.cell 35
theorem SAt.s_h_WasCode {w : World} {b : Nat} {st : S8} (h : SAt w b st) (x : Int) : SAt (w.setCell ⟨b, 35, none⟩ (.int .i64 x)) b (st.u_WasCode x) := h.put 35 _ rfl ⟨rfl, rfl, rfl, rfl, rfl, rfl⟩
theorem SAt.c_h_WasItem {w : World} {b : Nat} {st : S8} (h : SAt w b st) : w.cell? ⟨b, 36, none⟩ = some (.int .i64 st.h.wasItem) := h.is.cell 36
theorem SAt.s_h_WasItem {w : World} {b : Nat} {st : S8} (h : SAt w b st) (x : Int) : SAt (w.setCell ⟨b, 36, none⟩ (.int .i64 x)) b (st.u_WasItem x) := h.put 36 _ rfl ⟨rfl, rfl, rfl, rfl, rfl, rfl⟩
theorem SAt.c_h_WasNumber {w : World} {b : Nat} {st : S8} (h : SAt w b st) : w.cell? ⟨b, 37, none⟩ = some (.int .i64 st.h.wasNumber) := h.is.cell 37
theorem SAt.s_h_WasNumber {w : World} {b : Nat} {st : S8} (h : SAt w b st) (x : Int) : SAt (w.setCell ⟨b, 37, none⟩ (.int .i64 x)) b (st.u_WasNumber x) := h.put 37 _ rfl ⟨rfl, rfl, rfl, rfl, rfl, rfl⟩
theorem SAt.c_h_WasKind {w : World} {b : Nat} {st : S8} (h : SAt w b st) : w.cell? ⟨b, 38, none⟩ = some (.int .i64 st.h.wasKind) := h.is.cell 38
theorem SAt.s_h_WasKind {w : World} {b : Nat} {st : S8} (h : SAt w b st) (x : Int) : SAt (w.setCell ⟨b, 38, none⟩ (.int .i64 x)) b (st.u_WasKind x) := h.put 38 _ rfl ⟨rfl, rfl, rfl, rfl, rfl, rfl⟩
theorem SAt.c_h_WasTag {w : World} {b : Nat} {st : S8} (h : SAt w b st) : w.cell? ⟨b, 39, none⟩ = some (.int .i64 st.h.wasTag) := h.is.cell 39
theorem SAt.s_h_WasTag {w : World} {b : Nat} {st : S8} (h : SAt w b st) (x : Int) : SAt (w.setCell ⟨b, 39, none⟩ (.int .i64 x)) b (st.u_WasTag x) := h.put 39 _ rfl ⟨rfl, rfl, rfl, rfl, rfl, rfl⟩
theorem SAt.c_h_Reply {w : World} {b : Nat} {st : S8} (h : SAt w b st) : w.cell? ⟨b, 40, none⟩ = some (.int .i64 st.h.reply) := h.is.cell 40
theorem SAt.s_h_Reply {w : World} {b : Nat} {st : S8} (h : SAt w b st) (x : Int) : SAt (w.setCell ⟨b, 40, none⟩ (.int .i64 x)) b (st.u_Reply x) := h.put 40 _ rfl ⟨rfl, rfl, rfl, rfl, rfl, rfl⟩
theorem SAt.c_h_Out {w : World} {b : Nat} {st : S8} (h : SAt w b st) : w.cell? ⟨b, 41, none⟩ = some (.int .i64 st.h.out) := h.is.cell 41
theorem SAt.s_h_Out {w : World} {b : Nat} {st : S8} (h : SAt w b st) (x : Int) : SAt (w.setCell ⟨b, 41, none⟩ (.int .i64 x)) b (st.u_Out x) := h.put 41 _ rfl ⟨rfl, rfl, rfl, rfl, rfl, rfl⟩
theorem SAt.c_h_Mark {w : World} {b : Nat} {st : S8} (h : SAt w b st) : w.cell? ⟨b, 42, none⟩ = some (.int .i64 st.h.mark) := h.is.cell 42
theorem SAt.s_h_Mark {w : World} {b : Nat} {st : S8} (h : SAt w b st) (x : Int) : SAt (w.setCell ⟨b, 42, none⟩ (.int .i64 x)) b (st.u_Mark x) := h.put 42 _ rfl ⟨rfl, rfl, rfl, rfl, rfl, rfl⟩
theorem SAt.c_h_Begin {w : World} {b : Nat} {st : S8} (h : SAt w b st) : w.cell? ⟨b, 43, none⟩ = some (.int .i64 st.h.begin_) := h.is.cell 43
theorem SAt.s_h_Begin {w : World} {b : Nat} {st : S8} (h : SAt w b st) (x : Int) : SAt (w.setCell ⟨b, 43, none⟩ (.int .i64 x)) b (st.u_Begin x) := h.put 43 _ rfl ⟨rfl, rfl, rfl, rfl, rfl, rfl⟩
theorem SAt.c_d_Kind {w : World} {b : Nat} {st : S8} (h : SAt w b st) : w.cell? ⟨b, 44, none⟩ = some (.int .i64 st.d.kind) := h.is.cell 44
theorem SAt.s_d_Kind {w : World} {b : Nat} {st : S8} (h : SAt w b st) (x : Int) : SAt (w.setCell ⟨b, 44, none⟩ (.int .i64 x)) b { st with d := { st.d with kind := x } } := h.put 44 _ rfl ⟨rfl, rfl, rfl, rfl, rfl, rfl⟩
theorem SAt.c_d_Slot {w : World} {b : Nat} {st : S8} (h : SAt w b st) : w.cell? ⟨b, 45, none⟩ = some (.int .i64 st.d.slot) := h.is.cell 45
theorem SAt.s_d_Slot {w : World} {b : Nat} {st : S8} (h : SAt w b st) (x : Int) : SAt (w.setCell ⟨b, 45, none⟩ (.int .i64 x)) b { st with d := { st.d with slot := x } } := h.put 45 _ rfl ⟨rfl, rfl, rfl, rfl, rfl, rfl⟩
theorem SAt.c_d_Number {w : World} {b : Nat} {st : S8} (h : SAt w b st) : w.cell? ⟨b, 46, none⟩ = some (.int .i64 st.d.number) := h.is.cell 46
theorem SAt.s_d_Number {w : World} {b : Nat} {st : S8} (h : SAt w b st) (x : Int) : SAt (w.setCell ⟨b, 46, none⟩ (.int .i64 x)) b { st with d := { st.d with number := x } } := h.put 46 _ rfl ⟨rfl, rfl, rfl, rfl, rfl, rfl⟩
theorem SAt.c_d_Item {w : World} {b : Nat} {st : S8} (h : SAt w b st) : w.cell? ⟨b, 47, none⟩ = some (.int .i64 st.d.item) := h.is.cell 47
theorem SAt.s_d_Item {w : World} {b : Nat} {st : S8} (h : SAt w b st) (x : Int) : SAt (w.setCell ⟨b, 47, none⟩ (.int .i64 x)) b { st with d := { st.d with item := x } } := h.put 47 _ rfl ⟨rfl, rfl, rfl, rfl, rfl, rfl⟩
theorem SAt.c_d_Value {w : World} {b : Nat} {st : S8} (h : SAt w b st) : w.cell? ⟨b, 48, none⟩ = some (.int .i64 st.d.value) := h.is.cell 48
theorem SAt.s_d_Value {w : World} {b : Nat} {st : S8} (h : SAt w b st) (x : Int) : SAt (w.setCell ⟨b, 48, none⟩ (.int .i64 x)) b { st with d := { st.d with value := x } } := h.put 48 _ rfl ⟨rfl, rfl, rfl, rfl, rfl, rfl⟩
theorem SAt.c_d_Clock {w : World} {b : Nat} {st : S8} (h : SAt w b st) : w.cell? ⟨b, 49, none⟩ = some (.int .i64 st.d.clock) := h.is.cell 49
theorem SAt.s_d_Clock {w : World} {b : Nat} {st : S8} (h : SAt w b st) (x : Int) : SAt (w.setCell ⟨b, 49, none⟩ (.int .i64 x)) b { st with d := { st.d with clock := x } } := h.put 49 _ rfl ⟨rfl, rfl, rfl, rfl, rfl, rfl⟩
theorem SAt.c_ok {w : World} {b : Nat} {st : S8} (h : SAt w b st) : w.cell? ⟨b, 50, none⟩ = some (.bool st.ok) := h.is.cell 50
theorem SAt.s_ok {w : World} {b : Nat} {st : S8} (h : SAt w b st) (x : Bool) : SAt (w.setCell ⟨b, 50, none⟩ (.bool x)) b (st.uok x) := h.put 50 _ rfl ⟨rfl, rfl, rfl, rfl, rfl, rfl⟩
theorem SAt.c_at {w : World} {b : Nat} {st : S8} (h : SAt w b st) : w.cell? ⟨b, 51, none⟩ = some (.int .i64 st.at_) := h.is.cell 51
theorem SAt.s_at {w : World} {b : Nat} {st : S8} (h : SAt w b st) (x : Int) : SAt (w.setCell ⟨b, 51, none⟩ (.int .i64 x)) b { st with at_ := x } := h.put 51 _ rfl ⟨rfl, rfl, rfl, rfl, rfl, rfl⟩
theorem SAt.c_was {w : World} {b : Nat} {st : S8} (h : SAt w b st) : w.cell? ⟨b, 52, none⟩ = some (.int .u64 st.was) := h.is.cell 52
theorem SAt.s_was {w : World} {b : Nat} {st : S8} (h : SAt w b st) (x : Int) : SAt (w.setCell ⟨b, 52, none⟩ (.int .u64 x)) b { st with was := x } := h.put 52 _ rfl ⟨rfl, rfl, rfl, rfl, rfl, rfl⟩
theorem SAt.c_turn {w : World} {b : Nat} {st : S8} (h : SAt w b st) : w.cell? ⟨b, 53, none⟩ = some (.bool st.turn) := h.is.cell 53
theorem SAt.s_turn {w : World} {b : Nat} {st : S8} (h : SAt w b st) (x : Bool) : SAt (w.setCell ⟨b, 53, none⟩ (.bool x)) b { st with turn := x } := h.put 53 _ rfl ⟨rfl, rfl, rfl, rfl, rfl, rfl⟩
theorem SAt.fz {w : World} {b : Nat} {st : S8} (h : SAt w b st) (i : Nat) : w.frozen? ⟨b, i, none⟩ = false := h.is.frozen i
end Go.Proofs.YtgmoemjiffglbaaGreat
namespace Go.Proofs.YtgmoemjiffglbaaGreat
open Go.RowKit
set_option linter.unusedVariables false
set_option linter.unusedSimpArgs false
attribute [local go_sem ↓] Go.wp_at_zero Go.wp_at_succ
def S8.slot (st : S8) (f : Int) : Int := vSlot st.p st.s st.l st.c st.k st.h.for_ f
def S8.blk (st : S8) (f : Int) : Int := vBlock st.p st.s st.l st.c st.k st.h.block f
/-- What is read at a place, and what the reading leaves. -/
def S8.rd (st : S8) (a : Int) : Int := red st.ar a
theorem SAt.rd_bd {w : World} {b : Nat} {st : S8} (S : SAt w b st) (a : Int) : 0 ≤ st.rd a ∧ st.rd a ≤ 18446744073709551615 := by
  unfold S8.rd red
  split
  · exact S.ws.bds _
  · omega
def S8.rdS (st : S8) (a : Int) : S8 := if thr a st.n then st else { st with ok := false }
def S8.wr (st : S8) (a x : Int) : S8 := if thr a st.n then { st with turn := true, at_ := a, was := st.ar.getD a.toNat 0, ar := st.ar.set a.toNat x } else { st with ok := false }
/-- A word packed, 0 where it can't be. -/
def wv (k p i q : Int) : Int := if wOk k p i q then pk k p i q else 0
def S8.wrd (st : S8) (k p i q : Int) : S8 := if wOk k p i q then st else { st with ok := false }
theorem wv_bd (k p i q : Int) : 0 ≤ wv k p i q ∧ wv k p i q ≤ 18446744073709551615 := by
  unfold wv
  split
  · rename_i h; exact pk_bd h
  · omega
def S8.swp (st : S8) (a y x : Int) : Bool × S8 := if st.rd a ≠ y ∨ (st.rdS a).ok = false then (false, st.rdS a) else (true, (st.rdS a).wr a x)
set_option maxHeartbeats 1000000 in
theorem sl8Slot (b : Nat) (st : S8) (f : Int) (w : World) (S : SAt w b st) :
    Calls Tryz.prog 34 #[.pointer (some ⟨b, 0, none⟩), .int .i64 f] w fun e w' => e = .returned (.int .i64 (st.slot f)) ∧ Below w.heap.size w w' := by
  obtain ⟨c0, c1, c2, c3, c4⟩ := S.plan
  have c5 := S.c_h_For
  go_enter Tryz.func34, Tryz.ntmps34
  go_wp2_with fail
  go_region_held3 (fun w' => w'.cell? ⟨b, 0, none⟩ = some (.int .i64 st.p) ∧ w'.cell? ⟨b, 1, none⟩ = some (.int .i64 st.s) ∧ w'.cell? ⟨b, 2, none⟩ = some (.int .i64 st.l) ∧ w'.cell? ⟨b, 3, none⟩ = some (.int .i64 st.c) ∧ w'.cell? ⟨b, 4, none⟩ = some (.int .i64 st.k) ∧ w'.cell? ⟨b, 19, none⟩ = some (.int .i64 st.h.for_)) (go_keep)
    (first | (go_at_call 67; refine (sSlot _ _ _ _ _ _ _ _).mono ?_; rintro e w2 ⟨rfl, hb⟩; obtain ⟨c0, c1, c2, c3, c4⟩ := (S.drew.keep hb).plan; have c5 := (S.drew.keep hb).c_h_For))
  go_wp2
  go_ret
  exact ⟨rfl, (Below.refl _ _).drew.trans hb⟩
set_option maxHeartbeats 1000000 in
theorem sl8Read (b : Nat) (st : S8) (a : Int) (w : World) (S : SAt w b st) (hn : st.n ≤ 16777216) :
    Calls Tryz.prog 31 #[.pointer (some ⟨b, 0, none⟩), .int .i64 a] w fun e w' => e = .returned (.int .u64 (st.rd a)) ∧ SAt w' b (st.rdS a) ∧ K2 b st.g w w' ∧ (0 ≤ st.rd a ∧ st.rd a ≤ 18446744073709551615) := by
  have hrb : Hid (0 ≤ st.rd a ∧ st.rd a ≤ 18446744073709551615) := S.rd_bd a
  have cA := S.cA
  have hl := S.ws.len
  cases ht : thr a st.n
  · have c50 := S.c_ok
    have f50 := S.fz 50
    have e1 : st.rd a = 0 := by unfold S8.rd red; rw [hl, ht]; rfl
    have e2 : st.rdS a = { st with ok := false } := by unfold S8.rdS; rw [ht]; rfl
    rw [e1, e2]
    go_enter Tryz.func31, Tryz.ntmps31
    go_wp2_with (go_at_call 65; refine (sThere _ _ _ _ _ (by omega)).mono ?_; rintro e w2 ⟨rfl, rfl⟩; rw [ht])
    go_ret
    exact ⟨rfl, S.s_ok false, (K2.refl _ _ _).set _ _, by omega⟩
  · obtain ⟨i, hi, rfl⟩ := thr_true ht
    have e1 : st.rd (i : Int) = st.ar.getD i 0 := by unfold S8.rd red; rw [hl, ht]; simp
    have e2 : st.rdS (i : Int) = st := by unfold S8.rdS; rw [ht]; rfl
    rw [e1, e2]
    have d0 := S.ws.cell i hi
    have hrb2 : Hid (0 ≤ st.ar.getD i 0 ∧ st.ar.getD i 0 ≤ 18446744073709551615) := by rw [← e1]; exact hrb.out
    clear hrb e1
    generalize st.ar.getD i 0 = x at *
    go_enter Tryz.func31, Tryz.ntmps31
    go_wp2_with (go_at_call 65; refine (sThere _ _ _ _ _ (by omega)).mono ?_; rintro e w2 ⟨rfl, rfl⟩; rw [ht])
    go_ret
    exact ⟨rfl, S, K2.refl _ _ _, hrb2.out⟩
set_option maxHeartbeats 2000000 in
theorem sl8Write (b : Nat) (st : S8) (a x : Int) (w : World) (S : SAt w b st) (hn : st.n ≤ 16777216) (hx : 0 ≤ x ∧ x ≤ 18446744073709551615) :
    Calls Tryz.prog 33 #[.pointer (some ⟨b, 0, none⟩), .int .i64 a, .int .u64 x] w fun e w' => e = .returned (.tuple #[]) ∧ SAt w' b (st.wr a x) ∧ K2 b st.g w w' := by
  have cA := S.cA
  have hl := S.ws.len
  cases ht : thr a st.n
  · have c50 := S.c_ok
    have f50 := S.fz 50
    have e2 : st.wr a x = { st with ok := false } := by unfold S8.wr; rw [ht]; rfl
    rw [e2]
    go_enter Tryz.func33, Tryz.ntmps33
    go_wp2_with (go_at_call 65; refine (sThere _ _ _ _ _ (by omega)).mono ?_; rintro e w2 ⟨rfl, rfl⟩; rw [ht])
    all_goals (first | go_end0 | refine bodyPost_ret (results_none rfl _ _ _) rfl ?_)
    exact ⟨rfl, S.s_ok false, (K2.refl _ _ _).set _ _⟩
  · obtain ⟨i, hi, rfl⟩ := thr_true ht
    have e2 : st.wr (i : Int) x = { st with turn := true, at_ := (i : Int), was := st.ar.getD i 0, ar := st.ar.set i x } := by unfold S8.wr; rw [ht]; simp
    rw [e2]
    have d0 := S.ws.cell i hi
    have df := S.ws.frozen i
    have hbg := S.bg
    have hgb := Ne.symm S.bg
    have c51 := S.c_at
    have c52 := S.c_was
    have c53 := S.c_turn
    have f51 := S.fz 51
    have f52 := S.fz 52
    have f53 := S.fz 53
    have fin := (((S.s_turn true).s_at (i : Int)).s_was (st.ar.getD i 0)).write i x hx
    have FIN : Hid (SAt ((((w.setCell ⟨b, 53, none⟩ (.bool true)).setCell ⟨b, 51, none⟩ (.int .i64 (i : Int))).setCell ⟨b, 52, none⟩ (.int .u64 (st.ar.getD i 0))).setCell ⟨st.g, i, none⟩ (.int .u64 x)) b { st with turn := true, at_ := (i : Int), was := st.ar.getD i 0, ar := st.ar.set i x }) := fin
    clear fin
    generalize hy : st.ar.getD i 0 = y at *
    go_enter Tryz.func33, Tryz.ntmps33
    go_wp2_with (go_at_call 65; refine (sThere _ _ _ _ _ (by omega)).mono ?_; rintro e w2 ⟨rfl, rfl⟩; rw [ht])
    all_goals (first | go_end0 | refine bodyPost_ret (results_none rfl _ _ _) rfl ?_)
    exact ⟨rfl, FIN.out, ((((K2.refl _ _ _).set _ _).set _ _).set _ _).setg _ _⟩
set_option maxHeartbeats 1000000 in
theorem sl8Word (b : Nat) (st : S8) (k p i q : Int) (w : World) (S : SAt w b st) :
    Calls Tryz.prog 35 #[.pointer (some ⟨b, 0, none⟩), .int .i64 k, .int .i64 p, .int .i64 i, .int .i64 q] w fun e w' => e = .returned (.int .u64 (wv k p i q)) ∧ SAt w' b (st.wrd k p i q) ∧ K2 b st.g w w' := by
  cases ht : wOk k p i q
  · have e1 : wv k p i q = 0 := by unfold wv; rw [ht]; rfl
    have e2 : st.wrd k p i q = { st with ok := false } := by unfold S8.wrd; rw [ht]; rfl
    rw [e1, e2]
    go_enter Tryz.func35, Tryz.ntmps35
    go_wp2_with (go_at_call 68; refine (sPackN _ _ _ _ _ ht).mono ?_; rintro e w1 ⟨rfl, hb⟩; replace S := S.keep hb; have c50 := S.c_ok; have f50 := S.fz 50)
    go_ret
    exact ⟨rfl, S.s_ok false, (K2.of_below hb).set _ _⟩
  · have e1 : wv k p i q = pk k p i q := by unfold wv; rw [ht]; rfl
    have e2 : st.wrd k p i q = st := by unfold S8.wrd; rw [ht]; rfl
    rw [e1, e2]
    go_enter Tryz.func35, Tryz.ntmps35
    go_wp2_with (go_at_call 68; refine (sPackY _ _ _ _ _ ht).mono ?_; rintro e w1 ⟨rfl, hb⟩; replace S := S.keep hb)
    go_ret
    exact ⟨rfl, S, K2.of_below hb⟩
end Go.Proofs.YtgmoemjiffglbaaGreat
namespace Go.Proofs.YtgmoemjiffglbaaGreat
open Go.RowKit
set_option linter.unusedVariables false
set_option linter.unusedSimpArgs false
attribute [local go_sem ↓] Go.wp_at_zero Go.wp_at_succ
theorem S8.rdS_p (st : S8) (a : Int) : (st.rdS a).p = st.p := by unfold S8.rdS; split <;> rfl
theorem S8.rdS_s (st : S8) (a : Int) : (st.rdS a).s = st.s := by unfold S8.rdS; split <;> rfl
theorem S8.rdS_l (st : S8) (a : Int) : (st.rdS a).l = st.l := by unfold S8.rdS; split <;> rfl
theorem S8.rdS_c (st : S8) (a : Int) : (st.rdS a).c = st.c := by unfold S8.rdS; split <;> rfl
theorem S8.rdS_k (st : S8) (a : Int) : (st.rdS a).k = st.k := by unfold S8.rdS; split <;> rfl
theorem S8.rdS_g (st : S8) (a : Int) : (st.rdS a).g = st.g := by unfold S8.rdS; split <;> rfl
theorem S8.rdS_n (st : S8) (a : Int) : (st.rdS a).n = st.n := by unfold S8.rdS; split <;> rfl
theorem S8.rdS_cc (st : S8) (a : Int) : (st.rdS a).cc = st.cc := by unfold S8.rdS; split <;> rfl
theorem S8.rdS_ra (st : S8) (a : Int) : (st.rdS a).ra = st.ra := by unfold S8.rdS; split <;> rfl
theorem S8.rdS_rc (st : S8) (a : Int) : (st.rdS a).rc = st.rc := by unfold S8.rdS; split <;> rfl
theorem S8.rdS_runs (st : S8) (a : Int) : (st.rdS a).runs = st.runs := by unfold S8.rdS; split <;> rfl
theorem S8.rdS_me (st : S8) (a : Int) : (st.rdS a).me = st.me := by unfold S8.rdS; split <;> rfl
theorem S8.rdS_h (st : S8) (a : Int) : (st.rdS a).h = st.h := by unfold S8.rdS; split <;> rfl
theorem S8.rdS_d (st : S8) (a : Int) : (st.rdS a).d = st.d := by unfold S8.rdS; split <;> rfl
theorem S8.wrd_p (st : S8) (a b c d : Int) : (st.wrd a b c d).p = st.p := by unfold S8.wrd; split <;> rfl
theorem S8.wrd_s (st : S8) (a b c d : Int) : (st.wrd a b c d).s = st.s := by unfold S8.wrd; split <;> rfl
theorem S8.wrd_l (st : S8) (a b c d : Int) : (st.wrd a b c d).l = st.l := by unfold S8.wrd; split <;> rfl
theorem S8.wrd_c (st : S8) (a b c d : Int) : (st.wrd a b c d).c = st.c := by unfold S8.wrd; split <;> rfl
theorem S8.wrd_k (st : S8) (a b c d : Int) : (st.wrd a b c d).k = st.k := by unfold S8.wrd; split <;> rfl
theorem S8.wrd_g (st : S8) (a b c d : Int) : (st.wrd a b c d).g = st.g := by unfold S8.wrd; split <;> rfl
theorem S8.wrd_n (st : S8) (a b c d : Int) : (st.wrd a b c d).n = st.n := by unfold S8.wrd; split <;> rfl
theorem S8.wrd_cc (st : S8) (a b c d : Int) : (st.wrd a b c d).cc = st.cc := by unfold S8.wrd; split <;> rfl
theorem S8.wrd_ra (st : S8) (a b c d : Int) : (st.wrd a b c d).ra = st.ra := by unfold S8.wrd; split <;> rfl
theorem S8.wrd_rc (st : S8) (a b c d : Int) : (st.wrd a b c d).rc = st.rc := by unfold S8.wrd; split <;> rfl
theorem S8.wrd_runs (st : S8) (a b c d : Int) : (st.wrd a b c d).runs = st.runs := by unfold S8.wrd; split <;> rfl
theorem S8.wrd_me (st : S8) (a b c d : Int) : (st.wrd a b c d).me = st.me := by unfold S8.wrd; split <;> rfl
theorem S8.wrd_h (st : S8) (a b c d : Int) : (st.wrd a b c d).h = st.h := by unfold S8.wrd; split <;> rfl
theorem S8.wrd_d (st : S8) (a b c d : Int) : (st.wrd a b c d).d = st.d := by unfold S8.wrd; split <;> rfl
theorem S8.wr_p (st : S8) (a x : Int) : (st.wr a x).p = st.p := by unfold S8.wr; split <;> rfl
theorem S8.wr_s (st : S8) (a x : Int) : (st.wr a x).s = st.s := by unfold S8.wr; split <;> rfl
theorem S8.wr_l (st : S8) (a x : Int) : (st.wr a x).l = st.l := by unfold S8.wr; split <;> rfl
theorem S8.wr_c (st : S8) (a x : Int) : (st.wr a x).c = st.c := by unfold S8.wr; split <;> rfl
theorem S8.wr_k (st : S8) (a x : Int) : (st.wr a x).k = st.k := by unfold S8.wr; split <;> rfl
theorem S8.wr_g (st : S8) (a x : Int) : (st.wr a x).g = st.g := by unfold S8.wr; split <;> rfl
theorem S8.wr_n (st : S8) (a x : Int) : (st.wr a x).n = st.n := by unfold S8.wr; split <;> rfl
theorem S8.wr_cc (st : S8) (a x : Int) : (st.wr a x).cc = st.cc := by unfold S8.wr; split <;> rfl
theorem S8.wr_ra (st : S8) (a x : Int) : (st.wr a x).ra = st.ra := by unfold S8.wr; split <;> rfl
theorem S8.wr_rc (st : S8) (a x : Int) : (st.wr a x).rc = st.rc := by unfold S8.wr; split <;> rfl
theorem S8.wr_runs (st : S8) (a x : Int) : (st.wr a x).runs = st.runs := by unfold S8.wr; split <;> rfl
theorem S8.wr_me (st : S8) (a x : Int) : (st.wr a x).me = st.me := by unfold S8.wr; split <;> rfl
theorem S8.wr_h (st : S8) (a x : Int) : (st.wr a x).h = st.h := by unfold S8.wr; split <;> rfl
theorem S8.wr_d (st : S8) (a x : Int) : (st.wr a x).d = st.d := by unfold S8.wr; split <;> rfl
theorem S8.rdS_ar (st : S8) (a : Int) : (st.rdS a).ar = st.ar := by unfold S8.rdS; split <;> rfl
theorem S8.rdS_at_ (st : S8) (a : Int) : (st.rdS a).at_ = st.at_ := by unfold S8.rdS; split <;> rfl
theorem S8.rdS_was (st : S8) (a : Int) : (st.rdS a).was = st.was := by unfold S8.rdS; split <;> rfl
theorem S8.rdS_turn (st : S8) (a : Int) : (st.rdS a).turn = st.turn := by unfold S8.rdS; split <;> rfl
theorem S8.wrd_ar (st : S8) (a b c d : Int) : (st.wrd a b c d).ar = st.ar := by unfold S8.wrd; split <;> rfl
theorem S8.wrd_at_ (st : S8) (a b c d : Int) : (st.wrd a b c d).at_ = st.at_ := by unfold S8.wrd; split <;> rfl
theorem S8.wrd_was (st : S8) (a b c d : Int) : (st.wrd a b c d).was = st.was := by unfold S8.wrd; split <;> rfl
theorem S8.wrd_turn (st : S8) (a b c d : Int) : (st.wrd a b c d).turn = st.turn := by unfold S8.wrd; split <;> rfl
set_option maxHeartbeats 1000000 in
theorem sl8Swap (b : Nat) (st : S8) (a y x : Int) (w : World) (S : SAt w b st) (hn : st.n ≤ 16777216) (hx : 0 ≤ x ∧ x ≤ 18446744073709551615) :
    Calls Tryz.prog 70 #[.pointer (some ⟨b, 0, none⟩), .int .i64 a, .int .u64 y, .int .u64 x] w fun e w' => e = .returned (.bool (st.swp a y x).1) ∧ SAt w' b (st.swp a y x).2 ∧ K2 b st.g w w' := by
  have hn1 : (st.rdS a).n ≤ 16777216 := by rw [S8.rdS_n]; exact hn
  obtain ⟨v, hv⟩ : ∃ v : Int, Hid (st.rd a = v) := ⟨_, rfl⟩
  obtain ⟨s1, hs⟩ : ∃ s1 : S8, Hid (st.rdS a = s1) := ⟨_, rfl⟩
  have hg : s1.g = st.g := by rw [← hs.out, S8.rdS_g]
  rw [hs.out] at hn1
  cases hok : s1.ok
  · have e : st.swp a y x = (false, s1) := by unfold S8.swp; rw [hs.out, if_pos (.inr hok)]
    rw [e]
    by_cases hvy : v = y
    all_goals
      go_enter Tryz.func70, Tryz.ntmps70
      go_wp2_with (go_at_call 31; refine (sl8Read b st _ _ S hn).mono ?_; rintro e w1 ⟨rfl, S1, k1, -⟩; rw [hv.out]; rw [hs.out] at S1; have c50 := S1.c_ok; rw [hok] at c50)
      go_ret
      exact ⟨rfl, S1, k1⟩
  · by_cases hvy : v = y
    · subst hvy
      have e : st.swp a v x = (true, s1.wr a x) := by unfold S8.swp; rw [hs.out, hv.out, if_neg (by rw [hok]; simp)]
      rw [e]
      go_enter Tryz.func70, Tryz.ntmps70
      go_wp2_with (first
        | (go_at_call 31; refine (sl8Read b st _ _ S hn).mono ?_; rintro e w1 ⟨rfl, S1, k1, -⟩; rw [hv.out]; rw [hs.out] at S1; have c50 := S1.c_ok; rw [hok] at c50)
        | (go_at_call 33; refine (sl8Write b s1 _ _ _ S1 hn1 hx).mono ?_; rintro e w2 ⟨rfl, S2, k2⟩; rw [hg] at k2))
      go_ret
      exact ⟨rfl, S2, k1.trans k2⟩
    · have e : st.swp a y x = (false, s1) := by unfold S8.swp; rw [hs.out, hv.out, if_pos (.inl hvy)]
      rw [e]
      go_enter Tryz.func70, Tryz.ntmps70
      go_wp2_with (go_at_call 31; refine (sl8Read b st _ _ S hn).mono ?_; rintro e w1 ⟨rfl, S1, k1, -⟩; rw [hv.out]; rw [hs.out] at S1)
      go_ret
      exact ⟨rfl, S1, k1⟩
def w64 (x : Int) : Int := wrap64 x
def S8.intend (st : S8) (kind block : Int) : S8 :=
  ((st.u_Last (w64 (st.h.last + 1))).wrd kind 0 block (w64 (st.h.last + 1))).wr (st.slot 2) (wv kind 0 block (w64 (st.h.last + 1)))
end Go.Proofs.YtgmoemjiffglbaaGreat
namespace Go.Proofs.YtgmoemjiffglbaaGreat
open Go.RowKit
set_option maxRecDepth 100000
set_option linter.unusedVariables false
theorem S8.hand_at (st : S8) : ∀ j v, st.h.vs[j]? = some v → st.vs.toArray[8 + j]? = some v := fun j v hv =>
  sub_at [.int .i64 st.p, .int .i64 st.s, .int .i64 st.l, .int .i64 st.c, .int .i64 st.k, .slice (some ⟨st.g, 0, none⟩) st.n st.cc, .slice st.ra st.runs.length st.rc, .int .i64 st.me] st.h.vs (st.d.vs ++ [.bool st.ok, .int .i64 st.at_, .int .u64 st.was, .bool st.turn]) j v hv
theorem SAt.deed {w : World} {b : Nat} {st : S8} (S : SAt w b st) (d : Dd) : SAt (w.setCells b 44 d.vs) b { st with d := d } :=
  (((((S.s_d_Kind d.kind).s_d_Slot d.slot).s_d_Number d.number).s_d_Item d.item).s_d_Value d.value).s_d_Clock d.clock
theorem K2.sets {b g : Nat} {a : World} : ∀ (vs : List Value) (o : Nat) (w : World), K2 b g a w → K2 b g a (w.setCells b o vs)
  | [], _, _, h => h
  | v :: r, o, w, h => by rw [World.setCells]; exact K2.sets r (o + 1) _ (h.set o v)
theorem K2.of_kept {b g r : Nat} {a w w' : World} (h : K2 b g a w) (kk : Kept r w w') (hr : a.heap.size ≤ r) : K2 b g a w' :=
  ⟨kk.os.trans h.os, kk.tape.trans h.tape, kk.output.trans h.output, Nat.le_trans h.size kk.size, fun k hk hb hg => (kk.block k (Nat.lt_of_lt_of_le hk h.size) (by omega)).trans (h.block k hk hb hg)⟩
theorem storeD {ops : Array Oper} {rest : List Oper} {op : Oper} {a : Act} {w : World} {Q : Exit → Act → World → Prop} (hgd : op.guard = none) (x y : Operand) (ho : op.op = .store 30 x y)
    (b : Nat) (st : S8) (d : Dd) (hx : a.eval x = .pointer (some ⟨b, 44, none⟩)) (hy : a.eval y = .agg d.vs.toArray) (S : SAt w b st)
    (h : ∀ w', SAt w' b { st with d := d } → (∀ g a0, K2 b g a0 w → K2 b g a0 w') → wpList Tryz.prog ops Q rest (a.put op.dst undef) w') : wpList Tryz.prog ops Q (op :: rest) a w :=
  wpList_store_mid hgd 30 x y ho b 44 d.vs.toArray hx hy (S.is.there 44 6 (by show 50 ≤ 54; omega)) (by kernel_rfl) (all_oneCell_toArray d.one) (h _ (S.deed d) (fun g a0 hk => K2.sets d.vs 44 w hk))

end Go.Proofs.YtgmoemjiffglbaaGreat
