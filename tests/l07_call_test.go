package tests

import (
	"fmt"
	"math"
	"slices"
	"testing"

	"loop.example/g00650/impl"
)

// The numbers are written out here, so that a changed constant is seen.
const (
	topTag = 1000000

	atOpen = 1
	atSlot = 52

	opStart = 1
	opAdopt = 13

	codeOk       = 0
	codeDown     = 1
	codeBusy     = 2
	codeStranger = 3
	codeUnfit    = 4
	codeSpent    = 5
	codeWrong    = 6
)

// callTable is the document's table, word for word.
var callTable = []struct {
	code   int64
	name   string
	places [3]string
	args   int64
}{
	{1, "start", [3]string{"", "", ""}, 0},
	{2, "alloc", [3]string{"0 or 1", "", ""}, 1},
	{3, "free", [3]string{"block", "", ""}, 1},
	{4, "write", [3]string{"block", "which value", "value"}, 3},
	{5, "load", [3]string{"block", "which value", ""}, 2},
	{6, "push", [3]string{"", "value", ""}, 1},
	{7, "pop", [3]string{"", "", ""}, 0},
	{8, "enq", [3]string{"", "value", ""}, 1},
	{9, "deq", [3]string{"", "", ""}, 0},
	{10, "cas", [3]string{"cell", "old", "new"}, 3},
	{11, "see", [3]string{"cell", "", ""}, 1},
	{12, "scan", [3]string{"", "", ""}, 0},
	{13, "adopt", [3]string{"slot", "", ""}, 1},
	{14, "ask", [3]string{"slot", "number", ""}, 2},
}

// notCodes are out of range of the table; some of them would look right if only low bits were taken.
var notCodes = slices.Concat([]int64{-1, 0, 15, 16, 17, -7, -14, 255, 256, 257, 263, 1<<16 | 7, 1<<32 | 1, 1<<32 | 7, 1<<63 - 249}, farOut, nowhere)

// order is what is asked of a process.
type order struct {
	code int64
	args [3]int64
}

func placeEnds(p impl.Plan, word string, block int64) (least, most int64) {
	switch word {
	case "":
		return 0, 0
	case "0 or 1":
		return 0, 1
	case "block":
		return 1, p.Small + p.Large
	case "which value":
		if block > p.Small {
			return 0, 2
		}
		return 0, 0
	case "value", "old", "new":
		return 0, topIndex
	case "cell":
		return 0, p.Cells - 1
	case "slot":
		return 0, p.Procs - 1
	case "number":
		return 1, topSeq
	}
	panic("no such place: " + word)
}

// fitsTable is of a right Plan and a slot that there is.
func fitsTable(p impl.Plan, slot int64, o order) bool {
	for _, row := range callTable {
		if row.code != o.code {
			continue
		}
		for i, word := range row.places {
			if least, most := placeEnds(p, word, o.args[0]); o.args[i] < least || o.args[i] > most {
				return false
			}
		}
		return o.code != opAdopt || o.args[0] != slot
	}
	return false
}

func wantFits(t *testing.T, what string, p impl.Plan, slot int64, o order, want bool) {
	t.Helper()
	for range 2 {
		if got := impl.CallFits(p, slot, o.code, o.args[0], o.args[1], o.args[2]); got != want {
			t.Fatalf("%s: CallFits(%+v, %d, %+v) is %v", what, p, slot, o, got)
		}
	}
}

// someNumbers are the ends of every place of a plan, what is around them, and what is far out.
func someNumbers(p impl.Plan) []int64 {
	var all []int64
	for _, end := range []int64{0, 1, 2, p.Procs - 1, p.Small, p.Small + p.Large, p.Cells - 1, topIndex, topSeq} {
		all = append(all, end-1, end, end+1)
	}
	all = slices.Concat(all, []int64{256, 257, 65536 + 256, 1<<32 | 1, 1<<33 | 2}, farOut)
	slices.Sort(all)
	return slices.Compact(all)
}

func someSlots(p impl.Plan) []int64 {
	return slices.Compact([]int64{0, p.Procs / 2, p.Procs - 1})
}

// eachFitting gives, of each code, calls that fit: each place in turn at its ends, the others at their first number and at their last one.
func eachFitting(p impl.Plan, slot int64, f func(o order)) {
	for _, row := range callTable {
		var firsts []int64
		least, most := placeEnds(p, row.places[0], 0)
		for _, a := range []int64{least, least + 1, p.Small, p.Small + 1, most - 1, most} {
			if a >= least && a <= most && (row.code != opAdopt || a != slot) {
				firsts = append(firsts, a)
			}
		}
		slices.Sort(firsts)
		for _, a := range slices.Compact(firsts) {
			leastB, mostB := placeEnds(p, row.places[1], a)
			leastC, mostC := placeEnds(p, row.places[2], a)
			for _, b := range slices.Compact([]int64{leastB, (leastB + mostB) / 2, mostB}) {
				for _, c := range slices.Compact([]int64{leastC, (leastC + mostC) / 2, mostC}) {
					f(order{row.code, [3]int64{a, b, c}})
				}
			}
		}
	}
}

// eachUnfit gives, of each code, calls in which just one place is wrong, and calls of no code at all.
func eachUnfit(p impl.Plan, slot int64, f func(o order)) {
	eachFitting(p, slot, func(o order) {
		row := callTable[o.code-1]
		for i, word := range row.places {
			least, most := placeEnds(p, word, o.args[0])
			for _, n := range []int64{least - 1, most + 1, math.MinInt64, math.MaxInt64} {
				wrong := o
				wrong.args[i] = n
				f(wrong)
			}
		}
	})
	f(order{opAdopt, [3]int64{slot, 0, 0}})
	for _, code := range notCodes {
		f(order{code, [3]int64{0, 0, 0}})
		f(order{code, [3]int64{1, 0, 0}})
		f(order{code, [3]int64{0, 1, 0}})
	}
}

func TestCallConstants(t *testing.T) {
	for i, c := range [][2]int64{
		{impl.MaxTag, topTag},
		{impl.OpNone, 0}, {impl.OpStart, 1}, {impl.OpAlloc, 2}, {impl.OpFree, 3}, {impl.OpWrite, 4}, {impl.OpLoad, 5}, {impl.OpPush, 6}, {impl.OpPop, 7},
		{impl.OpEnq, 8}, {impl.OpDeq, 9}, {impl.OpCas, 10}, {impl.OpSee, 11}, {impl.OpScan, 12}, {impl.OpAdopt, 13}, {impl.OpAsk, 14},
		{impl.CdOk, 0}, {impl.CdDown, 1}, {impl.CdBusy, 2}, {impl.CdStranger, 3}, {impl.CdUnfit, 4}, {impl.CdSpent, 5}, {impl.CdWrong, 6},
		{impl.AtOpen, atOpen}, {impl.AtSlot, atSlot},
	} {
		if c[0] != c[1] {
			t.Errorf("constant %d is %d, not %d", i, c[0], c[1])
		}
	}
}

func wantNamed(t *testing.T, code int64, name string, args int64) {
	t.Helper()
	for range 2 {
		if got := impl.OpName(code); got != name {
			t.Errorf("OpName(%d) is %q, not %q", code, got, name)
		}
		if got := impl.ArgsOf(code); got != args {
			t.Errorf("ArgsOf(%d) is %d, not %d", code, got, args)
		}
	}
}

func TestNamesAndArgs(t *testing.T) {
	for i, row := range callTable {
		if row.code != int64(i)+1 {
			t.Fatalf("row %d is of code %d", i, row.code)
		}
		wantNamed(t, row.code, row.name, row.args)
	}
	for code := int64(-400); code <= 400; code++ {
		if code < 1 || code > 14 {
			wantNamed(t, code, "", -1)
		}
	}
	for _, code := range notCodes {
		wantNamed(t, code, "", -1)
	}
}

// What was counted by hand: three slots, blocks 1 to 5 small ones, 6 and 7 large ones, two cells.
func TestCallsOfTheUsualPlan(t *testing.T) {
	for _, c := range []struct {
		slot, code, a, b, c int64
		want                bool
	}{
		{0, impl.OpStart, 0, 0, 0, true}, {2, impl.OpStart, 0, 0, 0, true}, {0, impl.OpStart, 1, 0, 0, false}, {0, impl.OpStart, 0, 1, 0, false}, {0, impl.OpStart, 0, 0, 1, false},
		{0, impl.OpAlloc, 0, 0, 0, true}, {0, impl.OpAlloc, 1, 0, 0, true}, {0, impl.OpAlloc, 2, 0, 0, false}, {0, impl.OpAlloc, -1, 0, 0, false}, {0, impl.OpAlloc, 1, 1, 0, false},
		{0, impl.OpFree, 0, 0, 0, false}, {0, impl.OpFree, 1, 0, 0, true}, {0, impl.OpFree, 5, 0, 0, true}, {0, impl.OpFree, 6, 0, 0, true}, {0, impl.OpFree, 7, 0, 0, true},
		{0, impl.OpFree, 8, 0, 0, false}, {0, impl.OpFree, 6, 1, 0, false}, {0, impl.OpFree, 6, 0, 1, false},
		{1, impl.OpWrite, 5, 0, 0, true}, {1, impl.OpWrite, 5, 1, 0, false}, {1, impl.OpWrite, 6, 0, 0, true}, {1, impl.OpWrite, 6, 1, 0, true}, {1, impl.OpWrite, 6, 2, 0, true},
		{1, impl.OpWrite, 6, 3, 0, false}, {1, impl.OpWrite, 6, -1, 0, false}, {1, impl.OpWrite, 7, 2, 65535, true}, {1, impl.OpWrite, 7, 2, 65536, false}, {1, impl.OpWrite, 7, 2, -1, false},
		{1, impl.OpWrite, 0, 0, 0, false}, {1, impl.OpWrite, 8, 0, 0, false},
		{1, impl.OpLoad, 1, 0, 0, true}, {1, impl.OpLoad, 1, 1, 0, false}, {1, impl.OpLoad, 7, 2, 0, true}, {1, impl.OpLoad, 7, 3, 0, false}, {1, impl.OpLoad, 7, 2, 1, false}, {1, impl.OpLoad, 8, 0, 0, false},
		{2, impl.OpPush, 0, 0, 0, true}, {2, impl.OpPush, 0, 65535, 0, true}, {2, impl.OpPush, 0, 65536, 0, false}, {2, impl.OpPush, 0, -1, 0, false}, {2, impl.OpPush, 1, 5, 0, false}, {2, impl.OpPush, 0, 5, 1, false},
		{2, impl.OpPop, 0, 0, 0, true}, {2, impl.OpPop, 1, 0, 0, false}, {2, impl.OpPop, 0, 1, 0, false}, {2, impl.OpPop, 0, 0, 1, false},
		{0, impl.OpEnq, 0, 0, 0, true}, {0, impl.OpEnq, 0, 65535, 0, true}, {0, impl.OpEnq, 0, 65536, 0, false}, {0, impl.OpEnq, 0, -1, 0, false}, {0, impl.OpEnq, 1, 5, 0, false}, {0, impl.OpEnq, 0, 5, 1, false},
		{0, impl.OpDeq, 0, 0, 0, true}, {0, impl.OpDeq, 1, 0, 0, false}, {0, impl.OpDeq, 0, 1, 0, false}, {0, impl.OpDeq, 0, 0, 1, false},
		{1, impl.OpCas, 0, 0, 0, true}, {1, impl.OpCas, 1, 65535, 65535, true}, {1, impl.OpCas, 2, 0, 0, false}, {1, impl.OpCas, -1, 0, 0, false}, {1, impl.OpCas, 1, 65536, 0, false},
		{1, impl.OpCas, 1, 0, 65536, false}, {1, impl.OpCas, 1, -1, 0, false}, {1, impl.OpCas, 1, 0, -1, false},
		{1, impl.OpSee, 0, 0, 0, true}, {1, impl.OpSee, 1, 0, 0, true}, {1, impl.OpSee, 2, 0, 0, false}, {1, impl.OpSee, 1, 1, 0, false}, {1, impl.OpSee, 1, 0, 1, false},
		{1, impl.OpScan, 0, 0, 0, true}, {1, impl.OpScan, 1, 0, 0, false}, {1, impl.OpScan, 0, 1, 0, false}, {1, impl.OpScan, 0, 0, 1, false},
		{0, impl.OpAdopt, 0, 0, 0, false}, {0, impl.OpAdopt, 1, 0, 0, true}, {0, impl.OpAdopt, 2, 0, 0, true}, {0, impl.OpAdopt, 3, 0, 0, false}, {2, impl.OpAdopt, 2, 0, 0, false},
		{2, impl.OpAdopt, 0, 0, 0, true}, {2, impl.OpAdopt, -1, 0, 0, false}, {0, impl.OpAdopt, 1, 1, 0, false}, {0, impl.OpAdopt, 1, 0, 1, false},
		{0, impl.OpAsk, 0, 1, 0, true}, {0, impl.OpAsk, 2, 4294967295, 0, true}, {0, impl.OpAsk, 2, 4294967296, 0, false}, {0, impl.OpAsk, 2, 0, 0, false}, {0, impl.OpAsk, 2, -1, 0, false},
		{2, impl.OpAsk, 2, 9, 0, true}, {0, impl.OpAsk, 3, 9, 0, false}, {0, impl.OpAsk, -1, 9, 0, false}, {0, impl.OpAsk, 1, 9, 1, false},
		{0, impl.OpNone, 0, 0, 0, false}, {0, 15, 0, 0, 0, false}, {0, -1, 0, 0, 0, false},
	} {
		o := order{c.code, [3]int64{c.a, c.b, c.c}}
		wantFits(t, "by hand", usualPlan, c.slot, o, c.want)
		if fitsTable(usualPlan, c.slot, o) != c.want {
			t.Errorf("the table tells otherwise of %+v by slot %d", o, c.slot)
		}
	}
}

// A class is no block: a large one may be asked for where there is none.
func TestALargeBlockMayBeAskedForWhereThereIsNone(t *testing.T) {
	for _, p := range []impl.Plan{leastPlan, noLarge} {
		wantFits(t, "a large one", p, 0, order{impl.OpAlloc, [3]int64{1, 0, 0}}, true)
		wantFits(t, "one of no class", p, 0, order{impl.OpAlloc, [3]int64{2, 0, 0}}, false)
	}
}

// Where there is one slot, there is none to adopt.
func TestNobodyIsAdoptedByItself(t *testing.T) {
	eachRightPlan(func(p impl.Plan) {
		for slot := range p.Procs {
			wantFits(t, "itself", p, slot, order{opAdopt, [3]int64{slot, 0, 0}}, false)
			wantFits(t, "itself", p, slot, order{impl.OpAsk, [3]int64{slot, 1, 0}}, true)
			for _, of := range []int64{0, slot - 1, slot + 1, p.Procs - 1, p.Procs} {
				wantFits(t, "another one", p, slot, order{opAdopt, [3]int64{of, 0, 0}}, of >= 0 && of < p.Procs && of != slot)
			}
		}
	})
}

func TestCallsAtTheEndsOfTheirPlaces(t *testing.T) {
	met := map[int64]int{}
	for _, p := range somePlans {
		for _, slot := range someSlots(p) {
			eachFitting(p, slot, func(o order) {
				met[o.code]++
				wantFits(t, "at its ends", p, slot, o, true)
			})
			eachUnfit(p, slot, func(o order) { wantFits(t, "one place off", p, slot, o, false) })
		}
	}
	for _, row := range callTable {
		if met[row.code] == 0 {
			t.Errorf("no call of %s was made", row.name)
		}
	}
}

// One place at a time is any number, the others fit.
func TestPlacesOneAtATime(t *testing.T) {
	for _, p := range somePlans {
		numbers := someNumbers(p)
		for _, slot := range someSlots(p) {
			eachFitting(p, slot, func(o order) {
				for i := range o.args {
					for _, n := range numbers {
						one := o
						one.args[i] = n
						wantFits(t, fmt.Sprint("place ", i), p, slot, one, fitsTable(p, slot, one))
					}
				}
			})
		}
	}
}

// Any numbers together, right ones and wrong ones, of every code.
func TestPlacesTogether(t *testing.T) {
	for _, p := range []impl.Plan{leastPlan, usualPlan, noLarge} {
		numbers := []int64{-1, 0, 1, 2, 3, 4, 5, 6, 7, 8, 9, 10, topIndex, topIndex + 1, topSeq, topSeq + 1}
		for slot := range p.Procs {
			for code := int64(-1); code <= 16; code++ {
				for _, a := range numbers {
					for _, b := range numbers {
						for _, c := range numbers {
							o := order{code, [3]int64{a, b, c}}
							wantFits(t, "together", p, slot, o, fitsTable(p, slot, o))
						}
					}
				}
			}
		}
	}
}

// Each block of each plan has its values and no more.
func TestWhichValuesEachBlockHas(t *testing.T) {
	for _, p := range somePlans {
		for block := int64(-1); block <= p.Small+p.Large+2; block++ {
			for which := int64(-2); which <= 5; which++ {
				values := int64(0)
				switch {
				case block >= 1 && block <= p.Small:
					values = 1
				case block > p.Small && block <= p.Small+p.Large:
					values = 3
				}
				want := which >= 0 && which < values
				wantFits(t, "write", p, 0, order{impl.OpWrite, [3]int64{block, which, 7}}, want)
				wantFits(t, "load", p, 0, order{impl.OpLoad, [3]int64{block, which, 0}}, want)
			}
		}
	}
}

func TestNoSuchCode(t *testing.T) {
	for _, p := range usualPlans {
		for _, code := range notCodes {
			for _, a := range []int64{-1, 0, 1, 2} {
				for _, b := range []int64{-1, 0, 1, 2} {
					for _, c := range []int64{-1, 0, 1} {
						wantFits(t, "no such code", p, 0, order{code, [3]int64{a, b, c}}, false)
					}
				}
			}
		}
	}
}

func TestNothingFitsWhatIsNoSlot(t *testing.T) {
	for _, p := range somePlans {
		for _, slot := range append([]int64{-1, p.Procs, p.Procs + 1, -p.Procs}, nowhere...) {
			eachFitting(p, slot, func(o order) { wantFits(t, "no such slot", p, slot, o, false) })
		}
	}
}

func TestNothingFitsWrongPlans(t *testing.T) {
	eachWrongPlan(func(name string, p impl.Plan) {
		for _, slot := range []int64{-1, 0, 1, p.Procs - 1, p.Procs} {
			for _, right := range usualPlans {
				eachFitting(right, slot, func(o order) { wantFits(t, name, p, slot, o, false) })
			}
		}
	})
}

func wantCalled(t *testing.T, what string, p impl.Plan, slot int64, h impl.Hand, o order, want impl.Hand, code int64) {
	t.Helper()
	was, of := h, p
	for range 2 {
		got, k := impl.Called(p, slot, h, o.code, o.args[0], o.args[1], o.args[2])
		if k != code || got != want {
			t.Fatalf("%s: Called(%+v, %d, %+v, %+v) is %+v, %d, not %+v, %d", what, p, slot, h, o, got, k, want, code)
		}
	}
	if h != was || p != of {
		t.Fatalf("%s: Called changed its arguments", what)
	}
}

// begunHand is what a call that is taken leaves of a hand, and what it sets.
func begunHand(h impl.Hand, slot int64, o order) impl.Hand {
	begun := impl.Hand{
		Up: true, In: h.In, Life: h.Life, Last: h.Last, Kept: h.Kept,
		Code: o.code, A: o.args[0], B: o.args[1], C: o.args[2], For: slot, At: atOpen,
	}
	if o.code == opStart {
		begun.At, begun.Kept = atSlot, 0
	}
	return begun
}

// codesOf are all that can be told of a call, the one that is told first; right: is the Plan, the slot and the hand as it must be?
func codesOf(p impl.Plan, slot int64, h impl.Hand, o order, right bool) []int64 {
	var codes []int64
	for _, c := range []struct {
		code int64
		is   bool
	}{
		{codeWrong, !right},
		{codeDown, !h.Up},
		{codeBusy, h.At != 0},
		{codeStranger, !h.In && o.code != opStart || h.In && o.code == opStart},
		{codeUnfit, !fitsTable(p, slot, o)},
		{codeSpent, h.Last > topTag},
	} {
		if c.is {
			codes = append(codes, c.code)
		}
	}
	return append(codes, codeOk)
}

// wantByRule holds Called against codesOf, of a right Plan, a slot that there is and a right hand.
func wantByRule(t *testing.T, what string, p impl.Plan, slot int64, h impl.Hand, o order) int64 {
	t.Helper()
	code := codesOf(p, slot, h, o, true)[0]
	want := h
	if code == codeOk {
		want = begunHand(h, slot, o)
		wantHand(t, what+", begun", p, want, true)
	}
	wantCalled(t, what, p, slot, h, o, want, code)
	return code
}

// mayBeCalled is at rest, and full of what an earlier call left: only an OpStart asks for one that is not In.
func mayBeCalled(p impl.Plan, seed uint64, code int64) impl.Hand {
	h := mixedRightHand(p, seed)
	h.At, h.In, h.Last = 0, code != opStart, int64(seed*seed%(topTag+1))
	return h
}

// Promise 7, its other side: what fits is called, by who may be called, and nothing of an earlier call is left.
func TestWhatFitsIsCalled(t *testing.T) {
	for _, p := range somePlans {
		for _, slot := range someSlots(p) {
			seed := uint64(slot)
			eachFitting(p, slot, func(o order) {
				seed++
				h := mayBeCalled(p, seed, o.code)
				if k := wantByRule(t, "fits", p, slot, h, o); k != codeOk {
					t.Fatalf("the rule tells %d of %+v", k, o)
				}
				full := fullHand(p)
				full.At, full.In, full.Last = 0, o.code != opStart, topTag
				wantByRule(t, "fits, full", p, slot, full, o)
				least := impl.Hand{Up: true, In: o.code != opStart, Life: 1}
				wantByRule(t, "fits, fresh", p, slot, least, o)
			})
		}
	}
}

// Promise 7: what does not fit leaves the hand as it is, whatever it knows.
func TestWhatDoesNotFitIsNotCalled(t *testing.T) {
	for _, p := range somePlans {
		for _, slot := range someSlots(p) {
			seed := uint64(slot)
			eachUnfit(p, slot, func(o order) {
				seed++
				h := mayBeCalled(p, seed, o.code)
				wantCalled(t, "does not fit", p, slot, h, o, h, codeUnfit)
				h.Last = topTag + 1 + int64(seed)
				wantCalled(t, "does not fit, spent", p, slot, h, o, h, codeUnfit)
				down := impl.Hand{Life: h.Life}
				wantCalled(t, "does not fit, down", p, slot, down, o, down, codeDown)
			})
		}
	}
}

// Every number that is not taken for a place is not called with, and the others are.
func TestCalledAsCallFits(t *testing.T) {
	for _, p := range []impl.Plan{leastPlan, usualPlan, noLarge} {
		numbers := []int64{-1, 0, 1, 2, 3, 5, 6, 7, 8, topIndex, topIndex + 1, topSeq, topSeq + 1}
		for slot := range p.Procs {
			for code := int64(-1); code <= 16; code++ {
				h := mayBeCalled(p, uint64(code+2), code)
				for _, a := range numbers {
					for _, b := range numbers {
						for _, c := range numbers {
							wantByRule(t, "as CallFits", p, slot, h, order{code, [3]int64{a, b, c}})
						}
					}
				}
			}
		}
	}
}

// What one call leaves of a hand that is full, field by field.
func TestWhatACallLeavesOfAHand(t *testing.T) {
	p := usualPlan
	h := impl.Hand{
		Up: true, In: true, Sure: true, Known: true, Life: 3, Code: 4, A: 5, B: 6, C: 7, Number: 8, For: 2, Last: 9, Mine: 10, Addr: 11, Seen: 12, Put: 13,
		Good: 14, Bad: 15, Does: 6, Block: 17, From: 18, Next: 19, Value: 20, Index: 8, Which: 5, Kept: 21, WasCode: 22, WasItem: 23, WasNumber: 24, WasKind: 25,
		WasTag: 26, Reply: 27, Out: 28, Mark: 29, Begin: 30,
	}
	wantCalled(t, "write", p, 1, h, order{impl.OpWrite, [3]int64{7, 2, 600}},
		impl.Hand{Up: true, In: true, Life: 3, At: 1, Code: 4, A: 7, B: 2, C: 600, For: 1, Last: 9, Kept: 21}, codeOk)
	wantCalled(t, "push", p, 0, h, order{impl.OpPush, [3]int64{0, 65535, 0}},
		impl.Hand{Up: true, In: true, Life: 3, At: 1, Code: 6, B: 65535, Last: 9, Kept: 21}, codeOk)
	wantCalled(t, "pop", p, 2, h, order{impl.OpPop, [3]int64{}},
		impl.Hand{Up: true, In: true, Life: 3, At: 1, Code: 7, For: 2, Last: 9, Kept: 21}, codeOk)
	wantCalled(t, "scan", p, 2, h, order{impl.OpScan, [3]int64{}},
		impl.Hand{Up: true, In: true, Life: 3, At: 1, Code: 12, For: 2, Last: 9, Kept: 21}, codeOk)
	wantCalled(t, "adopt", p, 2, h, order{impl.OpAdopt, [3]int64{1, 0, 0}},
		impl.Hand{Up: true, In: true, Life: 3, At: 1, Code: 13, A: 1, For: 2, Last: 9, Kept: 21}, codeOk)
	wantCalled(t, "ask", p, 1, h, order{impl.OpAsk, [3]int64{1, 4294967295, 0}},
		impl.Hand{Up: true, In: true, Life: 3, At: 1, Code: 14, A: 1, B: 4294967295, For: 1, Last: 9, Kept: 21}, codeOk)
	h.In = false
	wantCalled(t, "start", p, 1, h, order{impl.OpStart, [3]int64{}},
		impl.Hand{Up: true, Life: 3, At: 52, Code: 1, For: 1, Last: 9}, codeOk)
}

func TestWhoMayStart(t *testing.T) {
	for _, p := range somePlans {
		for _, slot := range someSlots(p) {
			for _, kept := range []int64{0, 1, 2, p.Keep, p.Keep + 1, topIndex} {
				start := order{opStart, [3]int64{}}
				out := impl.Hand{Up: true, Life: 2, Last: 5, Kept: kept}
				wantCalled(t, "not In", p, slot, out, start, impl.Hand{Up: true, Life: 2, Last: 5, Code: 1, For: slot, At: atSlot}, codeOk)
				in := out
				in.In = true
				wantCalled(t, "In", p, slot, in, start, in, codeStranger)
				eachFitting(p, slot, func(o order) {
					if o.code != opStart {
						wantCalled(t, "not In", p, slot, out, o, out, codeStranger)
						wantCalled(t, "In", p, slot, in, o, begunHand(in, slot, o), codeOk)
						if begunHand(in, slot, o).Kept != kept {
							t.Fatal("Kept is lost")
						}
					}
				})
			}
		}
	}
}

// A code that is none is no OpStart: who is not In is a stranger to it, and to who is In it does not fit.
func TestWhoIsAStrangerToNoCode(t *testing.T) {
	for _, p := range usualPlans {
		for _, code := range notCodes {
			o := order{code, [3]int64{}}
			out := impl.Hand{Up: true, Life: 1, Kept: 3}
			wantCalled(t, "not In", p, 0, out, o, out, codeStranger)
			in := impl.Hand{Up: true, In: true, Life: 1, Kept: 3}
			wantCalled(t, "In", p, 0, in, o, in, codeUnfit)
		}
	}
}

func TestWhoIsSpent(t *testing.T) {
	for _, p := range somePlans {
		for _, slot := range someSlots(p) {
			eachFitting(p, slot, func(o order) {
				for last, want := range map[int64]int64{
					0: codeOk, 1: codeOk, topTag - 1: codeOk, topTag: codeOk, topTag + 1: codeSpent, topTag + 2: codeSpent, topSeq - 1: codeSpent, topSeq: codeSpent,
				} {
					h := impl.Hand{Up: true, In: o.code != opStart, Life: 4, Last: last, Kept: 1, Out: 6, Mine: topTag + 1}
					if k := wantByRule(t, "last", p, slot, h, o); k != want {
						t.Fatalf("Last %d: %d, not %d", last, k, want)
					}
				}
			})
		}
	}
}

// Wherever it is but at rest, it is busy, whatever else could be told; nothing else makes it busy.
func TestWhoIsBusy(t *testing.T) {
	for _, p := range usualPlans {
		for at := int64(1); at <= topAt; at++ {
			for _, in := range []bool{false, true} {
				for _, last := range []int64{0, topTag + 1} {
					h := impl.Hand{Up: true, In: in, Life: 1, Last: last, At: at}
					for code := int64(-1); code <= 15; code++ {
						wantCalled(t, "busy", p, 0, h, order{code, [3]int64{}}, h, codeBusy)
						wantCalled(t, "busy", p, 0, h, order{code, [3]int64{1, 1, 0}}, h, codeBusy)
					}
				}
			}
		}
		for _, f := range handNumbers {
			if slices.Contains([]string{"At", "Last"}, f.name) {
				continue
			}
			h := withNumber(impl.Hand{Up: true, In: true, Life: 1}, f.name, f.most(p))
			if k := wantByRule(t, f.name, p, 0, h, order{impl.OpPop, [3]int64{}}); k != codeOk {
				t.Fatalf("%s: %d", f.name, k)
			}
		}
	}
}

func TestWhoIsDown(t *testing.T) {
	for _, p := range somePlans {
		for _, slot := range someSlots(p) {
			for _, life := range []int64{0, 1, 9, topLife} {
				h := impl.Hand{Life: life}
				down := func(o order) { wantCalled(t, "down", p, slot, h, o, h, codeDown) }
				eachFitting(p, slot, down)
				eachUnfit(p, slot, down)
			}
		}
	}
}

// Just two of the codes could be told, and one of them is.
func TestCodesTwoByTwo(t *testing.T) {
	p := usualPlan
	pop, start := order{impl.OpPop, [3]int64{}}, order{opStart, [3]int64{}}
	noPop, noStart := order{impl.OpPop, [3]int64{1, 0, 0}}, order{opStart, [3]int64{0, 0, 1}}
	met := map[[2]int64]bool{}
	for _, c := range []struct {
		first, second int64
		h             impl.Hand
		o             order
	}{
		{codeDown, codeStranger, impl.Hand{Life: 3}, pop},
		{codeDown, codeUnfit, impl.Hand{Life: 3}, noStart},
		{codeBusy, codeStranger, impl.Hand{Up: true, Life: 3, At: 9}, pop},
		{codeBusy, codeStranger, impl.Hand{Up: true, In: true, Life: 3, At: 9}, start},
		{codeBusy, codeUnfit, impl.Hand{Up: true, In: true, Life: 3, At: 9}, noPop},
		{codeBusy, codeUnfit, impl.Hand{Up: true, Life: 3, At: 9}, noStart},
		{codeBusy, codeSpent, impl.Hand{Up: true, In: true, Life: 3, At: 9, Last: topTag + 1}, pop},
		{codeStranger, codeUnfit, impl.Hand{Up: true, Life: 3}, noPop},
		{codeStranger, codeUnfit, impl.Hand{Up: true, In: true, Life: 3}, noStart},
		{codeStranger, codeSpent, impl.Hand{Up: true, Life: 3, Last: topTag + 1}, pop},
		{codeStranger, codeSpent, impl.Hand{Up: true, In: true, Life: 3, Last: topTag + 1}, start},
		{codeUnfit, codeSpent, impl.Hand{Up: true, In: true, Life: 3, Last: topTag + 1}, noPop},
		{codeUnfit, codeSpent, impl.Hand{Up: true, Life: 3, Last: topTag + 1}, noStart},
		{codeWrong, codeDown, impl.Hand{Life: -1}, start},
		{codeWrong, codeDown, impl.Hand{Life: 3, Kept: 1}, start},
		{codeWrong, codeBusy, impl.Hand{Up: true, In: true, Life: 3, At: topAt + 1}, pop},
		{codeWrong, codeBusy, impl.Hand{Up: true, In: true, Life: 3, At: -1}, pop},
		{codeWrong, codeStranger, impl.Hand{Up: true}, pop},
		{codeWrong, codeUnfit, impl.Hand{Up: true, In: true}, noPop},
		{codeWrong, codeSpent, impl.Hand{Up: true, In: true, Life: 3, Last: topSeq + 1}, pop},
	} {
		told := codesOf(p, 1, c.h, c.o, c.first != codeWrong)
		if !slices.Equal(told, []int64{c.first, c.second, codeOk}) {
			t.Fatalf("of %+v and %+v could be told %v", c.h, c.o, told)
		}
		want := c.h
		if c.first == codeWrong {
			want = impl.Hand{}
		}
		wantCalled(t, "two codes", p, 1, c.h, c.o, want, c.first)
		met[[2]int64{c.first, c.second}] = true
	}
	// Of a right hand that is not Up, At and Last are 0: it is neither busy nor spent.
	if len(met) != 13 {
		t.Fatalf("%d pairs of codes were met", len(met))
	}
}

// All that can be told at once, in every way that it can.
func TestCodesInTheirOrder(t *testing.T) {
	met := map[int64]int{}
	for _, p := range []impl.Plan{leastPlan, usualPlan} {
		hands := []impl.Hand{{}, {Life: 7}}
		for _, in := range []bool{false, true} {
			for _, at := range []int64{0, atOpen, 30, topAt} {
				for _, last := range []int64{0, topTag, topTag + 1, topSeq} {
					for _, kept := range []int64{0, 2} {
						hands = append(hands, impl.Hand{Up: true, In: in, Life: 7, At: at, Last: last, Kept: kept, Value: 4})
					}
				}
			}
		}
		for slot := range p.Procs {
			each := func(o order) {
				for _, h := range hands {
					met[wantByRule(t, "in their order", p, slot, h, o)]++
				}
			}
			eachFitting(p, slot, each)
			eachUnfit(p, slot, each)
		}
	}
	for code := int64(codeOk); code <= codeSpent; code++ {
		if met[code] == 0 {
			t.Errorf("code %d was never told", code)
		}
	}
}

// Any hands whatever: right ones by the rule, all others are wrong.
func TestCallsByMixedHands(t *testing.T) {
	orders := []order{
		{opStart, [3]int64{}}, {impl.OpPop, [3]int64{}}, {impl.OpFree, [3]int64{1, 0, 0}}, {impl.OpEnq, [3]int64{0, 9, 0}}, {impl.OpCas, [3]int64{0, 3, 4}},
		{impl.OpPop, [3]int64{0, 0, 9}}, {opStart, [3]int64{-1, 0, 0}}, {0, [3]int64{}}, {15, [3]int64{}}, {math.MinInt64, [3]int64{math.MaxInt64, math.MinInt64, math.MaxInt64}},
	}
	eachMixedHand(func(h impl.Hand) {
		for _, p := range usualPlans {
			for _, o := range orders {
				for _, h := range []impl.Hand{h, withNumber(h, "At", 0)} {
					if impl.HandOk(p, h) {
						wantByRule(t, "mixed", p, p.Procs-1, h, o)
					} else {
						wantCalled(t, "mixed", p, p.Procs-1, h, o, impl.Hand{}, codeWrong)
					}
				}
			}
		}
	})
}

// someOrders are of all kinds: what fits and what does not, by who is In and who is not.
var someOrders = []order{
	{opStart, [3]int64{}}, {opStart, [3]int64{1, 0, 0}}, {impl.OpPop, [3]int64{}}, {impl.OpPop, [3]int64{0, 1, 0}}, {impl.OpWrite, [3]int64{1, 0, 5}}, {0, [3]int64{}}, {99, [3]int64{}},
}

// handsOfAllCodes are right of every right Plan: one that may start, one that may do all else, and one for each reason not to.
var handsOfAllCodes = []impl.Hand{
	{}, {Life: 2}, {Up: true, Life: 2}, {Up: true, Life: 2, In: true}, {Up: true, Life: 2, In: true, At: atOpen}, {Up: true, Life: 2, In: true, Last: topTag + 1},
}

func wantWrongCalls(t *testing.T, what string, p impl.Plan, slot int64, h impl.Hand) {
	t.Helper()
	for _, o := range someOrders {
		wantCalled(t, what, p, slot, h, o, impl.Hand{}, codeWrong)
	}
}

func TestCallsOfNoSuchSlot(t *testing.T) {
	for _, p := range somePlans {
		for _, slot := range append([]int64{-1, p.Procs, p.Procs + 1, -p.Procs}, nowhere...) {
			for _, h := range handsOfAllCodes {
				wantWrongCalls(t, "no such slot", p, slot, h)
			}
		}
		for _, slot := range someSlots(p) {
			for _, h := range handsOfAllCodes {
				for _, o := range someOrders {
					wantByRule(t, "such a slot", p, slot, h, o)
				}
			}
		}
	}
}

func TestCallsOfWrongPlans(t *testing.T) {
	eachWrongPlan(func(name string, p impl.Plan) {
		for _, slot := range []int64{-1, 0, 1, p.Procs - 1, p.Procs} {
			for _, h := range handsOfAllCodes {
				wantWrongCalls(t, name, p, slot, h)
			}
		}
	})
}

// One number of the hand at a time is out of its range, or there where the hand is not Up.
func TestCallsByWrongHands(t *testing.T) {
	for _, p := range somePlans {
		for _, f := range handNumbers {
			for _, n := range append([]int64{-1, f.most(p) + 1}, farOut...) {
				wantWrongCalls(t, f.name, p, 0, withNumber(impl.Hand{Up: true, Life: 2, In: true}, f.name, n))
				wantWrongCalls(t, f.name, p, 0, withNumber(impl.Hand{Up: true, Life: 2}, f.name, n))
				wantWrongCalls(t, f.name, p, 0, withNumber(impl.Hand{Life: 2}, f.name, n))
			}
			if f.name != "Life" && f.most(p) > 0 {
				wantWrongCalls(t, f.name, p, 0, withNumber(impl.Hand{Life: 2}, f.name, f.most(p)))
			}
		}
		wantWrongCalls(t, "no life", p, 0, impl.Hand{Up: true})
		wantWrongCalls(t, "no life", p, 0, impl.Hand{Up: true, In: true})
		wantWrongCalls(t, "In, not Up", p, 0, impl.Hand{In: true, Life: 2})
		wantWrongCalls(t, "Seen, not Up", p, 0, impl.Hand{Seen: 1, Life: 2})
	}
}

// Each two of a wrong Plan, a wrong slot and a wrong hand, and all three.
func TestCallsWithMoreThanOneWrong(t *testing.T) {
	wrongPlan := impl.Plan{Procs: 3, Small: 5, Large: 2, Cells: 2, Keep: 0}
	wrongHand := impl.Hand{Up: true, In: true, Life: 2, Block: -1}
	for _, p := range []impl.Plan{usualPlan, wrongPlan} {
		for _, slot := range []int64{1, -1, 3} {
			for _, h := range append(handsOfAllCodes[:len(handsOfAllCodes):len(handsOfAllCodes)], wrongHand) {
				if p == usualPlan && slot == 1 && h != wrongHand {
					continue
				}
				wantWrongCalls(t, "more than one", p, slot, h)
			}
		}
	}
}

// What was called is busy till it rests, and then it may be called anew.
func TestCalledOneBehindAnother(t *testing.T) {
	for _, p := range somePlans {
		for _, slot := range someSlots(p) {
			h := impl.Hand{Up: true, In: true, Life: 1, Last: 40, Kept: 2}
			eachFitting(p, slot, func(o order) {
				if o.code == opStart {
					return
				}
				begun, k := impl.Called(p, slot, h, o.code, o.args[0], o.args[1], o.args[2])
				if k != codeOk || begun != begunHand(h, slot, o) {
					t.Fatalf("Called(%+v, %d, %+v, %+v) is %+v, %d", p, slot, h, o, begun, k)
				}
				wantCalled(t, "once more", p, slot, begun, o, begun, codeBusy)
				if h = impl.Resting(begun); h != (impl.Hand{Up: true, In: true, Life: 1, Last: 40, Kept: 2}) {
					t.Fatalf("rests as %+v", h)
				}
			})
		}
	}
}

func TestCallsAtEveryPlan(t *testing.T) {
	eachRightPlan(func(p impl.Plan) {
		slot := p.Procs - 1
		in := impl.Hand{Up: true, In: true, Life: 1}
		for _, row := range callTable {
			least, most := placeEnds(p, row.places[0], 0)
			leastB, mostB := placeEnds(p, row.places[1], most)
			for _, a := range []int64{least - 1, least, most, most + 1} {
				for _, b := range []int64{leastB - 1, leastB, mostB, mostB + 1} {
					o := order{row.code, [3]int64{a, b, 0}}
					wantFits(t, row.name, p, slot, o, fitsTable(p, slot, o))
					wantByRule(t, row.name, p, slot, in, o)
				}
			}
		}
	})
}
