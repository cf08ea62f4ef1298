package tests

import (
	"fmt"
	"math"
	"reflect"
	"slices"
	"testing"

	"loop.example/g00650/impl"
)

// The numbers are written out here, so that a changed constant is seen.
const (
	atSay   = 2
	atDrop  = 3
	atBare  = 4
	atBarer = 5
	atNote  = 6
	atMark  = 7
	atSwap  = 8

	opPop  = 7
	opDeq  = 9
	opScan = 12

	replyKeep = 8

	deedPush = 3
	deedPop  = 4
	deedEnq  = 5
	deedDeq  = 6
	deedCas  = 7
)

// openings has, of each code that has a row, where an opening leads to.
var openings = map[int64]int64{2: 9, 3: 14, 4: 14, 5: 14, 6: 9, 7: 25, 8: 9, 9: 41, 10: 49, 11: 49, 12: 69, 13: 52, 14: 51}

func slotPlace(slot, field int64) int64 { return slot*7 + field }

func notePlace(p impl.Plan, of, by int64) int64 { return 7*p.Procs + of*p.Procs + by }

// seenNote is where the note about what a hand has seen lies, if there is such a slot.
func seenNote(p impl.Plan, h impl.Hand) (at int64, is bool) {
	pid := int64(h.Seen >> 48 & 255)
	return notePlace(p, pid, h.For), pid < p.Procs
}

func seenSeq(h impl.Hand) uint64 { return h.Seen & topSeq }

// stepByTable is the document's table, of a right Plan, an arena of it and a right hand that is Up and At one of the chapter's.
func stepByTable(p impl.Plan, a []uint64, h impl.Hand) (impl.Done, bool) {
	d := impl.Done{Arena: slices.Clone(a), Hand: h}
	note, isSlot := seenNote(p, h)
	put := func(at int64, x uint64, next int64) (impl.Done, bool) {
		d.Arena[at], d.Hand.At = x, next
		return d, true
	}
	switch h.At {
	case atOpen:
		return openByTable(p, d)
	case atSay:
		return put(slotPlace(h.For, 4), wordOf(h.Reply, 0, h.Out, h.Number), atDrop)
	case atDrop:
		if h.Last == topSeq {
			return impl.Done{}, false
		}
		d.Hand.Last = h.Last + 1
		return put(slotPlace(h.For, 2), uint64(h.Last+1), atBare)
	case atBare:
		return put(slotPlace(h.For, 5), 0, atBarer)
	case atBarer:
		return put(slotPlace(h.For, 6), 0, 0)
	case atNote, atMark:
		switch {
		case !isSlot:
			return impl.Done{}, false
		case h.At == atMark:
			return put(note, seenSeq(h), atSwap)
		case a[note] < seenSeq(h):
			return put(note, a[note], atMark)
		}
		return put(note, a[note], atSwap)
	case atSwap:
		if a[h.Addr] != h.Seen {
			return put(h.Addr, a[h.Addr], h.Bad)
		}
		d.Deed = deedByTable(h)
		return put(h.Addr, h.Put, h.Good)
	}
	panic(fmt.Sprint("no such row: ", h.At))
}

func openByTable(p impl.Plan, d impl.Done) (impl.Done, bool) {
	h := d.Hand
	next, isRow := openings[h.Code]
	if !isRow || h.Last == topSeq || h.Code == opAdopt && h.A >= p.Procs {
		return impl.Done{}, false
	}
	number := h.Last + 1
	d.Arena[slotPlace(h.For, 1)] = wordOf(h.Code, 0, h.A, number)
	h.Last, h.Number, h.At = number, number, next
	switch {
	case (h.Code == opPop || h.Code == opDeq) && h.Kept >= p.Keep:
		h.Reply, h.Out, h.At = replyKeep, 0, atSay
	case h.Code == opScan:
		h.Kept, h.Index = 0, 1
	case h.Code == opAdopt:
		h.For, h.Mine = h.A, number
	}
	d.Hand = h
	return d, true
}

func deedByTable(h impl.Hand) impl.Deed {
	if h.Does == 0 {
		return impl.Deed{}
	}
	d := impl.Deed{Kind: h.Does, Slot: h.For, Number: h.Number, Item: h.Block}
	if h.Code == opStart || h.Code == opAdopt {
		d.Number = 0
	}
	switch h.Does {
	case deedPush, deedEnq:
		d.Value = h.B
	case deedPop, deedDeq:
		d.Value = h.Value
	case deedCas:
		d.Item, d.Value = h.A, h.C
	}
	return d
}

func withPid(x uint64, pid int64) uint64 { return x&^(255<<48) | uint64(pid)<<48 }

// doableHand is right, full of numbers, and At a row that it may do.
func doableHand(p impl.Plan, at int64, seed uint64) impl.Hand {
	h := mixedRightHand(p, seed)
	h.At = at
	if at == atOpen {
		h.Code = 2 + int64(seed%13)
	}
	if h.Code == opAdopt {
		h.A %= p.Procs
	}
	h.Last = min(h.Last, topSeq-1)
	h.Seen = withPid(h.Seen, int64(h.Seen>>48&255)%p.Procs)
	return h
}

// stepArena has any words; the note about what the hand has seen is less than it, the same or more, and what it has seen is still there or not.
func stepArena(p impl.Plan, h impl.Hand, seed uint64) []uint64 {
	a := mixedWords(len(laidOut(p)), seed+3)
	if note, is := seenNote(p, h); is && seed%4 != 0 {
		a[note] = max(seenSeq(h)+seed%4, 2) - 2
	}
	if seed/4%2 == 0 {
		a[h.Addr] = h.Seen
	}
	return a
}

// eachDoable gives, of each row, hands that may do it, over arenas of all kinds; rounds: how often each of them.
func eachDoable(p impl.Plan, rounds uint64, f func(a []uint64, me int64, h impl.Hand)) {
	for at := int64(atOpen); at <= atSwap; at++ {
		for i := range rounds {
			seed := i*8 + uint64(at)*1000 + uint64(p.Procs)*17 + i/8
			h := doableHand(p, at, seed)
			f(stepArena(p, h, i), int64(seed/3)%p.Procs, h)
		}
	}
}

func TestInstallConstants(t *testing.T) {
	for i, c := range [][2]int64{
		{impl.InNone, 0}, {impl.InTake, 1}, {impl.InGive, 2}, {impl.InPush, 3}, {impl.InPop, 4}, {impl.InEnq, 5}, {impl.InDeq, 6}, {impl.InCas, 7},
		{impl.RpNone, 0}, {impl.RpOk, 1}, {impl.RpGot, 2}, {impl.RpEmpty, 3}, {impl.RpFull, 4}, {impl.RpNo, 5}, {impl.RpYes, 6}, {impl.RpBad, 7},
		{impl.RpKeep, replyKeep}, {impl.RpNever, 9}, {impl.RpUnknown, 10}, {impl.RpAlive, 11}, {impl.RpBusy, 12}, {impl.RpNobody, 13}, {impl.RpCut, 14},
		{impl.DdTake, 1}, {impl.DdGive, 2}, {impl.DdPush, deedPush}, {impl.DdPop, deedPop}, {impl.DdEnq, deedEnq}, {impl.DdDeq, deedDeq}, {impl.DdCas, deedCas},
		{impl.AtSay, atSay}, {impl.AtDrop, atDrop}, {impl.AtBare, atBare}, {impl.AtBarer, atBarer}, {impl.AtNote, atNote}, {impl.AtMark, atMark}, {impl.AtSwap, atSwap},
		{impl.OpPop, opPop}, {impl.OpDeq, opDeq}, {impl.OpScan, opScan},
	} {
		if c[0] != c[1] {
			t.Errorf("constant %d is %d, not %d", i, c[0], c[1])
		}
	}
}

func TestFieldsOfADeedAndOfADone(t *testing.T) {
	for _, c := range []struct {
		of   reflect.Type
		want []string
	}{
		{reflect.TypeOf(impl.Deed{}), []string{"Kind", "Slot", "Number", "Item", "Value", "Clock"}},
		{reflect.TypeOf(impl.Done{}), []string{"Arena", "Hand", "Deed"}},
	} {
		var names []string
		for f := range c.of.Fields() {
			names = append(names, f.Name)
		}
		if !slices.Equal(names, c.want) {
			t.Errorf("%s has the fields %v", c.of, names)
		}
	}
}

// What was counted by hand: three slots, their words from 0 on, the notes from 21 on, the roots from 30 on, 62 words; Keep is 4.
func TestStepsOfTheUsualPlan(t *testing.T) {
	seen := uint64(3<<56 | 1<<48 | 4<<32 | 8)
	anyWords := mixedWords(62, 7)
	with := func(at int, x uint64) []uint64 {
		a := slices.Clone(anyWords)
		a[at] = x
		return a
	}
	for i, c := range []struct {
		a    []uint64
		h    impl.Hand
		at   int
		word uint64
		then func(h *impl.Hand)
		deed impl.Deed
	}{
		{anyWords, impl.Hand{At: impl.AtOpen, Code: impl.OpAlloc, A: 1, Last: 4}, 1, 2<<56 | 1<<32 | 5, func(h *impl.Hand) { h.Last, h.Number, h.At = 5, 5, impl.AtFree }, impl.Deed{}},
		{anyWords, impl.Hand{At: impl.AtOpen, Code: impl.OpFree, A: 7, For: 1}, 8, 3<<56 | 7<<32 | 1, func(h *impl.Hand) { h.Last, h.Number, h.At = 1, 1, impl.AtMine }, impl.Deed{}},
		{anyWords, impl.Hand{At: impl.AtOpen, Code: impl.OpWrite, A: 6, B: 2, C: 9, For: 2}, 15, 4<<56 | 6<<32 | 1, func(h *impl.Hand) { h.Last, h.Number, h.At = 1, 1, impl.AtMine }, impl.Deed{}},
		{anyWords, impl.Hand{At: impl.AtOpen, Code: impl.OpLoad, A: 2, For: 2, Number: 8}, 15, 5<<56 | 2<<32 | 1, func(h *impl.Hand) { h.Last, h.Number, h.At = 1, 1, impl.AtMine }, impl.Deed{}},
		{anyWords, impl.Hand{At: impl.AtOpen, Code: impl.OpPush, B: 9, Last: 4, Kept: 4}, 1, 6<<56 | 5, func(h *impl.Hand) { h.Last, h.Number, h.At = 5, 5, impl.AtFree }, impl.Deed{}},
		{anyWords, impl.Hand{At: impl.AtOpen, Code: impl.OpPop, Last: 10, For: 1, Kept: 3, Reply: 2, Out: 6}, 8, 7<<56 | 11, func(h *impl.Hand) { h.Last, h.Number, h.At = 11, 11, impl.AtPeek }, impl.Deed{}},
		{anyWords, impl.Hand{At: impl.AtOpen, Code: impl.OpPop, Last: 10, For: 1, Kept: 4, Reply: 2, Out: 6}, 8, 7<<56 | 11, func(h *impl.Hand) { h.Last, h.Number, h.Reply, h.Out, h.At = 11, 11, impl.RpKeep, 0, impl.AtSay }, impl.Deed{}},
		{anyWords, impl.Hand{At: impl.AtOpen, Code: impl.OpEnq, B: 65535, Last: 4, Kept: 4}, 1, 8<<56 | 5, func(h *impl.Hand) { h.Last, h.Number, h.At = 5, 5, impl.AtFree }, impl.Deed{}},
		{anyWords, impl.Hand{At: impl.AtOpen, Code: impl.OpDeq, Last: 10, For: 1, Kept: 3}, 8, 9<<56 | 11, func(h *impl.Hand) { h.Last, h.Number, h.At = 11, 11, impl.AtHead }, impl.Deed{}},
		{anyWords, impl.Hand{At: impl.AtOpen, Code: impl.OpDeq, Last: 10, For: 1, Kept: 5}, 8, 9<<56 | 11, func(h *impl.Hand) { h.Last, h.Number, h.Reply, h.At = 11, 11, impl.RpKeep, impl.AtSay }, impl.Deed{}},
		{anyWords, impl.Hand{At: impl.AtOpen, Code: impl.OpCas, A: 1, B: 3, C: 4}, 1, 10<<56 | 1<<32 | 1, func(h *impl.Hand) { h.Last, h.Number, h.At = 1, 1, impl.AtCell }, impl.Deed{}},
		{anyWords, impl.Hand{At: impl.AtOpen, Code: impl.OpSee, A: 1}, 1, 11<<56 | 1<<32 | 1, func(h *impl.Hand) { h.Last, h.Number, h.At = 1, 1, impl.AtCell }, impl.Deed{}},
		{anyWords, impl.Hand{At: impl.AtOpen, Code: impl.OpScan, Kept: 3, Index: 7}, 1, 12<<56 | 1, func(h *impl.Hand) { h.Last, h.Number, h.Kept, h.Index, h.At = 1, 1, 0, 1, impl.AtScan }, impl.Deed{}},
		{anyWords, impl.Hand{At: impl.AtOpen, Code: impl.OpAdopt, A: 2, Last: 6, Kept: 3}, 1, 13<<56 | 2<<32 | 7, func(h *impl.Hand) { h.Last, h.Number, h.For, h.Mine, h.At = 7, 7, 2, 7, impl.AtSlot }, impl.Deed{}},
		{anyWords, impl.Hand{At: impl.AtOpen, Code: impl.OpAsk, A: 2, B: 5}, 1, 14<<56 | 2<<32 | 1, func(h *impl.Hand) { h.Last, h.Number, h.At = 1, 1, impl.AtAsk }, impl.Deed{}},
		{anyWords, impl.Hand{At: impl.AtSay, For: 1, Reply: impl.RpGot, Out: 7, Number: 5, Last: 6}, 11, 2<<56 | 7<<32 | 5, func(h *impl.Hand) { h.At = impl.AtDrop }, impl.Deed{}},
		{anyWords, impl.Hand{At: impl.AtDrop, For: 2, Last: 8, Block: 3, Number: 5}, 16, 9, func(h *impl.Hand) { h.Last, h.At = 9, impl.AtBare }, impl.Deed{}},
		{anyWords, impl.Hand{At: impl.AtBare, For: 1}, 12, 0, func(h *impl.Hand) { h.At = impl.AtBarer }, impl.Deed{}},
		{anyWords, impl.Hand{At: impl.AtBarer, For: 1, Reply: 2, Out: 3}, 13, 0, func(h *impl.Hand) { h.At = impl.AtRest }, impl.Deed{}},
		{with(26, 7), impl.Hand{At: impl.AtNote, For: 2, Seen: seen}, 26, 7, func(h *impl.Hand) { h.At = impl.AtMark }, impl.Deed{}},
		{with(26, 8), impl.Hand{At: impl.AtNote, For: 2, Seen: seen}, 26, 8, func(h *impl.Hand) { h.At = impl.AtSwap }, impl.Deed{}},
		{with(26, 9), impl.Hand{At: impl.AtNote, For: 2, Seen: seen}, 26, 9, func(h *impl.Hand) { h.At = impl.AtSwap }, impl.Deed{}},
		{with(26, 7), impl.Hand{At: impl.AtMark, For: 2, Seen: seen}, 26, 8, func(h *impl.Hand) { h.At = impl.AtSwap }, impl.Deed{}},
		{with(32, seen), impl.Hand{At: impl.AtSwap, For: 2, Seen: seen, Put: 5, Addr: 32, Good: 30, Bad: 40}, 32, 5, func(h *impl.Hand) { h.At = 30 }, impl.Deed{}},
		{with(32, seen), impl.Hand{At: impl.AtSwap, For: 2, Seen: seen, Put: 5, Addr: 32, Good: 30, Bad: 40, Does: impl.DdPop, Code: impl.OpPop, Number: 6, Block: 4, Value: 9}, 32, 5,
			func(h *impl.Hand) { h.At = 30 }, impl.Deed{Kind: impl.DdPop, Slot: 2, Number: 6, Item: 4, Value: 9}},
		{with(32, seen+1), impl.Hand{At: impl.AtSwap, For: 2, Seen: seen, Put: 5, Addr: 32, Good: 30, Bad: 40, Does: impl.DdPop}, 32, seen + 1, func(h *impl.Hand) { h.At = 40 }, impl.Deed{}},
	} {
		h := c.h
		h.Up, h.In, h.Life = true, true, 3
		want := impl.Done{Arena: slices.Clone(c.a), Hand: h, Deed: c.deed}
		want.Arena[c.at] = c.word
		c.then(&want.Hand)
		what := fmt.Sprint("by hand, ", i)
		for me := range int64(3) {
			installing.wantStep(t, what, usualPlan, c.a, me, h, want, true)
			if !installing.wantTable(t, what, usualPlan, c.a, me, h) {
				t.Fatalf("%s: the table tells otherwise", what)
			}
		}
	}
}

// Each row by hands that may do it, every field and every word of them; all that is not named stays as it was.
func TestEachRow(t *testing.T) {
	for _, p := range somePlans {
		met := map[[2]int64]int{}
		eachDoable(p, roundsOf(p, 400), func(a []uint64, me int64, h impl.Hand) {
			if !installing.wantTable(t, "a row", p, a, me, h) {
				t.Fatalf("%+v may not do its row", h)
			}
			then, _ := stepByTable(p, a, h)
			met[[2]int64{h.At, then.Hand.At}]++
		})
		if met[[2]int64{atNote, atMark}] == 0 || met[[2]int64{atNote, atSwap}] == 0 {
			t.Fatalf("%+v: not each way was gone: %v", p, met)
		}
	}
}

// Promise 8: one word at most is written, whatever is there; and no step but the two that say so comes to a note.
func TestOneWordAtMost(t *testing.T) {
	for _, p := range somePlans {
		regions := laidOut(p)
		eachDoable(p, roundsOf(p, 400), func(a []uint64, me int64, h impl.Hand) {
			d, is := impl.InstallStep(p, a, me, h)
			if !is || len(d.Arena) != len(a) {
				t.Fatalf("InstallStep(%+v, .., %d, %+v) is %v, of %d words", p, me, h, is, len(d.Arena))
			}
			written := 0
			for at, x := range d.Arena {
				if x == a[at] {
					continue
				}
				written++
				if regions[at].Kind == 2 && h.At != atMark && h.At != atSwap {
					t.Fatalf("%+v wrote into the note at %d", h, at)
				}
				if h.At == atSwap && int64(at) != h.Addr {
					t.Fatalf("%+v wrote at %d", h, at)
				}
			}
			if written > 1 {
				t.Fatalf("%+v wrote %d words", h, written)
			}
		})
	}
}

// Promise 8: who begins at the note writes into it only what is more than what was there, and has done so ahead of the swap.
func TestTheNoteIsRaisedAheadOfTheSwap(t *testing.T) {
	swapped, marked := 0, 0
	for _, p := range somePlans {
		for i := range roundsOf(p, 300) {
			h := doableHand(p, atNote, i*5+uint64(p.Small))
			root := 7*p.Procs + p.Procs*p.Procs
			h.Addr = root + int64(i)%(5+p.Cells)
			h.Good, h.Bad = atSay, 9
			a := stepArena(p, h, i)
			note, _ := seenNote(p, h)
			was := a[note]
			h, a = wantWayToTheSwap(t, p, a, h, note)
			if a[note] < seenSeq(h) || a[note] < was {
				t.Fatalf("%+v comes to its swap, and the note is %d", h, a[note])
			}
			if a[note] != was {
				marked++
			}
			d, is := impl.InstallStep(p, a, 0, h)
			if !is || d.Arena[note] != a[note] {
				t.Fatalf("%+v swapped, %v, and the note is %d", h, is, d.Arena[note])
			}
			if d.Hand.At == atSay {
				swapped++
			}
		}
	}
	if swapped < 100 || marked < 100 {
		t.Fatalf("%d swaps and %d marks were done", swapped, marked)
	}
}

// wantWayToTheSwap holds all words but the note, and the roots above all, till the swap is next.
func wantWayToTheSwap(t *testing.T, p impl.Plan, a []uint64, h impl.Hand, note int64) (impl.Hand, []uint64) {
	t.Helper()
	for range 2 {
		if h.At == atSwap {
			return h, a
		}
		d, is := impl.InstallStep(p, a, 0, h)
		if !is || d.Deed != (impl.Deed{}) {
			t.Fatalf("InstallStep(%+v, .., %+v) is %v, %+v", p, h, is, d.Deed)
		}
		if d.Arena[note] != a[note] && (h.At != atMark || d.Arena[note] <= a[note]) {
			t.Fatalf("%+v makes %d of a note that was %d", h, d.Arena[note], a[note])
		}
		wantOnlyAt(t, "on the way to the swap", a, d.Arena, note, d.Arena[note])
		h, a = d.Hand, d.Arena
	}
	if h.At != atSwap {
		t.Fatalf("%+v has not come to its swap", h)
	}
	return h, a
}

func TestOpeningOfEachCode(t *testing.T) {
	for _, p := range somePlans {
		for _, slot := range someSlots(p) {
			for code := int64(0); code <= topCode; code++ {
				for seed := range uint64(4) {
					h := doableHand(p, atOpen, seed*13+uint64(code))
					h.Code, h.For, h.A = code, slot, h.A%p.Procs
					a := stepArena(p, h, seed)
					is := installing.wantTable(t, "an opening", p, a, p.Procs-1-slot, h)
					if is != (code >= 2) {
						t.Fatalf("the table tells %v of code %d", is, code)
					}
				}
			}
		}
	}
}

// OpNone and OpStart have no row: nothing is done, not even the call's number is given.
func TestOpeningOfACodeWithoutARow(t *testing.T) {
	for _, p := range somePlans {
		for _, code := range []int64{0, 1} {
			h := impl.Hand{Up: true, In: true, Life: 2, At: atOpen, Code: code, Last: 4}
			installing.wantNone(t, "no row", p, impl.Blank(p), 0, h)
			full := fullHand(p)
			full.At, full.Code, full.Last = atOpen, code, 4
			installing.wantNone(t, "no row", p, impl.Blank(p), 0, full)
		}
	}
}

// What stands in A is told in the Op as it is, be it a block, a cell, a slot or none of them.
func TestOpeningTellsWhatIsAsked(t *testing.T) {
	for _, p := range usualPlans {
		for code := range openings {
			for _, n := range []int64{0, 1, p.Small + p.Large, p.Small + p.Large + 1, 255, 256, topIndex} {
				h := impl.Hand{Up: true, Life: 2, At: atOpen, Code: code, A: n, B: topSeq, C: topIndex, Last: 76}
				is := installing.wantTable(t, "asked", p, impl.Blank(p), 0, h)
				if is != (code != opAdopt || n < p.Procs) {
					t.Fatalf("the table tells %v of code %d and %d", is, code, n)
				}
			}
		}
	}
}

func TestGettingWithBlocksKept(t *testing.T) {
	for _, p := range append([]impl.Plan{{Procs: 2, Small: 3, Large: 0, Cells: 1, Keep: 31}, {Procs: 2, Small: 3, Large: 0, Cells: 1, Keep: 3}}, somePlans...) {
		for code := range openings {
			for _, kept := range []int64{0, p.Keep - 1, p.Keep, p.Keep + 1, p.Keep + 256, 32, 33, topIndex} {
				h := doableHand(p, atOpen, uint64(kept+code))
				h.Code, h.Kept, h.A, h.Reply, h.Out = code, kept, 0, 2, 77
				a := impl.Blank(p)
				installing.wantTable(t, "kept", p, a, 0, h)
				d, _ := impl.InstallStep(p, a, 0, h)
				refused := d.Hand.At == atSay && d.Hand.Reply == replyKeep && d.Hand.Out == 0
				if refused != ((code == opPop || code == opDeq) && kept >= p.Keep) {
					t.Fatalf("Keep %d, %d kept, code %d: %+v", p.Keep, kept, code, d.Hand)
				}
				if code != opScan && d.Hand.Kept != kept {
					t.Fatalf("code %d: %d kept, then %d", code, kept, d.Hand.Kept)
				}
			}
		}
	}
}

// Who adopts writes its own Op, and acts for the other slot from then on; the table asks for no other slot than its own.
func TestOpeningOfAnAdoption(t *testing.T) {
	for _, p := range somePlans {
		for _, slot := range someSlots(p) {
			for _, of := range []int64{0, p.Procs / 2, p.Procs - 1, p.Procs, p.Procs + 1, 255, 256, topIndex} {
				h := doableHand(p, atOpen, uint64(of+slot))
				h.Code, h.For, h.A, h.Mine, h.Last = opAdopt, slot, of, 3, 50
				a := stepArena(p, h, 1)
				if of >= p.Procs {
					installing.wantNone(t, "no slot to adopt", p, a, slot, h)
					continue
				}
				want := h
				want.For, want.Mine, want.Last, want.Number, want.At = of, 51, 51, 51, atSlot
				then := slices.Clone(a)
				then[slot*7+1] = wordOf(opAdopt, 0, of, 51)
				installing.wantStep(t, "an adoption", p, a, slot, h, impl.Done{Arena: then, Hand: want}, true)
			}
		}
	}
}

// A number beyond MaxSeq is never given: where Last is MaxSeq, who would give one more does nothing.
func TestLastAtItsEnd(t *testing.T) {
	for _, p := range somePlans {
		for _, last := range []int64{0, 1, topTag, topTag + 1, topSeq - 1, topSeq} {
			for at := int64(atOpen); at <= atSwap; at++ {
				for code := int64(2); code <= topCode; code++ {
					h := doableHand(p, at, uint64(code))
					h.Code, h.A, h.Last = code, h.A%p.Procs, last
					is := installing.wantTable(t, "Last at its end", p, stepArena(p, h, uint64(code)), 0, h)
					if is != (last < topSeq || at != atOpen && at != atDrop) {
						t.Fatalf("the table tells %v of %+v", is, h)
					}
				}
			}
		}
	}
}

func TestEveryReplyIsSaid(t *testing.T) {
	for reply := range int64(256) {
		for _, out := range []int64{0, 1, 255, 256, topIndex - 1, topIndex} {
			for _, number := range []int64{0, 1, topTag, topSeq - 1, topSeq} {
				h := doableHand(usualPlan, atSay, uint64(reply))
				h.Reply, h.Out, h.Number = reply, out, number
				a := stepArena(usualPlan, h, uint64(out))
				installing.wantTable(t, "said", usualPlan, a, 0, h)
				d, _ := impl.InstallStep(usualPlan, a, 0, h)
				w := impl.Unpack(d.Arena[h.For*7+4])
				if w != (impl.Word{Kind: reply, Index: out, Seq: number}) {
					t.Fatalf("%+v is said as %+v", h, w)
				}
			}
		}
	}
}

// The four steps that end a call, one behind another: what they leave in the slot, and that nothing else is touched.
func TestACallToItsEnd(t *testing.T) {
	for _, p := range somePlans {
		for _, slot := range someSlots(p) {
			h := doableHand(p, atSay, uint64(slot)+40)
			h.For, h.Reply, h.Out, h.Number, h.Last = slot, 2, 6, 30, 31
			was, a := h, stepArena(p, h, 2)
			want := slices.Clone(a)
			for i, c := range []struct {
				field, next int64
				word        uint64
			}{{4, atDrop, wordOf(2, 0, 6, 30)}, {2, atBare, 32}, {5, atBarer, 0}, {6, 0, 0}} {
				d, is := impl.InstallStep(p, a, slot, h)
				want[slot*7+c.field] = c.word
				if !is || d.Hand.At != c.next || !slices.Equal(d.Arena, want) || d.Deed != (impl.Deed{}) {
					t.Fatalf("step %d of slot %d of %+v: %+v, %v", i, slot, p, d.Hand, is)
				}
				h, a = d.Hand, d.Arena
			}
			was.At, was.Last = 0, 32
			if h != was {
				t.Fatalf("the call ends as %+v, not %+v", h, was)
			}
			installing.wantNone(t, "at rest", p, a, slot, h)
		}
	}
}

// What can be called can be opened, and each number that a slot gives is one more.
func TestACallFromItsBeginning(t *testing.T) {
	for _, p := range somePlans {
		for _, slot := range someSlots(p) {
			h, a, last := impl.Hand{Up: true, In: true, Life: 1, Last: 40, Kept: p.Keep - 1}, impl.Blank(p), int64(40)
			eachFitting(p, slot, func(o order) {
				if o.code == opStart {
					return
				}
				begun, k := impl.Called(p, slot, h, o.code, o.args[0], o.args[1], o.args[2])
				d, is := impl.InstallStep(p, a, slot, begun)
				last++
				if k != codeOk || !is || d.Hand.Number != last || d.Hand.Last != last || d.Hand.At != openings[o.code] {
					t.Fatalf("%+v by slot %d: %d, %v, %+v", o, slot, k, is, d.Hand)
				}
				wantOnlyAt(t, "an opening", a, d.Arena, slot*7+1, wordOf(o.code, 0, o.args[0], last))
				h, a = impl.Resting(d.Hand), d.Arena
				h.Kept = p.Keep - 1
			})
		}
	}
}

// aroundNote are notes less than, the same as and more than a Seq, and such as would look less if only low bits were taken.
func aroundNote(seq uint64) []uint64 {
	return []uint64{
		0, 1, seq / 2, max(seq, 1) - 1, seq, seq + 1, topSeq - 1, topSeq, topSeq + 1, topSeq + 2, 1 << 32, 1<<32 | seq, 1<<48 | seq/2, 1 << 56, 1 << 63, 1<<63 | seq, math.MaxUint64,
	}
}

// The note is a whole word, of which no bit is passed over.
func TestNotesLessTheSameAndMore(t *testing.T) {
	for _, p := range []impl.Plan{leastPlan, usualPlan, noLarge} {
		for _, seq := range []uint64{0, 1, 2, 8, 65535, 65536, 1 << 31, 1<<31 + 1, topSeq - 1, topSeq} {
			for of := range p.Procs {
				for by := range p.Procs {
					for _, note := range aroundNote(seq) {
						h := doableHand(p, atNote, seq+uint64(of*p.Procs+by))
						h.Seen, h.For = withPid(h.Seen, of)>>32<<32|seq, by
						a := stepArena(p, h, 0)
						at := notePlace(p, of, by)
						a[at] = note
						want := impl.Done{Arena: a, Hand: h}
						want.Hand.At = atSwap
						if note < seq {
							want.Hand.At = atMark
						}
						installing.wantStep(t, fmt.Sprint("a note of ", note, " to ", seq), p, a, by, h, want, true)
					}
				}
			}
		}
	}
}

// The row tells of no condition: the Seq of Seen stands there then, also over a note that is more, at which no hand comes here by way of AtNote.
func TestMarkWritesTheSeqOfSeen(t *testing.T) {
	for _, p := range []impl.Plan{leastPlan, usualPlan, noLarge} {
		for _, seq := range []uint64{0, 1, 8, 65536, topSeq - 1, topSeq} {
			for of := range p.Procs {
				for by := range p.Procs {
					for _, note := range aroundNote(seq) {
						h := doableHand(p, atMark, seq+uint64(of*p.Procs+by))
						h.Seen, h.For = withPid(h.Seen, of)>>32<<32|seq, by
						a := stepArena(p, h, 0)
						at := notePlace(p, of, by)
						a[at] = note
						want := impl.Done{Arena: slices.Clone(a), Hand: h}
						want.Hand.At = atSwap
						want.Arena[at] = seq
						installing.wantStep(t, fmt.Sprint("a mark of ", seq, " over ", note), p, a, by, h, want, true)
					}
				}
			}
		}
	}
}

// No other word than that one note is asked.
func TestOtherNotesDoNotMatter(t *testing.T) {
	for _, p := range []impl.Plan{usualPlan, noLarge} {
		for of := range p.Procs {
			for by := range p.Procs {
				for _, note := range []uint64{7, 8} {
					for _, others := range []uint64{0, 7, 8, 9, math.MaxUint64} {
						a := slices.Repeat([]uint64{others}, len(laidOut(p)))
						a[notePlace(p, of, by)] = note
						h := impl.Hand{Up: true, Life: 1, At: atNote, Seen: wordOf(1, of, 3, 8), For: by}
						d, is := impl.InstallStep(p, a, p.Procs-1-by, h)
						if !is || (d.Hand.At == atMark) != (note == 7) || !slices.Equal(a, d.Arena) {
							t.Fatalf("about %d by %d, a note of %d among %d: %v, %+v", of, by, note, others, is, d.Hand)
						}
					}
				}
			}
		}
	}
}

// A Pid of Seen that is no slot has no note; who asks for none does not mind it.
func TestWhatIsSeenOfNoSlot(t *testing.T) {
	for _, p := range somePlans {
		for _, pid := range []int64{0, p.Procs - 1, p.Procs, p.Procs + 1, 64, 127, 128, 254, 255} {
			for at := int64(atOpen); at <= atSwap; at++ {
				for _, by := range someSlots(p) {
					h := doableHand(p, at, uint64(pid)+uint64(at))
					h.Seen, h.For = withPid(h.Seen, pid), by
					is := installing.wantTable(t, "seen of no slot", p, stepArena(p, h, uint64(at)), by, h)
					if is != (pid < p.Procs || at != atNote && at != atMark) {
						t.Fatalf("the table tells %v of %+v", is, h)
					}
				}
			}
		}
	}
}

// Every place can be swapped, the first one and the last one too: where it was what was seen, and where it was not.
func TestSwapAtEveryPlace(t *testing.T) {
	for _, p := range somePlans {
		n := len(laidOut(p))
		places := somePlaces(n)
		if n > 1000 {
			places = []int64{0, 1, 63, 64, 65, int64(n) / 2, int64(n) - 2, int64(n) - 1}
		}
		for _, addr := range places {
			for _, put := range []uint64{0, wordOf(0, 1, 4, 9), math.MaxUint64} {
				h := doableHand(p, atSwap, uint64(addr))
				h.Addr, h.Put = addr, put
				a := mixedWords(n, uint64(addr)+5)
				h.Seen = a[addr]
				installing.wantStep(t, "swapped", p, a, 0, h, impl.Done{Arena: withWordAt(a, addr, put), Hand: withNumber(h, "At", h.Good), Deed: deedByTable(h)}, true)
				h.Seen++
				installing.wantStep(t, "not swapped", p, a, 0, h, impl.Done{Arena: a, Hand: withNumber(h, "At", h.Bad)}, true)
			}
		}
	}
}

func withWordAt(a []uint64, at int64, x uint64) []uint64 {
	a = slices.Clone(a)
	a[at] = x
	return a
}

// A word that differs in one bit, whichever, is not what was seen; a word that stands elsewhere is not seen there.
func TestSwapMindsEveryBit(t *testing.T) {
	p := usualPlan
	for bit := range 64 {
		h := impl.Hand{Up: true, Life: 1, At: atSwap, Addr: 33, Seen: wordOf(1, 2, 3, 4), Put: 9, Does: 3, Good: 2, Bad: 23}
		a := slices.Repeat([]uint64{h.Seen}, 62)
		a[33] ^= 1 << bit
		installing.wantStep(t, fmt.Sprint("bit ", bit), p, a, 0, h, impl.Done{Arena: a, Hand: withNumber(h, "At", 23)}, true)
	}
}

// What is put may be what was seen: it was there all the same.
func TestSwapForItself(t *testing.T) {
	for _, p := range usualPlans {
		for _, x := range []uint64{0, 1, wordOf(0, 1, 4, 9), math.MaxUint64} {
			h := doableHand(p, atSwap, 11)
			h.Addr, h.Seen, h.Put, h.Does = 3, x, x, 1
			a := withWordAt(impl.Blank(p), 3, x)
			installing.wantStep(t, "for itself", p, a, 0, h, impl.Done{Arena: a, Hand: withNumber(h, "At", h.Good), Deed: deedByTable(h)}, true)
		}
	}
}

// Each kind of a deed, and none, of each code; every number of the hand another one, so that none is taken for another.
func TestDeedOfEachKind(t *testing.T) {
	p := noLarge
	for does := int64(0); does <= topDoes; does++ {
		for code := int64(0); code <= topCode; code++ {
			for slot := range p.Procs {
				h := impl.Hand{
					Up: true, Life: 2, At: atSwap, Code: code, A: 11, B: 12, C: 13, Number: 14, For: slot, Last: 15, Mine: 16, Addr: 40, Seen: 17, Put: 18, Good: 19, Bad: 20, Does: does,
					Block: 21, From: 22, Next: 23, Value: 24, Index: 5, Which: 6, Kept: 25, WasCode: 26, WasItem: 27, WasNumber: 28, WasKind: 29, WasTag: 30, Reply: 31, Out: 32, Mark: 33, Begin: 34,
				}
				number := int64(14)
				if code == 1 || code == 13 {
					number = 0
				}
				deed := []impl.Deed{
					{},
					{Kind: 1, Slot: slot, Number: number, Item: 21},
					{Kind: 2, Slot: slot, Number: number, Item: 21},
					{Kind: 3, Slot: slot, Number: number, Item: 21, Value: 12},
					{Kind: 4, Slot: slot, Number: number, Item: 21, Value: 24},
					{Kind: 5, Slot: slot, Number: number, Item: 21, Value: 12},
					{Kind: 6, Slot: slot, Number: number, Item: 21, Value: 24},
					{Kind: 7, Slot: slot, Number: number, Item: 11, Value: 13},
				}[does]
				a := withWordAt(impl.Blank(p), 40, 17)
				want := impl.Done{Arena: withWordAt(a, 40, 18), Hand: withNumber(h, "At", 19), Deed: deed}
				installing.wantStep(t, "a deed", p, a, p.Procs-1-slot, h, want, true)
				a[40]++
				installing.wantStep(t, "no deed", p, a, p.Procs-1-slot, h, impl.Done{Arena: a, Hand: withNumber(h, "At", 20)}, true)
			}
		}
	}
}

// A deed is told of what was swapped alone: not of what is only about to be.
func TestNoDeedButOfASwap(t *testing.T) {
	for _, p := range usualPlans {
		for at := int64(atOpen); at < atSwap; at++ {
			for does := int64(0); does <= topDoes; does++ {
				h := doableHand(p, at, uint64(does+at))
				h.Does = does
				d, is := impl.InstallStep(p, stepArena(p, h, 1), 0, h)
				if !is || d.Deed != (impl.Deed{}) {
					t.Fatalf("%+v: %v, %+v", h, is, d.Deed)
				}
			}
		}
	}
}

// The ends of what a deed may tell.
func TestDeedAtItsEnds(t *testing.T) {
	for _, p := range usualPlans {
		for does := int64(1); does <= topDoes; does++ {
			for _, h := range []impl.Hand{{Up: true, Life: 1}, fullHand(p)} {
				for _, code := range []int64{0, 1, 2, 12, 13, 14} {
					h.At, h.Does, h.Code = atSwap, does, code
					installing.wantTable(t, "at its ends", p, withWordAt(impl.Blank(p), h.Addr, h.Seen), 0, h)
				}
			}
		}
	}
}

func TestGoodAndBadAtEveryAt(t *testing.T) {
	for _, p := range []impl.Plan{leastPlan, usualPlan} {
		for good := int64(0); good <= topAt; good++ {
			for bad := int64(0); bad <= topAt; bad++ {
				h := impl.Hand{Up: true, Life: 1, At: atSwap, Addr: 2, Seen: 5, Put: 6, Good: good, Bad: bad}
				a := withWordAt(impl.Blank(p), 2, 5)
				d, is := impl.InstallStep(p, a, 0, h)
				if !is || d.Hand != withNumber(h, "At", good) || d.Arena[2] != 6 {
					t.Fatalf("Good %d, Bad %d: %v, %+v", good, bad, is, d.Hand)
				}
				a[2] = 7
				d, is = impl.InstallStep(p, a, 0, h)
				if !is || d.Hand != withNumber(h, "At", bad) || d.Arena[2] != 7 {
					t.Fatalf("Good %d, Bad %d, not swapped: %v, %+v", good, bad, is, d.Hand)
				}
			}
		}
	}
}

func TestStepsAtEveryPlan(t *testing.T) {
	eachRightPlan(func(p impl.Plan) {
		size := len(laidOut(p))
		for at := int64(atOpen); at <= atSwap; at++ {
			h := impl.Hand{
				Up: true, Life: 1, At: at, Code: opPop, Last: 6, For: p.Procs - 1, Kept: p.Keep - at%2,
				Seen: wordOf(0, p.Procs-1, 1, 8), Put: 9, Addr: int64(size) - 1, Good: 2, Bad: 25, Does: 4, Value: 3,
			}
			a := make([]uint64, size)
			a[size-1] = h.Seen
			d, is := impl.InstallStep(p, a, 0, h)
			want, wantIs := stepByTable(p, a, h)
			if is != wantIs || !is || d.Hand != want.Hand || d.Deed != want.Deed || !slices.Equal(d.Arena, want.Arena) {
				t.Fatalf("%+v: InstallStep of %+v is %+v, %+v, %v", p, h, d.Hand, d.Deed, is)
			}
			h.Seen = withPid(h.Seen, p.Procs)
			if _, is := impl.InstallStep(p, a, 0, h); is != (at != atNote && at != atMark) {
				t.Fatalf("%+v: InstallStep of %+v, which has seen what is of no slot, is %v", p, h, is)
			}
		}
	})
}
