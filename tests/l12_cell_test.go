package tests

import (
	"fmt"
	"math"
	"slices"
	"testing"

	"loop.example/g00650/impl"
)

// The numbers are written out here, so that a changed constant is seen.
const (
	atCell = 49
	atTry  = 50
	atAsk  = 51

	opCas = 10
	opSee = 11
	opAsk = 14

	intentCas = 7

	replyNo      = 5
	replyYes     = 6
	replyUnknown = 10
)

// A cellRow is a row of the document's table over a yard.
type cellRow struct{ poolRow }

func cellByTable(p impl.Plan, a []uint64, h impl.Hand) (impl.Done, bool) {
	r, is := cellRow{poolRow{yardOf(p, a), h}}, false
	if h.At == atAsk {
		is = h.A < p.Procs && r.say(r.resultOf(h.A, h.B))
	} else {
		is = h.A < p.Cells && r.change(rootCell+int(h.A))
	}
	if !is {
		return impl.Done{}, false
	}
	return impl.Done{Arena: r.words, Hand: r.h}, true
}

// resultOf is what a slot's Result tells of its call of that number.
func (y yard) resultOf(slot, number int64) (reply, out int64) {
	x := y.words[slotPlace(slot, 4)]
	if x&topSeq != uint64(number) {
		return replyUnknown, 0
	}
	return int64(x >> 56), int64(x >> 32 & 65535)
}

func (r *cellRow) change(root int) bool {
	if r.h.At == atCell {
		r.h.Seen = r.words[r.rootPlace(root)]
		switch number := int64(r.h.Seen >> 32 & 65535); {
		case r.h.Code == opSee:
			return r.say(replyGot, number)
		case r.h.B != number:
			return r.say(replyNo, number)
		}
		return r.then(atTry)
	}
	if r.h.Last == topSeq {
		return false
	}
	number := r.h.Last + 1
	r.words[slotPlace(r.h.For, 2)] = wordOf(intentCas, 0, 0, number)
	r.h.Last, r.h.Addr, r.h.Put = number, int64(r.rootPlace(root)), wordOf(0, r.h.For, r.h.C, number)
	r.h.Does, r.h.Good, r.h.Bad, r.h.Reply, r.h.Out = deedCas, atSay, atCell, replyYes, 0
	return r.then(atNote)
}

// cellHand is right, full of numbers, and At a row that it may do.
func cellHand(p impl.Plan, at int64, seed uint64) impl.Hand {
	h := mixedRightHand(p, seed)
	h.At = at
	if seed%4 != 0 {
		h.Code = []int64{opCas, opSee, opAsk}[seed/4%3]
	}
	if seed%3 != 0 {
		h.B %= topIndex + 1
	}
	h.Last = min(h.Last, topSeq-1)
	if at == atAsk {
		h.A %= p.Procs
	} else {
		h.A %= p.Cells
	}
	return h
}

// cellArena has any words; now and then the cell is what the hand would change, or the word that it has seen, and the result is of the number that is asked for.
func cellArena(p impl.Plan, h impl.Hand, seed uint64) []uint64 {
	y := yardOf(p, mixedWords(len(laidOut(p)), seed+17))
	if h.A < p.Cells {
		switch at := &y.words[y.rootPlace(rootCell+int(h.A))]; seed % 3 {
		case 1:
			*at = *at&^(65535<<32) | uint64(h.B&65535)<<32
		case 2:
			*at = h.Seen
		}
	}
	if h.A < p.Procs && seed%2 == 1 {
		at := &y.words[slotPlace(h.A, 4)]
		*at = *at>>32<<32 | uint64(h.B)
	}
	return y.words
}

func TestCellConstants(t *testing.T) {
	for i, c := range [][2]int64{
		{impl.AtCell, atCell}, {impl.AtTry, atTry}, {impl.AtAsk, atAsk}, {impl.AtNote, atNote}, {impl.AtSay, atSay}, {impl.OpCas, opCas}, {impl.OpSee, opSee}, {impl.OpAsk, opAsk},
		{impl.InCas, intentCas}, {impl.DdCas, deedCas}, {impl.RpGot, replyGot}, {impl.RpNo, replyNo}, {impl.RpYes, replyYes}, {impl.RpUnknown, replyUnknown}, {impl.RtCell, rootCell}, {impl.SlResult, 4},
	} {
		if c[0] != c[1] {
			t.Errorf("constant %d is %d, not %d", i, c[0], c[1])
		}
	}
}

// What was counted by hand: three slots, their words from 0 on (their Intents at 2, 9 and 16, their Results at 4, 11 and 18), two cells, at 35 and 36, 62 words.
func TestCellStepsOfTheUsualPlan(t *testing.T) {
	anyWords := mixedWords(62, 31)
	with := func(at int64, x uint64) []uint64 { return withWordAt(anyWords, at, x) }
	for i, c := range []struct {
		a    []uint64
		h    impl.Hand
		at   int64
		word uint64
		then func(h *impl.Hand)
	}{
		{with(35, 3<<56|1<<48|6<<32|8), impl.Hand{At: impl.AtCell, Code: impl.OpSee, B: 5, Reply: 9, Out: 7}, 35, 3<<56 | 1<<48 | 6<<32 | 8, func(h *impl.Hand) { h.Seen, h.Reply, h.Out, h.At = 3<<56|1<<48|6<<32|8, impl.RpGot, 6, impl.AtSay }},
		{with(36, 8), impl.Hand{At: impl.AtCell, Code: impl.OpSee, A: 1, Reply: 9, Out: 7}, 36, 8, func(h *impl.Hand) { h.Seen, h.Reply, h.Out, h.At = 8, impl.RpGot, 0, impl.AtSay }},
		{with(35, 1<<48|6<<32|8), impl.Hand{At: impl.AtCell, Code: impl.OpCas, B: 5, C: 9, Reply: 9, Out: 7}, 35, 1<<48 | 6<<32 | 8, func(h *impl.Hand) { h.Seen, h.Reply, h.Out, h.At = 1<<48|6<<32|8, impl.RpNo, 6, impl.AtSay }},
		{with(36, 65535<<32|8), impl.Hand{At: impl.AtCell, Code: impl.OpCas, A: 1, B: 4294967295}, 36, 65535<<32 | 8, func(h *impl.Hand) { h.Seen, h.Reply, h.Out, h.At = 65535<<32|8, impl.RpNo, 65535, impl.AtSay }},
		{with(36, 1<<48|6<<32|8), impl.Hand{At: impl.AtCell, Code: impl.OpCas, A: 1, B: 6, C: 9, Reply: 9, Out: 7}, 36, 1<<48 | 6<<32 | 8, func(h *impl.Hand) { h.Seen, h.At = 1<<48|6<<32|8, impl.AtTry }},
		{with(35, 0), impl.Hand{At: impl.AtCell, Code: impl.OpAdopt, Seen: 7, Reply: 9, Out: 7}, 35, 0, func(h *impl.Hand) { h.Seen, h.At = 0, impl.AtTry }},
		{anyWords, impl.Hand{At: impl.AtTry, Code: impl.OpCas, For: 1, A: 1, B: 6, C: 9, Number: 7, Last: 7, Seen: 1<<48 | 6<<32 | 8, Block: 3, Reply: 9, Out: 7}, 9, 7<<56 | 8, func(h *impl.Hand) {
			h.Last, h.Addr, h.Put, h.Does, h.Good, h.Bad, h.Reply, h.Out, h.At = 8, 36, 1<<48|9<<32|8, impl.DdCas, impl.AtSay, impl.AtCell, impl.RpYes, 0, impl.AtNote
		}},
		{with(35, 5), impl.Hand{At: impl.AtTry, Code: impl.OpCas, For: 2, C: 65535, Last: 4294967294}, 16, 7<<56 | 4294967295, func(h *impl.Hand) {
			h.Last, h.Addr, h.Put, h.Does, h.Good, h.Bad, h.Reply, h.At = 4294967295, 35, 2<<48|65535<<32|4294967295, impl.DdCas, impl.AtSay, impl.AtCell, impl.RpYes, impl.AtNote
		}},
		{anyWords, impl.Hand{At: impl.AtTry}, 2, 7<<56 | 1, func(h *impl.Hand) {
			h.Last, h.Addr, h.Put, h.Does, h.Good, h.Bad, h.Reply, h.At = 1, 35, 1, impl.DdCas, impl.AtSay, impl.AtCell, impl.RpYes, impl.AtNote
		}},
		{with(11, 2<<56|3<<48|7<<32|5), impl.Hand{At: impl.AtAsk, Code: impl.OpAsk, A: 1, B: 5, Out: 9}, 11, 2<<56 | 3<<48 | 7<<32 | 5, func(h *impl.Hand) { h.Reply, h.Out, h.At = impl.RpGot, 7, impl.AtSay }},
		{with(11, 2<<56|7<<32|5), impl.Hand{At: impl.AtAsk, Code: impl.OpAsk, A: 1, B: 4, Out: 9}, 11, 2<<56 | 7<<32 | 5, func(h *impl.Hand) { h.Reply, h.Out, h.At = impl.RpUnknown, 0, impl.AtSay }},
		{with(18, 255<<56|65535<<32|4294967295), impl.Hand{At: impl.AtAsk, Code: impl.OpAsk, For: 1, A: 2, B: 4294967295}, 18, 255<<56 | 65535<<32 | 4294967295, func(h *impl.Hand) { h.Reply, h.Out, h.At = 255, 65535, impl.AtSay }},
		{with(4, 0), impl.Hand{At: impl.AtAsk, Code: impl.OpAsk, Reply: 9, Out: 7}, 4, 0, func(h *impl.Hand) { h.Reply, h.Out, h.At = impl.RpNone, 0, impl.AtSay }},
	} {
		h := c.h
		h.Up, h.In, h.Life = true, true, 3
		want := impl.Done{Arena: withWordAt(c.a, c.at, c.word), Hand: h}
		c.then(&want.Hand)
		what := fmt.Sprint("by hand, ", i)
		for me := range int64(3) {
			celling.wantStep(t, what, usualPlan, c.a, me, h, want, true)
			if !celling.wantTable(t, what, usualPlan, c.a, me, h) {
				t.Fatalf("%s: the table tells otherwise", what)
			}
		}
	}
}

// eachCellRow gives, of each row, hands that may do it, over arenas of all kinds; rounds: how often each of them.
func eachCellRow(p impl.Plan, rounds uint64, f func(a []uint64, me int64, h impl.Hand)) {
	for at := int64(atCell); at <= atAsk; at++ {
		for i := range rounds {
			seed := i*8 + uint64(at)*1000 + uint64(p.Procs)*17 + i/8
			h := cellHand(p, at, seed)
			f(cellArena(p, h, i), int64(seed/3)%p.Procs, h)
		}
	}
}

// Each row by hands that may do it, every field and every word of them; all that is not named stays as it was.
func TestEachCellRow(t *testing.T) {
	for _, p := range somePlans {
		met := map[[2]int64]int{}
		eachCellRow(p, roundsOf(p, 1000), func(a []uint64, me int64, h impl.Hand) {
			if !celling.wantTable(t, "a row", p, a, me, h) {
				t.Fatalf("%+v may not do its row", h)
			}
			then, _ := cellByTable(p, a, h)
			met[[2]int64{h.At, then.Hand.At}]++
			met[[2]int64{h.At, -then.Hand.Reply}]++
		})
		for _, way := range [][2]int64{{atCell, atTry}, {atCell, -replyGot}, {atCell, -replyNo}, {atTry, atNote}, {atAsk, atSay}, {atAsk, -replyUnknown}} {
			if met[way] == 0 && roundsOf(p, 1000) > 100 {
				t.Fatalf("%+v: %v was not gone: %v", p, way, met)
			}
		}
		if met[[2]int64{atAsk, -replyUnknown}] == met[[2]int64{atAsk, atSay}] {
			t.Fatalf("%+v: nothing was known", p)
		}
	}
}

// One word is written, and only where a change is intended: the Intent of For. No deed is told of what is not yet swapped, and no cell is another one.
func TestCellWritesWhatIsIntendedAlone(t *testing.T) {
	for _, p := range somePlans {
		eachCellRow(p, roundsOf(p, 200), func(a []uint64, me int64, h impl.Hand) {
			d, is := impl.CellStep(p, a, me, h)
			if !is || d.Deed != (impl.Deed{}) || !slices.Equal(impl.CellsOf(p, d.Arena), impl.CellsOf(p, a)) {
				t.Fatalf("CellStep(%+v, .., %d, %+v) is %v, %+v", p, me, h, is, d.Deed)
			}
			for at, x := range d.Arena {
				if x != a[at] && (h.At != atTry || int64(at) != slotPlace(h.For, 2)) {
					t.Fatalf("%+v wrote at %d", h, at)
				}
			}
		})
	}
}

// aroundCell has that word in a cell; the roots and cells beside it are all one word.
func aroundCell(p impl.Plan, cell int64, x, beside uint64) yard {
	y := yardOf(p, mixedWords(len(laidOut(p)), x>>7))
	for root := range rootCell + int(p.Cells) {
		y.words[y.rootPlace(root)] = beside
	}
	y.words[y.rootPlace(rootCell+int(cell))] = x
	return y
}

// someCells are the first, the last and one between.
func someCells(p impl.Plan) []int64 {
	return slices.Compact([]int64{0, p.Cells / 2, p.Cells - 1})
}

// By each code: OpSee is told what is there, whatever B is; any other is told so where that is not B, and goes on where it is. B above MaxIndex is never there, not even where its low bits are.
func TestCellByEachCodeAndEachNumber(t *testing.T) {
	t.Parallel()
	for _, p := range somePlans {
		for _, cell := range someCells(p) {
			for code := range int64(topCode + 1) {
				for i, number := range []int64{0, 1, 5, 255, 256, 32768, topIndex - 1, topIndex} {
					for _, b := range []int64{number, 0, 1, number - 1, number + 1, number ^ 256, topIndex, topIndex + 1 + number, number<<16 | number, 1<<31 + number, topSeq, topSeq ^ number} {
						x := []uint64{0, wordOf(topByte, topByte, 0, topSeq), wordOf(1, p.Procs, 0, b&topSeq)}[i%3] | uint64(number)<<32
						h := cellHand(p, atCell, uint64(number*16+b))
						h.A, h.B, h.Code, h.Reply, h.Out = cell, max(0, b), code, 9, 7
						want := h
						want.Seen = x
						switch {
						case code == opSee:
							want.Reply, want.Out, want.At = replyGot, number, atSay
						case h.B != number:
							want.Reply, want.Out, want.At = replyNo, number, atSay
						default:
							want.At = atTry
						}
						y := aroundCell(p, cell, x, []uint64{math.MaxUint64, uint64(h.B) << 32}[i%2])
						celling.wantStep(t, "a cell", p, y.words, 0, h, impl.Done{Arena: y.words, Hand: want}, true)
					}
				}
			}
		}
	}
}

// Only the Index of a cell is its number: whatever else is in it changes nothing but what is seen.
func TestCellOfAnyOtherParts(t *testing.T) {
	for _, p := range somePlans {
		for _, b := range []int64{0, 6, topIndex} {
			for bit := range 64 {
				x := uint64(b)<<32 ^ 1<<bit
				h := cellHand(p, atCell, uint64(bit))
				h.B, h.Code = b, opCas
				want := h
				want.Seen, want.At = x, atTry
				if bit >= 32 && bit < 48 {
					want.Reply, want.Out, want.At = replyNo, b^1<<(bit-32), atSay
				}
				y := aroundCell(p, h.A, x, uint64(b)<<32)
				celling.wantStep(t, "a bit", p, y.words, 0, h, impl.Done{Arena: y.words, Hand: want}, true)
			}
		}
	}
}

// Cells from 0 on up to the last one are read and may be changed; one more there is not, nor is one that would lie in the blocks behind, or ahead of them when some bits are lost.
func TestCellsThatThereAreAndAreNot(t *testing.T) {
	for _, p := range somePlans {
		for _, at := range []int64{atCell, atTry} {
			for _, n := range []int64{0, 1, 2, 7, p.Cells - 1, p.Cells, p.Cells + 1, 8, 9, 10, 255, 256, 257, 32768, topIndex - 5, topIndex - 4, topIndex} {
				for seed := range uint64(12) {
					h := cellHand(p, at, seed)
					h.A = n
					if is := celling.wantTable(t, "a cell", p, cellArena(p, h, seed), 0, h); is != (n < p.Cells) {
						t.Fatalf("cell %d of %+v, %+v is %v", n, p, h, is)
					}
				}
			}
		}
	}
}

// Each cell has a place of its own, and it is that one which is taken: at every cell of every plan.
func TestCellStepsAtEveryPlan(t *testing.T) {
	t.Parallel()
	eachRightPlan(func(p impl.Plan) {
		y := zeroYard(p)
		for cell := range p.Cells {
			y.setRoot(rootCell+int(cell), 100+cell)
		}
		y.words[slotPlace(p.Procs-1, 4)] = wordOf(3, 0, 7, 9)
		for _, h := range []impl.Hand{
			{At: atCell, Code: opSee, A: 0}, {At: atCell, Code: opSee, A: p.Cells - 1}, {At: atCell, Code: opCas, A: p.Cells - 1, B: 99 + p.Cells}, {At: atCell, Code: opCas, A: p.Cells, B: 0},
			{At: atTry, Code: opCas, A: 0, C: 8}, {At: atTry, Code: opCas, A: p.Cells - 1, C: 8}, {At: atTry, Code: opCas, A: p.Cells, C: 8},
			{At: atAsk, Code: opAsk, A: p.Procs - 1, B: 9}, {At: atAsk, Code: opAsk, A: 0, B: 8}, {At: atAsk, Code: opAsk, A: p.Procs},
		} {
			h.Up, h.Life, h.For, h.Last = true, 1, p.Procs-1, 6
			d, is := impl.CellStep(p, y.words, 0, h)
			want, wantIs := cellByTable(p, y.words, h)
			if is != wantIs || d.Hand != want.Hand || d.Deed != want.Deed || !slices.Equal(d.Arena, want.Arena) {
				t.Fatalf("%+v: CellStep of %+v is %+v, %+v, %v", p, h, d.Hand, d.Deed, is)
			}
		}
	})
}

// A Plan without cells is not right, and one with more than there may be is not: nothing is done, not even where no cell is asked for.
func TestCellStepsOfPlansWithNoCellsOrTooMany(t *testing.T) {
	for _, p := range somePlans {
		for _, cells := range []int64{0, -1, 9, 10} {
			q := p
			q.Cells = cells
			size := int64(len(laidOut(p))) - p.Cells + cells
			for at := int64(atCell); at <= atAsk; at++ {
				for _, n := range []int64{0, 1, 8} {
					h := impl.Hand{Up: true, Life: 1, At: at, Code: opCas, A: n}
					celling.wantNone(t, "no such plan", q, make([]uint64, size), 0, h)
					celling.wantNone(t, "no such plan", q, impl.Blank(p), 0, h)
				}
			}
		}
	}
}

// What is tried is readied whatever the cell is by then and whatever the code: what was seen stays what it was, and what is put has the slot's own number, no Kind, and C, however great.
func TestTryReadiesTheSwap(t *testing.T) {
	t.Parallel()
	for _, p := range somePlans {
		for _, slot := range someSlots(p) {
			for _, cell := range someCells(p) {
				for i, number := range []int64{0, 1, 255, 256, 32768, topIndex} {
					for _, last := range []int64{0, 9, topTag, 1<<31 - 1, topSeq - 1} {
						h := cellHand(p, atTry, uint64(last+number*3+slot))
						h.For, h.A, h.C, h.Last, h.Code = slot, cell, number, last, (slot+last+int64(i))%(topCode+1)
						h.Seen = []uint64{0, math.MaxUint64, wordOf(0, slot, number, last)}[i%3]
						want := h
						want.Last, want.Addr, want.Put = last+1, int64(yard{p: p}.rootPlace(rootCell+int(cell))), wordOf(0, slot, number, last+1)
						want.Does, want.Good, want.Bad, want.Reply, want.Out, want.At = deedCas, atSay, atCell, replyYes, 0, atNote
						for _, x := range []uint64{h.Seen, ^h.Seen} {
							y := aroundCell(p, cell, x, ^x)
							then := withWordAt(y.words, slotPlace(slot, 2), wordOf(intentCas, 0, 0, last+1))
							celling.wantStep(t, "tried", p, y.words, (slot+1)%p.Procs, h, impl.Done{Arena: then, Hand: want}, true)
						}
					}
				}
			}
		}
	}
}

// One more than MaxSeq is no right number: nothing is tried then. Who only looks needs none.
func TestCellsWithLastAtItsEnd(t *testing.T) {
	for _, p := range somePlans {
		for at := int64(atCell); at <= atAsk; at++ {
			for _, last := range []int64{0, 1, topTag, topTag + 1, 1 << 31, topSeq - 1, topSeq} {
				for seed := range uint64(6) {
					h := cellHand(p, at, seed)
					h.Last = last
					if is := celling.wantTable(t, "Last at its end", p, cellArena(p, h, seed), 0, h); is != (at != atTry || last < topSeq) {
						t.Fatalf("%+v of %+v is %v", h, p, is)
					}
				}
			}
		}
	}
}

// tried has a hand of a slot that has seen a word in a cell and is about to change it, and the arena that it has tried over.
func tried(t *testing.T, p impl.Plan, slot, cell int64, seen, beside uint64) process {
	t.Helper()
	x := process{yard: aroundCell(p, cell, seen, beside), slot: slot}
	x.h = impl.Hand{Up: true, In: true, Life: 1, At: atTry, Code: opCas, For: slot, A: cell, B: int64(seen >> 32 & 65535), C: 77, Number: 5, Last: 6, Seen: seen}
	x.step(t)
	return x
}

// A cell that is another word by then is not changed, be it another one by its Index, its Pid, its Kind or its Seq alone: the slot goes back to look. One that is the same is changed, and nothing else is.
func TestACellIsChangedFromTheWholeWordThatWasSeen(t *testing.T) {
	t.Parallel()
	for _, p := range somePlans {
		for _, slot := range someSlots(p) {
			for _, cell := range someCells(p) {
				for _, seen := range []uint64{0, wordOf(0, p.Procs-1, 6, 3), wordOf(0, 0, topIndex, topSeq)} {
					for bit := -1; bit < 64; bit++ {
						x := tried(t, p, slot, cell, seen, seen)
						note := notePlace(p, int64(seen>>48&255), slot)
						x.words[note] = 0
						now, was := seen, x.h
						if bit >= 0 {
							now ^= 1 << bit
						}
						place := int64(x.rootPlace(rootCell + int(cell)))
						x.words[place] = now
						then := withWordAt(x.words, note, max(x.words[note], seen&topSeq))
						for x.h.At != atSwap {
							x.step(t)
						}
						wantWords(t, "ahead of the swap", then, x.words)
						x.step(t)
						var deeds []impl.Deed
						was.At = atCell
						if bit < 0 {
							was.At = atSay
							then[place] = wordOf(0, slot, 77, 7)
							deeds = []impl.Deed{{Kind: deedCas, Slot: slot, Number: 5, Item: cell, Value: 77}}
						}
						wantWords(t, "behind the swap", then, x.words)
						if x.h != was || !slices.Equal(x.deeds, deeds) {
							t.Fatalf("%+v: from %#x at %#x it is %+v, and %+v is told", p, seen, now, x.h, x.deeds)
						}
					}
				}
			}
		}
	}
}

// The result is known of the one call that its Seq names, and of no other one; all its Kinds and Indexes are told, whatever its Pid is.
func TestAskAtEachResult(t *testing.T) {
	t.Parallel()
	for _, p := range somePlans {
		for _, slot := range someSlots(p) {
			for _, number := range []int64{0, 1, 2, 255, 256, topIndex, topIndex + 1, topTag, 1 << 31, topSeq - 1, topSeq} {
				for _, b := range []int64{number, number - 1, number + 1, number ^ 1<<16, number ^ 1<<31, number & topIndex, 0, topSeq} {
					for i, index := range []int64{0, 1, 7, 256, topIndex} {
						if b < 0 || b > topSeq {
							continue
						}
						kind := (number + b + int64(i)*5) % 15
						h := cellHand(p, atAsk, uint64(number*3+b))
						h.A, h.B, h.Code, h.Reply, h.Out = slot, b, (kind+slot)%(topCode+1), 9, 7
						want := h
						want.Reply, want.Out, want.At = replyUnknown, 0, atSay
						if b == number {
							want.Reply, want.Out = kind, index
						}
						y := yardOf(p, slices.Repeat([]uint64{wordOf(9, 9, 9, b)}, len(laidOut(p))))
						y.words[slotPlace(slot, 4)] = wordOf(kind, []int64{0, slot, topByte}[i%3], index, number)
						celling.wantStep(t, "asked", p, y.words, 0, h, impl.Done{Arena: y.words, Hand: want}, true)
					}
				}
			}
		}
	}
}

// Every bit of the Result: those of its Kind and its Index are told, its Pid has no say, and any one of its Seq makes it another call's.
func TestAskAtEveryBitOfAResult(t *testing.T) {
	for _, p := range somePlans {
		for _, x := range []uint64{0, wordOf(2, 0, 7, 5), math.MaxUint64} {
			for bit := range 64 {
				h := cellHand(p, atAsk, x>>3+uint64(bit))
				h.B = int64(x & topSeq)
				y := yardOf(p, slices.Repeat([]uint64{x}, len(laidOut(p))))
				now := x ^ 1<<bit
				y.words[slotPlace(h.A, 4)] = now
				want := h
				want.Reply, want.Out, want.At = int64(now>>56), int64(now>>32&65535), atSay
				if bit < 32 {
					want.Reply, want.Out = replyUnknown, 0
				}
				celling.wantStep(t, "a bit", p, y.words, 0, h, impl.Done{Arena: y.words, Hand: want}, true)
			}
		}
	}
}

func TestAskOfEveryKind(t *testing.T) {
	for _, p := range somePlans {
		for kind := range int64(topByte + 1) {
			h := cellHand(p, atAsk, uint64(kind))
			a := withWordAt(mixedWords(len(laidOut(p)), 3), slotPlace(h.A, 4), wordOf(kind, kind, kind*257, h.B))
			want := h
			want.Reply, want.Out, want.At = kind, kind*257, atSay
			celling.wantStep(t, "a kind", p, a, 0, h, impl.Done{Arena: a, Hand: want}, true)
		}
	}
}

// Slots from 0 on up to the last one can be asked about, and no other: the words behind the slots are none of theirs.
func TestAskOfSlotsThatThereAreAndAreNot(t *testing.T) {
	for _, p := range somePlans {
		for _, n := range []int64{0, 1, p.Procs - 1, p.Procs, p.Procs + 1, 63, 64, 255, 256, 257, 32768, topIndex} {
			for seed := range uint64(6) {
				h := cellHand(p, atAsk, seed)
				h.A = n
				for _, a := range [][]uint64{cellArena(p, h, seed), slices.Repeat([]uint64{uint64(h.B)}, len(laidOut(p)))} {
					if is := celling.wantTable(t, "a slot", p, a, 0, h); is != (n < p.Procs) {
						t.Fatalf("slot %d of %+v is asked about: %v", n, p, is)
					}
				}
			}
		}
	}
}

// What the rows have no use for has no say, however great: Kept, and the places of other swaps.
func TestCellsWithOtherNumbersAtTheirEnds(t *testing.T) {
	for _, p := range somePlans {
		for at := int64(atCell); at <= atAsk; at++ {
			h := fullHand(p)
			h.At, h.A, h.Last = at, 0, topSeq-1
			for _, code := range []int64{opCas, opSee, opAsk, opAdopt} {
				h.Code = code
				for seed := range uint64(6) {
					if !celling.wantTable(t, "full", p, cellArena(p, h, seed), 0, h) {
						t.Fatalf("%+v of %+v may not do its row", h, p)
					}
				}
			}
		}
	}
}

func (x *process) wantCells(t *testing.T, want []int64) {
	t.Helper()
	if got := impl.CellsOf(x.p, x.words); !slices.Equal(got, want) || !slices.Equal(x.cells(), want) {
		t.Fatalf("%+v: the cells are %v, by CellsOf %v, and should be %v", x.p, x.cells(), got, want)
	}
}

// cas asks for a change of a cell, alone, and holds every word that is then; false where the cell is not what it should be.
func (x *process) cas(t *testing.T, cell, old, new int64) bool {
	t.Helper()
	then, last, kept, cells := x.copied(), x.h.Last, x.h.Kept, x.cells()
	reply, out := x.call(t, opCas, cell, old, new)
	is := cells[cell] == old
	if is {
		x.wantTold(t, reply, out, replyYes, 0)
		opened(then.words, x.slot, opCas, cell, last, 3, replyYes, 0)
		then.swapped(x.slot, rootCell+int(cell), new, last+2)
		x.wantEnd(t, "changed", then.words, last+3, []impl.Deed{{Kind: deedCas, Slot: x.slot, Number: last + 1, Item: cell, Value: new}})
		cells[cell] = new
	} else {
		x.wantTold(t, reply, out, replyNo, cells[cell])
		opened(then.words, x.slot, opCas, cell, last, 2, replyNo, cells[cell])
		x.wantEnd(t, "not changed", then.words, last+2, nil)
	}
	x.wantCells(t, cells)
	if x.h.Kept != kept {
		t.Fatalf("%d were kept, and %d are", kept, x.h.Kept)
	}
	return is
}

// see reads a cell, alone, likewise.
func (x *process) see(t *testing.T, cell int64) {
	t.Helper()
	then, last, cells := x.copied(), x.h.Last, x.cells()
	reply, out := x.call(t, opSee, cell, 0, 0)
	x.wantTold(t, reply, out, replyGot, cells[cell])
	opened(then.words, x.slot, opSee, cell, last, 2, replyGot, cells[cell])
	x.wantEnd(t, "read", then.words, last+2, nil)
	x.wantCells(t, cells)
}

// ask asks what became of a call, alone, likewise.
func (x *process) ask(t *testing.T, slot, number, wantReply, wantOut int64) {
	t.Helper()
	then, last, cells := x.copied(), x.h.Last, x.cells()
	reply, out := x.call(t, opAsk, slot, number, 0)
	x.wantTold(t, reply, out, wantReply, wantOut)
	opened(then.words, x.slot, opAsk, slot, last, 2, wantReply, wantOut)
	x.wantEnd(t, "asked", then.words, last+2, nil)
	x.wantCells(t, cells)
}

// Promise 12: a cell that is what it should be is changed, and one that is not is left; the other cells stay. From every number to every number, and from every other number.
func TestWhoChangesCellsAlone(t *testing.T) {
	t.Parallel()
	numbers := []int64{0, 1, 2, 255, 256, 32768, topIndex - 1, topIndex}
	for _, p := range somePlans {
		slots := someSlots(p)
		if len(laidOut(p)) > 1000 {
			slots = slots[len(slots)-1:]
		}
		for _, slot := range slots {
			x := processOf(p, slot, impl.Blank(p), 4)
			for _, cell := range someCells(p) {
				for _, old := range numbers {
					for _, new := range numbers {
						if !x.cas(t, cell, x.cells()[cell], old) || x.cas(t, cell, old^1, new) || !x.cas(t, cell, old, new) || x.cas(t, cell, old, new) != (old == new) {
							t.Fatalf("%+v: cell %d is not changed from %d to %d as it should be", p, cell, old, new)
						}
						x.see(t, cell)
					}
				}
			}
		}
	}
}

// Several changes of one cell and of several: each is from what the one ahead of it put, and those of other cells have no say.
func TestSeveralChangesOfOneCellAndOfSeveral(t *testing.T) {
	for _, p := range somePlans {
		x := processOf(p, p.Procs-1, impl.Blank(p), 900)
		for round := range int64(12) {
			for cell := range p.Cells {
				now := round * 100
				if round > 0 {
					now += cell
				}
				if !x.cas(t, cell, now, now) || x.cas(t, cell, now+1, 3) || !x.cas(t, cell, now, (round+1)*100+cell) || x.cas(t, cell, now, 4) {
					t.Fatalf("%+v: cell %d is not changed as it should be in round %d", p, cell, round)
				}
			}
			want := rising((round+1)*100, (round+1)*100+p.Cells-1)
			x.wantCells(t, want)
		}
	}
}

// A cell that is changed to what it is already is another word then: it bears who did so.
func TestAChangeToTheSameNumber(t *testing.T) {
	for _, p := range somePlans {
		x := processOf(p, p.Procs-1, impl.Blank(p), 10)
		at := x.rootPlace(rootCell)
		for range 5 {
			was, last := x.words[at], x.h.Last
			if !x.cas(t, 0, 0, 0) || x.words[at] == was || x.words[at] != wordOf(0, p.Procs-1, 0, last+2) {
				t.Fatalf("%+v: the cell was %#x and is %#x", p, was, x.words[at])
			}
		}
	}
}

// Who asks about its own slot is told of the call ahead, by its number alone; the one behind that is no longer known, and the one that asks is not yet.
func TestWhoAsksAboutItsOwnCalls(t *testing.T) {
	for _, p := range somePlans {
		for _, slot := range someSlots(p) {
			x := processOf(p, slot, impl.Blank(p), 4)
			x.ask(t, slot, 5, replyUnknown, 0)
			x.ask(t, slot, 5, replyUnknown, 0)
			x.ask(t, slot, x.h.Last-1, replyUnknown, 0)
			first := x.h.Last + 1
			x.see(t, 0)
			x.ask(t, slot, first, replyGot, 0)
			second := x.h.Last + 1
			x.cas(t, 0, 0, 65)
			x.ask(t, slot, second, replyYes, 0)
			third := x.h.Last + 1
			x.cas(t, 0, 0, 66)
			x.ask(t, slot, third, replyNo, 65)
			fourth := x.h.Last - 1
			x.ask(t, slot, fourth, replyNo, 65)
			for _, number := range []int64{first, second, third, fourth, x.h.Last, x.h.Last + 1, topSeq} {
				x.ask(t, slot, number, replyUnknown, 0)
			}
		}
	}
}

// Another slot's call is known from the moment on in which it was told, to the moment in which its next one is; step by step, of calls of all kinds.
func TestWhoAsksAboutAnotherSlotsCalls(t *testing.T) {
	t.Parallel()
	for _, p := range []impl.Plan{usualPlan, noLarge, {Procs: 2, Small: 3, Large: 0, Cells: 1, Keep: 2}} {
		x, y := processOf(p, 1, impl.Blank(p), 40), processOf(p, 0, nil, 600)
		knownNumber, knownReply, knownOut := int64(0), int64(0), int64(0)
		for _, o := range []order{
			{opCas, [3]int64{0, 0, 9}}, {opSee, [3]int64{0}}, {opCas, [3]int64{0, 3, 4}}, {opAlloc, [3]int64{0}}, {opPush, [3]int64{0, 12}}, {opPop, [3]int64{}}, {opDeq, [3]int64{}},
			{opScan, [3]int64{}}, {opEnq, [3]int64{0, topIndex}}, {opDeq, [3]int64{}}, {opAsk, [3]int64{1, 1}}, {opAsk, [3]int64{0, 600}}, {opFree, [3]int64{1}}, {opWrite, [3]int64{1, 0, 5}},
		} {
			x.begin(t, o.code, o.args[0], o.args[1], o.args[2])
			number := x.h.Last + 1
			for x.h.At != 0 {
				isTold := x.h.At == atSay
				x.step(t)
				if isTold {
					knownNumber, knownReply, knownOut = number, x.h.Reply, x.h.Out
				}
				y.yard = x.yard
				if knownNumber > 0 {
					y.ask(t, 1, knownNumber, knownReply, knownOut)
				}
				if number != knownNumber {
					y.ask(t, 1, number, replyUnknown, 0)
				}
				y.ask(t, 1, number+1, replyUnknown, 0)
				x.yard = y.yard
			}
			x.h = impl.Resting(x.h)
		}
	}
}

// overtake has another one ask for changes of the cell, each of which is done.
func (x *process) overtake(t *testing.T, cell int64, numbers ...int64) {
	t.Helper()
	for i, n := range numbers[1:] {
		if !x.cas(t, cell, numbers[i], n) {
			t.Fatalf("%+v: cell %d is not %d", x.p, cell, numbers[i])
		}
	}
}

// The cell is changed by another one, and by some of them changed back: who is about to swap looks again then, and is told no, or tries once more.
func TestWhoIsOvertakenAtACell(t *testing.T) {
	for _, p := range []impl.Plan{usualPlan, noLarge, {Procs: 2, Small: 1, Large: 0, Cells: 1, Keep: 1}, mostPlan} {
		for _, cell := range someCells(p) {
			for _, till := range []int64{atOpen, atCell, atTry, atNote, atSwap} {
				for _, way := range [][]int64{{0, 7}, {0, 5}, {0, 0}, {0, 7, 0}, {0, 5, 7, 0}, {0, 7, 8, 5}} {
					first, second := processOf(p, 0, impl.Blank(p), 0), processOf(p, 1, nil, 50)
					first.begin(t, opCas, cell, 0, 5)
					for first.h.At != till {
						first.step(t)
					}
					second.yard = first.yard
					second.overtake(t, cell, way...)
					first.yard = second.yard
					now, tries := way[len(way)-1], 0
					for first.h.At != 0 {
						if first.h.At == atTry {
							tries++
						}
						first.step(t)
					}
					wantReply, wantOut, wantTries, deeds := int64(replyNo), now, 0, 0
					if now == 0 {
						wantReply, wantOut, wantTries, deeds, now = replyYes, 0, 1, 1, 5
					}
					if till == atTry {
						wantTries++
					}
					first.wantTold(t, first.h.Reply, first.h.Out, wantReply, wantOut)
					if tries != wantTries || len(first.deeds) != deeds {
						t.Fatalf("%+v: at %d, %v: %d tries, %+v", p, till, way, tries, first.deeds)
					}
					want := make([]int64, p.Cells)
					want[cell] = now
					first.wantCells(t, want)
				}
			}
		}
	}
}

// What one changes another one sees and changes, and its note tells of whom it was there from.
func TestWhatOneChangesAnotherSees(t *testing.T) {
	for _, p := range []impl.Plan{usualPlan, noLarge, mostPlan} {
		for _, one := range someSlots(p) {
			for _, other := range someSlots(p) {
				x, y := processOf(p, one, impl.Blank(p), 30), processOf(p, other, nil, 900)
				if one == other {
					continue
				}
				cell := p.Cells - 1
				x.cas(t, cell, 0, 11)
				y.yard = x.yard
				y.see(t, cell)
				if y.cas(t, cell, 0, 12) || !y.cas(t, cell, 11, 12) {
					t.Fatalf("%+v: slot %d does not see what slot %d has put", p, other, one)
				}
				if note := y.words[notePlace(p, one, other)]; note != 32 {
					t.Fatalf("%+v: the note about slot %d by %d is %d", p, one, other, note)
				}
				x.yard = y.yard
				x.see(t, cell)
				if x.cas(t, cell, 11, 13) || !x.cas(t, cell, 12, 13) {
					t.Fatalf("%+v: slot %d does not see what slot %d has put", p, one, other)
				}
			}
		}
	}
}

// Every way in which the steps of two or three can fall: the cells are as the deeds have them at each moment, and who is told what one is is told what it is then.
func TestEveryWayAtTheCells(t *testing.T) {
	t.Parallel()
	cas := func(cell, old, new int64) task { return toCall(opCas, cell, old, new) }
	two := impl.Plan{Procs: 2, Small: 2, Large: 0, Cells: 2, Keep: 1}
	three := impl.Plan{Procs: 3, Small: 1, Large: 0, Cells: 1, Keep: 1}
	for i, c := range []struct {
		p     impl.Plan
		tasks [][]task
	}{
		{two, [][]task{{cas(0, 0, 1)}, {cas(0, 0, 2)}}},
		{two, [][]task{{cas(0, 0, 1)}, {cas(0, 1, 2)}}},
		{two, [][]task{{cas(0, 0, 1)}, {cas(0, 0, 1), cas(0, 1, 0)}}},
		{two, [][]task{{cas(0, 0, 1), cas(0, 1, 2)}, {cas(0, 0, 1), cas(0, 1, 2), toCall(opSee, 0)}}},
		{two, [][]task{{cas(0, 0, 1), cas(1, 0, 1)}, {cas(1, 0, 2), cas(0, 0, 2), toCall(opSee, 1)}}},
		{two, [][]task{{cas(0, 0, 0), toCall(opAsk, 1, 1)}, {cas(0, 0, 0), toCall(opAsk, 0, 1), toCall(opAsk, 1, 1)}}},
		{two, [][]task{{toCall(opPush, 0, 7), cas(0, 0, 1)}, {toCall(opPop), cas(0, 0, 2)}}},
		{three, [][]task{{cas(0, 0, 1)}, {cas(0, 1, 0)}, {cas(0, 0, 2)}}},
		{three, [][]task{{cas(0, 0, 1)}, {cas(0, 0, 2)}, {toCall(opSee, 0), toCall(opAsk, 0, 1)}}},
	} {
		y := yardOf(c.p, impl.Blank(c.p))
		if n := wantEveryWay(t, y, crowdOf(y, c.tasks), c.tasks); n < 100 {
			t.Fatalf("few %d: %d moments", i, n)
		}
	}
}

// Many of them in a mixed order, for long; some push and pop, put in and get out, or take blocks and give them back, beside it.
func TestManyAtTheCells(t *testing.T) {
	t.Parallel()
	for _, p := range []impl.Plan{usualPlan, noLarge, {Procs: 6, Small: 9, Large: 2, Cells: 1, Keep: 3}} {
		for seed := range uint64(6) {
			codes := []int64{opCas, opCas, opCas, opSee, opAsk}
			if seed%2 == 1 {
				codes = append(codes, opPush, opPop, opEnq, opDeq, opScan)
			}
			tasks := mixedTasks(p, seed, codes...)
			if n := wantMany(t, yardOf(p, impl.Blank(p)), tasks, seed); n < 400*int(p.Procs) {
				t.Fatalf("%+v: %d moments", p, n)
			}
		}
	}
}
