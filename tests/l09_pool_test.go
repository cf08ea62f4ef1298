package tests

import (
	"fmt"
	"maps"
	"math"
	"slices"
	"testing"

	"loop.example/g00650/impl"
)

// The numbers are written out here, so that a changed constant is seen.
const (
	atFree  = 9
	atUnder = 10
	atWant  = 11
	atHold  = 12
	atFill  = 13
	atMine  = 14
	atStore = 15
	atFetch = 16
	atYield = 17
	atLoose = 18
	atList  = 19
	atChain = 20
	atAim   = 21
	atErase = 64
	atSweep = 67
	atScan  = 69

	opAlloc = 2
	opFree  = 3
	opWrite = 4
	opLoad  = 5
	opPush  = 6

	intentTake = 1
	intentGive = 2

	replyOk   = 1
	replyGot  = 2
	replyFull = 4
	replyBad  = 7

	deedTake = 1
	deedGive = 2
)

// A poolRow is a row of the document's table over a yard; each of its methods tells whether there is something to do.
type poolRow struct {
	yard
	h impl.Hand
}

func poolByTable(p impl.Plan, a []uint64, h impl.Hand) (impl.Done, bool) {
	r, is := poolRow{yardOf(p, a), h}, false
	switch {
	case h.At <= atFill:
		is = r.take()
	case h.At <= atFetch:
		is = r.use()
	default:
		is = r.give()
	}
	if !is {
		return impl.Done{}, false
	}
	return impl.Done{Arena: r.words, Hand: r.h}, true
}

func (r *poolRow) take() bool {
	class := int64(0)
	if r.h.Code == opAlloc {
		class = r.h.A
	}
	switch r.h.At {
	case atFree:
		if class > 1 {
			return false
		}
		root := r.rootPlace(int(class))
		r.h.Seen = r.words[root]
		if r.index(root) == 0 {
			return r.say(replyFull, 0)
		}
		r.h.Block = r.index(root)
		return r.then(atUnder)
	case atUnder:
		if !r.has(r.h.Block) {
			return false
		}
		r.h.Next = r.index(r.linkPlace(r.h.Block))
		return r.then(atWant)
	case atWant:
		if class > 1 || !r.intend(intentTake) {
			return false
		}
		r.swapAt(class, r.h.Next, deedTake, atHold, atFree)
		return true
	case atHold:
		if !r.put(0, wordOf(kindHeld, r.h.For, 0, 0)) {
			return false
		}
		if r.h.Code == opAlloc {
			return r.say(replyOk, r.h.Block)
		}
		return r.then(atFill)
	}
	return r.h.B <= topIndex && r.put(2, wordOf(0, 0, r.h.B, 0)) && r.then(atAim)
}

func (r *poolRow) use() bool {
	switch r.h.At {
	case atMine:
		if !r.has(r.h.A) {
			return false
		}
		head := r.words[r.heads[r.h.A-1]]
		if head>>48 != kindHeld<<8|uint64(r.h.For) {
			return r.say(replyBad, 0)
		}
		r.h.Block = r.h.A
		switch r.h.Code {
		case opFree:
			return r.then(atYield)
		case opWrite:
			return r.then(atStore)
		}
		return r.then(atFetch)
	case atStore:
		return r.hasValue() && r.put(2+r.h.B, wordOf(0, 0, r.h.C, 0)) && r.say(replyOk, 0)
	}
	return r.hasValue() && r.say(replyGot, r.index(r.valuePlace(r.h.Block)+int(r.h.B)))
}

func (r *poolRow) give() bool {
	switch r.h.At {
	case atYield:
		return r.intend(intentGive) && r.then(atLoose)
	case atLoose:
		return r.put(0, 0) && r.then(atList)
	case atList:
		if !r.has(r.h.Block) {
			return false
		}
		r.h.Seen = r.words[r.rootPlace(int(r.class()))]
		return r.then(atChain)
	}
	if !r.put(1, wordOf(0, 0, int64(r.h.Seen>>32&65535), 0)) {
		return false
	}
	good := int64(atSweep)
	switch {
	case r.h.Code == opFree:
		good = atSay
		r.h.Reply, r.h.Out = replyOk, 0
	case r.h.Code == opScan:
		good = atScan
	case r.h.Index == 0:
		good = atErase
	}
	r.swapAt(r.class(), r.h.Block, deedGive, good, atList)
	return true
}

func (r *poolRow) has(block int64) bool { return block >= 1 && block <= r.blocks() }

func (r *poolRow) class() int64 {
	if r.h.Block > r.p.Small {
		return 1
	}
	return 0
}

func (r *poolRow) hasValue() bool {
	return r.has(r.h.Block) && r.h.B <= 2*r.class()
}

func (r *poolRow) then(at int64) bool {
	r.h.At = at
	return true
}

func (r *poolRow) say(reply, out int64) bool {
	r.h.Reply, r.h.Out = reply, out
	return r.then(atSay)
}

// put writes a field of the hand's block.
func (r *poolRow) put(field int64, x uint64) bool {
	if !r.has(r.h.Block) {
		return false
	}
	r.words[r.heads[r.h.Block-1]+int(field)] = x
	return true
}

func (r *poolRow) intend(kind int64) bool {
	if r.h.Last == topSeq {
		return false
	}
	r.h.Last++
	r.words[slotPlace(r.h.For, 2)] = wordOf(kind, 0, r.h.Block, r.h.Last)
	return true
}

func (r *poolRow) swapAt(class, index, does, good, bad int64) {
	r.h.Addr = int64(r.rootPlace(int(class)))
	r.h.Put = wordOf(0, r.h.For, index, r.h.Last)
	r.h.Does, r.h.Good, r.h.Bad = does, good, bad
	r.then(atNote)
}

// poolHand is right, full of numbers, and At a row that it may do.
func poolHand(p impl.Plan, at int64, seed uint64) impl.Hand {
	h := mixedRightHand(p, seed)
	h.At = at
	if seed%4 != 0 {
		h.Code = []int64{opAlloc, opFree, opWrite, opLoad, opPush, opScan}[seed/4%6]
	}
	h.Last = min(h.Last, topSeq-1)
	h.Block = 1 + h.Block%(p.Small+p.Large)
	switch at {
	case atFree, atWant:
		h.A %= 2
	case atFill:
		h.B %= topIndex + 1
	case atMine:
		h.A = 1 + h.A%(p.Small+p.Large)
	case atStore, atFetch:
		h.B %= valuesOf(p, h.Block)
	}
	return h
}

func valuesOf(p impl.Plan, block int64) int64 {
	if block > p.Small {
		return 3
	}
	return 1
}

// poolArena has any words; now and then no block is free, and the block that is asked for is held by the slot, or is of another Kind by it.
func poolArena(p impl.Plan, h impl.Hand, seed uint64) []uint64 {
	y := yardOf(p, mixedWords(len(laidOut(p)), seed+5))
	if seed%3 == 0 {
		y.words[y.rootPlace(rootSmall)] &^= 65535 << 32
	}
	if seed%4 == 0 {
		y.words[y.rootPlace(rootLarge)] &^= 65535 << 32
	}
	if h.A >= 1 && h.A <= y.blocks() && seed%4 != 3 {
		kind := []uint64{kindHeld, kindHeld, seed / 4 % 5}[seed%4]
		head := &y.words[y.heads[h.A-1]]
		*head = *head<<16>>16 | kind<<56 | uint64(h.For)<<48
	}
	return y.words
}

func TestPoolConstants(t *testing.T) {
	for i, c := range [][2]int64{
		{impl.AtFree, atFree}, {impl.AtUnder, atUnder}, {impl.AtWant, atWant}, {impl.AtHold, atHold}, {impl.AtFill, atFill}, {impl.AtMine, atMine},
		{impl.AtStore, atStore}, {impl.AtFetch, atFetch}, {impl.AtYield, atYield}, {impl.AtLoose, atLoose}, {impl.AtList, atList}, {impl.AtChain, atChain},
		{impl.AtAim, atAim}, {impl.AtErase, atErase}, {impl.AtSweep, atSweep}, {impl.AtScan, atScan},
		{impl.OpAlloc, opAlloc}, {impl.OpFree, opFree}, {impl.OpWrite, opWrite}, {impl.OpLoad, opLoad}, {impl.OpPush, opPush},
		{impl.InTake, intentTake}, {impl.InGive, intentGive}, {impl.DdTake, deedTake}, {impl.DdGive, deedGive},
		{impl.RpOk, replyOk}, {impl.RpGot, replyGot}, {impl.RpFull, replyFull}, {impl.RpBad, replyBad},
	} {
		if c[0] != c[1] {
			t.Errorf("constant %d is %d, not %d", i, c[0], c[1])
		}
	}
}

// What was counted by hand: three slots, their words from 0 on, the roots from 30 on, the small blocks 1 to 5 from 37 on, the large ones, 6 and 7, from 52 on, 62 words.
func TestPoolStepsOfTheUsualPlan(t *testing.T) {
	anyWords := mixedWords(62, 21)
	with := func(at int64, x uint64) []uint64 { return withWordAt(anyWords, at, x) }
	for i, c := range []struct {
		a    []uint64
		h    impl.Hand
		at   int64
		word uint64
		then func(h *impl.Hand)
	}{
		{with(30, 3<<56|1<<48|4<<32|8), impl.Hand{At: impl.AtFree, Code: impl.OpAlloc, Block: 2}, 30, 3<<56 | 1<<48 | 4<<32 | 8,
			func(h *impl.Hand) { h.Seen, h.Block, h.At = 3<<56|1<<48|4<<32|8, 4, impl.AtUnder }},
		{with(31, 7<<32), impl.Hand{At: impl.AtFree, Code: impl.OpAlloc, A: 1}, 31, 7 << 32,
			func(h *impl.Hand) { h.Seen, h.Block, h.At = 7<<32, 7, impl.AtUnder }},
		{with(30, 5<<32), impl.Hand{At: impl.AtFree, Code: impl.OpPush, A: 1}, 30, 5 << 32,
			func(h *impl.Hand) { h.Seen, h.Block, h.At = 5<<32, 5, impl.AtUnder }},
		{with(30, 65535<<32), impl.Hand{At: impl.AtFree, Code: impl.OpEnq, A: 1}, 30, 65535 << 32,
			func(h *impl.Hand) { h.Seen, h.Block, h.At = 65535<<32, 65535, impl.AtUnder }},
		{with(30, 3<<56|1<<48|8), impl.Hand{At: impl.AtFree, Code: impl.OpPush, Block: 2, Reply: 9, Out: 5}, 30, 3<<56 | 1<<48 | 8,
			func(h *impl.Hand) { h.Seen, h.Reply, h.Out, h.At = 3<<56|1<<48|8, impl.RpFull, 0, impl.AtSay }},
		{with(31, 0), impl.Hand{At: impl.AtFree, Code: impl.OpAlloc, A: 1, Seen: 6}, 31, 0,
			func(h *impl.Hand) { h.Seen, h.Reply, h.At = 0, impl.RpFull, impl.AtSay }},
		{with(41, 255<<56|3<<32|9), impl.Hand{At: impl.AtUnder, Block: 2, Next: 8}, 41, 255<<56 | 3<<32 | 9, func(h *impl.Hand) { h.Next, h.At = 3, impl.AtWant }},
		{with(53, 7<<32), impl.Hand{At: impl.AtUnder, Block: 6, Code: impl.OpAlloc}, 53, 7 << 32, func(h *impl.Hand) { h.Next, h.At = 7, impl.AtWant }},
		{with(58, 1<<48|1), impl.Hand{At: impl.AtUnder, Block: 7, Next: 8}, 58, 1<<48 | 1, func(h *impl.Hand) { h.Next, h.At = 0, impl.AtWant }},
		{anyWords, impl.Hand{At: impl.AtWant, Code: impl.OpAlloc, A: 1, For: 2, Block: 6, Next: 7, Last: 9}, 16, 1<<56 | 6<<32 | 10, func(h *impl.Hand) {
			h.Last, h.Addr, h.Put, h.Does, h.Good, h.Bad, h.At = 10, 31, 2<<48|7<<32|10, impl.DdTake, impl.AtHold, impl.AtFree, impl.AtNote
		}},
		{anyWords, impl.Hand{At: impl.AtWant, Code: impl.OpEnq, A: 1, For: 1, Block: 2, Seen: 5}, 9, 1<<56 | 2<<32 | 1, func(h *impl.Hand) {
			h.Last, h.Addr, h.Put, h.Does, h.Good, h.Bad, h.At = 1, 30, 1<<48|1, impl.DdTake, impl.AtHold, impl.AtFree, impl.AtNote
		}},
		{anyWords, impl.Hand{At: impl.AtHold, Code: impl.OpAlloc, For: 2, Block: 7, Reply: 9}, 57, 1<<56 | 2<<48, func(h *impl.Hand) { h.Reply, h.Out, h.At = impl.RpOk, 7, impl.AtSay }},
		{anyWords, impl.Hand{At: impl.AtHold, Code: impl.OpPush, For: 1, Block: 3, Reply: 9, Out: 8}, 43, 1<<56 | 1<<48, func(h *impl.Hand) { h.At = impl.AtFill }},
		{anyWords, impl.Hand{At: impl.AtFill, Code: impl.OpPush, For: 1, Block: 5, B: 65535, C: 3}, 51, 65535 << 32, func(h *impl.Hand) { h.At = impl.AtAim }},
		{anyWords, impl.Hand{At: impl.AtFill, Code: impl.OpEnq, Block: 6, B: 9}, 54, 9 << 32, func(h *impl.Hand) { h.At = impl.AtAim }},
		{with(57, 1<<56|2<<48|9<<32|8), impl.Hand{At: impl.AtMine, Code: impl.OpFree, A: 7, For: 2, Block: 4}, 57, 1<<56 | 2<<48 | 9<<32 | 8, func(h *impl.Hand) { h.Block, h.At = 7, impl.AtYield }},
		{with(37, 1<<56), impl.Hand{At: impl.AtMine, Code: impl.OpWrite, A: 1}, 37, 1 << 56, func(h *impl.Hand) { h.Block, h.At = 1, impl.AtStore }},
		{with(52, 1<<56|1<<48), impl.Hand{At: impl.AtMine, Code: impl.OpLoad, A: 6, For: 1}, 52, 1<<56 | 1<<48, func(h *impl.Hand) { h.Block, h.At = 6, impl.AtFetch }},
		{with(52, 1<<56|1<<48), impl.Hand{At: impl.AtMine, Code: impl.OpPop, A: 6, For: 1}, 52, 1<<56 | 1<<48, func(h *impl.Hand) { h.Block, h.At = 6, impl.AtFetch }},
		{with(57, 1<<56|1<<48), impl.Hand{At: impl.AtMine, Code: impl.OpFree, A: 7, For: 2, Block: 4, Out: 6}, 57, 1<<56 | 1<<48, func(h *impl.Hand) { h.Reply, h.Out, h.At = impl.RpBad, 0, impl.AtSay }},
		{with(57, 3<<56|2<<48), impl.Hand{At: impl.AtMine, Code: impl.OpWrite, A: 7, For: 2, Block: 4}, 57, 3<<56 | 2<<48, func(h *impl.Hand) { h.Reply, h.At = impl.RpBad, impl.AtSay }},
		{anyWords, impl.Hand{At: impl.AtStore, Code: impl.OpWrite, Block: 6, B: 2, C: 65535, Out: 7}, 56, 65535 << 32, func(h *impl.Hand) { h.Reply, h.Out, h.At = impl.RpOk, 0, impl.AtSay }},
		{anyWords, impl.Hand{At: impl.AtStore, Code: impl.OpWrite, A: 6, Block: 4, C: 9}, 48, 9 << 32, func(h *impl.Hand) { h.Reply, h.At = impl.RpOk, impl.AtSay }},
		{with(60, 5<<56|4<<48|77<<32|3), impl.Hand{At: impl.AtFetch, Code: impl.OpLoad, Block: 7, B: 1}, 60, 5<<56 | 4<<48 | 77<<32 | 3, func(h *impl.Hand) { h.Reply, h.Out, h.At = impl.RpGot, 77, impl.AtSay }},
		{with(39, 6<<32), impl.Hand{At: impl.AtFetch, Code: impl.OpLoad, Block: 1, A: 7, C: 2}, 39, 6 << 32, func(h *impl.Hand) { h.Reply, h.Out, h.At = impl.RpGot, 6, impl.AtSay }},
		{anyWords, impl.Hand{At: impl.AtYield, Code: impl.OpFree, For: 1, Block: 6, A: 5, Last: 9, Number: 8}, 9, 2<<56 | 6<<32 | 10, func(h *impl.Hand) { h.Last, h.At = 10, impl.AtLoose }},
		{anyWords, impl.Hand{At: impl.AtLoose, Code: impl.OpFree, For: 1, Block: 6}, 52, 0, func(h *impl.Hand) { h.At = impl.AtList }},
		{with(31, 3<<56|2<<48|7<<32|1), impl.Hand{At: impl.AtList, Code: impl.OpFree, Block: 6}, 31, 3<<56 | 2<<48 | 7<<32 | 1, func(h *impl.Hand) { h.Seen, h.At = 3<<56|2<<48|7<<32|1, impl.AtChain }},
		{with(30, 4), impl.Hand{At: impl.AtList, Code: impl.OpAlloc, A: 1, Block: 5}, 30, 4, func(h *impl.Hand) { h.Seen, h.At = 4, impl.AtChain }},
		{anyWords, impl.Hand{At: impl.AtChain, Code: impl.OpFree, For: 2, Block: 7, Seen: 3<<56 | 1<<48 | 6<<32 | 5, Last: 9, Index: 3, Reply: 9, Out: 8}, 58, 6 << 32, func(h *impl.Hand) {
			h.Addr, h.Put, h.Does, h.Good, h.Bad, h.Reply, h.Out, h.At = 31, 2<<48|7<<32|9, impl.DdGive, impl.AtSay, impl.AtList, impl.RpOk, 0, impl.AtNote
		}},
		{anyWords, impl.Hand{At: impl.AtChain, Code: impl.OpScan, For: 1, Block: 2, Seen: 5, Last: 9, Reply: 9, Out: 8}, 41, 0, func(h *impl.Hand) {
			h.Addr, h.Put, h.Does, h.Good, h.Bad, h.At = 30, 1<<48|2<<32|9, impl.DdGive, impl.AtScan, impl.AtList, impl.AtNote
		}},
		{anyWords, impl.Hand{At: impl.AtChain, Code: impl.OpAdopt, For: 1, Block: 2, Seen: 5 << 32, Last: 9, Reply: 9, Out: 8}, 41, 5 << 32, func(h *impl.Hand) {
			h.Addr, h.Put, h.Does, h.Good, h.Bad, h.At = 30, 1<<48|2<<32|9, impl.DdGive, impl.AtErase, impl.AtList, impl.AtNote
		}},
		{anyWords, impl.Hand{At: impl.AtChain, Code: impl.OpStart, Block: 6, Index: 1, Reply: 9, Out: 8}, 53, 0, func(h *impl.Hand) {
			h.Addr, h.Put, h.Does, h.Good, h.Bad, h.At = 31, 6<<32, impl.DdGive, impl.AtSweep, impl.AtList, impl.AtNote
		}},
	} {
		h := c.h
		h.Up, h.In, h.Life = true, true, 3
		want := impl.Done{Arena: withWordAt(c.a, c.at, c.word), Hand: h}
		c.then(&want.Hand)
		what := fmt.Sprint("by hand, ", i)
		for me := range int64(3) {
			pooling.wantStep(t, what, usualPlan, c.a, me, h, want, true)
			if !pooling.wantTable(t, what, usualPlan, c.a, me, h) {
				t.Fatalf("%s: the table tells otherwise", what)
			}
		}
	}
}

// eachPoolRow gives, of each row, hands that may do it, over arenas of all kinds; rounds: how often each of them.
func eachPoolRow(p impl.Plan, rounds uint64, f func(a []uint64, me int64, h impl.Hand)) {
	for at := int64(atFree); at <= atChain; at++ {
		for i := range rounds {
			seed := i*8 + uint64(at)*1000 + uint64(p.Procs)*17 + i/8
			h := poolHand(p, at, seed)
			f(poolArena(p, h, i), int64(seed/3)%p.Procs, h)
		}
	}
}

// Each row by hands that may do it, every field and every word of them; all that is not named stays as it was.
func TestEachPoolRow(t *testing.T) {
	for _, p := range somePlans {
		met := map[[2]int64]int{}
		eachPoolRow(p, roundsOf(p, 400), func(a []uint64, me int64, h impl.Hand) {
			if !pooling.wantTable(t, "a row", p, a, me, h) {
				t.Fatalf("%+v may not do its row", h)
			}
			then, _ := poolByTable(p, a, h)
			met[[2]int64{h.At, then.Hand.At}]++
		})
		for _, way := range [][2]int64{
			{atFree, atSay}, {atFree, atUnder}, {atUnder, atWant}, {atWant, atNote}, {atHold, atSay}, {atHold, atFill}, {atFill, atAim},
			{atMine, atYield}, {atMine, atStore}, {atMine, atFetch}, {atMine, atSay}, {atStore, atSay}, {atFetch, atSay},
			{atYield, atLoose}, {atLoose, atList}, {atList, atChain}, {atChain, atNote},
		} {
			if met[way] == 0 && roundsOf(p, 400) > 100 {
				t.Fatalf("%+v: %v was not gone: %v", p, way, met)
			}
		}
	}
}

// One word at most is written, and it is the one that the row names; no deed is told.
func TestPoolWritesWhatTheRowNames(t *testing.T) {
	for _, p := range somePlans {
		regions := laidOut(p)
		eachPoolRow(p, roundsOf(p, 200), func(a []uint64, me int64, h impl.Hand) {
			d, is := impl.PoolStep(p, a, me, h)
			if !is || d.Deed != (impl.Deed{}) {
				t.Fatalf("PoolStep(%+v, .., %d, %+v) is %v, %+v", p, me, h, is, d.Deed)
			}
			may := map[int64]impl.Region{
				atWant: {Kind: 1, Item: h.For, Field: 2}, atHold: {Kind: 4, Item: h.Block}, atFill: {Kind: 4, Item: h.Block, Field: 2}, atStore: {Kind: 4, Item: h.Block, Field: 2 + h.B},
				atYield: {Kind: 1, Item: h.For, Field: 2}, atLoose: {Kind: 4, Item: h.Block}, atChain: {Kind: 4, Item: h.Block, Field: 1},
			}
			for at, x := range d.Arena {
				if x != a[at] && regions[at] != may[h.At] {
					t.Fatalf("%+v wrote at %+v", h, regions[at])
				}
			}
		})
	}
}

func TestFreeWithNoFreeBlock(t *testing.T) {
	for _, p := range somePlans {
		for class := range int64(2) {
			for code := range int64(topCode + 1) {
				y := yardOf(p, mixedWords(len(laidOut(p)), uint64(code)))
				asked := class
				if code != opAlloc {
					asked = 0
				}
				for _, other := range []uint64{0, math.MaxUint64} {
					for _, root := range []uint64{0, 1, topSeq, 255 << 56, 255 << 48, math.MaxUint64 &^ (65535 << 32)} {
						y.words[y.rootPlace(rootSmall)], y.words[y.rootPlace(rootLarge)], y.words[y.rootPlace(rootTop)] = other, other, other
						y.words[y.rootPlace(int(asked))] = root
						h := poolHand(p, atFree, root>>40+uint64(code))
						h.Code, h.A = code, class
						want := h
						want.Seen, want.Reply, want.Out, want.At = root, replyFull, 0, atSay
						pooling.wantStep(t, "no free block", p, y.words, 0, h, impl.Done{Arena: y.words, Hand: want}, true)
					}
				}
			}
		}
	}
}

// What is no class has no root: not even those that lie behind the roots of the free blocks.
func TestFreeAndWantOfNoClass(t *testing.T) {
	for _, p := range somePlans {
		for _, at := range []int64{atFree, atWant} {
			for _, class := range []int64{0, 1, 2, 3, 4, 5, 4 + p.Cells, 5 + p.Cells, 255, 256, 257, 32768, topIndex} {
				for code := range int64(topCode + 1) {
					h := poolHand(p, at, uint64(class+code))
					h.Code, h.A = code, class
					for _, a := range [][]uint64{impl.Blank(p), poolArena(p, h, 1)} {
						if is := pooling.wantTable(t, "a class", p, a, 0, h); is != (code != opAlloc || class < 2) {
							t.Fatalf("%+v at class %d is %v", h, class, is)
						}
					}
				}
			}
		}
	}
}

// What stands in the root is not asked to be a block; it is asked for when its link is.
func TestUnderAndWantOfWhatIsNoBlock(t *testing.T) {
	for _, p := range somePlans {
		last := p.Small + p.Large
		for _, block := range []int64{1, last, last + 1, last + 2, 255, 256, 65534, topIndex} {
			for code := range int64(topCode + 1) {
				h := poolHand(p, atFree, uint64(block))
				h.Code, h.A = code, 0
				y := yardOf(p, poolArena(p, h, 1))
				y.setRoot(rootSmall, block)
				want := h
				want.Seen, want.Block, want.At = wordOf(0, 0, block, 0), block, atUnder
				pooling.wantStep(t, "a root", p, y.words, 0, h, impl.Done{Arena: y.words, Hand: want}, true)
				if is := pooling.wantTable(t, "under a root", p, y.words, 0, want); is != (block <= last) {
					t.Fatalf("under block %d of %+v is %v", block, p, is)
				}
				h.At, h.Block = atWant, block
				if !pooling.wantTable(t, "wanted", p, y.words, 0, h) {
					t.Fatalf("block %d of %+v may not be intended", block, p)
				}
			}
		}
	}
}

// The last block of a walk has none behind it: the root is to be without one.
func TestUnderAndWantAtTheLastBlock(t *testing.T) {
	for _, p := range somePlans {
		for _, class := range []int64{0, 1} {
			y := zeroYard(p)
			last := []int64{p.Small, p.Small + p.Large}[class]
			if class == 1 && p.Large == 0 {
				continue
			}
			y.setRoot(int(class), last)
			y.words[y.linkPlace(last)] = 9<<56 | 7
			h := impl.Hand{Up: true, Life: 1, At: atUnder, Code: opAlloc, A: class, For: p.Procs - 1, Last: 3, Seen: y.words[y.rootPlace(int(class))], Block: last, Next: 5}
			want := h
			want.Next, want.At = 0, atWant
			pooling.wantStep(t, "under the last block", p, y.words, 0, h, impl.Done{Arena: y.words, Hand: want}, true)
			h, want.Last = want, 4
			want.Addr, want.Put, want.Does, want.Good, want.Bad, want.At = int64(y.rootPlace(int(class))), wordOf(0, p.Procs-1, 0, 4), deedTake, atHold, atFree, atNote
			then := withWordAt(y.words, slotPlace(p.Procs-1, 2), wordOf(intentTake, 0, last, 4))
			pooling.wantStep(t, "the last block is wanted", p, y.words, 0, h, impl.Done{Arena: then, Hand: want}, true)
		}
	}
}

// One more than MaxSeq is no right number: what would intend it is not done; all other rows do not mind it.
func TestPoolWithLastAtItsEnd(t *testing.T) {
	for _, p := range somePlans {
		for at := int64(atFree); at <= atChain; at++ {
			for _, last := range []int64{0, 1, topTag, topTag + 1, 1 << 31, topSeq - 1, topSeq} {
				for seed := range uint64(4) {
					h := poolHand(p, at, seed)
					h.Last = last
					is := pooling.wantTable(t, "Last at its end", p, poolArena(p, h, seed), 0, h)
					if is != (last < topSeq || at != atWant && at != atYield) {
						t.Fatalf("%+v of %+v is %v", h, p, is)
					}
				}
			}
		}
	}
}

func TestHoldByEachCode(t *testing.T) {
	for _, p := range somePlans {
		for _, block := range someBlocks(p) {
			for code := range int64(topCode + 1) {
				h := poolHand(p, atHold, uint64(block*15+code))
				h.Code, h.Block = code, block
				y := yardOf(p, poolArena(p, h, 1))
				want := h
				if want.At = atFill; code == opAlloc {
					want.Reply, want.Out, want.At = replyOk, block, atSay
				}
				then := withWordAt(y.words, int64(y.heads[block-1]), wordOf(kindHeld, h.For, 0, 0))
				pooling.wantStep(t, "held", p, y.words, 0, h, impl.Done{Arena: then, Hand: want}, true)
				if held := impl.HeldBy(p, then, h.For); !slices.Contains(held, block) {
					t.Fatalf("slot %d of %+v holds %v, not %d", h.For, p, held, block)
				}
			}
		}
	}
}

// someBlocks are the first ones and the last ones of each class.
func someBlocks(p impl.Plan) []int64 {
	var out []int64
	for _, block := range []int64{1, 2, p.Small - 1, p.Small, p.Small + 1, p.Small + p.Large - 1, p.Small + p.Large} {
		if block >= 1 && block <= p.Small+p.Large {
			out = append(out, block)
		}
	}
	slices.Sort(out)
	return slices.Compact(out)
}

func TestFillAtTheEndsOfAValue(t *testing.T) {
	for _, p := range somePlans {
		for _, block := range someBlocks(p) {
			for _, b := range []int64{0, 1, 255, 256, topIndex - 1, topIndex, topIndex + 1, topIndex + 2, 1 << 17, 1 << 31, topSeq - 1, topSeq} {
				h := poolHand(p, atFill, uint64(block+b))
				h.Block, h.B = block, b
				y := yardOf(p, poolArena(p, h, 1))
				if b > topIndex {
					pooling.wantNone(t, "no value", p, y.words, 0, h)
					continue
				}
				then := withWordAt(y.words, int64(y.valuePlace(block)), uint64(b)<<32)
				pooling.wantStep(t, "filled", p, y.words, 0, h, impl.Done{Arena: then, Hand: withNumber(h, "At", atAim)}, true)
			}
		}
	}
}

// The block is the slot's own where its head has the Kind and the Pid, whatever its Index and Seq; all else is bad.
func TestMineByEachHead(t *testing.T) {
	for _, p := range somePlans {
		blocks := someBlocks(p)
		if len(laidOut(p)) > 1000 {
			blocks = blocks[len(blocks)-1:]
		}
		for _, block := range blocks {
			for _, slot := range someSlots(p) {
				for _, kind := range []int64{0, 1, 2, 3, 4, 129, 255} {
					for _, pid := range []int64{slot, slot + 1, slot + 64, 255 - slot, 0, p.Procs - 1} {
						for _, code := range []int64{opFree, opWrite, opLoad, opPop, 0} {
							wantMine(t, p, block, slot, code, kind, pid)
						}
					}
				}
			}
		}
	}
}

func wantMine(t *testing.T, p impl.Plan, block, slot, code, kind, pid int64) {
	t.Helper()
	h := poolHand(p, atMine, uint64(block+code))
	h.A, h.For, h.Code, h.Out = block, slot, code, 5
	y := yardOf(p, poolArena(p, h, 3))
	y.words[y.heads[block-1]] = wordOf(kind, pid, int64(h.Seen%3), code*kind)
	want := h
	want.Reply, want.Out, want.At = replyBad, 0, atSay
	if kind == kindHeld && pid == slot {
		want = h
		want.Block = block
		switch want.At = atFetch; code {
		case opFree:
			want.At = atYield
		case opWrite:
			want.At = atStore
		}
	}
	pooling.wantStep(t, fmt.Sprintf("block %d, of Kind %d by %d", block, kind, pid), p, y.words, p.Procs-1-slot, h, impl.Done{Arena: y.words, Hand: want}, true)
}

func TestMineOfEachBlockAndOfNone(t *testing.T) {
	for _, p := range somePlans {
		last := p.Small + p.Large
		for _, block := range []int64{0, 1, p.Small, last, last + 1, last + 2, 256, 257, topIndex} {
			for code := range int64(topCode + 1) {
				h := poolHand(p, atMine, uint64(block+code))
				h.A, h.Code = block, code
				for _, a := range [][]uint64{slices.Repeat([]uint64{wordOf(kindHeld, h.For, 0, 0)}, len(laidOut(p))), poolArena(p, h, 3)} {
					if is := pooling.wantTable(t, "mine", p, a, 0, h); is != (block >= 1 && block <= last) {
						t.Fatalf("block %d of %+v is %v", block, p, is)
					}
				}
			}
		}
	}
}

// Each value of a block, and those that it has not: not the head of the next block, nor the words behind.
func TestStoreAndFetchOfEachValue(t *testing.T) {
	for _, p := range somePlans {
		for _, block := range someBlocks(p) {
			for _, which := range []int64{0, 1, 2, 3, 4, 5, 255, 256, topIndex, topIndex + 1, 1<<32 - 2, topSeq} {
				for _, value := range []int64{0, 1, 255, 256, 32768, topIndex} {
					wantStoreAndFetch(t, p, block, which, value)
				}
			}
		}
	}
}

func wantStoreAndFetch(t *testing.T, p impl.Plan, block, which, value int64) {
	t.Helper()
	h := poolHand(p, atStore, uint64(block+which+value))
	h.Block, h.B, h.C, h.Out = block, which, value, 77
	got := h
	got.At = atFetch
	a := poolArena(p, h, uint64(value))
	if which >= valuesOf(p, block) {
		pooling.wantNone(t, "no such value is stored", p, a, 0, h)
		pooling.wantNone(t, "no such value is fetched", p, a, 0, got)
		return
	}
	at := int64(headPlaces(p)[block-1]) + 2 + which
	want := h
	want.Reply, want.Out, want.At = replyOk, 0, atSay
	pooling.wantStep(t, "stored", p, a, 0, h, impl.Done{Arena: withWordAt(a, at, uint64(value)<<32), Hand: want}, true)
	a[at] = a[at]&^(65535<<32) | uint64(value)<<32
	want = got
	want.Reply, want.Out, want.At = replyGot, value, atSay
	pooling.wantStep(t, "fetched", p, a, 0, got, impl.Done{Arena: a, Hand: want}, true)
}

// By the code, and where it is no code of the pool's own by the Index, what is behind the swap; Reply and Out are told of OpFree alone.
func TestChainByEachCode(t *testing.T) {
	t.Parallel()
	for _, p := range somePlans {
		for _, block := range someBlocks(p) {
			for code := range int64(topCode + 1) {
				for _, index := range []int64{0, 1, p.Small + p.Large, p.Small + p.Large + 1} {
					for _, seen := range []uint64{0, wordOf(9, 8, 0, 7), wordOf(0, 1, block, 7), math.MaxUint64} {
						wantChain(t, p, block, code, index, seen)
					}
				}
			}
		}
	}
}

func wantChain(t *testing.T, p impl.Plan, block, code, index int64, seen uint64) {
	t.Helper()
	h := poolHand(p, atChain, uint64(block*15+code+index))
	h.Block, h.Code, h.Index, h.Seen, h.Reply, h.Out, h.Last = block, code, index, seen, 9, 8, 40+index
	y := yardOf(p, poolArena(p, h, 1))
	want := h
	root := rootSmall
	if block > p.Small {
		root = rootLarge
	}
	want.Addr, want.Put = int64(y.rootPlace(root)), wordOf(0, h.For, block, 40+index)
	want.Does, want.Bad, want.At, want.Good = deedGive, atList, atNote, atSweep
	switch {
	case code == opFree:
		want.Good, want.Reply, want.Out = atSay, replyOk, 0
	case code == opScan:
		want.Good = atScan
	case index == 0:
		want.Good = atErase
	}
	then := withWordAt(y.words, int64(y.linkPlace(block)), seen>>32&65535<<32)
	pooling.wantStep(t, "chained", p, y.words, 0, h, impl.Done{Arena: then, Hand: want}, true)
}

// Taken by the class that is asked for, given back by the class that the block has, where the two differ.
func TestTheClassOfTheBlockAndTheClassAsked(t *testing.T) {
	p := usualPlan
	for _, code := range []int64{opAlloc, opFree, opPush, opScan, opStart} {
		for asked := range int64(2) {
			for _, block := range []int64{1, 5, 6, 7} {
				asks := asked
				if code != opAlloc {
					asks = 0
				}
				a := mixedWords(62, uint64(block))
				h := impl.Hand{Up: true, Life: 1, At: atWant, Code: code, A: asked, For: 1, Block: block, Next: 3, Last: 6}
				d, is := impl.PoolStep(p, a, 0, h)
				if !is || d.Hand.Addr != 30+asks || d.Hand.Put != wordOf(0, 1, 3, 7) || d.Arena[9] != wordOf(intentTake, 0, block, 7) {
					t.Fatalf("%+v wants at %d, %v", h, d.Hand.Addr, is)
				}
				h.At = atFree
				if d, is = impl.PoolStep(p, a, 0, h); !is || d.Hand.Seen != a[30+asks] {
					t.Fatalf("%+v sees %#x, %v", h, d.Hand.Seen, is)
				}
				h.At = atList
				if d, is = impl.PoolStep(p, a, 0, h); !is || d.Hand.Seen != a[30+block/6] {
					t.Fatalf("%+v lists %#x, %v", h, d.Hand.Seen, is)
				}
				h.At = atChain
				if d, is = impl.PoolStep(p, a, 0, h); !is || d.Hand.Addr != 30+block/6 {
					t.Fatalf("%+v chains at %d, %v", h, d.Hand.Addr, is)
				}
			}
		}
	}
}

// Block 0, the last block, and one more: who takes the place of a word of a block that there isn't does nothing; who only intends one does.
func TestPoolOfBlocksThatThereAreNot(t *testing.T) {
	t.Parallel()
	intends := []int64{atFree, atWant, atMine, atYield}
	for _, p := range somePlans {
		last := p.Small + p.Large
		for at := int64(atFree); at <= atChain; at++ {
			for _, block := range []int64{0, 1, p.Small, p.Small + 1, last, last + 1, last + 2, 255, 256, 257, 32768, topIndex} {
				for seed := range roundsOf(p, 24) {
					h := poolHand(p, at, seed)
					h.Block = block
					if at == atStore || at == atFetch {
						h.B = 0
					}
					is := pooling.wantTable(t, "a block", p, poolArena(p, h, seed), 0, h)
					if is != (block >= 1 && block <= last || slices.Contains(intends, at)) {
						t.Fatalf("block %d of %+v, %+v is %v", block, p, h, is)
					}
				}
			}
		}
	}
}

func TestPoolStepsAtEveryPlan(t *testing.T) {
	t.Parallel()
	eachRightPlan(func(p impl.Plan) {
		last := p.Small + p.Large
		for at := int64(atFree); at <= atChain; at++ {
			h := impl.Hand{
				Up: true, Life: 1, At: at, Code: opAlloc, A: at % 2, B: 2, C: 9, Last: 6, For: p.Procs - 1, Block: last, Next: 4, Seen: wordOf(0, 0, 1, 3),
			}
			switch {
			case at == atMine:
				h.A = last
			case p.Large == 0 && (at == atStore || at == atFetch):
				h.B = 0
			}
			a := slices.Repeat([]uint64{wordOf(kindHeld, p.Procs-1, last, 5)}, len(laidOut(p)))
			d, is := impl.PoolStep(p, a, 0, h)
			want, _ := poolByTable(p, a, h)
			if !is || d.Hand != want.Hand || d.Deed != want.Deed || !slices.Equal(d.Arena, want.Arena) {
				t.Fatalf("%+v: PoolStep of %+v is %+v, %+v, %v", p, h, d.Hand, d.Deed, is)
			}
		}
	})
}

// free are the blocks of a class that are to be taken, in order; TakeableIn must tell how many.
func (x *process) free(t *testing.T, class int64) []int64 {
	t.Helper()
	blocks, whole := x.walked(int(class))
	if n := impl.TakeableIn(x.p, x.words, class); !whole || n != int64(len(blocks)) {
		t.Fatalf("%+v: TakeableIn of %d is %d, of %v, %v", x.p, class, n, blocks, whole)
	}
	for _, block := range blocks {
		if head := x.words[x.heads[block-1]]; head != 0 {
			t.Fatalf("block %d of %+v is to be taken, and its head is %#x", block, x.p, head)
		}
	}
	return blocks
}

// take takes a block, alone, and holds every word that is then.
func (x *process) take(t *testing.T, class int64) int64 {
	t.Helper()
	then, last, free := x.copied(), x.h.Last, x.free(t, class)
	reply, out := x.call(t, opAlloc, class, 0, 0)
	if len(free) == 0 {
		x.wantTold(t, reply, out, replyFull, 0)
		opened(then.words, x.slot, opAlloc, class, last, 2, replyFull, 0)
		x.wantEnd(t, "none is taken", then.words, last+2, nil)
		return 0
	}
	x.wantTold(t, reply, out, replyOk, free[0])
	opened(then.words, x.slot, opAlloc, class, last, 3, replyOk, out)
	then.swapped(x.slot, int(class), then.index(then.linkPlace(out)), last+2)
	then.words[then.heads[out-1]] = wordOf(kindHeld, x.slot, 0, 0)
	x.wantEnd(t, "taken", then.words, last+3, []impl.Deed{{Kind: deedTake, Slot: x.slot, Number: last + 1, Item: out}})
	if !slices.Equal(x.free(t, class), free[1:]) || !slices.Contains(impl.HeldBy(x.p, x.words, x.slot), out) {
		t.Fatalf("%+v: of %v block %d was taken, %v are left", x.p, free, out, x.free(t, class))
	}
	return out
}

// give gives a block back, alone, likewise.
func (x *process) give(t *testing.T, block int64) {
	t.Helper()
	class := 0
	if block > x.p.Small {
		class = 1
	}
	then, last, free := x.copied(), x.h.Last, x.free(t, int64(class))
	reply, out := x.call(t, opFree, block, 0, 0)
	x.wantTold(t, reply, out, replyOk, 0)
	opened(then.words, x.slot, opFree, block, last, 3, replyOk, 0)
	then.setLink(block, then.index(then.rootPlace(class)))
	then.words[then.heads[block-1]] = 0
	then.swapped(x.slot, class, block, last+2)
	x.wantEnd(t, "given back", then.words, last+3, []impl.Deed{{Kind: deedGive, Slot: x.slot, Number: last + 1, Item: block}})
	if now := x.free(t, int64(class)); !slices.Equal(now, append([]int64{block}, free...)) {
		t.Fatalf("%+v: to %v block %d was given back, %v are there", x.p, free, block, now)
	}
}

// Promise 9: as many are to be taken as were ahead, and the same one is taken again; every slot, each class, down to the last block.
func TestWhoTakesAndGivesBackAlone(t *testing.T) {
	t.Parallel()
	for _, p := range somePlans {
		slots := someSlots(p)
		if len(laidOut(p)) > 1000 {
			slots = slots[len(slots)-1:]
		}
		for _, slot := range slots {
			for class := range int64(2) {
				x := processOf(p, slot, impl.Blank(p), 4)
				for {
					ahead, other := x.free(t, class), x.free(t, 1-class)
					block := x.take(t, class)
					if block == 0 {
						break
					}
					if n := impl.TakeableIn(p, x.words, class); n != int64(len(ahead))-1 {
						t.Fatalf("of %v one was taken, %d are left", ahead, n)
					}
					x.give(t, block)
					if !slices.Equal(x.free(t, class), ahead) || !slices.Equal(x.free(t, 1-class), other) {
						t.Fatalf("%+v: %v and %v were to be taken, now %v and %v", p, ahead, other, x.free(t, class), x.free(t, 1-class))
					}
					if again := x.take(t, class); again != block {
						t.Fatalf("%+v: block %d was given back, and %d is taken", p, block, again)
					}
				}
				wantAllTaken(t, &x, class)
			}
		}
	}
}

// wantAllTaken holds all of a class by the slot, and has it give them back in a mixed order: they are taken again the last one first.
func wantAllTaken(t *testing.T, x *process, class int64) {
	t.Helper()
	all := rising(2, x.p.Small)
	if class == 1 {
		all = rising(x.p.Small+1, x.p.Small+x.p.Large)
	}
	if held := impl.HeldBy(x.p, x.words, x.slot); !slices.Equal(held, all) || len(x.free(t, class)) != 0 {
		t.Fatalf("%+v: slot %d holds %v, not %v", x.p, x.slot, held, all)
	}
	for i, w := range mixedWords(len(all), 0x99) {
		j := int(w % uint64(i+1))
		all[i], all[j] = all[j], all[i]
	}
	for _, block := range all {
		x.give(t, block)
	}
	slices.Reverse(all)
	for _, block := range all {
		if got := x.take(t, class); got != block {
			t.Fatalf("%+v: block %d is taken, not %d, which was given back last", x.p, got, block)
		}
	}
	x.take(t, class)
}

// What one slot gives back another one takes: the note about the one stands by the other, and the number goes on from each slot's own.
func TestWhatOneGivesBackAnotherTakes(t *testing.T) {
	for _, p := range []impl.Plan{usualPlan, noLarge, mostPlan} {
		for class := range int64(2) {
			if class == 1 && p.Large == 0 {
				continue
			}
			a := impl.Blank(p)
			for round := range int64(3) {
				for _, slot := range someSlots(p) {
					x := processOf(p, slot, a, 100*round+slot*7)
					block := x.take(t, class)
					x.give(t, block)
					a = x.words
				}
			}
			first, second := processOf(p, 0, a, 900), processOf(p, 1, a, 60)
			block := first.take(t, class)
			second.yard = first.yard
			if other := second.take(t, class); other == block || other == 0 && len(second.free(t, class)) > 0 {
				t.Fatalf("%+v: both take block %d", p, block)
			}
		}
	}
}

// Who does not hold a block can't give it back, write or read it: nothing but its own slot is written.
func TestBlocksOfOthersStay(t *testing.T) {
	for _, p := range []impl.Plan{usualPlan, noLarge, mostPlan} {
		for _, head := range []uint64{wordOf(kindFree, 1, 0, 0), wordOf(kindHeld, 0, 0, 0), wordOf(kindNode, 1, 0, 0), wordOf(kindRetired, 1, 0, 0)} {
			for _, block := range []int64{1, 2, p.Small} {
				x := processOf(p, 1, impl.Blank(p), 30)
				x.words[x.heads[block-1]] = head
				for _, code := range []int64{opFree, opWrite, opLoad} {
					then, last := slices.Clone(x.words), x.h.Last
					reply, out := x.call(t, code, block, 0, 0)
					x.wantTold(t, reply, out, replyBad, 0)
					opened(then, 1, code, block, last, 2, replyBad, 0)
					x.wantEnd(t, "not its own", then, last+2, nil)
				}
			}
		}
	}
}

// What is written is read, value by value; a block that was given back and taken again still has it.
func TestWhatIsWrittenIsRead(t *testing.T) {
	for _, p := range somePlans {
		for _, slot := range someSlots(p) {
			x := processOf(p, slot, impl.Blank(p), 4)
			for class := range int64(2) {
				block := x.take(t, class)
				if block == 0 {
					continue
				}
				for round := range int64(2) {
					for which := range valuesOf(p, block) {
						x.wantWritten(t, block, which, []int64{topIndex, 0, 1 + which, 256 * which}[which+round])
					}
				}
				x.give(t, block)
				x.take(t, class)
				for which := range valuesOf(p, block) {
					reply, out := x.call(t, opLoad, block, which, 0)
					x.wantTold(t, reply, out, replyGot, []int64{topIndex, 0, 1 + which, 256 * which}[which+1])
				}
			}
		}
	}
}

func (x *process) wantWritten(t *testing.T, block, which, value int64) {
	t.Helper()
	then, last := slices.Clone(x.words), x.h.Last
	reply, out := x.call(t, opWrite, block, which, value)
	x.wantTold(t, reply, out, replyOk, 0)
	opened(then, x.slot, opWrite, block, last, 2, replyOk, 0)
	then[int64(x.valuePlace(block))+which] = uint64(value) << 32
	x.wantEnd(t, "written", then, last+2, nil)
	reply, out = x.call(t, opLoad, block, which, 0)
	x.wantTold(t, reply, out, replyGot, value)
	opened(then, x.slot, opLoad, block, last+2, 2, replyGot, value)
	x.wantEnd(t, "read", then, last+4, nil)
}

// Who pushes or puts into the queue takes a small block, fills it, and leaves it to the next chapters; where there is none it is told so.
func TestABlockForAValue(t *testing.T) {
	for _, p := range somePlans {
		for _, code := range []int64{opPush, impl.OpEnq} {
			x := processOf(p, p.Procs-1, impl.Blank(p), 4)
			free := x.free(t, 0)
			for i, block := range free {
				then, last := x.copied(), x.h.Last
				x.begin(t, code, 0, topIndex-int64(i), 0)
				for x.h.At != atAim {
					x.step(t)
				}
				then.words[slotPlace(x.slot, 1)] = wordOf(code, 0, 0, last+1)
				then.words[slotPlace(x.slot, 2)] = wordOf(intentTake, 0, block, last+2)
				then.swapped(x.slot, rootSmall, then.index(then.linkPlace(block)), last+2)
				then.words[then.heads[block-1]] = wordOf(kindHeld, x.slot, 0, 0)
				then.setValue(block, topIndex-int64(i))
				wantWords(t, "for a value", then.words, x.words)
				if x.h.Block != block || !slices.Equal(x.deeds, []impl.Deed{{Kind: deedTake, Slot: x.slot, Number: last + 1, Item: block}}) {
					t.Fatalf("block %d of %+v is filled by %+v, which did %+v", block, p, x.h, x.deeds)
				}
				x.h = impl.Resting(x.h)
			}
			reply, out := x.call(t, code, 0, 3, 0)
			x.wantTold(t, reply, out, replyFull, 0)
		}
	}
}

// Every way in which the steps of a few can fall: no block is taken by two, none is lost, and whoever goes on alone comes to its end.
func TestEveryWayOfAFew(t *testing.T) {
	t.Parallel()
	take, large := toTake(0), toTake(1)
	for i, c := range []struct {
		p     impl.Plan
		tasks [][]task
	}{
		{impl.Plan{Procs: 2, Small: 4, Large: 1, Cells: 1, Keep: 2}, [][]task{{take}, {take, take, toGive(0)}}},
		{impl.Plan{Procs: 2, Small: 4, Large: 1, Cells: 1, Keep: 2}, [][]task{{take, toGive(0)}, {take, toGive(0)}}},
		{impl.Plan{Procs: 2, Small: 3, Large: 1, Cells: 1, Keep: 2}, [][]task{{take, take}, {take, large}}},
		{impl.Plan{Procs: 2, Small: 2, Large: 1, Cells: 1, Keep: 2}, [][]task{{take}, {large, take}}},
		{impl.Plan{Procs: 2, Small: 1, Large: 3, Cells: 1, Keep: 2}, [][]task{{large, toGive(0)}, {large, large, toGive(0)}}},
		{impl.Plan{Procs: 2, Small: 3, Large: 2, Cells: 1, Keep: 2}, [][]task{{large, toGive(0)}, {take, toGive(0), take}}},
		{impl.Plan{Procs: 3, Small: 4, Large: 0, Cells: 1, Keep: 2}, [][]task{{take}, {take}, {take}}},
	} {
		y := yardOf(c.p, impl.Blank(c.p))
		if n := wantEveryWay(t, y, crowdOf(y, c.tasks), c.tasks); n < 400 {
			t.Fatalf("few %d: %d moments", i, n)
		}
	}
}

// Many of them in a mixed order, for long: what each holds stays its own, with what it wrote into it, and when all is given back nothing is lost.
func TestManyInAMixedOrder(t *testing.T) {
	t.Parallel()
	for _, p := range []impl.Plan{usualPlan, noLarge, {Procs: 6, Small: 9, Large: 4, Cells: 1, Keep: 2}} {
		for seed := range uint64(6) {
			y := yardOf(p, impl.Blank(p))
			all := make([]holder, p.Procs)
			for i := range all {
				all[i] = holder{h: impl.Hand{Up: true, In: true, Life: 1}, has: map[int64][3]int64{}}
			}
			turns := mixedWords(6000, seed+70)
			for _, turn := range turns {
				who := turn % uint64(p.Procs)
				y.words = all[who].goOn(t, y, int64(who), turn>>8)
				wantNobodysTwice(t, y, all)
			}
			ended := 0
			for who := range all {
				ended += all[who].over
				y.words = all[who].end(t, y, int64(who))
			}
			free := impl.TakeableIn(p, y.words, 0) + impl.TakeableIn(p, y.words, 1)
			if free != y.blocks()-1 || ended < 200 {
				t.Fatalf("%+v: %d calls ended, and %d blocks are to be taken", p, ended, free)
			}
		}
	}
}

// A holder knows what it wrote into each block that it has.
type holder struct {
	h    impl.Hand
	has  map[int64][3]int64
	over int
}

// goOn does the next thing; where it is at rest it calls what the turn says, of what it has.
func (x *holder) goOn(t *testing.T, y yard, slot int64, turn uint64) []uint64 {
	t.Helper()
	one := process{yard: y, slot: slot, h: x.h}
	if x.h.At != 0 {
		one.step(t)
		if x.h = one.h; x.h.At == 0 {
			x.told(t)
		}
		return one.words
	}
	block := int64(0)
	if mine := slices.Sorted(maps.Keys(x.has)); len(mine) > 0 {
		block = mine[turn>>3%uint64(len(mine))]
	}
	which := int64(turn >> 16 % uint64(valuesOf(y.p, block)))
	switch code := []int64{opAlloc, opFree, opWrite, opLoad}[turn%4]; {
	case code == opAlloc || block == 0:
		one.begin(t, opAlloc, int64(turn>>2%2), 0, 0)
	case code == opFree:
		delete(x.has, block)
		one.begin(t, opFree, block, 0, 0)
	case code == opWrite:
		one.begin(t, opWrite, block, which, int64(turn>>20&topIndex))
	default:
		one.begin(t, opLoad, block, which, 0)
	}
	x.h = one.h
	return one.words
}

func (x *holder) told(t *testing.T) {
	t.Helper()
	h := x.h
	x.over++
	switch values := x.has[h.A]; {
	case h.Code == opAlloc && h.Reply == replyFull && h.Out == 0:
	case h.Code == opAlloc && h.Reply == replyOk && h.Out > 0:
		x.has[h.Out] = [3]int64{-1, -1, -1}
	case h.Code == opFree && h.Reply == replyOk && h.Out == 0:
	case h.Code == opWrite && h.Reply == replyOk && h.Out == 0:
		values[h.B] = h.C
		x.has[h.A] = values
	case h.Code == opLoad && h.Reply == replyGot && (h.Out == values[h.B] || values[h.B] == -1):
	default:
		t.Fatalf("%+v has %v", h, x.has)
	}
	x.h = impl.Resting(h)
}

// end ends the call, and gives back all that it has.
func (x *holder) end(t *testing.T, y yard, slot int64) []uint64 {
	t.Helper()
	one := process{yard: y, slot: slot, h: x.h}
	if x.h.At != 0 {
		for one.h.At != 0 {
			one.step(t)
		}
		x.h = one.h
		x.told(t)
		one.h = x.h
	}
	for _, block := range slices.Sorted(maps.Keys(x.has)) {
		one.give(t, block)
	}
	return one.words
}

func wantNobodysTwice(t *testing.T, y yard, all []holder) {
	t.Helper()
	held := map[int64]int{}
	for who, x := range all {
		for block := range x.has {
			if other, is := held[block]; is {
				t.Fatalf("slots %d and %d both have block %d", other, who, block)
			}
			held[block] = who
			if head := y.words[y.heads[block-1]]; head != wordOf(kindHeld, int64(who), 0, 0) {
				t.Fatalf("slot %d has block %d, whose head is %#x", who, block, head)
			}
		}
	}
	for root := range 2 {
		blocks, whole := y.walked(root)
		for _, block := range blocks {
			if _, is := held[block]; is || y.words[y.heads[block-1]] != 0 {
				t.Fatalf("block %d is to be taken, and is not free", block)
			}
		}
		if !whole {
			t.Fatalf("the walk from root %d is broken", root)
		}
	}
}

// wantTakeable holds TakeableIn, asked twice, against a count.
func wantTakeable(t *testing.T, what string, p impl.Plan, a []uint64, class, want int64) {
	t.Helper()
	l := lend(a)
	for range 2 {
		if got := impl.TakeableIn(p, l.list, class); got != want {
			t.Fatalf("%s: TakeableIn(%+v, %d words, %d) is %d, not %d", what, p, len(a), class, got, want)
		}
		l.wantStays(t, what)
	}
}

func TestTakeableInBlank(t *testing.T) {
	wantTakeable(t, "by hand", usualPlan, impl.Blank(usualPlan), 0, 4)
	wantTakeable(t, "by hand", usualPlan, impl.Blank(usualPlan), 1, 2)
	wantTakeable(t, "by hand", noLarge, impl.Blank(noLarge), 1, 0)
	wantTakeable(t, "by hand", leastPlan, impl.Blank(leastPlan), 0, 0)
	eachRightPlan(func(p impl.Plan) {
		a := impl.Blank(p)
		for class, want := range []int64{p.Small - 1, p.Large} {
			if got := impl.TakeableIn(p, a, int64(class)); got != want {
				t.Fatalf("TakeableIn(%+v, blank, %d) is %d, not %d", p, class, got, want)
			}
		}
	})
}

func TestTakeableInWalksOfEveryLength(t *testing.T) {
	for _, p := range somePlans {
		for _, way := range orders(p) {
			for n := range len(way) + 1 {
				if n > 8 && n < len(way)-3 && n%17 != 0 {
					continue
				}
				for root := range 2 {
					y := zeroYard(p)
					y.hang(root, way[:n], 0)
					wantTakeable(t, "a walk", p, y.words, int64(root), int64(n))
					wantTakeable(t, "the other one", p, y.words, int64(1-root), 0)
				}
			}
		}
	}
}

// A walk that comes to no block, or to one that it was at, tells -1, however far it came; the other class does not mind.
func TestTakeableInBrokenWalks(t *testing.T) {
	for _, p := range somePlans {
		last := p.Small + p.Large
		for _, way := range orders(p) {
			for _, n := range []int{0, 1, len(way) / 2, len(way)} {
				ends := []int64{last + 1, 256 + way[0], topIndex}
				if n > 0 {
					ends = append(ends, way[0], way[n-1], way[n/2])
				}
				for _, end := range ends {
					for root := range 2 {
						y := zeroYard(p)
						y.hang(root, way[:n], end)
						wantTakeable(t, "a broken walk", p, y.words, int64(root), -1)
						wantTakeable(t, "the other one", p, y.words, int64(1-root), 0)
					}
				}
			}
		}
	}
}

func TestTakeableInEveryArena(t *testing.T) {
	eachArena(func(name string, p impl.Plan, a []uint64) {
		y := yardOf(p, a)
		for root := range 2 {
			want := int64(-1)
			if blocks, whole := y.walked(root); whole {
				want = int64(len(blocks))
			}
			wantTakeable(t, name, p, a, int64(root), want)
		}
	})
}

func TestTakeableInNoClass(t *testing.T) {
	for _, p := range somePlans {
		for _, a := range [][]uint64{impl.Blank(p), make([]uint64, len(laidOut(p)))} {
			for _, class := range append([]int64{-1, 2, 3, 4, 5, 6, 255, 256, 257, 1 << 16, 1<<32 | 1}, nowhere...) {
				wantTakeable(t, "no class", p, a, class, -1)
			}
		}
	}
}

func TestTakeableInWhatIsNoArena(t *testing.T) {
	for _, p := range somePlans {
		n := len(laidOut(p))
		long := append(impl.Blank(p), make([]uint64, n)...)
		for _, length := range []int{0, 1, n / 2, n - 1, n + 1, n + 2, 2 * n} {
			for class := range int64(2) {
				wantTakeable(t, "no arena", p, long[:length], class, -1)
				wantTakeable(t, "zeros", p, make([]uint64, length), class, -1)
			}
		}
		if got := impl.TakeableIn(p, nil, 0); got != -1 {
			t.Fatalf("TakeableIn(%+v, nil, 0) is %d", p, got)
		}
	}
}

func TestTakeableInOfWrongPlans(t *testing.T) {
	lists := [][]uint64{nil, make([]uint64, 1), impl.Blank(leastPlan), impl.Blank(usualPlan)}
	eachWrongPlan(func(name string, p impl.Plan) {
		for _, a := range append(lists, make([]uint64, asManyWords(p))) {
			for _, class := range []int64{-1, 0, 1, 2} {
				if got := impl.TakeableIn(p, a, class); got != -1 {
					t.Fatalf("%s: TakeableIn(%+v, %d words, %d) is %d", name, p, len(a), class, got)
				}
			}
		}
	})
}
