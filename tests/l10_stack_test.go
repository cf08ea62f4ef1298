package tests

import (
	"fmt"
	"math"
	"slices"
	"testing"

	"loop.example/g00650/impl"
)

// The numbers are written out here, so that a changed constant is seen.
const (
	atNode   = 22
	atTop    = 23
	atJoin   = 24
	atPeek   = 25
	atGuard  = 26
	atAgain  = 27
	atNext   = 28
	atLook   = 29
	atKeep   = 30
	atPick   = 31
	atRetire = 32
	atClean  = 33
	atHead   = 41

	opEnq = 8

	intentPush = 3
	intentPop  = 4
	intentEnq  = 5
	intentDeq  = 6

	replyEmpty = 3
)

// A stackRow is a row of the document's table over a yard; each of its methods tells whether there is something to do.
type stackRow struct {
	poolRow
}

func stackByTable(p impl.Plan, a []uint64, h impl.Hand) (impl.Done, bool) {
	r, is := stackRow{poolRow{yardOf(p, a), h}}, false
	switch {
	case h.At <= atJoin:
		is = r.push()
	case h.At <= atAgain:
		is = r.peek()
	case h.At <= atKeep:
		is = r.read()
	default:
		is = r.pop()
	}
	if !is {
		return impl.Done{}, false
	}
	return impl.Done{Arena: r.words, Hand: r.h}, true
}

func (r *stackRow) push() bool {
	isEnq := r.h.Code == opEnq
	switch {
	case r.h.At == atAim && isEnq:
		return r.intend(intentEnq) && r.then(atNode)
	case r.h.At == atAim:
		return r.intend(intentPush) && r.then(atNode)
	case r.h.At == atNode && isEnq:
		return r.put(0, wordOf(kindNode, 0, 0, 0)) && r.then(atClean)
	case r.h.At == atNode:
		return r.put(0, wordOf(kindNode, 0, 0, 0)) && r.then(atTop)
	case r.h.At == atTop:
		r.h.Seen = r.top()
		return r.then(atJoin)
	}
	if !r.put(1, wordOf(0, 0, int64(r.h.Seen>>32&65535), 0)) {
		return false
	}
	r.h.Reply, r.h.Out = replyOk, 0
	r.swapAt(rootTop, r.h.Block, deedPush, atSay, atTop)
	return true
}

func (r *stackRow) peek() bool {
	switch r.h.At {
	case atPeek:
		r.h.Seen = r.top()
		block := int64(r.top() >> 32 & 65535)
		if block == 0 {
			return r.say(replyEmpty, 0)
		}
		r.h.Block = block
		return r.then(atGuard)
	case atGuard:
		r.words[slotPlace(r.h.For, 5)] = wordOf(0, 0, r.h.Block, 0)
		return r.then(atAgain)
	}
	if r.top() == r.h.Seen {
		return r.then(atNext)
	}
	return r.then(atPeek)
}

func (r *stackRow) read() bool {
	switch r.h.At {
	case atNext:
		if !r.has(r.h.Block) {
			return false
		}
		r.h.Next, r.h.From = r.index(r.linkPlace(r.h.Block)), r.h.Block
		return r.then(atLook)
	case atLook:
		if !r.has(r.h.From) {
			return false
		}
		r.h.Value = r.index(r.valuePlace(r.h.From))
		return r.then(atKeep)
	}
	r.words[slotPlace(r.h.For, 3)] = wordOf(0, 0, r.h.Value, 0)
	return r.then(atPick)
}

func (r *stackRow) pop() bool {
	switch {
	case r.h.At == atRetire:
		r.h.Kept++
		return r.h.Kept <= topIndex && r.put(0, wordOf(kindRetired, r.h.For, 0, 0)) && r.then(atSay)
	case r.h.Code == opDeq:
		if !r.intend(intentDeq) {
			return false
		}
		r.swapAt(rootHead, r.h.Next, deedDeq, atRetire, atHead)
	default:
		if !r.intend(intentPop) {
			return false
		}
		r.swapAt(rootTop, r.h.Next, deedPop, atRetire, atPeek)
	}
	r.h.Reply, r.h.Out = replyGot, r.h.Value
	return true
}

func (r *stackRow) top() uint64 { return r.words[r.rootPlace(rootTop)] }

// stackHand is right, full of numbers, and At a row that it may do.
func stackHand(p impl.Plan, at int64, seed uint64) impl.Hand {
	h := mixedRightHand(p, seed)
	h.At = at
	if seed%4 != 0 {
		h.Code = []int64{opPush, opPop, opEnq, opDeq}[seed/4%4]
	}
	h.Last = min(h.Last, topSeq-1)
	h.Kept = min(h.Kept, topIndex-1)
	h.Block = 1 + h.Block%(p.Small+p.Large)
	h.From = 1 + h.From%(p.Small+p.Large)
	return h
}

// stackArena has any words; now and then the stack is empty, what the hand has seen is on top still, or another word of the same Index is.
func stackArena(p impl.Plan, h impl.Hand, seed uint64) []uint64 {
	y := yardOf(p, mixedWords(len(laidOut(p)), seed+11))
	top := &y.words[y.rootPlace(rootTop)]
	switch seed % 4 {
	case 0:
		*top &^= 65535 << 32
	case 1:
		*top = h.Seen
	case 2:
		*top = *top&^(65535<<32) | h.Seen&(65535<<32)
	}
	return y.words
}

func TestStackConstants(t *testing.T) {
	for i, c := range [][2]int64{
		{impl.AtAim, atAim}, {impl.AtNode, atNode}, {impl.AtTop, atTop}, {impl.AtJoin, atJoin}, {impl.AtPeek, atPeek}, {impl.AtGuard, atGuard},
		{impl.AtAgain, atAgain}, {impl.AtNext, atNext}, {impl.AtLook, atLook}, {impl.AtKeep, atKeep}, {impl.AtPick, atPick}, {impl.AtRetire, atRetire},
		{impl.AtClean, atClean}, {impl.AtHead, atHead}, {impl.AtFind, atFind},
		{impl.OpPush, opPush}, {impl.OpPop, opPop}, {impl.OpEnq, opEnq}, {impl.OpDeq, opDeq},
		{impl.InPush, intentPush}, {impl.InPop, intentPop}, {impl.InEnq, intentEnq}, {impl.InDeq, intentDeq},
		{impl.DdPush, deedPush}, {impl.DdPop, deedPop}, {impl.DdEnq, deedEnq}, {impl.DdDeq, deedDeq},
		{impl.RpEmpty, replyEmpty}, {impl.BkNode, kindNode}, {impl.BkRetired, kindRetired},
	} {
		if c[0] != c[1] {
			t.Errorf("constant %d is %d, not %d", i, c[0], c[1])
		}
	}
}

// What was counted by hand: three slots, their words from 0 on, the roots from 30 on (Top is at 32, Front at 33), the small blocks 1 to 5 from 37 on, the large ones, 6 and 7, from 52 on, 62 words.
func TestStackStepsOfTheUsualPlan(t *testing.T) {
	anyWords := mixedWords(62, 23)
	with := func(at int64, x uint64) []uint64 { return withWordAt(anyWords, at, x) }
	for i, c := range []struct {
		a    []uint64
		h    impl.Hand
		at   int64
		word uint64
		then func(h *impl.Hand)
	}{
		{anyWords, impl.Hand{At: impl.AtAim, Code: impl.OpPush, B: 9, Block: 2, Last: 5}, 2, 3<<56 | 2<<32 | 6, func(h *impl.Hand) { h.Last, h.At = 6, impl.AtNode }},
		{anyWords, impl.Hand{At: impl.AtAim, Code: impl.OpEnq, For: 1, Block: 5}, 9, 5<<56 | 5<<32 | 1, func(h *impl.Hand) { h.Last, h.At = 1, impl.AtNode }},
		{anyWords, impl.Hand{At: impl.AtAim, Code: impl.OpDeq, For: 2, Block: 65535, Last: 4294967294}, 16, 3<<56 | 65535<<32 | 4294967295, func(h *impl.Hand) { h.Last, h.At = 4294967295, impl.AtNode }},
		{anyWords, impl.Hand{At: impl.AtNode, Code: impl.OpPush, For: 1, Block: 3}, 43, 2 << 56, func(h *impl.Hand) { h.At = impl.AtTop }},
		{anyWords, impl.Hand{At: impl.AtNode, Code: impl.OpEnq, For: 1, Block: 7}, 57, 2 << 56, func(h *impl.Hand) { h.At = impl.AtClean }},
		{with(32, 3<<56|1<<48|4<<32|8), impl.Hand{At: impl.AtTop, Code: impl.OpPush, Block: 2}, 32, 3<<56 | 1<<48 | 4<<32 | 8, func(h *impl.Hand) { h.Seen, h.At = 3<<56|1<<48|4<<32|8, impl.AtJoin }},
		{with(32, 0), impl.Hand{At: impl.AtTop, Code: impl.OpPush, Block: 2, Seen: 7}, 32, 0, func(h *impl.Hand) { h.Seen, h.At = 0, impl.AtJoin }},
		{anyWords, impl.Hand{At: impl.AtJoin, Code: impl.OpPush, For: 2, Block: 3, Seen: 3<<56 | 1<<48 | 4<<32 | 8, Last: 9, Reply: 9, Out: 8}, 44, 4 << 32, func(h *impl.Hand) {
			h.Addr, h.Put, h.Does, h.Good, h.Bad, h.Reply, h.Out, h.At = 32, 2<<48|3<<32|9, impl.DdPush, impl.AtSay, impl.AtTop, impl.RpOk, 0, impl.AtNote
		}},
		{anyWords, impl.Hand{At: impl.AtJoin, Code: impl.OpEnq, Block: 6, Seen: 8, Last: 9}, 53, 0, func(h *impl.Hand) {
			h.Addr, h.Put, h.Does, h.Good, h.Bad, h.Reply, h.At = 32, 6<<32|9, impl.DdPush, impl.AtSay, impl.AtTop, impl.RpOk, impl.AtNote
		}},
		{with(32, 3<<56|1<<48|4<<32|8), impl.Hand{At: impl.AtPeek, Code: impl.OpPop, Block: 2, Out: 5}, 32, 3<<56 | 1<<48 | 4<<32 | 8, func(h *impl.Hand) { h.Seen, h.Block, h.At = 3<<56|1<<48|4<<32|8, 4, impl.AtGuard }},
		{with(32, 65535<<32), impl.Hand{At: impl.AtPeek, Code: impl.OpDeq}, 32, 65535 << 32, func(h *impl.Hand) { h.Seen, h.Block, h.At = 65535<<32, 65535, impl.AtGuard }},
		{with(32, 3<<56|1<<48|8), impl.Hand{At: impl.AtPeek, Code: impl.OpPop, Block: 2, Reply: 9, Out: 5}, 32, 3<<56 | 1<<48 | 8, func(h *impl.Hand) { h.Seen, h.Reply, h.Out, h.At = 3<<56|1<<48|8, impl.RpEmpty, 0, impl.AtSay }},
		{anyWords, impl.Hand{At: impl.AtGuard, Code: impl.OpPop, For: 1, Block: 6}, 12, 6 << 32, func(h *impl.Hand) { h.At = impl.AtAgain }},
		{anyWords, impl.Hand{At: impl.AtGuard, Code: impl.OpPop, For: 2, Block: 65535}, 19, 65535 << 32, func(h *impl.Hand) { h.At = impl.AtAgain }},
		{with(32, 1<<48|4<<32|8), impl.Hand{At: impl.AtAgain, Code: impl.OpPop, Seen: 1<<48 | 4<<32 | 8, Block: 4}, 32, 1<<48 | 4<<32 | 8, func(h *impl.Hand) { h.At = impl.AtNext }},
		{with(32, 1<<48|4<<32|9), impl.Hand{At: impl.AtAgain, Code: impl.OpPop, Seen: 1<<48 | 4<<32 | 8, Block: 4}, 32, 1<<48 | 4<<32 | 9, func(h *impl.Hand) { h.At = impl.AtPeek }},
		{with(32, 1<<48|3<<32|8), impl.Hand{At: impl.AtAgain, Code: impl.OpPop, Seen: 1<<48 | 4<<32 | 8, Block: 4}, 32, 1<<48 | 3<<32 | 8, func(h *impl.Hand) { h.At = impl.AtPeek }},
		{with(47, 255<<56|3<<32|9), impl.Hand{At: impl.AtNext, Code: impl.OpPop, Block: 4, From: 1, Next: 8}, 47, 255<<56 | 3<<32 | 9, func(h *impl.Hand) { h.Next, h.From, h.At = 3, 4, impl.AtLook }},
		{with(58, 1<<48|1), impl.Hand{At: impl.AtNext, Code: impl.OpPop, Block: 7, Next: 8}, 58, 1<<48 | 1, func(h *impl.Hand) { h.Next, h.From, h.At = 0, 7, impl.AtLook }},
		{with(48, 9<<32), impl.Hand{At: impl.AtLook, Code: impl.OpPop, Block: 2, From: 4}, 48, 9 << 32, func(h *impl.Hand) { h.Value, h.At = 9, impl.AtKeep }},
		{with(54, 255<<56|7<<48|65535<<32|3), impl.Hand{At: impl.AtLook, Code: impl.OpDeq, Block: 2, From: 6, Value: 1}, 54, 255<<56 | 7<<48 | 65535<<32 | 3, func(h *impl.Hand) { h.Value, h.At = 65535, impl.AtKeep }},
		{anyWords, impl.Hand{At: impl.AtKeep, Code: impl.OpPop, For: 2, Value: 65535, Out: 4}, 17, 65535 << 32, func(h *impl.Hand) { h.At = impl.AtPick }},
		{anyWords, impl.Hand{At: impl.AtKeep, Code: impl.OpDeq, Out: 4}, 3, 0, func(h *impl.Hand) { h.At = impl.AtPick }},
		{anyWords, impl.Hand{At: impl.AtPick, Code: impl.OpPop, For: 1, Block: 4, Next: 3, Value: 77, Last: 9, Reply: 9, Out: 8}, 9, 4<<56 | 4<<32 | 10, func(h *impl.Hand) {
			h.Last, h.Addr, h.Put, h.Does, h.Good, h.Bad, h.Reply, h.Out, h.At = 10, 32, 1<<48|3<<32|10, impl.DdPop, impl.AtRetire, impl.AtPeek, impl.RpGot, 77, impl.AtNote
		}},
		{anyWords, impl.Hand{At: impl.AtPick, Code: impl.OpDeq, For: 2, Block: 1, Next: 65535, Value: 0, Last: 0, Out: 8}, 16, 6<<56 | 1<<32 | 1, func(h *impl.Hand) {
			h.Last, h.Addr, h.Put, h.Does, h.Good, h.Bad, h.Reply, h.Out, h.At = 1, 33, 2<<48|65535<<32|1, impl.DdDeq, impl.AtRetire, impl.AtHead, impl.RpGot, 0, impl.AtNote
		}},
		{anyWords, impl.Hand{At: impl.AtPick, Code: impl.OpEnq, Block: 7, Value: 65535}, 2, 4<<56 | 7<<32 | 1, func(h *impl.Hand) {
			h.Last, h.Addr, h.Put, h.Does, h.Good, h.Bad, h.Reply, h.Out, h.At = 1, 32, 1, impl.DdPop, impl.AtRetire, impl.AtPeek, impl.RpGot, 65535, impl.AtNote
		}},
		{anyWords, impl.Hand{At: impl.AtRetire, Code: impl.OpPop, For: 2, Block: 4, Kept: 3, Reply: 2, Out: 8}, 46, 3<<56 | 2<<48, func(h *impl.Hand) { h.Kept, h.At = 4, impl.AtSay }},
		{anyWords, impl.Hand{At: impl.AtRetire, Code: impl.OpDeq, Block: 6, Kept: 65534}, 52, 3 << 56, func(h *impl.Hand) { h.Kept, h.At = 65535, impl.AtSay }},
	} {
		h := c.h
		h.Up, h.In, h.Life = true, true, 3
		want := impl.Done{Arena: withWordAt(c.a, c.at, c.word), Hand: h}
		c.then(&want.Hand)
		what := fmt.Sprint("by hand, ", i)
		for me := range int64(3) {
			stacking.wantStep(t, what, usualPlan, c.a, me, h, want, true)
			if !stacking.wantTable(t, what, usualPlan, c.a, me, h) {
				t.Fatalf("%s: the table tells otherwise", what)
			}
		}
	}
}

// eachStackRow gives, of each row, hands that may do it, over arenas of all kinds; rounds: how often each of them.
func eachStackRow(p impl.Plan, rounds uint64, f func(a []uint64, me int64, h impl.Hand)) {
	for at := int64(atAim); at <= atRetire; at++ {
		for i := range rounds {
			seed := i*8 + uint64(at)*1000 + uint64(p.Procs)*17 + i/8
			h := stackHand(p, at, seed)
			f(stackArena(p, h, i), int64(seed/3)%p.Procs, h)
		}
	}
}

// Each row by hands that may do it, every field and every word of them; all that is not named stays as it was.
func TestEachStackRow(t *testing.T) {
	for _, p := range somePlans {
		met := map[[2]int64]int{}
		eachStackRow(p, roundsOf(p, 400), func(a []uint64, me int64, h impl.Hand) {
			if !stacking.wantTable(t, "a row", p, a, me, h) {
				t.Fatalf("%+v may not do its row", h)
			}
			then, _ := stackByTable(p, a, h)
			met[[2]int64{h.At, then.Hand.At}]++
		})
		for _, way := range [][2]int64{
			{atAim, atNode}, {atNode, atClean}, {atNode, atTop}, {atTop, atJoin}, {atJoin, atNote}, {atPeek, atSay}, {atPeek, atGuard}, {atGuard, atAgain},
			{atAgain, atNext}, {atAgain, atPeek}, {atNext, atLook}, {atLook, atKeep}, {atKeep, atPick}, {atPick, atNote}, {atRetire, atSay},
		} {
			if met[way] == 0 && roundsOf(p, 400) > 100 {
				t.Fatalf("%+v: %v was not gone: %v", p, way, met)
			}
		}
	}
}

// One word at most is written, and it is the one that the row names; no deed is told.
func TestStackWritesWhatTheRowNames(t *testing.T) {
	for _, p := range somePlans {
		regions := laidOut(p)
		eachStackRow(p, roundsOf(p, 200), func(a []uint64, me int64, h impl.Hand) {
			d, is := impl.StackStep(p, a, me, h)
			if !is || d.Deed != (impl.Deed{}) {
				t.Fatalf("StackStep(%+v, .., %d, %+v) is %v, %+v", p, me, h, is, d.Deed)
			}
			may := map[int64]impl.Region{
				atAim: {Kind: 1, Item: h.For, Field: 2}, atNode: {Kind: 4, Item: h.Block}, atJoin: {Kind: 4, Item: h.Block, Field: 1}, atGuard: {Kind: 1, Item: h.For, Field: 5},
				atKeep: {Kind: 1, Item: h.For, Field: 3}, atPick: {Kind: 1, Item: h.For, Field: 2}, atRetire: {Kind: 4, Item: h.Block},
			}
			for at, x := range d.Arena {
				if x != a[at] && regions[at] != may[h.At] {
					t.Fatalf("%+v wrote at %+v", h, regions[at])
				}
			}
		})
	}
}

// Of OpEnq alone it is the queue that the block is meant for; of every other code, be it one of the stack's or not, the stack.
func TestAimAndNodeByEachCode(t *testing.T) {
	for _, p := range somePlans {
		for _, block := range someBlocks(p) {
			for code := range int64(topCode + 1) {
				h := stackHand(p, atAim, uint64(block*15+code))
				h.Code, h.Block = code, block
				kind, next := int64(intentPush), int64(atTop)
				if code == opEnq {
					kind, next = intentEnq, atClean
				}
				a := stackArena(p, h, uint64(code))
				want := h
				want.Last, want.At = h.Last+1, atNode
				then := withWordAt(a, slotPlace(h.For, 2), wordOf(kind, 0, block, h.Last+1))
				stacking.wantStep(t, "aimed", p, a, 0, h, impl.Done{Arena: then, Hand: want}, true)
				h.At = atNode
				then = withWordAt(a, int64(headPlaces(p)[block-1]), wordOf(kindNode, 0, 0, 0))
				stacking.wantStep(t, "a node", p, a, 0, h, impl.Done{Arena: then, Hand: withNumber(h, "At", next)}, true)
			}
		}
	}
}

// topsOf are words that may stand on top: with each block, with none, and with what is no block.
func topsOf(p impl.Plan) []uint64 {
	var out []uint64
	for _, index := range append(someBlocks(p), 0, p.Small+p.Large+1, 255, 256, topIndex) {
		out = append(out, wordOf(0, 0, index, 0), wordOf(0, p.Procs-1, index, topTag), wordOf(topByte, topByte, index, topSeq))
	}
	return out
}

// aroundTop has that word on top; the roots beside it are all ones, or all noughts.
func aroundTop(p impl.Plan, top, beside uint64) yard {
	y := yardOf(p, mixedWords(len(laidOut(p)), top>>7))
	for root := range 5 {
		y.words[y.rootPlace(root)] = beside
	}
	y.words[y.rootPlace(rootTop)] = top
	return y
}

// Whatever is on top is seen; it is asked for its Index by who peeks, and by nobody whether it is a block.
func TestTopAndPeekAtEachTop(t *testing.T) {
	t.Parallel()
	for _, p := range somePlans {
		for _, top := range topsOf(p) {
			for _, beside := range []uint64{0, math.MaxUint64} {
				y := aroundTop(p, top, beside)
				for code := range int64(topCode + 1) {
					h := stackHand(p, atTop, top>>9+uint64(code))
					h.Code, h.Reply, h.Out = code, 9, 7
					want := h
					want.Seen, want.At = top, atJoin
					stacking.wantStep(t, "the top", p, y.words, 0, h, impl.Done{Arena: y.words, Hand: want}, true)
					h.At = atPeek
					if want.Block, want.At = int64(top>>32&65535), atGuard; want.Block == 0 {
						want.Block, want.Reply, want.Out, want.At = h.Block, replyEmpty, 0, atSay
					}
					stacking.wantStep(t, "peeked", p, y.words, 0, h, impl.Done{Arena: y.words, Hand: want}, true)
				}
			}
		}
	}
}

// On an empty stack, on one that is not, and on what is no block: the Link bears the Index of what was seen, and nothing else of it.
func TestJoinOnEachTop(t *testing.T) {
	for _, p := range somePlans {
		for i, block := range someBlocks(p) {
			for _, seen := range topsOf(p) {
				h := stackHand(p, atJoin, seen>>7+uint64(block))
				h.Block, h.Seen, h.Code, h.Last, h.Reply, h.Out = block, seen, (block+int64(i))%(topCode+1), int64(seen>>3&topSeq), 9, 8
				y := yardOf(p, stackArena(p, h, 3))
				want := h
				want.Addr, want.Put = int64(y.rootPlace(rootTop)), wordOf(0, h.For, block, h.Last)
				want.Does, want.Good, want.Bad, want.Reply, want.Out, want.At = deedPush, atSay, atTop, replyOk, 0, atNote
				then := withWordAt(y.words, int64(y.linkPlace(block)), seen&(65535<<32))
				stacking.wantStep(t, "joined", p, y.words, 0, h, impl.Done{Arena: then, Hand: want}, true)
			}
		}
	}
}

// Every block may be guarded, as may what is none: it is the next row that asks whether it is on top.
func TestGuardOfEachBlock(t *testing.T) {
	for _, p := range somePlans {
		for _, block := range append(someBlocks(p), 0, p.Small+p.Large+1, 255, 256, topIndex) {
			for _, slot := range someSlots(p) {
				h := stackHand(p, atGuard, uint64(block+slot))
				h.Block, h.For = block, slot
				a := stackArena(p, h, uint64(block))
				then := withWordAt(a, slotPlace(slot, 5), uint64(block)<<32)
				stacking.wantStep(t, "guarded", p, a, 0, h, impl.Done{Arena: then, Hand: withNumber(h, "At", atAgain)}, true)
				if is := impl.Guarded(p, then, block); is != (block >= 1 && block <= p.Small+p.Large) {
					t.Fatalf("block %d of %+v is guarded: %v", block, p, is)
				}
			}
		}
	}
}

// The second look is at the whole word: one of the same Index that was put there by another, or by a later number, is not what was seen.
func TestAgainLooksAtEveryBit(t *testing.T) {
	for _, p := range somePlans {
		for i, seen := range []uint64{0, wordOf(0, 0, 1, 0), wordOf(0, p.Procs-1, p.Small, 9), wordOf(0, 1, p.Small+p.Large+1, topTag), math.MaxUint64} {
			h := stackHand(p, atAgain, uint64(i))
			h.Seen, h.Code = seen, int64(i*3)%(topCode+1)
			for _, beside := range []uint64{seen, ^seen} {
				y := aroundTop(p, seen, beside)
				stacking.wantStep(t, "it is there", p, y.words, 0, h, impl.Done{Arena: y.words, Hand: withNumber(h, "At", atNext)}, true)
				for bit := range 64 {
					y := aroundTop(p, seen^1<<bit, beside)
					stacking.wantStep(t, "another is there", p, y.words, 0, h, impl.Done{Arena: y.words, Hand: withNumber(h, "At", atPeek)}, true)
				}
			}
		}
	}
}

// Behind the last node there is none: its Link has the Index 0, whatever else is in it.
func TestNextOfEachLink(t *testing.T) {
	for _, p := range somePlans {
		for _, block := range someBlocks(p) {
			for i, link := range topsOf(p) {
				h := stackHand(p, atNext, link>>5+uint64(block))
				h.Block, h.Code = block, int64(i)%(topCode+1)
				y := yardOf(p, stackArena(p, h, uint64(i)))
				y.words[y.linkPlace(block)] = link
				want := h
				want.Next, want.From, want.At = int64(link>>32&65535), block, atLook
				stacking.wantStep(t, "next", p, y.words, 0, h, impl.Done{Arena: y.words, Hand: want}, true)
			}
		}
	}
}

// The first value of From, be it the Block or another one, whatever Kind, Pid and Seq are in it; of a large block the first one alone.
func TestLookAtEachValue(t *testing.T) {
	for _, p := range somePlans {
		for i, from := range someBlocks(p) {
			for _, value := range []int64{0, 1, 255, 256, 32768, topIndex - 1, topIndex} {
				for _, x := range []uint64{wordOf(0, 0, value, 0), wordOf(3, p.Procs-1, value, 7), wordOf(topByte, topByte, value, topSeq)} {
					h := stackHand(p, atLook, x>>5+uint64(from))
					h.From = from
					if i%2 == 0 {
						h.Block = []int64{0, from, topIndex}[value%3]
					}
					y := yardOf(p, stackArena(p, h, uint64(i)))
					y.words[y.valuePlace(from)] = x
					want := h
					want.Value, want.At = value, atKeep
					stacking.wantStep(t, "looked at", p, y.words, 0, h, impl.Done{Arena: y.words, Hand: want}, true)
				}
			}
		}
	}
}

func TestKeepEachValue(t *testing.T) {
	for _, p := range somePlans {
		for _, value := range []int64{0, 1, 255, 256, 32768, topIndex - 1, topIndex} {
			for _, slot := range someSlots(p) {
				h := stackHand(p, atKeep, uint64(value+slot))
				h.Value, h.For = value, slot
				a := stackArena(p, h, uint64(value))
				then := withWordAt(a, slotPlace(slot, 3), uint64(value)<<32)
				stacking.wantStep(t, "kept", p, a, 0, h, impl.Done{Arena: then, Hand: withNumber(h, "At", atPick)}, true)
			}
		}
	}
}

// Of OpDeq alone it is the queue that it is picked from; what is intended is of Block, whatever that is, and what is put is Next.
func TestPickByEachCode(t *testing.T) {
	for _, p := range somePlans {
		for _, block := range append(someBlocks(p), 0, p.Small+p.Large+1, topIndex) {
			for code := range int64(topCode + 1) {
				for _, next := range []int64{0, 1, p.Small + p.Large, topIndex} {
					h := stackHand(p, atPick, uint64(block*15+code+next))
					h.Code, h.Block, h.Next, h.Reply, h.Out = code, block, next, 9, 8
					y := yardOf(p, stackArena(p, h, uint64(code)))
					want := h
					want.Last, want.Put = h.Last+1, wordOf(0, h.For, next, h.Last+1)
					want.Addr, want.Does, want.Good, want.Bad = int64(y.rootPlace(rootTop)), deedPop, atRetire, atPeek
					want.Reply, want.Out, want.At = replyGot, h.Value, atNote
					kind := int64(intentPop)
					if code == opDeq {
						kind, want.Addr, want.Does, want.Bad = intentDeq, int64(y.rootPlace(rootHead)), deedDeq, atHead
					}
					then := withWordAt(y.words, slotPlace(h.For, 2), wordOf(kind, 0, block, h.Last+1))
					stacking.wantStep(t, "picked", p, y.words, 0, h, impl.Done{Arena: then, Hand: want}, true)
				}
			}
		}
	}
}

// One more than MaxIndex is no right number of a hand; Keep has no say here.
func TestRetireAtTheEndsOfKept(t *testing.T) {
	for _, p := range somePlans {
		for _, block := range someBlocks(p) {
			for _, kept := range []int64{0, 1, p.Keep - 1, p.Keep, p.Keep + 1, 255, 256, topIndex - 1, topIndex} {
				h := stackHand(p, atRetire, uint64(block+kept))
				h.Block, h.Kept = block, kept
				a := stackArena(p, h, uint64(kept))
				if kept == topIndex {
					stacking.wantNone(t, "kept too many", p, a, 0, h)
					continue
				}
				want := h
				want.Kept, want.At = kept+1, atSay
				then := withWordAt(a, int64(headPlaces(p)[block-1]), wordOf(kindRetired, h.For, 0, 0))
				stacking.wantStep(t, "retired", p, a, 0, h, impl.Done{Arena: then, Hand: want}, true)
				if gone := impl.RetiredBy(p, then, h.For); !slices.Contains(gone, block) {
					t.Fatalf("slot %d of %+v has retired %v, not %d", h.For, p, gone, block)
				}
			}
		}
	}
}

// Kept at its end is of no matter but where it is one more.
func TestStackWithKeptAtItsEnd(t *testing.T) {
	for _, p := range somePlans {
		for at := int64(atAim); at <= atRetire; at++ {
			for seed := range uint64(4) {
				h := stackHand(p, at, seed)
				h.Kept = topIndex
				if is := stacking.wantTable(t, "Kept at its end", p, stackArena(p, h, seed), 0, h); is != (at != atRetire) {
					t.Fatalf("%+v of %+v is %v", h, p, is)
				}
			}
		}
	}
}

// One more than MaxSeq is no right number: what would intend it is not done; all other rows do not mind it.
func TestStackWithLastAtItsEnd(t *testing.T) {
	for _, p := range somePlans {
		for at := int64(atAim); at <= atRetire; at++ {
			for _, last := range []int64{0, 1, topTag, topTag + 1, 1 << 31, topSeq - 1, topSeq} {
				for code := range int64(topCode + 1) {
					h := stackHand(p, at, uint64(code))
					h.Last, h.Code = last, code
					is := stacking.wantTable(t, "Last at its end", p, stackArena(p, h, uint64(code)), 0, h)
					if is != (last < topSeq || at != atAim && at != atPick) {
						t.Fatalf("%+v of %+v is %v", h, p, is)
					}
					if len(laidOut(p)) > 1000 {
						break
					}
				}
			}
		}
	}
}

// Block and From, each by itself: 0, the last block, and one more. Who takes the place of a word of a block that there isn't does nothing; who only tells of one does.
func TestStackOfBlocksThatThereAreNot(t *testing.T) {
	t.Parallel()
	byBlock := []int64{atNode, atJoin, atNext, atRetire}
	for _, p := range somePlans {
		last := p.Small + p.Large
		for at := int64(atAim); at <= atRetire; at++ {
			for _, n := range []int64{0, 1, p.Small, p.Small + 1, last, last + 1, last + 2, 255, 256, 257, 32768, topIndex} {
				there := n >= 1 && n <= last
				for seed := range roundsOf(p, 12) {
					h := stackHand(p, at, seed)
					a := stackArena(p, h, seed)
					if is := stacking.wantTable(t, "a block", p, a, 0, withNumber(h, "Block", n)); is != (there || !slices.Contains(byBlock, at)) {
						t.Fatalf("block %d of %+v, %+v is %v", n, p, h, is)
					}
					if is := stacking.wantTable(t, "from a block", p, a, 0, withNumber(h, "From", n)); is != (there || at != atLook) {
						t.Fatalf("from block %d of %+v, %+v is %v", n, p, h, is)
					}
				}
			}
		}
	}
}

func TestStackStepsAtEveryPlan(t *testing.T) {
	t.Parallel()
	eachRightPlan(func(p impl.Plan) {
		last := p.Small + p.Large
		a := slices.Repeat([]uint64{wordOf(kindNode, p.Procs-1, last, 5)}, len(laidOut(p)))
		for at := int64(atAim); at <= atRetire; at++ {
			h := impl.Hand{
				Up: true, Life: 1, At: at, Code: opPush + at%4, A: at % 2, B: 2, C: 9, Last: 6, For: p.Procs - 1, Block: last, From: p.Small, Next: 4, Value: 8, Seen: a[0],
			}
			d, is := impl.StackStep(p, a, 0, h)
			want, _ := stackByTable(p, a, h)
			if !is || d.Hand != want.Hand || d.Deed != want.Deed || !slices.Equal(d.Arena, want.Arena) {
				t.Fatalf("%+v: StackStep of %+v is %+v, %+v, %v", p, h, d.Hand, d.Deed, is)
			}
		}
	})
}

// nodes are those of the stack, the last one put first; StackNodes and StackOf must tell them and their values, and each of them says that it is a node.
func (x *process) nodes(t *testing.T, values []int64) []int64 {
	t.Helper()
	nodes, whole := x.walked(rootTop)
	got, isGot := impl.StackNodes(x.p, x.words)
	gotValues, isValues := impl.StackOf(x.p, x.words)
	if !whole || !isGot || !isValues || !slices.Equal(got, nodes) || !slices.Equal(gotValues, values) || !slices.Equal(x.values(nodes), values) {
		t.Fatalf("%+v: the stack is %v, %v, by StackNodes %v, %v, by StackOf %v, %v, and it should have %v", x.p, nodes, whole, got, isGot, gotValues, isValues, values)
	}
	for _, node := range nodes {
		if head := x.words[x.heads[node-1]]; head != wordOf(kindNode, 0, 0, 0) {
			t.Fatalf("block %d of %+v is in the stack, and its head is %#x", node, x.p, head)
		}
	}
	return nodes
}

// push pushes a value, alone, and holds every word that is then; 0 where there is no block for it.
func (x *process) push(t *testing.T, value int64) int64 {
	t.Helper()
	then, last, kept, free := x.copied(), x.h.Last, x.h.Kept, x.free(t, 0)
	nodes, _ := x.walked(rootTop)
	stack := x.values(nodes)
	reply, out := x.call(t, opPush, 0, value, 0)
	if len(free) == 0 {
		x.wantTold(t, reply, out, replyFull, 0)
		opened(then.words, x.slot, opPush, 0, last, 2, replyFull, 0)
		x.wantEnd(t, "none is pushed", then.words, last+2, nil)
		return 0
	}
	block := free[0]
	x.wantTold(t, reply, out, replyOk, 0)
	opened(then.words, x.slot, opPush, 0, last, 4, replyOk, 0)
	then.swapped(x.slot, rootSmall, then.index(then.linkPlace(block)), last+2)
	then.words[then.heads[block-1]] = wordOf(kindNode, 0, 0, 0)
	then.setValue(block, value)
	then.setLink(block, then.index(then.rootPlace(rootTop)))
	then.swapped(x.slot, rootTop, block, last+3)
	x.wantEnd(t, "pushed", then.words, last+4, []impl.Deed{
		{Kind: deedTake, Slot: x.slot, Number: last + 1, Item: block}, {Kind: deedPush, Slot: x.slot, Number: last + 1, Item: block, Value: value},
	})
	if now := x.nodes(t, append([]int64{value}, stack...)); !slices.Equal(now, append([]int64{block}, nodes...)) || x.h.Kept != kept {
		t.Fatalf("%+v: block %d was pushed onto %v, now %v, and %d are kept", x.p, block, nodes, now, x.h.Kept)
	}
	return block
}

// pop pops a value, alone, likewise; false where there is none, or where it may not.
func (x *process) pop(t *testing.T) (int64, bool) {
	t.Helper()
	then, last, kept := x.copied(), x.h.Last, x.h.Kept
	nodes, _ := x.walked(rootTop)
	reply, out := x.call(t, opPop, 0, 0, 0)
	if kept >= x.p.Keep || len(nodes) == 0 {
		no := int64(replyEmpty)
		if kept >= x.p.Keep {
			no = replyKeep
		}
		x.wantTold(t, reply, out, no, 0)
		opened(then.words, x.slot, opPop, 0, last, 2, no, 0)
		x.wantEnd(t, "none is popped", then.words, last+2, nil)
		x.nodes(t, then.values(nodes))
		return 0, false
	}
	block, value := nodes[0], then.index(then.valuePlace(nodes[0]))
	x.wantTold(t, reply, out, replyGot, value)
	opened(then.words, x.slot, opPop, 0, last, 3, replyGot, value)
	then.words[slotPlace(x.slot, 3)] = wordOf(0, 0, value, 0)
	then.swapped(x.slot, rootTop, then.index(then.linkPlace(block)), last+2)
	then.words[then.heads[block-1]] = wordOf(kindRetired, x.slot, 0, 0)
	x.wantEnd(t, "popped", then.words, last+3, []impl.Deed{{Kind: deedPop, Slot: x.slot, Number: last + 1, Item: block, Value: value}})
	if now := x.nodes(t, then.values(nodes[1:])); !slices.Equal(now, nodes[1:]) || x.h.Kept != kept+1 || !slices.Contains(impl.RetiredBy(x.p, x.words, x.slot), block) {
		t.Fatalf("%+v: of %v block %d was popped, now %v, and %d are kept", x.p, nodes, block, now, x.h.Kept)
	}
	return value, true
}

// scan gives back all that the slot has retired, by the pool's own steps.
func (x *process) scan(t *testing.T) {
	t.Helper()
	reply, out := x.call(t, opScan, 0, 0, 0)
	x.wantTold(t, reply, out, replyOk, 0)
	if gone := impl.RetiredBy(x.p, x.words, x.slot); len(gone) > 0 || x.h.Kept != 0 {
		t.Fatalf("%+v: slot %d has %v retired still, and %d are kept", x.p, x.slot, gone, x.h.Kept)
	}
}

// makeRoom scans where nothing may be popped any more, or where all that could be taken is retired.
func (x *process) makeRoom(t *testing.T) {
	t.Helper()
	if x.h.Kept == x.p.Keep || x.h.Kept > 0 && len(x.free(t, 0)) == 0 {
		x.scan(t)
	}
}

// Promise 10: the value is got, and the stack is as it was, be it empty or as deep as can be; every slot.
func TestWhoPushesAndPopsAlone(t *testing.T) {
	t.Parallel()
	for _, p := range somePlans {
		slots := someSlots(p)
		if len(laidOut(p)) > 1000 {
			slots = slots[len(slots)-1:]
		}
		for _, slot := range slots {
			x := processOf(p, slot, impl.Blank(p), 4)
			deep := []int64{}
			for round := int64(0); ; round++ {
				ahead := x.nodes(t, deep)
				value := []int64{0, topIndex, 1, 256, 32768, round, topIndex - round}[round%7]
				x.makeRoom(t)
				if x.push(t, value) == 0 {
					break
				}
				got, is := x.pop(t)
				if now := x.nodes(t, deep); !is || got != value || !slices.Equal(now, ahead) {
					t.Fatalf("%+v: %d was pushed onto %v, and %d, %v popped; now %v", p, value, ahead, got, is, now)
				}
				x.makeRoom(t)
				if x.push(t, value) == 0 {
					t.Fatalf("%+v: what was given back can't be pushed again", p)
				}
				deep = append([]int64{value}, deep...)
			}
			if int64(len(deep)) != p.Small-1 {
				t.Fatalf("%+v: %d were pushed", p, len(deep))
			}
			wantAllPopped(t, &x, deep)
		}
	}
}

// wantAllPopped pops them in their order, and gives back what it retired when it may not pop any more.
func wantAllPopped(t *testing.T, x *process, values []int64) {
	t.Helper()
	for i, value := range values {
		if x.h.Kept == x.p.Keep {
			if got, is := x.pop(t); is {
				t.Fatalf("%+v: %d was popped, and %d are kept", x.p, got, x.h.Kept)
			}
			x.scan(t)
		}
		if got, is := x.pop(t); !is || got != value {
			t.Fatalf("%+v: of %v %d was popped, %v", x.p, values[i:], got, is)
		}
		x.nodes(t, values[i+1:])
	}
	if x.h.Kept < x.p.Keep {
		if got, is := x.pop(t); is {
			t.Fatalf("%+v: %d was popped of none", x.p, got)
		}
	}
	x.scan(t)
	if n := impl.TakeableIn(x.p, x.words, 0); n != x.p.Small-1 {
		t.Fatalf("%+v: all was popped, and %d are to be taken", x.p, n)
	}
}

// Several are pushed and then popped, as many as fit Keep, from one stack that stays below them.
func TestSeveralPushedAndPoppedAgain(t *testing.T) {
	for _, p := range somePlans {
		below := min(2, p.Small-1)
		for most := range min(p.Small-1-below, p.Keep) + 1 {
			if most > 8 && most < p.Keep {
				continue
			}
			x := processOf(p, p.Procs-1, impl.Blank(p), 70)
			var stack []int64
			for i := range below {
				x.push(t, 500+i)
				stack = append([]int64{500 + i}, stack...)
			}
			ahead := x.nodes(t, stack)
			for i := range most {
				x.push(t, 65535-i)
			}
			for i := range most {
				if got, is := x.pop(t); !is || got != 65535-(most-1-i) {
					t.Fatalf("%+v: %d of %d popped is %d, %v", p, i, most, got, is)
				}
			}
			if now := x.nodes(t, stack); !slices.Equal(now, ahead) {
				t.Fatalf("%+v: the stack was %v and is %v", p, ahead, now)
			}
			if gone := impl.RetiredBy(p, x.words, p.Procs-1); int64(len(gone)) != most || x.h.Kept != most {
				t.Fatalf("%+v: %d were popped, %v are retired, and %d are kept", p, most, gone, x.h.Kept)
			}
		}
	}
}

// Where Kept is Keep nothing is popped, and of nothing nothing is, whatever the slot's words said before; Keep is asked for first.
func TestPopOfNoneAndWhereKeepIsMet(t *testing.T) {
	for _, p := range somePlans {
		for _, kept := range []int64{0, p.Keep - 1, p.Keep, p.Keep + 1, topIndex} {
			for _, isEmpty := range []bool{true, false} {
				x := processOf(p, 0, impl.Blank(p), 9)
				if !isEmpty {
					x.push(t, 77)
				}
				for field := int64(1); field < 7; field++ {
					x.words[slotPlace(0, field)] = wordOf(7, 0, p.Small, 9)
				}
				x.h.Kept = kept
				_, is := x.pop(t)
				if is != (kept < p.Keep && !isEmpty && p.Small > 1) {
					t.Fatalf("%+v: popped is %v where %d are kept", p, is, kept)
				}
			}
		}
	}
}

// What one slot pushes another one pops: the note about the one stands by the other, and the block is the other's to give back.
func TestWhatOnePushesAnotherPops(t *testing.T) {
	for _, p := range []impl.Plan{usualPlan, noLarge, mostPlan} {
		for _, one := range someSlots(p) {
			for _, other := range someSlots(p) {
				x, y := processOf(p, one, impl.Blank(p), 30), processOf(p, other, nil, 900)
				if one == other {
					continue
				}
				x.push(t, 11)
				block := x.push(t, 22)
				y.yard = x.yard
				if got, is := y.pop(t); !is || got != 22 || !slices.Equal(impl.RetiredBy(p, y.words, other), []int64{block}) || len(impl.RetiredBy(p, y.words, one)) > 0 {
					t.Fatalf("%+v: slot %d popped %d, %v", p, other, got, is)
				}
				if note := y.words[notePlace(p, one, other)]; note != 30+4+3 {
					t.Fatalf("%+v: the note about slot %d by %d is %d", p, one, other, note)
				}
				y.push(t, 33)
				x.yard = y.yard
				if got, is := x.pop(t); !is || got != 33 {
					t.Fatalf("%+v: slot %d popped %d, %v", p, one, got, is)
				}
				x.nodes(t, []int64{11})
			}
		}
	}
}

// Another one popped the block, gave it back and has it on top again: the word is not the one that was seen, so the first one looks again, be it ahead of its guard or behind it.
func TestTheSecondLookSeesThatItWasGone(t *testing.T) {
	for _, p := range []impl.Plan{usualPlan, noLarge, mostPlan} {
		for _, till := range []int64{atGuard, atAgain} {
			first, second := processOf(p, 0, impl.Blank(p), 0), processOf(p, 1, nil, 0)
			first.push(t, 11)
			block := first.push(t, 22)
			first.begin(t, opPop, 0, 0, 0)
			for first.h.At != till {
				first.step(t)
			}
			second.yard = first.yard
			second.pop(t)
			second.call(t, opScan, 0, 0, 0)
			isGuarded := till == atAgain
			if gone := impl.RetiredBy(p, second.words, 1); (len(gone) > 0) != isGuarded {
				t.Fatalf("%+v: at %d, %v are retired", p, till, gone)
			}
			if again := second.push(t, 33); (again == block) == isGuarded {
				t.Fatalf("%+v: at %d, block %d was popped and block %d pushed", p, till, block, again)
			}
			first.yard = second.yard
			for first.h.At != atPeek {
				if first.h.At > atAgain {
					t.Fatalf("%+v goes on by what it has seen", first.h)
				}
				first.step(t)
			}
			reply, out := first.rest(t)
			first.wantTold(t, reply, out, replyGot, 33)
			first.nodes(t, []int64{11})
		}
	}
}

// Who has looked again and is overtaken then finds so at its swap: behind its guard the block stays retired, so that it reads nothing that is free.
func TestWhoIsOvertakenBehindTheSecondLook(t *testing.T) {
	p := usualPlan
	for _, till := range []int64{atNext, atLook, atKeep, atPick, atNote, atSwap} {
		first, second := processOf(p, 0, impl.Blank(p), 0), processOf(p, 1, nil, 0)
		first.push(t, 11)
		block := first.push(t, 22)
		first.begin(t, opPop, 0, 0, 0)
		for first.h.At != till {
			first.step(t)
		}
		second.yard = first.yard
		second.pop(t)
		reply, out := second.call(t, opScan, 0, 0, 0)
		second.wantTold(t, reply, out, replyOk, 1)
		if gone := impl.RetiredBy(p, second.words, 1); !slices.Equal(gone, []int64{block}) {
			t.Fatalf("at %d %v are retired", till, gone)
		}
		first.yard = second.yard
		reply, out = first.rest(t)
		first.wantTold(t, reply, out, replyGot, 11)
		second.yard = first.yard
		reply, out = second.call(t, opScan, 0, 0, 0)
		second.wantTold(t, reply, out, replyOk, 0)
		second.nodes(t, nil)
	}
}

// Every way in which the steps of two or three can fall: the stack is as the deeds have it at each moment, nothing is lost, and nobody is about to read from a block that is free.
func TestEveryWayAtTheStack(t *testing.T) {
	t.Parallel()
	push, more, pop, scan := toCall(opPush, 0, 7), toCall(opPush, 0, 8), toCall(opPop), toCall(opScan)
	two := impl.Plan{Procs: 2, Small: 4, Large: 0, Cells: 1, Keep: 2}
	for i, c := range []struct {
		p     impl.Plan
		ahead []int64
		tasks [][]task
	}{
		{two, nil, [][]task{{push}, {more}}},
		{two, nil, [][]task{{push, pop}, {more, pop}}},
		{two, []int64{1, 2}, [][]task{{pop}, {pop, scan, push}}},
		{two, []int64{1, 2}, [][]task{{pop}, {pop, pop, scan, push, more}}},
		{two, []int64{1, 2, 3}, [][]task{{pop, scan}, {pop, scan, push}}},
		{two, []int64{1, 2, 3}, [][]task{{pop, push, scan}, {toTake(0), pop, toGive(0)}}},
		{impl.Plan{Procs: 2, Small: 3, Large: 0, Cells: 1, Keep: 1}, []int64{1}, [][]task{{pop, pop, scan}, {push, pop}}},
		{impl.Plan{Procs: 3, Small: 3, Large: 0, Cells: 1, Keep: 1}, []int64{1, 2}, [][]task{{pop}, {pop}, {pop}}},
	} {
		x := processOf(c.p, 0, impl.Blank(c.p), 0)
		for _, value := range c.ahead {
			x.push(t, value)
		}
		if n := wantEveryWay(t, x.yard, crowdOf(x.yard, c.tasks), c.tasks); n < 600 {
			t.Fatalf("few %d: %d moments", i, n)
		}
	}
}

// Many of them in a mixed order, for long; some take blocks and give them back beside it.
func TestManyAtTheStack(t *testing.T) {
	t.Parallel()
	for _, p := range []impl.Plan{usualPlan, noLarge, {Procs: 6, Small: 9, Large: 2, Cells: 1, Keep: 3}} {
		for seed := range uint64(6) {
			tasks := mixedTasks(p, seed, opPush, opPush, opPop, opPop, opScan)
			if n := wantMany(t, yardOf(p, impl.Blank(p)), tasks, seed); n < 500*int(p.Procs) {
				t.Fatalf("%+v: %d moments", p, n)
			}
		}
	}
}
