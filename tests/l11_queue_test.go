package tests

import (
	"fmt"
	"math"
	"slices"
	"testing"

	"loop.example/g00650/impl"
)

// The numbers are written out here, so that a changed constant is seen.
const (
	atTail       = 34
	atGuardTail  = 35
	atTailAgain  = 36
	atLast       = 37
	atHelp       = 38
	atLinkUp     = 39
	atSwing      = 40
	atGuardHead  = 42
	atHeadAgain  = 43
	atFirst      = 44
	atGuardFirst = 45
	atHeadStill  = 46
	atLag        = 47
	atPull       = 48
)

// A queueRow is a row of the document's table over a yard; each of its methods tells whether there is something to do.
type queueRow struct {
	poolRow
	deed impl.Deed
}

func queueByTable(p impl.Plan, a []uint64, h impl.Hand) (impl.Done, bool) {
	r, is := queueRow{poolRow: poolRow{yardOf(p, a), h}}, false
	switch {
	case h.At <= atTailAgain:
		is = r.toTail()
	case h.At <= atSwing:
		is = r.link()
	case h.At <= atHeadAgain:
		is = r.toFront()
	default:
		is = r.get()
	}
	if !is {
		return impl.Done{}, false
	}
	return impl.Done{Arena: r.words, Hand: r.h, Deed: r.deed}, true
}

func (r *queueRow) root(root int) uint64 { return r.words[r.rootPlace(root)] }

func (r *queueRow) either(is bool, good, bad int64) bool {
	if is {
		return r.then(good)
	}
	return r.then(bad)
}

func (r *queueRow) toTail() bool {
	switch r.h.At {
	case atClean:
		return r.put(1, 0) && r.then(atTail)
	case atTail:
		r.h.Seen = r.root(rootTail)
		r.h.From = int64(r.h.Seen >> 32 & 65535)
		return r.then(atGuardTail)
	case atGuardTail:
		r.words[slotPlace(r.h.For, 5)] = wordOf(0, 0, r.h.From, 0)
		return r.then(atTailAgain)
	}
	return r.either(r.root(rootTail) == r.h.Seen, atLast, atTail)
}

// swing moves the tail on if it is what was seen; there is no number above the last one.
func (r *queueRow) swing(seen uint64, block int64) bool {
	if seen&topSeq == topSeq {
		return false
	}
	if at := r.rootPlace(rootTail); r.words[at] == seen {
		r.words[at] = uint64(block)<<32 | (seen&topSeq + 1)
	}
	return true
}

func (r *queueRow) link() bool {
	switch r.h.At {
	case atHelp:
		return r.swing(r.h.Seen, r.h.Next) && r.then(atTail)
	case atSwing:
		return r.swing(r.h.Seen, r.h.Block) && r.then(atSay)
	}
	if !r.has(r.h.From) {
		return false
	}
	link := &r.words[r.linkPlace(r.h.From)]
	if r.h.At == atLast {
		r.h.Next = int64(*link >> 32 & 65535)
		return r.either(r.h.Next == 0, atLinkUp, atHelp)
	}
	if *link != 0 {
		return r.then(atTail)
	}
	*link = wordOf(0, r.h.For, r.h.Block, r.h.Last)
	r.deed = impl.Deed{Kind: deedEnq, Slot: r.h.For, Number: r.h.Number, Item: r.h.Block, Value: r.h.B}
	if r.h.Code == opStart || r.h.Code == opAdopt {
		r.deed.Number = 0
	}
	r.h.Reply, r.h.Out = replyOk, 0
	return r.then(atSwing)
}

func (r *queueRow) toFront() bool {
	switch r.h.At {
	case atHead:
		r.h.Seen = r.root(rootHead)
		r.h.Block = int64(r.h.Seen >> 32 & 65535)
		return r.then(atGuardHead)
	case atGuardHead:
		r.words[slotPlace(r.h.For, 5)] = wordOf(0, 0, r.h.Block, 0)
		return r.then(atHeadAgain)
	}
	return r.either(r.root(rootHead) == r.h.Seen, atFirst, atHead)
}

func (r *queueRow) get() bool {
	switch r.h.At {
	case atFirst:
		if !r.has(r.h.Block) {
			return false
		}
		r.h.Next = r.index(r.linkPlace(r.h.Block))
		if r.h.Next == 0 {
			return r.say(replyEmpty, 0)
		}
		return r.then(atGuardFirst)
	case atGuardFirst:
		r.words[slotPlace(r.h.For, 6)] = wordOf(0, 0, r.h.Next, 0)
		return r.then(atHeadStill)
	case atHeadStill:
		if r.root(rootHead) == r.h.Seen {
			r.h.From = r.h.Next
		}
		return r.either(r.root(rootHead) == r.h.Seen, atLag, atHead)
	case atLag:
		isLagging := r.index(r.rootPlace(rootTail)) == r.h.Block
		if isLagging {
			r.h.Put = r.root(rootTail)
		}
		return r.either(isLagging, atPull, atLook)
	}
	return r.swing(r.h.Put, r.h.Next) && r.then(atLook)
}

// queueHand is right, full of numbers, and At a row that it may do.
func queueHand(p impl.Plan, at int64, seed uint64) impl.Hand {
	h := mixedRightHand(p, seed)
	h.At = at
	if seed%4 != 0 {
		h.Code = []int64{opEnq, opDeq, opStart, opAdopt}[seed/4%4]
	}
	h.Block = 1 + h.Block%(p.Small+p.Large)
	h.From = 1 + h.From%(p.Small+p.Large)
	h.Seen = min(h.Seen&topSeq, topSeq-1) | h.Seen>>32<<32
	h.Put = min(h.Put&topSeq, topSeq-1) | h.Put>>32<<32
	return h
}

// queueArena has any words; now and then the tail and the front are what the hand has seen, or another word of the same Index; likewise with what it has seen of the tail behind that, and with links of 0.
func queueArena(p impl.Plan, h impl.Hand, seed uint64) []uint64 {
	y := yardOf(p, mixedWords(len(laidOut(p)), seed+13))
	const index = uint64(65535) << 32
	seen := h.Seen
	if h.At == atPull {
		seen = h.Put
	}
	for _, root := range []int{rootHead, rootTail} {
		at := &y.words[y.rootPlace(root)]
		switch seed % 4 {
		case 1:
			*at = seen
		case 2:
			*at = *at&^index | seen&index
		case 3:
			*at = *at&^index | uint64(h.Block)<<32
		}
	}
	for _, block := range []int64{h.Block, h.From} {
		if block < 1 || block > y.blocks() {
			continue
		}
		switch link := &y.words[y.linkPlace(block)]; seed / 4 % 4 {
		case 0, 1:
			*link = 0
		case 2:
			*link &^= index
		}
	}
	return y.words
}

func TestQueueConstants(t *testing.T) {
	for i, c := range [][2]int64{
		{impl.AtClean, atClean}, {impl.AtTail, atTail}, {impl.AtGuardTail, atGuardTail}, {impl.AtTailAgain, atTailAgain}, {impl.AtLast, atLast}, {impl.AtHelp, atHelp},
		{impl.AtLinkUp, atLinkUp}, {impl.AtSwing, atSwing}, {impl.AtHead, atHead}, {impl.AtGuardHead, atGuardHead}, {impl.AtHeadAgain, atHeadAgain}, {impl.AtFirst, atFirst},
		{impl.AtGuardFirst, atGuardFirst}, {impl.AtHeadStill, atHeadStill}, {impl.AtLag, atLag}, {impl.AtPull, atPull}, {impl.AtLook, atLook},
		{impl.OpEnq, opEnq}, {impl.OpDeq, opDeq}, {impl.InEnq, intentEnq}, {impl.InDeq, intentDeq}, {impl.DdEnq, deedEnq}, {impl.DdDeq, deedDeq},
		{impl.RtHead, rootHead}, {impl.RtTail, rootTail}, {impl.RpOk, replyOk}, {impl.RpEmpty, replyEmpty}, {impl.SlGuard, 5}, {impl.SlGuardToo, 6}, {impl.BwLink, 1},
	} {
		if c[0] != c[1] {
			t.Errorf("constant %d is %d, not %d", i, c[0], c[1])
		}
	}
}

// What was counted by hand: three slots, their words from 0 on, the roots from 30 on (Front is at 33, Tail at 34), the small blocks 1 to 5 from 37 on, the large ones, 6 and 7, from 52 on, 62 words.
func TestQueueStepsOfTheUsualPlan(t *testing.T) {
	anyWords := mixedWords(62, 29)
	with := func(at int64, x uint64) []uint64 { return withWordAt(anyWords, at, x) }
	var none impl.Deed
	for i, c := range []struct {
		a    []uint64
		h    impl.Hand
		at   int64
		word uint64
		deed impl.Deed
		then func(h *impl.Hand)
	}{
		{anyWords, impl.Hand{At: impl.AtClean, Code: impl.OpEnq, For: 1, Block: 3, From: 2}, 44, 0, none, func(h *impl.Hand) { h.At = impl.AtTail }},
		{anyWords, impl.Hand{At: impl.AtClean, Code: impl.OpDeq, Block: 7}, 58, 0, none, func(h *impl.Hand) { h.At = impl.AtTail }},
		{with(34, 3<<56|1<<48|4<<32|8), impl.Hand{At: impl.AtTail, Code: impl.OpEnq, Block: 2, From: 1}, 34, 3<<56 | 1<<48 | 4<<32 | 8, none, func(h *impl.Hand) { h.Seen, h.From, h.At = 3<<56|1<<48|4<<32|8, 4, impl.AtGuardTail }},
		{with(34, 9), impl.Hand{At: impl.AtTail, Code: impl.OpEnq, Block: 2, From: 1}, 34, 9, none, func(h *impl.Hand) { h.Seen, h.From, h.At = 9, 0, impl.AtGuardTail }},
		{anyWords, impl.Hand{At: impl.AtGuardTail, Code: impl.OpEnq, For: 1, Block: 2, From: 6}, 12, 6 << 32, none, func(h *impl.Hand) { h.At = impl.AtTailAgain }},
		{anyWords, impl.Hand{At: impl.AtGuardTail, Code: impl.OpEnq, For: 2, Block: 2, From: 65535}, 19, 65535 << 32, none, func(h *impl.Hand) { h.At = impl.AtTailAgain }},
		{with(34, 1<<48|4<<32|8), impl.Hand{At: impl.AtTailAgain, Code: impl.OpEnq, Seen: 1<<48 | 4<<32 | 8, From: 4}, 34, 1<<48 | 4<<32 | 8, none, func(h *impl.Hand) { h.At = impl.AtLast }},
		{with(34, 1<<48|4<<32|9), impl.Hand{At: impl.AtTailAgain, Code: impl.OpEnq, Seen: 1<<48 | 4<<32 | 8, From: 4}, 34, 1<<48 | 4<<32 | 9, none, func(h *impl.Hand) { h.At = impl.AtTail }},
		{with(34, 1<<48|3<<32|8), impl.Hand{At: impl.AtTailAgain, Code: impl.OpEnq, Seen: 1<<48 | 4<<32 | 8, From: 4}, 34, 1<<48 | 3<<32 | 8, none, func(h *impl.Hand) { h.At = impl.AtTail }},
		{with(47, 255<<56|3<<32|9), impl.Hand{At: impl.AtLast, Code: impl.OpEnq, Block: 2, From: 4, Next: 8}, 47, 255<<56 | 3<<32 | 9, none, func(h *impl.Hand) { h.Next, h.At = 3, impl.AtHelp }},
		{with(58, 255<<56|7<<48|9), impl.Hand{At: impl.AtLast, Code: impl.OpEnq, Block: 2, From: 7, Next: 8}, 58, 255<<56 | 7<<48 | 9, none, func(h *impl.Hand) { h.Next, h.At = 0, impl.AtLinkUp }},
		{with(34, 3<<56|1<<48|4<<32|8), impl.Hand{At: impl.AtHelp, Code: impl.OpEnq, Seen: 3<<56 | 1<<48 | 4<<32 | 8, For: 2, Block: 2, From: 4, Next: 5}, 34, 5<<32 | 9, none, func(h *impl.Hand) { h.At = impl.AtTail }},
		{with(34, 4<<32|9), impl.Hand{At: impl.AtHelp, Code: impl.OpEnq, Seen: 4<<32 | 8, For: 2, Block: 2, From: 4, Next: 5}, 34, 4<<32 | 9, none, func(h *impl.Hand) { h.At = impl.AtTail }},
		{with(47, 0), impl.Hand{At: impl.AtLinkUp, Code: impl.OpEnq, For: 2, Block: 3, From: 4, B: 9, C: 4, Value: 5, Number: 6, Last: 8, Reply: 9, Out: 7}, 47, 2<<48 | 3<<32 | 8,
			impl.Deed{Kind: impl.DdEnq, Slot: 2, Number: 6, Item: 3, Value: 9}, func(h *impl.Hand) { h.Reply, h.Out, h.At = impl.RpOk, 0, impl.AtSwing }},
		{with(38, 0), impl.Hand{At: impl.AtLinkUp, Code: impl.OpAdopt, For: 1, Block: 65535, From: 1, B: 65535, Number: 6, Last: 4294967295}, 38, 1<<48 | 65535<<32 | 4294967295,
			impl.Deed{Kind: impl.DdEnq, Slot: 1, Item: 65535, Value: 65535}, func(h *impl.Hand) { h.Reply, h.At = impl.RpOk, impl.AtSwing }},
		{with(47, 1), impl.Hand{At: impl.AtLinkUp, Code: impl.OpEnq, For: 2, Block: 3, From: 4, B: 9, Last: 8, Reply: 9, Out: 7}, 47, 1, none, func(h *impl.Hand) { h.At = impl.AtTail }},
		{with(47, 5<<32), impl.Hand{At: impl.AtLinkUp, Code: impl.OpEnq, For: 2, Block: 3, From: 4, B: 9, Last: 8, Reply: 9, Out: 7}, 47, 5 << 32, none, func(h *impl.Hand) { h.At = impl.AtTail }},
		{with(34, 4<<32|8), impl.Hand{At: impl.AtSwing, Code: impl.OpEnq, Seen: 4<<32 | 8, For: 2, Block: 3, From: 4, Next: 5}, 34, 3<<32 | 9, none, func(h *impl.Hand) { h.At = impl.AtSay }},
		{with(34, 3<<32|9), impl.Hand{At: impl.AtSwing, Code: impl.OpEnq, Seen: 4<<32 | 8, For: 2, Block: 3, Reply: 1}, 34, 3<<32 | 9, none, func(h *impl.Hand) { h.At = impl.AtSay }},
		{with(33, 3<<56|1<<48|4<<32|8), impl.Hand{At: impl.AtHead, Code: impl.OpDeq, Block: 2, From: 1}, 33, 3<<56 | 1<<48 | 4<<32 | 8, none, func(h *impl.Hand) { h.Seen, h.Block, h.At = 3<<56|1<<48|4<<32|8, 4, impl.AtGuardHead }},
		{with(33, 8), impl.Hand{At: impl.AtHead, Code: impl.OpDeq, Block: 2, From: 1}, 33, 8, none, func(h *impl.Hand) { h.Seen, h.Block, h.At = 8, 0, impl.AtGuardHead }},
		{anyWords, impl.Hand{At: impl.AtGuardHead, Code: impl.OpDeq, For: 1, Block: 6, From: 2, Next: 3}, 12, 6 << 32, none, func(h *impl.Hand) { h.At = impl.AtHeadAgain }},
		{with(33, 1<<48|4<<32|8), impl.Hand{At: impl.AtHeadAgain, Code: impl.OpDeq, Seen: 1<<48 | 4<<32 | 8, Block: 4}, 33, 1<<48 | 4<<32 | 8, none, func(h *impl.Hand) { h.At = impl.AtFirst }},
		{with(33, 4<<32|8), impl.Hand{At: impl.AtHeadAgain, Code: impl.OpDeq, Seen: 1<<48 | 4<<32 | 8, Block: 4}, 33, 4<<32 | 8, none, func(h *impl.Hand) { h.At = impl.AtHead }},
		{with(47, 2<<48|3<<32|9), impl.Hand{At: impl.AtFirst, Code: impl.OpDeq, Block: 4, From: 2, Next: 8, Reply: 9, Out: 7}, 47, 2<<48 | 3<<32 | 9, none, func(h *impl.Hand) { h.Next, h.At = 3, impl.AtGuardFirst }},
		{with(47, 2<<48|9), impl.Hand{At: impl.AtFirst, Code: impl.OpDeq, Block: 4, From: 2, Next: 8, Reply: 9, Out: 7}, 47, 2<<48 | 9, none, func(h *impl.Hand) { h.Next, h.Reply, h.Out, h.At = 0, impl.RpEmpty, 0, impl.AtSay }},
		{anyWords, impl.Hand{At: impl.AtGuardFirst, Code: impl.OpDeq, For: 1, Block: 6, From: 2, Next: 3}, 13, 3 << 32, none, func(h *impl.Hand) { h.At = impl.AtHeadStill }},
		{anyWords, impl.Hand{At: impl.AtGuardFirst, Code: impl.OpDeq, For: 2, Block: 6, From: 2, Next: 65535}, 20, 65535 << 32, none, func(h *impl.Hand) { h.At = impl.AtHeadStill }},
		{with(33, 1<<48|4<<32|8), impl.Hand{At: impl.AtHeadStill, Code: impl.OpDeq, Seen: 1<<48 | 4<<32 | 8, Block: 4, From: 2, Next: 3}, 33, 1<<48 | 4<<32 | 8, none, func(h *impl.Hand) { h.From, h.At = 3, impl.AtLag }},
		{with(33, 2<<48|4<<32|8), impl.Hand{At: impl.AtHeadStill, Code: impl.OpDeq, Seen: 1<<48 | 4<<32 | 8, Block: 4, From: 2, Next: 3}, 33, 2<<48 | 4<<32 | 8, none, func(h *impl.Hand) { h.At = impl.AtHead }},
		{with(34, 1<<48|4<<32|8), impl.Hand{At: impl.AtLag, Code: impl.OpDeq, Seen: 7, Put: 6, Block: 4, From: 3, Next: 3}, 34, 1<<48 | 4<<32 | 8, none, func(h *impl.Hand) { h.Put, h.At = 1<<48|4<<32|8, impl.AtPull }},
		{with(34, 1<<48|3<<32|8), impl.Hand{At: impl.AtLag, Code: impl.OpDeq, Seen: 7, Put: 6, Block: 4, From: 3, Next: 3}, 34, 1<<48 | 3<<32 | 8, none, func(h *impl.Hand) { h.At = impl.AtLook }},
		{with(34, 1<<48|4<<32|8), impl.Hand{At: impl.AtPull, Code: impl.OpDeq, Seen: 7, Put: 1<<48 | 4<<32 | 8, For: 2, Block: 4, From: 1, Next: 3}, 34, 3<<32 | 9, none, func(h *impl.Hand) { h.At = impl.AtLook }},
		{with(34, 3<<32|9), impl.Hand{At: impl.AtPull, Code: impl.OpDeq, Seen: 3<<32 | 9, Put: 4<<32 | 8, Block: 4, From: 3, Next: 3}, 34, 3<<32 | 9, none, func(h *impl.Hand) { h.At = impl.AtLook }},
	} {
		h := c.h
		h.Up, h.In, h.Life = true, true, 3
		want := impl.Done{Arena: withWordAt(c.a, c.at, c.word), Hand: h, Deed: c.deed}
		c.then(&want.Hand)
		what := fmt.Sprint("by hand, ", i)
		for me := range int64(3) {
			queueing.wantStep(t, what, usualPlan, c.a, me, h, want, true)
			if !queueing.wantTable(t, what, usualPlan, c.a, me, h) {
				t.Fatalf("%s: the table tells otherwise", what)
			}
		}
	}
}

// eachQueueRow gives, of each row, hands that may do it, over arenas of all kinds; rounds: how often each of them.
func eachQueueRow(p impl.Plan, rounds uint64, f func(a []uint64, me int64, h impl.Hand)) {
	for at := int64(atClean); at <= atPull; at++ {
		for i := range rounds {
			seed := i*8 + uint64(at)*1000 + uint64(p.Procs)*17 + i/8
			h := queueHand(p, at, seed)
			f(queueArena(p, h, i), int64(seed/3)%p.Procs, h)
		}
	}
}

// Each row by hands that may do it, every field and every word of them; all that is not named stays as it was.
func TestEachQueueRow(t *testing.T) {
	for _, p := range somePlans {
		met := map[[2]int64]int{}
		eachQueueRow(p, roundsOf(p, 400), func(a []uint64, me int64, h impl.Hand) {
			if !queueing.wantTable(t, "a row", p, a, me, h) {
				t.Fatalf("%+v may not do its row", h)
			}
			then, _ := queueByTable(p, a, h)
			met[[2]int64{h.At, then.Hand.At}]++
		})
		for _, way := range [][2]int64{
			{atClean, atTail}, {atTail, atGuardTail}, {atGuardTail, atTailAgain}, {atTailAgain, atLast}, {atTailAgain, atTail}, {atLast, atLinkUp}, {atLast, atHelp},
			{atHelp, atTail}, {atLinkUp, atSwing}, {atLinkUp, atTail}, {atSwing, atSay}, {atHead, atGuardHead}, {atGuardHead, atHeadAgain}, {atHeadAgain, atFirst},
			{atHeadAgain, atHead}, {atFirst, atSay}, {atFirst, atGuardFirst}, {atGuardFirst, atHeadStill}, {atHeadStill, atLag}, {atHeadStill, atHead}, {atLag, atPull},
			{atLag, atLook}, {atPull, atLook},
		} {
			if met[way] == 0 && roundsOf(p, 400) > 100 {
				t.Fatalf("%+v: %v was not gone: %v", p, way, met)
			}
		}
	}
}

// One word at most is written or swapped, and it is the one that the row names; a deed is told of a link alone.
func TestQueueWritesWhatTheRowNames(t *testing.T) {
	for _, p := range somePlans {
		regions := laidOut(p)
		eachQueueRow(p, roundsOf(p, 200), func(a []uint64, me int64, h impl.Hand) {
			d, is := impl.QueueStep(p, a, me, h)
			if !is || (d.Deed != impl.Deed{}) != (h.At == atLinkUp && d.Hand.At == atSwing) {
				t.Fatalf("QueueStep(%+v, .., %d, %+v) is %v, %+v", p, me, h, is, d.Deed)
			}
			tail := impl.Region{Kind: 3, Field: rootTail}
			may := map[int64]impl.Region{
				atClean: {Kind: 4, Item: h.Block, Field: 1}, atGuardTail: {Kind: 1, Item: h.For, Field: 5}, atHelp: tail, atLinkUp: {Kind: 4, Item: h.From, Field: 1}, atSwing: tail,
				atGuardHead: {Kind: 1, Item: h.For, Field: 5}, atGuardFirst: {Kind: 1, Item: h.For, Field: 6}, atPull: tail,
			}
			for at, x := range d.Arena {
				if x != a[at] && regions[at] != may[h.At] {
					t.Fatalf("%+v wrote at %+v", h, regions[at])
				}
			}
		})
	}
}

// aroundRoot has that word at a root; the roots beside it are all ones, or all noughts.
func aroundRoot(p impl.Plan, root int, x, beside uint64) yard {
	y := yardOf(p, mixedWords(len(laidOut(p)), x>>7))
	for other := range 5 {
		y.words[y.rootPlace(other)] = beside
	}
	y.words[y.rootPlace(root)] = x
	return y
}

// Whatever the roots are is seen; nobody asks here whether it is a block, or one at all.
func TestTailAndHeadAtEachRoot(t *testing.T) {
	t.Parallel()
	for _, p := range somePlans {
		for _, x := range topsOf(p) {
			for _, beside := range []uint64{0, math.MaxUint64} {
				for code := range int64(topCode + 1) {
					h := queueHand(p, atTail, x>>9+uint64(code))
					h.Code = code
					want := h
					want.Seen, want.From, want.At = x, int64(x>>32&65535), atGuardTail
					y := aroundRoot(p, rootTail, x, beside)
					queueing.wantStep(t, "the tail", p, y.words, 0, h, impl.Done{Arena: y.words, Hand: want}, true)
					h.At = atHead
					want = h
					want.Seen, want.Block, want.At = x, int64(x>>32&65535), atGuardHead
					y = aroundRoot(p, rootHead, x, beside)
					queueing.wantStep(t, "the front", p, y.words, 0, h, impl.Done{Arena: y.words, Hand: want}, true)
				}
			}
		}
	}
}

// Every block may be guarded, as may what is none: it is the next row that asks whether it is there still. Each guard is of another number of the hand.
func TestTheGuardsOfEachBlock(t *testing.T) {
	for _, p := range somePlans {
		last := p.Small + p.Large
		for _, block := range append(someBlocks(p), 0, last+1, 255, 256, 32768, topIndex-1, topIndex) {
			for _, slot := range someSlots(p) {
				for i, c := range []struct {
					at, field, next int64
					name            string
				}{{atGuardTail, 5, atTailAgain, "From"}, {atGuardHead, 5, atHeadAgain, "Block"}, {atGuardFirst, 6, atHeadStill, "Next"}} {
					h := queueHand(p, c.at, uint64(block+slot)+uint64(i))
					for _, name := range []string{"From", "Block", "Next"} {
						h = withNumber(h, name, topIndex-block)
					}
					h = withNumber(h, c.name, block)
					h.For = slot
					a := queueArena(p, h, uint64(block))
					then := withWordAt(a, slotPlace(slot, c.field), uint64(block)<<32)
					queueing.wantStep(t, "guarded", p, a, 0, h, impl.Done{Arena: then, Hand: withNumber(h, "At", c.next)}, true)
					if is := impl.Guarded(p, then, block); is != (block >= 1 && block <= last) {
						t.Fatalf("block %d of %+v is guarded: %v", block, p, is)
					}
				}
			}
		}
	}
}

// The second look, and the third one, are at the whole word: one of the same Index that was put there by another, or by another number, is not what was seen.
func TestTheLooksAtEveryBit(t *testing.T) {
	t.Parallel()
	for _, p := range somePlans {
		for _, c := range []struct {
			at, good, bad int64
			root          int
		}{{atTailAgain, atLast, atTail, rootTail}, {atHeadAgain, atFirst, atHead, rootHead}, {atHeadStill, atLag, atHead, rootHead}} {
			for i, seen := range []uint64{0, wordOf(0, 0, 1, 0), wordOf(0, p.Procs-1, p.Small, 9), wordOf(0, 1, p.Small+p.Large+1, topTag), math.MaxUint64} {
				h := queueHand(p, c.at, uint64(i))
				h.Seen, h.Code = seen, int64(i*3)%(topCode+1)
				good, bad := withNumber(h, "At", c.good), withNumber(h, "At", c.bad)
				if c.at == atHeadStill {
					good.From = h.Next
				}
				for _, beside := range []uint64{seen, ^seen} {
					y := aroundRoot(p, c.root, seen, beside)
					queueing.wantStep(t, "it is there", p, y.words, 0, h, impl.Done{Arena: y.words, Hand: good}, true)
					for bit := range 64 {
						y := aroundRoot(p, c.root, seen^1<<bit, beside)
						queueing.wantStep(t, "another is there", p, y.words, 0, h, impl.Done{Arena: y.words, Hand: bad}, true)
					}
				}
			}
		}
	}
}

// Another block's word is not what was seen either, be it all else that it is the same.
func TestTheLooksAtAnotherBlock(t *testing.T) {
	for _, p := range somePlans {
		for _, at := range []int64{atTailAgain, atHeadAgain, atHeadStill} {
			for _, block := range someBlocks(p) {
				for _, other := range append(someBlocks(p), 0, p.Small+p.Large+1, topIndex) {
					h := queueHand(p, at, uint64(block*9+other))
					h.Seen = h.Seen&^(65535<<32) | uint64(block)<<32
					x := h.Seen&^(65535<<32) | uint64(other)<<32
					y := yardOf(p, mixedWords(len(laidOut(p)), 3))
					y.words[y.rootPlace(rootHead)], y.words[y.rootPlace(rootTail)] = x, x
					want := h
					switch {
					case at == atTailAgain && block == other:
						want.At = atLast
					case at == atTailAgain:
						want.At = atTail
					case block != other:
						want.At = atHead
					case at == atHeadAgain:
						want.At = atFirst
					default:
						want.From, want.At = h.Next, atLag
					}
					queueing.wantStep(t, "a block", p, y.words, 0, h, impl.Done{Arena: y.words, Hand: want}, true)
				}
			}
		}
	}
}

// Behind the last node there is none: its Link has the Index 0, whatever else is in it. The one looks behind From, the other behind Block.
func TestLastAndFirstOfEachLink(t *testing.T) {
	for _, p := range somePlans {
		for _, block := range someBlocks(p) {
			for i, link := range topsOf(p) {
				for _, beside := range []uint64{0, math.MaxUint64} {
					y := yardOf(p, slices.Repeat([]uint64{beside}, len(laidOut(p))))
					y.words[y.linkPlace(block)] = link
					next := int64(link >> 32 & 65535)
					h := queueHand(p, atLast, link>>5+uint64(block))
					h.From, h.Code, h.Reply, h.Out = block, int64(i)%(topCode+1), 9, 7
					want := h
					want.Next, want.At = next, atHelp
					if next == 0 {
						want.At = atLinkUp
					}
					queueing.wantStep(t, "the last", p, y.words, 0, h, impl.Done{Arena: y.words, Hand: want}, true)
					h.At, h.Block = atFirst, block
					h.From = 1 + block%(p.Small+p.Large)
					want = h
					want.Next, want.At = next, atGuardFirst
					if next == 0 {
						want.Reply, want.Out, want.At = replyEmpty, 0, atSay
					}
					queueing.wantStep(t, "the first", p, y.words, 0, h, impl.Done{Arena: y.words, Hand: want}, true)
				}
			}
		}
	}
}

// tailMove is one of the three that move the tail on: from what, to what, and what is next.
type tailMove struct {
	at, next   int64
	from, name string
}

var tailMoves = []tailMove{{atHelp, atTail, "Seen", "Next"}, {atSwing, atSay, "Seen", "Block"}, {atPull, atLook, "Put", "Next"}}

// hand has the move's word and block; the other ones are others, which have no say.
func (m tailMove) hand(p impl.Plan, seed uint64, from uint64, block int64) impl.Hand {
	h := queueHand(p, m.at, seed)
	for _, name := range []string{"From", "Block", "Next"} {
		h = withNumber(h, name, topIndex-block)
	}
	h.Seen, h.Put = ^from, ^from
	return withNumber(withWord(h, m.from, from), m.name, block)
}

// The tail is moved on where it is still what was seen, every bit of it; what is put has no Kind and no Pid, and one more as its Seq. It goes on either way, and tells of nothing.
func TestTheTailIsMovedFromWhatWasSeen(t *testing.T) {
	t.Parallel()
	for _, p := range somePlans {
		for _, m := range tailMoves {
			for i, from := range []uint64{0, wordOf(0, 0, 1, 0), wordOf(0, p.Procs-1, p.Small, 9), wordOf(3, topByte, topIndex, topSeq-1), wordOf(topByte, 1, 2, 1<<31-1)} {
				for _, block := range []int64{0, 1, p.Small, p.Small + p.Large, p.Small + p.Large + 1, topIndex} {
					h := m.hand(p, uint64(block)+uint64(i), from, block)
					h.Code = (block + int64(i)) % (topCode + 1)
					then := withNumber(h, "At", m.next)
					y := aroundRoot(p, rootTail, from, from)
					put := withWordAt(y.words, int64(y.rootPlace(rootTail)), uint64(block)<<32|(from&topSeq+1))
					queueing.wantStep(t, "moved on", p, y.words, 0, h, impl.Done{Arena: put, Hand: then}, true)
					y = aroundRoot(p, rootTail, ^from, from)
					queueing.wantStep(t, "not moved", p, y.words, 0, h, impl.Done{Arena: y.words, Hand: then}, true)
					for bit := int(block % 2); bit < 64 && i < 3; bit += 2 {
						y := aroundRoot(p, rootTail, from^1<<bit, from)
						queueing.wantStep(t, "not moved", p, y.words, 0, h, impl.Done{Arena: y.words, Hand: then}, true)
					}
				}
			}
		}
	}
}

// One more than MaxSeq is no right number, be the tail still what was seen or not; what the move doesn't go by may be at its end.
func TestTheTailsNumberAtItsEnd(t *testing.T) {
	for _, p := range somePlans {
		for _, m := range tailMoves {
			for _, seq := range []uint64{0, 1, topTag, topTag + 1, 1 << 31, topSeq - 1, topSeq} {
				from := uint64(p.Small)<<32 | seq
				h := m.hand(p, seq, from, 1)
				for _, tail := range []uint64{from, from ^ 1, 0, math.MaxUint64} {
					y := aroundRoot(p, rootTail, tail, from)
					if is := queueing.wantTable(t, "the number", p, y.words, 0, h); is != (seq < topSeq) {
						t.Fatalf("%+v over a tail of %#x is %v", h, tail, is)
					}
				}
			}
		}
		for at := int64(atClean); at <= atPull; at++ {
			for _, name := range handWords {
				h := withWord(queueHand(p, at, uint64(at)), name, math.MaxUint64)
				need := at == atPull && name == "Put" || (at == atHelp || at == atSwing) && name == "Seen"
				if is := queueing.wantTable(t, "a number at its end", p, queueArena(p, h, 2), 0, h); is == need {
					t.Fatalf("%+v of %+v is %v", h, p, is)
				}
			}
		}
	}
}

// The link is swapped from 0, and from nothing else: one whose Index alone is 0 is not. Whatever block is linked up, nothing else is written, and the tail lags.
func TestLinkUpFromNoughtAlone(t *testing.T) {
	for _, p := range somePlans {
		for i, from := range someBlocks(p) {
			for _, block := range append(someBlocks(p), 0, p.Small+p.Large+1, topIndex) {
				for _, beside := range []uint64{0, math.MaxUint64} {
					h := queueHand(p, atLinkUp, uint64(from*31+block))
					h.From, h.Block, h.Code, h.Reply, h.Out = from, block, (block+int64(i))%(topCode+1), 9, 7
					y := yardOf(p, slices.Repeat([]uint64{beside}, len(laidOut(p))))
					at := int64(y.linkPlace(from))
					y.words[at] = 0
					want := h
					want.Reply, want.Out, want.At = replyOk, 0, atSwing
					deed := impl.Deed{Kind: deedEnq, Slot: h.For, Number: h.Number, Item: block, Value: h.B}
					if h.Code == opStart || h.Code == opAdopt {
						deed.Number = 0
					}
					then := withWordAt(y.words, at, wordOf(0, h.For, block, h.Last))
					queueing.wantStep(t, "linked up", p, y.words, 0, h, impl.Done{Arena: then, Hand: want, Deed: deed}, true)
					for bit := i % 8; bit < 64; bit += 8 {
						y.words[at] = 1 << bit
						queueing.wantStep(t, "not linked", p, y.words, 0, h, impl.Done{Arena: y.words, Hand: withNumber(h, "At", atTail)}, true)
					}
				}
			}
		}
	}
}

// What is put there is the number that was intended, as it is: none is one more than MaxSeq.
func TestLinkUpWithLastAtItsEnd(t *testing.T) {
	for _, p := range somePlans {
		for at := int64(atClean); at <= atPull; at++ {
			for _, last := range []int64{0, 1, topTag, topTag + 1, 1 << 31, topSeq - 1, topSeq} {
				for seed := range uint64(4) {
					h := queueHand(p, at, seed)
					h.Last = last
					a := queueArena(p, h, seed)
					if !queueing.wantTable(t, "Last at its end", p, a, 0, h) {
						t.Fatalf("%+v of %+v may not do its row", h, p)
					}
					if at != atLinkUp {
						continue
					}
					y := yardOf(p, a)
					y.words[y.linkPlace(h.From)] = 0
					d, is := impl.QueueStep(p, y.words, 0, h)
					if got := d.Arena[y.linkPlace(h.From)]; !is || got != wordOf(0, h.For, h.Block, last) {
						t.Fatalf("%+v puts %#x, %v", h, got, is)
					}
				}
			}
		}
	}
}

// The deed by each code: of one that enters or adopts no call is told. Its value is B, however great.
func TestTheDeedOfALink(t *testing.T) {
	for _, p := range somePlans {
		for code := range int64(topCode + 1) {
			for _, number := range []int64{0, 1, topSeq} {
				for _, value := range []int64{0, 1, topIndex, topIndex + 1} {
					h := queueHand(p, atLinkUp, uint64(code*7+value))
					h.Code, h.Number, h.B = code, number, value
					if !impl.HandOk(p, h) {
						continue
					}
					y := yardOf(p, queueArena(p, h, 3))
					y.words[y.linkPlace(h.From)] = 0
					d, is := impl.QueueStep(p, y.words, 0, h)
					want := impl.Deed{Kind: deedEnq, Slot: h.For, Number: number, Item: h.Block, Value: value}
					if code == opStart || code == opAdopt {
						want.Number = 0
					}
					if !is || d.Deed != want {
						t.Fatalf("%+v tells %+v, %v, not %+v", h, d.Deed, is, want)
					}
				}
			}
		}
	}
}

// The tail lags where its Index is the first node's: with the tail there, and behind it, and at what is no block.
func TestLagAtEachTail(t *testing.T) {
	for _, p := range somePlans {
		for _, block := range append(someBlocks(p), 0, p.Small+p.Large+1, topIndex) {
			for _, tail := range topsOf(p) {
				for _, beside := range []uint64{uint64(block) << 32, math.MaxUint64} {
					h := queueHand(p, atLag, tail>>9+uint64(block))
					h.Block, h.Code = block, block%(topCode+1)
					y := aroundRoot(p, rootTail, tail, beside)
					want := h
					want.At = atLook
					if int64(tail>>32&65535) == block {
						want.Put, want.At = tail, atPull
					}
					queueing.wantStep(t, "lagging", p, y.words, 0, h, impl.Done{Arena: y.words, Hand: want}, true)
				}
			}
		}
	}
}

// Block, From and Next, each by itself: 0, the last block, and one more. Who takes the place of a word of a block that there isn't does nothing; who only tells of one does.
func TestQueueOfBlocksThatThereAreNot(t *testing.T) {
	t.Parallel()
	byBlock, byFrom := []int64{atClean, atFirst}, []int64{atLast, atLinkUp}
	for _, p := range somePlans {
		last := p.Small + p.Large
		for at := int64(atClean); at <= atPull; at++ {
			for _, n := range []int64{0, 1, p.Small, p.Small + 1, last, last + 1, last + 2, 255, 256, 257, 32768, topIndex} {
				there := n >= 1 && n <= last
				for seed := range roundsOf(p, 12) {
					h := queueHand(p, at, seed)
					a := queueArena(p, h, seed)
					if is := queueing.wantTable(t, "a block", p, a, 0, withNumber(h, "Block", n)); is != (there || !slices.Contains(byBlock, at)) {
						t.Fatalf("block %d of %+v, %+v is %v", n, p, h, is)
					}
					if is := queueing.wantTable(t, "from a block", p, a, 0, withNumber(h, "From", n)); is != (there || !slices.Contains(byFrom, at)) {
						t.Fatalf("from block %d of %+v, %+v is %v", n, p, h, is)
					}
					if !queueing.wantTable(t, "a next block", p, a, 0, withNumber(h, "Next", n)) {
						t.Fatalf("next block %d of %+v, %+v", n, p, h)
					}
				}
			}
		}
	}
}

// What the rows have no use for has no say, however great: Kept, and the Addr of a swap that is made elsewhere.
func TestQueueWithKeptAtItsEnd(t *testing.T) {
	for _, p := range somePlans {
		for at := int64(atClean); at <= atPull; at++ {
			for seed := range uint64(4) {
				h := queueHand(p, at, seed)
				h.Kept, h.Addr = topIndex, int64(len(laidOut(p)))-1
				if !queueing.wantTable(t, "Kept at its end", p, queueArena(p, h, seed), 0, h) {
					t.Fatalf("%+v of %+v may not do its row", h, p)
				}
			}
		}
	}
}

func TestQueueStepsAtEveryPlan(t *testing.T) {
	t.Parallel()
	eachRightPlan(func(p impl.Plan) {
		last := p.Small + p.Large
		y := zeroYard(p)
		y.setRoot(rootHead, last)
		y.setRoot(rootTail, last)
		for at := int64(atClean); at <= atPull; at++ {
			h := impl.Hand{
				Up: true, Life: 1, At: at, Code: opEnq + at%2, B: 2, Number: 5, Last: 6, For: p.Procs - 1, Block: last, From: p.Small, Next: 1, Seen: uint64(last) << 32, Put: uint64(last) << 32,
			}
			d, is := impl.QueueStep(p, y.words, 0, h)
			want, _ := queueByTable(p, y.words, h)
			if !is || d.Hand != want.Hand || d.Deed != want.Deed || !slices.Equal(d.Arena, want.Arena) {
				t.Fatalf("%+v: QueueStep of %+v is %+v, %+v, %v", p, h, d.Hand, d.Deed, is)
			}
		}
	})
}

// line are the nodes of the queue, the first one put first, ahead of them the one that bears no value any more; LineNodes and LineOf must tell them and their values, each of them says that it is a node, and the tail is the last one or the one ahead of it.
func (x *process) line(t *testing.T, values []int64) []int64 {
	t.Helper()
	nodes, whole := x.lined()
	got, isGot := impl.LineNodes(x.p, x.words)
	gotValues, isValues := impl.LineOf(x.p, x.words)
	if !whole || !isGot || !isValues || !slices.Equal(got, nodes) || !slices.Equal(gotValues, values) || !slices.Equal(x.values(nodes[1:]), values) {
		t.Fatalf("%+v: the queue is %v, %v, by LineNodes %v, %v, by LineOf %v, %v, and it should have %v", x.p, nodes, whole, got, isGot, gotValues, isValues, values)
	}
	for _, node := range nodes {
		if head := x.words[x.heads[node-1]]; head != wordOf(kindNode, 0, 0, 0) {
			t.Fatalf("block %d of %+v is in the queue, and its head is %#x", node, x.p, head)
		}
	}
	if tail := x.index(x.rootPlace(rootTail)); !slices.Contains(nodes[max(0, len(nodes)-2):], tail) {
		t.Fatalf("%+v: the queue is %v, and its tail is at %d", x.p, nodes, tail)
	}
	return nodes
}

// moveTail writes what is left when the tail was moved on till it is at the last node.
func (y yard) moveTail() {
	at := y.rootPlace(rootTail)
	for next := y.index(y.linkPlace(y.index(at))); next != 0; next = y.index(y.linkPlace(next)) {
		y.words[at] = uint64(next)<<32 | (y.words[at]&topSeq + 1)
	}
}

// put puts a value into the queue, alone, and holds every word that is then; 0 where there is no block for it.
func (x *process) put(t *testing.T, value int64) int64 {
	t.Helper()
	then, last, kept, free := x.copied(), x.h.Last, x.h.Kept, x.free(t, 0)
	nodes, _ := x.lined()
	line := x.values(nodes[1:])
	reply, out := x.call(t, opEnq, 0, value, 0)
	if len(free) == 0 {
		x.wantTold(t, reply, out, replyFull, 0)
		opened(then.words, x.slot, opEnq, 0, last, 2, replyFull, 0)
		x.wantEnd(t, "none is put in", then.words, last+2, nil)
		return 0
	}
	block := free[0]
	x.wantTold(t, reply, out, replyOk, 0)
	opened(then.words, x.slot, opEnq, 0, last, 4, replyOk, 0)
	then.swapped(x.slot, rootSmall, then.index(then.linkPlace(block)), last+2)
	then.words[then.heads[block-1]] = wordOf(kindNode, 0, 0, 0)
	then.setValue(block, value)
	then.setLink(block, 0)
	then.words[then.linkPlace(nodes[len(nodes)-1])] = wordOf(0, x.slot, block, last+3)
	then.moveTail()
	x.wantEnd(t, "put in", then.words, last+4, []impl.Deed{
		{Kind: deedTake, Slot: x.slot, Number: last + 1, Item: block}, {Kind: deedEnq, Slot: x.slot, Number: last + 1, Item: block, Value: value},
	})
	if now := x.line(t, append(line, value)); !slices.Equal(now, append(nodes, block)) || x.h.Kept != kept {
		t.Fatalf("%+v: block %d was put behind %v, now %v, and %d are kept", x.p, block, nodes, now, x.h.Kept)
	}
	return block
}

// get gets a value out of the queue, alone, likewise; false where there is none, or where it may not. It is the second node that bears the value, and the first one that goes.
func (x *process) get(t *testing.T) (int64, bool) {
	t.Helper()
	then, last, kept := x.copied(), x.h.Last, x.h.Kept
	nodes, _ := x.lined()
	reply, out := x.call(t, opDeq, 0, 0, 0)
	if kept >= x.p.Keep || len(nodes) == 1 {
		no := int64(replyEmpty)
		if kept >= x.p.Keep {
			no = replyKeep
		}
		x.wantTold(t, reply, out, no, 0)
		opened(then.words, x.slot, opDeq, 0, last, 2, no, 0)
		x.wantEnd(t, "none is got", then.words, last+2, nil)
		x.line(t, then.values(nodes[1:]))
		return 0, false
	}
	block, value := nodes[0], then.index(then.valuePlace(nodes[1]))
	x.wantTold(t, reply, out, replyGot, value)
	opened(then.words, x.slot, opDeq, 0, last, 3, replyGot, value)
	then.words[slotPlace(x.slot, 3)] = wordOf(0, 0, value, 0)
	if then.index(then.rootPlace(rootTail)) == block {
		then.moveTail()
	}
	then.swapped(x.slot, rootHead, nodes[1], last+2)
	then.words[then.heads[block-1]] = wordOf(kindRetired, x.slot, 0, 0)
	x.wantEnd(t, "got", then.words, last+3, []impl.Deed{{Kind: deedDeq, Slot: x.slot, Number: last + 1, Item: block, Value: value}})
	if now := x.line(t, then.values(nodes[2:])); !slices.Equal(now, nodes[1:]) || x.h.Kept != kept+1 || !slices.Contains(impl.RetiredBy(x.p, x.words, x.slot), block) {
		t.Fatalf("%+v: of %v block %d went, now %v, and %d are kept", x.p, nodes, block, now, x.h.Kept)
	}
	return value, true
}

// Promise 11: the first value is got, be there one or as many as can be; every slot.
func TestWhoPutsInAndGetsOutAlone(t *testing.T) {
	t.Parallel()
	for _, p := range somePlans {
		slots := someSlots(p)
		if len(laidOut(p)) > 1000 {
			slots = slots[len(slots)-1:]
		}
		for _, slot := range slots {
			x := processOf(p, slot, impl.Blank(p), 4)
			line := []int64{}
			for round := int64(0); ; round++ {
				x.line(t, line)
				value := []int64{0, topIndex, 1, 256, 32768, round, topIndex - round}[round%7]
				x.makeRoom(t)
				if x.put(t, value) == 0 {
					break
				}
				line = append(line, value)
				x.makeRoom(t)
				first := line[0]
				if got, is := x.get(t); !is || got != first {
					t.Fatalf("%+v: of %v %d was got, %v", p, line, got, is)
				}
				x.line(t, line[1:])
				x.makeRoom(t)
				if x.put(t, first) == 0 {
					t.Fatalf("%+v: what was given back can't be put in again", p)
				}
				line = append(slices.Clone(line[1:]), first)
			}
			if int64(len(line)) != p.Small-1 {
				t.Fatalf("%+v: %d were put in", p, len(line))
			}
			wantAllGot(t, &x, line)
		}
	}
}

// wantAllGot gets them in their order, and gives back what it retired when it may get none any more.
func wantAllGot(t *testing.T, x *process, values []int64) {
	t.Helper()
	for i, value := range values {
		if x.h.Kept == x.p.Keep {
			if got, is := x.get(t); is {
				t.Fatalf("%+v: %d was got, and %d are kept", x.p, got, x.h.Kept)
			}
			x.scan(t)
		}
		if got, is := x.get(t); !is || got != value {
			t.Fatalf("%+v: of %v %d was got, %v", x.p, values[i:], got, is)
		}
		x.line(t, values[i+1:])
	}
	if x.h.Kept < x.p.Keep {
		if got, is := x.get(t); is {
			t.Fatalf("%+v: %d was got of none", x.p, got)
		}
	}
	x.scan(t)
	if n := impl.TakeableIn(x.p, x.words, 0); n != x.p.Small-1 {
		t.Fatalf("%+v: all was got, and %d are to be taken", x.p, n)
	}
}

// Several are put in and then got out, as many as fit Keep, behind some that are there and stay when as many are got.
func TestSeveralPutInAndGotOut(t *testing.T) {
	for _, p := range somePlans {
		before := min(2, p.Small-1)
		for most := range min(p.Small-1-before, p.Keep) + 1 {
			if most > 8 && most < p.Keep {
				continue
			}
			x := processOf(p, p.Procs-1, impl.Blank(p), 70)
			line := []int64{}
			for i := range before {
				x.put(t, 500+i)
				line = append(line, 500+i)
			}
			x.line(t, line)
			for i := range most {
				x.put(t, topIndex-i)
				line = append(line, topIndex-i)
				x.line(t, line)
			}
			for i := range most {
				if got, is := x.get(t); !is || got != line[0] {
					t.Fatalf("%+v: %d of %d got is %d, %v, of %v", p, i, most, got, is, line)
				}
				line = line[1:]
				x.line(t, line)
			}
			if gone := impl.RetiredBy(p, x.words, p.Procs-1); int64(len(gone)) != most || x.h.Kept != most {
				t.Fatalf("%+v: %d were got, %v are retired, and %d are kept", p, most, gone, x.h.Kept)
			}
		}
	}
}

// Where Kept is Keep nothing is got, and of nothing nothing is, whatever the slot's words said before; Keep is asked for first.
func TestGetOfNoneAndWhereKeepIsMet(t *testing.T) {
	for _, p := range somePlans {
		for _, kept := range []int64{0, p.Keep - 1, p.Keep, p.Keep + 1, topIndex} {
			for _, isEmpty := range []bool{true, false} {
				x := processOf(p, 0, impl.Blank(p), 9)
				if !isEmpty {
					x.put(t, 77)
				}
				for field := int64(1); field < 7; field++ {
					x.words[slotPlace(0, field)] = wordOf(7, 0, p.Small, 9)
				}
				x.h.Kept = kept
				_, is := x.get(t)
				if is != (kept < p.Keep && !isEmpty && p.Small > 1) {
					t.Fatalf("%+v: got is %v where %d are kept", p, is, kept)
				}
			}
		}
	}
}

// What one slot puts in another gets: the note about the one stands by the other, and the node that goes is the other's to give back.
func TestWhatOnePutsInAnotherGets(t *testing.T) {
	for _, p := range []impl.Plan{usualPlan, noLarge, mostPlan} {
		for _, one := range someSlots(p) {
			for _, other := range someSlots(p) {
				x, y := processOf(p, one, impl.Blank(p), 30), processOf(p, other, nil, 900)
				if one == other {
					continue
				}
				block := x.put(t, 11)
				x.put(t, 22)
				y.yard = x.yard
				if got, is := y.get(t); !is || got != 11 || !slices.Equal(impl.RetiredBy(p, y.words, other), []int64{1}) || len(impl.RetiredBy(p, y.words, one)) > 0 {
					t.Fatalf("%+v: slot %d got %d, %v", p, other, got, is)
				}
				y.put(t, 33)
				x.yard = y.yard
				if got, is := x.get(t); !is || got != 22 || !slices.Equal(impl.RetiredBy(p, x.words, one), []int64{block}) {
					t.Fatalf("%+v: slot %d got %d, %v", p, one, got, is)
				}
				if note := x.words[notePlace(p, other, one)]; note != 900+2 {
					t.Fatalf("%+v: the note about slot %d by %d is %d", p, other, one, note)
				}
				x.line(t, []int64{33})
			}
		}
	}
}

// What goes through the stack and what goes through the queue keep apart; a node of the one is taken for the other when it was given back.
func TestStackAndQueueBesideEachOther(t *testing.T) {
	for _, p := range []impl.Plan{usualPlan, {Procs: 1, Small: 3, Large: 0, Cells: 1, Keep: 1}, {Procs: 6, Small: 9, Large: 2, Cells: 8, Keep: 3}} {
		x := processOf(p, p.Procs-1, impl.Blank(p), 0)
		x.put(t, 1)
		x.push(t, 2)
		for i := range int64(40) {
			x.makeRoom(t)
			pushed, is := x.pop(t)
			if !is || pushed != 2+2*i {
				t.Fatalf("%+v: %d was popped, %v, in round %d", p, pushed, is, i)
			}
			x.makeRoom(t)
			x.push(t, 4+2*i)
			x.makeRoom(t)
			put, is := x.get(t)
			if !is || put != 1+2*i {
				t.Fatalf("%+v: %d was got, %v, in round %d", p, put, is, i)
			}
			x.makeRoom(t)
			x.put(t, 3+2*i)
			x.nodes(t, []int64{4 + 2*i})
			x.line(t, []int64{3 + 2*i})
		}
	}
}

// till begins a call and goes on till it is at that place.
func (x *process) till(t *testing.T, at, code, value int64) {
	t.Helper()
	x.begin(t, code, 0, value, 0)
	for x.h.At != at {
		if x.h.At == 0 {
			t.Fatalf("%+v has not come to %d", x.h, at)
		}
		x.step(t)
	}
}

// goes has one go on to its end, and holds each place that it comes to.
func (x *process) goes(t *testing.T, places ...int64) {
	t.Helper()
	for i, at := range places {
		if x.h.At != at {
			t.Fatalf("%+v is not at %d, place %d of %v", x.h, at, i, places)
		}
		x.step(t)
	}
}

// The first one has linked up and has not yet moved the tail: what it put in is in, and two others help it and put in theirs behind it. Its own move then does nothing.
func TestATailThatLagsWhileTwoPutIn(t *testing.T) {
	for _, p := range []impl.Plan{usualPlan, {Procs: 3, Small: 5, Large: 0, Cells: 1, Keep: 3}, mostPlan} {
		first, second, third := processOf(p, 0, impl.Blank(p), 0), processOf(p, 1, nil, 50), processOf(p, 2, nil, 70)
		first.till(t, atSwing, opEnq, 11)
		nodes := first.line(t, []int64{11})
		if tail := first.index(first.rootPlace(rootTail)); tail != 1 {
			t.Fatalf("%+v: %v, and the tail is at %d", p, nodes, tail)
		}
		second.yard = first.yard
		second.till(t, atClean, opEnq, 22)
		second.goes(t, atClean, atTail, atGuardTail, atTailAgain, atLast, atHelp, atTail, atGuardTail, atTailAgain, atLast, atLinkUp)
		second.line(t, []int64{11, 22})
		third.yard = second.yard
		third.till(t, atClean, opEnq, 33)
		third.goes(t, atClean, atTail, atGuardTail, atTailAgain, atLast, atHelp, atTail, atGuardTail, atTailAgain, atLast, atLinkUp, atSwing)
		third.line(t, []int64{11, 22, 33})
		for _, x := range []*process{&third, &second, &first} {
			x.yard = third.yard
			was := x.words[x.rootPlace(rootTail)]
			reply, out := x.rest(t)
			x.wantTold(t, reply, out, replyOk, 0)
			if now := x.words[x.rootPlace(rootTail)]; now != was || was != uint64(x.line(t, []int64{11, 22, 33})[3])<<32|3 {
				t.Fatalf("%+v: the tail was %#x and is %#x", p, was, now)
			}
			third.yard = x.yard
		}
		for i := range int64(3) {
			if got, is := third.get(t); p.Keep >= 3 && (!is || got != 11+11*i) {
				t.Fatalf("%+v: %d was got, %v", p, got, is)
			}
		}
	}
}

// Who gets the first value out while the tail lags at the first node pulls it on, so that no tail is left at what it retires; the move of who put it in then does nothing.
func TestGetWhileTheTailLags(t *testing.T) {
	for _, p := range []impl.Plan{usualPlan, noLarge, mostPlan} {
		for _, ahead := range []int64{0, 1} {
			first, second := processOf(p, 0, impl.Blank(p), 0), processOf(p, 1, nil, 50)
			for range ahead {
				first.put(t, 10)
			}
			first.till(t, atSwing, opEnq, 11)
			second.yard = first.yard
			if ahead == 1 {
				if got, is := second.get(t); !is || got != 10 {
					t.Fatalf("%+v: %d was got, %v", p, got, is)
				}
			}
			if got, is := second.get(t); !is || got != 11 {
				t.Fatalf("%+v: %d was got, %v", p, got, is)
			}
			if _, kept := second.call(t, opScan, 0, 0, 0); kept != 1 {
				t.Fatalf("%+v: the first one guards a node, and %d are kept", p, kept)
			}
			first.yard = second.yard
			reply, out := first.rest(t)
			first.wantTold(t, reply, out, replyOk, 0)
			nodes := first.line(t, nil)
			if tail := first.words[first.rootPlace(rootTail)]; tail != uint64(nodes[0])<<32|uint64(ahead+1) {
				t.Fatalf("%+v: %v, and the tail is %#x", p, nodes, tail)
			}
		}
	}
}

// Both have seen the tail lag: who comes second changes nothing, be it the one that pulls, the one that helps or the one that put in.
func TestTheTailIsMovedOnOnce(t *testing.T) {
	p := usualPlan
	for _, order := range [][]int{{0, 1, 2}, {0, 2, 1}, {1, 0, 2}, {1, 2, 0}, {2, 0, 1}, {2, 1, 0}} {
		all := []process{processOf(p, 0, impl.Blank(p), 0), processOf(p, 1, nil, 50), processOf(p, 2, nil, 70)}
		all[0].till(t, atSwing, opEnq, 11)
		all[1].yard = all[0].yard
		all[1].till(t, atHelp, opEnq, 22)
		all[2].yard = all[1].yard
		all[2].till(t, atPull, opDeq, 0)
		now := all[2].yard
		for i, who := range order {
			all[who].yard = now
			all[who].step(t)
			now = all[who].yard
			if tail := now.words[now.rootPlace(rootTail)]; tail != uint64(all[0].h.Block)<<32|1 {
				t.Fatalf("%v: behind %d of them the tail is %#x", order, i+1, tail)
			}
		}
		for _, who := range order {
			all[who].yard = now
			all[who].rest(t)
			now = all[who].yard
		}
		x := process{yard: now}
		x.line(t, []int64{22})
	}
}

// overtaken has another one put in, get out and scan, till the block that was seen at a root is at that root once more by another word, or for some rounds.
func (x *process) overtaken(t *testing.T, root int, seen uint64) (isBack bool) {
	t.Helper()
	at := x.rootPlace(root)
	for round := range int64(8) {
		x.put(t, 20+round)
		x.get(t)
		x.call(t, opScan, 0, 0, 0)
		if x.words[at] != seen && x.index(at) == int64(seen>>32&65535) {
			return true
		}
	}
	return false
}

// Others got the node that was seen, gave it back and have it in the queue again: the word is not the one that was seen, so the first one looks again. Behind its guard they can't give it back, be its second look ahead or behind.
func TestTheLooksSeeThatItWasGone(t *testing.T) {
	t.Parallel()
	for _, p := range []impl.Plan{usualPlan, noLarge, mostPlan} {
		for _, c := range []struct {
			root       int
			code, till int64
			places     []int64
		}{
			{rootHead, opDeq, atGuardHead, []int64{atGuardHead, atHeadAgain, atHead}},
			{rootHead, opDeq, atHeadAgain, []int64{atHeadAgain, atHead}},
			{rootHead, opDeq, atFirst, []int64{atFirst, atGuardFirst, atHeadStill, atHead}},
			{rootHead, opDeq, atGuardFirst, []int64{atGuardFirst, atHeadStill, atHead}},
			{rootHead, opDeq, atHeadStill, []int64{atHeadStill, atHead}},
			{rootTail, opEnq, atGuardTail, []int64{atGuardTail, atTailAgain, atTail}},
			{rootTail, opEnq, atTailAgain, []int64{atTailAgain, atTail}},
			{rootTail, opEnq, atLast, []int64{atLast, atHelp, atTail}},
			{rootTail, opEnq, atLinkUp, []int64{atLinkUp, atTail}},
		} {
			first, second := processOf(p, 0, impl.Blank(p), 0), processOf(p, 1, nil, 50)
			first.put(t, 11)
			first.till(t, c.till, c.code, map[int64]int64{opEnq: 99}[c.code])
			second.yard = first.yard
			block, isGuarded := int64(first.h.Seen>>32&65535), c.till != atGuardHead && c.till != atGuardTail
			if isBack := second.overtaken(t, c.root, first.h.Seen); isBack == isGuarded || slices.Contains(impl.RetiredBy(p, second.words, 1), block) != isGuarded {
				t.Fatalf("%+v: at %d block %d is back: %v", p, c.till, block, isBack)
			}
			nodes, _ := second.lined()
			line := second.line(t, second.values(nodes[1:]))
			values := second.values(line[1:])
			first.yard = second.yard
			first.goes(t, c.places...)
			reply, out := first.rest(t)
			if c.code == opDeq {
				first.wantTold(t, reply, out, replyGot, values[0])
				first.line(t, values[1:])
			} else {
				first.wantTold(t, reply, out, replyOk, 0)
				first.line(t, append(values, 99))
			}
		}
	}
}

// Who has looked for the last time and is overtaken then finds so at its swap: behind its guards both nodes stay retired, so that it reads nothing that is free.
func TestWhoIsOvertakenBehindTheLastLook(t *testing.T) {
	p := usualPlan
	for _, till := range []int64{atLag, atLook, atKeep, atPick, atNote, atSwap} {
		first, second := processOf(p, 0, impl.Blank(p), 0), processOf(p, 1, nil, 50)
		block := first.put(t, 11)
		first.put(t, 22)
		first.put(t, 33)
		first.till(t, till, opDeq, 0)
		second.yard = first.yard
		for i := range int64(2) {
			if got, is := second.get(t); !is || got != 11+11*i {
				t.Fatalf("at %d %d was got, %v", till, got, is)
			}
			reply, out := second.call(t, opScan, 0, 0, 0)
			second.wantTold(t, reply, out, replyOk, i+1)
		}
		if gone := impl.RetiredBy(p, second.words, 1); !slices.Equal(gone, []int64{1, block}) {
			t.Fatalf("at %d %v are retired", till, gone)
		}
		first.yard = second.yard
		reply, out := first.rest(t)
		first.wantTold(t, reply, out, replyGot, 33)
		second.yard = first.yard
		second.scan(t)
		second.line(t, nil)
	}
}

// Every way in which the steps of two or three can fall: the line is as the deeds have it at each moment, nothing is lost, and nobody is about to come to a block that is free.
func TestEveryWayAtTheQueue(t *testing.T) {
	t.Parallel()
	put, more, get, scan := toCall(opEnq, 0, 7), toCall(opEnq, 0, 8), toCall(opDeq), toCall(opScan)
	two := impl.Plan{Procs: 2, Small: 4, Large: 0, Cells: 1, Keep: 2}
	for i, c := range []struct {
		p     impl.Plan
		ahead []int64
		tasks [][]task
	}{
		{two, nil, [][]task{{put}, {more}}},
		{two, nil, [][]task{{put}, {get}}},
		{two, nil, [][]task{{put, get}, {more, get}}},
		{two, []int64{1, 2}, [][]task{{get}, {get, scan, put}}},
		{two, []int64{1}, [][]task{{get}, {get, put, scan, put, get}}},
		{two, []int64{1}, [][]task{{put}, {get, get, scan, put}}},
		{two, []int64{1, 2}, [][]task{{get, scan}, {get, scan, more}}},
		{impl.Plan{Procs: 2, Small: 3, Large: 0, Cells: 1, Keep: 1}, []int64{1}, [][]task{{get, scan}, {put, get}}},
		{impl.Plan{Procs: 3, Small: 3, Large: 0, Cells: 1, Keep: 1}, []int64{1}, [][]task{{get}, {get}, {put}}},
	} {
		x := processOf(c.p, 0, impl.Blank(c.p), 0)
		for _, value := range c.ahead {
			x.put(t, value)
		}
		if n := wantEveryWay(t, x.yard, crowdOf(x.yard, c.tasks), c.tasks); n < 300 {
			t.Fatalf("few %d: %d moments", i, n)
		}
	}
}

// Many of them in a mixed order, for long; some push and pop, or take blocks and give them back, beside it.
func TestManyAtTheQueue(t *testing.T) {
	t.Parallel()
	for _, p := range []impl.Plan{usualPlan, noLarge, {Procs: 6, Small: 9, Large: 2, Cells: 1, Keep: 3}} {
		for seed := range uint64(6) {
			codes := []int64{opEnq, opEnq, opDeq, opDeq, opScan}
			if seed%2 == 1 {
				codes = append(codes, opPush, opPop)
			}
			tasks := mixedTasks(p, seed, codes...)
			if n := wantMany(t, yardOf(p, impl.Blank(p)), tasks, seed); n < 500*int(p.Procs) {
				t.Fatalf("%+v: %d moments", p, n)
			}
		}
	}
}
