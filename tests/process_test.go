package tests

import (
	"fmt"
	"slices"
	"testing"

	"loop.example/g00650/impl"
)

const atFind = 70

// scanByTable is the document's table of the scans, of a hand at one of its rows that has no wrong Index; nothing is written by them. It stands in for their function, which is not there yet.
func scanByTable(y yard, h impl.Hand) (impl.Done, bool) {
	if h.At == atFind {
		switch guard := y.index(guardPlaces(h.Which / 2)[h.Which%2]); {
		case guard == h.Index:
			h.Kept, h.Index, h.At = h.Kept+1, h.Index+1, atScan
		case h.Which == 2*y.p.Procs-1:
			h.Block, h.Index, h.At = h.Index, h.Index+1, atYield
		default:
			h.Which++
		}
		return impl.Done{Arena: y.words, Hand: h}, true
	}
	switch {
	case h.Index > y.blocks():
		h.Reply, h.Out, h.At = replyOk, h.Kept, atSay
	case y.words[y.heads[h.Index-1]]>>48 == kindRetired<<8|uint64(h.For):
		h.Which, h.At = 0, atFind
	default:
		h.Index++
	}
	return impl.Done{Arena: y.words, Hand: h}, true
}

// A process has its slot, and steps over an arena.
type process struct {
	yard
	slot  int64
	h     impl.Hand
	deeds []impl.Deed
}

func (y yard) copied() yard { return yard{y.p, y.heads, slices.Clone(y.words)} }

func processOf(p impl.Plan, slot int64, a []uint64, last int64) process {
	return process{yard: yardOf(p, a), slot: slot, h: impl.Hand{Up: true, In: true, Life: 1, Last: last}}
}

// begin calls what is asked.
func (x *process) begin(t *testing.T, code, a, b, c int64) {
	t.Helper()
	h, k := impl.Called(x.p, x.slot, x.h, code, a, b, c)
	if k != codeOk {
		t.Fatalf("%d, %d, %d, %d is not called by %+v: %d", code, a, b, c, x.h, k)
	}
	x.h, x.deeds = h, nil
}

// step does the next thing.
func (x *process) step(t *testing.T) {
	t.Helper()
	was := slices.Clone(x.words)
	d, is := x.next(t)
	if !is {
		t.Fatalf("%+v can't step over %#x of %+v", x.h, x.words, x.p)
	}
	if !slices.Equal(was, x.words) {
		t.Fatalf("%+v wrote into its argument", x.h)
	}
	written := 0
	for at, w := range d.Arena {
		if w != was[at] {
			written++
		}
	}
	if written > 1 {
		t.Fatalf("%+v wrote %d words", x.h, written)
	}
	x.wantSwapAhead(t, d)
	if d.Deed != (impl.Deed{}) {
		x.deeds = append(x.deeds, d.Deed)
	}
	x.words, x.h = d.Arena, d.Hand
}

// next asks the chapter that tells what is done there.
func (x *process) next(t *testing.T) (impl.Done, bool) {
	t.Helper()
	for _, c := range chapters {
		if x.h.At >= c.first && x.h.At <= c.last {
			return c.step(x.p, x.words, x.slot, x.h)
		}
	}
	if x.h.At != atScan && x.h.At != atFind {
		t.Fatalf("no chapter tells what %+v does", x.h)
	}
	return scanByTable(x.yard, x.h)
}

// wantSwapAhead holds what must stand ahead of a swap that is told by a deed: what is intended bears the number that is put, the block has the head that goes with it, and is linked to what is behind it in its walk; of a cell see wantCellAhead.
func (x *process) wantSwapAhead(t *testing.T, d impl.Done) {
	t.Helper()
	if d.Deed == (impl.Deed{}) {
		return
	}
	at, block := int(x.h.Addr), d.Deed.Item
	switch d.Deed.Kind {
	case deedEnq:
		at = x.linkPlace(x.h.From)
	case deedCas:
		block = 0
	}
	intent, put := impl.Unpack(x.words[slotPlace(x.slot, 2)]), impl.Unpack(d.Arena[at])
	if intent != (impl.Word{Kind: d.Deed.Kind, Index: block, Seq: put.Seq}) || put.Pid != x.slot || put.Kind != 0 || put.Seq != x.h.Last {
		t.Fatalf("%+v was intended, and %+v is put, for %+v", intent, put, d.Deed)
	}
	if d.Deed.Kind == deedCas {
		x.wantCellAhead(t, d.Deed, put.Index)
		return
	}
	link, behind, ahead := x.index(x.linkPlace(block)), put.Index, x.index(at)
	if slices.Contains([]int64{deedGive, deedPush, deedEnq}, d.Deed.Kind) {
		behind, ahead = ahead, behind
	}
	if link != behind || ahead != block {
		t.Fatalf("%+v: from %d to %d, and block %d is linked to %d", d.Deed, x.index(at), put.Index, block, link)
	}
	if d.Deed.Kind == deedTake || d.Deed.Kind == deedGive {
		x.wantAhead(t, d.Deed, "head", x.words[x.heads[block-1]], 0)
		return
	}
	x.wantNodeAhead(t, d.Deed, put.Index)
}

// wantNodeAhead holds the same of a node: where its value is, and that whoever looks at a block guards it.
func (x *process) wantNodeAhead(t *testing.T, d impl.Deed, put int64) {
	t.Helper()
	bearer, guarded := d.Item, []int64{}
	switch d.Kind {
	case deedPop:
		guarded = []int64{d.Item}
	case deedDeq:
		bearer, guarded = put, []int64{d.Item, put}
	case deedEnq:
		nodes, _ := x.lined()
		last := nodes[len(nodes)-1]
		guarded = []int64{last}
		x.wantAhead(t, d, "last link", x.words[x.linkPlace(last)], 0)
	}
	x.wantAhead(t, d, "head", x.words[x.heads[d.Item-1]], wordOf(kindNode, 0, 0, 0))
	x.wantAhead(t, d, "value", uint64(x.index(x.valuePlace(bearer))), uint64(d.Value))
	for i, block := range guarded {
		x.wantAhead(t, d, "guard", x.words[guardPlaces(x.slot)[i]], wordOf(0, 0, block, 0))
	}
	if d.Kind == deedPop || d.Kind == deedDeq {
		x.wantAhead(t, d, "slot's value", x.words[slotPlace(x.slot, 3)], wordOf(0, 0, d.Value, 0))
	}
}

// wantCellAhead holds that it is the cell that was called which is changed, from what it should be and to what was called, and that the note about who was there was raised.
func (x *process) wantCellAhead(t *testing.T, d impl.Deed, put int64) {
	t.Helper()
	if d.Item != x.h.A || d.Value != x.h.C || put != x.h.C || x.h.Addr != int64(x.rootPlace(rootCell+int(x.h.A))) {
		t.Fatalf("%+v of %+v, and %d is put", d, x.h, put)
	}
	seen := x.words[x.h.Addr]
	x.wantAhead(t, d, "cell", uint64(seen>>32&65535), uint64(x.h.B))
	note := x.words[notePlace(x.p, int64(seen>>48&255), x.slot)]
	x.wantAhead(t, d, "note", max(note, seen&topSeq), note)
}

func (x *process) wantAhead(t *testing.T, d impl.Deed, what string, got, want uint64) {
	t.Helper()
	if got != want {
		t.Fatalf("%+v, and the %s ahead of it is %#x, not %#x", d, what, got, want)
	}
}

// rest steps till the call is over, and then is at rest.
func (x *process) rest(t *testing.T) (reply, out int64) {
	t.Helper()
	patience := 80 + x.p.Procs + x.blocks()*(10+2*x.p.Procs)
	for steps := int64(0); x.h.At != 0; steps++ {
		if steps > patience {
			t.Fatalf("%+v does not come to its end", x.h)
		}
		x.step(t)
	}
	reply, out = x.h.Reply, x.h.Out
	x.h = impl.Resting(x.h)
	return reply, out
}

func (x *process) call(t *testing.T, code, a, b, c int64) (reply, out int64) {
	t.Helper()
	x.begin(t, code, a, b, c)
	return x.rest(t)
}

func (x *process) wantTold(t *testing.T, reply, out, wantReply, wantOut int64) {
	t.Helper()
	if reply != wantReply || out != wantOut {
		t.Fatalf("slot %d of %+v is told %d, %d, not %d, %d", x.slot, x.p, reply, out, wantReply, wantOut)
	}
}

func (x *process) wantEnd(t *testing.T, what string, words []uint64, last int64, deeds []impl.Deed) {
	t.Helper()
	wantWords(t, what, words, x.words)
	if x.h.Last != last || x.h.At != 0 || !slices.Equal(x.deeds, deeds) {
		t.Fatalf("%s: %+v, and the deeds are %+v, not %+v", what, x.h, x.deeds, deeds)
	}
}

// opened writes what every call leaves in its slot: what was asked and told, that nothing is intended any more, and no guards.
func opened(words []uint64, slot, code, a, last, numbers, reply, out int64) {
	words[slotPlace(slot, 1)] = wordOf(code, 0, a, last+1)
	words[slotPlace(slot, 2)] = uint64(last + numbers)
	words[slotPlace(slot, 4)] = wordOf(reply, 0, out, last+1)
	words[slotPlace(slot, 5)], words[slotPlace(slot, 6)] = 0, 0
}

// swapped writes what a swap of a root leaves: the note about who was there, and what is put.
func (y yard) swapped(slot int64, root int, index, number int64) {
	at := y.rootPlace(root)
	seen := y.words[at]
	note := notePlace(y.p, int64(seen>>48&255), slot)
	y.words[note] = max(y.words[note], seen&topSeq)
	y.words[at] = wordOf(0, slot, index, number)
}

// A task is a call; it may hang on what the calls ahead of it were told.
type task func(told []int64) order

func toCall(code int64, args ...int64) task {
	o := order{code: code}
	copy(o.args[:], args)
	return func([]int64) order { return o }
}

func toTake(class int64) task { return toCall(opAlloc, class) }

// toGive gives back what was taken by the call of that number; a scan where that one was told that there is none.
func toGive(call int) task {
	return func(told []int64) order {
		if told[call] == 0 {
			return order{code: opScan}
		}
		return order{opFree, [3]int64{told[call]}}
	}
}

// A member of a crowd: its hand, and what it was told of each call that is over.
type member struct {
	h    impl.Hand
	told []int64
}

// A crowd is over one arena. By the deeds that were told so far its stack has those values, the last one first, its line those, the first one first, and its cells are those.
type crowd struct {
	words              []uint64
	all                []member
	stack, line, cells []int64
}

// crowdOf are processes at rest, one a list of tasks, each of which goes on from what its slot says.
func crowdOf(y yard, tasks [][]task) crowd {
	nodes, _ := y.walked(rootTop)
	line, _ := y.lined()
	c := crowd{words: y.words, stack: y.values(nodes), line: y.values(line[1:]), cells: y.cells()}
	for who := range int64(len(tasks)) {
		last := y.words[slotPlace(who, 2)] & topSeq
		kept := len(blocksWith(y.p, y.words, kindRetired, who))
		c.all = append(c.all, member{h: impl.Hand{Up: true, In: true, Life: 1, Last: int64(last), Kept: int64(kept)}})
	}
	return c
}

// moved is the crowd when that one has done one thing more; false where it has nothing to do.
func (c crowd) moved(t *testing.T, y yard, tasks [][]task, who int) (crowd, bool) {
	t.Helper()
	x := process{yard: yard{y.p, y.heads, c.words}, slot: int64(who), h: c.all[who].h}
	told, then := c.all[who].told, c
	switch {
	case x.h.At != 0:
		x.step(t)
		c.wantSeen(t, &x, c.all[who].h.At)
		for _, d := range x.deeds {
			then = then.behind(t, d)
		}
	case len(told) == len(tasks[who]):
		return c, false
	default:
		o := tasks[who][len(told)](told)
		x.begin(t, o.code, o.args[0], o.args[1], o.args[2])
	}
	if x.h.At == 0 {
		told = append(slices.Clone(told), x.h.Out)
		x.h = impl.Resting(x.h)
	}
	then.words, then.all = x.words, slices.Clone(c.all)
	then.all[who] = member{x.h, told}
	return then, true
}

// behind has the stack, the line and the cells as they are behind a deed.
func (c crowd) behind(t *testing.T, d impl.Deed) crowd {
	t.Helper()
	from := map[int64]*[]int64{deedPop: &c.stack, deedDeq: &c.line}[d.Kind]
	switch {
	case d.Kind == deedPush:
		c.stack = append([]int64{d.Value}, c.stack...)
	case d.Kind == deedEnq:
		c.line = append(slices.Clone(c.line), d.Value)
	case d.Kind == deedCas:
		c.cells = slices.Clone(c.cells)
		c.cells[d.Item] = d.Value
	case from == nil:
	case len(*from) == 0 || (*from)[0] != d.Value:
		t.Fatalf("%+v, and it is got from %v", d, *from)
	default:
		*from = (*from)[1:]
	}
	return c
}

// wantSeen holds what a process that was at that place is now told of it: that there is none of what it would get, what a cell is, or what a call was told.
func (c crowd) wantSeen(t *testing.T, x *process, was int64) {
	t.Helper()
	if x.h.At != atSay {
		return
	}
	class := int64(0)
	if x.h.Code == opAlloc {
		class = x.h.A
	}
	if was == atPeek && len(c.stack) > 0 || was == atFirst && len(c.line) > 0 || was == atFree && len(x.free(t, class)) > 0 {
		t.Fatalf("%+v is told that there is none; the stack is %v, the line %v", x.h, c.stack, c.line)
	}
	if was == atCell && (x.h.Out != c.cells[x.h.A] || x.h.Code == opCas && x.h.Out == x.h.B) {
		t.Fatalf("%+v is told what the cell is; the cells are %v", x.h, c.cells)
	}
	if was == atAsk {
		reply, out := x.resultOf(x.h.A, x.h.B)
		x.wantTold(t, x.h.Reply, x.h.Out, reply, out)
	}
}

// owned are the blocks that each was told to have taken, and has not begun to give back.
func (c crowd) owned(tasks [][]task) []int64 {
	var out []int64
	for who, m := range c.all {
		var mine []int64
		for i, ask := range tasks[who] {
			over := i < len(m.told)
			if !over && (i > len(m.told) || m.h.At == 0) {
				break
			}
			switch o := ask(m.told); {
			case o.code == opFree:
				mine = slices.DeleteFunc(mine, func(block int64) bool { return block == o.args[0] })
			case over && o.code == opAlloc && m.told[i] != 0:
				mine = append(mine, m.told[i])
			}
		}
		out = append(out, mine...)
	}
	return out
}

// wantOrder holds at any moment: no walk is broken, what is to be taken says that it is free, each block is in one place at most, the stack, the line and the cells are as the deeds have them, and nobody is about to read from a block that is free, or to link to one.
func (c crowd) wantOrder(t *testing.T, y yard, tasks [][]task) {
	t.Helper()
	x := process{yard: yard{y.p, y.heads, c.words}}
	free := append(slices.Clone(x.free(t, 0)), x.free(t, 1)...)
	placed := slices.Concat(free, c.owned(tasks), x.nodes(t, c.stack), x.line(t, c.line))
	x.wantCells(t, c.cells)
	over := true
	for who, m := range c.all {
		over = over && m.h.At == 0 && len(m.told) == len(tasks[who])
		placed = append(placed, blocksWith(y.p, c.words, kindRetired, int64(who))...)
		block := map[int64]int64{atNext: m.h.Block, atLook: m.h.From, atLast: m.h.From, atLinkUp: m.h.From, atFirst: m.h.Block}[m.h.At]
		if block != 0 && (slices.Contains(free, block) || c.words[y.heads[block-1]] == 0) {
			t.Fatalf("%+v is about to come to block %d, which is free", m.h, block)
		}
	}
	slices.Sort(placed)
	if len(slices.Compact(slices.Clone(placed))) != len(placed) {
		t.Fatalf("%v are in their places, of %+v", placed, c.all)
	}
	if over && !slices.Equal(placed, rising(1, y.blocks())) {
		t.Fatalf("all is over, and %v are in their places", placed)
	}
}

// wantEveryWay goes every way in which the steps can fall, and tells how many moments there are.
func wantEveryWay(t *testing.T, y yard, begin crowd, tasks [][]task) int {
	t.Helper()
	met, left := map[string]bool{}, []crowd{begin}
	for len(left) > 0 {
		c := left[len(left)-1]
		left = left[:len(left)-1]
		key := fmt.Sprint(c)
		if met[key] {
			continue
		}
		met[key] = true
		c.wantOrder(t, y, tasks)
		for who := range c.all {
			if len(met)%16 == 0 {
				x := process{yard: yard{y.p, y.heads, c.words}, slot: int64(who), h: c.all[who].h}
				x.rest(t)
			}
			if then, is := c.moved(t, y, tasks, who); is {
				left = append(left, then)
			}
		}
	}
	return len(met)
}

// wantMany has them take their turns in a mixed order till all is done, and tells how many moments there were.
func wantMany(t *testing.T, y yard, tasks [][]task, seed uint64) int {
	t.Helper()
	c, moments := crowdOf(y, tasks), 0
	for i, moved := uint64(0), true; moved; i++ {
		moved = false
		for _, turn := range mixedWords(64, seed*1000+i) {
			then, is := c.moved(t, y, tasks, int(turn>>7%uint64(y.p.Procs)))
			if !is {
				continue
			}
			c, moved = then, true
			moments++
			c.wantOrder(t, y, tasks)
		}
	}
	for who, m := range c.all {
		if len(m.told) != len(tasks[who]) || m.h.At != 0 {
			t.Fatalf("%+v: slot %d is not at its end", y.p, who)
		}
	}
	return moments
}

// mixedTasks are of each slot as many calls, of these codes; the cells are few, as are the numbers that they have; a block that is taken is given back a few calls behind.
func mixedTasks(p impl.Plan, seed uint64, codes ...int64) [][]task {
	out := make([][]task, p.Procs)
	for slot := range out {
		for i, w := range mixedWords(60, seed*77+uint64(slot)) {
			code := codes[w>>9%uint64(len(codes))]
			switch {
			case i%12 == 2:
				out[slot] = append(out[slot], toTake(int64(w>>9%2)))
			case i%12 == 7:
				out[slot] = append(out[slot], toGive(i-5))
			case code == opPush || code == opEnq:
				out[slot] = append(out[slot], toCall(code, 0, int64(w>>20&topIndex)))
			case code == opCas:
				out[slot] = append(out[slot], toCall(code, int64(w>>20%uint64(min(2, p.Cells))), int64(w>>24%3), int64(w>>30%3)))
			case code == opSee:
				out[slot] = append(out[slot], toCall(code, int64(w>>20%uint64(min(2, p.Cells)))))
			case code == opAsk:
				out[slot] = append(out[slot], toCall(code, int64(w>>20%uint64(p.Procs)), 1+int64(w>>30%120)))
			default:
				out[slot] = append(out[slot], toCall(code))
			}
		}
	}
	return out
}
