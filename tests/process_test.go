package tests

import (
	"fmt"
	"slices"
	"testing"

	"loop.example/g00650/impl"
)

const atFind = 70

// scanByTable is the document's table of the scans, of a hand at one of its rows that has no wrong Index. It stands in for their function, which is not there yet.
func scanByTable(p impl.Plan, a []uint64, h impl.Hand) (impl.Done, bool) {
	y := yardOf(p, a)
	if h.At == atFind {
		switch guard := y.index(guardPlaces(h.Which / 2)[h.Which%2]); {
		case guard == h.Index:
			h.Kept, h.Index, h.At = h.Kept+1, h.Index+1, atScan
		case h.Which == 2*p.Procs-1:
			h.Block, h.Index, h.At = h.Index, h.Index+1, atYield
		default:
			h.Which++
		}
		return impl.Done{Arena: y.words, Hand: h}, true
	}
	switch {
	case h.Index > y.blocks():
		h.Reply, h.Out, h.At = replyOk, h.Kept, atSay
	case y.words[y.heads[h.Index-1]]>>48 == kindRetired<<8|uint64(h.For):
		h.Which, h.At = 0, atFind
	default:
		h.Index++
	}
	return impl.Done{Arena: y.words, Hand: h}, true
}

// A process has its slot, and steps over an arena.
type process struct {
	yard
	slot  int64
	h     impl.Hand
	deeds []impl.Deed
}

func (y yard) copied() yard { return yard{y.p, y.heads, slices.Clone(y.words)} }

func processOf(p impl.Plan, slot int64, a []uint64, last int64) process {
	return process{yard: yardOf(p, a), slot: slot, h: impl.Hand{Up: true, In: true, Life: 1, Last: last}}
}

// begin calls what is asked.
func (x *process) begin(t *testing.T, code, a, b, c int64) {
	t.Helper()
	h, k := impl.Called(x.p, x.slot, x.h, code, a, b, c)
	if k != codeOk {
		t.Fatalf("%d, %d, %d, %d is not called by %+v: %d", code, a, b, c, x.h, k)
	}
	x.h, x.deeds = h, nil
}

// step does the next thing.
func (x *process) step(t *testing.T) {
	t.Helper()
	was := slices.Clone(x.words)
	d, is := x.next(t)
	if !is {
		t.Fatalf("%+v can't step over %#x of %+v", x.h, x.words, x.p)
	}
	if !slices.Equal(was, x.words) {
		t.Fatalf("%+v wrote into its argument", x.h)
	}
	written := 0
	for at, w := range d.Arena {
		if w != was[at] {
			written++
		}
	}
	if written > 1 {
		t.Fatalf("%+v wrote %d words", x.h, written)
	}
	x.wantSwapAhead(t, d)
	if d.Deed != (impl.Deed{}) {
		x.deeds = append(x.deeds, d.Deed)
	}
	x.words, x.h = d.Arena, d.Hand
}

// next asks the chapter that tells what is done there.
func (x *process) next(t *testing.T) (impl.Done, bool) {
	t.Helper()
	for _, c := range chapters {
		if x.h.At >= c.first && x.h.At <= c.last {
			return c.step(x.p, x.words, x.slot, x.h)
		}
	}
	if x.h.At != atScan && x.h.At != atFind {
		t.Fatalf("no chapter tells what %+v does", x.h)
	}
	return scanByTable(x.p, x.words, x.h)
}

// wantSwapAhead holds what must stand ahead of a swap that is told by a deed: what is intended bears the number that is put, the block has the head that goes with it, and is linked to what is behind it in its walk.
func (x *process) wantSwapAhead(t *testing.T, d impl.Done) {
	t.Helper()
	if d.Deed == (impl.Deed{}) {
		return
	}
	at, block := x.h.Addr, d.Deed.Item
	intent, put := impl.Unpack(x.words[slotPlace(x.slot, 2)]), impl.Unpack(d.Arena[at])
	if intent != (impl.Word{Kind: d.Deed.Kind, Index: block, Seq: put.Seq}) || put.Pid != x.slot || put.Kind != 0 || put.Seq != x.h.Last {
		t.Fatalf("%+v was intended, and %+v is put, for %+v", intent, put, d.Deed)
	}
	link, behind, ahead := x.index(x.linkPlace(block)), put.Index, x.index(int(at))
	if d.Deed.Kind == deedGive || d.Deed.Kind == deedPush {
		behind, ahead = ahead, behind
	}
	if link != behind || ahead != block {
		t.Fatalf("%+v: from %d to %d, and block %d is linked to %d", d.Deed, x.index(int(at)), put.Index, block, link)
	}
	want := map[int64]uint64{deedPush: wordOf(kindNode, 0, 0, 0), deedPop: wordOf(kindNode, 0, 0, 0)}[d.Deed.Kind]
	if head := x.words[x.heads[block-1]]; head != want {
		t.Fatalf("%+v, and the head of block %d is %#x", d.Deed, block, head)
	}
	if value := x.index(x.valuePlace(block)); want != 0 && value != d.Deed.Value {
		t.Fatalf("%+v, and the value of block %d is %d", d.Deed, block, value)
	}
	if kept := x.words[slotPlace(x.slot, 3)]; d.Deed.Kind == deedPop && kept != uint64(d.Deed.Value)<<32 {
		t.Fatalf("%+v, and the slot's value is %#x", d.Deed, kept)
	}
	if guard := x.words[slotPlace(x.slot, 5)]; d.Deed.Kind == deedPop && guard != uint64(block)<<32 {
		t.Fatalf("%+v, and the slot's guard is %#x", d.Deed, guard)
	}
}

// rest steps till the call is over, and then is at rest.
func (x *process) rest(t *testing.T) (reply, out int64) {
	t.Helper()
	patience := 80 + x.p.Procs + x.blocks()*(10+2*x.p.Procs)
	for steps := int64(0); x.h.At != 0; steps++ {
		if steps > patience {
			t.Fatalf("%+v does not come to its end", x.h)
		}
		x.step(t)
	}
	reply, out = x.h.Reply, x.h.Out
	x.h = impl.Resting(x.h)
	return reply, out
}

func (x *process) call(t *testing.T, code, a, b, c int64) (reply, out int64) {
	t.Helper()
	x.begin(t, code, a, b, c)
	return x.rest(t)
}

func (x *process) wantTold(t *testing.T, reply, out, wantReply, wantOut int64) {
	t.Helper()
	if reply != wantReply || out != wantOut {
		t.Fatalf("slot %d of %+v is told %d, %d, not %d, %d", x.slot, x.p, reply, out, wantReply, wantOut)
	}
}

func (x *process) wantEnd(t *testing.T, what string, words []uint64, last int64, deeds []impl.Deed) {
	t.Helper()
	wantWords(t, what, words, x.words)
	if x.h.Last != last || x.h.At != 0 || !slices.Equal(x.deeds, deeds) {
		t.Fatalf("%s: %+v, and the deeds are %+v, not %+v", what, x.h, x.deeds, deeds)
	}
}

// opened writes what every call leaves in its slot: what was asked and told, that nothing is intended any more, and no guards.
func opened(words []uint64, slot, code, a, last, numbers, reply, out int64) {
	words[slotPlace(slot, 1)] = wordOf(code, 0, a, last+1)
	words[slotPlace(slot, 2)] = uint64(last + numbers)
	words[slotPlace(slot, 4)] = wordOf(reply, 0, out, last+1)
	words[slotPlace(slot, 5)], words[slotPlace(slot, 6)] = 0, 0
}

// swapped writes what a swap of a root leaves: the note about who was there, and what is put.
func (y yard) swapped(slot int64, root int, index, number int64) {
	at := y.rootPlace(root)
	seen := y.words[at]
	note := notePlace(y.p, int64(seen>>48&255), slot)
	y.words[note] = max(y.words[note], seen&topSeq)
	y.words[at] = wordOf(0, slot, index, number)
}

// A task is a call; it may hang on what the calls ahead of it were told.
type task func(told []int64) order

func toCall(code int64, args ...int64) task {
	o := order{code: code}
	copy(o.args[:], args)
	return func([]int64) order { return o }
}

func toTake(class int64) task { return toCall(opAlloc, class) }

// toGive gives back what was taken by the call of that number; a scan where that one was told that there is none.
func toGive(call int) task {
	return func(told []int64) order {
		if told[call] == 0 {
			return order{code: opScan}
		}
		return order{opFree, [3]int64{told[call]}}
	}
}

// A member of a crowd: its hand, and what it was told of each call that is over.
type member struct {
	h    impl.Hand
	told []int64
}

// A crowd is over one arena. By the deeds that were told so far its stack has those values, the last one first.
type crowd struct {
	words []uint64
	all   []member
	stack []int64
}

// crowdOf are processes at rest, one a list of tasks, each of which goes on from what its slot says.
func crowdOf(y yard, tasks [][]task) crowd {
	nodes, _ := y.walked(rootTop)
	c := crowd{words: y.words, stack: y.values(nodes)}
	for who := range int64(len(tasks)) {
		last := y.words[slotPlace(who, 2)] & topSeq
		kept := len(blocksWith(y.p, y.words, kindRetired, who))
		c.all = append(c.all, member{h: impl.Hand{Up: true, In: true, Life: 1, Last: int64(last), Kept: int64(kept)}})
	}
	return c
}

// moved is the crowd when that one has done one thing more; false where it has nothing to do.
func (c crowd) moved(t *testing.T, y yard, tasks [][]task, who int) (crowd, bool) {
	t.Helper()
	x := process{yard: yard{y.p, y.heads, c.words}, slot: int64(who), h: c.all[who].h}
	told, stack := c.all[who].told, c.stack
	switch {
	case x.h.At != 0:
		x.step(t)
		x.wantNone(t, stack, c.all[who].h.At)
		for _, d := range x.deeds {
			stack = stacked(t, stack, d)
		}
	case len(told) == len(tasks[who]):
		return c, false
	default:
		o := tasks[who][len(told)](told)
		x.begin(t, o.code, o.args[0], o.args[1], o.args[2])
	}
	if x.h.At == 0 {
		told = append(slices.Clone(told), x.h.Out)
		x.h = impl.Resting(x.h)
	}
	then := crowd{x.words, slices.Clone(c.all), stack}
	then.all[who] = member{x.h, told}
	return then, true
}

// stacked is the stack behind a deed.
func stacked(t *testing.T, stack []int64, d impl.Deed) []int64 {
	t.Helper()
	switch d.Kind {
	case deedPush:
		return append([]int64{d.Value}, stack...)
	case deedPop:
		if len(stack) == 0 || stack[0] != d.Value {
			t.Fatalf("%+v, and the stack is %v", d, stack)
		}
		return stack[1:]
	}
	return stack
}

// wantNone holds that there is none of what a process, having been at that place, is now told that there is none.
func (x *process) wantNone(t *testing.T, stack []int64, was int64) {
	t.Helper()
	if x.h.At != atSay {
		return
	}
	class := int64(0)
	if x.h.Code == opAlloc {
		class = x.h.A
	}
	if was == atPeek && len(stack) > 0 || was == atFree && len(x.free(t, class)) > 0 {
		t.Fatalf("%+v is told that there is none; the stack is %v", x.h, stack)
	}
}

// owned are the blocks that each was told to have taken, and has not begun to give back.
func (c crowd) owned(tasks [][]task) []int64 {
	var out []int64
	for who, m := range c.all {
		var mine []int64
		for i, ask := range tasks[who] {
			over := i < len(m.told)
			if !over && (i > len(m.told) || m.h.At == 0) {
				break
			}
			switch o := ask(m.told); {
			case o.code == opFree:
				mine = slices.DeleteFunc(mine, func(block int64) bool { return block == o.args[0] })
			case over && o.code == opAlloc && m.told[i] != 0:
				mine = append(mine, m.told[i])
			}
		}
		out = append(out, mine...)
	}
	return out
}

// wantOrder holds at any moment: no walk is broken, what is to be taken says that it is free, each block is in one place at most, the stack is as the deeds have it, and nobody is about to read from a block that is free.
func (c crowd) wantOrder(t *testing.T, y yard, tasks [][]task) {
	t.Helper()
	x := process{yard: yard{y.p, y.heads, c.words}}
	free := append(slices.Clone(x.free(t, 0)), x.free(t, 1)...)
	placed := slices.Concat(free, c.owned(tasks), x.nodes(t, c.stack))
	over := true
	for who, m := range c.all {
		over = over && m.h.At == 0 && len(m.told) == len(tasks[who])
		placed = append(placed, blocksWith(y.p, c.words, kindRetired, int64(who))...)
		block := map[int64]int64{atNext: m.h.Block, atLook: m.h.From}[m.h.At]
		if block != 0 && (slices.Contains(free, block) || c.words[y.heads[block-1]] == 0) {
			t.Fatalf("%+v is about to read from block %d, which is free", m.h, block)
		}
	}
	slices.Sort(placed)
	if len(slices.Compact(slices.Clone(placed))) != len(placed) {
		t.Fatalf("%v are in their places, of %+v", placed, c.all)
	}
	if over && !slices.Equal(placed, rising(2, y.blocks())) {
		t.Fatalf("all is over, and %v are in their places", placed)
	}
}

// wantEveryWay goes every way in which the steps can fall, and tells how many moments there are.
func wantEveryWay(t *testing.T, y yard, begin crowd, tasks [][]task) int {
	t.Helper()
	met, left := map[string]bool{}, []crowd{begin}
	for len(left) > 0 {
		c := left[len(left)-1]
		left = left[:len(left)-1]
		key := fmt.Sprint(c)
		if met[key] {
			continue
		}
		met[key] = true
		c.wantOrder(t, y, tasks)
		for who := range c.all {
			if len(met)%16 == 0 {
				x := process{yard: yard{y.p, y.heads, c.words}, slot: int64(who), h: c.all[who].h}
				x.rest(t)
			}
			if then, is := c.moved(t, y, tasks, who); is {
				left = append(left, then)
			}
		}
	}
	return len(met)
}
