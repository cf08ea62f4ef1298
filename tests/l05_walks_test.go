package tests

import (
	"fmt"
	"math"
	"slices"
	"testing"

	"loop.example/g00650/impl"
)

// The roots are written out here, so that a changed constant is seen.
const (
	rootSmall = 0
	rootLarge = 1
	rootTop   = 2
	rootHead  = 3
	rootTail  = 4
	rootCell  = 5
)

// A yard is an arena that is laid out here by the document's order, beside the program's own functions.
type yard struct {
	p     impl.Plan
	heads []int
	words []uint64
}

func yardOf(p impl.Plan, words []uint64) yard { return yard{p, headPlaces(p), slices.Clone(words)} }

func zeroYard(p impl.Plan) yard { return yardOf(p, make([]uint64, len(laidOut(p)))) }

func (y yard) rootPlace(root int) int { return int(7*y.p.Procs+y.p.Procs*y.p.Procs) + root }

func (y yard) blocks() int64 { return y.p.Small + y.p.Large }

func (y yard) linkPlace(block int64) int { return y.heads[block-1] + 1 }

func (y yard) valuePlace(block int64) int { return y.heads[block-1] + 2 }

func (y yard) setRoot(root int, index int64) { y.words[y.rootPlace(root)] = wordOf(0, 0, index, 0) }

func (y yard) setLink(block, index int64) { y.words[y.linkPlace(block)] = wordOf(0, 0, index, 0) }

func (y yard) setValue(block, index int64) { y.words[y.valuePlace(block)] = wordOf(0, 0, index, 0) }

// hang lays a walk from a root through blocks, the last one with the link end.
func (y yard) hang(root int, blocks []int64, end int64) {
	for i := len(blocks) - 1; i >= 0; i-- {
		y.setLink(blocks[i], end)
		end = blocks[i]
	}
	y.setRoot(root, end)
}

func (y yard) index(at int) int64 { return int64(y.words[at] >> 32 & 65535) }

// walked holds each block against all that came ahead of it, as the document's words go.
func (y yard) walked(root int) ([]int64, bool) {
	var out []int64
	for block := y.index(y.rootPlace(root)); block != 0; block = y.index(y.linkPlace(block)) {
		if block > y.blocks() || slices.Contains(out, block) {
			return nil, false
		}
		out = append(out, block)
	}
	return out, true
}

func (y yard) lined() ([]int64, bool) {
	nodes, is := y.walked(rootHead)
	tail := y.index(y.rootPlace(rootTail))
	for _, node := range nodes {
		if is && node == tail {
			return nodes, true
		}
	}
	return nil, false
}

func (y yard) values(nodes []int64) []int64 {
	var out []int64
	for _, node := range nodes {
		out = append(out, y.index(y.valuePlace(node)))
	}
	return out
}

func (y yard) cells() []int64 {
	var out []int64
	for cell := range int(y.p.Cells) {
		out = append(out, y.index(y.rootPlace(rootCell+cell)))
	}
	return out
}

type walkCall func(p impl.Plan, a []uint64) ([]int64, bool)

func freeOf(class int64) walkCall {
	return func(p impl.Plan, a []uint64) ([]int64, bool) { return impl.FreeIn(p, a, class) }
}

var walkCalls = []struct {
	name string
	ask  walkCall
	want func(y yard) ([]int64, bool)
}{
	{"FreeIn of 0", freeOf(0), func(y yard) ([]int64, bool) { return y.walked(rootSmall) }},
	{"FreeIn of 1", freeOf(1), func(y yard) ([]int64, bool) { return y.walked(rootLarge) }},
	{"StackNodes", impl.StackNodes, func(y yard) ([]int64, bool) { return y.walked(rootTop) }},
	{"LineNodes", impl.LineNodes, yard.lined},
	{"StackOf", impl.StackOf, func(y yard) ([]int64, bool) {
		nodes, is := y.walked(rootTop)
		return y.values(nodes), is
	}},
	{"LineOf", impl.LineOf, func(y yard) ([]int64, bool) {
		nodes, is := y.lined()
		return y.values(nodes[min(1, len(nodes)):]), is
	}},
	{"CellsOf", cellsOf, func(y yard) ([]int64, bool) { return y.cells(), true }},
}

// cellsOf asks for the cells in the walks' form; a list of no cell at all is of what is no arena.
func cellsOf(p impl.Plan, a []uint64) ([]int64, bool) {
	cells := impl.CellsOf(p, a)
	return cells, len(cells) > 0
}

// wantWalk asks twice, writes all over the first answer, its spare room too, and asks again: the others, and what was lent, stay.
func wantWalk(t *testing.T, what string, ask walkCall, p impl.Plan, l lent, want []int64, wantIs bool) {
	t.Helper()
	first, is := ask(p, l.list)
	if !slices.Equal(first, want) || is != wantIs {
		t.Fatalf("%s is %v, %v, not %v, %v", what, first, is, want, wantIs)
	}
	second, _ := ask(p, l.list)
	rest := slices.Clone(second[:cap(second)])
	room := first[:cap(first)]
	for i := range room {
		room[i] = -9
	}
	l.wantStays(t, what+", its answer written over")
	if !slices.Equal(second, want) || !slices.Equal(second[:cap(second)], rest) {
		t.Fatalf("%s: two answers share memory", what)
	}
	for i := range l.whole {
		l.whole[i] = ^l.whole[i]
	}
	if !slices.Equal(second[:cap(second)], rest) {
		t.Fatalf("%s: the answer changed with the argument", what)
	}
	copy(l.whole, l.was)
	if again, is := ask(p, l.list); !slices.Equal(again, want) || is != wantIs {
		t.Fatalf("%s is %v, %v, not %v, %v, after an answer was written over", what, again, is, want, wantIs)
	}
}

func wantYard(t *testing.T, what string, y yard) {
	t.Helper()
	l := lend(y.words)
	for _, c := range walkCalls {
		want, is := c.want(y)
		wantWalk(t, what+": "+c.name, c.ask, y.p, l, want, is)
	}
}

// wantBroken does not ask the yard whether the named walks are broken: a mistake there can't hide that they are not.
func wantBroken(t *testing.T, what string, y yard, names ...string) {
	t.Helper()
	l := lend(y.words)
	for _, c := range walkCalls {
		if slices.Contains(names, c.name) {
			wantWalk(t, what+": "+c.name, c.ask, y.p, l, nil, false)
		}
	}
	wantYard(t, what, y)
}

// Which walks begin at a root; the queue's tail is where the walk begins, unless a test lays it elsewhere.
var walkRoots = []struct {
	root  int
	names []string
}{
	{rootSmall, []string{"FreeIn of 0"}},
	{rootLarge, []string{"FreeIn of 1"}},
	{rootTop, []string{"StackNodes", "StackOf"}},
	{rootHead, []string{"LineNodes", "LineOf"}},
}

func rising(first, last int64) []int64 {
	var out []int64
	for block := first; block <= last; block++ {
		out = append(out, block)
	}
	return out
}

// orders are ways through all blocks: up, down, and mixed.
func orders(p impl.Plan) [][]int64 {
	up := allBlocks(p)
	down := slices.Clone(up)
	slices.Reverse(down)
	mixed := slices.Clone(up)
	for i, x := range mixedWords(len(mixed), 0x77) {
		j := int(x % uint64(i+1))
		mixed[i], mixed[j] = mixed[j], mixed[i]
	}
	return [][]int64{up, down, mixed}
}

// somePlans are the usual ones, and the edges of how many blocks there are of a kind.
var somePlans = append([]impl.Plan{
	{Procs: 1, Small: 2, Large: 0, Cells: 1, Keep: 1},
	{Procs: 2, Small: 1, Large: 1, Cells: 8, Keep: 1},
	{Procs: 1, Small: 1, Large: 50, Cells: 1, Keep: 32},
	{Procs: 1, Small: 200, Large: 0, Cells: 1, Keep: 1},
}, usualPlans...)

func wantBlankWalks(t *testing.T, p impl.Plan) {
	t.Helper()
	l := lend(impl.Blank(p))
	for _, c := range []struct {
		name string
		ask  walkCall
		want []int64
	}{
		{"FreeIn of 0", freeOf(0), rising(2, p.Small)},
		{"FreeIn of 1", freeOf(1), rising(p.Small+1, p.Small+p.Large)},
		{"StackNodes", impl.StackNodes, nil},
		{"LineNodes", impl.LineNodes, []int64{1}},
		{"StackOf", impl.StackOf, nil},
		{"LineOf", impl.LineOf, nil},
		{"CellsOf", cellsOf, make([]int64, p.Cells)},
	} {
		wantWalk(t, fmt.Sprintf("%s of the blank %+v", c.name, p), c.ask, p, l, c.want, true)
	}
}

// Promise 5, walk by walk.
func TestBlankWalks(t *testing.T) {
	eachRightPlan(func(p impl.Plan) { wantBlankWalks(t, p) })
	for _, p := range somePlans {
		wantBlankWalks(t, p)
		for _, l := range planLimits {
			for _, v := range []int64{l.least, l.most} {
				q := p
				*l.at(&q) = v
				wantBlankWalks(t, q)
			}
		}
	}
}

// Promise 5, block by block: each but the first one is in one free walk, the one of its class.
func TestBlankBlocksAreFreeOnce(t *testing.T) {
	eachRightPlan(func(p impl.Plan) {
		a := impl.Blank(p)
		in := map[int64][]int64{}
		for class := range int64(2) {
			free, is := impl.FreeIn(p, a, class)
			if !is {
				t.Fatalf("%+v: the free walk of class %d is broken", p, class)
			}
			for _, block := range free {
				in[block] = append(in[block], class)
			}
		}
		for block := int64(0); block <= p.Small+p.Large+1; block++ {
			want := []int64{impl.ClassOf(p, block)}
			if block <= 1 || block > p.Small+p.Large {
				want = nil
			}
			if !slices.Equal(in[block], want) {
				t.Fatalf("%+v: block %d is in the free walks %v, not %v", p, block, in[block], want)
			}
		}
		stack, whole := impl.StackOf(p, a)
		line, sound := impl.LineOf(p, a)
		if len(stack) != 0 || !whole || len(line) != 0 || !sound {
			t.Fatalf("%+v: the stack is %v, %v, the queue %v, %v", p, stack, whole, line, sound)
		}
	})
}

// Places that were counted by hand: roots from 30 on; heads at 37, 40, 43, 46, 49 (small) and 52, 57 (large), each ahead of a link and a value.
func TestWalksOfTheUsualPlan(t *testing.T) {
	a := make([]uint64, 62)
	a[30], a[47] = 4<<32, 0
	a[31] = 0
	a[32], a[58], a[41] = 7<<32, 2<<32, 0
	a[59], a[60], a[61], a[42] = 70<<32, 71<<32, 72<<32, 20<<32
	a[33], a[44], a[53], a[38] = 3<<32, 6<<32, 1<<32, 5<<32
	a[34] = 6 << 32
	a[45], a[54], a[55], a[56], a[39], a[51] = 30<<32, 60<<32, 61<<32, 62<<32, 10<<32, 65535<<32
	a[35], a[36] = 8<<32, 9<<32
	l := lend(a)
	for _, c := range []struct {
		name string
		ask  walkCall
		want []int64
	}{
		{"FreeIn of 0", freeOf(0), []int64{4}},
		{"FreeIn of 1", freeOf(1), nil},
		{"StackNodes", impl.StackNodes, []int64{7, 2}},
		{"StackOf", impl.StackOf, []int64{70, 20}},
		{"LineNodes", impl.LineNodes, []int64{3, 6, 1, 5}},
		{"LineOf", impl.LineOf, []int64{60, 10, 65535}},
		{"CellsOf", cellsOf, []int64{8, 9}},
	} {
		wantWalk(t, c.name, c.ask, usualPlan, l, c.want, true)
	}
}

// Every root and every link of a small plan, each with every number up to two past the last block.
func TestEveryWalkOfFewBlocks(t *testing.T) {
	for _, p := range []impl.Plan{
		leastPlan,
		{Procs: 1, Small: 2, Large: 0, Cells: 1, Keep: 1},
		{Procs: 1, Small: 1, Large: 1, Cells: 1, Keep: 1},
		{Procs: 2, Small: 2, Large: 1, Cells: 1, Keep: 1},
		{Procs: 1, Small: 1, Large: 3, Cells: 2, Keep: 1},
	} {
		y := zeroYard(p)
		for _, block := range allBlocks(p) {
			y.setValue(block, 100+block)
		}
		most := y.blocks() + 2
		var links func(block int64)
		links = func(block int64) {
			if block > y.blocks() {
				wantEveryRoot(t, y, most)
				return
			}
			for index := range most + 1 {
				y.setLink(block, index)
				links(block + 1)
			}
		}
		links(1)
	}
}

// wantEveryRoot is asked many thousand times, so it looks at the answers alone.
func wantEveryRoot(t *testing.T, y yard, most int64) {
	t.Helper()
	for from := range most + 1 {
		for root := rootSmall; root <= rootHead; root++ {
			y.setRoot(root, (from+int64(root))%(most+1))
		}
		for tail := range most + 1 {
			y.setRoot(rootTail, tail)
			for _, c := range walkCalls {
				want, is := c.want(y)
				if got, whole := c.ask(y.p, y.words); whole != is || !slices.Equal(got, want) {
					t.Fatalf("%s of %+v, %#x is %v, %v, not %v, %v", c.name, y.p, y.words, got, whole, want, is)
				}
			}
		}
	}
}

func TestWalksOfEveryArena(t *testing.T) {
	eachArena(func(name string, p impl.Plan, a []uint64) { wantYard(t, name, yardOf(p, a)) })
}

// Links that mostly lead on, so that walks come far: to an end, to no block, or round.
func TestWalksOfMixedLinks(t *testing.T) {
	for _, p := range somePlans {
		for seed := range uint64(60) {
			y := yardOf(p, mixedWords(len(laidOut(p)), seed+900))
			turns := mixedWords(int(y.blocks())+rootCell, seed)
			way := orders(p)[seed%3]
			y.hang(int(seed%4), way, 0)
			for root := range rootCell {
				y.setRoot(root, int64(turns[root]%uint64(y.blocks()+2)))
			}
			for i, x := range turns[rootCell:] {
				if x%uint64(y.blocks()) < 2 {
					y.setLink(int64(i)+1, int64(x>>20%uint64(y.blocks()+2)))
				}
			}
			wantYard(t, fmt.Sprintf("mixed links %d of %+v", seed, p), y)
		}
	}
}

// Walks of no block, of one, of some and of all of them, from each root alone.
func TestWalksOfEveryLength(t *testing.T) {
	for _, p := range somePlans {
		for _, way := range orders(p) {
			for _, n := range []int{0, 1, 2, 3, len(way) / 2, len(way) - 1, len(way)} {
				if n > len(way) {
					continue
				}
				for _, r := range walkRoots {
					y := zeroYard(p)
					for i, block := range way {
						y.setValue(block, int64(65535-i))
					}
					y.hang(r.root, way[:n], 0)
					if r.root == rootHead && n > 0 {
						y.setRoot(rootTail, way[n-1])
					}
					l := lend(y.words)
					what := fmt.Sprintf("root %d, %d blocks of %+v", r.root, n, p)
					for _, c := range walkCalls {
						if slices.Contains(r.names, c.name) {
							wantWalk(t, what+": "+c.name, c.ask, p, l, lengthAnswer(c.name, way[:n]), r.root != rootHead || n > 0)
						}
					}
					wantYard(t, what, y)
				}
			}
		}
	}
}

// lengthAnswer is what TestWalksOfEveryLength lays: the first block has the value 65535, the next ones each one less.
func lengthAnswer(name string, nodes []int64) []int64 {
	if name != "StackOf" && name != "LineOf" {
		return nodes
	}
	var values []int64
	for i := range nodes {
		if i > 0 || name == "StackOf" {
			values = append(values, int64(65535-i))
		}
	}
	return values
}

// From the first block on, from one between and from the last one: to a block that there is not.
func TestWalksToNoBlock(t *testing.T) {
	for _, p := range somePlans {
		last := p.Small + p.Large
		for _, way := range orders(p) {
			for _, no := range []int64{last + 1, last + 2, 251, 255, 256, 256 + way[0], 32768, 65534, 65535} {
				for _, r := range walkRoots {
					for _, n := range []int{0, 1, len(way) / 2, len(way)} {
						y := zeroYard(p)
						y.hang(r.root, way[:n], no)
						y.setRoot(rootTail, way[0])
						wantBroken(t, fmt.Sprintf("root %d, block %d behind %d blocks of %+v", r.root, no, n, p), y, r.names...)
					}
				}
			}
		}
	}
}

// A queue's tail may not be what the walk is broken at.
func TestQueueWhoseTailIsNoBlock(t *testing.T) {
	for _, p := range somePlans {
		last := p.Small + p.Large
		for _, no := range []int64{0, last + 1, last + 2, 256, 257, 65535} {
			for _, n := range []int64{1, last} {
				y := zeroYard(p)
				y.hang(rootHead, rising(1, n), 0)
				y.setRoot(rootTail, no)
				wantBroken(t, fmt.Sprintf("tail %d of %d nodes of %+v", no, n, p), y, "LineNodes", "LineOf")
				y.hang(rootHead, rising(1, n), no)
				if no != 0 {
					wantBroken(t, fmt.Sprintf("tail and end %d of %d nodes of %+v", no, n, p), y, "LineNodes", "LineOf")
				}
			}
		}
	}
}

// Back to itself, to the first one, and to each between; from the last block of the walk, with blocks behind its end and without.
func TestWalksToABlockMetBefore(t *testing.T) {
	for _, p := range somePlans {
		for _, way := range orders(p) {
			for _, n := range []int{1, 2, 3, len(way) / 2, len(way)} {
				if n < 1 || n > len(way) {
					continue
				}
				backs := []int64{way[0], way[n/2], way[n-1], way[max(0, n-2)], way[min(1, n-1)]}
				for _, back := range backs {
					for _, r := range walkRoots {
						y := zeroYard(p)
						y.hang(r.root, way[:n], back)
						y.setRoot(rootTail, way[0])
						what := fmt.Sprintf("root %d, from %d back to %d of %+v", r.root, way[n-1], back, p)
						wantBroken(t, what, y, r.names...)
						if r.root == rootHead {
							y.setRoot(rootTail, back)
							wantBroken(t, what+", the tail", y, r.names...)
						}
					}
				}
			}
		}
	}
}

// A queue that comes to no block at all, whatever its tail.
func TestQueueOfNoNode(t *testing.T) {
	for _, p := range somePlans {
		for _, tail := range []int64{0, 1, p.Small + p.Large, p.Small + p.Large + 1, 65535} {
			for _, rest := range []uint64{0, wordOf(255, 255, 0, topSeq)} {
				y := yardOf(p, impl.Blank(p))
				y.setRoot(rootTail, tail)
				y.words[y.rootPlace(rootTail)] |= rest
				y.words[y.rootPlace(rootHead)] = rest
				wantBroken(t, fmt.Sprintf("no node, tail %d of %+v", tail, p), y, "LineNodes", "LineOf")
			}
		}
	}
}

// The tail is each node of the queue, and each block that is none of them.
func TestQueueAndItsTail(t *testing.T) {
	for _, p := range somePlans {
		for _, way := range orders(p) {
			for _, n := range []int{1, 2, 3, len(way) - 1, len(way)} {
				if n < 1 || n > len(way) {
					continue
				}
				y := zeroYard(p)
				y.hang(rootHead, way[:n], 0)
				for _, block := range way {
					y.setValue(block, 1000+block)
				}
				wantTails(t, y, way, n)
			}
		}
	}
}

func wantTails(t *testing.T, y yard, way []int64, n int) {
	t.Helper()
	var values []int64
	for _, block := range way[1:n] {
		values = append(values, 1000+block)
	}
	for i, tail := range way {
		y.setRoot(rootTail, tail)
		l := lend(y.words)
		what := fmt.Sprintf("tail %d of the queue %v of %+v", tail, way[:n], y.p)
		if i < n {
			wantWalk(t, what, impl.LineNodes, y.p, l, way[:n], true)
			wantWalk(t, what, impl.LineOf, y.p, l, values, true)
		} else {
			wantWalk(t, what, impl.LineNodes, y.p, l, nil, false)
			wantWalk(t, what, impl.LineOf, y.p, l, nil, false)
		}
	}
}

// A queue that is broken behind its tail is broken.
func TestQueueBrokenBehindItsTail(t *testing.T) {
	for _, end := range []int64{4, 5, 8, 65535} {
		y := zeroYard(usualPlan)
		y.hang(rootHead, []int64{4, 2, 5}, end)
		for _, tail := range []int64{4, 2, 5} {
			y.setRoot(rootTail, tail)
			wantBroken(t, fmt.Sprintf("tail %d, end %d", tail, end), y, "LineNodes", "LineOf")
		}
	}
}

// Kind, Pid and Seq beside the Index tell nothing: of roots, links, values and cells, the last ones, whose Index is 0, too.
func TestOnlyIndexesAreWalked(t *testing.T) {
	for _, p := range somePlans {
		for _, way := range orders(p) {
			half := len(way) / 2
			y := zeroYard(p)
			y.hang(rootTop, way[:half], 0)
			y.hang(rootHead, way[half:], 0)
			y.setRoot(rootTail, way[len(way)-1])
			y.setRoot(rootSmall, way[half/2])
			y.setRoot(rootLarge, way[len(way)-1])
			for _, block := range way {
				y.setValue(block, block*3)
			}
			for cell := range int(p.Cells) {
				y.setRoot(rootCell+cell, int64(cell*7))
			}
			for _, rest := range []uint64{wordOf(1, 0, 0, 0), wordOf(0, 1, 0, 0), wordOf(0, 0, 0, 1), wordOf(255, 255, 0, topSeq), wordOf(2, 3, 0, 1<<31)} {
				z := yardOf(p, y.words)
				for at := range z.words {
					z.words[at] |= rest
				}
				wantYard(t, fmt.Sprintf("%#x beside, %+v", rest, p), z)
				l := lend(z.words)
				wantWalk(t, "StackNodes", impl.StackNodes, p, l, way[:half], true)
				wantWalk(t, "LineNodes", impl.LineNodes, p, l, way[half:], true)
				wantWalk(t, "StackOf", impl.StackOf, p, l, y.values(way[:half]), true)
				wantWalk(t, "LineOf", impl.LineOf, p, l, y.values(way[half+1:]), true)
				wantWalk(t, "FreeIn of 1", freeOf(1), p, l, way[len(way)-1:], true)
				wantWalk(t, "CellsOf", cellsOf, p, l, y.cells(), true)
			}
		}
	}
}

// Nothing but roots, links and first values is looked at: every other word may be any.
func TestOtherWordsDoNotMatter(t *testing.T) {
	for _, p := range somePlans {
		way := orders(p)[2]
		half := len(way) / 2
		for seed := range uint64(4) {
			y := yardOf(p, mixedWords(len(laidOut(p)), seed))
			y.hang(rootTop, way[:half], 0)
			y.hang(rootHead, way[half:], 0)
			y.setRoot(rootTail, way[half])
			y.setRoot(rootSmall, way[len(way)-1])
			y.setRoot(rootLarge, 0)
			for _, block := range way {
				y.setValue(block, 65535-block)
			}
			for cell := range int(p.Cells) {
				y.setRoot(rootCell+cell, int64(65535-cell))
			}
			l := lend(y.words)
			wantWalk(t, "StackNodes", impl.StackNodes, p, l, way[:half], true)
			wantWalk(t, "LineNodes", impl.LineNodes, p, l, way[half:], true)
			wantWalk(t, "FreeIn of 0", freeOf(0), p, l, way[len(way)-1:], true)
			wantWalk(t, "FreeIn of 1", freeOf(1), p, l, nil, true)
			wantYard(t, fmt.Sprintf("any words of %+v", p), y)
		}
	}
}

// What class or head a block has doesn't matter, nor that another walk comes to it as well.
func TestWalksOverAnyBlocks(t *testing.T) {
	y := zeroYard(usualPlan)
	way := []int64{7, 1, 5, 6}
	y.hang(rootSmall, way, 0)
	for _, root := range []int{rootLarge, rootTop, rootHead, rootTail} {
		y.setRoot(root, 7)
	}
	for kind := range int64(5) {
		for _, block := range way {
			y.words[y.heads[block-1]] = wordOf(kind, 1, block, 9)
		}
		l := lend(y.words)
		for _, c := range walkCalls[:4] {
			wantWalk(t, c.name, c.ask, usualPlan, l, way, true)
		}
		wantYard(t, fmt.Sprintf("heads of kind %d", kind), y)
	}
}

// A broken walk breaks no other one.
func TestEachWalkIsBrokenAlone(t *testing.T) {
	for _, p := range somePlans {
		for _, r := range walkRoots {
			y := yardOf(p, impl.Blank(p))
			y.setRoot(r.root, p.Small+p.Large+1)
			for _, c := range walkCalls {
				if _, is := c.ask(p, y.words); is == slices.Contains(r.names, c.name) {
					t.Errorf("root %d of %+v leads to no block: %s is %v", r.root, p, c.name, is)
				}
			}
			wantYard(t, "one broken walk", y)
		}
	}
}

// The least and the greatest value; the second and the third one of a large block are another's.
func TestFirstValues(t *testing.T) {
	y := zeroYard(usualPlan)
	y.hang(rootTop, []int64{2, 6}, 0)
	y.hang(rootHead, []int64{3, 7, 1}, 0)
	y.setRoot(rootTail, 1)
	for at := range y.words {
		if r := laidOut(usualPlan)[at]; r.Kind == 4 && r.Field > 2 {
			y.words[at] = wordOf(0, 0, 4444, 0)
		}
	}
	for _, v := range []int64{0, 1, 255, 256, 65534, 65535} {
		for _, block := range []int64{1, 2, 3} {
			y.setValue(block, 11*block)
		}
		y.setValue(6, v)
		y.setValue(7, v)
		l := lend(y.words)
		wantWalk(t, "StackOf", impl.StackOf, usualPlan, l, []int64{22, v}, true)
		wantWalk(t, "LineOf", impl.LineOf, usualPlan, l, []int64{v, 11}, true)
	}
}

func TestCells(t *testing.T) {
	for _, p := range somePlans {
		for _, least := range []int64{0, 1, 65535 - p.Cells + 1} {
			for _, rest := range []uint64{0, wordOf(255, 255, 0, topSeq)} {
				y := yardOf(p, impl.Blank(p))
				for cell := range int(p.Cells) {
					y.setRoot(rootCell+cell, least+int64(cell))
					y.words[y.rootPlace(rootCell+cell)] |= rest
				}
				wantWalk(t, fmt.Sprintf("CellsOf of %+v", p), cellsOf, p, lend(y.words), rising(least, least+p.Cells-1), true)
			}
		}
	}
}

// Cells are told where every walk is broken, too.
func TestCellsOfBrokenWalks(t *testing.T) {
	y := yardOf(usualPlan, slices.Repeat([]uint64{math.MaxUint64}, len(laidOut(usualPlan))))
	wantWalk(t, "CellsOf", cellsOf, usualPlan, lend(y.words), []int64{65535, 65535}, true)
	wantBroken(t, "ones", y, "FreeIn of 0", "FreeIn of 1", "StackNodes", "LineNodes", "StackOf", "LineOf")
}

// Roots stand in the order of the classes; those behind, whole walks as well, are of none.
func TestNoSuchClass(t *testing.T) {
	classes := append([]int64{-1, 2, 3, 4, 5, 6, 7, 255, 256, 257, 1 << 16, 1<<32 | 1, math.MinInt64 | 1}, nowhere...)
	for _, p := range somePlans {
		for name, a := range map[string][]uint64{"blank": impl.Blank(p), "zeros": make([]uint64, len(laidOut(p)))} {
			l := lend(a)
			for _, class := range classes {
				wantWalk(t, fmt.Sprintf("FreeIn of %d, %s", class, name), freeOf(class), p, l, nil, false)
			}
		}
	}
}

func wantNoWalks(t *testing.T, what string, p impl.Plan, a []uint64) {
	t.Helper()
	l := lend(a)
	for _, c := range walkCalls {
		wantWalk(t, what+": "+c.name, c.ask, p, l, nil, false)
	}
	for _, class := range []int64{-1, 2} {
		wantWalk(t, what+": FreeIn", freeOf(class), p, l, nil, false)
	}
}

// A blank arena, cut short or with words behind it, and words that are all 0: of these every walk but the queue's would be whole.
func TestNoWalksOfWhatIsNoArena(t *testing.T) {
	for _, p := range somePlans {
		n := len(laidOut(p))
		long := append(impl.Blank(p), make([]uint64, n)...)
		for _, length := range []int{0, 1, n / 2, n - 2, n - 1, n + 1, n + 2, 2 * n} {
			what := fmt.Sprintf("%d words for %+v", length, p)
			wantNoWalks(t, what, p, long[:length])
			wantNoWalks(t, what, p, make([]uint64, length))
		}
		wantNoWalks(t, "without the first word", p, long[1:n])
		for _, c := range walkCalls {
			if got, is := c.ask(p, nil); len(got) != 0 || is {
				t.Fatalf("%s of %+v and nil is %v, %v", c.name, p, got, is)
			}
		}
	}
}

// An arena of another plan is none of this one; one of a plan that differs in Keep alone is.
func TestWalksOfAnotherPlan(t *testing.T) {
	for _, p := range somePlans {
		a := impl.Blank(p)
		for _, q := range somePlans {
			if len(laidOut(q)) != len(a) {
				wantNoWalks(t, fmt.Sprintf("an arena of %+v for %+v", p, q), q, a)
			}
		}
		other := p
		other.Keep = 33 - p.Keep
		wantBlankWalks(t, other)
		wantYard(t, "another Keep", yardOf(other, a))
	}
}

func TestNoWalksOfWrongPlans(t *testing.T) {
	lists := [][]uint64{nil, make([]uint64, 1)}
	for _, p := range usualPlans {
		lists = append(lists, impl.Blank(p), make([]uint64, len(laidOut(p))))
	}
	eachWrongPlan(func(name string, p impl.Plan) {
		what := fmt.Sprintf("%s: %+v", name, p)
		for _, a := range lists {
			wantNoWalks(t, what, p, a)
		}
		if p.Procs >= 0 && p.Procs <= 70 && p.Small >= 0 && p.Small <= 210 && p.Large >= 0 && p.Large <= 60 && p.Cells >= 0 && p.Cells <= 10 {
			a := make([]uint64, len(laidOut(p)))
			wantNoWalks(t, what, p, a)
			// A queue of block 1, where the roots would lie if the plan were right.
			if head := 7*p.Procs + p.Procs*p.Procs + rootHead; head+1 < int64(len(a)) {
				a[head], a[head+1] = 1<<32, 1<<32
				wantNoWalks(t, what, p, a)
			}
		}
	})
}
