package tests

import (
	"fmt"
	"math"
	"slices"
	"testing"

	"loop.example/g00650/impl"
)

// The kinds are written out here, so that a changed constant is seen.
const (
	kindFree    = 0
	kindHeld    = 1
	kindNode    = 2
	kindRetired = 3
)

func wordOf(kind, pid, index, seq int64) uint64 {
	return uint64(kind)<<56 | uint64(pid)<<48 | uint64(index)<<32 | uint64(seq)
}

// headPlaces has, at block less 1, where that block's head lies; guardPlaces has where a slot's two guards lie.
func headPlaces(p impl.Plan) []int {
	at := make([]int, p.Small+p.Large)
	next := int(7*p.Procs + p.Procs*p.Procs + 5 + p.Cells)
	for i := range at {
		at[i] = next
		next += 3
		if int64(i) >= p.Small {
			next += 2
		}
	}
	return at
}

// The heads are asked for so often that they are not looked for in the whole order; they must lie there all the same.
func TestHeadPlacesAreThoseLaidOut(t *testing.T) {
	eachRightPlan(func(p impl.Plan) {
		heads := headPlaces(p)
		for at, r := range laidOut(p) {
			if r.Kind == 4 && r.Field == 0 && heads[r.Item-1] != at {
				t.Fatalf("the head of block %d of %+v is taken to lie at %d, not at %d", r.Item, p, heads[r.Item-1], at)
			}
		}
	})
}

func guardPlaces(slot int64) [2]int { return [2]int{int(slot)*7 + 5, int(slot)*7 + 6} }

func withHeads(p impl.Plan, head func(block int64) uint64) []uint64 {
	a := impl.Blank(p)
	for i, at := range headPlaces(p) {
		a[at] = head(int64(i) + 1)
	}
	return a
}

func blocksWith(p impl.Plan, a []uint64, kind, pid int64) []int64 {
	var out []int64
	for i, at := range headPlaces(p) {
		if int64(a[at]>>56) == kind && int64(a[at]>>48&255) == pid {
			out = append(out, int64(i)+1)
		}
	}
	return out
}

func guardsIn(p impl.Plan, a []uint64, slot int64) []int64 {
	var out []int64
	if slot < 0 || slot >= p.Procs {
		return nil
	}
	for _, at := range guardPlaces(slot) {
		if index := int64(a[at] >> 32 & 65535); index != 0 {
			out = append(out, index)
		}
	}
	return out
}

func allBlocks(p impl.Plan) []int64 {
	var out []int64
	for b := range p.Small + p.Large {
		out = append(out, b+1)
	}
	return out
}

// someArenas have heads of all kinds by slots and by others, and guards of blocks, of none and of what is no block.
func someArenas(p impl.Plan) map[string][]uint64 {
	n := len(laidOut(p))
	all := map[string][]uint64{
		"blank":   impl.Blank(p),
		"zeros":   make([]uint64, n),
		"ones":    slices.Repeat([]uint64{math.MaxUint64}, n),
		"any":     mixedWords(n, 0x1357),
		"any too": mixedWords(n, 0x2468),
	}
	blocks := uint64(p.Small + p.Large)
	for i, pids := range []uint64{1, uint64(p.Procs), uint64(p.Procs) + 2, 256} {
		a := mixedWords(n, uint64(i))
		for at, x := range a {
			a[at] = wordOf(int64(x%5), int64(x>>8%pids), int64(x>>20%(blocks+2)), int64(x>>32))
		}
		all[fmt.Sprintf("%d Pids", pids)] = a
	}
	return all
}

func eachArena(f func(name string, p impl.Plan, a []uint64)) {
	for _, p := range usualPlans {
		for name, a := range someArenas(p) {
			f(fmt.Sprintf("%s of %+v", name, p), p, a)
		}
	}
}

// notPids are numbers that no head bears, though their low bits may be alike.
var notPids = append([]int64{256, 257, 511, 512, -255, -256, 1<<32 | 1, 1<<56 | 1}, nowhere...)

type listCall func(p impl.Plan, a []uint64, slot int64) []int64

var byHead = []struct {
	name string
	kind int64
	ask  listCall
}{
	{"HeldBy", kindHeld, impl.HeldBy},
	{"RetiredBy", kindRetired, impl.RetiredBy},
}

// wantBlocks asks twice, writes all over the first answer, its spare room too, and asks again: the others, and what was lent, stay.
func wantBlocks(t *testing.T, what string, ask listCall, p impl.Plan, l lent, slot int64, want []int64) {
	t.Helper()
	first, second := ask(p, l.list, slot), ask(p, l.list, slot)
	if !slices.Equal(first, want) {
		t.Fatalf("%s of %d is %v, not %v", what, slot, first, want)
	}
	rest := slices.Clone(second[:cap(second)])
	room := first[:cap(first)]
	for i := range room {
		room[i] = -9
	}
	l.wantStays(t, what+", its answer written over")
	if !slices.Equal(second, want) || !slices.Equal(second[:cap(second)], rest) {
		t.Fatalf("%s of %d: two answers share memory", what, slot)
	}
	if again := ask(p, l.list, slot); !slices.Equal(again, want) {
		t.Fatalf("%s of %d is %v, not %v, after an answer was written over", what, slot, again, want)
	}
}

func TestKindsOfHeads(t *testing.T) {
	got := [4]int64{impl.BkFree, impl.BkHeld, impl.BkNode, impl.BkRetired}
	if got != [4]int64{kindFree, kindHeld, kindNode, kindRetired} {
		t.Fatal(got)
	}
}

// Places that were counted by hand: heads at 37, 40, 43, 46, 49 (small) and 52, 57 (large); guards at 5, 6, 12, 13, 19, 20.
func TestHeadsOfTheUsualPlan(t *testing.T) {
	a := make([]uint64, 62)
	a[37] = 1<<56 | 2<<48
	a[40] = 3<<56 | 2<<48
	a[43] = 1 << 56
	a[46] = 2<<56 | 2<<48
	a[49] = 1<<56 | 2<<48 | 9<<32 | 8
	a[52] = 3<<56 | 2<<48 | 7
	a[57] = 1<<56 | 2<<48 | 65535<<32
	a[6] = 4 << 32
	a[19], a[20] = 7<<32, 1<<56|1<<48|2<<32|1
	l := lend(a)
	for _, c := range []struct {
		name string
		ask  listCall
		want [4][]int64
	}{
		{"HeldBy", impl.HeldBy, [4][]int64{{3}, {}, {1, 5, 7}, {}}},
		{"RetiredBy", impl.RetiredBy, [4][]int64{{}, {}, {2, 6}, {}}},
		{"GuardsOf", impl.GuardsOf, [4][]int64{{4}, {}, {7, 2}, {}}},
	} {
		for slot, want := range c.want {
			wantBlocks(t, c.name, c.ask, usualPlan, l, int64(slot), want)
		}
	}
	want := []bool{false, false, true, false, true, false, false, true, false}
	for block, is := range want {
		if got := impl.Guarded(usualPlan, l.list, int64(block)); got != is {
			t.Errorf("Guarded(%d) is %v", block, got)
		}
	}
	l.wantStays(t, "Guarded")
}

// Promise 4: whoever is asked, a slot or another number, a block is told of one at most; of one where its head says so.
func TestABlockIsHeldByOneAtMost(t *testing.T) {
	eachArena(func(name string, p impl.Plan, a []uint64) {
		l := lend(a)
		told := map[int64]int{}
		for _, c := range byHead {
			by := map[int64]int64{}
			for pid := int64(-300); pid <= 600; pid++ {
				list := c.ask(p, l.list, pid)
				for i, block := range list {
					if i > 0 && list[i-1] >= block {
						t.Fatalf("%s: %s(%d) is %v, which does not rise", name, c.name, pid, list)
					}
					if was, ok := by[block]; ok {
						t.Fatalf("%s: %s tells block %d of %d and of %d", name, c.name, block, was, pid)
					}
					by[block] = pid
					told[block]++
				}
			}
			for i, at := range headPlaces(p) {
				pid, is := by[int64(i)+1]
				if is != (int64(a[at]>>56) == c.kind) || is && pid != int64(a[at]>>48&255) {
					t.Fatalf("%s: %s tells block %d of %d (%v), its head is %#x", name, c.name, i+1, pid, is, a[at])
				}
			}
		}
		for block, n := range told {
			if n > 1 {
				t.Fatalf("%s: block %d is held and retired", name, block)
			}
			if block < 1 || block > p.Small+p.Large {
				t.Fatalf("%s: %d is no block", name, block)
			}
		}
		l.wantStays(t, name)
	})
}

func TestBlocksByEveryPid(t *testing.T) {
	eachArena(func(name string, p impl.Plan, a []uint64) {
		l := lend(a)
		for _, c := range byHead {
			for pid := int64(0); pid <= 255; pid++ {
				wantBlocks(t, name+": "+c.name, c.ask, p, l, pid, blocksWith(p, a, c.kind, pid))
			}
			for _, pid := range notPids {
				wantBlocks(t, name+": "+c.name, c.ask, p, l, pid, nil)
			}
		}
	})
}

// A Pid of 0 and of 255 have the low bits of 256 and of -1.
func TestNoHeadBearsWhatIsNoPid(t *testing.T) {
	for _, p := range usualPlans {
		for _, c := range byHead {
			for _, pid := range []int64{0, 1, p.Procs - 1, p.Procs, 254, 255} {
				l := lend(withHeads(p, func(int64) uint64 { return wordOf(c.kind, pid, 1, 1) }))
				wantBlocks(t, c.name, c.ask, p, l, pid, allBlocks(p))
				for _, not := range append([]int64{pid + 256, pid - 256, pid | c.kind<<8, pid | 1<<16, pid | math.MinInt64}, notPids...) {
					wantBlocks(t, c.name, c.ask, p, l, not, nil)
				}
			}
		}
	}
}

func TestNoneAndAllHeld(t *testing.T) {
	for _, p := range usualPlans {
		for _, c := range byHead {
			for _, slot := range []int64{0, p.Procs - 1, p.Procs, 255} {
				wantBlocks(t, c.name+", blank", c.ask, p, lend(impl.Blank(p)), slot, nil)
				all := lend(withHeads(p, func(int64) uint64 { return wordOf(c.kind, slot, 0, 0) }))
				wantBlocks(t, c.name+", all", c.ask, p, all, slot, allBlocks(p))
				wantBlocks(t, c.name+", all another's", c.ask, p, all, (slot+1)%256, nil)
			}
		}
	}
}

// The first one, the last one and each between: it alone, and all but it.
func TestOneBlockAndAllButOne(t *testing.T) {
	for _, p := range usualPlans {
		for _, c := range byHead {
			slot := p.Procs - 1
			for _, block := range allBlocks(p) {
				one := withHeads(p, func(b int64) uint64 {
					if b == block {
						return wordOf(c.kind, slot, 0, 0)
					}
					return 0
				})
				wantBlocks(t, c.name, c.ask, p, lend(one), slot, []int64{block})
				rest := withHeads(p, func(b int64) uint64 {
					if b == block {
						return 0
					}
					return wordOf(c.kind, slot, 0, 0)
				})
				others := slices.DeleteFunc(allBlocks(p), func(b int64) bool { return b == block })
				wantBlocks(t, c.name, c.ask, p, lend(rest), slot, others)
			}
		}
	}
}

func TestEachKindOfHead(t *testing.T) {
	for _, p := range usualPlans {
		for kind := int64(0); kind <= 255; kind++ {
			for _, pid := range []int64{0, p.Procs - 1, 255} {
				l := lend(withHeads(p, func(int64) uint64 { return wordOf(kind, pid, 0, 0) }))
				for _, c := range byHead {
					var want []int64
					if kind == c.kind {
						want = allBlocks(p)
					}
					wantBlocks(t, fmt.Sprintf("%s, heads of kind %d", c.name, kind), c.ask, p, l, pid, want)
				}
			}
		}
	}
}

func TestIndexAndSeqOfAHeadDoNotMatter(t *testing.T) {
	for _, p := range usualPlans {
		for _, c := range byHead {
			for _, index := range rightIndexes {
				for _, seq := range rightSeqs {
					l := lend(withHeads(p, func(b int64) uint64 { return wordOf(c.kind, b%3, index, seq) }))
					for pid := range int64(4) {
						wantBlocks(t, c.name, c.ask, p, l, pid, blocksWith(p, l.list, c.kind, pid))
					}
				}
			}
		}
	}
}

// Every word but the heads is as a head of that slot would be.
func TestOnlyHeadsTellWhoseABlockIs(t *testing.T) {
	for _, p := range usualPlans {
		for _, c := range byHead {
			a := slices.Repeat([]uint64{wordOf(c.kind, 0, 1, 1)}, len(laidOut(p)))
			for _, at := range headPlaces(p) {
				a[at] = 0
			}
			l := lend(a)
			wantBlocks(t, c.name, c.ask, p, l, 0, nil)
			last := headPlaces(p)[p.Small+p.Large-1]
			l.list[last], l.was[lentAhead+last] = a[0], a[0]
			wantBlocks(t, c.name, c.ask, p, l, 0, []int64{p.Small + p.Large})
		}
	}
}

func wantGuards(t *testing.T, what string, p impl.Plan, a []uint64) {
	t.Helper()
	l := lend(a)
	guarded := map[int64]bool{}
	for slot := range p.Procs {
		want := guardsIn(p, a, slot)
		wantBlocks(t, what+": GuardsOf", impl.GuardsOf, p, l, slot, want)
		for _, index := range want {
			guarded[index] = true
		}
	}
	for block := int64(-1); block <= p.Small+p.Large+2; block++ {
		want := guarded[block] && block >= 1 && block <= p.Small+p.Large
		if got := impl.Guarded(p, l.list, block); got != want {
			t.Fatalf("%s: Guarded(%d) is %v", what, block, got)
		}
	}
	l.wantStays(t, what)
}

func TestGuardsOfEveryArena(t *testing.T) {
	eachArena(func(name string, p impl.Plan, a []uint64) { wantGuards(t, name, p, a) })
}

// A slot, the first one, the last one and one between, with both guards, one, none, both alike; the other slots have none.
func TestGuardsOfOneSlot(t *testing.T) {
	for _, p := range usualPlans {
		last := p.Small + p.Large
		for _, slot := range []int64{0, p.Procs / 2, p.Procs - 1} {
			for _, c := range [][2]int64{
				{0, 0}, {1, 0}, {0, 1}, {1, 1}, {last, 0}, {0, last}, {last, last}, {1, last}, {last, 1},
				{last + 1, 0}, {0, last + 1}, {1, last + 1}, {last + 1, last + 1}, {65535, 65534}, {256, 257}, {65535, 1},
			} {
				for _, rest := range []uint64{0, wordOf(255, 255, 0, topSeq)} {
					a := impl.Blank(p)
					for i, at := range guardPlaces(slot) {
						a[at] = wordOf(0, 0, c[i], 0) | rest
					}
					wantGuards(t, fmt.Sprintf("slot %d guards %v of %+v", slot, c, p), p, a)
				}
			}
		}
	}
}

func TestGuardsInTheirOrder(t *testing.T) {
	a := impl.Blank(usualPlan)
	a[5], a[6] = 6<<32, 2<<32
	a[12], a[13] = 2<<32, 6<<32
	a[19], a[20] = 3<<32, 3<<32
	l := lend(a)
	for slot, want := range [][]int64{{6, 2}, {2, 6}, {3, 3}} {
		wantBlocks(t, "GuardsOf", impl.GuardsOf, usualPlan, l, int64(slot), want)
	}
}

// Each block, guarded by one slot alone, by its first guard or by its second.
func TestGuardedByOneSlotAlone(t *testing.T) {
	for _, p := range usualPlans {
		for _, block := range allBlocks(p) {
			for _, slot := range []int64{0, p.Procs - 1} {
				for _, at := range guardPlaces(slot) {
					a := impl.Blank(p)
					a[at] = wordOf(0, 0, block, 0)
					l := lend(a)
					for _, other := range []int64{block - 1, block, block + 1, 1, p.Small + p.Large} {
						if got := impl.Guarded(p, l.list, other); got != (other == block) {
							t.Fatalf("%+v: slot %d guards %d: Guarded(%d) is %v", p, slot, block, other, got)
						}
					}
					l.wantStays(t, "Guarded")
				}
			}
		}
	}
}

// A guard is told by its Index alone: a block number in its Pid, its Seq or its Kind guards nothing.
func TestOnlyTheIndexGuards(t *testing.T) {
	for _, p := range usualPlans {
		for _, x := range []uint64{wordOf(1, 0, 0, 0), wordOf(0, 1, 0, 0), wordOf(0, 0, 0, 1), wordOf(1, 1, 0, 1), wordOf(255, 255, 0, topSeq)} {
			a := impl.Blank(p)
			for slot := range p.Procs {
				for _, at := range guardPlaces(slot) {
					a[at] = x
				}
			}
			wantGuards(t, fmt.Sprintf("guards %#x", x), p, a)
		}
	}
}

// Every word but the guards names each block in turn.
func TestOnlyGuardsGuard(t *testing.T) {
	for _, p := range usualPlans {
		for _, block := range allBlocks(p) {
			a := slices.Repeat([]uint64{wordOf(1, 0, block, 1)}, len(laidOut(p)))
			for slot := range p.Procs {
				for _, at := range guardPlaces(slot) {
					a[at] = 0
				}
			}
			l := lend(a)
			if impl.Guarded(p, l.list, block) {
				t.Fatalf("%+v: block %d is guarded", p, block)
			}
			for _, slot := range []int64{0, p.Procs - 1} {
				wantBlocks(t, "GuardsOf", impl.GuardsOf, p, l, slot, nil)
			}
		}
	}
}

func TestWhatIsNoBlockIsNotGuarded(t *testing.T) {
	eachArena(func(name string, p impl.Plan, a []uint64) {
		last := p.Small + p.Large
		l := lend(a)
		for _, block := range append([]int64{0, last + 1, last + 2, 255, 256, 65535, 65536, 1<<16 | 1, 1<<32 | 1, math.MinInt64 | 1}, nowhere...) {
			if block >= 1 && block <= last {
				continue
			}
			if impl.Guarded(p, l.list, block) {
				t.Fatalf("%s: Guarded(%d)", name, block)
			}
			// Also where a guard has the low bits of that number.
			b := slices.Clone(a)
			b[5], b[6] = wordOf(0, 0, block&65535, 0), wordOf(0, 0, block&65535, 0)
			if impl.Guarded(p, b, block) {
				t.Fatalf("%s, guarded: Guarded(%d)", name, block)
			}
		}
		l.wantStays(t, name)
	})
}

func TestWhatIsNoSlotGuardsNothing(t *testing.T) {
	eachArena(func(name string, p impl.Plan, a []uint64) {
		l := lend(a)
		for _, slot := range append([]int64{p.Procs, p.Procs + 1, 64, 65, 255}, notPids...) {
			wantBlocks(t, name+": GuardsOf", impl.GuardsOf, p, l, slot, nil)
		}
	})
}

// wantNothing asks for slots and blocks that would be told of every word of the list, if it were an arena.
func wantNothing(t *testing.T, what string, p impl.Plan, a []uint64) {
	t.Helper()
	l := lend(a)
	numbers := []int64{0, 1, 2, 63, 255, -1, 256, p.Procs, p.Procs - 1, p.Small + p.Large, math.MaxInt64, math.MinInt64}
	for _, n := range numbers {
		for _, c := range byHead {
			wantBlocks(t, what+": "+c.name, c.ask, p, l, n, nil)
		}
		wantBlocks(t, what+": GuardsOf", impl.GuardsOf, p, l, n, nil)
		if impl.Guarded(p, l.list, n) {
			t.Fatalf("%s: Guarded(%d)", what, n)
		}
	}
	l.wantStays(t, what)
}

// The head of a block that slot 0 has, or has retired, and a guard of block 1, whatever place it stands at.
var tellingWords = []uint64{1<<56 | 1<<32, 3<<56 | 1<<32}

func TestNothingOfWhatIsNoArena(t *testing.T) {
	for _, p := range usualPlans {
		n := len(laidOut(p))
		for _, length := range []int{0, 1, n / 2, n - 2, n - 1, n + 1, n + 2, 2 * n} {
			for _, x := range tellingWords {
				wantNothing(t, fmt.Sprintf("%d words for %+v", length, p), p, slices.Repeat([]uint64{x}, length))
			}
		}
		if len(impl.HeldBy(p, nil, 0))+len(impl.RetiredBy(p, nil, 0))+len(impl.GuardsOf(p, nil, 0)) != 0 || impl.Guarded(p, nil, 1) {
			t.Fatalf("nil tells something of %+v", p)
		}
	}
}

// An arena of another plan is none of this one, be it as like as it may; one of a plan that differs in Keep alone is.
func TestArenaOfAnotherPlan(t *testing.T) {
	for _, x := range tellingWords {
		for _, p := range usualPlans {
			a := slices.Repeat([]uint64{x}, len(laidOut(p)))
			for _, q := range usualPlans {
				if p != q {
					wantNothing(t, fmt.Sprintf("an arena of %+v for %+v", p, q), q, a)
				}
			}
			other := p
			other.Keep = 33 - p.Keep
			for _, c := range byHead {
				wantBlocks(t, c.name, c.ask, other, lend(a), 0, blocksWith(p, a, c.kind, 0))
			}
		}
	}
}

func TestNothingOfWrongPlans(t *testing.T) {
	lists := [][]uint64{nil}
	for _, p := range usualPlans {
		lists = append(lists, slices.Repeat(tellingWords[:1], len(laidOut(p))))
	}
	eachWrongPlan(func(name string, p impl.Plan) {
		for _, a := range lists {
			wantNothing(t, fmt.Sprintf("%s: %+v", name, p), p, a)
		}
		if p.Procs >= 0 && p.Procs <= 70 && p.Small >= 0 && p.Small <= 210 && p.Large >= 0 && p.Large <= 60 && p.Cells >= 0 && p.Cells <= 10 {
			for _, x := range tellingWords {
				wantNothing(t, fmt.Sprintf("%s: %+v", name, p), p, slices.Repeat([]uint64{x}, len(laidOut(p))))
			}
		}
	})
}
