package tests

import (
	"fmt"
	"math"
	"slices"
	"testing"

	"loop.example/g00650/impl"
)

// A chapter is one of those that do the next thing of a hand. What they have in common is asked of all of them here.
type chapter struct {
	name        string
	first, last int64
	step        func(p impl.Plan, a []uint64, me int64, h impl.Hand) (impl.Done, bool)
	// table is the document's, of a right Plan, an arena of it and a right hand that is Up and At one of the chapter's.
	table func(p impl.Plan, a []uint64, h impl.Hand) (impl.Done, bool)
	// hand is right, full of numbers, and may do its row over the arena.
	hand  func(p impl.Plan, at int64, seed uint64) impl.Hand
	arena func(p impl.Plan, h impl.Hand, seed uint64) []uint64
}

var (
	installing = chapter{"InstallStep", atOpen, atSwap, impl.InstallStep, stepByTable, doableHand, stepArena}
	pooling    = chapter{"PoolStep", atFree, atChain, impl.PoolStep, poolByTable, poolHand, poolArena}
	stacking   = chapter{"StackStep", atAim, atRetire, impl.StackStep, stackByTable, stackHand, stackArena}
	queueing   = chapter{"QueueStep", atClean, atPull, impl.QueueStep, queueByTable, queueHand, queueArena}
	celling    = chapter{"CellStep", atCell, atAsk, impl.CellStep, cellByTable, cellHand, cellArena}
	chapters   = []chapter{installing, pooling, stacking, queueing, celling}
)

func (c chapter) wantStep(t *testing.T, what string, p impl.Plan, a []uint64, me int64, h impl.Hand, want impl.Done, is bool) {
	t.Helper()
	l, was, of := lend(a), h, p
	for range 2 {
		got, gotIs := c.step(p, l.list, me, h)
		if gotIs != is {
			t.Fatalf("%s: %s(%+v, .., %d, %+v) is %v", what, c.name, p, me, h, gotIs)
		}
		if got.Hand != want.Hand || got.Deed != want.Deed {
			t.Fatalf("%s: %s(%+v, .., %d, %+v) has %+v, %+v, not %+v, %+v", what, c.name, p, me, h, got.Hand, got.Deed, want.Hand, want.Deed)
		}
		wantWords(t, what, want.Arena, got.Arena)
		l.wantNew(t, what, got.Arena)
	}
	if h != was || p != of {
		t.Fatalf("%s: %s changed its arguments", what, c.name)
	}
}

func wantWords(t *testing.T, what string, want, got []uint64) {
	t.Helper()
	if len(got) != len(want) {
		t.Fatalf("%s: the answer has %d words, not %d", what, len(got), len(want))
	}
	for at, x := range want {
		if got[at] != x {
			t.Fatalf("%s: at %d the answer has %#x, not %#x", what, at, got[at], x)
		}
	}
}

// wantTable tells whether the table has something done.
func (c chapter) wantTable(t *testing.T, what string, p impl.Plan, a []uint64, me int64, h impl.Hand) bool {
	t.Helper()
	want, is := c.table(p, a, h)
	c.wantStep(t, what, p, a, me, h, want, is)
	return is
}

func (c chapter) wantNone(t *testing.T, what string, p impl.Plan, a []uint64, me int64, h impl.Hand) {
	t.Helper()
	c.wantStep(t, what, p, a, me, h, impl.Done{}, false)
}

// wantZero looks at the answer alone, where very many are asked for.
func (c chapter) wantZero(t *testing.T, what string, p impl.Plan, a []uint64, me int64, h impl.Hand) {
	t.Helper()
	if d, is := c.step(p, a, me, h); is || !isZeroDone(d) {
		t.Fatalf("%s: %s(%+v, %d words, %d, %+v) is %v", what, c.name, p, len(a), me, h, is)
	}
}

func isZeroDone(d impl.Done) bool {
	return len(d.Arena) == 0 && d.Hand == (impl.Hand{}) && d.Deed == (impl.Deed{})
}

// roundsOf are fewer of a plan whose arena is long.
func roundsOf(p impl.Plan, most uint64) uint64 {
	return max(8, min(most, most*60/uint64(len(laidOut(p)))))
}

// eachRow gives each chapter with each of its rows.
func eachRow(f func(c chapter, at int64)) {
	for _, c := range chapters {
		for at := c.first; at <= c.last; at++ {
			f(c, at)
		}
	}
}

// blockHand may do most rows of a plan that has a block.
func blockHand(at int64) impl.Hand {
	return impl.Hand{Up: true, Life: 1, At: at, Code: impl.OpPush, A: 1, Block: 1}
}

// It is For whose words are written, whoever does it.
func TestForAnotherSlot(t *testing.T) {
	eachRow(func(c chapter, at int64) {
		for _, p := range []impl.Plan{usualPlan, noLarge, mostPlan} {
			for _, slot := range someSlots(p) {
				h := c.hand(p, at, uint64(at*7+slot))
				h.For = slot
				a := c.arena(p, h, uint64(slot)+1)
				for _, me := range someSlots(p) {
					if !c.wantTable(t, "for another", p, a, me, h) {
						t.Fatalf("%+v may not do its row", h)
					}
				}
			}
		}
	})
}

// One field at a time is another one: it is carried on, and changes what its row names and no more.
func TestFieldsOneAtATime(t *testing.T) {
	t.Parallel()
	p := usualPlan
	eachRow(func(c chapter, at int64) {
		for _, code := range []int64{impl.OpPush, impl.OpAlloc, impl.OpFree, impl.OpWrite, impl.OpScan, impl.OpAdopt} {
			h := impl.Hand{Up: true, Life: 2, At: at, Code: code, A: 1, Last: 4, Seen: wordOf(0, 1, 2, 3), Addr: 33, Block: 6}
			heldByNought := slices.Repeat([]uint64{wordOf(kindHeld, 0, 2, 3)}, 62)
			for _, a := range [][]uint64{impl.Blank(p), slices.Repeat([]uint64{h.Seen}, 62), make([]uint64, 62), mixedWords(62, 9), heldByNought} {
				eachOtherField(p, h, func(name string, one impl.Hand) { c.wantTable(t, name, p, a, 1, one) })
			}
		}
	})
}

// eachOtherField gives right hands that differ from h in one field, but not in At.
func eachOtherField(p impl.Plan, h impl.Hand, f func(name string, one impl.Hand)) {
	for _, n := range handNumbers {
		for _, v := range []int64{0, 1, 2, n.most(p) / 2, n.most(p) - 1, n.most(p)} {
			one := withNumber(h, n.name, v)
			if n.name != "At" && impl.HandOk(p, one) {
				f(n.name, one)
			}
		}
	}
	for _, name := range handWords {
		for _, x := range []uint64{0, 1, 1 << 32, 1 << 49, math.MaxUint64} {
			f(name, withWord(h, name, x))
		}
	}
	for _, name := range []string{"In", "Sure", "Known"} {
		f(name, withFlag(h, name, true))
	}
}

// Any right hands over any words: as the table has it, where something is done and where nothing is.
func TestMixedSteps(t *testing.T) {
	t.Parallel()
	for _, c := range chapters {
		done, not := 0, 0
		for _, p := range somePlans {
			for seed := range roundsOf(p, 2000) {
				h := mixedRightHand(p, seed*3+1)
				h.At = c.first + int64(seed)%(c.last-c.first+1)
				if c.wantTable(t, "mixed", p, c.arena(p, h, seed/8), int64(seed)%p.Procs, h) {
					done++
				} else {
					not++
				}
			}
			for name, a := range someArenas(p) {
				for _, h := range upHands(p) {
					for h.At = c.first; h.At <= c.last; h.At++ {
						c.wantTable(t, name, p, a, 0, h)
					}
				}
			}
		}
		if done < 1000 || not < 100 {
			t.Fatalf("%s: %d were done, %d were not", c.name, done, not)
		}
	}
}

// asManyWords is how long an arena of a plan would be if the plan's limits were not asked for.
func asManyWords(p impl.Plan) int {
	for _, l := range planLimits {
		if n := *l.at(&p); n < -100 || n > 300 {
			return 0
		}
	}
	return int(max(0, 7*p.Procs+p.Procs*p.Procs+5+p.Cells+3*p.Small+5*p.Large))
}

func TestNoStepOfWrongPlans(t *testing.T) {
	lengths := []int{0, len(laidOut(usualPlan))}
	eachWrongPlan(func(name string, p impl.Plan) {
		for _, n := range append(lengths, asManyWords(p)) {
			a := make([]uint64, n)
			eachRow(func(c chapter, at int64) { c.wantZero(t, name, p, a, 0, blockHand(at)) })
		}
	})
}

// The room behind a list that is too short has words as well: they are none of the arena's.
func TestNoStepOverWhatIsNoArena(t *testing.T) {
	for _, p := range somePlans {
		size := len(laidOut(p))
		lengths := []int{0, 1, size / 2, size - 1, size + 1, size + 2, size + 64, 2 * size}
		eachRow(func(c chapter, at int64) {
			for i, n := range lengths {
				h := c.hand(p, at, uint64(at)+uint64(i))
				h.Addr = 0
				c.wantNone(t, "no arena", p, mixedWords(n, uint64(n)), 0, h)
				c.wantNone(t, "no arena", p, slices.Repeat([]uint64{h.Seen}, n), 0, h)
			}
			h := c.hand(p, at, uint64(at))
			h.Addr = 0
			c.wantZero(t, "nil", p, nil, 0, h)
		})
	}
}

func TestNoStepOverAnotherPlansArena(t *testing.T) {
	for _, p := range somePlans {
		for _, other := range somePlans {
			if len(laidOut(p)) == len(laidOut(other)) {
				continue
			}
			eachRow(func(c chapter, at int64) { c.wantNone(t, "another plan's", p, impl.Blank(other), 0, blockHand(at)) })
		}
	}
}

func TestNoStepOfNoSlot(t *testing.T) {
	for _, p := range somePlans {
		eachRow(func(c chapter, at int64) {
			h := c.hand(p, at, uint64(at))
			a := c.arena(p, h, 1)
			for _, me := range append([]int64{-1, p.Procs, p.Procs + 1, -p.Procs, 255, 256}, nowhere...) {
				c.wantZero(t, "no slot", p, a, me, h)
			}
			c.wantTable(t, "a slot", p, a, 0, h)
			c.wantTable(t, "a slot", p, a, p.Procs-1, h)
		})
	}
}

// One number of the hand at a time is out of its range, though its row may have no use for it.
func TestNoStepByWrongHands(t *testing.T) {
	for _, p := range somePlans {
		eachRow(func(c chapter, at int64) {
			right := c.hand(p, at, uint64(at)*3)
			a := c.arena(p, right, 2)
			for _, f := range handNumbers {
				for _, n := range append([]int64{-1, f.most(p) + 1}, farOut...) {
					c.wantZero(t, f.name, p, a, 0, withNumber(right, f.name, n))
				}
			}
			c.wantNone(t, "no life", p, a, 0, withNumber(right, "Life", 0))
			c.wantTable(t, "a right hand", p, a, 0, right)
		})
	}
}

// One that is not Up knows nothing, and is At none of the chapter's; one that is not Up and yet is At one is not right.
func TestNoStepByWhoIsNotUp(t *testing.T) {
	for _, p := range somePlans {
		eachRow(func(c chapter, at int64) {
			for _, life := range []int64{0, 1, topLife} {
				c.wantZero(t, "not Up", p, impl.Blank(p), 0, impl.Hand{Life: life})
			}
			right := c.hand(p, at, uint64(at)*5)
			a := c.arena(p, right, 2)
			c.wantNone(t, "not Up", p, a, 0, withFlag(right, "Up", false))
			c.wantNone(t, "not Up", p, a, 0, withFlag(blockHand(at), "Up", false))
			c.wantNone(t, "downed", p, a, 0, impl.Downed(right))
		})
	}
}

func TestNoStepAtAnotherChapters(t *testing.T) {
	for _, p := range somePlans {
		for _, c := range chapters {
			for at := int64(0); at <= topAt; at++ {
				if at >= c.first && at <= c.last {
					continue
				}
				h := c.hand(p, at, uint64(at))
				wantHand(t, "another chapter's", p, h, true)
				c.wantNone(t, "another chapter's", p, c.arena(p, h, 2), 0, h)
				c.wantNone(t, "another chapter's", p, impl.Blank(p), 0, blockHand(at))
			}
			eachRow(func(other chapter, at int64) {
				if other.name == c.name {
					return
				}
				h := other.hand(p, at, uint64(at))
				c.wantNone(t, "another chapter's", p, other.arena(p, h, 2), 0, h)
			})
		}
	}
}

// All wrong things together, in every choice of them: the answer is the same one, and only where none is chosen something is done.
func TestNoStepWithMoreThanOneWrong(t *testing.T) {
	eachRow(func(c chapter, at int64) {
		right := c.hand(usualPlan, at, uint64(at)*9)
		for chosen := range 1 << 8 {
			is := func(i int) bool { return chosen>>i&1 == 1 }
			p, a, me, h := usualPlan, c.arena(usualPlan, right, 2), int64(1), right
			if is(0) {
				p.Keep = 33
			}
			if is(1) {
				a = a[:len(a)-1]
			}
			if is(2) {
				me = 3
			}
			if is(3) {
				h.Out = -1
			}
			if is(4) {
				h.Up = false
			}
			if is(5) {
				h.At = c.last + 1
			}
			if is(6) {
				a = append(slices.Clone(a), 1, 2)
			}
			if is(7) {
				me -= 2
				me = min(me, -1)
			}
			if chosen == 0 {
				if !c.wantTable(t, "none is wrong", p, a, me, h) {
					t.Fatalf("%+v may not do its row", h)
				}
			} else {
				c.wantNone(t, fmt.Sprintf("wrong are %08b", chosen), p, a, me, h)
			}
		}
	})
}
