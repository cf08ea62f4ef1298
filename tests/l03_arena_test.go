package tests

import (
	"math"
	"slices"
	"testing"

	"loop.example/g00650/impl"
)

// A list that is lent to a call: it lies inside a longer one, so that the spare room behind it, and what is ahead of it, can be held against what they were.
type lent struct {
	list       []uint64
	whole, was []uint64
}

const lentAhead, lentBehind = 3, 70

func lend(list []uint64) lent {
	whole := mixedWords(lentAhead+len(list)+lentBehind, 0x6c65)
	copy(whole[lentAhead:], list)
	return lent{list: whole[lentAhead : lentAhead+len(list)], whole: whole, was: slices.Clone(whole)}
}

func (l lent) wantStays(t *testing.T, what string) {
	t.Helper()
	if !slices.Equal(l.whole, l.was) {
		t.Fatalf("%s: the argument, or what is around it, was written to", what)
	}
}

// wantNew writes all over the answer, its spare room too, and then all over what was lent: neither may be seen in the other.
func (l lent) wantNew(t *testing.T, what string, answer []uint64) {
	t.Helper()
	l.wantStays(t, what)
	all := answer[:cap(answer)]
	for i := range all {
		all[i] ^= math.MaxUint64
	}
	l.wantStays(t, what+", its answer written over")
	then := slices.Clone(all)
	for i := range l.whole {
		l.whole[i] += 0x0101010101010101
	}
	if !slices.Equal(all, then) {
		t.Fatalf("%s: the answer changed with the argument", what)
	}
	copy(l.whole, l.was)
}

func mixedWords(n int, seed uint64) []uint64 {
	x := seed*2 + 1
	a := make([]uint64, n)
	for i := range a {
		x ^= x << 13
		x ^= x >> 7
		x ^= x << 17
		a[i] = x
	}
	return a
}

// mixedLists are lists of many lengths: none, a few words, around powers of two, an arena of each usual plan.
func mixedLists() [][]uint64 {
	lengths := []int{0, 1, 2, 3, 7, 31, 32, 33, 63, 64, 65, 127, 128, 129, 191, 192, 193, 255, 256, 257, 1024}
	for _, p := range usualPlans {
		lengths = append(lengths, len(laidOut(p)))
	}
	var all [][]uint64
	for i, n := range lengths {
		all = append(all, mixedWords(n, uint64(i)))
	}
	return all
}

// somePlaces are all places of a short list; the first and the last ones of a long one, and some between.
func somePlaces(n int) []int64 {
	var out []int64
	for at := range n {
		if n <= 300 || at < 3 || at >= n-3 || at%29 == 0 {
			out = append(out, int64(at))
		}
	}
	return out
}

// noPlaces are places that a list of n words has not.
func noPlaces(n int) []int64 {
	out := []int64{int64(n), int64(n) + 1, int64(n) + 64}
	for _, at := range nowhere {
		if at < 0 || at >= int64(n) {
			out = append(out, at)
		}
	}
	return out
}

// someWords are what may be put in a word's place: itself, another word, none, all bits.
func someWords(was uint64) []uint64 { return []uint64{was, was ^ 1<<40, 0, math.MaxUint64} }

func wantOnlyAt(t *testing.T, what string, was, got []uint64, at int64, x uint64) {
	t.Helper()
	want := slices.Clone(was)
	want[at] = x
	if !slices.Equal(got, want) {
		t.Fatalf("%s: the answer is not the list with %#x at %d", what, x, at)
	}
}

func wantAsItIs(t *testing.T, what string, was, got []uint64) {
	t.Helper()
	if !slices.Equal(got, was) {
		t.Fatalf("%s: the answer is not the list as it is", what)
	}
}

// blankWord is what the document tells of one place at the beginning.
func blankWord(p impl.Plan, r impl.Region) uint64 {
	index := func(block int64) uint64 { return uint64(block) << 32 }
	switch {
	case r.Kind == 3 && r.Field == 0 && p.Small > 1:
		return index(2)
	case r.Kind == 3 && r.Field == 1 && p.Large > 0:
		return index(p.Small + 1)
	case r.Kind == 3 && (r.Field == 3 || r.Field == 4):
		return index(1)
	case r.Kind == 4 && r.Field == 0 && r.Item == 1:
		return 2 << 56
	case r.Kind == 4 && r.Field == 1 && r.Item > 1 && r.Item != p.Small && r.Item != p.Small+p.Large:
		return index(r.Item + 1)
	}
	return 0
}

func wantBlank(t *testing.T, p impl.Plan, want []uint64) {
	t.Helper()
	got := impl.Blank(p)
	if len(got) != len(want) {
		t.Fatalf("Blank(%+v) has %d words, not %d", p, len(got), len(want))
	}
	for at, x := range want {
		if got[at] != x {
			t.Fatalf("Blank(%+v) has %#x at %d (%+v), not %#x", p, got[at], at, impl.RegionOf(p, int64(at)), x)
		}
	}
	if !impl.ArenaOk(p, got) {
		t.Fatalf("Blank(%+v) is not ArenaOk", p)
	}
}

// The words that are not 0, at places that were counted by hand.
func TestBlankWordForWord(t *testing.T) {
	for _, c := range []struct {
		name string
		p    impl.Plan
		size int
		is   map[int]uint64
	}{
		{"one small block, none is free", leastPlan, 17, map[int]uint64{11: 1 << 32, 12: 1 << 32, 14: 2 << 56}},
		{
			"two small blocks, one is free", impl.Plan{Procs: 1, Small: 2, Large: 0, Cells: 1, Keep: 1}, 20,
			map[int]uint64{8: 2 << 32, 11: 1 << 32, 12: 1 << 32, 14: 2 << 56},
		},
		{
			"three small blocks, two are free", impl.Plan{Procs: 1, Small: 3, Large: 0, Cells: 1, Keep: 1}, 23,
			map[int]uint64{8: 2 << 32, 11: 1 << 32, 12: 1 << 32, 14: 2 << 56, 18: 3 << 32},
		},
		{
			"one small block and a large one", impl.Plan{Procs: 1, Small: 1, Large: 1, Cells: 1, Keep: 1}, 22,
			map[int]uint64{9: 2 << 32, 11: 1 << 32, 12: 1 << 32, 14: 2 << 56},
		},
		{
			"one small block and three large ones", impl.Plan{Procs: 1, Small: 1, Large: 3, Cells: 2, Keep: 1}, 33,
			map[int]uint64{9: 2 << 32, 11: 1 << 32, 12: 1 << 32, 15: 2 << 56, 19: 3 << 32, 24: 4 << 32},
		},
		{
			"usual", usualPlan, 62,
			map[int]uint64{
				30: 2 << 32, 31: 6 << 32, 33: 1 << 32, 34: 1 << 32, 37: 2 << 56,
				41: 3 << 32, 44: 4 << 32, 47: 5 << 32, 53: 7 << 32,
			},
		},
		{
			"no large block", noLarge, 79,
			map[int]uint64{
				44: 2 << 32, 47: 1 << 32, 48: 1 << 32, 52: 2 << 56,
				56: 3 << 32, 59: 4 << 32, 62: 5 << 32, 65: 6 << 32, 68: 7 << 32, 71: 8 << 32, 74: 9 << 32,
			},
		},
	} {
		t.Run(c.name, func(t *testing.T) {
			want := make([]uint64, c.size)
			for at, x := range c.is {
				want[at] = x
			}
			wantBlank(t, c.p, want)
		})
	}
}

func TestBlankOfEveryPlan(t *testing.T) {
	blank := func(p impl.Plan) {
		var want []uint64
		for _, r := range laidOut(p) {
			want = append(want, blankWord(p, r))
		}
		wantBlank(t, p, want)
	}
	eachRightPlan(blank)
	for _, l := range planLimits {
		for _, p := range usualPlans {
			for _, v := range []int64{l.least, l.most} {
				*l.at(&p) = v
				blank(p)
			}
		}
	}
}

func TestBlankOfWrongPlans(t *testing.T) {
	eachWrongPlan(func(name string, p impl.Plan) {
		if got := impl.Blank(p); len(got) != 0 {
			t.Errorf("%s: Blank(%+v) has %d words", name, p, len(got))
		}
	})
}

func TestBlankIsNewEachTime(t *testing.T) {
	for _, p := range usualPlans {
		first := impl.Blank(p)
		was := slices.Clone(first)
		second := impl.Blank(p)
		for i := range first {
			first[i] = math.MaxUint64
		}
		if !slices.Equal(second, was) || !slices.Equal(impl.Blank(p), was) {
			t.Errorf("two Blanks of %+v share words", p)
		}
	}
}

func TestArenaIsAsLongAsThePlan(t *testing.T) {
	for _, p := range usualPlans {
		n := len(laidOut(p))
		for _, length := range []int{0, 1, n / 2, n - 2, n - 1, n, n + 1, n + 2, 2 * n, 6000} {
			l := lend(mixedWords(length, 5))
			if got := impl.ArenaOk(p, l.list); got != (length == n) {
				t.Errorf("ArenaOk(%+v, %d words) is %v", p, length, got)
			}
			l.wantStays(t, "ArenaOk")
		}
		if impl.ArenaOk(p, nil) {
			t.Errorf("ArenaOk(%+v, nil) is true", p)
		}
	}
}

func TestAnyWordsWillDo(t *testing.T) {
	for _, p := range usualPlans {
		for _, x := range []uint64{0, 1, math.MaxUint64} {
			if !impl.ArenaOk(p, slices.Repeat([]uint64{x}, len(laidOut(p)))) {
				t.Errorf("ArenaOk(%+v) is false of words that are all %#x", p, x)
			}
		}
	}
}

// Of a wrong plan no list is an arena: not the empty one, and not one as long as a like plan asks for.
func TestWrongPlansHaveNoArena(t *testing.T) {
	lengths := []int{0, 1}
	for _, p := range usualPlans {
		lengths = append(lengths, len(laidOut(p)))
	}
	most := make([]uint64, 6000)
	eachWrongPlan(func(name string, p impl.Plan) {
		for _, n := range lengths {
			if impl.ArenaOk(p, most[:n]) {
				t.Errorf("%s: ArenaOk(%+v, %d words) is true", name, p, n)
			}
		}
		if p.Procs >= 0 && p.Procs <= 70 && p.Small >= 0 && p.Small <= 210 && p.Large >= 0 && p.Large <= 60 && p.Cells >= 0 && p.Cells <= 10 {
			if n := len(laidOut(p)); impl.ArenaOk(p, make([]uint64, n)) {
				t.Errorf("%s: ArenaOk(%+v, %d words) is true", name, p, n)
			}
		}
	})
}

func TestReadEveryPlace(t *testing.T) {
	for _, list := range mixedLists() {
		l := lend(list)
		for at, x := range list {
			if got, is := impl.ReadAt(l.list, int64(at)); !is || got != x {
				t.Fatalf("ReadAt(%d words, %d) is %#x, %v, not %#x", len(list), at, got, is, x)
			}
		}
		for _, at := range noPlaces(len(list)) {
			if got, is := impl.ReadAt(l.list, at); is || got != 0 {
				t.Fatalf("ReadAt(%d words, %d) is %#x, %v", len(list), at, got, is)
			}
		}
		l.wantStays(t, "ReadAt")
	}
}

// wantOneWord has x put at every place by a call that is to do it.
func wantOneWord(t *testing.T, what string, put func(a []uint64, at int64, was, x uint64) ([]uint64, bool)) {
	t.Helper()
	for _, list := range mixedLists() {
		l := lend(list)
		for _, at := range somePlaces(len(list)) {
			for _, x := range someWords(list[at]) {
				got, is := put(l.list, at, list[at], x)
				if !is {
					t.Fatalf("%s of %d words at %d is false", what, len(list), at)
				}
				wantOnlyAt(t, what, list, got, at, x)
				l.wantStays(t, what)
			}
		}
	}
}

func TestWriteChangesOneWord(t *testing.T) {
	wantOneWord(t, "WriteAt", func(a []uint64, at int64, _, x uint64) ([]uint64, bool) { return impl.WriteAt(a, at, x) })
}

func TestSwapOfWhatIsSeenChangesOneWord(t *testing.T) {
	wantOneWord(t, "SwapAt", impl.SwapAt)
}

func TestSwapOfWhatIsNotThereChangesNothing(t *testing.T) {
	for _, list := range mixedLists() {
		l := lend(list)
		for _, at := range somePlaces(len(list)) {
			was, next := list[at], list[(at+1)%int64(len(list))]
			for _, seen := range []uint64{0, next, was + 1, was ^ 1<<(at%64)} {
				if seen == was {
					continue
				}
				// What would be put is another word, the one that is there, the one that was thought to be there.
				for _, x := range []uint64{^was, was, seen} {
					got, is := impl.SwapAt(l.list, at, seen, x)
					if is {
						t.Fatalf("SwapAt(%d words, %d) from %#x is true where %#x is", len(list), at, seen, was)
					}
					wantAsItIs(t, "SwapAt", list, got)
				}
			}
			l.wantStays(t, "SwapAt")
		}
	}
}

// One bit that is not as it was seen is enough.
func TestSwapLooksAtEveryBit(t *testing.T) {
	l := lend(impl.Blank(usualPlan))
	for at, was := range l.list {
		for bit := range 64 {
			if got, is := impl.SwapAt(l.list, int64(at), was^1<<bit, 9); is || !slices.Equal(got, l.list) {
				t.Fatalf("SwapAt(%d) with bit %d otherwise than it was seen: %v", at, bit, is)
			}
		}
	}
	l.wantStays(t, "SwapAt")
}

// Where there is no word, none is seen: not 0 either.
func TestNoSuchPlace(t *testing.T) {
	for _, list := range mixedLists() {
		l := lend(list)
		for _, at := range noPlaces(len(list)) {
			got, is := impl.WriteAt(l.list, at, 9)
			if is {
				t.Fatalf("WriteAt(%d words, %d) is true", len(list), at)
			}
			wantAsItIs(t, "WriteAt", list, got)
			l.wantNew(t, "WriteAt of no place", got)
			for _, seen := range []uint64{0, l.whole[0], l.whole[lentAhead-1], l.whole[lentAhead+len(list)], math.MaxUint64} {
				got, is := impl.SwapAt(l.list, at, seen, 9)
				if is {
					t.Fatalf("SwapAt(%d words, %d) from %#x is true", len(list), at, seen)
				}
				wantAsItIs(t, "SwapAt", list, got)
				l.wantNew(t, "SwapAt of no place", got)
			}
		}
	}
	for _, at := range append([]int64{0, 1}, nowhere...) {
		x, read := impl.ReadAt(nil, at)
		w, written := impl.WriteAt(nil, at, 9)
		s, swapped := impl.SwapAt(nil, at, 0, 9)
		if read || written || swapped || x != 0 || len(w) != 0 || len(s) != 0 {
			t.Errorf("nil has a word at %d", at)
		}
	}
}

// Done and not done, at the first place, the last one and between: the answer shares nothing with the argument.
func TestAnswersAreNewMemory(t *testing.T) {
	for _, list := range mixedLists() {
		l := lend(list)
		for _, at := range somePlaces(len(list)) {
			was := list[at]
			for _, x := range []uint64{was, ^was} {
				got, _ := impl.WriteAt(l.list, at, x)
				l.wantNew(t, "WriteAt", got)
				got, _ = impl.SwapAt(l.list, at, was, x)
				l.wantNew(t, "SwapAt of what is there", got)
				got, _ = impl.SwapAt(l.list, at, was+1, x)
				l.wantNew(t, "SwapAt of what is not there", got)
			}
		}
	}
}

// One thing behind another, held against a list that is changed in place; every earlier answer stays as it was.
func TestOneBehindAnother(t *testing.T) {
	for _, p := range usualPlans {
		a := impl.Blank(p)
		size := uint64(len(a))
		model := slices.Clone(a)
		const n = 600
		turns := mixedWords(3*n, size)
		var gone, kept [][]uint64
		for i := range n {
			at, x, which := turns[3*i]%(size+2), turns[3*i+1]%4, turns[3*i+2]%3
			gone, kept = append(gone, a), append(kept, slices.Clone(a))
			there := at < size
			var is, want bool
			if which == 0 {
				want = there
				a, is = impl.WriteAt(a, int64(at), x)
			} else {
				seen := turns[3*i+2] >> 8 % 4
				if which == 1 && there {
					seen = model[at]
				}
				want = there && model[at] == seen
				a, is = impl.SwapAt(a, int64(at), seen, x)
			}
			if want {
				model[at] = x
			}
			if is != want || !slices.Equal(a, model) {
				t.Fatalf("%+v, turn %d at %d: %v, not %v, or other words", p, i, at, is, want)
			}
			if !impl.ArenaOk(p, a) {
				t.Fatalf("%+v, turn %d: no arena any more", p, i)
			}
		}
		for i := range gone {
			wantAsItIs(t, "an earlier answer", kept[i], gone[i])
		}
	}
}
