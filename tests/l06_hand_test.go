package tests

import (
	"fmt"
	"math"
	"reflect"
	"slices"
	"testing"

	"loop.example/g00650/impl"
)

// The limits are written out here, so that a changed constant is seen.
const (
	topLife  = 65535
	topClock = 20000
	topAt    = 70
	topCode  = 14
	topDoes  = 7
)

// handNumbers are the numbers of a Hand, and the end of the range of each; all begin at 0, but Life where the hand is Up.
var handNumbers = []struct {
	name string
	most func(p impl.Plan) int64
}{
	{"Life", always(topLife)},
	{"At", always(topAt)},
	{"Code", always(topCode)},
	{"A", always(topIndex)},
	{"B", always(topSeq)},
	{"C", always(topIndex)},
	{"Number", always(topSeq)},
	{"For", func(p impl.Plan) int64 { return p.Procs - 1 }},
	{"Last", always(topSeq)},
	{"Mine", always(topSeq)},
	{"Addr", func(p impl.Plan) int64 { return int64(len(laidOut(p))) - 1 }},
	{"Good", always(topAt)},
	{"Bad", always(topAt)},
	{"Does", always(topDoes)},
	{"Block", always(topIndex)},
	{"From", always(topIndex)},
	{"Next", always(topIndex)},
	{"Value", always(topIndex)},
	{"Index", func(p impl.Plan) int64 { return p.Small + p.Large + 1 }},
	{"Which", func(p impl.Plan) int64 { return 2*p.Procs - 1 }},
	{"Kept", always(topIndex)},
	{"WasCode", always(topByte)},
	{"WasItem", always(topIndex)},
	{"WasNumber", always(topSeq)},
	{"WasKind", always(topByte)},
	{"WasTag", always(topSeq)},
	{"Reply", always(topByte)},
	{"Out", always(topIndex)},
	{"Mark", always(topClock)},
	{"Begin", always(topClock)},
}

var (
	handFlags = []string{"Up", "In", "Sure", "Known"}
	handWords = []string{"Seen", "Put"}
)

// The fields in the order in which the document names them.
var handFields = []string{
	"Up", "In", "Sure", "Known", "Life", "At", "Code", "A", "B", "C", "Number", "For", "Last", "Mine", "Addr", "Seen", "Put", "Good", "Bad", "Does",
	"Block", "From", "Next", "Value", "Index", "Which", "Kept", "WasCode", "WasItem", "WasNumber", "WasKind", "WasTag", "Reply", "Out", "Mark", "Begin",
}

// Out of range of every number of a hand; some of them would look right if only low bits were taken.
var farOut = []int64{
	-2, -255, -65535, -65536, -topSeq - 1, topSeq + 1, topSeq + 2, 1<<32 | 1, 1<<40 | 1, 1<<48 | 1,
	math.MinInt64, math.MinInt64 + 1, math.MaxInt64 - 1, math.MaxInt64,
}

func always(n int64) func(p impl.Plan) int64 { return func(impl.Plan) int64 { return n } }

func field(h *impl.Hand, name string) reflect.Value {
	return reflect.ValueOf(h).Elem().FieldByName(name)
}

func withNumber(h impl.Hand, name string, n int64) impl.Hand {
	field(&h, name).SetInt(n)
	return h
}

func withWord(h impl.Hand, name string, x uint64) impl.Hand {
	field(&h, name).SetUint(x)
	return h
}

func withFlag(h impl.Hand, name string, is bool) impl.Hand {
	field(&h, name).SetBool(is)
	return h
}

// mixedHand has any number in any field; some of them are small, so that not all is far out of range.
func mixedHand(seed uint64) impl.Hand {
	var h impl.Hand
	for i, x := range mixedWords(len(handFields), seed*77+5) {
		f := reflect.ValueOf(&h).Elem().Field(i)
		switch {
		case f.CanInt():
			f.SetInt(int64(x) >> (x >> 5 % 64))
		case f.CanUint():
			f.SetUint(x)
		default:
			f.SetBool(x>>9%2 == 1)
		}
	}
	return h
}

// mixedRightHand is Up, and each of its numbers is somewhere in its range, at the ends often.
func mixedRightHand(p impl.Plan, seed uint64) impl.Hand {
	h := mixedHand(seed)
	h.Up = true
	for i, x := range mixedWords(len(handNumbers), seed*31+9) {
		most := handNumbers[i].most(p)
		n := int64(x >> 8 % uint64(most+1))
		switch x % 5 {
		case 0:
			n = 0
		case 1:
			n = most
		}
		field(&h, handNumbers[i].name).SetInt(n)
	}
	h.Life = max(1, h.Life)
	return h
}

// fullHand has each number at the end of its range, all bits of each word and each flag.
func fullHand(p impl.Plan) impl.Hand {
	h := impl.Hand{Up: true, In: true, Sure: true, Known: true, Seen: math.MaxUint64, Put: math.MaxUint64}
	for _, f := range handNumbers {
		h = withNumber(h, f.name, f.most(p))
	}
	return h
}

// upHands are right ones: nothing but Up, one of ordinary numbers, and one that is full.
func upHands(p impl.Plan) []impl.Hand {
	usual := mixedRightHand(p, 4)
	usual.Life = 12
	return []impl.Hand{{Up: true, Life: 1}, usual, fullHand(p)}
}

func eachMixedHand(f func(h impl.Hand)) {
	for seed := range uint64(5000) {
		f(mixedHand(seed))
		f(mixedRightHand(usualPlans[seed%4], seed))
	}
	for _, p := range usualPlans {
		f(fullHand(p))
	}
}

// eachField gives a hand with that field alone not zero, at many values.
func eachField(f func(name string, h impl.Hand)) {
	for _, name := range handFlags {
		f(name, withFlag(impl.Hand{}, name, true))
	}
	for _, name := range handWords {
		for _, x := range []uint64{1, 1 << 32, 1 << 63, math.MaxUint64} {
			f(name, withWord(impl.Hand{}, name, x))
		}
	}
	for _, n := range handNumbers {
		most := n.most(mostPlan)
		for _, v := range append([]int64{-1, 1, 2, most - 1, most, most + 1}, farOut...) {
			f(n.name, withNumber(impl.Hand{}, n.name, v))
		}
	}
}

func wantHand(t *testing.T, what string, p impl.Plan, h impl.Hand, want bool) {
	t.Helper()
	if got := impl.HandOk(p, h); got != want {
		t.Fatalf("%s: HandOk(%+v, %+v) is %v", what, p, h, got)
	}
}

// No test below can pass over a field that the tables lack.
func TestHandFields(t *testing.T) {
	kind := reflect.TypeOf(impl.Hand{})
	var names []string
	for f := range kind.Fields() {
		names = append(names, f.Name)
		want := reflect.Int64
		switch {
		case slices.Contains(handFlags, f.Name):
			want = reflect.Bool
		case slices.Contains(handWords, f.Name):
			want = reflect.Uint64
		}
		if f.Type.Kind() != want {
			t.Errorf("%s is of kind %s", f.Name, f.Type)
		}
	}
	if !slices.Equal(names, handFields) {
		t.Fatalf("the fields are %v", names)
	}
	told := slices.Concat(handFlags, handWords)
	for _, n := range handNumbers {
		told = append(told, n.name)
	}
	slices.Sort(told)
	slices.Sort(names)
	if !slices.Equal(told, names) {
		t.Fatalf("the tables tell of %v", told)
	}
}

// layers are the numbers of At, each with the chapter that tells of it.
var layers = []struct {
	chapter int64
	at      []int64
}{
	{0, []int64{impl.AtRest}},
	{8, []int64{impl.AtOpen, impl.AtSay, impl.AtDrop, impl.AtBare, impl.AtBarer, impl.AtNote, impl.AtMark, impl.AtSwap}},
	{9, []int64{impl.AtFree, impl.AtUnder, impl.AtWant, impl.AtHold, impl.AtFill, impl.AtMine, impl.AtStore, impl.AtFetch, impl.AtYield, impl.AtLoose, impl.AtList, impl.AtChain}},
	{10, []int64{impl.AtAim, impl.AtNode, impl.AtTop, impl.AtJoin, impl.AtPeek, impl.AtGuard, impl.AtAgain, impl.AtNext, impl.AtLook, impl.AtKeep, impl.AtPick, impl.AtRetire}},
	{11, []int64{
		impl.AtClean, impl.AtTail, impl.AtGuardTail, impl.AtTailAgain, impl.AtLast, impl.AtHelp, impl.AtLinkUp, impl.AtSwing,
		impl.AtHead, impl.AtGuardHead, impl.AtHeadAgain, impl.AtFirst, impl.AtGuardFirst, impl.AtHeadStill, impl.AtLag, impl.AtPull,
	}},
	{12, []int64{impl.AtCell, impl.AtTry, impl.AtAsk}},
	{13, []int64{impl.AtSlot, impl.AtClaim, impl.AtSeat}},
	{14, []int64{
		impl.AtOp, impl.AtIntent, impl.AtResult, impl.AtTrace, impl.AtWhere, impl.AtNotes, impl.AtValue, impl.AtTell,
		impl.AtMend, impl.AtErase, impl.AtClear, impl.AtClearer, impl.AtSweep, impl.AtTakeOver,
	}},
	{15, []int64{impl.AtScan, impl.AtFind}},
}

// The last number of each chapter is written out as the document has it.
func TestLayersByName(t *testing.T) {
	ends := []int64{0, 8, 20, 32, 48, 51, 54, 68, topAt}
	next := int64(0)
	for i, l := range layers {
		for _, at := range l.at {
			if at != next {
				t.Errorf("chapter %d: At is %d, not %d", l.chapter, at, next)
			}
			if got := impl.LayerOf(at); got != l.chapter {
				t.Errorf("LayerOf(%d) is %d, not %d", at, got, l.chapter)
			}
			next++
		}
		if next != ends[i]+1 {
			t.Errorf("chapter %d ends ahead of %d", l.chapter, next)
		}
	}
}

func TestLayersByNumber(t *testing.T) {
	lasts := []struct{ last, chapter int64 }{{-1, -1}, {0, 0}, {8, 8}, {20, 9}, {32, 10}, {48, 11}, {51, 12}, {54, 13}, {68, 14}, {70, 15}, {400, -1}}
	at := int64(-400)
	for _, l := range lasts {
		for ; at <= l.last; at++ {
			if got := impl.LayerOf(at); got != l.chapter {
				t.Errorf("LayerOf(%d) is %d, not %d", at, got, l.chapter)
			}
		}
	}
	for _, far := range slices.Concat([]int64{255, 256, 257, 1 << 16, 1<<16 | 9, 1<<32 | 69}, farOut, nowhere) {
		if got := impl.LayerOf(far); got != -1 {
			t.Errorf("LayerOf(%d) is %d, not -1", far, got)
		}
	}
}

func TestHandLimits(t *testing.T) {
	if impl.MaxLife != topLife || impl.MaxClock != topClock || impl.AtFind != topAt || impl.OpAsk != topCode || impl.DdCas != topDoes {
		t.Fatal(impl.MaxLife, impl.MaxClock, impl.AtFind, impl.OpAsk, impl.DdCas)
	}
}

// Promise 6: whatever it was, the Life is what is left of it, and two of one Life are alike once they are killed.
func TestTheKilledKnowOnlyTheirLife(t *testing.T) {
	eachMixedHand(func(h impl.Hand) {
		wantDowned(t, h)
		for _, life := range []int64{-1, 0, 1, 77, topLife, topLife + 1, math.MinInt64, math.MaxInt64} {
			wantDowned(t, withNumber(h, "Life", life))
		}
	})
	eachField(func(name string, h impl.Hand) {
		wantDowned(t, h)
		h.Life, h.Up = 9, true
		wantDowned(t, h)
	})
	wantDowned(t, impl.Hand{})
}

func wantDowned(t *testing.T, h impl.Hand) {
	t.Helper()
	was := h
	got := impl.Downed(h)
	if got != (impl.Hand{Life: was.Life}) {
		t.Fatalf("Downed(%+v) is %+v", was, got)
	}
	for _, name := range handFields {
		if name != "Life" && !field(&got, name).IsZero() {
			t.Fatalf("Downed(%+v) knows its %s", was, name)
		}
	}
	if again := impl.Downed(got); again != got {
		t.Fatalf("Downed twice is %+v, not %+v", again, got)
	}
	if h != was {
		t.Fatalf("Downed changed its argument from %+v to %+v", was, h)
	}
	for _, p := range usualPlans {
		wantHand(t, "downed", p, got, was.Life >= 0 && was.Life <= topLife)
	}
}

// What was downed comes back with one life more, and has learnt nothing.
func TestRaisedFromTheDowned(t *testing.T) {
	eachMixedHand(func(h impl.Hand) {
		wantRaised(t, impl.Downed(h))
		for _, life := range []int64{-1, 0, 1, 1000, topLife - 1, topLife, topLife + 1} {
			wantRaised(t, impl.Downed(withNumber(h, "Life", life)))
		}
	})
}

// wantRaised asks for a hand that may know more than it should: that is lost as well.
func wantRaised(t *testing.T, h impl.Hand) {
	t.Helper()
	was := h
	want, is := h, false
	if !h.Up && h.Life >= 0 && h.Life < topLife {
		want, is = impl.Hand{Up: true, Life: h.Life + 1}, true
	}
	got, ok := impl.Raised(h)
	if got != want || ok != is {
		t.Fatalf("Raised(%+v) is %+v, %v, not %+v, %v", was, got, ok, want, is)
	}
	if h != was {
		t.Fatalf("Raised changed its argument from %+v to %+v", was, h)
	}
	if ok {
		for _, p := range usualPlans {
			wantHand(t, "raised", p, got, true)
		}
	}
}

func TestRaisedAtItsEdges(t *testing.T) {
	for _, c := range []struct {
		life int64
		is   bool
	}{
		{-1, false}, {0, true}, {1, true}, {65533, true}, {65534, true}, {65535, false}, {65536, false}, {65537, false},
		{1 << 16, false}, {1 << 32, false}, {-65535, false}, {-65536, false}, {math.MinInt64, false}, {math.MaxInt64, false}, {math.MaxInt64 - 1, false},
	} {
		h, is := impl.Raised(impl.Hand{Life: c.life})
		want := impl.Hand{Life: c.life}
		if c.is {
			want = impl.Hand{Up: true, Life: c.life + 1}
		}
		if is != c.is || h != want {
			t.Errorf("Raised at a Life of %d is %+v, %v", c.life, h, is)
		}
		up := impl.Hand{Up: true, Life: c.life}
		if h, is := impl.Raised(up); is || h != up {
			t.Errorf("Raised, being Up, at a Life of %d is %+v, %v", c.life, h, is)
		}
	}
}

// A hand that is not Up and knows something all the same is raised as any other one; one that is not raised keeps all that it knows.
func TestRaisedOfAnyHand(t *testing.T) {
	lives := append([]int64{-1, 0, 1, 500, topLife - 1, topLife, topLife + 1}, farOut...)
	for _, up := range []bool{false, true} {
		eachMixedHand(func(h impl.Hand) {
			h.Up = up
			wantRaised(t, h)
			for _, life := range lives {
				wantRaised(t, withNumber(h, "Life", life))
			}
		})
		eachField(func(name string, h impl.Hand) {
			wantRaised(t, h)
			h.Up = up
			wantRaised(t, h)
		})
	}
}

// One hand through all its lives: each begins with nothing, whatever the one ahead of it knew, and there is none behind the last one.
func TestLivesOneBehindAnother(t *testing.T) {
	h := impl.Hand{}
	for life := int64(1); life <= topLife; life++ {
		up, is := impl.Raised(h)
		if !is || up != (impl.Hand{Up: true, Life: life}) {
			t.Fatalf("life %d begins as %+v, %v", life, up, is)
		}
		knows := mixedHand(uint64(life))
		knows.Up, knows.Life = true, life
		h = impl.Downed(knows)
		if h != (impl.Hand{Life: life}) {
			t.Fatalf("life %d ends as %+v", life, h)
		}
	}
	if last, is := impl.Raised(h); is || last != h {
		t.Fatalf("one life too many: %+v, %v", last, is)
	}
}

func TestResting(t *testing.T) {
	eachMixedHand(func(h impl.Hand) { wantResting(t, h) })
	eachField(func(name string, h impl.Hand) {
		wantResting(t, h)
		if got := impl.Resting(h); slices.Contains([]string{"Up", "In", "Life", "Last", "Kept"}, name) != (got == h) {
			t.Fatalf("%s: Resting(%+v) is %+v", name, h, got)
		}
	})
	wantResting(t, impl.Hand{})
}

func wantResting(t *testing.T, h impl.Hand) {
	t.Helper()
	was := h
	got := impl.Resting(h)
	if got != (impl.Hand{Up: was.Up, In: was.In, Life: was.Life, Last: was.Last, Kept: was.Kept}) {
		t.Fatalf("Resting(%+v) is %+v", was, got)
	}
	if again := impl.Resting(got); again != got {
		t.Fatalf("Resting twice is %+v, not %+v", again, got)
	}
	if h != was {
		t.Fatalf("Resting changed its argument from %+v to %+v", was, h)
	}
	if down := impl.Downed(got); down != impl.Downed(was) {
		t.Fatalf("Downed at rest is %+v, not %+v", down, impl.Downed(was))
	}
}

func TestWhatIsRightRestsRight(t *testing.T) {
	for _, p := range usualPlans {
		for seed := range uint64(500) {
			wantHand(t, "resting", p, impl.Resting(mixedRightHand(p, seed)), true)
		}
		wantHand(t, "resting", p, impl.Resting(fullHand(p)), true)
	}
}

// One number at a time, beside others at 0, in between and at their ends.
func TestRangesOfAHandThatIsUp(t *testing.T) {
	for _, p := range somePlans {
		for _, h := range upHands(p) {
			wantHand(t, "as it is", p, h, true)
			for _, f := range handNumbers {
				most := f.most(p)
				right := []int64{0, 1, most / 2, most - 1, most}
				wrong := append([]int64{-1, most + 1, most + 2, 2*most + 2, -most - 1, most + 256, most + 65536}, farOut...)
				for _, n := range right {
					if n >= 0 && n <= most {
						wantHand(t, f.name, p, withNumber(h, f.name, n), f.name != "Life" || n > 0)
					}
				}
				for _, n := range wrong {
					if n < 0 || n > most {
						wantHand(t, f.name, p, withNumber(h, f.name, n), false)
					}
				}
			}
		}
	}
}

// All numbers of a short range, and around it.
func TestEveryNumberOfAShortRange(t *testing.T) {
	for _, p := range []impl.Plan{leastPlan, usualPlan, mostPlan} {
		for _, f := range handNumbers {
			most := f.most(p)
			if most > 300 {
				continue
			}
			for n := int64(-300); n <= 900; n++ {
				wantHand(t, f.name, p, withNumber(impl.Hand{Up: true, Life: 1}, f.name, n), n >= 0 && n <= most)
			}
		}
	}
}

func TestLivesOfAHandThatIsUp(t *testing.T) {
	for _, p := range usualPlans {
		for _, h := range upHands(p) {
			for life, want := range map[int64]bool{-1: false, 0: false, 1: true, 2: true, topLife - 1: true, topLife: true, topLife + 1: false, math.MinInt64: false, math.MaxInt64: false} {
				wantHand(t, "life", p, withNumber(h, "Life", life), want)
			}
		}
	}
}

// Of one that is not Up, the Life may be 0 as well, and nothing else may be there.
func TestHandsThatAreNotUp(t *testing.T) {
	for _, p := range somePlans {
		for _, life := range []int64{0, 1, 2, topLife - 1, topLife} {
			down := impl.Hand{Life: life}
			wantHand(t, "down", p, down, true)
			for _, f := range handNumbers {
				if f.name == "Life" {
					continue
				}
				most := f.most(p)
				wantHand(t, f.name, p, withNumber(down, f.name, 0), true)
				for _, n := range append([]int64{-1, 1, most / 2, most - 1, most, most + 1}, farOut...) {
					wantHand(t, f.name, p, withNumber(down, f.name, n), n == 0)
				}
			}
			for _, name := range handWords {
				eachBits(func(x uint64) { wantHand(t, name, p, withWord(down, name, x), x == 0) })
			}
			for _, name := range handFlags {
				wantHand(t, name, p, withFlag(down, name, true), name == "Up" && life > 0)
			}
		}
		for _, life := range append([]int64{-1, topLife + 1, topLife + 2}, farOut...) {
			wantHand(t, "down, no such life", p, impl.Hand{Life: life}, false)
		}
		for _, h := range upHands(p) {
			down := withFlag(h, "Up", false)
			wantHand(t, "down, all else as it was", p, down, down == impl.Hand{Life: down.Life})
		}
	}
}

func TestAnyWordsAreSeenAndPut(t *testing.T) {
	for _, p := range usualPlans {
		for _, h := range upHands(p) {
			eachBits(func(x uint64) {
				wantHand(t, "Seen", p, withWord(h, "Seen", x), true)
				wantHand(t, "Put", p, withWord(h, "Put", x), true)
				h.Seen, h.Put = x, ^x
				wantHand(t, "Seen and Put", p, h, true)
			})
		}
	}
}

// Each flag alone, and all of them together in every way.
func TestFlags(t *testing.T) {
	for _, p := range usualPlans {
		for flags := range 16 {
			for _, h := range append(upHands(p), impl.Hand{}, impl.Hand{Life: 5}) {
				for i, name := range handFlags {
					h = withFlag(h, name, flags>>i&1 == 1)
				}
				want := h.Life > 0
				if !h.Up {
					want = h == impl.Hand{Life: h.Life}
				}
				wantHand(t, fmt.Sprintf("flags %04b", flags), p, h, want)
			}
		}
	}
}

// Ends that were counted by hand.
func TestRangesThatHangOnThePlan(t *testing.T) {
	for _, c := range []struct {
		p    impl.Plan
		most map[string]int64
	}{
		{leastPlan, map[string]int64{"For": 0, "Addr": 16, "Index": 2, "Which": 1}},
		{usualPlan, map[string]int64{"For": 2, "Addr": 61, "Index": 8, "Which": 5}},
		{impl.Plan{Procs: 2, Small: 4, Large: 1, Cells: 1, Keep: 2}, map[string]int64{"For": 1, "Addr": 40, "Index": 6, "Which": 3}},
		{mostPlan, map[string]int64{"For": 63, "Addr": 5406, "Index": 251, "Which": 127}},
	} {
		for name, most := range c.most {
			for _, h := range upHands(c.p) {
				for n, want := range map[int64]bool{-1: false, 0: true, most: true, most + 1: false, most + 2: false} {
					wantHand(t, name, c.p, withNumber(h, name, n), want)
				}
			}
		}
	}
}

func TestRangesAtEveryPlan(t *testing.T) {
	eachRightPlan(func(p impl.Plan) {
		full := fullHand(p)
		wantHand(t, "full", p, full, true)
		wantHand(t, "down", p, impl.Hand{Life: topLife}, true)
		for _, f := range handNumbers {
			wantHand(t, f.name+", one beyond", p, withNumber(full, f.name, f.most(p)+1), false)
			wantHand(t, f.name+", one below", p, withNumber(full, f.name, -1), false)
		}
	})
}

// What is right of one Plan may be too much for another: by one slot, one block, one cell. Keep is no limit of Kept.
func TestHandOfAnotherPlan(t *testing.T) {
	full := fullHand(usualPlan)
	for _, c := range []struct {
		name string
		p    impl.Plan
		want bool
	}{
		{"a slot less", impl.Plan{Procs: 2, Small: 5, Large: 2, Cells: 2, Keep: 4}, false},
		{"a small block less", impl.Plan{Procs: 3, Small: 4, Large: 2, Cells: 2, Keep: 4}, false},
		{"a large block less", impl.Plan{Procs: 3, Small: 5, Large: 1, Cells: 2, Keep: 4}, false},
		{"a cell less", impl.Plan{Procs: 3, Small: 5, Large: 2, Cells: 1, Keep: 4}, false},
		{"more of all", impl.Plan{Procs: 4, Small: 6, Large: 3, Cells: 3, Keep: 5}, true},
		{"less to keep", impl.Plan{Procs: 3, Small: 5, Large: 2, Cells: 2, Keep: 1}, true},
		{"more to keep", impl.Plan{Procs: 3, Small: 5, Large: 2, Cells: 2, Keep: 32}, true},
	} {
		wantHand(t, c.name, c.p, full, c.want)
	}
}

// Any right numbers go together, and one that is wrong spoils them.
func TestMixedHands(t *testing.T) {
	for _, p := range somePlans {
		for seed := range uint64(1000) {
			h := mixedRightHand(p, seed)
			wantHand(t, "mixed", p, h, true)
			f := handNumbers[seed%uint64(len(handNumbers))]
			wantHand(t, "mixed, "+f.name, p, withNumber(h, f.name, f.most(p)+1+int64(seed)), false)
			wantHand(t, "mixed, "+f.name, p, withNumber(h, f.name, -1-int64(seed)), false)
			wantHand(t, "mixed, not Up", p, withFlag(h, "Up", false), false)
		}
	}
}

func TestHandsOfWrongPlans(t *testing.T) {
	var hands []impl.Hand
	for _, p := range usualPlans {
		hands = append(hands, upHands(p)...)
	}
	hands = append(hands, impl.Hand{}, impl.Hand{Life: 1}, impl.Hand{Life: topLife}, impl.Hand{Life: -1}, impl.Hand{Up: true}, mixedHand(1), mixedHand(2))
	eachWrongPlan(func(name string, p impl.Plan) {
		for _, h := range hands {
			wantHand(t, name, p, h, false)
		}
	})
}
