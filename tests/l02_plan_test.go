package tests

import (
	"math"
	"testing"

	"loop.example/g00650/impl"
)

// The limits are written out here, so that a changed constant is seen.
var planLimits = []struct {
	name        string
	least, most int64
	at          func(p *impl.Plan) *int64
}{
	{"Procs", 1, 64, func(p *impl.Plan) *int64 { return &p.Procs }},
	{"Small", 1, 200, func(p *impl.Plan) *int64 { return &p.Small }},
	{"Large", 0, 50, func(p *impl.Plan) *int64 { return &p.Large }},
	{"Cells", 1, 8, func(p *impl.Plan) *int64 { return &p.Cells }},
	{"Keep", 1, 32, func(p *impl.Plan) *int64 { return &p.Keep }},
}

var (
	leastPlan  = impl.Plan{Procs: 1, Small: 1, Large: 0, Cells: 1, Keep: 1}
	usualPlan  = impl.Plan{Procs: 3, Small: 5, Large: 2, Cells: 2, Keep: 4}
	noLarge    = impl.Plan{Procs: 4, Small: 9, Large: 0, Cells: 3, Keep: 2}
	mostPlan   = impl.Plan{Procs: 64, Small: 200, Large: 50, Cells: 8, Keep: 32}
	usualPlans = []impl.Plan{leastPlan, usualPlan, noLarge, mostPlan}
)

// Out of range wherever a slot, field, note, root, block or place is asked for; some of them would come back into range if a product wrapped round.
var nowhere = []int64{
	-1, -2, -7, -64, -65535, 5407, 65536, 1 << 32, 1 << 58, 1 << 61, 1 << 62, math.MaxInt64/7 + 1, math.MaxInt64 / 3,
	math.MinInt64, math.MinInt64 + 1, math.MaxInt64 - 1, math.MaxInt64,
}

func eachRightPlan(f func(p impl.Plan)) {
	for _, procs := range []int64{1, 2, 5, 63, 64} {
		for _, small := range []int64{1, 2, 4, 199, 200} {
			for _, large := range []int64{0, 1, 3, 49, 50} {
				for _, cells := range []int64{1, 2, 7, 8} {
					for _, keep := range []int64{1, 32} {
						f(impl.Plan{Procs: procs, Small: small, Large: large, Cells: cells, Keep: keep})
					}
				}
			}
		}
	}
}

func eachWrongPlan(f func(name string, p impl.Plan)) {
	f("zero", impl.Plan{})
	for _, l := range planLimits {
		wrong := append([]int64{l.least - 1, l.least - 2, l.most + 1, l.most + 2, -l.most}, nowhere...)
		for _, p := range usualPlans {
			for _, v := range wrong {
				*l.at(&p) = v
				f(l.name, p)
			}
		}
	}
}

// laidOut tells the regions one behind another, by the order that the document names.
func laidOut(p impl.Plan) []impl.Region {
	var all []impl.Region
	lay := func(kind, item, fields int64) {
		for f := range fields {
			all = append(all, impl.Region{Kind: kind, Item: item, Field: f})
		}
	}
	for s := range p.Procs {
		lay(1, s, 7)
	}
	for of := range p.Procs {
		lay(2, of, p.Procs)
	}
	lay(3, 0, 5+p.Cells)
	for b := range p.Small {
		lay(4, 1+b, 3)
	}
	for b := range p.Large {
		lay(4, p.Small+1+b, 5)
	}
	return all
}

func placeOf(p impl.Plan, r impl.Region) int64 {
	switch r.Kind {
	case impl.RgSlot:
		return impl.SlotAt(p, r.Item, r.Field)
	case impl.RgNote:
		return impl.NoteAt(p, r.Item, r.Field)
	case impl.RgRoot:
		return impl.RootAt(p, r.Field)
	case impl.RgBlock:
		return impl.BlockAt(p, r.Item, r.Field)
	}
	return -2
}

func TestPlanConstants(t *testing.T) {
	for i, c := range [][2]int64{
		{impl.MaxProcs, 64}, {impl.MaxSmall, 200}, {impl.MaxLarge, 50}, {impl.MaxCells, 8}, {impl.MaxKeep, 32}, {impl.SlotWords, 7},
		{impl.SlReg, 0}, {impl.SlOp, 1}, {impl.SlIntent, 2}, {impl.SlValue, 3}, {impl.SlResult, 4}, {impl.SlGuard, 5}, {impl.SlGuardToo, 6},
		{impl.RtSmall, 0}, {impl.RtLarge, 1}, {impl.RtTop, 2}, {impl.RtHead, 3}, {impl.RtTail, 4}, {impl.RtCell, 5},
		{impl.BwHead, 0}, {impl.BwLink, 1}, {impl.BwValue, 2},
		{impl.RgSlot, 1}, {impl.RgNote, 2}, {impl.RgRoot, 3}, {impl.RgBlock, 4},
	} {
		if c[0] != c[1] {
			t.Errorf("constant %d is %d, not %d", i, c[0], c[1])
		}
	}
}

func TestEveryPlaceIsInOneRegion(t *testing.T) {
	eachRightPlan(func(p impl.Plan) {
		want := laidOut(p)
		if got := impl.SizeOf(p); got != int64(len(want)) {
			t.Fatalf("SizeOf(%+v) is %d, not %d", p, got, len(want))
		}
		met := map[impl.Region]int64{}
		for at := range impl.SizeOf(p) {
			r := impl.RegionOf(p, at)
			if r != want[at] {
				t.Fatalf("RegionOf(%+v, %d) is %+v, not %+v", p, at, r, want[at])
			}
			if first, ok := met[r]; ok {
				t.Fatalf("%+v: places %d and %d are both %+v", p, first, at, r)
			}
			met[r] = at
			if back := placeOf(p, r); back != at {
				t.Fatalf("%+v: %+v leads to %d, not to %d", p, r, back, at)
			}
		}
	})
}

func TestPlanCounts(t *testing.T) {
	for _, c := range []struct {
		p            impl.Plan
		blocks, size int64
	}{
		{leastPlan, 1, 7 + 1 + 6 + 3},
		{usualPlan, 7, 21 + 9 + 7 + 15 + 10},
		{noLarge, 9, 28 + 16 + 8 + 27},
		{mostPlan, 250, 448 + 4096 + 13 + 600 + 250},
	} {
		if !impl.PlanOk(c.p) {
			t.Errorf("PlanOk(%+v) is false", c.p)
		}
		if got := impl.BlocksIn(c.p); got != c.blocks {
			t.Errorf("BlocksIn(%+v) is %d, not %d", c.p, got, c.blocks)
		}
		if got := impl.SizeOf(c.p); got != c.size {
			t.Errorf("SizeOf(%+v) is %d, not %d", c.p, got, c.size)
		}
	}
}

// The first and the last of each kind of thing, by places that were counted by hand.
func TestPlacesOfTheUsualPlan(t *testing.T) {
	p := usualPlan
	for _, c := range []struct {
		at int64
		r  impl.Region
	}{
		{0, impl.Region{Kind: 1, Item: 0, Field: 0}},
		{6, impl.Region{Kind: 1, Item: 0, Field: 6}},
		{7, impl.Region{Kind: 1, Item: 1, Field: 0}},
		{20, impl.Region{Kind: 1, Item: 2, Field: 6}},
		{21, impl.Region{Kind: 2, Item: 0, Field: 0}},
		{23, impl.Region{Kind: 2, Item: 0, Field: 2}},
		{24, impl.Region{Kind: 2, Item: 1, Field: 0}},
		{29, impl.Region{Kind: 2, Item: 2, Field: 2}},
		{30, impl.Region{Kind: 3, Field: 0}},
		{34, impl.Region{Kind: 3, Field: 4}},
		{35, impl.Region{Kind: 3, Field: 5}},
		{36, impl.Region{Kind: 3, Field: 6}},
		{37, impl.Region{Kind: 4, Item: 1, Field: 0}},
		{39, impl.Region{Kind: 4, Item: 1, Field: 2}},
		{51, impl.Region{Kind: 4, Item: 5, Field: 2}},
		{52, impl.Region{Kind: 4, Item: 6, Field: 0}},
		{56, impl.Region{Kind: 4, Item: 6, Field: 4}},
		{57, impl.Region{Kind: 4, Item: 7, Field: 0}},
		{61, impl.Region{Kind: 4, Item: 7, Field: 4}},
	} {
		if got := impl.RegionOf(p, c.at); got != c.r {
			t.Errorf("RegionOf(%d) is %+v, not %+v", c.at, got, c.r)
		}
		if got := placeOf(p, c.r); got != c.at {
			t.Errorf("%+v lies at %d, not at %d", c.r, got, c.at)
		}
	}
}

func TestClasses(t *testing.T) {
	eachRightPlan(func(p impl.Plan) {
		for b := int64(-1); b <= p.Small+p.Large+1; b++ {
			want := int64(0)
			switch {
			case b < 1 || b > p.Small+p.Large:
				want = -1
			case b > p.Small:
				want = 1
			}
			if got := impl.ClassOf(p, b); got != want {
				t.Fatalf("ClassOf(%+v, %d) is %d, not %d", p, b, got, want)
			}
		}
	})
}

func TestPlanEdges(t *testing.T) {
	for _, l := range planLimits {
		for _, p := range usualPlans {
			for _, v := range []int64{l.least, l.least + 1, l.most - 1, l.most} {
				*l.at(&p) = v
				if !impl.PlanOk(p) {
					t.Errorf("%s: PlanOk(%+v) is false", l.name, p)
				}
			}
		}
	}
}

func TestWrongPlans(t *testing.T) {
	eachWrongPlan(func(name string, p impl.Plan) {
		if impl.PlanOk(p) {
			t.Errorf("%s: PlanOk(%+v) is true", name, p)
		}
		for i, got := range []int64{
			impl.BlocksIn(p), impl.SizeOf(p), impl.SlotAt(p, 0, 0), impl.NoteAt(p, 0, 0), impl.RootAt(p, 0), impl.RootAt(p, 1),
			impl.RootAt(p, 2), impl.RootAt(p, 5), impl.BlockAt(p, 1, 0), impl.BlockAt(p, 1, 2), impl.BlockAt(p, p.Small+1, 0), impl.ClassOf(p, 1),
		} {
			if got != -1 {
				t.Errorf("%s: answer %d of %+v is %d, not -1", name, i, p, got)
			}
		}
		for _, at := range append([]int64{0, 1, 7, 20, 100, 500}, nowhere...) {
			if r := impl.RegionOf(p, at); r != (impl.Region{}) {
				t.Errorf("%s: RegionOf(%+v, %d) is %+v", name, p, at, r)
			}
		}
	})
}

func wantNone(t *testing.T, p impl.Plan, what string, a, b, got int64) {
	t.Helper()
	if got != -1 {
		t.Errorf("%+v: %s %d, %d is at %d, not -1", p, what, a, b, got)
	}
}

// Each number is one past its last, or far out, beside another that is right: the first and the last.
func TestNoSuchThing(t *testing.T) {
	past := func(n int64) []int64 { return append([]int64{n, n + 1}, nowhere...) }
	for _, p := range usualPlans {
		blocks := p.Small + p.Large
		for _, v := range past(p.Procs) {
			for _, other := range []int64{0, p.Procs - 1, v} {
				wantNone(t, p, "note", v, other, impl.NoteAt(p, v, other))
				wantNone(t, p, "note", other, v, impl.NoteAt(p, other, v))
			}
			for _, f := range []int64{0, 6, v + 7} {
				wantNone(t, p, "slot", v, f, impl.SlotAt(p, v, f))
			}
		}
		for _, v := range past(7) {
			wantNone(t, p, "slot", 0, v, impl.SlotAt(p, 0, v))
			wantNone(t, p, "slot", p.Procs-1, v, impl.SlotAt(p, p.Procs-1, v))
		}
		for _, v := range past(5 + p.Cells) {
			wantNone(t, p, "root", v, 0, impl.RootAt(p, v))
		}
		for _, v := range append([]int64{0}, past(blocks+1)...) {
			for _, f := range []int64{0, 1, 2} {
				wantNone(t, p, "block", v, f, impl.BlockAt(p, v, f))
			}
			wantNone(t, p, "class of block", v, 0, impl.ClassOf(p, v))
		}
		for b := int64(1); b <= blocks; b++ {
			words := int64(3)
			if b > p.Small {
				words = 5
			}
			for _, f := range past(words) {
				wantNone(t, p, "block", b, f, impl.BlockAt(p, b, f))
			}
		}
		for _, at := range past(int64(len(laidOut(p)))) {
			if r := impl.RegionOf(p, at); r != (impl.Region{}) {
				t.Errorf("RegionOf(%+v, %d) is %+v", p, at, r)
			}
		}
	}
}

// Keep is how many blocks a hand may hold back; it has no words of its own.
func TestKeepMovesNothing(t *testing.T) {
	for _, p := range usualPlans {
		for keep := int64(1); keep <= 32; keep++ {
			q := p
			q.Keep = keep
			if impl.SizeOf(q) != impl.SizeOf(p) || impl.BlockAt(q, 1, 0) != impl.BlockAt(p, 1, 0) {
				t.Fatalf("%+v lies otherwise than %+v", q, p)
			}
		}
	}
}
