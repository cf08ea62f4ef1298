package tests

import (
	"math"
	"testing"

	"loop.example/g00650/impl"
)

// The limits are written out here, so that a changed constant is seen.
const (
	topByte  = 255
	topIndex = 65535
	topSeq   = 4294967295
)

// Each field with its neighbours' edges: 0, 1, a bit pattern of no symmetry, one below the limit, the limit.
var (
	rightBytes   = []int64{0, 1, 0x5a, 0x80, topByte - 1, topByte}
	rightIndexes = []int64{0, 1, 0x5ac3, 0x8000, topIndex - 1, topIndex}
	rightSeqs    = []int64{0, 1, 0x5ac31e87, 0x80000000, topSeq - 1, topSeq}
)

// Wrong for every field: those out of range of the widest one, and what would look right if only low bits were taken.
var wrongAnywhere = []int64{
	-1, -2, -topByte, -topByte - 1, -topIndex - 1, -topSeq - 1,
	topSeq + 1, topSeq + 2, 1 << 40, 1 << 48, 1 << 56,
	math.MinInt64, math.MinInt64 + 1, math.MaxInt64 - 1, math.MaxInt64,
}

func eachRightWord(f func(w impl.Word)) {
	for _, k := range rightBytes {
		for _, p := range rightBytes {
			for _, i := range rightIndexes {
				for _, s := range rightSeqs {
					f(impl.Word{Kind: k, Pid: p, Index: i, Seq: s})
				}
			}
		}
	}
}

// eachBits gives all 64 bits 0 and all 1, each bit alone, each bit missing, and many mixed words.
func eachBits(f func(x uint64)) {
	f(0)
	f(math.MaxUint64)
	for i := range 64 {
		f(1 << i)
		f(^(uint64(1) << i))
	}
	x := uint64(0x9e3779b97f4a7c15)
	for range 20000 {
		x ^= x << 13
		x ^= x >> 7
		x ^= x << 17
		f(x)
	}
}

func TestWordLimits(t *testing.T) {
	if impl.MaxByte != topByte || impl.MaxIndex != topIndex || impl.MaxSeq != topSeq {
		t.Fatal(impl.MaxByte, impl.MaxIndex, uint64(impl.MaxSeq))
	}
}

func TestUnpackOfPackIsTheWord(t *testing.T) {
	eachRightWord(func(w impl.Word) {
		if !impl.WordOk(w) {
			t.Fatalf("WordOk(%+v) is false", w)
		}
		x, ok := impl.Pack(w)
		if !ok {
			t.Fatalf("Pack(%+v) is false", w)
		}
		if got := impl.Unpack(x); got != w {
			t.Fatalf("Unpack(%#x) is %+v, not %+v", x, got, w)
		}
	})
}

func TestPackOfUnpackIsTheBits(t *testing.T) {
	eachBits(func(x uint64) {
		w := impl.Unpack(x)
		if !impl.WordOk(w) {
			t.Fatalf("Unpack(%#x) is %+v, which is not right", x, w)
		}
		if got, ok := impl.Pack(w); !ok || got != x {
			t.Fatalf("Pack(Unpack(%#x)) is %#x, %v", x, got, ok)
		}
	})
}

func TestWordLayout(t *testing.T) {
	for _, c := range []struct {
		w impl.Word
		x uint64
	}{
		{impl.Word{}, 0},
		{impl.Word{Kind: topByte, Pid: topByte, Index: topIndex, Seq: topSeq}, 0xffffffffffffffff},
		{impl.Word{Kind: 1}, 0x0100000000000000},
		{impl.Word{Pid: 1}, 0x0001000000000000},
		{impl.Word{Index: 1}, 0x0000000100000000},
		{impl.Word{Seq: 1}, 0x0000000000000001},
		{impl.Word{Kind: topByte}, 0xff00000000000000},
		{impl.Word{Pid: topByte}, 0x00ff000000000000},
		{impl.Word{Index: topIndex}, 0x0000ffff00000000},
		{impl.Word{Seq: topSeq}, 0x00000000ffffffff},
		{impl.Word{Kind: 0x12, Pid: 0x34, Index: 0x5678, Seq: 0x9abcdef0}, 0x123456789abcdef0},
		{impl.Word{Kind: 0xfe, Pid: 0xdc, Index: 0xba98, Seq: 0x76543210}, 0xfedcba9876543210},
	} {
		if x, ok := impl.Pack(c.w); !ok || x != c.x {
			t.Errorf("Pack(%+v) is %#x, %v, not %#x", c.w, x, ok, c.x)
		}
		if w := impl.Unpack(c.x); w != c.w {
			t.Errorf("Unpack(%#x) is %+v, not %+v", c.x, w, c.w)
		}
	}
}

// A wrong field is tried beside right ones at 0, in the middle and at the limits.
func TestWrongWords(t *testing.T) {
	beside := []impl.Word{
		{},
		{Kind: 7, Pid: 3, Index: 500, Seq: 70000},
		{Kind: topByte, Pid: topByte, Index: topIndex, Seq: topSeq},
	}
	fields := []struct {
		name string
		top  int64
		at   func(w *impl.Word) *int64
	}{
		{"Kind", topByte, func(w *impl.Word) *int64 { return &w.Kind }},
		{"Pid", topByte, func(w *impl.Word) *int64 { return &w.Pid }},
		{"Index", topIndex, func(w *impl.Word) *int64 { return &w.Index }},
		{"Seq", topSeq, func(w *impl.Word) *int64 { return &w.Seq }},
	}
	for _, f := range fields {
		wrong := append([]int64{f.top + 1, f.top + 2, 2*f.top + 1, 2*f.top + 2}, wrongAnywhere...)
		for _, w := range beside {
			for _, v := range wrong {
				*f.at(&w) = v
				wantWrong(t, f.name, w)
			}
		}
	}
	wantWrong(t, "all below", impl.Word{Kind: -1, Pid: -1, Index: -1, Seq: -1})
	wantWrong(t, "all past", impl.Word{Kind: topByte + 1, Pid: topByte + 1, Index: topIndex + 1, Seq: topSeq + 1})
}

func wantWrong(t *testing.T, name string, w impl.Word) {
	t.Helper()
	if impl.WordOk(w) {
		t.Errorf("%s: WordOk(%+v) is true", name, w)
	}
	if x, ok := impl.Pack(w); ok || x != 0 {
		t.Errorf("%s: Pack(%+v) is %#x, %v", name, w, x, ok)
	}
}

func TestBears(t *testing.T) {
	eachRightWord(func(w impl.Word) {
		x, _ := impl.Pack(w)
		otherPid, otherSeq := (w.Pid+1)%(topByte+1), (w.Seq+1)%(topSeq+1)
		if !impl.Bears(x, w.Pid, w.Seq) {
			t.Fatalf("%+v does not bear its own", w)
		}
		if impl.Bears(x, w.Pid, otherSeq) {
			t.Fatalf("%+v bears Seq %d", w, otherSeq)
		}
		if impl.Bears(x, otherPid, w.Seq) {
			t.Fatalf("%+v bears Pid %d", w, otherPid)
		}
		if impl.Bears(x, otherPid, otherSeq) {
			t.Fatalf("%+v bears Pid %d, Seq %d", w, otherPid, otherSeq)
		}
	})
}

// Kind and Index lie beside Pid and Seq, and must not be taken for them.
func TestBearsMindsNoOtherField(t *testing.T) {
	x, _ := impl.Pack(impl.Word{Kind: 9, Pid: 2, Index: 8, Seq: 4})
	for _, c := range []struct {
		pid, seq int64
		want     bool
	}{
		{2, 4, true}, {9, 4, false}, {2, 8, false}, {9, 8, false}, {8, 4, false}, {4, 2, false},
		{9<<8 | 2, 4, false}, {2, 8<<32 | 4, false},
	} {
		if got := impl.Bears(x, c.pid, c.seq); got != c.want {
			t.Errorf("Bears(%#x, %d, %d) is %v", x, c.pid, c.seq, got)
		}
	}
}

// No word bears what no Pid and no Seq can be, though the low bits be alike.
func TestBearsOutOfRange(t *testing.T) {
	eachRightWord(func(w impl.Word) {
		x, _ := impl.Pack(w)
		pids := append([]int64{topByte + 1, w.Pid + topByte + 1, w.Pid - topByte - 1}, wrongAnywhere...)
		for _, pid := range pids {
			if impl.Bears(x, pid, w.Seq) {
				t.Fatalf("%+v bears Pid %d", w, pid)
			}
		}
		seqs := append([]int64{w.Seq + topSeq + 1, w.Seq - topSeq - 1}, wrongAnywhere...)
		for _, seq := range seqs {
			if impl.Bears(x, w.Pid, seq) {
				t.Fatalf("%+v bears Seq %d", w, seq)
			}
		}
	})
}
