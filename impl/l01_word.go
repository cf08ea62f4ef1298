package impl

const MaxByte = 255
const MaxIndex = 65535
const MaxSeq = 4294967295

// How many bits lie below each field; the Seq has none below it.
const (
	kindShift  = 56
	pidShift   = 48
	indexShift = 32
)

type Word struct {
	Kind  int64
	Pid   int64
	Index int64
	Seq   int64
}

// WordOk needs no range of its own: a field out of range loses bits to its
// mask and so comes back changed.
func WordOk(w Word) bool { return Unpack(joined(w)) == w }

func Pack(w Word) (uint64, bool) {
	if !WordOk(w) {
		return 0, false
	}
	return joined(w), true
}

func Unpack(x uint64) Word {
	return Word{
		Kind:  int64(x >> kindShift & MaxByte),
		Pid:   int64(x >> pidShift & MaxByte),
		Index: int64(x >> indexShift & MaxIndex),
		Seq:   int64(x & MaxSeq),
	}
}

func Bears(x uint64, pid int64, seq int64) bool {
	w := Unpack(x)
	return w.Pid == pid && w.Seq == seq
}

// joined masks every field, so that one that is too wide spoils no neighbour.
func joined(w Word) uint64 {
	return uint64(w.Kind)&MaxByte<<kindShift |
		uint64(w.Pid)&MaxByte<<pidShift |
		uint64(w.Index)&MaxIndex<<indexShift |
		uint64(w.Seq)&MaxSeq
}
