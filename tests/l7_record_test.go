package tests

import (
	"encoding/binary"
	"fmt"
	"math"
	"math/rand/v2"
	"slices"
	"sync"
	"testing"

	"loop.example/belfry/impl"
)

// slowSum lays the six words in another way than the program does.
func slowSum(s impl.Slot) uint64 {
	var laid []byte
	for _, w := range []uint64{s.Seq, s.Size, s.Root.A, s.Root.B, s.Root.C, s.Root.D} {
		laid = binary.BigEndian.AppendUint64(laid, w)
	}
	return slowHash(string(laid)).A | 1
}

// slowRight asks for a slot's bounds one by one, by the numbers of the document.
func slowRight(s impl.Slot) bool {
	if s.Seq == 0 || s.Seq > 1000000000 || s.Size == 0 || s.Size > 256 {
		return false
	}
	return s.Sum == slowSum(s)
}

func slowTold(s impl.Slot, number int) (impl.Record, int) {
	return impl.Record{Seq: int(s.Seq), Size: int(s.Size), Root: s.Root}, number
}

func slowRead(d impl.Disk) (impl.Record, int) {
	one, two := slowRight(d.One), slowRight(d.Two)
	switch {
	case one && two && d.Two.Seq > d.One.Seq:
		return slowTold(d.Two, 2)
	case one:
		return slowTold(d.One, 1)
	case two:
		return slowTold(d.Two, 2)
	}
	return impl.Record{}, 0
}

// placeOf is nil where there is no such word.
func placeOf(d *impl.Disk, slot, word int) *uint64 {
	switch [2]int{slot, word} {
	case [2]int{1, 0}:
		return &d.One.Sum
	case [2]int{1, 1}:
		return &d.One.Seq
	case [2]int{1, 2}:
		return &d.One.Size
	case [2]int{1, 3}:
		return &d.One.Root.A
	case [2]int{1, 4}:
		return &d.One.Root.B
	case [2]int{1, 5}:
		return &d.One.Root.C
	case [2]int{1, 6}:
		return &d.One.Root.D
	case [2]int{2, 0}:
		return &d.Two.Sum
	case [2]int{2, 1}:
		return &d.Two.Seq
	case [2]int{2, 2}:
		return &d.Two.Size
	case [2]int{2, 3}:
		return &d.Two.Root.A
	case [2]int{2, 4}:
		return &d.Two.Root.B
	case [2]int{2, 5}:
		return &d.Two.Root.C
	case [2]int{2, 6}:
		return &d.Two.Root.D
	}
	return nil
}

func slowWrite(d impl.Disk, raws []impl.Raw) impl.Disk {
	for _, raw := range raws {
		if place := placeOf(&d, raw.Slot, raw.Word); place != nil {
			*place = raw.Value
		}
	}
	return d
}

func slowCut(d impl.Disk, raws []impl.Raw, cut int) impl.Disk {
	for at, raw := range raws {
		if at < cut {
			d = slowWrite(d, []impl.Raw{raw})
		}
	}
	return d
}

func slowRaws(d impl.Disk, size int, root impl.Digest) []impl.Raw {
	held, told := slowRead(d)
	if size < 1 || size > 256 || held.Seq == 1000000000 {
		return nil
	}
	slot := map[int]int{0: 1, 1: 2, 2: 1}[told]
	next := signed(impl.Slot{Seq: uint64(held.Seq + 1), Size: uint64(size), Root: root})
	return []impl.Raw{
		{Slot: slot, Word: 0, Value: 0},
		{Slot: slot, Word: 1, Value: next.Seq},
		{Slot: slot, Word: 2, Value: next.Size},
		{Slot: slot, Word: 3, Value: root.A},
		{Slot: slot, Word: 4, Value: root.B},
		{Slot: slot, Word: 5, Value: root.C},
		{Slot: slot, Word: 6, Value: root.D},
		{Slot: slot, Word: 0, Value: next.Sum},
	}
}

func slowMend(d impl.Disk) []impl.Raw {
	var out []impl.Raw
	for slot, right := range map[int]bool{1: slowRight(d.One), 2: slowRight(d.Two)} {
		for word := range 7 {
			if !right && *placeOf(&d, slot, word) != 0 {
				out = append(out, impl.Raw{Slot: slot, Word: word})
			}
		}
	}
	slices.SortFunc(out, func(a, b impl.Raw) int { return (a.Slot*7 + a.Word) - (b.Slot*7 + b.Word) })
	return out
}

// signed has the sum that it must have.
func signed(s impl.Slot) impl.Slot {
	s.Sum = slowSum(s)
	return s
}

func slotRoots() []impl.Digest {
	top := ^uint64(0)
	return []impl.Digest{
		{},
		{A: 9, D: 4},
		{A: 1, B: 2, C: 3, D: 4},
		{A: top, B: top, C: top, D: top},
		{A: 0xff00000000000000},
		{A: 0x123456789abcdef0, B: 0xfedcba9876543210, C: 0x00ff00ff00ff00ff, D: 0x8080808080808080},
		impl.TreeRoot([]string{"a", "b", "c"}),
	}
}

func rightSeqs() []uint64 {
	return []uint64{1, 2, 3, 255, 256, impl.RecordMaxSeq - 1, impl.RecordMaxSeq}
}

// wrongSeqs are out of the bounds; some have the low bytes of a number that is within.
func wrongSeqs() []uint64 {
	return []uint64{0, impl.RecordMaxSeq + 1, impl.RecordMaxSeq + 2, 1 << 31, 1<<32 + 1, 1 << 63, 1<<63 + 1, math.MaxUint64 - 1, math.MaxUint64}
}

func rightSlotSizes() []uint64 {
	return []uint64{1, 2, 5, 128, 255, 256}
}

func wrongSlotSizes() []uint64 {
	return []uint64{0, 257, 258, 511, 512, 1 << 16, 1<<32 + 1, 1 << 63, 1<<63 + 1, math.MaxUint64 - 1, math.MaxUint64}
}

func allRightSlots() []impl.Slot {
	var out []impl.Slot
	for _, seq := range rightSeqs() {
		for _, size := range rightSlotSizes() {
			for _, root := range slotRoots() {
				out = append(out, signed(impl.Slot{Seq: seq, Size: size, Root: root}))
			}
		}
	}
	return out
}

// fewRightSlots have each Seq at its bounds, and some two of one Seq.
func fewRightSlots() []impl.Slot {
	root, other := impl.Digest{A: 9, D: 4}, slotRoots()[5]
	return []impl.Slot{
		signed(impl.Slot{Seq: 1, Size: 1}),
		signed(impl.Slot{Seq: 1, Size: 256, Root: root}),
		signed(impl.Slot{Seq: 2, Size: 5, Root: root}),
		signed(impl.Slot{Seq: 2, Size: 5, Root: other}),
		signed(impl.Slot{Seq: 3, Size: 4, Root: other}),
		signed(impl.Slot{Seq: impl.RecordMaxSeq - 1, Size: 255, Root: other}),
		signed(impl.Slot{Seq: impl.RecordMaxSeq, Size: 256, Root: slotRoots()[3]}),
		signed(impl.Slot{Seq: impl.RecordMaxSeq, Size: 2, Root: root}),
	}
}

// tornSlots are a slot with some of its words left, the sum among them or not.
func tornSlots(s impl.Slot) []impl.Slot {
	var out []impl.Slot
	for left := range 1<<7 - 1 {
		d := impl.Disk{One: s}
		for word := range 7 {
			if left>>word&1 == 0 {
				*placeOf(&d, 1, word) = 0
			}
		}
		out = append(out, d.One)
	}
	return out
}

// outOfBounds have a right sum, and a Seq or a Size that is out of its bounds.
func outOfBounds() []impl.Slot {
	root := impl.Digest{A: 9, D: 4}
	var out []impl.Slot
	for _, seq := range wrongSeqs() {
		for _, size := range append(rightSlotSizes(), wrongSlotSizes()...) {
			out = append(out, signed(impl.Slot{Seq: seq, Size: size, Root: root}))
		}
	}
	for _, size := range wrongSlotSizes() {
		for _, seq := range rightSeqs() {
			out = append(out, signed(impl.Slot{Seq: seq, Size: size, Root: root}))
		}
	}
	return out
}

// wrongSums are a slot with all sums but its own that are told apart by one bit, and nought.
func wrongSums(s impl.Slot) []impl.Slot {
	own := slowSum(s)
	out := []impl.Slot{s, s, s, s}
	out[0].Sum, out[1].Sum, out[2].Sum, out[3].Sum = 0, ^own, own+2, own-2
	for bit := range 64 {
		s.Sum = own ^ 1<<bit
		out = append(out, s)
	}
	return out
}

func allWrongSlots() []impl.Slot {
	some := signed(impl.Slot{Seq: 7, Size: 5, Root: impl.Digest{A: 1, B: 2, C: 3, D: 4}})
	out := append([]impl.Slot{{}}, outOfBounds()...)
	for _, s := range append(fewRightSlots(), some) {
		out = append(out, wrongSums(s)...)
	}
	for _, s := range tornSlots(some) {
		if s != (impl.Slot{}) {
			out = append(out, s)
		}
	}
	return out
}

// fewWrongSlots have one of each way in which a slot is wrong.
func fewWrongSlots() []impl.Slot {
	root, top := impl.Digest{A: 9, D: 4}, ^uint64(0)
	whole := signed(impl.Slot{Seq: 7, Size: 5, Root: impl.Digest{A: 1, B: 2, C: 3, D: 4}})
	nought, last, other := whole, whole, whole
	nought.Sum, last.Sum, other.Sum = 0, whole.Sum-1, whole.Sum^1<<40
	return []impl.Slot{
		{},
		nought,
		last,
		other,
		{Sum: 1},
		{Sum: whole.Sum, Seq: whole.Seq},
		{Root: impl.Digest{D: 4}},
		{Size: 3, Root: impl.Digest{B: 1}},
		{Sum: top, Seq: top, Size: top, Root: impl.Digest{A: top, B: top, C: top, D: top}},
		signed(impl.Slot{Size: 5, Root: root}),
		signed(impl.Slot{Seq: impl.RecordMaxSeq + 1, Size: 5, Root: root}),
		signed(impl.Slot{Seq: top, Size: 5, Root: root}),
		signed(impl.Slot{Seq: 9, Root: root}),
		signed(impl.Slot{Seq: 9, Size: 257, Root: root}),
		signed(impl.Slot{Seq: impl.RecordMaxSeq, Size: top, Root: root}),
	}
}

// allDisks have every two of the few slots side by side: so no right slot, one, the other, both, either with the greater Seq, and both of one Seq.
func allDisks() []impl.Disk {
	slots := append(fewRightSlots(), fewWrongSlots()...)
	var out []impl.Disk
	for _, one := range slots {
		for _, two := range slots {
			out = append(out, impl.Disk{One: one, Two: two})
		}
	}
	return out
}

// wrongDisks have each wrong slot beside none, beside one that is right, and on either side.
func wrongDisks() []impl.Disk {
	right := signed(impl.Slot{Seq: 4, Size: 9, Root: slotRoots()[5]})
	var out []impl.Disk
	for _, wrong := range allWrongSlots() {
		out = append(out, impl.Disk{One: wrong}, impl.Disk{Two: wrong}, impl.Disk{One: wrong, Two: right}, impl.Disk{One: right, Two: wrong}, impl.Disk{One: wrong, Two: wrong})
	}
	return out
}

func manyDisks() []impl.Disk {
	return append(allDisks(), wrongDisks()...)
}

// edgeCuts are all places of so many writes, and numbers around them.
func edgeCuts(many int) []int {
	out := []int{-1, -2, many + 1, many + 2, math.MinInt, math.MinInt + 1, math.MaxInt, -1 << 32, 1 << 32}
	for cut := range many + 1 {
		out = append(out, cut)
	}
	return out
}

func rightSizes() []int {
	return []int{1, 2, 5, 255, 256}
}

// wrongSizes are out of the bounds; some have the low bytes of a number that is within.
func wrongSizes() []int {
	return []int{0, 257, 258, 512, -1, -2, -256, 1<<32 + 1, -1<<32 + 1, math.MinInt, math.MinInt + 1, math.MaxInt}
}

// readsAs says whether the disk tells this record in this slot.
func readsAs(d impl.Disk, want impl.Record, wantNumber int) error {
	if got, number := impl.RecordRead(d); got != want || number != wantNumber {
		return fmt.Errorf("%v in slot %d, not %v in slot %d", got, number, want, wantNumber)
	}
	return nil
}

func TestRecordLimits(t *testing.T) {
	if impl.RecordMaxSeq != 1000000000 {
		t.Error("RecordMaxSeq", impl.RecordMaxSeq)
	}
	words := []int{impl.WordSum, impl.WordSeq, impl.WordSize, impl.WordA, impl.WordB, impl.WordC, impl.WordD}
	if !slices.Equal(words, []int{0, 1, 2, 3, 4, 5, 6}) {
		t.Error("words", words)
	}
}

// The sum is of six words, not of the Sum that stands there.
func TestRecordSums(t *testing.T) {
	slots := append(allRightSlots(), allWrongSlots()...)
	r := newRand()
	for range 500 {
		slots = append(slots, impl.Slot{Sum: r.Uint64(), Seq: r.Uint64(), Size: r.Uint64(), Root: impl.Digest{A: r.Uint64(), B: r.Uint64(), C: r.Uint64(), D: r.Uint64()}})
	}
	for _, s := range slots {
		if got := impl.SlotSum(s); got != slowSum(s) || got&1 != 1 {
			t.Fatalf("the sum of %v is %x, not %x", s, got, slowSum(s))
		}
		other := s
		other.Sum = ^s.Sum
		if impl.SlotSum(other) != impl.SlotSum(s) {
			t.Errorf("the sum of %v hangs on its Sum", s)
		}
	}
}

// Each word has its place in the sum, and each bit of it counts, but for bytes 255.
func TestRecordSumsOfUnlikeSlots(t *testing.T) {
	d := impl.Disk{One: impl.Slot{Seq: 7, Size: 5, Root: impl.Digest{A: 1, B: 2, C: 3, D: 4}}}
	sums := map[uint64]bool{impl.SlotSum(d.One): true}
	for word := 1; word < 7; word++ {
		for bit := range 64 {
			other := d
			*placeOf(&other, 1, word) ^= 1 << bit
			sums[impl.SlotSum(other.One)] = true
		}
	}
	for word := 1; word < 6; word++ {
		other := d
		one, next := placeOf(&other, 1, word), placeOf(&other, 1, word+1)
		*one, *next = *next, *one
		sums[impl.SlotSum(other.One)] = true
	}
	if len(sums) != 1+6*64+5 {
		t.Errorf("%d sums of %d slots", len(sums), 1+6*64+5)
	}
	left, right := impl.Slot{Seq: 1, Size: 1, Root: impl.Digest{A: 0xff00000000000000}}, impl.Slot{Seq: 1, Size: 1, Root: impl.Digest{D: 0xff}}
	if impl.SlotSum(left) != impl.SlotSum(right) {
		t.Error("a byte 255 counts in a sum")
	}
}

// P23: a slot is right just when its sum is, and its numbers are within their bounds.
func TestP23RightSlots(t *testing.T) {
	for _, s := range allRightSlots() {
		if !impl.SlotOk(s) {
			t.Errorf("%v is not right", s)
		}
	}
	for _, s := range allWrongSlots() {
		if impl.SlotOk(s) {
			t.Errorf("%v is right", s)
		}
	}
	for _, s := range fewWrongSlots() {
		if impl.SlotOk(s) {
			t.Errorf("%v is right", s)
		}
	}
	for seq := range uint64(300) {
		for size := range uint64(300) {
			s := signed(impl.Slot{Seq: seq, Size: size})
			if impl.SlotOk(s) != (seq >= 1 && size >= 1 && size <= 256) {
				t.Fatalf("Seq %d and Size %d: %v", seq, size, impl.SlotOk(s))
			}
		}
	}
}

// P23: a Sum of nought is never right, nor is one that differs in any bit; a whole slot that loses words is not.
func TestP23WrongSums(t *testing.T) {
	for _, s := range allRightSlots() {
		for _, wrong := range wrongSums(s) {
			if impl.SlotOk(wrong) {
				t.Fatalf("%v with the sum %x is right, and that of %v is %x", wrong, wrong.Sum, s, s.Sum)
			}
		}
	}
	some := signed(impl.Slot{Seq: 7, Size: 5, Root: impl.Digest{A: 1, B: 2, C: 3, D: 4}})
	for _, torn := range tornSlots(some) {
		if impl.SlotOk(torn) {
			t.Errorf("%v is right, torn of %v", torn, some)
		}
	}
	r := newRand()
	for range 5000 {
		s := impl.Slot{Seq: r.Uint64N(impl.RecordMaxSeq) + 1, Size: r.Uint64N(256) + 1, Root: impl.Digest{A: r.Uint64(), B: r.Uint64(), C: r.Uint64(), D: r.Uint64()}}
		if impl.SlotOk(s) || impl.SlotSum(s) == 0 || !impl.SlotOk(signed(s)) {
			t.Fatalf("%v is right, or its sum is nought, or it is not right with its sum", s)
		}
	}
}

// P23: what a disk says is what stands in a right slot of it.
func TestP23Told(t *testing.T) {
	for _, d := range manyDisks() {
		want, wantNumber := slowRead(d)
		if err := readsAs(d, want, wantNumber); err != nil {
			t.Fatalf("%v: %v", d, err)
		}
		got, number := impl.RecordRead(d)
		told := map[int]impl.Slot{1: d.One, 2: d.Two}[number]
		if number != 0 && (!impl.SlotOk(told) || told.Seq != uint64(got.Seq) || told.Size != uint64(got.Size) || told.Root != got.Root) {
			t.Errorf("%v: %v is told of slot %d", d, got, number)
		}
		if number == 0 && (impl.SlotOk(d.One) || impl.SlotOk(d.Two)) {
			t.Errorf("%v: nothing is told, and a slot is right", d)
		}
	}
}

// P23: disks written out.
func TestP23Known(t *testing.T) {
	root, other := impl.Digest{A: 9, D: 4}, impl.Digest{B: 8}
	two, three := signed(impl.Slot{Seq: 2, Size: 5, Root: root}), signed(impl.Slot{Seq: 3, Size: 4, Root: other})
	alike := signed(impl.Slot{Seq: 2, Size: 6, Root: other})
	torn := three
	torn.Sum = 0
	high := signed(impl.Slot{Seq: impl.RecordMaxSeq + 1, Size: 6, Root: other})
	second, third, sixth := impl.Record{Seq: 2, Size: 5, Root: root}, impl.Record{Seq: 3, Size: 4, Root: other}, impl.Record{Seq: 2, Size: 6, Root: other}
	for _, one := range []struct {
		d      impl.Disk
		want   impl.Record
		number int
	}{
		{impl.Disk{}, impl.Record{}, 0},
		{impl.Disk{One: two}, second, 1},
		{impl.Disk{Two: two}, second, 2},
		{impl.Disk{One: two, Two: three}, third, 2},
		{impl.Disk{One: three, Two: two}, third, 1},
		{impl.Disk{One: two, Two: alike}, second, 1},
		{impl.Disk{One: alike, Two: two}, sixth, 1},
		{impl.Disk{One: two, Two: two}, second, 1},
		{impl.Disk{One: two, Two: torn}, second, 1},
		{impl.Disk{One: torn, Two: two}, second, 2},
		{impl.Disk{One: torn, Two: torn}, impl.Record{}, 0},
		{impl.Disk{One: two, Two: high}, second, 1},
		{impl.Disk{One: high, Two: two}, second, 2},
		{impl.Disk{One: high}, impl.Record{}, 0},
	} {
		if err := readsAs(one.d, one.want, one.number); err != nil {
			t.Errorf("%v: %v", one.d, err)
		}
	}
}

// patternDisk has no two words alike.
func patternDisk() impl.Disk {
	var d impl.Disk
	for slot := 1; slot <= 2; slot++ {
		for word := range 7 {
			*placeOf(&d, slot, word) = uint64(100*slot + word)
		}
	}
	return d
}

// A raw write changes just its own word.
func TestRecordWritesOneWord(t *testing.T) {
	disks := append(allDisks()[:50], patternDisk(), impl.Disk{})
	for _, d := range disks {
		for slot := 1; slot <= 2; slot++ {
			for word := range 7 {
				for _, value := range []uint64{0, 1, 77, 1 << 63, math.MaxUint64} {
					want := d
					*placeOf(&want, slot, word) = value
					if got := impl.DiskWrite(d, []impl.Raw{{Slot: slot, Word: word, Value: value}}); got != want {
						t.Fatalf("%d into the word %d of slot %d of %v: %v", value, word, slot, d, got)
					}
				}
			}
		}
	}
}

// wrongRaws name no word that there is.
func wrongRaws() []impl.Raw {
	var out []impl.Raw
	for _, wrong := range []int{-1, -2, -7, 7, 8, 14, 255, 256, 257, 1<<32 + 1, -1<<32 + 1, math.MinInt, math.MinInt + 1, math.MaxInt} {
		out = append(out, impl.Raw{Slot: 1, Word: wrong, Value: 77}, impl.Raw{Slot: 2, Word: wrong, Value: 77}, impl.Raw{Slot: 3, Word: wrong, Value: 77}, impl.Raw{Slot: 0, Word: wrong, Value: 77})
	}
	for _, wrong := range []int{0, 3, 4, -1, -2, 255, 256, 257, 258, 1<<32 + 1, 1<<32 + 2, -1<<32 + 1, math.MinInt, math.MinInt + 1, math.MaxInt} {
		for word := range 7 {
			out = append(out, impl.Raw{Slot: wrong, Word: word, Value: 77})
		}
	}
	return append(out, impl.Raw{})
}

func TestRecordWrongRaws(t *testing.T) {
	d := patternDisk()
	for _, raw := range wrongRaws() {
		if got := impl.DiskWrite(d, []impl.Raw{raw}); got != d {
			t.Errorf("%v: %v", raw, got)
		}
	}
	if got := impl.DiskWrite(d, wrongRaws()); got != d {
		t.Errorf("all of them: %v", got)
	}
	good := impl.Raw{Slot: 2, Word: 3, Value: 5}
	want := d
	want.Two.Root.A = 5
	for _, raw := range wrongRaws() {
		if impl.DiskWrite(d, []impl.Raw{raw, good}) != want || impl.DiskWrite(d, []impl.Raw{good, raw}) != want {
			t.Errorf("%v: the write beside it is not done", raw)
		}
	}
}

// anyRaw is a raw write of any word, at times of one that is not there.
func anyRaw(r *rand.Rand) impl.Raw {
	if wrong := wrongRaws(); r.IntN(5) == 0 {
		return wrong[r.IntN(len(wrong))]
	}
	return impl.Raw{Slot: 1 + r.IntN(2), Word: r.IntN(7), Value: r.Uint64() >> r.IntN(64)}
}

func anyRaws(r *rand.Rand, many int) []impl.Raw {
	var out []impl.Raw
	for range many {
		out = append(out, anyRaw(r))
	}
	return out
}

// Writes are done in order: the last one into a word stays.
func TestRecordWritesInOrder(t *testing.T) {
	r := newRand()
	d := patternDisk()
	for many := range 200 {
		raws := anyRaws(r, many)
		if got := impl.DiskWrite(d, raws); got != slowWrite(d, raws) {
			t.Fatalf("%v: %v", raws, got)
		}
	}
	raws := []impl.Raw{{Slot: 1, Word: 2, Value: 5}, {Slot: 1, Word: 2, Value: 6}}
	if got := impl.DiskWrite(d, raws); got.One.Size != 6 {
		t.Errorf("the last write does not stay: %v", got)
	}
	if impl.DiskWrite(d, nil) != d || impl.DiskWrite(d, []impl.Raw{}) != d {
		t.Error("a disk is changed by no write")
	}
}

// A cut counts all writes, those that do nothing too.
func TestRecordCuts(t *testing.T) {
	r := newRand()
	for many := range 40 {
		raws := anyRaws(r, many)
		d := patternDisk()
		for _, cut := range edgeCuts(many) {
			if got := impl.RecordCut(d, raws, cut); got != slowCut(d, raws, cut) {
				t.Fatalf("%d of %v: %v", cut, raws, got)
			}
		}
	}
	d := patternDisk()
	raws := []impl.Raw{{Slot: 1, Word: 7, Value: 5}, {Slot: 1, Word: 1, Value: 6}, {Slot: 2, Word: 1, Value: 7}}
	one, all := d, d
	one.One.Seq, all.One.Seq, all.Two.Seq = 6, 6, 7
	for cut, want := range map[int]impl.Disk{-1: d, 0: d, 1: d, 2: one, 3: all, 4: all, math.MinInt: d, math.MaxInt: all} {
		if got := impl.RecordCut(d, raws, cut); got != want {
			t.Errorf("%d writes: %v", cut, got)
		}
	}
	for _, cut := range edgeCuts(0) {
		if impl.RecordCut(d, nil, cut) != d {
			t.Errorf("%d of no writes change a disk", cut)
		}
	}
}

// P21: which writes keep a record, and in which slot.
func TestP21Writes(t *testing.T) {
	for _, d := range manyDisks() {
		for _, size := range rightSizes() {
			for _, root := range slotRoots()[:6] {
				if got := impl.RecordRaws(d, size, root); !slices.Equal(got, slowRaws(d, size, root)) {
					t.Fatalf("%v, size %d and root %v: %v, not %v", d, size, root, got, slowRaws(d, size, root))
				}
			}
		}
	}
	for size := -3; size <= 260; size++ {
		want := 0
		if size >= 1 && size <= 256 {
			want = 8
		}
		if got := impl.RecordRaws(impl.Disk{}, size, impl.Digest{}); len(got) != want {
			t.Errorf("size %d: %d writes", size, len(got))
		}
	}
}

// P21: writes written out.
func TestP21Known(t *testing.T) {
	root := impl.Digest{A: 9, B: 8, C: 7, D: 6}
	two, three := signed(impl.Slot{Seq: 2, Size: 5, Root: root}), signed(impl.Slot{Seq: 3, Size: 4})
	torn := three
	torn.Sum = 0
	last := signed(impl.Slot{Seq: impl.RecordMaxSeq - 1, Size: 5, Root: root})
	for _, one := range []struct {
		d    impl.Disk
		slot int
		seq  uint64
	}{
		{impl.Disk{}, 1, 1},
		{impl.Disk{One: two}, 2, 3},
		{impl.Disk{Two: two}, 1, 3},
		{impl.Disk{One: two, Two: three}, 1, 4},
		{impl.Disk{One: three, Two: two}, 2, 4},
		{impl.Disk{One: two, Two: two}, 2, 3},
		{impl.Disk{One: torn, Two: two}, 1, 3},
		{impl.Disk{One: two, Two: torn}, 2, 3},
		{impl.Disk{One: torn}, 1, 1},
		{impl.Disk{Two: torn}, 1, 1},
		{impl.Disk{One: last}, 2, impl.RecordMaxSeq},
		{impl.Disk{One: signed(impl.Slot{Seq: impl.RecordMaxSeq, Size: 257}), Two: two}, 1, 3},
		{impl.Disk{One: two, Two: signed(impl.Slot{Seq: impl.RecordMaxSeq + 1, Size: 5})}, 2, 3},
	} {
		sum := slowSum(impl.Slot{Seq: one.seq, Size: 11, Root: root})
		var want []impl.Raw
		for word, value := range []uint64{0, one.seq, 11, 9, 8, 7, 6} {
			want = append(want, impl.Raw{Slot: one.slot, Word: word, Value: value})
		}
		want = append(want, impl.Raw{Slot: one.slot, Value: sum})
		if got := impl.RecordRaws(one.d, 11, root); !slices.Equal(got, want) {
			t.Errorf("%v: %v, not %v", one.d, got, want)
		}
	}
}

// P21: a size that is out of its bounds has no writes, and no record comes behind the last Seq.
func TestP21NoWrites(t *testing.T) {
	for _, d := range allDisks() {
		for _, size := range wrongSizes() {
			if got := impl.RecordRaws(d, size, impl.Digest{A: 1}); len(got) != 0 {
				t.Fatalf("%v, size %d: %v", d, size, got)
			}
		}
		if held, _ := impl.RecordRead(d); held.Seq == impl.RecordMaxSeq {
			for _, size := range append(wrongSizes(), rightSizes()...) {
				if got := impl.RecordRaws(d, size, impl.Digest{A: 1}); len(got) != 0 {
					t.Fatalf("%v, size %d: %v", d, size, got)
				}
			}
		}
	}
	end := signed(impl.Slot{Seq: impl.RecordMaxSeq, Size: 3})
	for _, d := range []impl.Disk{{One: end}, {Two: end}, {One: end, Two: end}, {One: end, Two: signed(impl.Slot{Seq: 1, Size: 1})}, {One: signed(impl.Slot{Seq: 1, Size: 1}), Two: end}} {
		if got := impl.RecordRaws(d, 5, impl.Digest{}); len(got) != 0 {
			t.Errorf("%v: %v", d, got)
		}
	}
}

// P21: wherever the writes are cut, the record is as it was or the new one.
func TestP21Cut(t *testing.T) {
	for _, d := range manyDisks() {
		ahead, told := impl.RecordRead(d)
		if ahead.Seq == impl.RecordMaxSeq {
			continue
		}
		for _, size := range []int{1, 5, 256} {
			for _, root := range slotRoots()[:4] {
				raws := impl.RecordRaws(d, size, root)
				if len(raws) != 8 {
					t.Fatalf("%v: %d writes", d, len(raws))
				}
				for cut := range 8 {
					if err := readsAs(impl.RecordCut(d, raws, cut), ahead, told); err != nil {
						t.Fatalf("%v, size %d, %d of the writes: %v", d, size, cut, err)
					}
				}
				number := 1
				if told == 1 {
					number = 2
				}
				want := impl.Record{Seq: ahead.Seq + 1, Size: size, Root: root}
				for _, whole := range []impl.Disk{impl.DiskWrite(d, raws), impl.RecordCut(d, raws, 8), impl.RecordCut(d, raws, 9)} {
					if err := readsAs(whole, want, number); err != nil {
						t.Fatalf("%v, size %d: %v", d, size, err)
					}
				}
			}
		}
	}
}

// P21: what was told stays on the disk beside the new record.
func TestP21OldRecordStays(t *testing.T) {
	for _, d := range allDisks() {
		_, told := impl.RecordRead(d)
		whole := impl.DiskWrite(d, impl.RecordRaws(d, 6, impl.Digest{C: 3}))
		if told == 1 && whole.One != d.One || told == 2 && whole.Two != d.Two || told == 0 && whole.Two != d.Two {
			t.Errorf("%v becomes %v", d, whole)
		}
	}
}

// P21: kept again and again, up to the last Seq, the slots take turns.
func TestP21Turns(t *testing.T) {
	for _, first := range []uint64{0, 1, 1000, impl.RecordMaxSeq - 20} {
		var d impl.Disk
		if first > 0 {
			d.Two = signed(impl.Slot{Seq: first, Size: 9})
		}
		for k := range 20 {
			size, root := k%256+1, impl.Digest{A: uint64(k), D: ^uint64(k)}
			d = impl.DiskWrite(d, impl.RecordRaws(d, size, root))
			want := impl.Record{Seq: int(first) + k + 1, Size: size, Root: root}
			if err := readsAs(d, want, k%2+1); err != nil {
				t.Fatalf("from %d on, behind %d: %v", first, k, err)
			}
		}
		if more := impl.RecordRaws(d, 1, impl.Digest{}); (len(more) == 0) != (first == impl.RecordMaxSeq-20) {
			t.Errorf("from %d on: %v", first, more)
		}
	}
}

// P22: which writes a recovery asks for.
func TestP22Writes(t *testing.T) {
	for _, d := range manyDisks() {
		if got := impl.RecordMend(d); !slices.Equal(got, slowMend(d)) {
			t.Fatalf("%v: %v, not %v", d, got, slowMend(d))
		}
	}
}

// P22: recoveries written out.
func TestP22Known(t *testing.T) {
	right := signed(impl.Slot{Seq: 2, Size: 5})
	off := right
	off.Sum--
	for _, one := range []struct {
		d    impl.Disk
		want []impl.Raw
	}{
		{impl.Disk{}, nil},
		{impl.Disk{One: right}, nil},
		{impl.Disk{Two: right}, nil},
		{impl.Disk{One: right, Two: right}, nil},
		{impl.Disk{One: off, Two: right}, []impl.Raw{{Slot: 1, Word: 0}, {Slot: 1, Word: 1}, {Slot: 1, Word: 2}}},
		{impl.Disk{One: right, Two: off}, []impl.Raw{{Slot: 2, Word: 0}, {Slot: 2, Word: 1}, {Slot: 2, Word: 2}}},
		{impl.Disk{Two: impl.Slot{Root: impl.Digest{D: 1}}}, []impl.Raw{{Slot: 2, Word: 6}}},
		{impl.Disk{One: impl.Slot{Sum: 1}, Two: impl.Slot{Size: 3, Root: impl.Digest{B: 4}}}, []impl.Raw{{Slot: 1, Word: 0}, {Slot: 2, Word: 2}, {Slot: 2, Word: 4}}},
		{impl.Disk{One: impl.Slot{Seq: 1, Root: impl.Digest{A: 1, C: 1}}}, []impl.Raw{{Slot: 1, Word: 1}, {Slot: 1, Word: 3}, {Slot: 1, Word: 5}}},
	} {
		if got := impl.RecordMend(one.d); !slices.Equal(got, one.want) {
			t.Errorf("%v: %v, not %v", one.d, got, one.want)
		}
	}
}

// P22: wherever a recovery is cut nothing is lost; and it goes on where it was cut.
func TestP22Cut(t *testing.T) {
	for _, d := range manyDisks() {
		ahead, told := impl.RecordRead(d)
		mends := impl.RecordMend(d)
		whole := impl.DiskWrite(d, mends)
		for _, cut := range edgeCuts(len(mends)) {
			half := impl.RecordCut(d, mends, cut)
			if err := readsAs(half, ahead, told); err != nil {
				t.Fatalf("%v, %d of the writes: %v", d, cut, err)
			}
			rest := mends[min(max(cut, 0), len(mends)):]
			if got := impl.RecordMend(half); !slices.Equal(got, rest) || impl.DiskWrite(half, got) != whole {
				t.Fatalf("%v, behind %d of the writes: %v, not %v", d, cut, got, rest)
			}
		}
	}
}

// P22: done whole, no more is asked for, and what is not right is zero; what is right stays.
func TestP22Whole(t *testing.T) {
	for _, d := range manyDisks() {
		whole := impl.DiskWrite(d, impl.RecordMend(d))
		if got := impl.RecordMend(whole); len(got) != 0 {
			t.Fatalf("%v: then %v", d, got)
		}
		want := d
		if !slowRight(d.One) {
			want.One = impl.Slot{}
		}
		if !slowRight(d.Two) {
			want.Two = impl.Slot{}
		}
		if whole != want {
			t.Fatalf("%v: mended %v", d, whole)
		}
	}
}

// failures holds a disk, and what it must tell.
type failures struct {
	disk impl.Disk
	want impl.Record
	told int
}

func failuresOf(d impl.Disk) failures {
	want, told := slowRead(d)
	return failures{disk: d, want: want, told: told}
}

func (f *failures) keep(size int, root impl.Digest, cut int) error {
	raws := impl.RecordRaws(f.disk, size, root)
	// Behind the last Seq nothing is kept any more.
	if f.want.Seq == impl.RecordMaxSeq {
		if len(raws) != 0 {
			return fmt.Errorf("%d writes behind the last Seq", len(raws))
		}
	} else if cut >= 8 {
		f.want = impl.Record{Seq: f.want.Seq + 1, Size: size, Root: root}
		f.told = map[int]int{0: 1, 1: 2, 2: 1}[f.told]
	}
	f.disk = impl.RecordCut(f.disk, raws, cut)
	return readsAs(f.disk, f.want, f.told)
}

func (f *failures) mend(cut int) error {
	f.disk = impl.RecordCut(f.disk, impl.RecordMend(f.disk), cut)
	return readsAs(f.disk, f.want, f.told)
}

// rowDisks are those from which rows of failures begin.
func rowDisks() []impl.Disk {
	right, wrong := fewRightSlots(), fewWrongSlots()
	return []impl.Disk{
		{},
		{One: right[2]},
		{Two: right[2]},
		{One: right[2], Two: right[4]},
		{One: right[4], Two: right[2]},
		{One: right[2], Two: right[3]},
		{One: wrong[1], Two: right[4]},
		{One: right[4], Two: wrong[2]},
		{One: wrong[8], Two: wrong[14]},
		{One: right[5], Two: right[4]},
		{One: right[0], Two: right[5]},
		{One: right[6]},
	}
}

// P21, P22: kept, cut, mended and cut again, and kept again, at each cut.
func TestP21P22Rows(t *testing.T) {
	first, second := slotRoots()[2], slotRoots()[5]
	for _, start := range rowDisks() {
		for keepCut := range 9 {
			for mendCut := range 15 {
				for againCut := range 9 {
					f := failuresOf(start)
					for step, do := range []func() error{
						func() error { return f.keep(5, first, keepCut) },
						func() error { return f.mend(mendCut) },
						func() error { return f.keep(7, second, againCut) },
						func() error { return f.mend(14) },
						func() error { return f.keep(8, first, 8) },
					} {
						if err := do(); err != nil {
							t.Fatalf("%v, cuts %d, %d and %d, step %d: %v", start, keepCut, mendCut, againCut, step, err)
						}
					}
				}
			}
		}
	}
}

// P21, P22: a recovery that is cut again and again loses nothing.
func TestP22CutAgainAndAgain(t *testing.T) {
	for _, start := range rowDisks() {
		for cut := range 9 {
			f := failuresOf(start)
			if err := f.keep(5, slotRoots()[2], cut); err != nil {
				t.Fatalf("%v, cut %d: %v", start, cut, err)
			}
			for round := range 16 {
				if err := f.mend(1); err != nil {
					t.Fatalf("%v, cut %d, round %d: %v", start, cut, round, err)
				}
			}
			if more := impl.RecordMend(f.disk); len(more) != 0 {
				t.Errorf("%v, cut %d: %v", start, cut, more)
			}
		}
	}
}

// P21, P22: long rows of anything, held against what must be told.
func TestP21P22Histories(t *testing.T) {
	r := newRand()
	roots := slotRoots()
	for _, start := range allDisks() {
		f := failuresOf(start)
		for step := range 30 {
			var err error
			if cut := r.IntN(12) - 1; r.IntN(3) == 0 {
				err = f.mend(cut)
			} else {
				err = f.keep(r.IntN(256)+1, roots[r.IntN(len(roots))], cut)
			}
			if err != nil {
				t.Fatalf("%v, step %d: %v", start, step, err)
			}
		}
	}
}

// recordAnswers are all that can be answered to a disk and to raw writes.
type recordAnswers struct {
	raws  [][]impl.Raw
	disks []impl.Disk
}

// askedSizes are two that have writes, unlike ones, and two that have none.
func askedSizes() []int {
	return []int{1, 256, 0, 257}
}

func askRecord(d impl.Disk, raws []impl.Raw) recordAnswers {
	impl.SlotSum(d.One)
	impl.SlotOk(d.Two)
	impl.RecordRead(d)
	var out recordAnswers
	for _, size := range askedSizes() {
		out.raws = append(out.raws, impl.RecordRaws(d, size, impl.Digest{A: 9, D: 4}))
	}
	out.raws = append(out.raws, impl.RecordMend(d))
	out.disks = append(out.disks, impl.DiskWrite(d, raws))
	for _, cut := range edgeCuts(len(raws)) {
		out.disks = append(out.disks, impl.RecordCut(d, raws, cut))
	}
	return out
}

// slowAnswers are what must be answered; they share no memory with what is answered.
func slowAnswers(d impl.Disk, raws []impl.Raw) recordAnswers {
	var out recordAnswers
	for _, size := range askedSizes() {
		out.raws = append(out.raws, slowRaws(d, size, impl.Digest{A: 9, D: 4}))
	}
	out.raws = append(out.raws, slowMend(d))
	out.disks = append(out.disks, slowWrite(d, raws))
	for _, cut := range edgeCuts(len(raws)) {
		out.disks = append(out.disks, slowCut(d, raws, cut))
	}
	return out
}

func (a recordAnswers) like(b recordAnswers) bool {
	return slices.EqualFunc(a.raws, b.raws, slices.Equal[[]impl.Raw]) && slices.Equal(a.disks, b.disks)
}

func (a recordAnswers) writeOver() {
	for _, raws := range a.raws {
		scribbleRaws(raws)
	}
}

func scribbleRaws(raws []impl.Raw) {
	raws = raws[:cap(raws)]
	for k := range raws {
		raws[k] = impl.Raw{Slot: 2, Word: k % 7, Value: 99}
	}
}

// Raw writes lie ahead of marks: neither they nor the marks are written over, and no mark is done, however great the cut.
func TestRecordWritesNoArgument(t *testing.T) {
	r := newRand()
	mark := impl.Raw{Slot: 1, Word: 1, Value: 424242}
	for _, d := range allDisks() {
		raws := append(slowMend(d), anyRaws(r, r.IntN(9))...)
		laid, whole := withRoom(raws, mark)
		ahead := slices.Clone(whole)
		got := askRecord(d, laid)
		if !slices.Equal(whole, ahead) {
			t.Fatalf("%v: raw writes are written into", d)
		}
		if want := slowAnswers(d, raws); !got.like(want) {
			t.Fatalf("%v: %v, not %v", d, got, want)
		}
	}
}

// What was answered stays when the raw writes, or another answer, are written over, spare room included.
func TestRecordAnswersAreNewMemory(t *testing.T) {
	r := newRand()
	for _, d := range allDisks() {
		raws := anyRaws(r, 8)
		want := slowAnswers(d, raws)
		laid, whole := withRoom(raws, impl.Raw{Slot: 1, Word: 2, Value: 7})
		ahead := slices.Clone(whole)
		first, second := askRecord(d, laid), askRecord(d, laid)
		first.writeOver()
		if !slices.Equal(whole, ahead) || !second.like(want) {
			t.Fatalf("%v: answers share memory", d)
		}
		scribbleRaws(whole)
		if !second.like(want) || !askRecord(d, raws).like(want) {
			t.Fatalf("%v: an answer changes with its arguments", d)
		}
	}
}

// The writes of a recovery can be written over one by one: each answer has writes of its own.
func TestRecordOwnWrites(t *testing.T) {
	d := impl.Disk{One: fewWrongSlots()[8], Two: fewWrongSlots()[8]}
	mends, raws := impl.RecordMend(d), impl.RecordRaws(d, 5, impl.Digest{A: 1})
	scribbleRaws(mends)
	if want := slowRaws(d, 5, impl.Digest{A: 1}); !slices.Equal(raws, want) {
		t.Errorf("%v, not %v", raws, want)
	}
	scribbleRaws(raws)
	if got := impl.RecordMend(d); !slices.Equal(got, slowMend(d)) {
		t.Errorf("%v, not %v", got, slowMend(d))
	}
}

// Nothing is kept between two calls: not from what failed, not from another disk, and not where many ask at once.
func TestRecordNothingIsKept(t *testing.T) {
	disks := allDisks()
	raws := anyRaws(newRand(), 8)
	var want []recordAnswers
	for _, d := range disks {
		want = append(want, slowAnswers(d, raws))
	}
	var asked sync.WaitGroup
	wrong := make([]int, 8)
	for worker := range wrong {
		asked.Add(1)
		go func() {
			defer asked.Done()
			for k := range disks {
				at := (k*(2*worker+1) + worker) % len(disks)
				if !askRecord(disks[at], raws).like(want[at]) {
					wrong[worker]++
				}
			}
		}()
	}
	asked.Wait()
	if slices.Max(wrong) != 0 {
		t.Errorf("answers that changed: %v", wrong)
	}
}
