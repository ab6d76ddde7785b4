package tests

import (
	"fmt"
	"math"
	"math/big"
	"math/rand/v2"
	"slices"
	"strconv"
	"strings"
	"testing"

	"loop.example/belfry/impl"
)

// slowPlace is k modulo many, from 0 on, by numbers that have no least one.
func slowPlace(k, many int) int {
	return int(new(big.Int).Mod(big.NewInt(int64(k)), big.NewInt(int64(many))).Int64())
}

func slowWithout(letters []impl.Letter, at int) []impl.Letter {
	var out []impl.Letter
	for place, letter := range letters {
		if place != at {
			out = append(out, letter)
		}
	}
	return out
}

func slowWith(letters []impl.Letter, last impl.Letter) []impl.Letter {
	return append(slices.Clone(letters), last)
}

// sameBag takes an empty list and none for the same.
func sameBag(a, b impl.Bag) bool {
	return a.Room == b.Room && slices.Equal(a.Letters, b.Letters)
}

// withinRoom asks for a bag's bounds one by one, by the numbers of the document.
func withinRoom(b impl.Bag) bool {
	for _, l := range b.Letters {
		if l.From < 0 || l.From > 20 || l.To < 0 || l.To > 20 || len(l.Text) > 600 {
			return false
		}
	}
	return b.Room >= 1 && b.Room <= 64 && len(b.Letters) <= b.Room
}

// lettersOf are so many letters, no two of them alike.
func lettersOf(many int) []impl.Letter {
	var out []impl.Letter
	for k := range many {
		out = append(out, impl.Letter{From: k % 21, To: k * 8 % 21, Text: "letter " + strconv.Itoa(k)})
	}
	return out
}

func bagOf(room, many int) impl.Bag {
	return impl.Bag{Room: room, Letters: lettersOf(many)}
}

// edgeLetters are ordinary letters, and those at their bounds.
func edgeLetters() []impl.Letter {
	longest := strings.Repeat("w", impl.WireMaxText)
	return []impl.Letter{
		{},
		{From: 1, To: 2, Text: "one"},
		{From: 0, To: impl.BagMaxNode, Text: "up"},
		{From: impl.BagMaxNode, To: 0, Text: "down"},
		{From: impl.BagMaxNode, To: impl.BagMaxNode},
		{From: 3, To: 3, Text: longest},
		{From: impl.BagMaxNode, To: impl.BagMaxNode, Text: longest},
		{From: 0, To: 0, Text: strings.Repeat(blank, impl.WireMaxText)},
		{From: 4, To: 5, Text: "\x00"},
		{From: 5, To: 4, Text: "\xc3é"},
	}
}

// wrongLetters have one thing each that is out of its bounds.
func wrongLetters() map[string]impl.Letter {
	out := map[string]impl.Letter{
		"a byte more":   {From: 1, To: 2, Text: strings.Repeat("w", impl.WireMaxText+1)},
		"many bytes":    {From: 1, To: 2, Text: strings.Repeat("w", 70000)},
		"blanks alone":  {Text: strings.Repeat(blank, impl.WireMaxText+1)},
		"both too low":  {From: -1, To: -1},
		"both too high": {From: impl.BagMaxNode + 1, To: impl.BagMaxNode + 1},
		"all wrong":     {From: -1, To: impl.BagMaxNode + 1, Text: strings.Repeat("w", impl.WireMaxText+1)},
	}
	for _, node := range wrongNodes() {
		out[fmt.Sprint("from ", node)] = impl.Letter{From: node, To: 2, Text: "one"}
		out[fmt.Sprint("to ", node)] = impl.Letter{From: 1, To: node, Text: "one"}
	}
	return out
}

// wrongNodes are out of the bounds; some have the low bytes of a number that is within.
func wrongNodes() []int {
	return []int{-1, -2, -impl.BagMaxNode, impl.BagMaxNode + 1, impl.BagMaxNode + 2, 255, 256, 1<<32 + 1, -1<<32 + 1, math.MinInt, math.MinInt + 1, math.MaxInt}
}

// edgeBags have no letter, one, one less than there is room for, and all, in much room and in little.
func edgeBags() []impl.Bag {
	out := []impl.Bag{{Room: 1, Letters: []impl.Letter{}}, {Room: impl.BagMaxRoom, Letters: make([]impl.Letter, 0, 5)}}
	for _, room := range []int{1, 2, 3, 7, impl.BagMaxRoom - 1, impl.BagMaxRoom} {
		for _, many := range []int{0, 1, 2, room / 2, room - 1, room} {
			if many <= room {
				out = append(out, bagOf(room, many))
			}
		}
	}
	out = append(out,
		impl.Bag{Room: len(edgeLetters()), Letters: edgeLetters()},
		impl.Bag{Room: impl.BagMaxRoom, Letters: edgeLetters()},
		impl.Bag{Room: 5, Letters: slices.Repeat(lettersOf(1), 5)},
		impl.Bag{Room: 9, Letters: slices.Repeat(lettersOf(2), 4)},
		impl.Bag{Room: impl.BagMaxRoom, Letters: make([]impl.Letter, impl.BagMaxRoom)},
		impl.Bag{Room: impl.BagMaxRoom, Letters: slices.Repeat(edgeLetters()[6:7], impl.BagMaxRoom)},
	)
	return out
}

// smallBags are all of little room with letters of few kinds, alike ones too.
func smallBags() []impl.Bag {
	kinds := []impl.Letter{{From: 1, To: 2, Text: "a"}, {From: 2, To: 1, Text: "b"}, {From: 1, To: 2, Text: "c"}}
	var out []impl.Bag
	lists := [][]impl.Letter{nil}
	for many := range 5 {
		for _, list := range lists {
			for room := max(many, 1); room <= 5; room++ {
				out = append(out, impl.Bag{Room: room, Letters: list})
			}
		}
		var longer [][]impl.Letter
		for _, list := range lists {
			for _, kind := range kinds {
				longer = append(longer, slowWith(list, kind))
			}
		}
		lists = longer
	}
	return out
}

func okBags() []impl.Bag {
	return append(edgeBags(), smallBags()...)
}

// wrongBags have one thing each that is not ok.
func wrongBags() map[string]impl.Bag {
	out := map[string]impl.Bag{"nothing": {}}
	for _, room := range []int{0, -1, -2, -impl.BagMaxRoom, impl.BagMaxRoom + 1, impl.BagMaxRoom + 2, 256, 257, 1<<32 + 1, -1<<32 + 1, math.MinInt, math.MinInt + 1, math.MaxInt} {
		for _, many := range []int{0, 1, 2, impl.BagMaxRoom} {
			out[fmt.Sprint("room ", room, " with ", many)] = bagOf(room, many)
		}
	}
	for _, room := range []int{1, 2, 7, impl.BagMaxRoom - 1, impl.BagMaxRoom} {
		for _, more := range []int{1, 2, 300} {
			out[fmt.Sprint("room ", room, " and more by ", more)] = bagOf(room, room+more)
		}
	}
	for name, wrong := range wrongLetters() {
		for _, many := range []int{1, 2, 3, impl.BagMaxRoom} {
			for _, at := range []int{0, many / 2, many - 1} {
				for _, room := range []int{many, impl.BagMaxRoom} {
					b := bagOf(room, many)
					b.Letters[at] = wrong
					out[fmt.Sprint(name, " at ", at, " of ", many, " in ", room)] = b
				}
			}
		}
	}
	return out
}

// somePlaces are those within, around the ends, and the least and greatest numbers.
func somePlaces(many int) []int {
	out := []int{0, 1, -1, -2, many / 2, many - 1, many, many + 1, -many, -many - 1, 1 - many, 2 * many, -2 * many, 1000003, -1000003}
	return append(out, math.MinInt, math.MinInt+1, math.MaxInt, math.MaxInt-1, 1<<32, -1<<32, 1<<32+1)
}

func TestBagLimits(t *testing.T) {
	for name, pair := range map[string][2]int{
		"BagMaxRoom": {impl.BagMaxRoom, 64}, "BagMaxNode": {impl.BagMaxNode, 20}, "AlFork": {impl.AlFork, 1}, "AlGrowth": {impl.AlGrowth, 2}, "AlLeaves": {impl.AlLeaves, 3},
	} {
		if pair[0] != pair[1] {
			t.Errorf("%s is %d, not %d", name, pair[0], pair[1])
		}
	}
}

func TestBagLettersOk(t *testing.T) {
	for _, l := range edgeLetters() {
		if !impl.LetterOk(l) {
			t.Errorf("from %d to %d with %d bytes is not ok", l.From, l.To, len(l.Text))
		}
	}
	for node := -3; node <= impl.BagMaxNode+3; node++ {
		want := node >= 0 && node <= 20
		if impl.LetterOk(impl.Letter{From: node, To: 1}) != want || impl.LetterOk(impl.Letter{From: 1, To: node}) != want {
			t.Errorf("node %d: not %v", node, want)
		}
	}
	for size := range impl.WireMaxText + 5 {
		if impl.LetterOk(impl.Letter{Text: strings.Repeat("t", size)}) != (size <= 600) {
			t.Errorf("%d bytes: not %v", size, size <= 600)
		}
	}
	for name, l := range wrongLetters() {
		if impl.LetterOk(l) {
			t.Errorf("%s: a letter is ok", name)
		}
	}
}

// P18: what is ok, and what is not.
func TestP18BagsOk(t *testing.T) {
	for _, b := range okBags() {
		if !impl.BagOk(b) {
			t.Errorf("room %d with %d letters is not ok", b.Room, len(b.Letters))
		}
	}
	for room := -2; room <= impl.BagMaxRoom+2; room++ {
		for many := range impl.BagMaxRoom + 3 {
			if b := bagOf(room, many); impl.BagOk(b) != withinRoom(b) {
				t.Errorf("room %d with %d letters: %v", room, many, impl.BagOk(b))
			}
		}
	}
	for name, b := range wrongBags() {
		if impl.BagOk(b) {
			t.Errorf("%s: a bag is ok", name)
		}
	}
}

// P18: a bag that is not ok makes nothing, whatever is done with it.
func TestP18WrongBags(t *testing.T) {
	for name, b := range wrongBags() {
		for _, l := range edgeLetters() {
			if got, ok := impl.BagSend(b, l); ok || !sameBag(got, impl.Bag{}) {
				t.Errorf("%s: a letter is sent, room %d with %d", name, got.Room, len(got.Letters))
			}
		}
		for _, k := range somePlaces(len(b.Letters)) {
			if got, l, ok := impl.BagTake(b, k); ok || l != (impl.Letter{}) || !sameBag(got, impl.Bag{}) {
				t.Errorf("%s: %.40v is taken at %d, room %d with %d", name, l, k, got.Room, len(got.Letters))
			}
			if got, ok := impl.BagDouble(b, k); ok || !sameBag(got, impl.Bag{}) {
				t.Errorf("%s: what is at %d is doubled, room %d with %d", name, k, got.Room, len(got.Letters))
			}
		}
		for _, node := range append(wrongNodes(), 0, 1, 8, impl.BagMaxNode) {
			if got := impl.BagFor(b, node); len(got) != 0 {
				t.Errorf("%s: letters for %d at %v", name, node, got)
			}
		}
	}
}

// P18: a letter that is not ok makes nothing, in a bag that is ok and in one that is not, with room and without.
func TestP18WrongLetters(t *testing.T) {
	bags := edgeBags()
	for _, b := range wrongBags() {
		bags = append(bags, b)
	}
	for name, l := range wrongLetters() {
		for _, b := range bags {
			if got, ok := impl.BagSend(b, l); ok || !sameBag(got, impl.Bag{}) {
				t.Errorf("%s: sent into room %d with %d, and there is room %d with %d", name, b.Room, len(b.Letters), got.Room, len(got.Letters))
			}
		}
	}
}

// P18: a full bag stays as it was.
func TestP18FullBags(t *testing.T) {
	for room := 1; room <= impl.BagMaxRoom; room++ {
		full := bagOf(room, room)
		for _, l := range append(edgeLetters(), full.Letters[0], full.Letters[room-1]) {
			if got, ok := impl.BagSend(full, l); ok || !sameBag(got, full) {
				t.Errorf("room %d: one too many is sent, and there are %d", room, len(got.Letters))
			}
		}
		for _, k := range somePlaces(room) {
			if got, ok := impl.BagDouble(full, k); ok || !sameBag(got, full) {
				t.Errorf("room %d: what is at %d is doubled, and there are %d", room, k, len(got.Letters))
			}
		}
	}
}

// P18: a bag without letters stays as it was.
func TestP18EmptyBags(t *testing.T) {
	for room := 1; room <= impl.BagMaxRoom; room++ {
		for _, empty := range []impl.Bag{{Room: room}, {Room: room, Letters: []impl.Letter{}}, {Room: room, Letters: lettersOf(3)[:0]}} {
			for _, k := range somePlaces(0) {
				if got, l, ok := impl.BagTake(empty, k); ok || l != (impl.Letter{}) || !sameBag(got, empty) {
					t.Errorf("room %d: %v is taken at %d, and there are %d", room, l, k, len(got.Letters))
				}
				if got, ok := impl.BagDouble(empty, k); ok || !sameBag(got, empty) {
					t.Errorf("room %d: what is at %d is doubled, and there are %d", room, k, len(got.Letters))
				}
			}
			for node := range impl.BagMaxNode + 1 {
				if got := impl.BagFor(empty, node); len(got) != 0 {
					t.Errorf("room %d: letters for %d at %v", room, node, got)
				}
			}
		}
	}
}

// P18: filled letter by letter there are as many as there is room for, and no more.
func TestP18Filled(t *testing.T) {
	for room := 1; room <= impl.BagMaxRoom; room++ {
		sent, doubled := impl.Bag{Room: room}, bagOf(room, 1)
		for k, l := range lettersOf(room + 3) {
			var ok, too bool
			sent, ok = impl.BagSend(sent, l)
			if ok != (k < room) || !sameBag(sent, bagOf(room, min(k+1, room))) {
				t.Fatalf("room %d: %v at the letter %d, and there are %d", room, ok, k, len(sent.Letters))
			}
			doubled, too = impl.BagDouble(doubled, k)
			want := impl.Bag{Room: room, Letters: slices.Repeat(lettersOf(1), min(k+2, room))}
			if too != (k+1 < room) || !sameBag(doubled, want) {
				t.Fatalf("room %d: doubled %v at %d, and there are %d", room, too, k, len(doubled.Letters))
			}
		}
	}
}

// history holds a bag, and what it must have by the slow ways.
type history struct {
	bag  impl.Bag
	want []impl.Letter
}

func (h *history) send(l impl.Letter) error {
	room := len(h.want) < h.bag.Room
	if room {
		h.want = slowWith(h.want, l)
	}
	got, ok := impl.BagSend(h.bag, l)
	return h.come("send", got, ok, room)
}

func (h *history) take(k int) error {
	var want impl.Letter
	some := len(h.want) > 0
	if some {
		at := slowPlace(k, len(h.want))
		want = h.want[at]
		h.want = slowWithout(h.want, at)
	}
	got, l, ok := impl.BagTake(h.bag, k)
	if l != want {
		return fmt.Errorf("%.40v is taken at %d, not %.40v", l, k, want)
	}
	return h.come("take", got, ok, some)
}

func (h *history) double(k int) error {
	can := len(h.want) > 0 && len(h.want) < h.bag.Room
	if can {
		h.want = slowWith(h.want, h.want[slowPlace(k, len(h.want))])
	}
	got, ok := impl.BagDouble(h.bag, k)
	return h.come("double", got, ok, can)
}

func (h *history) come(what string, got impl.Bag, ok, want bool) error {
	if ok != want || !sameBag(got, impl.Bag{Room: h.bag.Room, Letters: h.want}) {
		return fmt.Errorf("%s: %v and %d letters in room %d, not %v and %d in room %d", what, ok, len(got.Letters), got.Room, want, len(h.want), h.bag.Room)
	}
	if !impl.BagOk(got) || !withinRoom(got) {
		return fmt.Errorf("%s: a bag is not ok any more", what)
	}
	h.bag = got
	return nil
}

func anyPlace(r *rand.Rand, many int) int {
	if places := somePlaces(many); r.IntN(2) == 0 {
		return places[r.IntN(len(places))]
	}
	return int(r.Uint64())
}

func (h *history) any(r *rand.Rand, letters []impl.Letter) error {
	switch r.IntN(4) {
	case 0, 1:
		return h.send(letters[r.IntN(len(letters))])
	case 2:
		return h.take(anyPlace(r, len(h.want)))
	}
	return h.double(anyPlace(r, len(h.want)))
}

// P18: long histories of all that can be done, held against the slow ways.
func TestP18Histories(t *testing.T) {
	r := newRand()
	letters := append(lettersOf(9), edgeLetters()...)
	for room := 1; room <= impl.BagMaxRoom; room++ {
		h := history{bag: impl.Bag{Room: room}}
		most := 0
		for step := range 400 {
			if err := h.any(r, letters); err != nil {
				t.Fatalf("room %d, step %d: %v", room, step, err)
			}
			most = max(most, len(h.bag.Letters))
		}
		if most != room {
			t.Errorf("room %d was never full", room)
		}
	}
}

// P18: what was tried in vain does not count, in this bag and in others.
func TestP18NothingIsKept(t *testing.T) {
	full, l := bagOf(2, 2), lettersOf(3)[2]
	for range 100 {
		impl.BagSend(full, l)
		impl.BagDouble(full, 1)
		impl.BagSend(impl.Bag{}, l)
		impl.BagTake(impl.Bag{Room: 1}, 0)
	}
	less, _, ok := impl.BagTake(full, 0)
	again, too := impl.BagSend(less, l)
	other, three := impl.BagDouble(bagOf(2, 1), 0)
	if !ok || !too || !three || len(again.Letters) != 2 || len(other.Letters) != 2 {
		t.Errorf("%v %v %v: %d and %d letters", ok, too, three, len(again.Letters), len(other.Letters))
	}
}

// lastPlaces are numbers that are all the last place of so many.
func lastPlaces(many int) []int {
	return []int{many - 1, -1, 2*many - 1, -1 - many, -1 - 1000*many}
}

// P19: what is sent comes behind all others, and out again at the last place.
func TestP19Sent(t *testing.T) {
	for _, b := range okBags() {
		if len(b.Letters) == b.Room {
			continue
		}
		for _, l := range edgeLetters() {
			sent, ok := impl.BagSend(b, l)
			if !ok || !sameBag(sent, impl.Bag{Room: b.Room, Letters: slowWith(b.Letters, l)}) {
				t.Fatalf("sent into room %d with %d: %v and %d", b.Room, len(b.Letters), ok, len(sent.Letters))
			}
			for _, last := range lastPlaces(len(sent.Letters)) {
				if back, got, ok := impl.BagTake(sent, last); !ok || got != l || !sameBag(back, b) {
					t.Fatalf("taken at %d: %.40v, %v, and there are %d of %d", last, got, ok, len(back.Letters), len(b.Letters))
				}
			}
		}
	}
}

// P19: what is doubled comes behind all others, and out again at the last place.
func TestP19Doubled(t *testing.T) {
	for _, b := range okBags() {
		many := len(b.Letters)
		if many == 0 || many == b.Room {
			continue
		}
		for _, k := range somePlaces(many) {
			l := b.Letters[slowPlace(k, many)]
			doubled, ok := impl.BagDouble(b, k)
			if !ok || !sameBag(doubled, impl.Bag{Room: b.Room, Letters: slowWith(b.Letters, l)}) {
				t.Fatalf("doubled at %d in room %d with %d: %v and %d", k, b.Room, many, ok, len(doubled.Letters))
			}
			for _, last := range lastPlaces(many + 1) {
				if back, got, ok := impl.BagTake(doubled, last); !ok || got != l || !sameBag(back, b) {
					t.Fatalf("taken at %d: %.40v, %v, and there are %d of %d", last, got, ok, len(back.Letters), many)
				}
			}
		}
	}
}

// P19: all that is sent is taken out again, the last one first or the first one first.
func TestP19FilledAndEmptied(t *testing.T) {
	for room := 1; room <= impl.BagMaxRoom; room++ {
		for _, first := range []bool{true, false} {
			b, letters := bagOf(room, room), lettersOf(room)
			k := 0
			if !first {
				k = -1
				slices.Reverse(letters)
			}
			for at, want := range letters {
				var got impl.Letter
				var ok bool
				b, got, ok = impl.BagTake(b, k)
				if !ok || got != want || len(b.Letters) != room-at-1 || b.Room != room {
					t.Fatalf("room %d: %v is taken, not %v, and there are %d", room, got, want, len(b.Letters))
				}
			}
			if got, l, ok := impl.BagTake(b, k); ok || l != (impl.Letter{}) || !sameBag(got, impl.Bag{Room: room}) {
				t.Errorf("room %d: %v is taken out of none", room, l)
			}
		}
	}
}

// P20: whatever the place, the others stay in their order.
func TestP20OthersStay(t *testing.T) {
	for _, b := range okBags() {
		many := len(b.Letters)
		if many == 0 {
			continue
		}
		for _, k := range append(somePlaces(many), manyPlaces(many)...) {
			at := slowPlace(k, many)
			got, l, ok := impl.BagTake(b, k)
			if !ok || l != b.Letters[at] || !sameBag(got, impl.Bag{Room: b.Room, Letters: slowWithout(b.Letters, at)}) {
				t.Fatalf("room %d with %d, taken at %d: %.40v, %v, and there are %d", b.Room, many, k, l, ok, len(got.Letters))
			}
		}
	}
}

// manyPlaces are all from twice as far below 0 to twice as far beyond the end.
func manyPlaces(many int) []int {
	var out []int
	for k := -2*many - 1; k <= 2*many+1; k++ {
		out = append(out, k)
	}
	return out
}

// P20: places written out.
func TestP20Known(t *testing.T) {
	a, b, c := impl.Letter{To: 1, Text: "a"}, impl.Letter{To: 2, Text: "b"}, impl.Letter{To: 3, Text: "c"}
	bag := impl.Bag{Room: 4, Letters: []impl.Letter{a, b, c}}
	for _, one := range []struct {
		k    int
		want impl.Letter
		rest []impl.Letter
	}{
		{0, a, []impl.Letter{b, c}},
		{1, b, []impl.Letter{a, c}},
		{2, c, []impl.Letter{a, b}},
		{3, a, []impl.Letter{b, c}},
		{4, b, []impl.Letter{a, c}},
		{-1, c, []impl.Letter{a, b}},
		{-2, b, []impl.Letter{a, c}},
		{-3, a, []impl.Letter{b, c}},
		{-4, c, []impl.Letter{a, b}},
		// 2^63 - 1 is one more than a multiple of three, and -2^63 one more than another.
		{math.MaxInt, b, []impl.Letter{a, c}},
		{math.MinInt, b, []impl.Letter{a, c}},
		{math.MinInt + 1, c, []impl.Letter{a, b}},
	} {
		got, l, ok := impl.BagTake(bag, one.k)
		if !ok || l != one.want || !sameBag(got, impl.Bag{Room: 4, Letters: one.rest}) {
			t.Errorf("taken at %d: %v, %v, %v", one.k, l, ok, got)
		}
		more, ok := impl.BagDouble(bag, one.k)
		if !ok || !sameBag(more, impl.Bag{Room: 4, Letters: []impl.Letter{a, b, c, one.want}}) {
			t.Errorf("doubled at %d: %v, %v", one.k, ok, more)
		}
	}
	for node, want := range map[int][]int{0: nil, 1: {0}, 2: {1}, 3: {2}, 4: nil} {
		if got := impl.BagFor(bag, node); !slices.Equal(got, want) {
			t.Errorf("letters for %d at %v", node, got)
		}
	}
}

// P20: each node has its places, ascending, and all nodes together have all.
func TestP20ForAllNodes(t *testing.T) {
	r := newRand()
	bags := okBags()
	for range 300 {
		b := bagOf(impl.BagMaxRoom, r.IntN(impl.BagMaxRoom+1))
		for at := range b.Letters {
			b.Letters[at].From, b.Letters[at].To = r.IntN(21), r.IntN(1+r.IntN(21))
		}
		bags = append(bags, b)
	}
	for _, b := range bags {
		seen := make([]int, len(b.Letters))
		for node := range impl.BagMaxNode + 1 {
			places := impl.BagFor(b, node)
			for k, at := range places {
				if at < 0 || at >= len(b.Letters) || b.Letters[at].To != node || k > 0 && places[k-1] >= at {
					t.Fatalf("letters for %d at %v", node, places)
				}
				seen[at]++
			}
		}
		if slices.ContainsFunc(seen, func(times int) bool { return times != 1 }) {
			t.Fatalf("the places of all nodes: %v", seen)
		}
		for _, node := range wrongNodes() {
			if got := impl.BagFor(b, node); len(got) != 0 {
				t.Errorf("letters for %d at %v", node, got)
			}
		}
	}
}

// P20: of a node without letters, though some are from it; and of one that has them all.
func TestP20ForOneNode(t *testing.T) {
	for room := 1; room <= impl.BagMaxRoom; room++ {
		for _, node := range []int{0, 1, 7, impl.BagMaxNode} {
			other := (node + 1) % 21
			b := impl.Bag{Room: room, Letters: slices.Repeat([]impl.Letter{{From: node, To: other, Text: "x"}}, room)}
			if got := impl.BagFor(b, node); len(got) != 0 {
				t.Errorf("room %d: letters for %d at %v", room, node, got)
			}
			all := impl.BagFor(b, other)
			for at := range room {
				if len(all) != room || all[at] != at {
					t.Fatalf("room %d: letters for %d at %v", room, other, all)
				}
			}
		}
	}
}

// laidBag is a bag whose letters lie ahead of marks, and whose texts can be written over.
type laidBag struct {
	bag   impl.Bag
	whole []impl.Letter
	texts [][]byte
}

func layBag(b impl.Bag) laidBag {
	var out laidBag
	var letters []impl.Letter
	for _, l := range b.Letters {
		bytes := []byte(l.Text)
		out.texts = append(out.texts, bytes)
		letters = append(letters, impl.Letter{From: l.From, To: l.To, Text: textOver(bytes)})
	}
	out.bag.Room = b.Room
	out.bag.Letters, out.whole = withRoom(letters, impl.Letter{From: 9, To: 9, Text: "mark"})
	return out
}

// writeOver changes all that the bag is made of, the room behind it too.
func (l laidBag) writeOver() {
	for _, text := range l.texts {
		for k := range text {
			text[k] = '!'
		}
	}
	scribbleLetters(l.whole)
}

func scribbleLetters(letters []impl.Letter) {
	letters = letters[:cap(letters)]
	for k := range letters {
		letters[k] = impl.Letter{From: 13, To: 13, Text: "scribbled"}
	}
}

// bagAnswers are all that can be answered to a bag.
type bagAnswers struct {
	bags    []impl.Bag
	letters []impl.Letter
	places  [][]int
	oks     []bool
}

func (a *bagAnswers) ask(b impl.Bag, l impl.Letter) {
	impl.BagOk(b)
	sent, ok := impl.BagSend(b, l)
	a.bags, a.oks = append(a.bags, sent), append(a.oks, ok)
	for _, k := range []int{0, -1, len(b.Letters) / 2, 1} {
		taken, one, ok := impl.BagTake(b, k)
		doubled, too := impl.BagDouble(b, k)
		a.bags, a.letters, a.oks = append(a.bags, taken, doubled), append(a.letters, one), append(a.oks, ok, too)
	}
	for node := range impl.BagMaxNode + 1 {
		a.places = append(a.places, impl.BagFor(b, node))
	}
}

func answersOf(b impl.Bag, l impl.Letter) bagAnswers {
	var out bagAnswers
	out.ask(b, l)
	return out
}

func (a bagAnswers) like(b bagAnswers) bool {
	return slices.EqualFunc(a.bags, b.bags, sameBag) && slices.Equal(a.letters, b.letters) && slices.EqualFunc(a.places, b.places, slices.Equal[[]int]) && slices.Equal(a.oks, b.oks)
}

func (a bagAnswers) writeOver() {
	for _, b := range a.bags {
		scribbleLetters(b.Letters)
	}
	for _, places := range a.places {
		places = places[:cap(places)]
		for k := range places {
			places[k] = 77
		}
	}
}

// allBags are those that are ok, and those that are not.
func allBags() []impl.Bag {
	out := okBags()
	for _, b := range wrongBags() {
		out = append(out, b)
	}
	return out
}

// A bag's letters lie ahead of marks: neither they nor the marks are written over.
func TestBagWritesNoArgument(t *testing.T) {
	for _, b := range allBags() {
		laid := layBag(b)
		ahead := slices.Clone(laid.whole)
		answersOf(laid.bag, impl.Letter{From: 1, To: 2, Text: "new"})
		if laid.bag.Room != b.Room || len(laid.bag.Letters) != len(b.Letters) || !slices.Equal(laid.whole, ahead) || !slices.Equal(laid.bag.Letters, b.Letters) {
			t.Errorf("room %d with %d letters is written into", b.Room, len(b.Letters))
		}
	}
}

// What was answered stays when the bag, its texts and the letter are written over.
func TestBagAnswersAreNewMemory(t *testing.T) {
	for _, b := range allBags() {
		want := answersOf(b, impl.Letter{From: 1, To: 2, Text: "new"})
		laid, text := layBag(b), []byte("new")
		got := answersOf(laid.bag, impl.Letter{From: 1, To: 2, Text: textOver(text)})
		laid.writeOver()
		copy(text, "old")
		if !got.like(want) {
			t.Errorf("room %d with %d letters: an answer changes with its arguments", b.Room, len(b.Letters))
		}
	}
}

// The bag and other answers stay when an answer is written over, spare room included.
func TestBagAnswersShareNothing(t *testing.T) {
	l := impl.Letter{From: 1, To: 2, Text: "new"}
	for _, b := range allBags() {
		laid := layBag(b)
		ahead := slices.Clone(laid.whole)
		first, second := answersOf(laid.bag, l), answersOf(laid.bag, l)
		first.writeOver()
		if !slices.Equal(laid.whole, ahead) {
			t.Errorf("room %d with %d letters: an answer shares memory with the bag", b.Room, len(b.Letters))
		}
		if !second.like(answersOf(b, l)) {
			t.Errorf("room %d with %d letters: two answers share memory", b.Room, len(b.Letters))
		}
	}
}

// Two bags that are made out of one, and go on, do not come into each other's way.
func TestBagsGoOnApart(t *testing.T) {
	x, y := impl.Letter{From: 1, To: 2, Text: "x"}, impl.Letter{From: 2, To: 1, Text: "y"}
	for many := range impl.BagMaxRoom - 1 {
		start, _ := impl.BagSend(bagOf(impl.BagMaxRoom, many), lettersOf(1)[0])
		left, _ := impl.BagSend(start, x)
		right, _ := impl.BagSend(start, y)
		less, _, _ := impl.BagTake(start, 0)
		more := append(start.Letters, impl.Letter{Text: "behind"})
		last := len(start.Letters)
		if left.Letters[last] != x || right.Letters[last] != y || more[last].Text != "behind" || !slices.Equal(less.Letters, start.Letters[1:]) {
			t.Errorf("%d letters: %v, %v, %v", many, left.Letters[last], right.Letters[last], more[last])
		}
		if !slices.Equal(left.Letters[:last], start.Letters) || !slices.Equal(right.Letters[:last], start.Letters) {
			t.Errorf("%d letters: what was in the bag is changed", many)
		}
	}
}

// Whoever copies a bag that was answered, and puts letters behind its end, writes into no other copy: an answer has no spare room that they could share.
func TestBagCopiesShareNoRoom(t *testing.T) {
	for _, b := range edgeBags() {
		for at, answer := range answersOf(b, impl.Letter{From: 1, To: 2, Text: "new"}).bags {
			last := len(answer.Letters)
			one := append(answer.Letters, impl.Letter{Text: "one"})
			two := append(answer.Letters, impl.Letter{Text: "two"})
			if one[last].Text != "one" || two[last].Text != "two" {
				t.Errorf("room %d with %d letters: copies of the answer %d share room", b.Room, len(b.Letters), at)
			}
		}
	}
}
