package tests

import (
	"fmt"
	"math/rand/v2"
	"slices"
	"strconv"
	"strings"
	"testing"

	"loop.example/belfry/impl"
)

// slowHeld is what a disk holds, by the document's words.
func slowHeld(d impl.Disk) impl.Point {
	record, slot := slowRead(d)
	if slot == 0 {
		return impl.Point{Size: 0, Root: slowHash("")}
	}
	return impl.Point{Size: record.Size, Root: record.Root}
}

// slowWitnessOk asks for a witness's bounds one by one, by the numbers of the document.
func slowWitnessOk(w impl.Witness) bool {
	if len(w.Wishes) > 8 {
		return false
	}
	least := 1
	for _, wish := range w.Wishes {
		if wish.Who < least || wish.Who > 20 || wish.Session < 1 || wish.Session > 1000000 {
			return false
		}
		if wish.Point.Size <= slowHeld(w.Disk).Size || wish.Point.Size > 256 {
			return false
		}
		least = wish.Who + 1
	}
	return true
}

// slowCode is GrowthCheck of points whose sizes are from 0 to 256, by the document's words.
func slowCode(old, now impl.Point, proof []impl.Digest) int {
	m, n := old.Size, now.Size
	if m > n {
		return 1
	}
	if m == 0 || m == n {
		switch {
		case len(proof) != 0:
			return 2
		case m == 0 && old.Root != slowHash(""):
			return 3
		case m == n && old.Root != now.Root:
			return 4
		}
		return 0
	}
	nodes := proofNodes(m, n)
	if len(proof) != len(nodes) {
		return 2
	}
	many := len(runLengths(m))
	if slowRootOfPeaks(proof[:many]) != old.Root {
		return 3
	}
	if foldGrowth(run{0, n}, nodes, proof) != now.Root {
		return 4
	}
	return 0
}

func ackLetter(me, who, session int, p impl.Point) impl.Letter {
	return impl.Letter{From: me, To: who, Text: layMessage(impl.Message{Kind: 6, Session: session, Size: p.Size, Root: p.Root}).text}
}

func proveLetter(me, from, size int) impl.Letter {
	return impl.Letter{From: me, To: 0, Text: layMessage(impl.Message{Kind: 4, From: from, Size: size}).text}
}

func vouchLetter(who, session int, p impl.Point) impl.Letter {
	return impl.Letter{From: who, To: 1, Text: layMessage(impl.Message{Kind: 3, Session: session, Size: p.Size, Root: p.Root}).text}
}

func growthLetter(from, size int, proof []impl.Digest) impl.Letter {
	return impl.Letter{From: 0, To: 1, Text: layMessage(impl.Message{Kind: 5, From: from, Size: size, Proof: proof}).text}
}

// slowHear is what comes of a letter, by the document's words.
func slowHear(w impl.Witness, me int, in impl.Letter) impl.Heard {
	if !slowWitnessOk(w) || !slowLetterOk(in) || me < 1 || me > 20 {
		return impl.Heard{}
	}
	out := impl.Heard{Witness: impl.Witness{Disk: w.Disk, Wishes: slices.Clone(w.Wishes)}}
	if slowFault(in.Text) != (impl.WireFault{}) {
		return out
	}
	m, _ := impl.WireRead(in.Text)
	if m.Kind == 3 && in.From > 0 {
		slowVouch(&out, me, impl.Wish{Who: in.From, Session: m.Session, Point: impl.Point{Size: m.Size, Root: m.Root}})
	}
	if m.Kind == 5 && in.From == 0 {
		slowGrowth(&out, me, m)
	}
	return out
}

func slowLetterOk(l impl.Letter) bool {
	return withinRoom(impl.Bag{Room: 1, Letters: []impl.Letter{l}})
}

func slowVouch(out *impl.Heard, me int, wish impl.Wish) {
	held := slowHeld(out.Witness.Disk)
	switch {
	case wish.Point.Size == 0 || wish.Point.Size < held.Size:
	case wish.Point == held:
		out.Letters = []impl.Letter{ackLetter(me, wish.Who, wish.Session, held)}
	case wish.Point.Size == held.Size:
		out.Alarms = []impl.Alarm{{Kind: 1, Who: wish.Who, Held: held, Told: wish.Point}}
	default:
		others := slices.DeleteFunc(slices.Clone(out.Witness.Wishes), func(one impl.Wish) bool { return one.Who == wish.Who })
		if len(others) == 8 {
			return
		}
		out.Witness.Wishes = append(others, wish)
		slices.SortFunc(out.Witness.Wishes, func(a, b impl.Wish) int { return a.Who - b.Who })
		out.Letters = []impl.Letter{proveLetter(me, held.Size, wish.Point.Size)}
	}
}

func slowGrowth(out *impl.Heard, me int, m impl.Message) {
	held := slowHeld(out.Witness.Disk)
	if m.From != held.Size {
		return
	}
	wishes := out.Witness.Wishes
	gone := map[int]bool{}
	var alarms []impl.Alarm
	taken := -1
	for k, wish := range wishes {
		if taken >= 0 || wish.Point.Size != m.Size {
			continue
		}
		code := slowCode(held, wish.Point, m.Proof)
		if code == 0 {
			taken = k
			continue
		}
		gone[k] = true
		alarms = append(alarms, impl.Alarm{Kind: 2, Who: wish.Who, Held: held, Told: wish.Point, Code: code})
	}
	if taken >= 0 {
		p := wishes[taken].Point
		raws := slowRaws(out.Witness.Disk, p.Size, p.Root)
		if len(raws) == 0 {
			return
		}
		out.Raws, out.Witness.Disk = raws, slowWrite(out.Witness.Disk, raws)
		out.Kept = []impl.Keep{{Old: held, Step: impl.Growth{New: p, Proof: m.Proof}}}
		for k, wish := range wishes {
			switch {
			case gone[k] || wish.Point.Size > p.Size:
				continue
			case wish.Point == p:
				out.Letters = append(out.Letters, ackLetter(me, wish.Who, wish.Session, p))
			case wish.Point.Size == p.Size:
				alarms = append(alarms, impl.Alarm{Kind: 1, Who: wish.Who, Held: p, Told: wish.Point})
			}
			gone[k] = true
		}
	}
	out.Alarms, out.Witness.Wishes = alarms, nil
	for k, wish := range wishes {
		if !gone[k] {
			out.Witness.Wishes = append(out.Witness.Wishes, wish)
		}
	}
}

// sameWitness takes an empty list and none for the same, as all of these do.
func sameWitness(a, b impl.Witness) bool {
	return a.Disk == b.Disk && slices.Equal(a.Wishes, b.Wishes)
}

func sameKeep(a, b impl.Keep) bool {
	return a.Old == b.Old && a.Step.New == b.Step.New && slices.Equal(a.Step.Proof, b.Step.Proof)
}

func sameHeard(a, b impl.Heard) bool {
	return sameWitness(a.Witness, b.Witness) && slices.Equal(a.Raws, b.Raws) && slices.EqualFunc(a.Kept, b.Kept, sameKeep) && slices.Equal(a.Letters, b.Letters) && slices.Equal(a.Alarms, b.Alarms)
}

// shown is what came, its bytes as signs that can be read.
func shown(h impl.Heard) string {
	return strconv.QuoteToASCII(fmt.Sprint(h))
}

// hearsAs holds what comes of a letter against the slow ways, and against what is promised of any letter.
func hearsAs(w impl.Witness, me int, in impl.Letter) error {
	got, want := impl.WitnessHear(w, me, in), slowHear(w, me, in)
	if !sameHeard(got, want) {
		return fmt.Errorf("%v, to %d from %d %.12q:\ncomes %v\nnot   %v", w, me, in.From, in.Text, shown(got), shown(want))
	}
	if !slowWitnessOk(w) || !slowLetterOk(in) || me < 1 || me > 20 {
		return nil
	}
	for _, broken := range []error{takesNothingBack(w, got), acknowledgesWhatIsHeld(w, got), staysInOrder(got)} {
		if broken != nil {
			return fmt.Errorf("%v, to %d from %d %.12q: %w", w, me, in.From, in.Text, broken)
		}
	}
	return nil
}

// takesNothingBack is P27.
func takesNothingBack(w impl.Witness, got impl.Heard) error {
	old, now := impl.WitnessHeld(w.Disk), impl.WitnessHeld(got.Witness.Disk)
	if len(got.Kept) == 0 {
		if len(got.Raws) != 0 || got.Witness.Disk != w.Disk || now != old {
			return fmt.Errorf("nothing is kept, and the disk is another")
		}
		return nil
	}
	kept := got.Kept[0]
	if len(got.Kept) != 1 || kept.Old != old || kept.Step.New != now || now.Size <= old.Size {
		return fmt.Errorf("held was %v, now %v is, and kept are %v", old, now, got.Kept)
	}
	if code := impl.GrowthCheck(old, now, kept.Step.Proof); code != 0 {
		return fmt.Errorf("what is kept did not grow: %d", code)
	}
	return nil
}

// acknowledgesWhatIsHeld is P28.
func acknowledgesWhatIsHeld(w impl.Witness, got impl.Heard) error {
	if impl.DiskWrite(w.Disk, got.Raws) != got.Witness.Disk {
		return fmt.Errorf("the raw writes make another disk")
	}
	held := impl.WitnessHeld(got.Witness.Disk)
	for _, letter := range got.Letters {
		m, _ := impl.WireRead(letter.Text)
		if m.Kind == impl.MsAck && (impl.Point{Size: m.Size, Root: m.Root}) != held {
			return fmt.Errorf("what is acknowledged is not held: %v", m)
		}
		if m.Kind != impl.MsAck && m.Kind != impl.MsProve {
			return fmt.Errorf("a letter of kind %d", m.Kind)
		}
	}
	return nil
}

// staysInOrder is P29.
func staysInOrder(got impl.Heard) error {
	if !impl.WitnessOk(got.Witness) || !slowWitnessOk(got.Witness) {
		return fmt.Errorf("the witness is not ok any more")
	}
	for _, wish := range got.Witness.Wishes {
		if wish.Point.Size <= impl.WitnessHeld(got.Witness.Disk).Size {
			return fmt.Errorf("a wish is left for what is held")
		}
	}
	return nil
}

// silentWitness wants the witness as it was, and nothing else.
func silentWitness(t *testing.T, w impl.Witness, me int, in impl.Letter, what string) {
	t.Helper()
	if got := impl.WitnessHear(w, me, in); !sameHeard(got, impl.Heard{Witness: w}) {
		t.Errorf("%s: of %.40q from %d comes %v", what, in.Text, in.From, shown(got))
	}
}

// nothingHeard wants nothing at all.
func nothingHeard(t *testing.T, w impl.Witness, me int, in impl.Letter, what string) {
	t.Helper()
	if got := impl.WitnessHear(w, me, in); !sameHeard(got, impl.Heard{}) {
		t.Errorf("%s: of %.40q from %d to %d comes %v", what, in.Text, in.From, me, shown(got))
	}
}

func slotOf(seq uint64, p impl.Point) impl.Slot {
	return signed(impl.Slot{Seq: seq, Size: uint64(p.Size), Root: p.Root})
}

func diskOf(p impl.Point) impl.Disk {
	if p.Size == 0 {
		return impl.Disk{}
	}
	return impl.Disk{One: slotOf(1, p)}
}

// disksHolding are disks of which the first slot is told, or the second, beside one that is not right, one that is older, or none.
func disksHolding(p impl.Point) []impl.Disk {
	wrong := fewWrongSlots()
	if p.Size == 0 {
		return []impl.Disk{{}, {One: wrong[1]}, {Two: wrong[3]}, {One: wrong[12], Two: wrong[10]}}
	}
	older := signed(impl.Slot{Seq: 4, Size: 1, Root: impl.Digest{A: 9, D: 4}})
	told := slotOf(5, p)
	return []impl.Disk{
		{One: told}, {Two: told},
		{One: told, Two: older}, {One: older, Two: told},
		{One: told, Two: wrong[2]}, {One: wrong[11], Two: told},
		{One: slotOf(4, p), Two: older},
		{One: slotOf(impl.RecordMaxSeq-1, p), Two: slotOf(impl.RecordMaxSeq-2, p)}, {Two: slotOf(impl.RecordMaxSeq-1, p)},
		{One: slotOf(impl.RecordMaxSeq, p)}, {One: older, Two: slotOf(impl.RecordMaxSeq, p)},
	}
}

// wishesOf are wishes for these points, with nodes ahead of, between and behind them that have none.
func wishesOf(points ...impl.Point) []impl.Wish {
	var out []impl.Wish
	for k, p := range points {
		out = append(out, impl.Wish{Who: 2*k + 2, Session: 10 + k, Point: p})
	}
	return out
}

func otherRoot(p impl.Point, k int) impl.Point {
	p.Root.C ^= uint64(k) + 1
	return p
}

// pointsAbove are so many points for more than is held, near it and at the limit, with right roots and with others; none where the greatest size is held.
func (s slowLog) pointsAbove(held, many int) []impl.Point {
	if held == mostLeaves {
		return nil
	}
	var out []impl.Point
	for k := range many {
		p := s.book.point(min(held+[]int{1, 3, 1, 2, 256, 1, 2, 256, 5}[k%9], mostLeaves))
		if k%4 == 2 {
			p = otherRoot(p, k)
		}
		out = append(out, p)
	}
	return out
}

// okWitnesses hold nothing, a little, and the most, with no wishes, some, and as many as there may be.
func (s slowLog) okWitnesses() []impl.Witness {
	var out []impl.Witness
	for _, held := range []int{0, 1, 2, 3, 7, 8, 100, 253, 255, 256} {
		for k, disk := range disksHolding(s.book.point(held)) {
			for _, many := range []int{0, 1, 2, 7, 8} {
				// Few disks have all lists, so that there are not too many.
				if k < 3 || many == 8 || many == k%3 {
					out = append(out, impl.Witness{Disk: disk, Wishes: wishesOf(s.pointsAbove(held, many)...)})
				}
			}
		}
	}
	return out
}

// wrongWitnesses have one thing each that is not ok.
func (s slowLog) wrongWitnesses() map[string]impl.Witness {
	out := map[string]impl.Witness{}
	for _, held := range []int{0, 1, 5, 254} {
		disk := diskOf(s.book.point(held))
		wishes := func(many int) []impl.Wish {
			return wishesOf(s.pointsAbove(held, many)...)
		}
		for _, many := range []int{9, 10, 300} {
			var list []impl.Wish
			for k, wish := range wishes(many) {
				wish.Who = k + 1
				list = append(list, wish)
			}
			out[fmt.Sprint(held, " with ", many, " wishes")] = impl.Witness{Disk: disk, Wishes: list}
		}
		for _, many := range []int{1, 2, 7, 8} {
			for at := range many {
				name := fmt.Sprint(held, " with ", many, " wishes, at ", at, ": ")
				for what, wish := range wrongWishes(wishes(many)[at], held) {
					list := wishes(many)
					list[at] = wish
					out[name+what] = impl.Witness{Disk: disk, Wishes: list}
				}
				if at > 0 {
					alike, turned := wishes(many), wishes(many)
					alike[at].Who = alike[at-1].Who
					turned[at], turned[at-1] = turned[at-1], turned[at]
					out[name+"two of one Who"] = impl.Witness{Disk: disk, Wishes: alike}
					out[name+"turned around"] = impl.Witness{Disk: disk, Wishes: turned}
				}
			}
		}
	}
	full := s.book.point(mostLeaves)
	out["a wish for all, and all are held"] = impl.Witness{Disk: diskOf(full), Wishes: wishesOf(full)}
	return out
}

func wrongWishes(wish impl.Wish, held int) map[string]impl.Wish {
	out := map[string]impl.Wish{}
	for _, who := range append(wrongNodes(), 0) {
		one := wish
		one.Who = who
		out[fmt.Sprint("Who ", who)] = one
	}
	for _, session := range wrongNumbers(1, 1000000) {
		one := wish
		one.Session = session
		out[fmt.Sprint("Session ", session)] = one
	}
	for _, size := range append(wrongNumbers(held+1, 256), 0, -1<<32+held+1) {
		one := wish
		one.Point.Size = size
		out[fmt.Sprint("Size ", size)] = one
	}
	return out
}

// someLetters are those that a witness which holds so many leaves may hear, of what is right and of what is not.
func (s slowLog) someLetters(held int) []impl.Letter {
	var out []impl.Letter
	for _, size := range aroundSize(held) {
		p := s.book.point(size)
		for _, who := range []int{1, 2, 3, 8, 17, 20} {
			out = append(out, vouchLetter(who, 7, p))
		}
		out = append(out, vouchLetter(4, impl.WireMaxSession, otherRoot(p, 0)))
		for _, from := range []int{held - 1, held, held + 1, 0} {
			if from < 0 || from > 256 {
				continue
			}
			if from <= size {
				out = append(out, growthLetter(from, size, s.book.growth(from, size)))
			}
			out = append(out, growthLetter(from, size, nil), growthLetter(from, size, digestsFrom(5, 3)))
		}
	}
	return out
}

func wholeLog() slowLog {
	return newSlowLog(someLeaves(mostLeaves))
}

func TestWitnessLimits(t *testing.T) {
	if impl.WishMax != 8 {
		t.Error("WishMax", impl.WishMax)
	}
}

// P27: what a disk holds.
func TestP27Held(t *testing.T) {
	for _, d := range manyDisks() {
		if got, want := impl.WitnessHeld(d), slowHeld(d); got != want {
			t.Errorf("%v holds %v, not %v", d, got, want)
		}
	}
	s := wholeLog()
	for n := range mostLeaves + 1 {
		for _, d := range disksHolding(s.book.point(n)) {
			if got, want := impl.WitnessHeld(d), s.book.point(n); got != want {
				t.Errorf("%v holds %v, not %v", d, got, want)
			}
		}
	}
	if got := impl.WitnessHeld(impl.Disk{}); got != impl.TreePoint(nil) || got.Size != 0 || got.Root != slowHash("") {
		t.Error("an empty disk holds", got)
	}
}

// P29: which witnesses are ok.
func TestP29Ok(t *testing.T) {
	s := wholeLog()
	for _, w := range s.okWitnesses() {
		if !impl.WitnessOk(w) {
			t.Errorf("not ok: %v", w)
		}
	}
	for name, w := range s.wrongWitnesses() {
		if impl.WitnessOk(w) {
			t.Errorf("%s: ok", name)
		}
	}
	for _, d := range manyDisks() {
		if !impl.WitnessOk(impl.Witness{Disk: d}) || !impl.WitnessOk(impl.Witness{Disk: d, Wishes: []impl.Wish{}}) {
			t.Errorf("no wishes, and not ok: %v", d)
		}
		for _, size := range []int{-1, 0, 1, 2, 4, 5, 6, 254, 255, 256, 257} {
			w := impl.Witness{Disk: d, Wishes: wishesOf(impl.Point{Size: size})}
			if impl.WitnessOk(w) != slowWitnessOk(w) {
				t.Errorf("a wish for %d: %v with %v", size, impl.WitnessOk(w), d)
			}
		}
	}
}

// P29: each number of a wish, within its bounds and around them.
func TestP29OkNumbers(t *testing.T) {
	for held := range 4 {
		disk := diskOf(wholeLog().book.point(held))
		for who := -2; who <= 23; who++ {
			for _, session := range []int{-1, 0, 1, 2, 999999, 1000000, 1000001} {
				for _, size := range []int{-1, 0, 1, 2, 3, 4, 5, 255, 256, 257} {
					for _, root := range rootEdges()[:3] {
						w := impl.Witness{Disk: disk, Wishes: []impl.Wish{{Who: who, Session: session, Point: impl.Point{Size: size, Root: root}}}}
						if impl.WitnessOk(w) != slowWitnessOk(w) {
							t.Errorf("%d held: %v is %v", held, w.Wishes, impl.WitnessOk(w))
						}
					}
				}
			}
		}
	}
	for _, whos := range [][]int{{1, 2}, {1, 20}, {19, 20}, {1, 2, 3, 4, 5, 6, 7, 8}, {13, 14, 15, 16, 17, 18, 19, 20}, {1, 3, 2}, {2, 1, 3}, {1, 1, 2}, {1, 2, 2}, {2, 2}, {20, 1}, {1, 2, 3, 4, 5, 6, 8, 7}, {1, 2, 3, 4, 5, 6, 7, 8, 9}} {
		var w impl.Witness
		for _, who := range whos {
			w.Wishes = append(w.Wishes, impl.Wish{Who: who, Session: 1, Point: impl.Point{Size: 1}})
		}
		if impl.WitnessOk(w) != slowWitnessOk(w) {
			t.Errorf("of %v: %v", whos, impl.WitnessOk(w))
		}
	}
}

// knownWitness holds one leaf, in the first slot, and wishes of the nodes 2 to 10.
func knownWitness() (w impl.Witness, one, two, three, four impl.Point) {
	a, b, c, d := slowHash("\x00a"), slowHash("\x00b"), slowHash("\x00c"), slowHash("\x00d")
	one = impl.Point{Size: 1, Root: a}
	two = impl.Point{Size: 2, Root: pairOf(a, b)}
	three = impl.Point{Size: 3, Root: pairOf(pairOf(a, b), c)}
	four = impl.Point{Size: 4, Root: pairOf(pairOf(a, b), pairOf(c, d))}
	w.Disk.One = signed(impl.Slot{Seq: 1, Size: 1, Root: a})
	w.Wishes = []impl.Wish{
		{Who: 2, Session: 21, Point: otherRoot(three, 1)},
		{Who: 3, Session: 31, Point: two},
		{Who: 4, Session: 41, Point: three},
		{Who: 6, Session: 61, Point: otherRoot(three, 2)},
		{Who: 8, Session: 81, Point: four},
		{Who: 10, Session: 101, Point: three},
	}
	return w, one, two, three, four
}

// P28: what comes of vouches, written out.
func TestP28KnownVouches(t *testing.T) {
	w, one, two, _, four := knownWitness()
	silentWitness(t, w, 1, vouchLetter(5, 3, impl.Point{Root: slowHash("")}), "nothing")
	ack := impl.Letter{From: 9, To: 5, Text: "\x06\x00\x00\x03\x00\x01" + bytesOf(one.Root)}
	if got := impl.WitnessHear(w, 9, vouchLetter(5, 3, one)); !sameHeard(got, impl.Heard{Witness: w, Letters: []impl.Letter{ack}}) {
		t.Error("what is held:", shown(got))
	}
	fork := otherRoot(one, 0)
	alarm := impl.Alarm{Kind: impl.AlFork, Who: 5, Held: one, Told: fork}
	if got := impl.WitnessHear(w, 9, vouchLetter(5, 3, fork)); !sameHeard(got, impl.Heard{Witness: w, Alarms: []impl.Alarm{alarm}}) {
		t.Error("another root:", shown(got))
	}
	prove := impl.Letter{From: 9, To: 0, Text: "\x04\x00\x01\x00\x02"}
	for who, at := range map[int]int{1: 0, 5: 3, 7: 4, 9: 5, 20: 6} {
		more := slices.Insert(slices.Clone(w.Wishes), at, impl.Wish{Who: who, Session: 3, Point: two})
		if got := impl.WitnessHear(w, 9, vouchLetter(who, 3, two)); !sameHeard(got, impl.Heard{Witness: impl.Witness{Disk: w.Disk, Wishes: more}, Letters: []impl.Letter{prove}}) {
			t.Error("a wish of", who, shown(got))
		}
	}
	prove.Text = "\x04\x00\x01\x00\x04"
	for at, wish := range w.Wishes {
		other := slices.Clone(w.Wishes)
		other[at] = impl.Wish{Who: wish.Who, Session: 4, Point: four}
		if got := impl.WitnessHear(w, 9, vouchLetter(wish.Who, 4, four)); !sameHeard(got, impl.Heard{Witness: impl.Witness{Disk: w.Disk, Wishes: other}, Letters: []impl.Letter{prove}}) {
			t.Error("another wish of", wish.Who, shown(got))
		}
	}
}

// P27: what comes of a growth, written out.
func TestP27KnownGrowth(t *testing.T) {
	w, one, _, three, _ := knownWitness()
	proof := []impl.Digest{one.Root, slowHash("\x00b"), slowHash("\x00c")}
	in := impl.Letter{Text: "\x05\x00\x01\x00\x03\x03" + bytesOf(proof[0]) + bytesOf(proof[1]) + bytesOf(proof[2])}
	next := signed(impl.Slot{Seq: 2, Size: 3, Root: three.Root})
	want := impl.Heard{
		Witness: impl.Witness{Disk: impl.Disk{One: w.Disk.One, Two: next}, Wishes: w.Wishes[4:5]},
		Raws: []impl.Raw{
			{Slot: 2, Word: 0, Value: 0}, {Slot: 2, Word: 1, Value: 2}, {Slot: 2, Word: 2, Value: 3},
			{Slot: 2, Word: 3, Value: three.Root.A}, {Slot: 2, Word: 4, Value: three.Root.B}, {Slot: 2, Word: 5, Value: three.Root.C}, {Slot: 2, Word: 6, Value: three.Root.D},
			{Slot: 2, Word: 0, Value: next.Sum},
		},
		Kept:    []impl.Keep{{Old: one, Step: impl.Growth{New: three, Proof: proof}}},
		Letters: []impl.Letter{ackLetter(7, 4, 41, three), ackLetter(7, 10, 101, three)},
		Alarms: []impl.Alarm{
			{Kind: impl.AlGrowth, Who: 2, Held: one, Told: w.Wishes[0].Point, Code: impl.GrNew},
			{Kind: impl.AlFork, Who: 6, Held: three, Told: w.Wishes[3].Point},
		},
	}
	if got := impl.WitnessHear(w, 7, in); !sameHeard(got, want) {
		t.Errorf("comes %v\nnot   %v", shown(got), shown(want))
	}
	bad := impl.Letter{Text: "\x05\x00\x01\x00\x03\x00"}
	want = impl.Heard{Witness: impl.Witness{Disk: w.Disk, Wishes: []impl.Wish{w.Wishes[1], w.Wishes[4]}}}
	for _, at := range []int{0, 2, 3, 5} {
		want.Alarms = append(want.Alarms, impl.Alarm{Kind: impl.AlGrowth, Who: w.Wishes[at].Who, Held: one, Told: w.Wishes[at].Point, Code: impl.GrLen})
	}
	if got := impl.WitnessHear(w, 7, bad); !sameHeard(got, want) {
		t.Errorf("no proof: comes %v\nnot   %v", shown(got), shown(want))
	}
}

// P27, P28, P29: all witnesses hear letters around what they hold.
func TestP29AroundHeld(t *testing.T) {
	s := wholeLog()
	for _, w := range s.okWitnesses() {
		for _, in := range s.someLetters(slowHeld(w.Disk).Size) {
			if err := hearsAs(w, 3, in); err != nil {
				t.Fatal(err)
			}
		}
	}
}

// P28: vouches for each size and any root, in any session, of any node.
func TestP28Vouches(t *testing.T) {
	s := wholeLog()
	for _, held := range []int{0, 1, 2, 5, 255, 256} {
		for _, many := range []int{0, 1, 7, 8} {
			w := impl.Witness{Disk: diskOf(s.book.point(held)), Wishes: wishesOf(s.pointsAbove(held, many)...)}
			for _, size := range aroundSize(held) {
				for k, root := range append(rootEdges(), s.book.point(held).Root, s.book.point(size).Root) {
					in := vouchLetter(1+k%20, sessionEdges()[k%len(sessionEdges())], impl.Point{Size: size, Root: root})
					if err := hearsAs(w, 20-k%20, in); err != nil {
						t.Fatal(err)
					}
				}
			}
		}
	}
}

// P28: what is held is acknowledged to whoever vouches for it, also with as many wishes as there may be, and to one who wished for more.
func TestP28Again(t *testing.T) {
	s := wholeLog()
	for _, w := range s.okWitnesses() {
		held := impl.WitnessHeld(w.Disk)
		if held.Size == 0 {
			continue
		}
		for who := 1; who <= 20; who++ {
			for _, session := range []int{1, 256, impl.WireMaxSession} {
				want := impl.Heard{Witness: w, Letters: []impl.Letter{ackLetter(who%7+1, who, session, held)}}
				if got := impl.WitnessHear(w, who%7+1, vouchLetter(who, session, held)); !sameHeard(got, want) {
					t.Fatalf("%v: to %d comes %v", w, who, shown(got))
				}
			}
		}
	}
}

// P29: wishes come to their places, up to as many as there may be.
func TestP29Wishes(t *testing.T) {
	s := wholeLog()
	for _, held := range []int{0, 1, 100, 255} {
		for _, many := range []int{0, 1, 6, 7, 8} {
			w := impl.Witness{Disk: diskOf(s.book.point(held)), Wishes: wishesOf(s.pointsAbove(held, many)...)}
			for who := 1; who <= 20; who++ {
				for _, size := range []int{held + 1, min(held+2, 256), 256} {
					p := s.book.point(size)
					if err := hearsAs(w, 5, vouchLetter(who, 77, p)); err != nil {
						t.Fatal(err)
					}
					wished := slices.ContainsFunc(w.Wishes, func(one impl.Wish) bool { return one.Who == who })
					got := impl.WitnessHear(w, 5, vouchLetter(who, 77, p))
					if !wished && many == 8 {
						silentWitness(t, w, 5, vouchLetter(who, 77, p), "one wish too many")
						continue
					}
					if len(got.Letters) != 1 || got.Letters[0] != proveLetter(5, held, size) || !slices.Contains(got.Witness.Wishes, impl.Wish{Who: who, Session: 77, Point: p}) {
						t.Errorf("%d wishes: of a wish of %d comes %v", many, who, shown(got))
					}
				}
			}
		}
	}
}

// P29: all sets of nodes that wish, each in some order, wish by wish.
func TestP29Orders(t *testing.T) {
	r := newRand()
	p := wholeLog().book.point(9)
	for range 400 {
		var w impl.Witness
		for step, k := range r.Perm(20)[:12] {
			in := vouchLetter(k+1, step+1, p)
			if err := hearsAs(w, 1, in); err != nil {
				t.Fatal(err)
			}
			w = impl.WitnessHear(w, 1, in).Witness
			if len(w.Wishes) != min(step+1, 8) {
				t.Fatalf("%d wishes behind %d vouches", len(w.Wishes), step+1)
			}
		}
	}
}

// P27: growths from the size that is held, to what is wished for.
func TestP27Growths(t *testing.T) {
	s := wholeLog()
	for _, held := range []int{0, 1, 2, 3, 4, 6, 7, 8, 11, 100, 128, 200, 254, 255} {
		old := s.book.point(held)
		for _, size := range growSizes(held) {
			p, proof := s.book.point(size), s.book.growth(held, size)
			for _, disk := range disksHolding(old) {
				w, in := impl.Witness{Disk: disk, Wishes: wishesOf(p)}, growthLetter(held, size, proof)
				if err := hearsAs(w, 2, in); err != nil {
					t.Fatal(err)
				}
				if record, _ := slowRead(disk); record.Seq == impl.RecordMaxSeq {
					silentWitness(t, w, 2, in, "the last number")
					continue
				}
				got := impl.WitnessHear(w, 2, in)
				if impl.WitnessHeld(got.Witness.Disk) != p || len(got.Kept) != 1 || !slices.Equal(got.Letters, []impl.Letter{ackLetter(2, 2, 10, p)}) || len(got.Witness.Wishes) != 0 {
					t.Errorf("from %d to %d: %v", held, size, shown(got))
				}
			}
		}
	}
}

// P27: every growth of small logs, with a wish for each size.
func TestP27AllSmall(t *testing.T) {
	s := wholeLog()
	for held := range 12 {
		var points []impl.Point
		for size := held + 1; size <= held+8; size++ {
			points = append(points, s.book.point(size))
		}
		w := impl.Witness{Disk: diskOf(s.book.point(held)), Wishes: wishesOf(points...)}
		for size := range held + 11 {
			for from := range size + 1 {
				in := growthLetter(from, size, s.book.growth(from, size))
				if err := hearsAs(w, 2, in); err != nil {
					t.Fatal(err)
				}
				got := impl.WitnessHear(w, 2, in)
				if kept := held == from && held < size && size <= held+8; kept != (len(got.Kept) == 1) || len(got.Alarms) != 0 || kept && len(got.Witness.Wishes) != held+8-size {
					t.Errorf("%d held, from %d to %d: %v", held, from, size, shown(got))
				}
			}
		}
	}
}

// P27: a growth from another size than that which is held, or to one for which there is no wish.
func TestP27OtherSizes(t *testing.T) {
	s := wholeLog()
	for _, held := range []int{0, 1, 2, 8, 100, 255, 256} {
		for _, many := range []int{0, 1, 8} {
			w := impl.Witness{Disk: diskOf(s.book.point(held)), Wishes: wishesOf(s.pointsAbove(held, many)...)}
			for _, from := range aroundSize(held) {
				for _, size := range aroundSize(held) {
					wished := slices.ContainsFunc(w.Wishes, func(one impl.Wish) bool { return one.Point.Size == size })
					if from == held && wished {
						continue
					}
					silentWitness(t, w, 4, growthLetter(from, size, nil), "another size, no proof")
					silentWitness(t, w, 4, growthLetter(from, size, digestsFrom(16, 2)), "another size, any proof")
					if from <= size {
						silentWitness(t, w, 4, growthLetter(from, size, s.book.growth(from, size)), "another size")
					}
				}
			}
		}
	}
}

// P27: each code comes as an alarm, and nothing is kept. (Of the wishes of a witness that is ok none is below what is held, so GrBad does not come.)
func TestP27Codes(t *testing.T) {
	s := wholeLog()
	met := map[int]int{}
	for _, held := range []int{0, 1, 2, 3, 7, 8, 100, 255} {
		for _, size := range growSizes(held) {
			old, p, proof := s.book.point(held), s.book.point(size), s.book.growth(held, size)
			for name, c := range brokenProofs(proof, len(runLengths(held))) {
				w := impl.Witness{Disk: diskOf(old), Wishes: wishesOf(p, s.book.point(256), p)}
				want := slowHear(w, 6, growthLetter(held, size, c))
				if err := hearsAs(w, 6, growthLetter(held, size, c)); err != nil {
					t.Fatal(err)
				}
				got := impl.WitnessHear(w, 6, growthLetter(held, size, c))
				if len(got.Kept) != 0 || len(got.Letters) != 0 || len(got.Alarms) < 2 || got.Alarms[0] != (impl.Alarm{Kind: impl.AlGrowth, Who: 2, Held: old, Told: p, Code: want.Alarms[0].Code}) {
					t.Errorf("from %d to %d, %s: %v", held, size, name, shown(got))
				}
				met[got.Alarms[0].Code]++
			}
			if held > 0 {
				w := impl.Witness{Disk: diskOf(old), Wishes: wishesOf(otherRoot(p, 3))}
				got := impl.WitnessHear(w, 6, growthLetter(held, size, proof))
				if len(got.Alarms) != 1 || got.Alarms[0] != (impl.Alarm{Kind: impl.AlGrowth, Who: 2, Held: old, Told: otherRoot(p, 3), Code: impl.GrNew}) || len(got.Witness.Wishes) != 0 {
					t.Errorf("from %d to %d, another root: %v", held, size, shown(got))
				}
			}
		}
	}
	if met[impl.GrLen] == 0 || met[impl.GrOld] == 0 || met[impl.GrNew] == 0 || met[impl.GrBad] != 0 {
		t.Error("codes:", met)
	}
}

// brokenProofs are too short, too long, or have another digest; the first so many digests are those of the old nodes.
func brokenProofs(proof []impl.Digest, old int) map[string][]impl.Digest {
	out := map[string][]impl.Digest{"longer": append(slices.Clone(proof), impl.Digest{A: 3})}
	if len(proof) == 0 {
		return out
	}
	out["none"], out["shorter"], out["without the first"] = nil, proof[:len(proof)-1], proof[1:]
	for _, at := range []int{0, old - 1, old, len(proof) - 1} {
		other := slices.Clone(proof)
		other[at].B++
		out[fmt.Sprint("another at ", at)] = other
	}
	return out
}

// P27: several wishes of one size and unlike roots; the first one is taken, a middle one, the last, or none.
func TestP27UnlikeRoots(t *testing.T) {
	s := wholeLog()
	for _, held := range []int{1, 2, 3, 100, 254} {
		for _, size := range []int{held + 1, held + 2, 256} {
			p, in := s.book.point(size), growthLetter(held, size, s.book.growth(held, size))
			for many := 1; many <= 8; many++ {
				for at := range many + 1 {
					var points []impl.Point
					for k := range many {
						points = append(points, otherRoot(p, k))
					}
					if at < many {
						points[at] = p
					}
					w := impl.Witness{Disk: diskOf(s.book.point(held)), Wishes: wishesOf(points...)}
					if err := hearsAs(w, 8, in); err != nil {
						t.Fatal(err)
					}
					unlikeAlarms(t, w, impl.WitnessHear(w, 8, in), at)
				}
			}
		}
	}
}

// unlikeAlarms wants an alarm of each wish but the one at a place, of those ahead of it by the growth, of those behind it by the fork.
func unlikeAlarms(t *testing.T, w impl.Witness, got impl.Heard, at int) {
	t.Helper()
	old := impl.WitnessHeld(w.Disk)
	var want []impl.Alarm
	for k, wish := range w.Wishes {
		switch {
		case k < at:
			want = append(want, impl.Alarm{Kind: impl.AlGrowth, Who: wish.Who, Held: old, Told: wish.Point, Code: impl.GrNew})
		case k > at:
			want = append(want, impl.Alarm{Kind: impl.AlFork, Who: wish.Who, Held: w.Wishes[at].Point, Told: wish.Point})
		}
	}
	if taken := at < len(w.Wishes); !slices.Equal(got.Alarms, want) || len(got.Witness.Wishes) != 0 || taken != (len(got.Kept) == 1) || taken != (len(got.Letters) == 1) {
		t.Errorf("%d wishes, that at %d is right: %v", len(w.Wishes), at, shown(got))
	}
}

// P27: out of nothing the first wish of the size is taken, whatever its root; several alike are acknowledged.
func TestP27OutOfNothing(t *testing.T) {
	s := wholeLog()
	p := s.book.point(5)
	w := impl.Witness{Wishes: wishesOf(s.book.point(9), otherRoot(p, 1), p, otherRoot(p, 1), s.book.point(4), s.book.point(6), otherRoot(p, 1), p)}
	taken := otherRoot(p, 1)
	got := impl.WitnessHear(w, 3, growthLetter(0, 5, nil))
	fork := func(who int) impl.Alarm {
		return impl.Alarm{Kind: impl.AlFork, Who: who, Held: taken, Told: p}
	}
	if !slices.Equal(got.Alarms, []impl.Alarm{fork(6), fork(16)}) {
		t.Error("alarms:", got.Alarms)
	}
	if !slices.Equal(got.Letters, []impl.Letter{ackLetter(3, 4, 11, taken), ackLetter(3, 8, 13, taken), ackLetter(3, 14, 16, taken)}) {
		t.Error("letters:", got.Letters)
	}
	if !slices.Equal(got.Witness.Wishes, []impl.Wish{w.Wishes[0], w.Wishes[5]}) || impl.WitnessHeld(got.Witness.Disk) != taken {
		t.Error("behind it:", got.Witness)
	}
	if err := hearsAs(w, 3, growthLetter(0, 5, nil)); err != nil {
		t.Error(err)
	}
}

// P27: all lists of four wishes for what was kept, another root of its size, less, and more.
func TestP27Mixed(t *testing.T) {
	s := wholeLog()
	for _, held := range []int{0, 1, 6} {
		p := s.book.point(held + 3)
		points := []impl.Point{p, otherRoot(p, 0), otherRoot(p, 1), s.book.point(held + 2), s.book.point(held + 4), otherRoot(s.book.point(held+1), 0)}
		for k := range 6 * 6 * 6 * 6 {
			wishes := wishesOf(points[k%6], points[k/6%6], points[k/36%6], points[k/216])
			for _, disk := range disksHolding(s.book.point(held))[:2] {
				w := impl.Witness{Disk: disk, Wishes: wishes}
				if err := hearsAs(w, 20, growthLetter(held, held+3, s.book.growth(held, held+3))); err != nil {
					t.Fatal(err)
				}
			}
		}
	}
}

// P27: behind the last number of a record nothing at all comes of a growth that would be kept; of another one its alarms come.
func TestP27LastSeq(t *testing.T) {
	s := wholeLog()
	for _, held := range []int{1, 3, 255} {
		old, p := s.book.point(held), s.book.point(held+1)
		in := growthLetter(held, held+1, s.book.growth(held, held+1))
		wishes := wishesOf(s.book.point(256), otherRoot(p, 0), p, otherRoot(p, 1), p, s.book.point(256))
		for _, disk := range []impl.Disk{{One: slotOf(impl.RecordMaxSeq, old)}, {Two: slotOf(impl.RecordMaxSeq, old)}, {One: slotOf(impl.RecordMaxSeq, old), Two: slotOf(impl.RecordMaxSeq-1, p)}} {
			w := impl.Witness{Disk: disk, Wishes: wishes}
			silentWitness(t, w, 1, in, "the last number")
			bad := impl.WitnessHear(w, 1, growthLetter(held, held+1, digestsFrom(1, 4)))
			if len(bad.Kept) != 0 || len(bad.Alarms) < 4 || len(bad.Witness.Wishes) > 2 {
				t.Errorf("the last number, and a proof that is not right: %v", shown(bad))
			}
			for _, other := range []impl.Letter{vouchLetter(2, 5, old), vouchLetter(2, 5, otherRoot(old, 0)), vouchLetter(2, 5, p)} {
				if err := hearsAs(w, 1, other); err != nil {
					t.Error(err)
				}
			}
		}
		w := impl.Witness{Disk: impl.Disk{One: slotOf(impl.RecordMaxSeq-1, old)}, Wishes: wishes}
		got := impl.WitnessHear(w, 1, in)
		if record, slot := impl.RecordRead(got.Witness.Disk); record != (impl.Record{Seq: impl.RecordMaxSeq, Size: p.Size, Root: p.Root}) || slot != 2 || len(got.Letters) < 2 {
			t.Errorf("the last number but one: %v", shown(got))
		}
		if err := hearsAs(w, 1, in); err != nil {
			t.Error(err)
		}
	}
}

// P27, P28: wherever the raw writes stop, and wherever their mending does, the disk holds what it held, or all was done.
func TestP28Cuts(t *testing.T) {
	s := wholeLog()
	for _, held := range []int{0, 1, 2, 7, 255} {
		p := s.book.point(held + 1)
		in := growthLetter(held, held+1, s.book.growth(held, held+1))
		for _, disk := range disksHolding(s.book.point(held)) {
			w := impl.Witness{Disk: disk, Wishes: wishesOf(p)}
			old := impl.WitnessHeld(disk)
			got := impl.WitnessHear(w, 1, in)
			for cut := range len(got.Raws) + 1 {
				want := old
				if cut == len(got.Raws) {
					want = impl.WitnessHeld(got.Witness.Disk)
				}
				fallen := impl.RecordCut(disk, got.Raws, cut)
				if impl.WitnessHeld(fallen) != want {
					t.Fatalf("%d held, cut at %d: %v", held, cut, impl.WitnessHeld(fallen))
				}
				risesAs(t, fallen, want, in)
			}
			if len(got.Raws) == 8 && impl.WitnessHeld(got.Witness.Disk) != p {
				t.Errorf("%d held: behind all writes %v is", held, impl.WitnessHeld(got.Witness.Disk))
			}
		}
	}
}

// risesAs mends a disk, cut at each place and then whole, and lets the witness hear the growth again: without wishes nothing comes of it, and what is held is acknowledged.
func risesAs(t *testing.T, fallen impl.Disk, want impl.Point, in impl.Letter) {
	t.Helper()
	mend := impl.RecordMend(fallen)
	for cut := range len(mend) + 1 {
		half := impl.RecordCut(fallen, mend, cut)
		whole := impl.DiskWrite(half, impl.RecordMend(half))
		for _, disk := range []impl.Disk{half, whole} {
			w := impl.Witness{Disk: disk}
			if impl.WitnessHeld(disk) != want || !impl.WitnessOk(w) {
				t.Fatalf("mended up to %d: %v is held, not %v", cut, impl.WitnessHeld(disk), want)
			}
			silentWitness(t, w, 1, in, "a growth behind the rise")
			if want.Size > 0 {
				ack := []impl.Letter{ackLetter(1, 5, 9, want)}
				if got := impl.WitnessHear(w, 1, vouchLetter(5, 9, want)); !sameHeard(got, impl.Heard{Witness: w, Letters: ack}) {
					t.Fatalf("mended up to %d: %v", cut, shown(got))
				}
			}
		}
	}
}

// P30: of vouches for the points of one log, and growths out of its leaves, no alarm comes, whatever is held and wished for.
func TestP30OneLog(t *testing.T) {
	r := newRand()
	s := wholeLog()
	for _, held := range logSizes() {
		for range 60 {
			var points []impl.Point
			for range r.IntN(9) {
				if held < mostLeaves {
					points = append(points, s.book.point(held+1+r.IntN(min(4, mostLeaves-held))))
				}
			}
			w := impl.Witness{Disk: diskOf(s.book.point(held)), Wishes: wishesOf(points...)}
			size := min(held+r.IntN(5), mostLeaves)
			letters := []impl.Letter{vouchLetter(1+r.IntN(20), 1, s.book.point(size)), vouchLetter(1+r.IntN(20), 1, s.book.point(r.IntN(257)))}
			for _, from := range []int{held, r.IntN(size + 1)} {
				letters = append(letters, growthLetter(from, size, s.book.growth(from, size)))
			}
			for _, in := range letters {
				if got := impl.WitnessHear(w, 1, in); len(got.Alarms) != 0 {
					t.Fatalf("%d held: of %.12q come alarms %v", held, in.Text, got.Alarms)
				}
			}
		}
	}
}

// honestPlay is a witness, a log and what is in flight between them.
type honestPlay struct {
	r       *rand.Rand
	s       slowLog
	log     impl.Log
	witness impl.Witness
	flight  []impl.Letter
}

// step adds a leaf, vouches for a point of the log, or delivers, doubles or drops a letter.
func (h *honestPlay) step() error {
	n := len(h.log.Leaves)
	switch kind := h.r.IntN(8); {
	case kind == 0 && n < mostLeaves:
		h.log, _ = impl.LogAdd(h.log, h.s.leaves[n])
	case kind <= 2:
		h.flight = append(h.flight, vouchLetter(1+h.r.IntN(20), 1+h.r.IntN(9), h.s.book.point(h.r.IntN(n+1))))
	case len(h.flight) == 0:
	case kind == 3:
		h.flight = append(h.flight, h.flight[h.r.IntN(len(h.flight))])
	case kind == 4 && h.r.IntN(4) == 0:
		h.fall()
	default:
		at := h.r.IntN(len(h.flight))
		in := h.flight[at]
		h.flight = slices.Delete(h.flight, at, at+1)
		return h.deliver(in)
	}
	return nil
}

// fall forgets the wishes; what is in flight stays.
func (h *honestPlay) fall() {
	h.witness.Wishes = nil
}

func (h *honestPlay) deliver(in impl.Letter) error {
	if in.To == 0 {
		if answer, ok := impl.LogHear(h.log, in); ok {
			h.flight = append(h.flight, answer)
		}
		return nil
	}
	if in.To != 1 {
		return nil
	}
	if err := hearsAs(h.witness, 1, in); err != nil {
		return err
	}
	got := impl.WitnessHear(h.witness, 1, in)
	if len(got.Alarms) != 0 {
		return fmt.Errorf("alarms: %v", got.Alarms)
	}
	if got.Witness.Disk != h.witness.Disk && h.r.IntN(3) == 0 {
		// It falls within the raw writes: no letter has left.
		cut := impl.RecordCut(h.witness.Disk, got.Raws, h.r.IntN(9))
		h.witness = impl.Witness{Disk: impl.DiskWrite(cut, impl.RecordMend(cut))}
		return nil
	}
	h.witness = got.Witness
	h.flight = append(h.flight, got.Letters...)
	return nil
}

// P27, P28, P29, P30: an honest log, and a network that drops, doubles and turns around; what is held is always a point of the log.
func TestP30HonestHistories(t *testing.T) {
	s := wholeLog()
	most := 0
	for seed := range uint64(20) {
		h := honestPlay{r: rand.New(rand.NewPCG(seed, 9)), s: s}
		for step := range 1500 {
			if err := h.step(); err != nil {
				t.Fatalf("seed %d, step %d: %v", seed, step, err)
			}
			held := impl.WitnessHeld(h.witness.Disk)
			if held != s.book.point(held.Size) || held.Size > len(h.log.Leaves) {
				t.Fatalf("seed %d, step %d: %v is held", seed, step, held)
			}
			most = max(most, held.Size)
			if len(h.flight) > 60 {
				h.flight = h.flight[30:]
			}
		}
	}
	if most < 20 {
		t.Errorf("no witness held more than %d leaves", most)
	}
}

// P27, P28, P29: two logs that part, and texts that are changed, in any order, with falls in between.
func TestP29HostileHistories(t *testing.T) {
	left := wholeLog()
	parted := someLeaves(mostLeaves)
	for k := 6; k < mostLeaves; k++ {
		parted[k] = "other"
	}
	right := newSlowLog(parted)
	met := map[string]int{}
	for seed := range uint64(30) {
		r := rand.New(rand.NewPCG(seed, 5))
		var w impl.Witness
		var chain []impl.Growth
		for step := range 800 {
			in := hostileLetter(r, w, []slowLog{left, right}[r.IntN(2)])
			me := 1 + r.IntN(20)
			if err := hearsAs(w, me, in); err != nil {
				t.Fatalf("seed %d, step %d: %v", seed, step, err)
			}
			got := impl.WitnessHear(w, me, in)
			met["kept"] += len(got.Kept)
			met["letters"] += len(got.Letters)
			for _, alarm := range got.Alarms {
				met[fmt.Sprint("alarm ", alarm.Kind, " ", alarm.Code)]++
			}
			cut := 8
			if r.IntN(10) == 0 {
				cut = r.IntN(9)
				got.Witness.Wishes = nil
			}
			disk := impl.RecordCut(w.Disk, got.Raws, cut)
			w = impl.Witness{Disk: impl.DiskWrite(disk, impl.RecordMend(disk)), Wishes: got.Witness.Wishes}
			if cut == 8 && len(got.Kept) == 1 {
				chain = append(chain, got.Kept[0].Step)
			}
			if end, ok := impl.ChainEnd(impl.TreePoint(nil), chain); !ok || end != impl.WitnessHeld(w.Disk) {
				t.Fatalf("seed %d, step %d: %v is held, and the chain of what was kept ends at %v, %v", seed, step, impl.WitnessHeld(w.Disk), end, ok)
			}
		}
	}
	for _, what := range []string{"kept", "letters", "alarm 1 0", "alarm 2 2", "alarm 2 3", "alarm 2 4"} {
		if met[what] == 0 {
			t.Errorf("%s was not met: %v", what, met)
		}
	}
}

// hostileLetter is near what the witness holds and what is wished of it, so that something comes of it.
func hostileLetter(r *rand.Rand, w impl.Witness, s slowLog) impl.Letter {
	held := impl.WitnessHeld(w.Disk).Size
	size := min(max(held+r.IntN(5)-1, 0), mostLeaves)
	p := s.book.point(size)
	var in impl.Letter
	switch r.IntN(8) {
	case 0, 1, 2:
		in = vouchLetter(1+r.IntN(20), 1+r.IntN(5), p)
	case 3:
		in = vouchLetter(1+r.IntN(20), 1+r.IntN(5), otherRoot(p, r.IntN(2)))
	case 4:
		in = growthLetter(min(held, size), size, digestsFrom(r.IntN(4), r.IntN(9)))
	default:
		from := held
		if r.IntN(5) == 0 || from > size {
			from = r.IntN(size + 1)
		}
		in = growthLetter(from, size, s.book.growth(from, size))
	}
	if r.IntN(6) == 0 {
		in.Text = changed(r, in.Text)
	}
	if r.IntN(12) == 0 {
		in.From = r.IntN(22) - 1
	}
	return in
}

// P29: a witness that is not ok hears nothing.
func TestP29WrongWitnesses(t *testing.T) {
	s := wholeLog()
	for name, w := range s.wrongWitnesses() {
		held := slowHeld(w.Disk).Size
		size := min(held+1, mostLeaves)
		for _, in := range []impl.Letter{
			vouchLetter(5, 1, s.book.point(held)),
			vouchLetter(5, 1, s.book.point(size)),
			vouchLetter(2, 1, otherRoot(s.book.point(held), 0)),
			growthLetter(held, size, s.book.growth(held, size)),
			{From: 1, To: 1},
			{From: 3, To: 1, Text: "no message"},
		} {
			nothingHeard(t, w, 1, in, name)
		}
	}
}

// P29: a witness has the number of a node above 0.
func TestP29WrongNumbers(t *testing.T) {
	s := wholeLog()
	for _, w := range s.okWitnesses() {
		held := slowHeld(w.Disk).Size
		size := min(held+1, mostLeaves)
		letters := []impl.Letter{vouchLetter(5, 1, s.book.point(held)), vouchLetter(2, 1, s.book.point(size)), growthLetter(held, size, s.book.growth(held, size)), {}}
		for _, in := range letters {
			for _, me := range append(wrongNodes(), 0) {
				nothingHeard(t, w, me, in, "a wrong number")
			}
			for me := 1; me <= 20; me++ {
				if err := hearsAs(w, me, in); err != nil {
					t.Fatal(err)
				}
			}
		}
	}
}

// fewWitnesses hold nothing, three leaves and all; two of them have wishes.
func (s slowLog) fewWitnesses() []impl.Witness {
	return []impl.Witness{
		{Wishes: wishesOf(s.book.point(1), s.book.point(2))},
		{Disk: diskOf(s.book.point(3)), Wishes: wishesOf(s.pointsAbove(3, 8)...)},
		{Disk: diskOf(s.book.point(mostLeaves))},
	}
}

// P29: a letter that is not ok, also one with a message that would be heard.
func TestP29WrongLetters(t *testing.T) {
	s := wholeLog()
	for _, w := range s.fewWitnesses() {
		for name, in := range wrongLetters() {
			nothingHeard(t, w, 1, in, name)
		}
		held := slowHeld(w.Disk).Size
		size := min(held+1, mostLeaves)
		for _, in := range []impl.Letter{vouchLetter(5, 1, s.book.point(held)), vouchLetter(2, 1, s.book.point(size)), growthLetter(held, size, s.book.growth(held, size))} {
			for _, node := range wrongNodes() {
				wrong := in
				wrong.From = node
				nothingHeard(t, w, 1, wrong, "a wrong From")
				wrong = in
				wrong.To = node
				nothingHeard(t, w, 1, wrong, "a wrong To")
			}
			long := in
			long.Text += strings.Repeat("\x00", impl.WireMaxText+1-len(in.Text))
			nothingHeard(t, w, 1, long, "a text that is too long")
		}
	}
}

// P29: a text that is no message's: nothing comes of it, and the witness stays.
func TestP29NoMessages(t *testing.T) {
	s := wholeLog()
	for _, w := range s.fewWitnesses() {
		held := slowHeld(w.Disk).Size
		size := min(held+1, mostLeaves)
		for _, text := range []string{"", "\x00", "\x03", "\x05", "\x09", "no message", strings.Repeat("\x05", impl.WireMaxText)} {
			for _, from := range []int{0, 1, 20} {
				silentWitness(t, w, 1, impl.Letter{From: from, Text: text}, "no message")
			}
		}
		for _, in := range []impl.Letter{vouchLetter(5, 1, s.book.point(held)), vouchLetter(2, 1, s.book.point(size)), growthLetter(held, size, s.book.growth(held, size))} {
			for end := range len(in.Text) {
				silentWitness(t, w, 1, impl.Letter{From: in.From, Text: in.Text[:end]}, "a message cut short")
			}
			for _, more := range []string{"\x00", "\x01", blank, in.Text} {
				silentWitness(t, w, 1, impl.Letter{From: in.From, Text: in.Text + more}, "a message with more")
			}
			for first := range 256 {
				other := impl.Letter{From: in.From, Text: string([]byte{byte(first)}) + in.Text[1:]}
				if err := hearsAs(w, 1, other); err != nil {
					t.Fatal(err)
				}
			}
		}
		zeroSession := "\x03\x00\x00\x00" + vouchLetter(2, 1, s.book.point(size)).Text[4:]
		silentWitness(t, w, 1, impl.Letter{From: 2, Text: zeroSession}, "a vouch of session 0")
	}
}

// P29: kinds that a witness does not hear, from whomever; a vouch from the log, and a growth from anybody else.
func TestP29OtherKinds(t *testing.T) {
	s := wholeLog()
	for _, w := range s.fewWitnesses() {
		held := slowHeld(w.Disk)
		messages := append(someMessages(), greatestMessages()...)
		size := min(held.Size+1, mostLeaves)
		p := s.book.point(size)
		for _, kind := range []int{impl.MsHead, impl.MsVouch, impl.MsAck} {
			messages = append(messages, impl.Message{Kind: kind, Session: 3, Size: held.Size, Root: held.Root}, impl.Message{Kind: kind, Session: 3, Size: p.Size, Root: p.Root})
		}
		messages = append(messages, proveOf(held.Size, size), impl.Message{Kind: impl.MsGrowth, From: held.Size, Size: size, Proof: s.book.growth(held.Size, size)})
		for _, m := range messages {
			for _, from := range []int{0, 1, 2, 20} {
				in := impl.Letter{From: from, Text: layMessage(m).text}
				if m.Kind == impl.MsVouch && from > 0 || m.Kind == impl.MsGrowth && from == 0 {
					if err := hearsAs(w, 1, in); err != nil {
						t.Fatal(err)
					}
					continue
				}
				silentWitness(t, w, 1, in, fmt.Sprint("kind ", m.Kind))
			}
		}
	}
}

// P29: to whom a letter is sent makes no difference; of a vouch it does from whom, also when that is the witness itself.
func TestP29AllNodes(t *testing.T) {
	s := wholeLog()
	for _, w := range s.fewWitnesses() {
		held := slowHeld(w.Disk).Size
		size := min(held+1, mostLeaves)
		for to := range 21 {
			for from := range 21 {
				for _, in := range []impl.Letter{vouchLetter(from, 1, s.book.point(held)), vouchLetter(from, 2, s.book.point(size)), growthLetter(held, size, s.book.growth(held, size))} {
					in.From, in.To = from, to
					if err := hearsAs(w, 7, in); err != nil {
						t.Fatal(err)
					}
				}
			}
		}
	}
}

// laidWitness has wishes ahead of marks.
type laidWitness struct {
	witness impl.Witness
	whole   []impl.Wish
}

func layWitness(w impl.Witness) laidWitness {
	out := laidWitness{witness: impl.Witness{Disk: w.Disk}}
	out.witness.Wishes, out.whole = withRoom(w.Wishes, markWish())
	return out
}

func markWish() impl.Wish {
	return impl.Wish{Who: 19, Session: 99, Point: impl.Point{Size: 200}}
}

// untouched wants the wishes, and behind them the marks.
func (l laidWitness) untouched(w impl.Witness) bool {
	_, want := withRoom(w.Wishes, markWish())
	return slices.Equal(l.whole, want)
}

func scribbleList[T any](list []T, mark T) {
	list = list[:cap(list)]
	for k := range list {
		list[k] = mark
	}
}

// scribbleHeard writes over all lists, spare room included.
func scribbleHeard(h impl.Heard) {
	scribbleList(h.Witness.Wishes, impl.Wish{Who: 13})
	scribbleRaws(h.Raws)
	for _, kept := range h.Kept {
		scribble(kept.Step.Proof)
	}
	scribbleList(h.Kept, impl.Keep{Old: impl.Point{Size: 77}})
	scribbleLetters(h.Letters)
	scribbleList(h.Alarms, impl.Alarm{Kind: 77})
}

// memoryCase is a witness and a letter of which something comes.
type memoryCase struct {
	witness impl.Witness
	in      impl.Letter
}

func memoryCases() map[string]memoryCase {
	known, one, _, three, four := knownWitness()
	a, b, c := one.Root, slowHash("\x00b"), slowHash("\x00c")
	full := impl.Witness{Disk: known.Disk, Wishes: wishesOf(slices.Repeat([]impl.Point{three}, 8)...)}
	return map[string]memoryCase{
		"kept":            {known, growthLetter(1, 3, []impl.Digest{a, b, c})},
		"all kept":        {full, growthLetter(1, 3, []impl.Digest{a, b, c})},
		"refused":         {known, growthLetter(1, 3, []impl.Digest{a, c, b})},
		"out of nothing":  {impl.Witness{Wishes: known.Wishes}, growthLetter(0, 3, nil)},
		"another size":    {known, growthLetter(2, 3, []impl.Digest{a, b})},
		"a new wish":      {known, vouchLetter(5, 1, four)},
		"another wish":    {known, vouchLetter(4, 1, four)},
		"a wish too many": {full, vouchLetter(5, 1, four)},
		"held":            {known, vouchLetter(5, 1, one)},
		"a fork":          {known, vouchLetter(5, 1, otherRoot(one, 0))},
		"no message":      {known, impl.Letter{From: 1, Text: "none"}},
		"nothing":         {impl.Witness{Wishes: slices.Repeat(known.Wishes, 2)}, vouchLetter(5, 1, one)},
	}
}

func TestWitnessWritesNoArgument(t *testing.T) {
	for name, one := range memoryCases() {
		w, in := one.witness, one.in
		laid := layWitness(w)
		impl.WitnessOk(laid.witness)
		want := slowHear(w, 1, in)
		if got := impl.WitnessHear(laid.witness, 1, in); !sameHeard(got, want) || !laid.untouched(w) {
			t.Errorf("%s: the wishes are written into, or %v comes", name, shown(got))
		}
	}
	s := wholeLog()
	for _, w := range s.okWitnesses() {
		laid := layWitness(w)
		for _, in := range s.someLetters(slowHeld(w.Disk).Size) {
			impl.WitnessHear(laid.witness, 1, in)
		}
		if !laid.untouched(w) {
			t.Fatalf("the wishes are written into: %v", w)
		}
	}
}

// What comes stays when the wishes and the letter are written over.
func TestWitnessAnswersAreNewMemory(t *testing.T) {
	for name, one := range memoryCases() {
		w, in := one.witness, one.in
		laid, text := layWitness(w), []byte(in.Text)
		want := slowHear(w, 1, in)
		got := impl.WitnessHear(laid.witness, 1, impl.Letter{From: in.From, To: in.To, Text: textOver(text)})
		clear(text)
		scribbleList(laid.whole, impl.Wish{Who: 13})
		if !sameHeard(got, want) {
			t.Errorf("%s: what came is another when what was given is written over: %v", name, shown(got))
		}
	}
}

// What came is written over, list by list, spare room included: that is to be seen in no other list, not in the wishes, and not in what comes next.
func TestWitnessAnswersShareNothing(t *testing.T) {
	for name, one := range memoryCases() {
		w, in := one.witness, one.in
		laid := layWitness(w)
		want := slowHear(w, 1, in)
		first, second := impl.WitnessHear(laid.witness, 1, in), impl.WitnessHear(laid.witness, 1, in)
		scribbleHeard(first)
		if !laid.untouched(w) || !sameHeard(second, want) || !sameHeard(impl.WitnessHear(laid.witness, 1, in), want) {
			t.Errorf("%s: what came shares memory", name)
		}
		listsApart(t, name, second, want)
	}
}

// listsApart writes over one list after the other, and looks for it in those that are still as they came.
func listsApart(t *testing.T, name string, got, want impl.Heard) {
	t.Helper()
	for k, over := range []func(){
		func() {
			scribbleList(got.Witness.Wishes, impl.Wish{Who: 13})
			want.Witness.Wishes, got.Witness.Wishes = nil, nil
		},
		func() { scribbleRaws(got.Raws); want.Raws, got.Raws = nil, nil },
		func() { scribbleLetters(got.Letters); want.Letters, got.Letters = nil, nil },
		func() { scribbleList(got.Alarms, impl.Alarm{Kind: 77}); want.Alarms, got.Alarms = nil, nil },
		func() { scribbleHeard(got); want.Kept, got.Kept = nil, nil },
	} {
		over()
		if !sameHeard(got, want) {
			t.Errorf("%s: list %d shares memory with another", name, k)
		}
	}
}

// Two witnesses that come of one do not come into each other's way.
func TestWitnessesGoOnApart(t *testing.T) {
	s := wholeLog()
	for many := range 8 {
		start := impl.Witness{Wishes: wishesOf(s.pointsAbove(0, many)...)}
		start = impl.WitnessHear(start, 1, vouchLetter(17, 1, s.book.point(4))).Witness
		ahead := slices.Clone(start.Wishes)
		left := impl.WitnessHear(start, 1, vouchLetter(19, 1, s.book.point(5)))
		right := impl.WitnessHear(start, 1, vouchLetter(18, 2, s.book.point(6)))
		kept := impl.WitnessHear(start, 1, growthLetter(0, 4, nil))
		wantRight, wantKept := slowHear(start, 1, vouchLetter(18, 2, s.book.point(6))), slowHear(start, 1, growthLetter(0, 4, nil))
		scribbleHeard(left)
		if !slices.Equal(start.Wishes, ahead) || !sameHeard(right, wantRight) || !sameHeard(kept, wantKept) {
			t.Errorf("%d wishes: they come into each other's way", many)
		}
	}
}
