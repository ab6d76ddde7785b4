package tests

import (
	"math"
	"slices"
	"strconv"
	"strings"
	"testing"
	"unsafe"

	"loop.example/belfry/impl"
)

// slowRow is written from the whole down, each half folded anew.
func slowRow(r run, i int, leaf string, path []impl.Digest) []string {
	if r.hi-r.lo == 1 {
		return []string{"\x00" + leaf}
	}
	first, rest := halvesOf(r)
	last := len(path) - 1
	if i < rest.lo {
		return append([]string{textOfPair(foldPath(first, i, leaf, path[:last]), path[last])}, slowRow(first, i, leaf, path[:last])...)
	}
	return append([]string{textOfPair(path[last], foldPath(rest, i, leaf, path[:last]))}, slowRow(rest, i, leaf, path[:last])...)
}

func textOfPair(left, right impl.Digest) string {
	return "\x01" + bytesOf(left) + bytesOf(right)
}

// slowProofRow looks through all nodes of the tree of m leaves, by the document's words.
func slowProofRow(m, n, i int, proof []impl.Digest) []string {
	olds := oldNodes(allNodes(run{0, n}), m)
	var row []string
	for _, node := range allNodes(run{0, m}) {
		if i < node.lo || i >= node.hi || node.hi-node.lo < 2 || slices.ContainsFunc(olds, node.within) {
			continue
		}
		first, rest := halvesOf(node)
		row = append(row, textOfPair(foldGrowth(first, olds, proof), foldGrowth(rest, olds, proof)))
	}
	return row
}

func slowFirst(a, b []string) (impl.Clash, bool) {
	if len(a) == 0 || len(b) == 0 {
		return impl.Clash{}, false
	}
	if a[0] != b[0] {
		return impl.Clash{Left: a[0], Right: b[0]}, true
	}
	return slowFirst(a[1:], b[1:])
}

// isClash does not ask ClashOk alone.
func isClash(c impl.Clash) bool {
	return impl.ClashOk(c) && c.Left != c.Right && slowHash(c.Left) == slowHash(c.Right)
}

// digestBook tells the digests of a list of which not all leaves are known: some runs have a digest that is written down, the others come of their halves, and leaves of the book's name.
type digestBook struct {
	name  string
	known map[run]impl.Digest
}

func newDigestBook(name string) digestBook {
	return digestBook{name: name, known: map[run]impl.Digest{}}
}

func (b digestBook) root(r run) impl.Digest {
	if d, ok := b.known[r]; ok {
		return d
	}
	if r.hi-r.lo == 1 {
		return anyDigest(b.name, r.lo)
	}
	first, rest := halvesOf(r)
	return pairOf(b.root(first), b.root(rest))
}

func (b digestBook) point(n int) impl.Point {
	return impl.Point{Size: n, Root: b.root(run{0, n})}
}

func (b digestBook) path(n, i int) []impl.Digest {
	var out []impl.Digest
	for _, node := range overLeaf(n, i) {
		out = append(out, b.root(otherHalf(node, i)))
	}
	return out
}

func (b digestBook) step(m, n int) impl.Growth {
	var proof []impl.Digest
	for _, node := range proofNodes(m, n) {
		proof = append(proof, b.root(node))
	}
	return impl.Growth{New: b.point(n), Proof: proof}
}

// steps go from size to size.
func (b digestBook) steps(sizes ...int) []impl.Growth {
	var out []impl.Growth
	for k := 1; k < len(sizes); k++ {
		out = append(out, b.step(sizes[k-1], sizes[k]))
	}
	return out
}

// anyDigest has no byte 255, so that nothing is left out where it is hashed.
func anyDigest(name string, k int) impl.Digest {
	text := name + strconv.Itoa(k)
	for strings.Contains(bytesOf(impl.HashOf(text)), blank) {
		text += "."
	}
	return impl.HashOf(text)
}

func digestOf(text string) impl.Digest {
	return impl.Digest{A: wordOf(text[:8]), B: wordOf(text[8:16]), C: wordOf(text[16:24]), D: wordOf(text[24:32])}
}

// rightFor is the right digest with which left makes the same HashPair as the other two. The text of a pair is three blocks, and HashBlock has a way back: so the second one can be chosen. It begins with left's last byte, which is met once in 256 times.
func rightFor(left, otherLeft, otherRight impl.Digest) (impl.Digest, bool) {
	text, other := textOfPair(left, impl.Digest{}), textOfPair(otherLeft, otherRight)
	state := impl.HashBlock(hashStart, digestOf(text[:32]))
	otherState := impl.HashBlock(hashStart, digestOf(other[:32]))
	second := bytesOf(undoBlock(state, impl.HashBlock(otherState, digestOf(other[32:64]))))
	if second[0] != text[32] || strings.Contains(second+text+other, blank) {
		return impl.Digest{}, false
	}
	return digestOf(second[1:] + other[64:]), true
}

// forgery is two books of one root at a size, with wholly unlike leaves x and y at a place.
type forgery struct {
	size, at int
	node     run
	x, y     string
	bookX    digestBook
	bookY    digestBook
	clash    impl.Clash
}

// runsOf are the runs of the peaks, with their places.
func runsOf(r run) []run {
	var out []run
	for _, length := range runLengths(r.hi - r.lo) {
		out = append(out, run{r.lo, r.lo + length})
		r.lo += length
	}
	return out
}

// forge makes leaves that are wholly unlike.
func forge(n int, node run, i int) forgery {
	return forgeNamed(n, node, i, "x", "y")
}

// forgeNamed makes the books differ within a node in whose first half the leaf i is: there the halves have unlike digests, and the pair has one. The leaves begin with the names; if these are alike there has to be another leaf in the first half.
func forgeNamed(n int, node run, i int, nameX, nameY string) forgery {
	f := forgery{size: n, at: i, node: node, bookX: newDigestBook("x"), bookY: newDigestBook("y")}
	first, rest := halvesOf(node)
	for k, above := range overLeaf(n, i) {
		if above != node && node.within(above) {
			shared := anyDigest("above", k)
			f.bookX.known[otherHalf(above, i)], f.bookY.known[otherHalf(above, i)] = shared, shared
		}
	}
	tail := runsOf(rest)
	for k, one := range tail {
		f.bookY.known[one] = anyDigest("peak", k)
	}
	place := run{i, i + 1}
	for try := 0; ; try++ {
		f.x, f.y = nameX+strconv.Itoa(try/4096), nameY+strconv.Itoa(try/4096)
		f.bookX.known[place], f.bookY.known[place] = impl.HashLeaf(f.x), impl.HashLeaf(f.y)
		left, otherLeft := f.bookX.root(first), f.bookY.root(first)
		for ; (try+1)%4096 != 0; try++ {
			f.bookY.known[tail[len(tail)-1]] = anyDigest("try", try)
			if right, ok := rightFor(left, otherLeft, f.bookY.root(rest)); ok {
				f.bookX.known[rest] = right
				f.clash = impl.Clash{Left: textOfPair(left, right), Right: textOfPair(otherLeft, f.bookY.root(rest))}
				return f
			}
		}
	}
}

func (f forgery) pathX() []impl.Digest {
	return f.bookX.path(f.size, f.at)
}

func (f forgery) pathY() []impl.Digest {
	return f.bookY.path(f.size, f.at)
}

// firstHalves are the nodes over the leaf i in whose first half it is.
func firstHalves(n, i int) []run {
	return keep(overLeaf(n, i), func(r run) bool {
		first, _ := halvesOf(r)
		return i < first.hi
	})
}

// ends are the first and the last place of a run.
func ends(r run) []int {
	if r.hi-r.lo == 1 {
		return []int{r.lo}
	}
	return []int{r.lo, r.hi - 1}
}

// growForgeries are forgeries of m leaves over which no path is lifted: one for each peak but the last, and for its ends.
func growForgeries(m int) []forgery {
	var out []forgery
	peaks := runsOf(run{0, m})
	for _, peak := range peaks[:len(peaks)-1] {
		for _, i := range ends(peak) {
			out = append(out, forge(m, run{peak.lo, m}, i))
		}
	}
	return out
}

// growSizes are those to which m leaves may grow, at their edges.
func growSizes(m int) []int {
	var out []int
	for _, n := range []int{m + 1, m + 2, 2*m - 1, 2 * m, 128, 129, 255, 256} {
		if n > m && n <= mostLeaves && !slices.Contains(out, n) {
			out = append(out, n)
		}
	}
	return out
}

// blanksIn are leaves that are unlike this one, and have its digest.
func blanksIn(leaf string) []string {
	if len(leaf) >= longLeaf {
		return nil
	}
	room := longLeaf - len(leaf)
	out := []string{blank + leaf, leaf + blank, leaf + strings.Repeat(blank, room), leaf[:len(leaf)/2] + blank + leaf[len(leaf)/2:]}
	slices.Sort(out)
	return slices.Compact(out)
}

// turnBlank moves a byte 255 from the front to the end: another digest, that stands in a pair of the same digest.
func turnBlank(d impl.Digest) (impl.Digest, impl.Digest) {
	rest := withoutBlanks(bytesOf(d)) + strings.Repeat("r", 32)
	return digestOf(blank + rest[:31]), digestOf(rest[:31] + blank)
}

func noClash(t *testing.T, c impl.Clash, ok bool, what string) {
	t.Helper()
	if ok || c != (impl.Clash{}) {
		t.Errorf("%s: %v, %.20q and %.20q", what, ok, c.Left, c.Right)
	}
}

func thisClash(t *testing.T, c impl.Clash, ok bool, want impl.Clash, what string) {
	t.Helper()
	if !ok || c != want {
		t.Errorf("%s: %v, %.20q and %.20q, not %.20q and %.20q", what, ok, c.Left, c.Right, want.Left, want.Right)
	}
	if !isClash(c) {
		t.Errorf("%s: no clash is told", what)
	}
}

// P11: a row begins at the root, and each text has the digest of the next.
func TestP11Row(t *testing.T) {
	for n := 1; n <= mostLeaves; n++ {
		for _, i := range edgePlaces(n) {
			path := digestsFrom(impl.PathLen(n, i), n+i)
			leaf := strings.Repeat("l", (n+i)%(longLeaf+1))
			row, ok := impl.ClashRow(n, i, leaf, path)
			if !ok || !slices.Equal(row, slowRow(run{0, n}, i, leaf, path)) {
				t.Fatalf("the leaf %d of %d: %v, not its row", i, n, ok)
			}
			if root, _ := impl.PathRoot(n, i, leaf, path); root != impl.HashOf(row[0]) {
				t.Errorf("the leaf %d of %d: the row does not begin at the root", i, n)
			}
			for k, text := range row[1:] {
				below := impl.HashBytes(impl.HashOf(text))
				if len(row[k]) != 65 || row[k][1:33] != below && row[k][33:] != below {
					t.Errorf("the leaf %d of %d: the text %d has not the digest of the next", i, n, k)
				}
			}
		}
	}
	for _, leaf := range []string{"", "a", blank, strings.Repeat("a", longLeaf)} {
		for _, path := range [][]impl.Digest{nil, {}} {
			if row, ok := impl.ClashRow(1, 0, leaf, path); !ok || !slices.Equal(row, []string{"\x00" + leaf}) {
				t.Errorf("the only leaf %q: %v %q", leaf, ok, row)
			}
		}
	}
}

// P11: of two and three leaves the rows are written out.
func TestP11RowKnown(t *testing.T) {
	a, b, c := impl.HashLeaf("a"), impl.HashLeaf("b"), impl.HashLeaf("c")
	ab := textOfPair(a, b)
	abc := textOfPair(impl.HashOf(ab), c)
	for _, one := range []struct {
		n, i int
		leaf string
		path []impl.Digest
		want []string
	}{
		{2, 0, "a", []impl.Digest{b}, []string{ab, "\x00a"}},
		{2, 1, "b", []impl.Digest{a}, []string{ab, "\x00b"}},
		{3, 0, "a", []impl.Digest{b, c}, []string{abc, ab, "\x00a"}},
		{3, 1, "b", []impl.Digest{a, c}, []string{abc, ab, "\x00b"}},
		{3, 2, "c", []impl.Digest{impl.HashOf(ab)}, []string{abc, "\x00c"}},
	} {
		if row, ok := impl.ClashRow(one.n, one.i, one.leaf, one.path); !ok || !slices.Equal(row, one.want) {
			t.Errorf("the leaf %d of %d: %v %q", one.i, one.n, ok, row)
		}
	}
}

// wrongPath is what PathRoot refuses.
type wrongPath struct {
	n, i int
	leaf string
	path []impl.Digest
}

// wrongPaths break each argument of a path in turn.
func wrongPaths(n, i int, leaf string, path []impl.Digest) []wrongPath {
	out := []wrongPath{
		{n, i, leaf + strings.Repeat(blank, longLeaf+1-len(leaf)), path},
		{n, i, strings.Repeat("a", longest), path},
		{n, i, leaf, append(slices.Clone(path), impl.Digest{A: 1})},
		{n, i, leaf, append(slices.Clone(path), digestsFrom(20, 0)...)},
	}
	if len(path) > 0 {
		out = append(out, wrongPath{n, i, leaf, path[1:]}, wrongPath{n, i, leaf, path[:len(path)-1]}, wrongPath{n, i, leaf, nil})
	}
	for _, odd := range append(oddSizes(), 0) {
		out = append(out, wrongPath{odd, i, leaf, path}, wrongPath{odd, odd, leaf, path}, wrongPath{odd, odd - 1, leaf, nil})
	}
	for _, place := range []int{math.MinInt, math.MinInt + 1, -1, n, n + 1, mostLeaves, math.MaxInt - 1, math.MaxInt} {
		out = append(out, wrongPath{n, place, leaf, path})
	}
	return out
}

func TestP11RowWrong(t *testing.T) {
	for _, n := range []int{1, 2, 3, 13, 255, 256} {
		for _, i := range edgePlaces(n) {
			for _, w := range wrongPaths(n, i, "a", digestsFrom(impl.PathLen(n, i), 0)) {
				if row, ok := impl.ClashRow(w.n, w.i, w.leaf, w.path); ok || len(row) != 0 {
					t.Errorf("the leaf %d of %d: a row of %d bytes and %d digests", w.i, w.n, len(w.leaf), len(w.path))
				}
			}
		}
	}
}

func TestP11First(t *testing.T) {
	long := strings.Repeat("l", longest+1)
	for name, c := range map[string]struct {
		a, b []string
		want impl.Clash
		ok   bool
	}{
		"none and none":          {nil, nil, impl.Clash{}, false},
		"none and empty":         {nil, []string{}, impl.Clash{}, false},
		"none and some":          {nil, []string{"a"}, impl.Clash{}, false},
		"some and none":          {[]string{"a", "b"}, []string{}, impl.Clash{}, false},
		"none and an empty text": {nil, []string{""}, impl.Clash{}, false},
		"alike":                  {[]string{"a", "b"}, []string{"a", "b"}, impl.Clash{}, false},
		"a beginning":            {[]string{"a"}, []string{"a", "b"}, impl.Clash{}, false},
		"longer":                 {[]string{"a", "b", "c"}, []string{"a", "b"}, impl.Clash{}, false},
		"an empty text more":     {[]string{"a", ""}, []string{"a"}, impl.Clash{}, false},
		"the only":               {[]string{"a"}, []string{"b"}, impl.Clash{Left: "a", Right: "b"}, true},
		"the first":              {[]string{"a", "c"}, []string{"b", "c"}, impl.Clash{Left: "a", Right: "b"}, true},
		"the last":               {[]string{"c", "c", "a"}, []string{"c", "c", "b"}, impl.Clash{Left: "a", Right: "b"}, true},
		"the first of two":       {[]string{"a", "c"}, []string{"b", "d"}, impl.Clash{Left: "a", Right: "b"}, true},
		"a middle one":           {[]string{"s", "a", "s", "u"}, []string{"s", "b", "s", "v"}, impl.Clash{Left: "a", Right: "b"}, true},
		"the last of the short":  {[]string{"s", "a"}, []string{"s", "b", "t"}, impl.Clash{Left: "a", Right: "b"}, true},
		"the first of the short": {[]string{"a", "s", "t"}, []string{"b"}, impl.Clash{Left: "a", Right: "b"}, true},
		"an empty text":          {[]string{"s", ""}, []string{"s", "b"}, impl.Clash{Left: "", Right: "b"}, true},
		"a byte 255":             {[]string{"a"}, []string{"a" + blank}, impl.Clash{Left: "a", Right: "a" + blank}, true},
		"no clash at all":        {[]string{"aa"}, []string{long}, impl.Clash{Left: "aa", Right: long}, true},
	} {
		if got, ok := impl.ClashFirst(c.a, c.b); ok != c.ok || got != c.want {
			t.Errorf("%s: %v %.20q %.20q", name, ok, got.Left, got.Right)
		}
		turned := impl.Clash{Left: c.want.Right, Right: c.want.Left}
		if got, ok := impl.ClashFirst(c.b, c.a); ok != c.ok || got != turned {
			t.Errorf("%s, turned round: %v %.20q %.20q", name, ok, got.Left, got.Right)
		}
	}
}

func TestP11FirstOfAny(t *testing.T) {
	r := newRand()
	rowOf := func() []string {
		row := make([]string, r.IntN(12))
		for k := range row {
			row[k] = []string{"a", "a", "a", "a", "b", ""}[r.IntN(6)]
		}
		return row
	}
	for range 5000 {
		a, b := rowOf(), rowOf()
		want, wantOk := slowFirst(a, b)
		if got, ok := impl.ClashFirst(a, b); ok != wantOk || got != want {
			t.Fatalf("%q and %q: %v %q %q", a, b, ok, got.Left, got.Right)
		}
	}
}

// P13: leaves that differ by bytes 255, with one path.
func TestP13BlanksWithOnePath(t *testing.T) {
	for _, n := range append(edgeSizes(), 96, 192) {
		for _, i := range edgePlaces(n) {
			path := digestsFrom(impl.PathLen(n, i), i)
			for _, x := range []string{"", "a", "leaf\x00"} {
				for _, y := range blanksIn(x) {
					got, ok := impl.ClashOfPaths(n, i, x, path, y, path)
					thisClash(t, got, ok, impl.Clash{Left: "\x00" + x, Right: "\x00" + y}, "one path")
					got, ok = impl.ClashOfPaths(n, i, y, path, x, path)
					thisClash(t, got, ok, impl.Clash{Left: "\x00" + y, Right: "\x00" + x}, "one path, turned round")
				}
			}
		}
	}
}

// P13: the paths differ by bytes 255, too; the first place from the root down counts. Alike leaves are told as well, where the paths are unlike.
func TestP13BlanksWithTwoPaths(t *testing.T) {
	for _, n := range []int{2, 3, 5, 8, 13, 100, 255, 256} {
		for _, i := range edgePlaces(n) {
			length := impl.PathLen(n, i)
			for k := range length {
				for j := range k + 1 {
					px := digestsFrom(length, 40)
					py := slices.Clone(px)
					px[k], py[k] = turnBlank(px[k])
					px[j], py[j] = turnBlank(px[j])
					want := impl.Clash{Left: slowRow(run{0, n}, i, "x", px)[length-1-k], Right: slowRow(run{0, n}, i, "x", py)[length-1-k]}
					for _, y := range []string{"x", "x" + blank, blank + "x"} {
						got, ok := impl.ClashOfPaths(n, i, "x", px, y, py)
						thisClash(t, got, ok, want, "two paths")
					}
				}
			}
		}
	}
}

// P13: wholly unlike leaves, of unlike digests.
func TestP13UnlikeLeaves(t *testing.T) {
	for _, n := range []int{2, 3, 4, 5, 7, 8, 13, 64, 255, 256} {
		for _, i := range []int{0, n / 3, n / 2, n - 1} {
			for _, node := range firstHalves(n, i) {
				f := forge(n, node, i)
				got, ok := impl.ClashOfPaths(n, i, f.x, f.pathX(), f.y, f.pathY())
				thisClash(t, got, ok, f.clash, "unlike leaves")
				got, ok = impl.ClashOfPaths(n, i, f.y, f.pathY(), f.x, f.pathX())
				thisClash(t, got, ok, impl.Clash{Left: f.clash.Right, Right: f.clash.Left}, "unlike leaves, turned round")
			}
		}
	}
}

// P11: nothing is told of two paths when PathRoot refuses one of them, or makes two roots.
func TestP11PathsWrong(t *testing.T) {
	for _, n := range []int{1, 2, 3, 13, 255, 256} {
		for _, i := range edgePlaces(n) {
			path := digestsFrom(impl.PathLen(n, i), 11)
			for _, w := range wrongPaths(n, i, "a", path) {
				got, ok := impl.ClashOfPaths(w.n, w.i, w.leaf, w.path, "a"+blank, path)
				noClash(t, got, ok, "x refused")
				got, ok = impl.ClashOfPaths(w.n, w.i, "a"+blank, path, w.leaf, w.path)
				noClash(t, got, ok, "y refused")
				got, ok = impl.ClashOfPaths(w.n, w.i, w.leaf, w.path, w.leaf+blank, w.path)
				noClash(t, got, ok, "both refused")
			}
			got, ok := impl.ClashOfPaths(n, i, "a", path, "b", path)
			noClash(t, got, ok, "two roots")
			got, ok = impl.ClashOfPaths(n, i, "a", path, "a", path)
			noClash(t, got, ok, "one path of one leaf")
			for k := range path {
				other := slices.Clone(path)
				other[k].C ^= 1
				got, ok = impl.ClashOfPaths(n, i, "a", path, "a"+blank, other)
				noClash(t, got, ok, "two roots by a digest")
			}
		}
	}
}

// P11: a path that is right for the old root only by a clash is not lifted: the clash is told, at each peak.
func TestP11Growth(t *testing.T) {
	for _, m := range []int{3, 5, 6, 7, 12, 13, 21, 100, 129, 254, 255} {
		for _, f := range growForgeries(m) {
			old := f.bookX.point(m)
			for _, n := range growSizes(m) {
				step := f.bookY.step(m, n)
				want, _ := slowFirst(slowRow(run{0, m}, f.at, f.x, f.pathX()), slowProofRow(m, n, f.at, step.Proof))
				if want != f.clash {
					t.Fatalf("from %d to %d: the forgery does not stand in the rows", m, n)
				}
				got, ok := impl.ClashOfGrowth(old, step, f.at, f.x, f.pathX())
				thisClash(t, got, ok, f.clash, "a path that is not lifted")
				got, ok = impl.ClashOfGrowth(old, step, f.at, f.y, f.pathY())
				noClash(t, got, ok, "a path that is lifted")
				step = f.bookX.step(m, m)
				got, ok = impl.ClashOfGrowth(old, step, f.at, f.x, f.pathX())
				noClash(t, got, ok, "a step that does not grow")
			}
		}
	}
}

// blankForgery has a byte 255 that goes over from one half to the other: so the path's half has the digest of the leaf, and the proof's half one that nobody knows leaves of.
func blankForgery(m int, i int, leaf string) (old impl.Point, path []impl.Digest, byProof digestBook, want impl.Clash) {
	byPath := newDigestBook("a")
	byProof = newDigestBook("b")
	peaks := runsOf(run{0, m})
	for k, peak := range peaks {
		shared := anyDigest("blank", k)
		byPath.known[peak], byProof.known[peak] = shared, shared
	}
	home := slices.IndexFunc(peaks, func(r run) bool { return i < r.hi })
	delete(byPath.known, peaks[home])
	byPath.known[run{i, i + 1}] = impl.HashLeaf(leaf)
	own := bytesOf(byPath.root(peaks[home]))
	last := len(peaks) - 1
	if home == last {
		ahead := bytesOf(byPath.known[peaks[last-1]])
		byPath.known[peaks[last-1]] = digestOf(ahead[:31] + blank)
		byProof.known[peaks[last-1]] = digestOf(ahead[:31] + own[:1])
		byProof.known[peaks[last]] = digestOf(own[1:] + blank)
		want = impl.Clash{Left: textOfPair(byPath.known[peaks[last-1]], digestOf(own)), Right: textOfPair(byProof.known[peaks[last-1]], byProof.known[peaks[last]])}
	} else {
		rest := run{peaks[home].hi, m}
		for try := 0; bytesOf(byProof.root(rest))[:1] != own[31:]; try++ {
			byProof.known[peaks[last]] = anyDigest("try", try)
		}
		others := bytesOf(byProof.root(rest))
		byPath.known[rest] = digestOf(others[1:] + blank)
		byProof.known[peaks[home]] = digestOf(blank + own[:31])
		want = impl.Clash{Left: textOfPair(digestOf(own), byPath.known[rest]), Right: textOfPair(byProof.known[peaks[home]], digestOf(others))}
	}
	return byPath.point(m), byPath.path(m, i), byProof, want
}

// P11: at each peak, the last one too.
func TestP11GrowthByBlanks(t *testing.T) {
	for _, m := range []int{3, 5, 6, 7, 13, 21, 100, 129, 254, 255} {
		for _, peak := range runsOf(run{0, m}) {
			for _, i := range ends(peak) {
				leaf := "leaf"
				for strings.Contains(bytesOf(impl.HashLeaf(leaf)), blank) {
					leaf += "."
				}
				old, path, byProof, want := blankForgery(m, i, leaf)
				for _, n := range growSizes(m) {
					got, ok := impl.ClashOfGrowth(old, byProof.step(m, n), i, leaf, path)
					thisClash(t, got, ok, want, "a byte 255 that goes over")
				}
			}
		}
	}
}

// P11: the rows differ, and yet the path is lifted: it takes the proof's digest of the half without the leaf.
func TestP11GrowthThatIsLifted(t *testing.T) {
	for _, m := range []int{3, 5, 7, 13, 255} {
		peaks := runsOf(run{0, m})
		for k, peak := range peaks[:len(peaks)-1] {
			one, other := newDigestBook("a"), newDigestBook("a")
			one.known[peak], other.known[peak] = turnBlank(anyDigest("peak", k))
			for _, i := range []int{peak.hi, m - 1} {
				one.known[run{i, i + 1}], other.known[run{i, i + 1}] = impl.HashLeaf("x"), impl.HashLeaf("x")
				for _, n := range growSizes(m) {
					step, path := other.step(m, n), one.path(m, i)
					if _, differ := slowFirst(slowRow(run{0, m}, i, "x", path), slowProofRow(m, n, i, step.Proof)); !differ {
						t.Fatalf("from %d to %d: the rows do not differ", m, n)
					}
					got, ok := impl.ClashOfGrowth(one.point(m), step, i, "x", path)
					noClash(t, got, ok, "a half without the leaf")
				}
			}
			delete(one.known, peak)
		}
	}
}

// P11: what ClashOfGrowth tells is asked of all its premises: each is broken in turn, of a forgery that is told.
func TestP11GrowthWrong(t *testing.T) {
	for _, m := range []int{3, 13, 255} {
		for _, f := range growForgeries(m) {
			old, step, path := f.bookX.point(m), f.bookY.step(m, 256), f.pathX()
			none := func(what string, old impl.Point, step impl.Growth, i int, leaf string, path []impl.Digest) {
				t.Helper()
				got, ok := impl.ClashOfGrowth(old, step, i, leaf, path)
				noClash(t, got, ok, what)
			}
			none("another old root", impl.Point{Size: m, Root: step.New.Root}, step, f.at, f.x, path)
			none("the zero old root", impl.Point{Size: m}, step, f.at, f.x, path)
			none("no point", impl.Point{}, step, f.at, f.x, path)
			none("out of nothing", impl.TreePoint(nil), impl.Growth{New: step.New}, f.at, f.x, nil)
			none("another new root", old, impl.Growth{New: impl.Point{Size: 256, Root: old.Root}, Proof: step.Proof}, f.at, f.x, path)
			none("no growth", old, impl.Growth{}, f.at, f.x, path)
			none("the same size", old, impl.Growth{New: impl.Point{Size: m, Root: step.New.Root}}, f.at, f.x, path)
			none("the same size, with the proof", old, impl.Growth{New: old, Proof: step.Proof}, f.at, f.x, path)
			none("no proof", old, impl.Growth{New: step.New}, f.at, f.x, path)
			none("a digest too few", old, impl.Growth{New: step.New, Proof: step.Proof[1:]}, f.at, f.x, path)
			none("a digest too many", old, impl.Growth{New: step.New, Proof: append(slices.Clone(step.Proof), impl.Digest{})}, f.at, f.x, path)
			none("another leaf", old, step, f.at, "another", path)
			none("the leaf of the proof", old, step, f.at, f.y, path)
			none("the path of the proof", old, step, f.at, f.x, f.pathY())
			for k := range step.Proof {
				other := slices.Clone(step.Proof)
				other[k].B ^= 2
				none("another digest", old, impl.Growth{New: step.New, Proof: other}, f.at, f.x, path)
			}
			for _, size := range append(oddSizes(), 0, m-1, m+1) {
				none("another old size", impl.Point{Size: size, Root: old.Root}, step, f.at, f.x, path)
				if size != step.New.Size {
					none("another new size", old, impl.Growth{New: impl.Point{Size: size, Root: step.New.Root}, Proof: step.Proof}, f.at, f.x, path)
				}
			}
			for _, w := range wrongPaths(m, f.at, f.x, path) {
				none("what PathRoot refuses", impl.Point{Size: w.n, Root: old.Root}, step, w.i, w.leaf, w.path)
			}
		}
	}
}

// sizesAhead end with the forged size: the chain may begin there, or where the leaf came.
func sizesAhead(f forgery) [][]int {
	first, _ := halvesOf(f.node)
	m := f.size
	whole := []int{f.at + 1}
	for size := f.at + 2; size <= first.hi; size++ {
		whole = append(whole, size)
	}
	return [][]int{
		{m},
		{m, m, m},
		{first.hi, m},
		{f.at + 1, f.at + 1, first.hi, first.hi, m, m},
		append(whole, m),
	}
}

// sizesBehind begin with the forged size: the first step out of it is the forged one.
func sizesBehind(m int) [][]int {
	var whole []int
	for size := m; size <= min(m+40, mostLeaves); size++ {
		whole = append(whole, size)
	}
	return [][]int{
		{m, m + 1},
		{m, mostLeaves},
		{m, m + 1, m + 1, mostLeaves, mostLeaves},
		whole,
	}
}

// P12: a forged step, first, last and amid others: wholly unlike leaves are proved under the two ends.
func TestP12ForgedStep(t *testing.T) {
	for _, m := range []int{3, 5, 6, 13, 21, 254, 255} {
		for _, f := range growForgeries(m) {
			for _, ahead := range sizesAhead(f) {
				for _, behind := range sizesBehind(m) {
					steps := append(f.bookX.steps(ahead...), f.bookY.steps(behind...)...)
					first, end := f.bookX.point(ahead[0]), f.bookY.point(behind[len(behind)-1])
					if got, ok := impl.ChainEnd(first, steps); !ok || got != end {
						t.Fatalf("the sizes %v and %v: no chain", ahead, behind)
					}
					px, py := f.bookX.path(first.Size, f.at), f.bookY.path(end.Size, f.at)
					got, ok := impl.ClashOfChain(first, steps, f.at, f.x, px, f.y, py)
					thisClash(t, got, ok, f.clash, "a forged step")
				}
			}
		}
	}
}

// P12: no step is forged, and the two paths make the end's root by a clash.
func TestP12ForgedEnd(t *testing.T) {
	for _, m := range []int{3, 5, 6, 13, 254, 255} {
		for _, f := range growForgeries(m) {
			for _, ahead := range sizesAhead(f) {
				first := f.bookX.point(ahead[0])
				got, ok := impl.ClashOfChain(first, f.bookX.steps(ahead...), f.at, f.x, f.bookX.path(ahead[0], f.at), f.y, f.pathY())
				thisClash(t, got, ok, f.clash, "a forged end")
			}
		}
	}
}

// chainSizes are the sizes of chains of one list, from the place i on; one has ChainMax steps, one none.
func chainSizes(i int) [][]int {
	out := [][]int{
		{i + 1},
		{mostLeaves},
		{i + 1, mostLeaves},
		{i + 1, i + 1},
		{i + 1, i + 1, i + 1, mostLeaves, mostLeaves},
		slices.Repeat([]int{i + 1}, impl.ChainMax+1),
		slices.Repeat([]int{mostLeaves}, impl.ChainMax+1),
	}
	var slow []int
	for size := i + 1; size <= mostLeaves; size++ {
		slow = append(slow, size)
	}
	return append(out, slow, append(slow, slices.Repeat([]int{mostLeaves}, impl.ChainMax+1-len(slow))...))
}

// stepsOf are growths of one list, made by GrowthOf.
func stepsOf(leaves []string, sizes ...int) []impl.Growth {
	var out []impl.Growth
	for k := 1; k < len(sizes); k++ {
		proof, _ := impl.GrowthOf(leaves[:sizes[k]], sizes[k-1])
		out = append(out, impl.Growth{New: impl.TreePoint(leaves[:sizes[k]]), Proof: proof})
	}
	return out
}

// P12: leaves that differ by bytes 255, over chains of one list.
func TestP12Blanks(t *testing.T) {
	all := someLeaves(mostLeaves)
	for _, i := range []int{0, 1, 2, 12, 127, 128, 254, 255} {
		all[i] = "leaf"
		for _, sizes := range chainSizes(i) {
			end := sizes[len(sizes)-1]
			steps := stepsOf(all, sizes...)
			px, _ := impl.PathOf(all[:sizes[0]], i)
			py, _ := impl.PathOf(all[:end], i)
			for _, y := range blanksIn("leaf") {
				got, ok := impl.ClashOfChain(impl.TreePoint(all[:sizes[0]]), steps, i, "leaf", px, y, py)
				thisClash(t, got, ok, impl.Clash{Left: "\x00leaf", Right: "\x00" + y}, "bytes 255")
				got, ok = impl.ClashOfChain(impl.TreePoint(all[:sizes[0]]), steps, i, y, px, "leaf", py)
				thisClash(t, got, ok, impl.Clash{Left: "\x00" + y, Right: "\x00leaf"}, "bytes 255, turned round")
			}
		}
	}
}

// P12: the path is lifted although its digest of the half without the leaf is another than the proof's.
func TestP12LiftedByAnotherHalf(t *testing.T) {
	for _, m := range []int{3, 6, 13, 255} {
		i := m - 1
		peak := runsOf(run{0, m})[0]
		one, other := newDigestBook("a"), newDigestBook("a")
		one.known[peak], other.known[peak] = turnBlank(anyDigest("peak", m))
		one.known[run{i, i + 1}], other.known[run{i, i + 1}] = impl.HashLeaf("x"), impl.HashLeaf("x")
		steps := other.steps(m, m+1, 256, 256)
		got, ok := impl.ClashOfChain(one.point(m), steps, i, "x", one.path(m, i), "x"+blank, other.path(256, i))
		thisClash(t, got, ok, impl.Clash{Left: "\x00x", Right: "\x00x" + blank}, "another half")
	}
}

// clashingChain has leaves that clash over steps of many kinds; the wrong ones are made of it.
type clashingChain struct {
	first impl.Point
	steps []impl.Growth
	i     int
	x, y  string
	px    []impl.Digest
	py    []impl.Digest
}

func (c clashingChain) told() (impl.Clash, bool) {
	return impl.ClashOfChain(c.first, c.steps, c.i, c.x, c.px, c.y, c.py)
}

func clashingChains() []clashingChain {
	var out []clashingChain
	all := someLeaves(mostLeaves)
	for _, sizes := range [][]int{{13}, {13, 13}, {13, 100}, {13, 14, 100, 100, 255}} {
		c := clashingChain{first: impl.TreePoint(all[:13]), steps: stepsOf(all, sizes...), i: 3, x: all[3], y: blank + all[3]}
		c.px, _ = impl.PathOf(all[:13], 3)
		c.py, _ = impl.PathOf(all[:sizes[len(sizes)-1]], 3)
		out = append(out, c)
	}
	f := forge(13, run{8, 13}, 9)
	return append(out, clashingChain{
		first: f.bookX.point(10),
		steps: append(f.bookX.steps(10, 12, 13), f.bookY.steps(13, 40, 41)...),
		i:     f.at, x: f.x, y: f.y,
		px: f.bookX.path(10, f.at), py: f.bookY.path(41, f.at),
	})
}

// brokenSteps break the step k of a chain in each way that GrowthCheck names.
func brokenSteps(first impl.Point, steps []impl.Growth, k int) [][]impl.Growth {
	ahead := first
	if k > 0 {
		ahead = steps[k-1].New
	}
	right := steps[k]
	wrong := []impl.Growth{
		{},
		{New: impl.Point{Size: ahead.Size - 1, Root: right.New.Root}, Proof: right.Proof},
		{New: impl.Point{Size: mostLeaves + 1, Root: right.New.Root}, Proof: right.Proof},
		{New: impl.Point{Size: math.MinInt, Root: right.New.Root}},
		{New: impl.Point{Size: math.MaxInt, Root: right.New.Root}, Proof: right.Proof},
		{New: impl.Point{Size: right.New.Size}, Proof: right.Proof},
		{New: impl.Point{Size: ahead.Size, Root: impl.Digest{A: 1}}},
		{New: right.New, Proof: append(slices.Clone(right.Proof), impl.Digest{})},
	}
	for d := range right.Proof {
		other := slices.Clone(right.Proof)
		other[d].D ^= 1 << 40
		wrong = append(wrong, impl.Growth{New: right.New, Proof: other}, impl.Growth{New: right.New, Proof: slices.Delete(slices.Clone(right.Proof), d, d+1)})
	}
	var out [][]impl.Growth
	for _, one := range wrong {
		broken := slices.Clone(steps)
		broken[k] = one
		out = append(out, broken)
	}
	return out
}

// P12: nothing is told when one premise is broken.
func TestP12Wrong(t *testing.T) {
	for _, right := range clashingChains() {
		if got, ok := right.told(); !ok || !isClash(got) {
			t.Fatal("no clash at first")
		}
		none := func(what string, change func(c *clashingChain)) {
			t.Helper()
			c := right
			change(&c)
			got, ok := c.told()
			noClash(t, got, ok, what)
		}
		none("one leaf", func(c *clashingChain) { c.y = c.x })
		none("other leaves", func(c *clashingChain) { c.x, c.y = "another", "other" })
		none("another x", func(c *clashingChain) { c.x = "another" })
		none("another y", func(c *clashingChain) { c.y = "another" })
		none("another first root", func(c *clashingChain) { c.first.Root.A ^= 1 })
		none("no first point", func(c *clashingChain) { c.first = impl.Point{} })
		none("out of nothing", func(c *clashingChain) { c.first = impl.TreePoint(nil) })
		for k := range right.steps {
			for _, broken := range brokenSteps(right.first, right.steps, k) {
				none("a step that is not taken", func(c *clashingChain) { c.steps = broken })
			}
		}
		none("a step too many", func(c *clashingChain) {
			end, _ := impl.ChainEnd(c.first, c.steps)
			c.steps = slices.Concat(c.steps, slices.Repeat([]impl.Growth{{New: end}}, impl.ChainMax+1-len(c.steps)))
		})
		for _, w := range wrongPaths(right.first.Size, right.i, right.x, right.px) {
			none("a path of x", func(c *clashingChain) { c.first.Size, c.i, c.x, c.px = w.n, w.i, w.leaf, w.path })
		}
		for _, w := range wrongPaths(mostLeaves, right.i, right.y, right.py) {
			if w.i != right.i || len(w.leaf) > longLeaf || len(w.path) != len(right.py) {
				none("a path of y", func(c *clashingChain) { c.i, c.y, c.py = w.i, w.leaf, w.path })
			}
		}
		for k := range right.px {
			none("a digest of x", func(c *clashingChain) { c.px = slices.Clone(c.px); c.px[k].A ^= 1 })
		}
		for k := range right.py {
			none("a digest of y", func(c *clashingChain) { c.py = slices.Clone(c.py); c.py[k].A ^= 1 })
		}
	}
}

// P12: of one leaf nothing is told, also where its paths clash, or a step is forged under it.
func TestP12AlikeLeaves(t *testing.T) {
	for _, m := range []int{3, 6, 13, 255} {
		peak := runsOf(run{0, m})[0]
		f := forgeNamed(m, run{0, m}, peak.hi-1, "one", "one")
		got, ok := impl.ClashOfPaths(m, f.at, f.x, f.pathX(), f.y, f.pathY())
		thisClash(t, got, ok, f.clash, "two paths of one leaf")
		got, ok = impl.ClashOfChain(f.bookX.point(m), nil, f.at, f.x, f.pathX(), f.y, f.pathY())
		noClash(t, got, ok, "one leaf over no step")
		steps := f.bookY.steps(m, m+1, 256)
		got, ok = impl.ClashOfGrowth(f.bookX.point(m), steps[0], f.at, f.x, f.pathX())
		thisClash(t, got, ok, f.clash, "a forged step")
		got, ok = impl.ClashOfChain(f.bookX.point(m), steps, f.at, f.x, f.pathX(), f.y, f.bookY.path(256, f.at))
		noClash(t, got, ok, "one leaf over a forged step")
	}
}

// P12: the limit may be met exactly.
func TestP12LongestChain(t *testing.T) {
	for _, c := range clashingChains() {
		want, _ := c.told()
		end, _ := impl.ChainEnd(c.first, c.steps)
		c.steps = slices.Concat(c.steps, slices.Repeat([]impl.Growth{{New: end}}, impl.ChainMax-len(c.steps)))
		got, ok := c.told()
		thisClash(t, got, ok, want, "ChainMax steps")
	}
}

// P14: a right path clashes neither with itself nor with a growth of its list.
func TestP14HonestPathsAndGrowths(t *testing.T) {
	for name, all := range map[string][]string{
		"unlike": someLeaves(mostLeaves),
		"alike":  slices.Repeat([]string{"a"}, mostLeaves),
		"blanks": slices.Repeat([]string{blank, ""}, mostLeaves/2),
	} {
		for _, n := range []int{1, 2, 3, 4, 5, 8, 13, 14, 33, 255, 256} {
			for _, m := range edgeStarts(n) {
				step := impl.Growth{New: impl.TreePoint(all[:n])}
				step.Proof, _ = impl.GrowthOf(all[:n], m)
				for _, i := range edgePlaces(m) {
					path, _ := impl.PathOf(all[:m], i)
					got, ok := impl.ClashOfPaths(m, i, all[i], path, all[i], slices.Clone(path))
					noClash(t, got, ok, name+": one path")
					got, ok = impl.ClashOfGrowth(impl.TreePoint(all[:m]), step, i, all[i], path)
					noClash(t, got, ok, name+": a growth")
					up, _ := impl.GrowthLift(m, n, i, path, step.Proof)
					right, _ := impl.PathOf(all[:n], i)
					got, ok = impl.ClashOfPaths(n, i, all[i], up, all[i], right)
					noClash(t, got, ok, name+": the lifted path and the right one")
				}
			}
		}
	}
}

// P14: two leaves of one list do not clash, and no path of one proves the other.
func TestP14HonestLeaves(t *testing.T) {
	all := someLeaves(100)
	for _, n := range []int{2, 3, 13, 100} {
		for _, i := range edgePlaces(n) {
			for _, j := range edgePlaces(n) {
				if i == j {
					continue
				}
				px, _ := impl.PathOf(all[:n], i)
				py, _ := impl.PathOf(all[:n], j)
				got, ok := impl.ClashOfPaths(n, i, all[i], px, all[j], py)
				noClash(t, got, ok, "two places")
				got, ok = impl.ClashOfChain(impl.TreePoint(all[:n]), nil, i, all[i], px, all[j], py)
				noClash(t, got, ok, "two places over no step")
			}
		}
	}
}

func TestP14HonestChains(t *testing.T) {
	all := someLeaves(mostLeaves)
	for _, i := range []int{0, 1, 12, 128, 255} {
		for _, sizes := range chainSizes(i) {
			first, end := impl.TreePoint(all[:sizes[0]]), impl.TreePoint(all[:sizes[len(sizes)-1]])
			steps := stepsOf(all, sizes...)
			if got, ok := impl.ChainEnd(first, steps); !ok || got != end {
				t.Errorf("%d steps from %d to %d: %v, %d", len(steps), first.Size, end.Size, ok, got.Size)
			}
			px, _ := impl.PathOf(all[:first.Size], i)
			py, _ := impl.PathOf(all[:end.Size], i)
			got, ok := impl.ClashOfChain(first, steps, i, all[i], px, all[i], py)
			noClash(t, got, ok, "an honest chain")
			got, ok = impl.ClashOfChain(first, steps, i, all[i], px, "another", py)
			noClash(t, got, ok, "another leaf")
		}
	}
}

// P14: from no leaves on there are ChainMax steps of one leaf; one more is no chain.
func TestP14ChainFromNothing(t *testing.T) {
	all := someLeaves(mostLeaves)
	var sizes []int
	for size := range mostLeaves + 1 {
		sizes = append(sizes, size)
	}
	none := impl.TreePoint(nil)
	steps := stepsOf(all, sizes...)
	for many := range len(steps) + 1 {
		if got, ok := impl.ChainEnd(none, steps[:many]); !ok || got != impl.TreePoint(all[:many]) {
			t.Fatalf("%d steps from nothing: %v, %d", many, ok, got.Size)
		}
	}
	noChain(t, none, append(steps, impl.Growth{New: impl.TreePoint(all)}), "a step too many")
	noChain(t, none, steps[1:], "the first step missing")
	noChain(t, impl.Point{}, steps, "a wrong nothing")
	still := slices.Repeat([]impl.Growth{{New: none}}, impl.ChainMax)
	if got, ok := impl.ChainEnd(none, still); !ok || got != none {
		t.Error("ChainMax steps that do not grow are no chain")
	}
	noChain(t, none, append(still, still[0]), "ChainMax + 1 steps that do not grow")
	any := impl.Growth{New: impl.Point{Size: 7, Root: impl.Digest{A: 9}}}
	if got, ok := impl.ChainEnd(none, []impl.Growth{{New: none}, any}); !ok || got != any.New {
		t.Error("out of nothing not anything grows")
	}
	got, ok := impl.ClashOfChain(none, steps, 0, all[0], nil, all[0]+blank, nil)
	noClash(t, got, ok, "a leaf under nothing")
}

func noChain(t *testing.T, first impl.Point, steps []impl.Growth, what string) {
	t.Helper()
	if got, ok := impl.ChainEnd(first, steps); ok || got != (impl.Point{}) {
		t.Errorf("%s: %v, %d", what, ok, got.Size)
	}
}

// P14: no step at all is a chain, whatever the point.
func TestP14ChainOfNoStep(t *testing.T) {
	for _, size := range append(oddSizes(), 0, 1, 13, 255, 256) {
		for _, root := range []impl.Digest{{}, {A: 1}, impl.HashOf("")} {
			first := impl.Point{Size: size, Root: root}
			for _, steps := range [][]impl.Growth{nil, {}} {
				if got, ok := impl.ChainEnd(first, steps); !ok || got != first {
					t.Errorf("no step from %d: %v, %d", size, ok, got.Size)
				}
			}
			got, ok := impl.ClashOfChain(first, nil, 0, "a", nil, "a"+blank, nil)
			noClash(t, got, ok, "no step, wrong points")
		}
	}
}

// P14: each step is taken from the point ahead of it, and a broken one is found wherever it is.
func TestP14BrokenChain(t *testing.T) {
	all := someLeaves(mostLeaves)
	first := impl.TreePoint(all[:5])
	steps := stepsOf(all, 5, 6, 6, 13, 200, 256)
	for k := range steps {
		for _, broken := range brokenSteps(first, steps, k) {
			noChain(t, first, broken, "the step "+strconv.Itoa(k)+" broken")
		}
	}
	noChain(t, first, append(stepsOf(all, 5, 6), stepsOf(all, 5, 13)...), "a step from the first point, not from the one ahead")
	noChain(t, first, append(stepsOf(all, 5, 13), stepsOf(all, 5, 6)...), "backwards")
	noChain(t, first, slices.Delete(slices.Clone(steps), 2, 3), "a step missing")
	noChain(t, first, make([]impl.Growth, impl.ChainMax), "ChainMax steps to nothing")
	noChain(t, first, make([]impl.Growth, impl.ChainMax+1), "ChainMax + 1 steps to nothing")
	for _, size := range oddSizes() {
		odd := impl.Point{Size: size, Root: first.Root}
		noChain(t, odd, []impl.Growth{{New: odd}}, "from an odd size to itself")
		noChain(t, odd, steps, "from an odd size")
		noChain(t, first, []impl.Growth{{New: odd}}, "to an odd size")
	}
}

// laidChain is a chain whose lists stand ahead of marks.
type laidChain struct {
	clashingChain
	stepsWhole []impl.Growth
	lists      [][]impl.Digest
}

func layChain(c clashingChain) laidChain {
	var out laidChain
	lay := func(list []impl.Digest) []impl.Digest {
		laid, whole := withRoom(list, impl.Digest{B: 97})
		out.lists = append(out.lists, whole)
		return laid
	}
	var steps []impl.Growth
	for _, step := range c.steps {
		steps = append(steps, impl.Growth{New: step.New, Proof: lay(step.Proof)})
	}
	c.px, c.py = lay(c.px), lay(c.py)
	c.steps, out.stepsWhole = withRoom(steps, impl.Growth{New: impl.Point{Size: 96}})
	out.clashingChain = c
	return out
}

func (a laidChain) like(b laidChain) bool {
	return slices.EqualFunc(a.lists, b.lists, slices.Equal[[]impl.Digest]) &&
		slices.EqualFunc(a.stepsWhole, b.stepsWhole, func(x, y impl.Growth) bool {
			return x.New == y.New && slices.Equal(x.Proof, y.Proof)
		})
}

func TestClashWritesNoArgument(t *testing.T) {
	for _, c := range clashingChains() {
		laid, before := layChain(c), layChain(c)
		end, _ := impl.ChainEnd(laid.first, laid.steps)
		laid.told()
		impl.ClashRow(laid.first.Size, laid.i, laid.x, laid.px)
		impl.ClashRow(end.Size, laid.i, laid.y, laid.py)
		impl.ClashOfPaths(laid.first.Size, laid.i, laid.x, laid.px, laid.x+blank, laid.px)
		impl.ClashOfPaths(end.Size, laid.i, laid.y, laid.py, laid.y, laid.py)
		ahead := laid.first
		for _, step := range laid.steps {
			path := laid.px
			if ahead.Size != laid.first.Size {
				path = laid.py
			}
			impl.ClashOfGrowth(ahead, step, laid.i, laid.x, path)
			ahead = step.New
		}
		if !laid.like(before) {
			t.Error("an argument is written into, or behind its end")
		}
	}
	for _, f := range growForgeries(13) {
		proof := f.bookY.step(13, 14).Proof
		c := layChain(clashingChain{steps: []impl.Growth{f.bookY.step(13, 14)}, px: f.pathX(), py: f.pathY()})
		got, ok := impl.ClashOfGrowth(f.bookX.point(13), c.steps[0], f.at, f.x, c.px)
		thisClash(t, got, ok, f.clash, "with room behind")
		if !slices.Equal(c.lists[0][:len(proof)], proof) || !c.like(layChain(clashingChain{steps: []impl.Growth{f.bookY.step(13, 14)}, px: f.pathX(), py: f.pathY()})) {
			t.Error("an argument is written into, or behind its end, by a forged step")
		}
	}
	a, wholeA := withRoom([]string{"s", "a", "t"}, "mark")
	b, wholeB := withRoom([]string{"s", "b"}, "mark")
	beforeA, beforeB := slices.Clone(wholeA), slices.Clone(wholeB)
	impl.ClashFirst(a, b)
	impl.ClashFirst(b, a)
	if !slices.Equal(wholeA, beforeA) || !slices.Equal(wholeB, beforeB) {
		t.Error("a row is written into, or behind its end")
	}
}

func TestClashFirstIsNewMemory(t *testing.T) {
	a, b := []string{"alike", "a text"}, []string{"alike", "another"}
	got, ok := impl.ClashFirst(a, b)
	thisTexts := got == impl.Clash{Left: "a text", Right: "another"}
	if !ok || !thisTexts || unsafe.StringData(got.Left) == unsafe.StringData(a[1]) || unsafe.StringData(got.Right) == unsafe.StringData(b[1]) {
		t.Error("a clash keeps the memory of a row")
	}
}

// Rows are written over, spare room included, and then the path: neither is to be seen elsewhere.
func TestClashRowIsNewMemory(t *testing.T) {
	for _, n := range []int{1, 2, 3, 13, 255, 256} {
		for _, i := range edgePlaces(n) {
			path, whole := withRoom(digestsFrom(impl.PathLen(n, i), 5), impl.Digest{B: 95})
			before := slices.Clone(whole)
			want := slowRow(run{0, n}, i, "leaf", path)
			one, _ := impl.ClashRow(n, i, "leaf", path)
			other, _ := impl.ClashRow(n, i, "leaf", path)
			one = one[:cap(one)]
			for k := range one {
				one[k] = "written over"
			}
			if !slices.Equal(whole, before) || !slices.Equal(other, want) {
				t.Fatalf("the leaf %d of %d: two rows share memory", i, n)
			}
			scribble(whole)
			if !slices.Equal(other, want) {
				t.Fatalf("the leaf %d of %d: a row keeps memory of the path", i, n)
			}
		}
	}
}
