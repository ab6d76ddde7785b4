package tests

import (
	"math"
	"slices"
	"strconv"
	"strings"
	"testing"

	"loop.example/belfry/impl"
)

const (
	mostLeaves = impl.TreeMaxLeaves
	longLeaf   = impl.TreeMaxLeaf
	mostPeaks  = impl.TreeMaxPeaks
)

// someLeaves has leaves of all sizes up to the limit, no two of them alike.
func someLeaves(n int) []string {
	out := make([]string, n)
	for i := range out {
		begin := strconv.Itoa(i) + "\x00"
		out[i] = begin + strings.Repeat("a", i%(longLeaf-len(begin)+1))
	}
	return out
}

// levelRoot pairs the digests of a whole tree level by level: another way than halving the list.
func levelRoot(run []string) impl.Digest {
	var level []impl.Digest
	for _, leaf := range run {
		level = append(level, slowHash("\x00"+leaf))
	}
	for len(level) > 1 {
		var above []impl.Digest
		for i := 0; i < len(level); i += 2 {
			above = append(above, pairOf(level[i], level[i+1]))
		}
		level = above
	}
	return level[0]
}

func pairOf(left, right impl.Digest) impl.Digest {
	return slowHash("\x01" + bytesOf(left) + bytesOf(right))
}

// runLengths are written down as the binary digits of n, the higher first.
func runLengths(n int) []int {
	var out []int
	for power := 512; power > 0; power /= 2 {
		if n&power != 0 {
			out = append(out, power)
		}
	}
	return out
}

func slowPeaks(leaves []string) []impl.Digest {
	var out []impl.Digest
	for _, length := range runLengths(len(leaves)) {
		out = append(out, levelRoot(leaves[:length]))
		leaves = leaves[length:]
	}
	return out
}

func slowRootOfPeaks(peaks []impl.Digest) impl.Digest {
	switch len(peaks) {
	case 0:
		return slowHash("")
	case 1:
		return peaks[0]
	}
	return pairOf(peaks[0], slowRootOfPeaks(peaks[1:]))
}

// oddSizes has the edges of the document and their neighbours.
func oddSizes() []int {
	return []int{math.MinInt, math.MinInt + 1, -256, -255, -13, -2, -1, mostLeaves + 1, mostLeaves + 2, 511, 512, 1 << 32, 1<<32 + 7, math.MaxInt - 1, math.MaxInt}
}

// wrongLeaves are lists that are not ok.
func wrongLeaves() map[string][]string {
	tooLong := strings.Repeat("a", longLeaf+1)
	last := someLeaves(mostLeaves)
	last[mostLeaves-1] = tooLong
	return map[string][]string{
		"257 leaves":               someLeaves(mostLeaves + 1),
		"257 empty leaves":         make([]string, mostLeaves+1),
		"512 leaves":               make([]string, 512),
		"one too long":             {tooLong},
		"first too long":           {tooLong, "a", "b"},
		"middle too long":          {"a", tooLong, "b"},
		"last of three too long":   {"a", "b", tooLong},
		"last of 256 too long":     last,
		"bytes 255 count as bytes": {strings.Repeat(blank, longLeaf+1)},
		"bytes, not runes":         {strings.Repeat("é", longLeaf/2) + "a"},
	}
}

func TestTreeLeavesOk(t *testing.T) {
	full := strings.Repeat("a", longLeaf)
	for name, leaves := range map[string][]string{
		"nil":                    nil,
		"empty list":             {},
		"one empty leaf":         {""},
		"one":                    {"a"},
		"two alike":              {"a", "a"},
		"a leaf of 40 bytes":     {full},
		"40 bytes 255":           {strings.Repeat(blank, longLeaf)},
		"20 runes of two bytes":  {strings.Repeat("é", longLeaf/2)},
		"255 leaves":             someLeaves(mostLeaves - 1),
		"256 leaves":             someLeaves(mostLeaves),
		"256 leaves of 40 bytes": slices.Repeat([]string{full}, mostLeaves),
	} {
		if !impl.LeavesOk(leaves) {
			t.Errorf("%s: not ok", name)
		}
		if impl.TreeRoot(leaves) == (impl.Digest{}) {
			t.Errorf("%s: no root", name)
		}
	}
	for name, leaves := range wrongLeaves() {
		if impl.LeavesOk(leaves) {
			t.Errorf("%s: ok", name)
		}
	}
}

// The document's example tells the beginnings of these roots.
func TestTreeKnown(t *testing.T) {
	for _, c := range []struct {
		leaves []string
		begin  string
	}{
		{nil, "19c1561b"},
		{[]string{"x"}, "29eb69e1"},
		{[]string{"a", "b"}, "15521c7c"},
		{[]string{"a", "b", "c"}, "b26e7e41"},
	} {
		if got := impl.HashText(impl.TreeRoot(c.leaves)); !strings.HasPrefix(got, c.begin) {
			t.Errorf("%q: the root %s does not begin with %s", c.leaves, got, c.begin)
		}
	}
}

// P4: at every size the peaks are the roots of the runs, as many as PeaksCount says, and make the root.
func TestP4PeaksMakeTheRoot(t *testing.T) {
	all := someLeaves(mostLeaves)
	for n := range mostLeaves + 1 {
		leaves := all[:n]
		peaks := impl.TreePeaks(leaves)
		if !slices.Equal(peaks, slowPeaks(leaves)) {
			t.Errorf("%d leaves: the peaks are not the roots of the runs %v", n, runLengths(n))
		}
		if len(peaks) != impl.PeaksCount(n) {
			t.Errorf("%d leaves: %d peaks, PeaksCount %d", n, len(peaks), impl.PeaksCount(n))
		}
		if len(peaks) > mostPeaks {
			t.Errorf("%d leaves: %d peaks", n, len(peaks))
		}
		if impl.PeaksRoot(peaks) != impl.TreeRoot(leaves) {
			t.Errorf("%d leaves: PeaksRoot of the peaks is not TreeRoot", n)
		}
	}
}

func TestP4Leaves(t *testing.T) {
	full := strings.Repeat("a", longLeaf)
	for name, leaves := range map[string][]string{
		"nil":                nil,
		"empty list":         {},
		"one empty leaf":     {""},
		"empty leaves":       {"", "", ""},
		"40 bytes":           {full},
		"two of 40 bytes":    {full, full},
		"bytes 255":          {blank, strings.Repeat(blank, longLeaf), "a" + blank},
		"alike":              {"a", "a", "a", "a", "a"},
		"256 of 40 bytes":    slices.Repeat([]string{full}, mostLeaves),
		"255 of 40 bytes":    slices.Repeat([]string{full}, mostLeaves-1),
		"a leaf like a pair": {"\x01" + impl.HashBytes(impl.HashLeaf("a")), "b", "c"},
	} {
		peaks := impl.TreePeaks(leaves)
		if !slices.Equal(peaks, slowPeaks(leaves)) || len(peaks) != impl.PeaksCount(len(leaves)) || impl.PeaksRoot(peaks) != impl.TreeRoot(leaves) {
			t.Errorf("%s: peaks %v", name, peaks)
		}
	}
}

func TestP4PeaksCount(t *testing.T) {
	for n := range mostLeaves + 1 {
		if got := impl.PeaksCount(n); got != len(runLengths(n)) {
			t.Errorf("PeaksCount(%d): %d", n, got)
		}
	}
	for n, want := range map[int]int{0: 0, 1: 1, 2: 1, 3: 2, 13: 3, 255: 8, 256: 1} {
		if got := impl.PeaksCount(n); got != want {
			t.Errorf("PeaksCount(%d): %d, not %d", n, got, want)
		}
	}
	for _, n := range oddSizes() {
		if got := impl.PeaksCount(n); got != 0 {
			t.Errorf("PeaksCount(%d): %d", n, got)
		}
	}
}

// P4: PeaksRoot asks nothing of the digests, only how many there are.
func TestP4PeaksRootOfAny(t *testing.T) {
	all := someDigests()
	for n := range mostPeaks + 1 {
		for from := 0; from+n <= len(all); from += 9 {
			peaks := all[from : from+n]
			if impl.PeaksRoot(peaks) != slowRootOfPeaks(peaks) {
				t.Errorf("%d peaks from %d", n, from)
			}
		}
	}
	if impl.PeaksRoot([]impl.Digest{}) != impl.PeaksRoot(nil) {
		t.Error("no peaks and nil are unlike")
	}
	if impl.PeaksRoot(make([]impl.Digest, mostPeaks)) == (impl.Digest{}) {
		t.Error("eight peaks have no root")
	}
	for _, n := range []int{mostPeaks + 1, mostPeaks + 2, 16, len(all)} {
		if impl.PeaksRoot(all[:n]) != (impl.Digest{}) {
			t.Errorf("%d peaks have a root", n)
		}
	}
}

func TestP4WrongLeaves(t *testing.T) {
	for name, leaves := range wrongLeaves() {
		if peaks := impl.TreePeaks(leaves); len(peaks) != 0 {
			t.Errorf("%s: %d peaks", name, len(peaks))
		}
	}
}

// P5: leaf by leaf, from none to all.
func TestP5GrowLeafByLeaf(t *testing.T) {
	full := slices.Repeat([]string{strings.Repeat("b", longLeaf)}, mostLeaves)
	for name, all := range map[string][]string{"unlike": someLeaves(mostLeaves), "empty": make([]string, mostLeaves), "full": full} {
		var peaks []impl.Digest
		for n, leaf := range all {
			grown, ok := impl.PeaksAdd(n, peaks, leaf)
			if !ok {
				t.Fatalf("%s leaves: PeaksAdd at %d refuses", name, n)
			}
			if !slices.Equal(grown, impl.TreePeaks(all[:n+1])) {
				t.Fatalf("%s leaves: PeaksAdd at %d makes not the peaks of the leaves", name, n)
			}
			peaks = grown
		}
		if more, ok := impl.PeaksAdd(mostLeaves, peaks, "a"); ok || len(more) != 0 {
			t.Errorf("%s leaves: PeaksAdd takes a leaf above TreeMaxLeaves", name)
		}
	}
}

// P5: as often as n ends with a binary one the last two are paired; any digests will do.
func TestP5Edges(t *testing.T) {
	p := someDigests()[20:28]
	leaf := impl.HashLeaf("new")
	one := pairOf(p[2], leaf)
	three := pairOf(p[0], pairOf(p[1], one))
	eight := leaf
	for i := range mostPeaks {
		eight = pairOf(p[mostPeaks-1-i], eight)
	}
	for _, c := range []struct {
		n     int
		peaks []impl.Digest
		want  []impl.Digest
	}{
		{0, nil, []impl.Digest{leaf}},
		{0, []impl.Digest{}, []impl.Digest{leaf}},
		{1, p[2:3], []impl.Digest{one}},
		{2, p[:1], []impl.Digest{p[0], leaf}},
		{7, p[:3], []impl.Digest{three}},
		{8, p[:1], []impl.Digest{p[0], leaf}},
		{13, p[:3], []impl.Digest{p[0], p[1], one}},
		{254, p[:7], append(slices.Clone(p[:7]), leaf)},
		{255, p, []impl.Digest{eight}},
	} {
		if got, ok := impl.PeaksAdd(c.n, c.peaks, "new"); !ok || !slices.Equal(got, c.want) {
			t.Errorf("PeaksAdd(%d): %v %v", c.n, got, ok)
		}
	}
}

func TestP5Wrong(t *testing.T) {
	all := someDigests()
	long := strings.Repeat("a", longLeaf)
	for n := range mostLeaves {
		for many := range 12 {
			got, ok := impl.PeaksAdd(n, all[:many], long)
			if ok != (many == len(runLengths(n))) || !ok && len(got) != 0 || ok && len(got) != len(runLengths(n+1)) {
				t.Errorf("PeaksAdd(%d) with %d peaks: %v, %d peaks", n, many, ok, len(got))
			}
		}
		count := len(runLengths(n))
		for _, leaf := range []string{long + "a", long + blank, strings.Repeat("é", longLeaf), strings.Repeat("a", impl.HashMax)} {
			if got, ok := impl.PeaksAdd(n, all[:count], leaf); ok || len(got) != 0 {
				t.Errorf("PeaksAdd(%d) takes a leaf of %d bytes", n, len(leaf))
			}
		}
	}
	for _, n := range append(oddSizes(), mostLeaves) {
		for many := range 12 {
			if got, ok := impl.PeaksAdd(n, all[:many], "a"); ok || len(got) != 0 {
				t.Errorf("PeaksAdd(%d) with %d peaks: %v", n, many, ok)
			}
		}
	}
}

// P6: at every size.
func TestP6RootIsPairOfHalves(t *testing.T) {
	all := someLeaves(mostLeaves)
	for n := range mostLeaves + 1 {
		leaves := all[:n]
		root := impl.TreeRoot(leaves)
		if impl.TreePoint(leaves) != (impl.Point{Size: n, Root: root}) {
			t.Errorf("%d leaves: TreePoint %v", n, impl.TreePoint(leaves))
		}
		if root != slowRootOfPeaks(slowPeaks(leaves)) {
			t.Errorf("%d leaves: not the root that the runs make", n)
		}
		if n < 2 {
			continue
		}
		split := impl.TreeSplit(n)
		if root != impl.HashPair(impl.TreeRoot(leaves[:split]), impl.TreeRoot(leaves[split:])) {
			t.Errorf("%d leaves: the root is not the pair of the halves of %d and %d", n, split, n-split)
		}
	}
}

func TestP6Small(t *testing.T) {
	h, pair := impl.HashLeaf, impl.HashPair
	for _, c := range []struct {
		leaves []string
		want   impl.Digest
	}{
		{nil, impl.HashOf("")},
		{[]string{}, impl.HashOf("")},
		{[]string{""}, h("")},
		{[]string{"a"}, h("a")},
		{[]string{"a", "b"}, pair(h("a"), h("b"))},
		{[]string{"b", "a"}, pair(h("b"), h("a"))},
		{[]string{"a", "b", "c"}, pair(pair(h("a"), h("b")), h("c"))},
		{[]string{"a", "b", "c", "d"}, pair(pair(h("a"), h("b")), pair(h("c"), h("d")))},
		{[]string{"a", "b", "c", "d", "e"}, pair(pair(pair(h("a"), h("b")), pair(h("c"), h("d"))), h("e"))},
	} {
		if got := impl.TreePoint(c.leaves); got != (impl.Point{Size: len(c.leaves), Root: c.want}) {
			t.Errorf("%q: %v", c.leaves, got)
		}
	}
	// Bytes 255 count for nothing in a digest, but such a leaf is one.
	if impl.TreePoint([]string{"a", blank}) != (impl.Point{Size: 2, Root: pair(h("a"), h(""))}) {
		t.Error("a leaf of a byte 255")
	}
}

func TestP6Split(t *testing.T) {
	for n := 2; n <= mostLeaves; n++ {
		want := 1
		for 2*want < n {
			want *= 2
		}
		if got := impl.TreeSplit(n); got != want {
			t.Errorf("TreeSplit(%d): %d, not %d", n, got, want)
		}
	}
	for n, want := range map[int]int{2: 1, 3: 2, 4: 2, 5: 4, 13: 8, 128: 64, 129: 128, 255: 128, 256: 128} {
		if got := impl.TreeSplit(n); got != want {
			t.Errorf("TreeSplit(%d): %d, not %d", n, got, want)
		}
	}
	for _, n := range append(oddSizes(), 0, 1) {
		if got := impl.TreeSplit(n); got != 0 {
			t.Errorf("TreeSplit(%d): %d", n, got)
		}
	}
}

func TestP6WrongLeaves(t *testing.T) {
	for name, leaves := range wrongLeaves() {
		if impl.TreeRoot(leaves) != (impl.Digest{}) {
			t.Errorf("%s: a root", name)
		}
		if impl.TreePoint(leaves) != (impl.Point{}) {
			t.Errorf("%s: a point", name)
		}
	}
}

// withRoom lays a list ahead of spare room that is full of marks: whoever writes behind its end is seen.
func withRoom[T any](list []T, mark T) (laid []T, whole []T) {
	whole = append(slices.Clone(list), slices.Repeat([]T{mark}, 10)...)
	return whole[:len(list)], whole
}

// scribble writes over an answer, spare room included.
func scribble(list []impl.Digest) {
	list = list[:cap(list)]
	for i := range list {
		list[i] = impl.Digest{A: 77, D: uint64(i)}
	}
}

func TestTreeWritesNoArgument(t *testing.T) {
	for n := range mostLeaves + 1 {
		leaves, whole := withRoom(someLeaves(n), "mark")
		before := slices.Clone(whole)
		impl.LeavesOk(leaves)
		impl.TreeRoot(leaves)
		impl.TreePoint(leaves)
		impl.TreePeaks(leaves)
		if !slices.Equal(whole, before) {
			t.Fatalf("%d leaves are written into", n)
		}
	}
	for n := range mostPeaks + 3 {
		peaks, whole := withRoom(someDigests()[:n], impl.Digest{B: 99})
		before := slices.Clone(whole)
		impl.PeaksRoot(peaks)
		if !slices.Equal(whole, before) {
			t.Fatalf("PeaksRoot writes into %d peaks", n)
		}
	}
}

func TestTreeAnswersAreNewMemory(t *testing.T) {
	all := someLeaves(mostLeaves)
	for n := range mostLeaves {
		peaks, whole := withRoom(impl.TreePeaks(all[:n]), impl.Digest{B: 99})
		before := slices.Clone(whole)
		one, _ := impl.PeaksAdd(n, peaks, all[n])
		two, _ := impl.PeaksAdd(n, peaks, all[n])
		three := impl.TreePeaks(all[:n+1])
		scribble(one)
		if !slices.Equal(whole, before) {
			t.Fatalf("PeaksAdd(%d) shares memory with its argument, or writes into it", n)
		}
		if !slices.Equal(two, three) || !slices.Equal(three, impl.TreePeaks(all[:n+1])) {
			t.Fatalf("two answers at %d share memory", n)
		}
		scribble(whole)
		if !slices.Equal(two, three) {
			t.Fatalf("PeaksAdd(%d) keeps memory of its argument", n)
		}
		if refused, ok := impl.PeaksAdd(n, peaks[:len(peaks):len(peaks)], strings.Repeat("a", longLeaf+1)); ok || cap(refused) != 0 {
			t.Fatalf("PeaksAdd(%d) refuses, and hands out memory", n)
		}
	}
}
