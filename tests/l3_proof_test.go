package tests

import (
	"math"
	"slices"
	"strings"
	"testing"

	"loop.example/belfry/impl"
)

// run is a node of a tree, written down by the document's words.
type run struct{ lo, hi int }

func (r run) within(other run) bool {
	return other.lo <= r.lo && r.hi <= other.hi
}

// halvesOf looks for the split by doubling.
func halvesOf(r run) (run, run) {
	power := 1
	for 2*power < r.hi-r.lo {
		power *= 2
	}
	return run{r.lo, r.lo + power}, run{r.lo + power, r.hi}
}

// allNodes lists every node, the whole first; the places ascend among nodes that do not hold one another.
func allNodes(r run) []run {
	out := []run{r}
	if r.hi-r.lo > 1 {
		first, rest := halvesOf(r)
		out = append(append(out, allNodes(first)...), allNodes(rest)...)
	}
	return out
}

// greatest keeps the nodes that are within no greater one of the list: of those that hold a node the greatest stands ahead, and was kept last.
func greatest(nodes []run) []run {
	var out []run
	for _, one := range nodes {
		if len(out) == 0 || !one.within(out[len(out)-1]) {
			out = append(out, one)
		}
	}
	return out
}

func oldNodes(nodes []run, m int) []run {
	return greatest(keep(nodes, func(r run) bool { return r.hi <= m }))
}

func newNodes(nodes []run, m int) []run {
	return greatest(keep(nodes, func(r run) bool { return r.lo >= m }))
}

func keep(nodes []run, good func(run) bool) []run {
	var out []run
	for _, one := range nodes {
		if good(one) {
			out = append(out, one)
		}
	}
	return out
}

func proofNodes(m, n int) []run {
	if m == 0 || m == n {
		return nil
	}
	nodes := allNodes(run{0, n})
	return append(oldNodes(nodes, m), newNodes(nodes, m)...)
}

// overLeaf has the nodes of two leaves and more that the leaf i is in, from the least to the whole.
func overLeaf(n, i int) []run {
	nodes := keep(allNodes(run{0, n}), func(r run) bool { return r.lo <= i && i < r.hi && r.hi-r.lo > 1 })
	slices.Reverse(nodes)
	return nodes
}

// rootBook holds the roots of runs of one list, so that they are made once.
type rootBook struct {
	leaves []string
	made   map[run]impl.Digest
}

func newRootBook(leaves []string) rootBook {
	return rootBook{leaves: leaves, made: map[run]impl.Digest{}}
}

func (b rootBook) root(r run) impl.Digest {
	d, ok := b.made[r]
	if !ok {
		d = slowRootOfPeaks(slowPeaks(b.leaves[r.lo:r.hi]))
		b.made[r] = d
	}
	return d
}

func (b rootBook) point(n int) impl.Point {
	return impl.Point{Size: n, Root: b.root(run{0, n})}
}

func (b rootBook) roots(nodes []run) []impl.Digest {
	var out []impl.Digest
	for _, node := range nodes {
		out = append(out, b.root(node))
	}
	return out
}

func (b rootBook) path(n, i int) []impl.Digest {
	var out []impl.Digest
	for _, node := range overLeaf(n, i) {
		out = append(out, b.root(otherHalf(node, i)))
	}
	return out
}

func (b rootBook) growth(m, n int) []impl.Digest {
	return b.roots(proofNodes(m, n))
}

func otherHalf(node run, i int) run {
	first, rest := halvesOf(node)
	if i < rest.lo {
		return rest
	}
	return first
}

// foldPath makes the root from the whole down.
func foldPath(r run, i int, leaf string, path []impl.Digest) impl.Digest {
	if r.hi-r.lo == 1 {
		return slowHash("\x00" + leaf)
	}
	first, rest := halvesOf(r)
	last := path[len(path)-1]
	if i < rest.lo {
		return pairOf(foldPath(first, i, leaf, path[:len(path)-1]), last)
	}
	return pairOf(last, foldPath(rest, i, leaf, path[:len(path)-1]))
}

// foldGrowth makes the digest of a node out of those that the proof has for the old and new nodes.
func foldGrowth(r run, nodes []run, proof []impl.Digest) impl.Digest {
	if k := slices.Index(nodes, r); k >= 0 {
		return proof[k]
	}
	first, rest := halvesOf(r)
	return pairOf(foldGrowth(first, nodes, proof), foldGrowth(rest, nodes, proof))
}

// slowLift is GrowthLift for m above 0 and below n, by the document's words.
func slowLift(m, n, i int, path, proof []impl.Digest) []impl.Digest {
	nodes := proofNodes(m, n)
	home := nodes[slices.IndexFunc(nodes, func(r run) bool { return r.lo <= i && i < r.hi })]
	var out []impl.Digest
	for k, node := range overLeaf(m, i) {
		if node.within(home) {
			out = append(out, path[k])
		}
	}
	for _, node := range overLeaf(n, i) {
		if node != home && home.within(node) {
			out = append(out, foldGrowth(otherHalf(node, i), nodes, proof))
		}
	}
	return out
}

func edgeSizes() []int {
	out := []int{63, 64, 65, 100, 127, 128, 129, 200, 254, 255, 256}
	for n := 1; n <= 33; n++ {
		out = append(out, n)
	}
	return out
}

// edgePlaces are those of n that a slip would miss: the ends and the powers of two with their neighbours.
func edgePlaces(n int) []int {
	var out []int
	for _, i := range []int{0, 1, 2, 3, 7, 8, 9, 12, 13, 15, 16, 31, 32, 63, 64, 127, 128, 129, 192, n / 3, n / 2, n - 2, n - 1} {
		if i >= 0 && i < n && !slices.Contains(out, i) {
			out = append(out, i)
		}
	}
	return out
}

// edgeStarts are sizes from which a growth to n may be.
func edgeStarts(n int) []int {
	return append(edgePlaces(n), n)
}

func wrongPlaces(n int) []int {
	return []int{math.MinInt, math.MinInt + 1, -256, -2, -1, n, n + 1, 2 * n, mostLeaves, mostLeaves + 1, 1 << 32, math.MaxInt - 1, math.MaxInt}
}

func digestsFrom(many, from int) []impl.Digest {
	all := someDigests()
	var out []impl.Digest
	for k := range many {
		out = append(out, all[(from+7*k)%len(all)])
	}
	return out
}

// P7: at every edge size each leaf, and at every size some of them.
func TestP7EveryLeafIsProved(t *testing.T) {
	all := someLeaves(mostLeaves)
	book := newRootBook(all)
	for n := 1; n <= mostLeaves; n++ {
		point := impl.TreePoint(all[:n])
		places := edgePlaces(n)
		if slices.Contains(edgeSizes(), n) {
			places = nil
			for i := range n {
				places = append(places, i)
			}
		}
		for _, i := range places {
			path, ok := impl.PathOf(all[:n], i)
			if !ok || !slices.Equal(path, book.path(n, i)) {
				t.Fatalf("the leaf %d of %d: %v, not its path", i, n, ok)
			}
			if len(path) != impl.PathLen(n, i) {
				t.Errorf("the leaf %d of %d: %d digests, PathLen %d", i, n, len(path), impl.PathLen(n, i))
			}
			if root, ok := impl.PathRoot(n, i, all[i], path); !ok || root != point.Root {
				t.Errorf("the leaf %d of %d: PathRoot %v does not make TreeRoot", i, n, ok)
			}
			if !impl.PathCheck(point, i, all[i], path) {
				t.Errorf("the leaf %d of %d: PathCheck says no", i, n)
			}
		}
	}
}

func TestP7Leaves(t *testing.T) {
	full := strings.Repeat("a", longLeaf)
	for name, leaves := range map[string][]string{
		"one empty leaf": {""},
		"one of 40":      {full},
		"two of 40":      {full, full},
		"empty leaves":   {"", "", ""},
		"alike":          {"a", "a", "a", "a", "a"},
		"bytes 255":      {blank, strings.Repeat(blank, longLeaf), "a" + blank},
		"256 of 40":      slices.Repeat([]string{full}, mostLeaves),
		"255 empty":      make([]string, mostLeaves-1),
	} {
		for _, i := range edgePlaces(len(leaves)) {
			path, ok := impl.PathOf(leaves, i)
			if !ok || !impl.PathCheck(impl.TreePoint(leaves), i, leaves[i], path) {
				t.Errorf("%s: the leaf %d is not proved", name, i)
			}
		}
	}
	if path, ok := impl.PathOf([]string{"a"}, 0); !ok || len(path) != 0 {
		t.Error("the path of an only leaf has digests")
	}
}

func TestP7PathLen(t *testing.T) {
	for n := 1; n <= mostLeaves; n++ {
		for i := range n {
			want := 0
			for at := (run{0, n}); at.hi-at.lo > 1; want++ {
				first, rest := halvesOf(at)
				at = first
				if i >= rest.lo {
					at = rest
				}
			}
			if got := impl.PathLen(n, i); got != want {
				t.Errorf("PathLen(%d, %d): %d, not %d", n, i, got, want)
			}
		}
		for _, i := range []int{math.MinInt, -1, n, n + 1, math.MaxInt} {
			if got := impl.PathLen(n, i); got != -1 {
				t.Errorf("PathLen(%d, %d): %d", n, i, got)
			}
		}
	}
	for _, c := range [][3]int{{1, 0, 0}, {2, 0, 1}, {2, 1, 1}, {3, 0, 2}, {3, 2, 1}, {13, 0, 4}, {13, 8, 4}, {13, 12, 2}, {255, 254, 7}, {255, 0, 8}, {256, 0, 8}, {256, 255, 8}, {129, 128, 1}} {
		if got := impl.PathLen(c[0], c[1]); got != c[2] {
			t.Errorf("PathLen(%d, %d): %d, not %d", c[0], c[1], got, c[2])
		}
	}
	for _, n := range append(oddSizes(), 0) {
		for _, i := range []int{math.MinInt, -1, 0, 1, n, n - 1, math.MaxInt} {
			if got := impl.PathLen(n, i); got != -1 {
				t.Errorf("PathLen(%d, %d): %d", n, i, got)
			}
		}
	}
}

func TestP7PathOfWrong(t *testing.T) {
	for name, leaves := range wrongLeaves() {
		for _, i := range []int{0, 1, len(leaves) - 1} {
			if path, ok := impl.PathOf(leaves, i); ok || len(path) != 0 {
				t.Errorf("%s: a path of the leaf %d", name, i)
			}
		}
	}
	all := someLeaves(mostLeaves)
	for n := range mostLeaves + 1 {
		for _, i := range []int{math.MinInt, -1, n, n + 1, mostLeaves, math.MaxInt} {
			if path, ok := impl.PathOf(all[:n], i); ok || len(path) != 0 {
				t.Errorf("%d leaves: a path of the leaf %d", n, i)
			}
		}
	}
}

// P7: PathRoot asks nothing of the digests, only how many there are.
func TestP7PathRootOfAny(t *testing.T) {
	for _, n := range edgeSizes() {
		for _, i := range edgePlaces(n) {
			path := digestsFrom(impl.PathLen(n, i), n+i)
			for _, leaf := range []string{"", "leaf", strings.Repeat(blank, longLeaf), strings.Repeat("b", longLeaf)} {
				if got, ok := impl.PathRoot(n, i, leaf, path); !ok || got != foldPath(run{0, n}, i, leaf, path) {
					t.Errorf("PathRoot(%d, %d, %q): %v", n, i, leaf, ok)
				}
			}
		}
	}
	if got, ok := impl.PathRoot(1, 0, "a", nil); !ok || got != impl.HashLeaf("a") {
		t.Error("an only leaf is not its own root")
	}
	if got, ok := impl.PathRoot(1, 0, "a", []impl.Digest{}); !ok || got != impl.HashLeaf("a") {
		t.Error("the empty path and nil are unlike")
	}
}

func TestP7PathRootWrong(t *testing.T) {
	refused := func(n, i int, leaf string, path []impl.Digest) {
		t.Helper()
		if got, ok := impl.PathRoot(n, i, leaf, path); ok || got != (impl.Digest{}) {
			t.Errorf("PathRoot(%d, %d) takes a leaf of %d bytes and %d digests", n, i, len(leaf), len(path))
		}
		if impl.PathCheck(impl.Point{Size: n}, i, leaf, path) {
			t.Errorf("PathCheck(%d, %d) takes what PathRoot refuses, under the zero digest", n, i)
		}
	}
	for _, n := range edgeSizes() {
		for _, i := range edgePlaces(n) {
			right := impl.PathLen(n, i)
			for many := range 20 {
				if many != right {
					refused(n, i, "a", digestsFrom(many, 0))
				}
			}
			refused(n, i, strings.Repeat("a", longLeaf+1), digestsFrom(right, 0))
			refused(n, i, strings.Repeat(blank, longLeaf+1), digestsFrom(right, 0))
		}
		for _, i := range wrongPlaces(n) {
			if i >= 0 && i < n {
				continue
			}
			for many := range 10 {
				refused(n, i, "a", digestsFrom(many, 0))
			}
		}
	}
	for _, n := range append(oddSizes(), 0) {
		for _, i := range []int{math.MinInt, -1, 0, 1, n - 1, n} {
			for many := range 10 {
				refused(n, i, "a", digestsFrom(many, 0))
			}
		}
	}
}

// P7: nothing else is proved by a path (no two of these leaves are alike but for bytes 255).
func TestP7NothingElseIsProved(t *testing.T) {
	for _, n := range []int{1, 2, 3, 8, 13, 255, 256} {
		all := someLeaves(n)
		point := impl.TreePoint(all)
		for _, i := range edgePlaces(n) {
			path, _ := impl.PathOf(all, i)
			refused := func(p impl.Point, i int, leaf string, path []impl.Digest, what string) {
				t.Helper()
				if impl.PathCheck(p, i, leaf, path) {
					t.Errorf("the leaf %d of %d is taken with %s", i, n, what)
				}
			}
			refused(point, i, all[i][1:], path, "another leaf")
			refused(impl.Point{Size: n}, i, all[i], path, "the zero root")
			refused(impl.Point{Root: point.Root}, i, all[i], path, "the size 0")
			refused(impl.Point{Size: -n, Root: point.Root}, i, all[i], path, "a size below 0")
			for k := range path {
				other := slices.Clone(path)
				other[k].D ^= 1
				refused(point, i, all[i], other, "another digest")
				refused(point, i, all[i], slices.Delete(slices.Clone(path), k, k+1), "a digest too few")
				refused(point, i, all[i], slices.Insert(slices.Clone(path), k, path[k]), "a digest too many")
			}
			for _, other := range edgePlaces(n) {
				if other != i {
					refused(point, other, all[i], path, "another place")
				}
			}
		}
	}
}

// P8: at every size from the edges, and from every start to the edge sizes.
func TestP8EveryGrowthIsProved(t *testing.T) {
	all := someLeaves(mostLeaves)
	book := newRootBook(all)
	for n := range mostLeaves + 1 {
		starts := edgeStarts(n)
		if n <= 33 || n == mostLeaves-1 || n == mostLeaves {
			starts = nil
			for m := range n + 1 {
				starts = append(starts, m)
			}
		}
		for _, m := range starts {
			proof, ok := impl.GrowthOf(all[:n], m)
			if !ok || !slices.Equal(proof, book.growth(m, n)) {
				t.Fatalf("from %d to %d: %v, not the proof", m, n, ok)
			}
			if len(proof) != impl.GrowthLen(m, n) {
				t.Errorf("from %d to %d: %d digests, GrowthLen %d", m, n, len(proof), impl.GrowthLen(m, n))
			}
			if code := impl.GrowthCheck(book.point(m), book.point(n), proof); code != 0 {
				t.Errorf("from %d to %d: code %d", m, n, code)
			}
		}
	}
}

// P8: the document's own points, and leaves that are all alike, empty or full.
func TestP8Leaves(t *testing.T) {
	for name, all := range map[string][]string{
		"unlike": someLeaves(mostLeaves),
		"empty":  make([]string, mostLeaves),
		"full":   slices.Repeat([]string{strings.Repeat("a", longLeaf)}, mostLeaves),
		"blanks": slices.Repeat([]string{strings.Repeat(blank, longLeaf)}, mostLeaves),
	} {
		for _, n := range []int{0, 1, 2, 3, 13, 255, 256} {
			for _, m := range edgeStarts(n) {
				proof, ok := impl.GrowthOf(all[:n], m)
				if !ok || impl.GrowthCheck(impl.TreePoint(all[:m]), impl.TreePoint(all[:n]), proof) != 0 {
					t.Errorf("%s leaves from %d to %d: not proved", name, m, n)
				}
			}
		}
	}
}

func TestP8Edges(t *testing.T) {
	all := someLeaves(mostLeaves)
	for _, n := range []int{0, 1, 2, 13, 255, 256} {
		for _, m := range []int{0, n} {
			if proof, ok := impl.GrowthOf(all[:n], m); !ok || len(proof) != 0 {
				t.Errorf("from %d to %d: %v, %d digests", m, n, ok, len(proof))
			}
		}
	}
	for _, c := range [][3]int{{0, 0, 0}, {0, 256, 0}, {256, 256, 0}, {1, 1, 0}, {1, 2, 2}, {1, 3, 3}, {2, 3, 2}, {1, 256, 9}, {8, 256, 6}, {13, 256, 9}, {8, 13, 2}, {13, 14, 4}, {128, 256, 2}, {255, 256, 9}, {127, 256, 9}, {129, 256, 9}} {
		if got := impl.GrowthLen(c[0], c[1]); got != c[2] {
			t.Errorf("GrowthLen(%d, %d): %d, not %d", c[0], c[1], got, c[2])
		}
	}
	one, two := all[0], all[1]
	if proof, ok := impl.GrowthOf(all[:2], 1); !ok || !slices.Equal(proof, []impl.Digest{impl.HashLeaf(one), impl.HashLeaf(two)}) {
		t.Error("from 1 to 2: not the two leaves")
	}
	if proof, ok := impl.GrowthOf(all, 128); !ok || !slices.Equal(proof, []impl.Digest{impl.TreeRoot(all[:128]), impl.TreeRoot(all[128:])}) {
		t.Error("from 128 to 256: not the two halves")
	}
}

// P8: there are as many as there are old and new nodes; the old ones are the runs of the peaks.
func TestP8GrowthLen(t *testing.T) {
	all := someLeaves(mostLeaves)
	for n := 1; n <= mostLeaves; n++ {
		nodes := allNodes(run{0, n})
		for m := 1; m < n; m++ {
			want := len(oldNodes(nodes, m)) + len(newNodes(nodes, m))
			if got := impl.GrowthLen(m, n); got != want {
				t.Errorf("GrowthLen(%d, %d): %d, not %d", m, n, got, want)
			}
		}
	}
	for n := range mostLeaves + 1 {
		if impl.GrowthLen(0, n) != 0 || impl.GrowthLen(n, n) != 0 {
			t.Errorf("a growth to %d from 0, or from itself, has digests", n)
		}
	}
	for _, n := range edgeSizes() {
		for _, m := range edgeStarts(n) {
			if m == 0 || m == n {
				continue
			}
			proof, _ := impl.GrowthOf(all[:n], m)
			if !slices.Equal(proof[:impl.PeaksCount(m)], impl.TreePeaks(all[:m])) {
				t.Errorf("from %d to %d: the proof does not begin with the peaks", m, n)
			}
		}
	}
}

// badSizes are pairs between which no growth may be.
func badSizes() [][2]int {
	out := [][2]int{{1, 0}, {2, 1}, {6, 5}, {256, 255}, {257, 257}, {257, 256}, {256, 257}, {0, 257}, {1, 257}, {-1, -1}, {-1, 0}, {-1, 5}, {0, -1}, {-2, -1}}
	for _, odd := range oddSizes() {
		for _, other := range []int{odd, 0, 1, 13, 256, math.MinInt, math.MaxInt} {
			out = append(out, [2]int{odd, other}, [2]int{other, odd})
		}
	}
	return out
}

func TestP8BadSizes(t *testing.T) {
	root := impl.HashOf("")
	for _, c := range badSizes() {
		m, n := c[0], c[1]
		if got := impl.GrowthLen(m, n); got != -1 {
			t.Errorf("GrowthLen(%d, %d): %d", m, n, got)
		}
		for many := range 10 {
			if code := impl.GrowthCheck(impl.Point{Size: m, Root: root}, impl.Point{Size: n, Root: root}, digestsFrom(many, 0)); code != impl.GrBad {
				t.Errorf("from %d to %d with %d digests: code %d", m, n, many, code)
			}
		}
		if code := impl.GrowthCheck(impl.Point{Size: m}, impl.Point{Size: n, Root: root}, nil); code != impl.GrBad {
			t.Errorf("from %d to %d with wrong roots: code %d", m, n, code)
		}
	}
}

func TestP8GrowthOfWrong(t *testing.T) {
	for name, leaves := range wrongLeaves() {
		for _, m := range []int{-1, 0, 1, len(leaves) - 1, len(leaves), len(leaves) + 1} {
			if proof, ok := impl.GrowthOf(leaves, m); ok || len(proof) != 0 {
				t.Errorf("%s: a growth from %d", name, m)
			}
		}
	}
	all := someLeaves(mostLeaves)
	for n := range mostLeaves + 1 {
		for _, m := range []int{math.MinInt, -1, n + 1, mostLeaves + 1, math.MaxInt} {
			if proof, ok := impl.GrowthOf(all[:n], m); ok || len(proof) != 0 {
				t.Errorf("%d leaves: a growth from %d", n, m)
			}
		}
	}
}

// P8: where several codes would fit, the first of them.
func TestP8Codes(t *testing.T) {
	all := someLeaves(mostLeaves)
	wrong := impl.Digest{A: 5}
	for _, n := range edgeSizes() {
		for _, m := range edgeStarts(n) {
			if m == 0 || m == n {
				continue
			}
			old, now := impl.TreePoint(all[:m]), impl.TreePoint(all[:n])
			proof, _ := impl.GrowthOf(all[:n], m)
			code := func(what string, want int, old, now impl.Point, proof []impl.Digest) {
				t.Helper()
				if got := impl.GrowthCheck(old, now, proof); got != want {
					t.Errorf("from %d to %d, %s: code %d, not %d", m, n, what, got, want)
				}
			}
			code("turned round", impl.GrBad, now, old, proof)
			code("no proof", impl.GrLen, old, now, nil)
			code("one too few", impl.GrLen, old, now, proof[1:])
			code("one too many", impl.GrLen, old, now, append(slices.Clone(proof), wrong))
			code("one too few, wrong roots", impl.GrLen, impl.Point{Size: m}, impl.Point{Size: n}, proof[1:])
			code("old root", impl.GrOld, impl.Point{Size: m, Root: wrong}, now, proof)
			code("both roots", impl.GrOld, impl.Point{Size: m}, impl.Point{Size: n}, proof)
			code("roots swapped", impl.GrOld, impl.Point{Size: m, Root: now.Root}, impl.Point{Size: n, Root: old.Root}, proof)
			code("new root", impl.GrNew, old, impl.Point{Size: n, Root: wrong}, proof)
			code("new root zero", impl.GrNew, old, impl.Point{Size: n}, proof)
			code("new root like the old", impl.GrNew, old, impl.Point{Size: n, Root: old.Root}, proof)
			for k := range proof {
				want := impl.GrNew
				if k < impl.PeaksCount(m) {
					want = impl.GrOld
				}
				other := slices.Clone(proof)
				other[k].A ^= 1 << 63
				code("another digest", want, old, now, other)
			}
		}
	}
}

// P8: growths without digests: from 0, and to the same size.
func TestP8CodesOfEnds(t *testing.T) {
	none := impl.TreePoint(nil)
	wrong := impl.Digest{C: 3}
	one := []impl.Digest{none.Root}
	for n := range mostLeaves + 1 {
		now := impl.Point{Size: n, Root: impl.HashLeaf("root")}
		for _, c := range []struct {
			what     string
			want     int
			old, now impl.Point
			proof    []impl.Digest
		}{
			{"the same", 0, now, now, nil},
			{"the same, an empty list", 0, now, now, []impl.Digest{}},
			{"the same, a digest", impl.GrLen, now, now, one},
			{"the same size, roots unlike", impl.GrNew, now, impl.Point{Size: n, Root: wrong}, nil},
			{"the same size, roots unlike, a digest", impl.GrLen, now, impl.Point{Size: n, Root: wrong}, one},
			{"the same size, the zero root", impl.GrNew, impl.Point{Size: n}, now, nil},
			{"out of nothing", 0, none, now, nil},
			{"out of nothing, any root", 0, none, impl.Point{Size: n, Root: wrong}, nil},
			{"out of nothing, the zero root", 0, none, impl.Point{Size: n}, nil},
			{"out of nothing, a digest", impl.GrLen, none, now, one},
			{"out of a wrong nothing", impl.GrOld, impl.Point{}, now, nil},
			{"out of a wrong nothing to the same root", impl.GrOld, impl.Point{Root: now.Root}, now, nil},
			{"out of a wrong nothing, a digest", impl.GrLen, impl.Point{}, now, one},
		} {
			want := c.want
			if n == 0 && c.old.Root != none.Root && want != impl.GrLen {
				want = impl.GrOld
			}
			if n == 0 && c.old.Root == none.Root && c.now.Root != none.Root && want != impl.GrLen {
				want = impl.GrNew
			}
			if got := impl.GrowthCheck(c.old, c.now, c.proof); got != want {
				t.Errorf("to %d, %s: code %d, not %d", n, c.what, got, want)
			}
		}
	}
	if got := impl.GrowthCheck(none, none, nil); got != 0 {
		t.Errorf("from nothing to nothing: code %d", got)
	}
}

// P8: GrowthCheck asks nothing of the digests but that they make the roots.
func TestP8CheckOfAny(t *testing.T) {
	for _, n := range edgeSizes() {
		for _, m := range edgeStarts(n) {
			if m == 0 || m == n {
				continue
			}
			nodes := proofNodes(m, n)
			proof := digestsFrom(len(nodes), m)
			old := impl.Point{Size: m, Root: slowRootOfPeaks(proof[:impl.PeaksCount(m)])}
			now := impl.Point{Size: n, Root: foldGrowth(run{0, n}, nodes, proof)}
			if code := impl.GrowthCheck(old, now, proof); code != 0 {
				t.Errorf("from %d to %d: code %d", m, n, code)
			}
		}
	}
}

// P8: a list that was changed ahead of m did not grow out of what it was.
func TestP8ChangedLeaf(t *testing.T) {
	all := someLeaves(mostLeaves)
	for _, n := range []int{2, 3, 13, 255, 256} {
		for _, m := range []int{1, (n + 1) / 2, n - 1} {
			for _, i := range edgePlaces(m) {
				other := slices.Clone(all[:n])
				other[i] = "another"
				now := impl.TreePoint(other)
				right, _ := impl.GrowthOf(all[:n], m)
				forged, _ := impl.GrowthOf(other, m)
				if got := impl.GrowthCheck(impl.TreePoint(all[:m]), now, forged); got != impl.GrOld {
					t.Errorf("from %d to %d, the leaf %d changed: code %d", m, n, i, got)
				}
				if got := impl.GrowthCheck(impl.TreePoint(all[:m]), now, right); got != impl.GrNew {
					t.Errorf("from %d to %d, the leaf %d changed, the right proof: code %d", m, n, i, got)
				}
			}
		}
	}
}

// P9: small lists wholly, great ones at their edges.
func TestP9PathsAreCarried(t *testing.T) {
	all := someLeaves(mostLeaves)
	book := newRootBook(all)
	carried := func(m, n, i int) {
		t.Helper()
		path, _ := impl.PathOf(all[:m], i)
		proof, _ := impl.GrowthOf(all[:n], m)
		up, ok := impl.GrowthLift(m, n, i, path, proof)
		if !ok || !slices.Equal(up, book.path(n, i)) {
			t.Errorf("the leaf %d from %d to %d: %v, not its path", i, m, n, ok)
		}
		if !impl.PathCheck(book.point(n), i, all[i], up) {
			t.Errorf("the leaf %d from %d to %d: not proved", i, m, n)
		}
	}
	for n := 1; n <= 33; n++ {
		for m := 1; m <= n; m++ {
			for i := range m {
				carried(m, n, i)
			}
		}
	}
	for _, n := range []int{64, 65, 127, 128, 129, 255, 256} {
		for _, m := range edgeStarts(n) {
			for _, i := range edgePlaces(m) {
				carried(m, n, i)
			}
		}
	}
}

// P9: step by step, from the leaf's own size on, comes what comes in one.
func TestP9LeafByLeaf(t *testing.T) {
	all := someLeaves(mostLeaves)
	for _, i := range []int{0, 1, 12, 127, 128, 200, 255} {
		path, _ := impl.PathOf(all[:i+1], i)
		for n := i + 2; n <= mostLeaves; n++ {
			proof, _ := impl.GrowthOf(all[:n], n-1)
			up, ok := impl.GrowthLift(n-1, n, i, path, proof)
			if !ok {
				t.Fatalf("the leaf %d to %d: not lifted", i, n)
			}
			path = up
		}
		if want, _ := impl.PathOf(all, i); !slices.Equal(path, want) {
			t.Errorf("the leaf %d: another path comes out", i)
		}
	}
}

// P9: any digests are carried, each to its place.
func TestP9AnyDigests(t *testing.T) {
	for _, n := range []int{2, 3, 5, 8, 13, 14, 16, 33, 100, 255, 256} {
		for _, m := range edgeStarts(n) {
			if m == 0 || m == n {
				continue
			}
			for _, i := range edgePlaces(m) {
				path := digestsFrom(impl.PathLen(m, i), 3)
				proof := digestsFrom(impl.GrowthLen(m, n), 90)
				up, ok := impl.GrowthLift(m, n, i, path, proof)
				if !ok || !slices.Equal(up, slowLift(m, n, i, path, proof)) {
					t.Errorf("the leaf %d from %d to %d: %v", i, m, n, ok)
				}
			}
		}
	}
}

// P10: whatever the digests are, the path has as many as one of its size.
func TestP10LengthIsKept(t *testing.T) {
	some := someDigests()
	for n := 1; n <= mostLeaves; n++ {
		for _, m := range edgeStarts(n) {
			for _, i := range edgePlaces(m) {
				up, ok := impl.GrowthLift(m, n, i, some[:impl.PathLen(m, i)], some[20:20+impl.GrowthLen(m, n)])
				if !ok || len(up) != impl.PathLen(n, i) {
					t.Errorf("the leaf %d from %d to %d: %v, %d digests, PathLen %d", i, m, n, ok, len(up), impl.PathLen(n, i))
				}
			}
		}
	}
}

func TestP10SameSizeLiftsNothing(t *testing.T) {
	for m := 1; m <= mostLeaves; m++ {
		for i := range m {
			path := digestsFrom(impl.PathLen(m, i), i)
			for _, proof := range [][]impl.Digest{nil, {}} {
				if up, ok := impl.GrowthLift(m, m, i, path, proof); !ok || !slices.Equal(up, path) {
					t.Fatalf("the leaf %d from %d to %d: %v, another path", i, m, m, ok)
				}
			}
		}
	}
}

func TestP10Wrong(t *testing.T) {
	some := someDigests()
	refused := func(m, n, i, path, proof int) {
		t.Helper()
		if up, ok := impl.GrowthLift(m, n, i, some[:path], some[20:20+proof]); ok || len(up) != 0 {
			t.Errorf("GrowthLift(%d, %d, %d) takes %d and %d digests", m, n, i, path, proof)
		}
	}
	for _, n := range []int{1, 2, 3, 13, 255, 256} {
		for _, m := range edgeStarts(n) {
			for _, i := range edgePlaces(m) {
				path, proof := impl.PathLen(m, i), impl.GrowthLen(m, n)
				for many := range 18 {
					if many != path {
						refused(m, n, i, many, proof)
					}
					if many != proof {
						refused(m, n, i, path, many)
					}
				}
				if proof != path {
					refused(m, n, i, proof, path)
				}
			}
			for _, i := range []int{math.MinInt, -1, m, n, n + 1, math.MaxInt} {
				for many := range 10 {
					refused(m, n, i, many, impl.GrowthLen(m, n))
				}
			}
		}
	}
	for _, c := range badSizes() {
		for _, i := range []int{math.MinInt, -1, 0, 1, c[0] - 1, c[1] - 1, math.MaxInt} {
			for many := range 9 {
				refused(c[0], c[1], i, many, 0)
				refused(c[0], c[1], i, many, many)
			}
		}
	}
	for n := range mostLeaves + 1 {
		refused(0, n, 0, 0, 0)
	}
}

// proofArguments are one call's lists, laid ahead of marks.
type proofArguments struct {
	leaves, leavesWhole []string
	path, pathWhole     []impl.Digest
	proof, proofWhole   []impl.Digest
}

func layArguments(m, n, i int) proofArguments {
	all := someLeaves(n)
	path, _ := impl.PathOf(all[:m], i)
	proof, _ := impl.GrowthOf(all, m)
	var a proofArguments
	a.leaves, a.leavesWhole = withRoom(all, "mark")
	a.path, a.pathWhole = withRoom(path, impl.Digest{B: 99})
	a.proof, a.proofWhole = withRoom(proof, impl.Digest{B: 98})
	return a
}

func (a proofArguments) like(b proofArguments) bool {
	return slices.Equal(a.leavesWhole, b.leavesWhole) && slices.Equal(a.pathWhole, b.pathWhole) && slices.Equal(a.proofWhole, b.proofWhole)
}

func TestProofWritesNoArgument(t *testing.T) {
	for _, n := range []int{1, 2, 3, 8, 13, 100, 255, 256} {
		for _, m := range edgeStarts(n) {
			for _, i := range []int{0, m / 2, m - 1} {
				laid := layArguments(m, n, max(i, 0))
				before := layArguments(m, n, max(i, 0))
				leaf := "leaf"
				impl.PathOf(laid.leaves, i)
				impl.PathRoot(m, i, leaf, laid.path)
				impl.PathCheck(impl.Point{Size: m}, i, leaf, laid.path)
				impl.GrowthOf(laid.leaves, m)
				impl.GrowthCheck(impl.TreePoint(laid.leaves[:m]), impl.TreePoint(laid.leaves), laid.proof)
				impl.GrowthLift(m, n, i, laid.path, laid.proof)
				if !laid.like(before) {
					t.Fatalf("from %d to %d, the leaf %d: an argument is written into, or behind its end", m, n, i)
				}
			}
		}
	}
}

// Answers are written over, and then the arguments: neither is to be seen elsewhere.
func TestProofAnswersAreNewMemory(t *testing.T) {
	for _, n := range []int{1, 2, 3, 8, 13, 100, 255, 256} {
		for _, m := range edgeStarts(n) {
			if m == 0 {
				continue
			}
			for _, i := range edgePlaces(m) {
				laid, before := layArguments(m, n, i), layArguments(m, n, i)
				want, _ := impl.PathOf(before.leaves, i)
				lifted, _ := impl.GrowthLift(m, n, i, laid.path, laid.proof)
				again, _ := impl.GrowthLift(m, n, i, laid.path, laid.proof)
				path, _ := impl.PathOf(laid.leaves, i)
				proof, _ := impl.GrowthOf(laid.leaves, m)
				scribble(lifted)
				if !laid.like(before) || !slices.Equal(again, want) {
					t.Fatalf("from %d to %d, the leaf %d: the lifted path shares memory", m, n, i)
				}
				scribble(laid.pathWhole)
				scribble(laid.proofWhole)
				if !slices.Equal(again, want) || !slices.Equal(path, want) || !slices.Equal(proof, before.proof) {
					t.Fatalf("from %d to %d, the leaf %d: an answer keeps memory of an argument", m, n, i)
				}
				scribble(path)
				scribble(proof)
				if !slices.Equal(again, want) || !slices.Equal(laid.leavesWhole, before.leavesWhole) {
					t.Fatalf("from %d to %d, the leaf %d: two answers share memory", m, n, i)
				}
			}
		}
	}
}
