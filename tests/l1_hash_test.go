package tests

import (
	"encoding/binary"
	"fmt"
	"math/bits"
	"math/rand/v2"
	"strings"
	"testing"

	"loop.example/belfry/impl"
)

var hashStart = impl.Digest{A: 0xC1E4D37A5B0962F8, B: 0x2D9A6E13F7084BC5, C: 0x71F0A85CE43B9D26, D: 0x9E62C70B184FA5D3}

const (
	blank   = "\xff"
	longest = impl.HashMax
)

func newRand() *rand.Rand {
	return rand.New(rand.NewPCG(1, 2))
}

func someDigests() []impl.Digest {
	r := newRand()
	top := ^uint64(0)
	out := []impl.Digest{
		{},
		{A: 1}, {B: 1}, {C: 1}, {D: 1},
		{A: 1 << 63}, {B: 1 << 63}, {C: 1 << 63}, {D: 1 << 63},
		{A: top, B: top, C: top, D: top},
		{A: 0x0123456789abcdef, B: 0xfedcba9876543210, C: 0x00ff00ff00ff00ff, D: 0x8080808080808080},
	}
	for range 200 {
		out = append(out, impl.Digest{A: r.Uint64(), B: r.Uint64(), C: r.Uint64(), D: r.Uint64()})
	}
	return out
}

func randomText(r *rand.Rand, size int) string {
	out := make([]byte, size)
	for i := range out {
		out[i] = byte(r.UintN(256))
	}
	return string(out)
}

func withoutBlanks(text string) string {
	return strings.ReplaceAll(text, blank, "")
}

func wordOf(text string) uint64 {
	return binary.BigEndian.Uint64([]byte(text))
}

// bytesOf lays a digest in another way than the program does.
func bytesOf(d impl.Digest) string {
	var out []byte
	for _, w := range []uint64{d.A, d.B, d.C, d.D} {
		out = binary.BigEndian.AppendUint64(out, w)
	}
	return string(out)
}

// undoBlock finds the block by which HashBlock came from state to after: that there is a way back shows that no two blocks lead to one digest.
func undoBlock(state impl.Digest, after impl.Digest) impl.Digest {
	a, b, c, d := after.A^state.A, after.B^state.B, after.C^state.C, after.D^state.D
	step := uint64(0xAF251C93E7D04B6B)
	k := step * 10
	for range 10 {
		a, b, c, d = d, a, b, c
		b = bits.RotateLeft64(b, -21) ^ c
		c -= d
		d = bits.RotateLeft64(d, -39) ^ a
		a -= b + k
		k -= step
	}
	return impl.Digest{A: a ^ state.A, B: b ^ state.B, C: c ^ state.C, D: d ^ state.D}
}

// padded lays a text as the document says, in one piece.
func padded(text string) string {
	left := withoutBlanks(text)
	noughts := 0
	for (len(left)+1+noughts+8)%32 != 0 {
		noughts++
	}
	return left + "\x80" + strings.Repeat("\x00", noughts) + bytesOf(impl.Digest{D: uint64(len(left))})[24:]
}

func slowHash(text string) impl.Digest {
	state := hashStart
	for rest := padded(text); rest != ""; rest = rest[32:] {
		state = impl.HashBlock(state, impl.Digest{A: wordOf(rest[:8]), B: wordOf(rest[8:16]), C: wordOf(rest[16:24]), D: wordOf(rest[24:32])})
	}
	return state
}

// The document's example tells the beginnings of these digests.
func TestHashKnown(t *testing.T) {
	pair := impl.HashPair(impl.HashLeaf("a"), impl.HashLeaf("b"))
	for _, c := range []struct {
		name  string
		d     impl.Digest
		begin string
	}{
		{"no leaves", impl.HashOf(""), "19c1561b"},
		{"one leaf", impl.HashLeaf("x"), "29eb69e1"},
		{"two leaves", pair, "15521c7c"},
		{"three leaves", impl.HashPair(pair, impl.HashLeaf("c")), "b26e7e41"},
	} {
		if got := impl.HashText(c.d); !strings.HasPrefix(got, c.begin) {
			t.Errorf("%s: %s does not begin with %s", c.name, got, c.begin)
		}
	}
}

func TestHashOfLayout(t *testing.T) {
	r := newRand()
	sizes := []int{1000, longest - 1, longest}
	for n := range 140 {
		sizes = append(sizes, n)
	}
	for _, n := range sizes {
		for _, text := range []string{strings.Repeat("a", n), strings.Repeat("\x00", n), strings.Repeat(blank, n), strings.Repeat("\x80", n), randomText(r, n)} {
			if impl.HashOf(text) != slowHash(text) {
				t.Errorf("a text of %d bytes, %.40q: not laid as the document says", n, text)
			}
		}
	}
}

// The empty text, 23 bytes and 24: one block, one, two.
func TestHashOfBlocks(t *testing.T) {
	if impl.HashOf("") != impl.HashBlock(hashStart, impl.Digest{A: 0x8000000000000000}) {
		t.Error("the empty text is not one block of a byte 128")
	}
	const a8 = 0x6161616161616161
	one := impl.HashBlock(hashStart, impl.Digest{A: a8, B: a8, C: 0x6161616161616180, D: 23})
	if impl.HashOf(strings.Repeat("a", 23)) != one {
		t.Error("23 bytes are not one block")
	}
	first := impl.HashBlock(hashStart, impl.Digest{A: a8, B: a8, C: a8, D: 0x8000000000000000})
	if impl.HashOf(strings.Repeat("a", 24)) != impl.HashBlock(first, impl.Digest{D: 24}) {
		t.Error("24 bytes are not two blocks")
	}
	first = impl.HashBlock(hashStart, impl.Digest{A: a8, B: a8, C: a8, D: 0x6161616161616180})
	if impl.HashOf(strings.Repeat("a", 31)) != impl.HashBlock(first, impl.Digest{D: 31}) {
		t.Error("31 bytes are not two blocks")
	}
	first = impl.HashBlock(hashStart, impl.Digest{A: a8, B: a8, C: a8, D: a8})
	if impl.HashOf(strings.Repeat("a", 32)) != impl.HashBlock(first, impl.Digest{A: 0x8000000000000000, D: 32}) {
		t.Error("32 bytes are not two blocks")
	}
}

func TestHashLimit(t *testing.T) {
	zero := impl.Digest{}
	for _, sign := range []string{"a", "\x00", blank} {
		if impl.HashOf(strings.Repeat(sign, longest)) == zero {
			t.Errorf("%q: HashMax bytes have no digest", sign)
		}
		if impl.HashOf(strings.Repeat(sign, longest+1)) != zero {
			t.Errorf("%q: one byte above HashMax has a digest", sign)
		}
	}
	if impl.HashLeaf(strings.Repeat("a", longest-1)) == zero {
		t.Error("a leaf of HashMax - 1 bytes has no digest")
	}
	if impl.HashLeaf(strings.Repeat("a", longest)) != zero {
		t.Error("a leaf of HashMax bytes is hashed with one byte more, and has a digest")
	}
}

func TestHashLeafAndPair(t *testing.T) {
	r := newRand()
	for n := range 70 {
		text := randomText(r, n)
		if impl.HashLeaf(text) != slowHash("\x00"+text) {
			t.Errorf("leaf %q", text)
		}
	}
	all := someDigests()
	for i, left := range all {
		right := all[len(all)-1-i]
		if impl.HashPair(left, right) != slowHash("\x01"+bytesOf(left)+bytesOf(right)) {
			t.Errorf("pair %v %v", left, right)
		}
	}
}

// P1: what is written is read back.
func TestP1WrittenIsRead(t *testing.T) {
	for _, d := range someDigests() {
		if b := impl.HashBytes(d); b != bytesOf(d) {
			t.Errorf("HashBytes of %v: %q", d, b)
		}
		if back, ok := impl.HashBack(impl.HashBytes(d)); !ok || back != d {
			t.Errorf("HashBack of HashBytes of %v: %v %v", d, back, ok)
		}
		if text := impl.HashText(d); text != fmt.Sprintf("%016x%016x%016x%016x", d.A, d.B, d.C, d.D) {
			t.Errorf("HashText of %v: %q", d, text)
		}
		if back, ok := impl.HashRead(impl.HashText(d)); !ok || back != d {
			t.Errorf("HashRead of HashText of %v: %v %v", d, back, ok)
		}
	}
}

// P1: what has the right size is read just if it is written so.
func TestP1ReadIsWritten(t *testing.T) {
	r := newRand()
	for range 500 {
		text := randomText(r, 32)
		if d, ok := impl.HashBack(text); !ok || impl.HashBytes(d) != text {
			t.Errorf("HashBack of %q: %v %v", text, d, ok)
		}
	}
	whole := strings.Repeat("0123456789abcdef", 4)
	for at := range len(whole) {
		for sign := range 256 {
			text := whole[:at] + string([]byte{byte(sign)}) + whole[at+1:]
			isDigit := strings.IndexByte("0123456789abcdef", byte(sign)) >= 0
			d, ok := impl.HashRead(text)
			if ok != isDigit {
				t.Errorf("HashRead with the byte %d at %d: %v", sign, at, ok)
			}
			if ok && impl.HashText(d) != text {
				t.Errorf("HashRead of %q: written it is %q", text, impl.HashText(d))
			}
			if !ok && d != (impl.Digest{}) {
				t.Errorf("HashRead of %q: %v beside a false", text, d)
			}
		}
	}
}

func TestP1WrongSizes(t *testing.T) {
	for n := range 130 {
		text := strings.Repeat("0", n)
		if d, ok := impl.HashBack(text); ok != (n == 32) || !ok && d != (impl.Digest{}) {
			t.Errorf("HashBack of %d bytes: %v %v", n, d, ok)
		}
		if d, ok := impl.HashRead(text); ok != (n == 64) || d != (impl.Digest{}) {
			t.Errorf("HashRead of %d bytes: %v %v", n, d, ok)
		}
	}
	// Bytes count, not runes: 32 runes of two bytes each are 64 bytes.
	if _, ok := impl.HashBack(strings.Repeat("é", 32)); ok {
		t.Error("HashBack counts runes")
	}
	if _, ok := impl.HashRead(strings.Repeat("é", 32)); ok {
		t.Error("HashRead takes runes")
	}
	if _, ok := impl.HashRead(strings.Repeat("A", 64)); ok {
		t.Error("HashRead takes great letters")
	}
	if _, ok := impl.HashRead("0x" + strings.Repeat("0", 62)); ok {
		t.Error("HashRead takes 0x")
	}
}

// P2: HashBlock has a way back, so unlike blocks make unlike digests.
func TestP2BlocksAreUnlike(t *testing.T) {
	all := someDigests()
	for i, state := range append(all[:len(all):len(all)], hashStart) {
		for _, block := range []impl.Digest{all[i%len(all)], all[(7*i+3)%len(all)], {}} {
			if got := undoBlock(state, impl.HashBlock(state, block)); got != block {
				t.Fatalf("state %v: the block %v comes back as %v", state, block, got)
			}
		}
	}
}

// P2: a short text can be found again from its digest, so unlike ones have unlike digests.
func TestP2ShortTextsComeBack(t *testing.T) {
	r := newRand()
	for n := range 24 {
		for _, text := range []string{strings.Repeat("\x00", n), strings.Repeat("\x80", n), strings.Repeat("a", n), withoutBlanks(randomText(r, n))} {
			laid := bytesOf(undoBlock(hashStart, impl.HashOf(text)))
			size := int(wordOf(laid[24:]))
			if size != len(text) || laid[:size] != text {
				t.Errorf("%q comes back as %q", text, laid)
			}
		}
	}
}

func TestP2ShortTextsAreUnlike(t *testing.T) {
	texts := []string{""}
	for sign := range 255 {
		texts = append(texts, string([]byte{byte(sign)}))
	}
	for n := 2; n <= 23; n++ {
		for _, sign := range []string{"\x00", "\x01", "\x80", "a"} {
			run := strings.Repeat(sign, n-1)
			texts = append(texts, run+"b", "b"+run, run+"\x80", run+"\x00")
		}
	}
	of := map[impl.Digest]string{}
	for _, text := range texts {
		d := impl.HashOf(text)
		if other, ok := of[d]; ok && other != text {
			t.Errorf("%q and %q have one digest", text, other)
		}
		of[d] = text
	}
}

// P2: bytes 255 count for nothing, wherever they stand.
func TestP2BlanksCountForNothing(t *testing.T) {
	for n := range 70 {
		half := strings.Repeat("a", n/2)
		rest := strings.Repeat("b", n-n/2)
		want := impl.HashOf(half + rest)
		for _, many := range []int{1, 2, 31, 32, 33, 500} {
			run := strings.Repeat(blank, many)
			for _, text := range []string{run + half + rest, half + run + rest, half + rest + run, run + half + run + rest + run} {
				if impl.HashOf(text) != want {
					t.Errorf("%d bytes with %d bytes 255 have another digest", n, many)
				}
			}
		}
	}
	for _, many := range []int{1, 23, 24, 32, longest} {
		if impl.HashOf(strings.Repeat(blank, many)) != impl.HashOf("") {
			t.Errorf("%d bytes 255 alone have not the digest of the empty text", many)
		}
	}
	if impl.HashOf("\xfe") == impl.HashOf("") || impl.HashOf("\xfea") == impl.HashOf("a") {
		t.Error("bytes 254 count for nothing")
	}
}

// P3: ordinary clashes, their edges, and what is none.
func TestP3Clashes(t *testing.T) {
	short := strings.Repeat("a", 30)
	full := "a" + strings.Repeat(blank, longest-1)
	nearly := "a" + strings.Repeat(blank, longest-2)
	for _, c := range []struct {
		name        string
		left, right string
		want        bool
	}{
		{"a blank behind", "a", "a\xff", true},
		{"a blank ahead", "a", "\xffa", true},
		{"a blank within", "ab", "a\xffb", true},
		{"blanks at both", "\xffab", "a\xffb", true},
		{"blanks alone", "", blank, true},
		{"blanks of unlike number", blank, "\xff\xff", true},
		{"longer than a block", short, short[:10] + blank + short[10:], true},
		{"HashMax bytes", "a", full, true},
		{"HashMax bytes at both", blank + nearly, full, true},
		{"both empty", "", "", false},
		{"one text", "a", "a", false},
		{"one text with a blank", "a\xff", "a\xff", false},
		{"one text of HashMax bytes", full, full, false},
		{"two digests", "a", "b", false},
		{"a nought more", "a", "a\x00", false},
		{"a byte 128 more", "a", "a\x80", false},
		{"turned around", "ab\xff", "ba", false},
		{"above HashMax", "a", full + blank, false},
		{"both above HashMax, of one digest", full + blank, full + "\xff\xff", false},
		{"both above HashMax, of two", full + "b", full + "c", false},
	} {
		if got := impl.ClashOk(impl.Clash{Left: c.left, Right: c.right}); got != c.want {
			t.Errorf("%s: %v", c.name, got)
		}
		if got := impl.ClashOk(impl.Clash{Left: c.right, Right: c.left}); got != c.want {
			t.Errorf("%s, the other way round: %v", c.name, got)
		}
	}
}

// P3: texts that are made at random have no direction either, and no text clashes with itself.
func TestP3NoDirection(t *testing.T) {
	r := newRand()
	met := 0
	for range 3000 {
		left, right := blankish(r), blankish(r)
		want := left != right && withoutBlanks(left) == withoutBlanks(right)
		if want {
			met++
		}
		if impl.ClashOk(impl.Clash{Left: left, Right: right}) != want || impl.ClashOk(impl.Clash{Left: right, Right: left}) != want {
			t.Errorf("%q and %q: not %v both ways", left, right, want)
		}
		if impl.ClashOk(impl.Clash{Left: left, Right: left}) {
			t.Errorf("%q clashes with itself", left)
		}
	}
	if met == 0 {
		t.Error("no clash was met")
	}
}

// blankish makes a short text of few signs, so that clashes are common.
func blankish(r *rand.Rand) string {
	out := ""
	for range r.IntN(5) {
		out += []string{"a", blank, blank, "b"}[r.IntN(4)]
	}
	return out
}
