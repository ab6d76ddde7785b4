// Package impl: a log that everybody sees alike, its witnesses, clients and monitor.
package impl

import "math/bits"

// HashMax bounds a text that is hashed.
const HashMax = 20000

// How a text is laid into blocks.
const (
	hashRounds = 10
	hashStep   = 0xAF251C93E7D04B6B
	hashBlank  = 255
	hashEnd    = 128
	blockSize  = 32
	blockRoom  = 24 // the length takes the other eight bytes of the last block
)

const hashDigits = "0123456789abcdef"

// Digest is four words.
type Digest struct {
	A uint64
	B uint64
	C uint64
	D uint64
}

// Clash is two unlike texts of one digest.
type Clash struct {
	Left  string
	Right string
}

// word has its own type so that turning it is a method.
type word uint64

func (w word) turned(n int) word {
	return word(bits.RotateLeft64(uint64(w), n))
}

// HashBlock goes on from a state by a block.
func HashBlock(state Digest, block Digest) Digest {
	a, b := word(state.A^block.A), word(state.B^block.B)
	c, d := word(state.C^block.C), word(state.D^block.D)
	k := word(0)
	for range hashRounds {
		k += hashStep
		a += b + k
		turnD := (d ^ a).turned
		d = turnD(39)
		c += d
		turnB := (b ^ c).turned
		b = turnB(21)
		a, b, c, d = b, c, d, a
	}
	return Digest{
		A: uint64(a) ^ state.A,
		B: uint64(b) ^ state.B,
		C: uint64(c) ^ state.C,
		D: uint64(d) ^ state.D,
	}
}

// HashOf is a text's digest.
func HashOf(text string) Digest {
	if len(text) > HashMax {
		return Digest{}
	}
	state := hashStart()
	var block [blockSize]byte
	kept := 0
	for i := range len(text) {
		if text[i] == hashBlank {
			continue
		}
		block[kept%blockSize] = text[i]
		kept++
		if kept%blockSize == 0 {
			state = HashBlock(state, digestOfBytes(block))
		}
	}
	return hashRest(state, block, kept)
}

func hashStart() Digest {
	return Digest{
		A: 0xC1E4D37A5B0962F8,
		B: 0x2D9A6E13F7084BC5,
		C: 0x71F0A85CE43B9D26,
		D: 0x9E62C70B184FA5D3,
	}
}

// hashRest starts from an empty block, for behind the bytes that count the given one still has those of the block ahead of it.
func hashRest(state Digest, block [blockSize]byte, kept int) Digest {
	var last [blockSize]byte
	used := copy(last[:], block[:kept%blockSize])
	last[used] = hashEnd
	if used+1 > blockRoom {
		state = HashBlock(state, digestOfBytes(last))
		last = [blockSize]byte{}
	}
	length := bytesOfWord(uint64(kept))
	copy(last[blockRoom:], length[:])
	return HashBlock(state, digestOfBytes(last))
}

// HashLeaf is a leaf's digest.
func HashLeaf(text string) Digest {
	return HashOf(leafText(text))
}

// HashPair is the digest of two digests.
func HashPair(left Digest, right Digest) Digest {
	return HashOf(pairText(left, right))
}

// leafText and pairText begin unlike, so that no leaf is taken for a pair.
func leafText(leaf string) string {
	return "\x00" + leaf
}

func pairText(left Digest, right Digest) string {
	return "\x01" + HashBytes(left) + HashBytes(right)
}

// HashBytes is a digest in 32 bytes.
func HashBytes(d Digest) string {
	laid := bytesOfDigest(d)
	return string(laid[:])
}

// HashBack is the digest of 32 bytes.
func HashBack(text string) (Digest, bool) {
	var laid [blockSize]byte
	if len(text) != len(laid) {
		return Digest{}, false
	}
	copy(laid[:], text)
	return digestOfBytes(laid), true
}

// HashText is a digest in 64 digits.
func HashText(d Digest) string {
	signs := digitsOfBytes(bytesOfDigest(d))
	return string(signs[:])
}

// HashRead is the digest of 64 digits.
func HashRead(text string) (Digest, bool) {
	var signs [2 * blockSize]byte
	if len(text) != len(signs) {
		return Digest{}, false
	}
	copy(signs[:], text)
	laid := bytesOfDigits(signs)
	// Writing it again refuses all signs that are no digits: a text is read only if it is the one that is written.
	if digitsOfBytes(laid) != signs {
		return Digest{}, false
	}
	return digestOfBytes(laid), true
}

// ClashOk says whether two texts are unlike and have one digest.
func ClashOk(c Clash) bool {
	// The limit is asked for first: all texts above it share the zero digest, and that is no clash.
	if len(c.Left) > HashMax || len(c.Right) > HashMax {
		return false
	}
	return c.Left != c.Right && HashOf(c.Left) == HashOf(c.Right)
}

func bytesOfWord(w uint64) [8]byte {
	var out [8]byte
	for i := range len(out) {
		out[i] = byte(w >> (56 - 8*i))
	}
	return out
}

func wordOfBytes(b [8]byte) uint64 {
	w := uint64(0)
	for i := range len(b) {
		w = w<<8 | uint64(b[i])
	}
	return w
}

func bytesOfDigest(d Digest) [blockSize]byte {
	var out [blockSize]byte
	words := [4]uint64{d.A, d.B, d.C, d.D}
	for i := range len(words) {
		laid := bytesOfWord(words[i])
		copy(out[8*i:], laid[:])
	}
	return out
}

func digestOfBytes(b [blockSize]byte) Digest {
	var words [4]uint64
	for i := range len(words) {
		var laid [8]byte
		copy(laid[:], b[8*i:])
		words[i] = wordOfBytes(laid)
	}
	return Digest{A: words[0], B: words[1], C: words[2], D: words[3]}
}

func digitsOfBytes(b [blockSize]byte) [2 * blockSize]byte {
	var out [2 * blockSize]byte
	for i := range len(b) {
		out[2*i] = hashDigits[b[i]>>4]
		out[2*i+1] = hashDigits[b[i]&15]
	}
	return out
}

func bytesOfDigits(signs [2 * blockSize]byte) [blockSize]byte {
	var out [blockSize]byte
	for i := range len(out) {
		out[i] = digitValue(signs[2*i])<<4 | digitValue(signs[2*i+1])
	}
	return out
}

// digitValue takes any other sign for nought; whoever reads digits looks whether they are written so.
func digitValue(sign byte) byte {
	switch {
	case '0' <= sign && sign <= '9':
		return sign - '0'
	case 'a' <= sign && sign <= 'f':
		return sign - 'a' + 10
	}
	return 0
}
