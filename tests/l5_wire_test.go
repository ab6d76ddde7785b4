package tests

import (
	"encoding/binary"
	"math"
	"math/rand/v2"
	"slices"
	"strings"
	"testing"
	"unsafe"

	"loop.example/belfry/impl"
)

// wireLayouts are the parts of each kind: S session, N from or size, R root, C count, P proof, L leaves.
var wireLayouts = map[int]string{
	impl.MsAsk:    "S",
	impl.MsHead:   "SNR",
	impl.MsVouch:  "SNR",
	impl.MsProve:  "NN",
	impl.MsGrowth: "NNP",
	impl.MsAck:    "SNR",
	impl.MsFetch:  "NC",
	impl.MsRange:  "NL",
}

const (
	kindsLeast = impl.MsAsk
	kindsMost  = impl.MsRange
)

// laidNumber is where a number stands in a text, and its bounds.
type laidNumber struct {
	at, width, least, most int
}

// laidText is a text with the places of its numbers; the kind is none of them, for it has a fault of its own.
type laidText struct {
	text    string
	numbers []laidNumber
}

func (l *laidText) number(value, width, least, most int) {
	l.numbers = append(l.numbers, laidNumber{len(l.text), width, least, most})
	l.text += numberBytes(value, width)
}

func numberBytes(value, width int) string {
	return string(binary.BigEndian.AppendUint64(nil, uint64(value))[8-width:])
}

// layMessage lays a message that is ok, kind by kind, as the document's table has it.
func layMessage(m impl.Message) laidText {
	l := laidText{text: string([]byte{byte(m.Kind)})}
	if m.Kind == impl.MsAsk || m.Kind == impl.MsHead || m.Kind == impl.MsVouch || m.Kind == impl.MsAck {
		l.number(m.Session, 3, 1, 1000000)
	}
	if m.Kind == impl.MsProve || m.Kind == impl.MsGrowth || m.Kind == impl.MsFetch || m.Kind == impl.MsRange {
		l.number(m.From, 2, 0, 256)
	}
	switch m.Kind {
	case impl.MsHead, impl.MsVouch, impl.MsAck:
		l.number(m.Size, 2, 0, 256)
		l.text += bytesOf(m.Root)
	case impl.MsProve:
		l.number(m.Size, 2, 0, 256)
	case impl.MsGrowth:
		l.number(m.Size, 2, 0, 256)
		l.number(len(m.Proof), 1, 0, 16)
		for _, d := range m.Proof {
			l.text += bytesOf(d)
		}
	case impl.MsFetch:
		l.number(m.Count, 1, 1, 8)
	case impl.MsRange:
		l.number(len(m.Leaves), 1, 0, 8)
		for _, leaf := range m.Leaves {
			l.number(len(leaf), 1, 0, 40)
			l.text += leaf
		}
	}
	return l
}

// slowFault goes through a text by the layouts alone, and makes no message.
func slowFault(text string) impl.WireFault {
	if text == "" {
		return impl.WireFault{Code: impl.WrShort}
	}
	rest, ok := wireLayouts[int(text[0])]
	if !ok {
		return impl.WireFault{Code: impl.WrKind}
	}
	numbers := map[byte]laidNumber{'S': {width: 3, least: 1, most: 1000000}, 'N': {width: 2, most: 256}, 'C': {width: 1, least: 1, most: 8}, 'P': {width: 1, most: 16}, 'L': {width: 1, most: 8}, 'l': {width: 1, most: 40}}
	at := 1
	for ; rest != ""; rest = rest[1:] {
		n, isNumber := numbers[rest[0]]
		if !isNumber {
			n.width = map[byte]int{'R': 32, 'b': 1}[rest[0]]
		}
		if at+n.width > len(text) {
			return impl.WireFault{Code: impl.WrShort, At: len(text)}
		}
		if isNumber {
			value := int(binary.BigEndian.Uint64([]byte(strings.Repeat("\x00", 8-n.width) + text[at:at+n.width])))
			if value < n.least || value > n.most {
				return impl.WireFault{Code: impl.WrNumber, At: at}
			}
			within := map[byte]string{'P': "R", 'L': "l", 'l': "b"}[rest[0]]
			rest = rest[:1] + strings.Repeat(within, value) + rest[1:]
		}
		at += n.width
	}
	if at < len(text) {
		return impl.WireFault{Code: impl.WrMore, At: at}
	}
	return impl.WireFault{}
}

// sameMessage takes an empty list and none for the same.
func sameMessage(a, b impl.Message) bool {
	return a.Kind == b.Kind && a.Session == b.Session && a.From == b.From && a.Size == b.Size && a.Root == b.Root && a.Count == b.Count && slices.Equal(a.Proof, b.Proof) && slices.Equal(a.Leaves, b.Leaves)
}

func isNothing(m impl.Message) bool {
	return sameMessage(m, impl.Message{})
}

// faulty wants the zero Message and just this fault.
func faulty(t *testing.T, text string, code, at int, what string) {
	t.Helper()
	m, fault := impl.WireRead(text)
	if fault != (impl.WireFault{Code: code, At: at}) {
		t.Errorf("%s: %q is told as %v, not as %d at %d", what, text, fault, code, at)
	}
	if !isNothing(m) {
		t.Errorf("%s: %q: %v beside a fault", what, text, m)
	}
}

func notOk(t *testing.T, m impl.Message, what string) {
	t.Helper()
	if impl.WireOk(m) {
		t.Errorf("%s: kind %d is ok", what, m.Kind)
	}
	if text := impl.WireBytes(m); text != "" {
		t.Errorf("%s: kind %d has the bytes %.60q", what, m.Kind, text)
	}
}

func sessionEdges() []int {
	return []int{1, 2, 255, 256, 258, 65535, 65536, 0x0abcde, impl.WireMaxSession - 1, impl.WireMaxSession}
}

func sizeEdges() []int {
	return []int{0, 1, 2, 7, 128, 255, impl.TreeMaxLeaves}
}

func rootEdges() []impl.Digest {
	return someDigests()[:14]
}

func proofEdges() [][]impl.Digest {
	out := [][]impl.Digest{nil, {{}}, {{}, {}}}
	for many := range impl.WireMaxProof + 1 {
		out = append(out, digestsFrom(many, many))
	}
	return append(out, someDigests()[:impl.WireMaxProof], make([]impl.Digest, impl.WireMaxProof))
}

func leafEdges() [][]string {
	longest := strings.Repeat("z", impl.TreeMaxLeaf)
	out := [][]string{nil, {""}, {"", ""}, {longest}, {longest, "", longest}, {blank, "\x00", "\x08"}, {strings.Repeat(blank, impl.TreeMaxLeaf)}, {"one", "one"}, {"é", "\xc3"}}
	for many := range impl.WireMaxLeaves + 1 {
		out = append(out, someLeaves(many), slices.Repeat([]string{""}, many), slices.Repeat([]string{longest}, many))
	}
	return out
}

// someMessages are ordinary ones of each kind, and their edges.
func someMessages() []impl.Message {
	var out []impl.Message
	for k, session := range sessionEdges() {
		out = append(out, impl.Message{Kind: impl.MsAsk, Session: session})
		for _, kind := range []int{impl.MsHead, impl.MsVouch, impl.MsAck} {
			for _, size := range sizeEdges() {
				out = append(out, impl.Message{Kind: kind, Session: session, Size: size, Root: rootEdges()[k]})
			}
		}
	}
	for _, kind := range []int{impl.MsHead, impl.MsVouch, impl.MsAck} {
		for _, root := range rootEdges() {
			out = append(out, impl.Message{Kind: kind, Session: 77, Size: 5, Root: root})
		}
	}
	for _, from := range sizeEdges() {
		for _, size := range sizeEdges() {
			out = append(out, impl.Message{Kind: impl.MsProve, From: from, Size: size})
			out = append(out, impl.Message{Kind: impl.MsGrowth, From: from, Size: size, Proof: digestsFrom(3, size)})
		}
		for count := 1; count <= impl.WireMaxLeaves; count++ {
			out = append(out, impl.Message{Kind: impl.MsFetch, From: from, Count: count})
		}
		out = append(out, impl.Message{Kind: impl.MsRange, From: from, Leaves: someLeaves(2)})
	}
	for _, proof := range proofEdges() {
		out = append(out, impl.Message{Kind: impl.MsGrowth, From: 3, Size: 256, Proof: proof})
	}
	for _, leaves := range leafEdges() {
		out = append(out, impl.Message{Kind: impl.MsRange, From: 256, Leaves: leaves})
	}
	return out
}

// greatestMessages are those of each kind that have the most bytes.
func greatestMessages() []impl.Message {
	top := ^uint64(0)
	root := impl.Digest{A: top, B: top, C: top, D: top}
	longest := strings.Repeat(blank, impl.TreeMaxLeaf)
	return []impl.Message{
		{Kind: impl.MsAsk, Session: impl.WireMaxSession},
		{Kind: impl.MsHead, Session: impl.WireMaxSession, Size: impl.TreeMaxLeaves, Root: root},
		{Kind: impl.MsVouch, Session: impl.WireMaxSession, Size: impl.TreeMaxLeaves, Root: root},
		{Kind: impl.MsProve, From: impl.TreeMaxLeaves, Size: impl.TreeMaxLeaves},
		{Kind: impl.MsGrowth, From: impl.TreeMaxLeaves, Size: impl.TreeMaxLeaves, Proof: slices.Repeat([]impl.Digest{root}, impl.WireMaxProof)},
		{Kind: impl.MsAck, Session: impl.WireMaxSession, Size: impl.TreeMaxLeaves, Root: root},
		{Kind: impl.MsFetch, From: impl.TreeMaxLeaves, Count: impl.WireMaxLeaves},
		{Kind: impl.MsRange, From: impl.TreeMaxLeaves, Leaves: slices.Repeat([]string{longest}, impl.WireMaxLeaves)},
	}
}

func TestWireLimits(t *testing.T) {
	for name, pair := range map[string][2]int{
		"WireMaxSession": {impl.WireMaxSession, 1000000}, "WireMaxProof": {impl.WireMaxProof, 16}, "WireMaxLeaves": {impl.WireMaxLeaves, 8}, "WireMaxText": {impl.WireMaxText, 600},
	} {
		if pair[0] != pair[1] {
			t.Errorf("%s is %d, not %d", name, pair[0], pair[1])
		}
	}
}

func TestWireNames(t *testing.T) {
	for kind, want := range map[int]string{
		1: "ask", 2: "head", 3: "vouch", 4: "prove", 5: "growth", 6: "ack", 7: "fetch", 8: "range",
		0: "", 9: "", 10: "", -1: "", -8: "", 255: "", 256: "", 257: "", 1<<32 + 1: "", math.MinInt: "", math.MinInt + 1: "", math.MaxInt: "",
	} {
		if got := impl.WireName(kind); got != want {
			t.Errorf("%d is named %q, not %q", kind, got, want)
		}
	}
}

// P15: each kind in bytes that are written out here.
func TestP15Known(t *testing.T) {
	root := impl.Digest{A: 0x0102030405060708, B: 0x1112131415161718, C: 0x2122232425262728, D: 0x3132333435363738}
	inBytes := "\x01\x02\x03\x04\x05\x06\x07\x08\x11\x12\x13\x14\x15\x16\x17\x18\x21\x22\x23\x24\x25\x26\x27\x28\x31\x32\x33\x34\x35\x36\x37\x38"
	none := strings.Repeat("\x00", 32)
	for _, c := range []struct {
		m    impl.Message
		text string
	}{
		{impl.Message{Kind: impl.MsAsk, Session: 1}, "\x01\x00\x00\x01"},
		{impl.Message{Kind: impl.MsAsk, Session: impl.WireMaxSession}, "\x01\x0f\x42\x40"},
		{impl.Message{Kind: impl.MsHead, Session: 258, Size: 5, Root: root}, "\x02\x00\x01\x02\x00\x05" + inBytes},
		{impl.Message{Kind: impl.MsVouch, Session: 0x0a0b0c, Size: 256, Root: root}, "\x03\x0a\x0b\x0c\x01\x00" + inBytes},
		{impl.Message{Kind: impl.MsVouch, Session: 1}, "\x03\x00\x00\x01\x00\x00" + none},
		{impl.Message{Kind: impl.MsProve, From: 3, Size: 256}, "\x04\x00\x03\x01\x00"},
		{impl.Message{Kind: impl.MsProve}, "\x04\x00\x00\x00\x00"},
		{impl.Message{Kind: impl.MsGrowth, From: 1, Size: 2}, "\x05\x00\x01\x00\x02\x00"},
		{impl.Message{Kind: impl.MsGrowth, From: 256, Size: 255, Proof: []impl.Digest{root, {}}}, "\x05\x01\x00\x00\xff\x02" + inBytes + none},
		{impl.Message{Kind: impl.MsAck, Session: 7, Size: 1, Root: root}, "\x06\x00\x00\x07\x00\x01" + inBytes},
		{impl.Message{Kind: impl.MsFetch, From: 9, Count: 8}, "\x07\x00\x09\x08"},
		{impl.Message{Kind: impl.MsRange, From: 256}, "\x08\x01\x00\x00"},
		{impl.Message{Kind: impl.MsRange, From: 3, Leaves: []string{"ab", "", "\xff"}}, "\x08\x00\x03\x03\x02ab\x00\x01\xff"},
	} {
		if got := impl.WireBytes(c.m); got != c.text {
			t.Errorf("%v in bytes is %q, not %q", c.m, got, c.text)
		}
		if got, fault := impl.WireRead(c.text); fault != (impl.WireFault{}) || !sameMessage(got, c.m) {
			t.Errorf("%q is read as %v, %v", c.text, got, fault)
		}
	}
}

// P15: what is ok is written as the document says, and read back.
func TestP15WrittenIsRead(t *testing.T) {
	for _, m := range append(someMessages(), greatestMessages()...) {
		if !impl.WireOk(m) {
			t.Errorf("%v is not ok", m)
		}
		text := impl.WireBytes(m)
		if text != layMessage(m).text {
			t.Errorf("%v in bytes is %q", m, text)
		}
		if got, fault := impl.WireRead(text); fault != (impl.WireFault{}) || !sameMessage(got, m) {
			t.Errorf("%v is read back as %v, %v", m, got, fault)
		}
	}
}

// P15: whatever numbers within their bounds.
func TestP15AllNumbers(t *testing.T) {
	back := func(m impl.Message) {
		t.Helper()
		if got, fault := impl.WireRead(impl.WireBytes(m)); fault != (impl.WireFault{}) || !sameMessage(got, m) {
			t.Fatalf("%v is read back as %v, %v", m, got, fault)
		}
	}
	for session := 1; session <= impl.WireMaxSession; session += 97 {
		back(impl.Message{Kind: impl.MsAsk, Session: session})
	}
	for from := range impl.TreeMaxLeaves + 1 {
		for size := range impl.TreeMaxLeaves + 1 {
			back(impl.Message{Kind: impl.MsProve, From: from, Size: size})
		}
	}
	for length := range impl.TreeMaxLeaf + 1 {
		back(impl.Message{Kind: impl.MsRange, Leaves: []string{strings.Repeat("q", length), "end"}})
	}
}

// readAsWritten holds WireRead against slowFault, and what is read against what is written.
func readAsWritten(t *testing.T, text string) bool {
	t.Helper()
	want := slowFault(text)
	if want != (impl.WireFault{}) {
		faulty(t, text, want.Code, want.At, "any text")
		return false
	}
	m, fault := impl.WireRead(text)
	if fault != want {
		t.Errorf("%q is told as %v", text, fault)
	}
	if !impl.WireOk(m) || impl.WireBytes(m) != text {
		t.Errorf("%q is read as %v, and written as %q", text, m, impl.WireBytes(m))
	}
	return true
}

// P15: all short texts of few signs.
func TestP15ShortTexts(t *testing.T) {
	for first := range 256 {
		readAsWritten(t, string([]byte{byte(first)}))
		for second := range 256 {
			readAsWritten(t, string([]byte{byte(first), byte(second)}))
		}
	}
	const signs = "\x00\x01\x02\x08\x09\xff"
	read := 0
	texts := []string{""}
	for range 5 {
		var longer []string
		for _, text := range texts {
			for k := range len(signs) {
				longer = append(longer, text+signs[k:k+1])
			}
		}
		texts = longer
		for kind := range 10 {
			for _, text := range texts {
				if readAsWritten(t, string([]byte{byte(kind)})+text) {
					read++
				}
			}
		}
	}
	if read == 0 {
		t.Error("none was read")
	}
}

// changed turns some bytes of a text into others, and cuts it or makes it longer now and then.
func changed(r *rand.Rand, text string) string {
	out := []byte(text)
	for range r.IntN(3) {
		out[r.IntN(len(out))] = byte(r.UintN(256)) >> r.UintN(8)
	}
	switch r.IntN(6) {
	case 0:
		out = out[:r.IntN(len(out)+1)]
	case 1:
		out = append(out, randomText(r, r.IntN(4))...)
	}
	return string(out)
}

// P15: messages of which some bytes are changed.
func TestP15ChangedTexts(t *testing.T) {
	r := newRand()
	read, codes := 0, map[int]int{}
	all := someMessages()
	for range 60000 {
		text := changed(r, layMessage(all[r.IntN(len(all))]).text)
		if readAsWritten(t, text) {
			read++
		}
		codes[slowFault(text).Code]++
	}
	if read == 0 || len(codes) != 5 {
		t.Errorf("%d were read; faults %v: not all were met", read, codes)
	}
}

// wrongNumbers are out of the bounds; some have the low bytes of a number that is within.
func wrongNumbers(least, most int) []int {
	return []int{least - 1, most + 1, -1, -most, math.MinInt, math.MinInt + 1, math.MaxInt, 1<<8 + most, 1<<16 + most, 1<<24 + most, 1<<32 + most, -1<<32 + most, math.MinInt + most}
}

// P15: a number out of its bounds.
func TestP15WrongNumbers(t *testing.T) {
	for _, c := range []struct {
		part  string
		kinds []int
		least int
		most  int
		set   func(*impl.Message, int)
	}{
		{"Session", []int{impl.MsAsk, impl.MsHead, impl.MsVouch, impl.MsAck}, 1, 1000000, func(m *impl.Message, v int) { m.Session = v }},
		{"From", []int{impl.MsProve, impl.MsGrowth, impl.MsFetch, impl.MsRange}, 0, 256, func(m *impl.Message, v int) { m.From = v }},
		{"Size", []int{impl.MsHead, impl.MsVouch, impl.MsProve, impl.MsGrowth, impl.MsAck}, 0, 256, func(m *impl.Message, v int) { m.Size = v }},
		{"Count", []int{impl.MsFetch}, 1, 8, func(m *impl.Message, v int) { m.Count = v }},
	} {
		for _, kind := range c.kinds {
			for _, base := range messagesOf(kind) {
				m := base
				for _, value := range []int{c.least, c.most} {
					c.set(&m, value)
					if !impl.WireOk(m) || impl.WireBytes(m) != layMessage(m).text {
						t.Errorf("%s %d: kind %d is not ok", c.part, value, kind)
					}
				}
				for _, value := range wrongNumbers(c.least, c.most) {
					if value >= c.least && value <= c.most {
						continue
					}
					c.set(&m, value)
					notOk(t, m, c.part)
				}
			}
		}
	}
}

// messagesOf are some messages of a kind: an ordinary one and the greatest.
func messagesOf(kind int) []impl.Message {
	for _, m := range someMessages() {
		if m.Kind == kind {
			return []impl.Message{m, greatestMessages()[kind-1]}
		}
	}
	return nil
}

// P15: what is no kind, with all that a message may have, and with nothing.
func TestP15WrongKinds(t *testing.T) {
	for _, kind := range []int{0, 9, 10, -1, -2, -8, 255, 256, 257, 264, 1<<32 + 1, math.MinInt, math.MinInt + 1, math.MaxInt} {
		notOk(t, impl.Message{Kind: kind}, "a kind alone")
		for _, m := range greatestMessages() {
			m.Kind = kind
			notOk(t, m, "another kind")
		}
	}
}

// P15: lists that are too long.
func TestP15WrongLists(t *testing.T) {
	for _, many := range []int{impl.WireMaxProof + 1, impl.WireMaxProof + 2, 255, 256, 257, 272, 70000} {
		notOk(t, impl.Message{Kind: impl.MsGrowth, From: 1, Size: 2, Proof: make([]impl.Digest, many)}, "too many digests")
	}
	for _, many := range []int{impl.WireMaxLeaves + 1, impl.WireMaxLeaves + 2, 255, 256, 257, 264, 70000} {
		notOk(t, impl.Message{Kind: impl.MsRange, From: 1, Leaves: make([]string, many)}, "too many leaves")
	}
	for _, length := range []int{impl.TreeMaxLeaf + 1, 255, 256, 257, 296, 70000} {
		for many := 1; many <= impl.WireMaxLeaves; many++ {
			for at := range many {
				leaves := someLeaves(many)
				leaves[at] = strings.Repeat("l", length)
				notOk(t, impl.Message{Kind: impl.MsRange, From: 1, Leaves: leaves}, "a leaf that is too long")
			}
		}
	}
}

// foreignPart makes a part of a message something else than nothing.
type foreignPart struct {
	name  string
	owned string
	set   func(*impl.Message)
}

func foreignParts() []foreignPart {
	out := []foreignPart{
		{"Root.A", "R", func(m *impl.Message) { m.Root.A = 1 }},
		{"Root.B", "R", func(m *impl.Message) { m.Root.B = 1 << 63 }},
		{"Root.C", "R", func(m *impl.Message) { m.Root.C = 1 }},
		{"Root.D", "R", func(m *impl.Message) { m.Root.D = 1 }},
		{"Proof of one zero digest", "P", func(m *impl.Message) { m.Proof = []impl.Digest{{}} }},
		{"Proof of sixteen", "P", func(m *impl.Message) { m.Proof = digestsFrom(impl.WireMaxProof, 1) }},
		{"Proof of too many", "P", func(m *impl.Message) { m.Proof = digestsFrom(impl.WireMaxProof+1, 1) }},
		{"Leaves of one empty leaf", "L", func(m *impl.Message) { m.Leaves = []string{""} }},
		{"Leaves of eight", "L", func(m *impl.Message) { m.Leaves = someLeaves(impl.WireMaxLeaves) }},
		{"Leaves of too many", "L", func(m *impl.Message) { m.Leaves = someLeaves(impl.WireMaxLeaves + 1) }},
	}
	for _, value := range []int{1, 8, 256, 1000000, -1, 1 << 24, 1 << 32, math.MinInt, math.MaxInt} {
		out = append(out,
			foreignPart{"Session", "S", func(m *impl.Message) { m.Session = value }},
			foreignPart{"From", "F", func(m *impl.Message) { m.From = value }},
			foreignPart{"Size", "Z", func(m *impl.Message) { m.Size = value }},
			foreignPart{"Count", "C", func(m *impl.Message) { m.Count = value }},
		)
	}
	return out
}

// P15: a part that the kind does not have must be nothing.
func TestP15ForeignParts(t *testing.T) {
	owned := map[int]string{impl.MsAsk: "S", impl.MsHead: "SZR", impl.MsVouch: "SZR", impl.MsProve: "FZ", impl.MsGrowth: "FZP", impl.MsAck: "SZR", impl.MsFetch: "FC", impl.MsRange: "FL"}
	for kind := kindsLeast; kind <= kindsMost; kind++ {
		for _, base := range messagesOf(kind) {
			for _, part := range foreignParts() {
				if strings.Contains(owned[kind], part.owned) {
					continue
				}
				m := base
				part.set(&m)
				notOk(t, m, part.name)
			}
		}
	}
}

// P15: an empty list is no list, in a part that the kind has and in one that it has not.
func TestP15EmptyLists(t *testing.T) {
	for _, m := range someMessages() {
		text := impl.WireBytes(m)
		if len(m.Proof) == 0 {
			m.Proof = make([]impl.Digest, 0, 3)
		}
		if len(m.Leaves) == 0 {
			m.Leaves = []string{}
		}
		if !impl.WireOk(m) || impl.WireBytes(m) != text {
			t.Errorf("%v with empty lists is %v, %q", m, impl.WireOk(m), impl.WireBytes(m))
		}
	}
}

// P16: how many bytes the greatest message of each kind has; all others have fewer.
func TestP16EveryMessageFits(t *testing.T) {
	most := map[int]int{impl.MsAsk: 4, impl.MsHead: 38, impl.MsVouch: 38, impl.MsProve: 5, impl.MsGrowth: 518, impl.MsAck: 38, impl.MsFetch: 4, impl.MsRange: 332}
	for _, m := range greatestMessages() {
		if got := len(impl.WireBytes(m)); got != most[m.Kind] || got > impl.WireMaxText {
			t.Errorf("the greatest message of kind %d has %d bytes", m.Kind, got)
		}
	}
	for _, m := range someMessages() {
		if got := len(impl.WireBytes(m)); got == 0 || got > most[m.Kind] || got > impl.WireMaxText {
			t.Errorf("%v has %d bytes", m, got)
		}
	}
}

// P16: a message that would have more bytes is none, and no text of more bytes is read.
func TestP16NothingLonger(t *testing.T) {
	for many := range 40 {
		text := impl.WireBytes(impl.Message{Kind: impl.MsGrowth, Proof: make([]impl.Digest, many)})
		if len(text) > impl.WireMaxText || (text != "") != (many <= impl.WireMaxProof) {
			t.Errorf("%d digests: %d bytes", many, len(text))
		}
		laid := "\x05\x00\x00\x00\x00" + numberBytes(many, 1) + strings.Repeat("\x00", 32*many)
		if _, fault := impl.WireRead(laid); (fault == impl.WireFault{}) != (many <= impl.WireMaxProof) {
			t.Errorf("%d digests in bytes: %v", many, fault)
		}
	}
	for kind := range 256 {
		for _, sign := range []string{"\x00", "\x01", "\x08", blank} {
			for _, size := range []int{impl.WireMaxText, impl.WireMaxText + 1, 70000} {
				text := string([]byte{byte(kind)}) + strings.Repeat(sign, size-1)
				if readAsWritten(t, text) {
					t.Errorf("%d bytes %q of kind %d are read", size, sign, kind)
				}
			}
		}
	}
}

// P16: at every two sizes; and the proof goes through a message.
func TestP16GrowthsFit(t *testing.T) {
	leaves := someLeaves(impl.TreeMaxLeaves)
	for n := range impl.TreeMaxLeaves + 1 {
		for m := range n + 1 {
			length := impl.GrowthLen(m, n)
			if length < 0 || length > impl.WireMaxProof || length != len(proofNodes(m, n)) {
				t.Errorf("from %d to %d: %d digests", m, n, length)
			}
			message := impl.Message{Kind: impl.MsGrowth, From: m, Size: n, Proof: make([]impl.Digest, length)}
			if got, fault := impl.WireRead(impl.WireBytes(message)); fault != (impl.WireFault{}) || !sameMessage(got, message) {
				t.Errorf("from %d to %d: no message, %v", m, n, fault)
			}
		}
	}
	for _, n := range []int{1, 2, 255, impl.TreeMaxLeaves} {
		for m := range n + 1 {
			proof, ok := impl.GrowthOf(leaves[:n], m)
			if !ok || len(proof) > impl.WireMaxProof {
				t.Errorf("from %d to %d: %d digests", m, n, len(proof))
			}
			message := impl.Message{Kind: impl.MsGrowth, From: m, Size: n, Proof: proof}
			got, fault := impl.WireRead(impl.WireBytes(message))
			if fault != (impl.WireFault{}) || impl.GrowthCheck(impl.TreePoint(leaves[:m]), impl.TreePoint(leaves[:n]), got.Proof) != 0 {
				t.Errorf("from %d to %d: the proof does not come through a message, %v", m, n, fault)
			}
		}
	}
}

// P17: each beginning ends too early, at its end.
func TestP17Beginnings(t *testing.T) {
	for _, m := range append(someMessages(), greatestMessages()...) {
		text := impl.WireBytes(m)
		if text == "" {
			t.Fatalf("%v has no bytes", m)
		}
		for end := range len(text) {
			faulty(t, text[:end], impl.WrShort, end, "a beginning")
		}
	}
}

// P17: with more behind it there is too much, at the first byte of that.
func TestP17More(t *testing.T) {
	for _, m := range append(someMessages(), greatestMessages()...) {
		text := impl.WireBytes(m)
		if text == "" {
			t.Fatalf("%v has no bytes", m)
		}
		for _, more := range []string{"\x00", "\x01", "\x08", "\x09", blank, "ab", strings.Repeat("\x00", 32), strings.Repeat(blank, 1000), text, text + text} {
			faulty(t, text+more, impl.WrMore, len(text), "a longer one")
		}
	}
	for sign := range 256 {
		for _, m := range greatestMessages() {
			text := impl.WireBytes(m)
			faulty(t, text+string([]byte{byte(sign)}), impl.WrMore, len(text), "a byte more")
		}
	}
}

// P17: no text, and a first byte that is no kind, alone and with anything behind it.
func TestP17NoKind(t *testing.T) {
	faulty(t, "", impl.WrShort, 0, "no text")
	for first := range 256 {
		begin := string([]byte{byte(first)})
		if first >= kindsLeast && first <= kindsMost {
			faulty(t, begin, impl.WrShort, 1, "a kind alone")
			continue
		}
		faulty(t, begin, impl.WrKind, 0, "no kind")
		for _, m := range greatestMessages() {
			text := impl.WireBytes(m)
			for _, rest := range []string{text[1:], text, text[1:] + "\x00", text[1 : len(text)-1], "\x00", strings.Repeat("\x00", 1000)} {
				faulty(t, begin+rest, impl.WrKind, 0, "no kind")
			}
		}
	}
}

// wrongLaid are the bytes of numbers that are out of the bounds, as far as so many bytes can tell.
func wrongLaid(n laidNumber) []string {
	top := 1<<(8*n.width) - 1
	var out []string
	for _, value := range []int{n.least - 1, n.most + 1, n.most + 2, top - 1, top, top/2 + 1, 1<<(8*n.width-1) + n.most} {
		if value >= 0 && value <= top && (value < n.least || value > n.most) {
			out = append(out, numberBytes(value, n.width))
		}
	}
	return out
}

// P17: a number out of its bounds is told at its first byte, as soon as all its bytes are there, whatever is behind it.
func TestP17WrongNumbers(t *testing.T) {
	for _, m := range append(someMessages(), greatestMessages()...) {
		laid := layMessage(m)
		for _, n := range laid.numbers {
			begin, rest := laid.text[:n.at], laid.text[n.at+n.width:]
			for _, wrong := range wrongLaid(n) {
				for _, behind := range []string{"", rest, rest + "\x00", rest + laid.text, "\x00", blank} {
					faulty(t, begin+wrong+behind, impl.WrNumber, n.at, "a number out of its bounds")
				}
				if rest != "" {
					faulty(t, begin+wrong+rest[:len(rest)-1], impl.WrNumber, n.at, "a number out of its bounds, cut behind it")
				}
				for lacking := 1; lacking <= n.width; lacking++ {
					cut := begin + wrong[:n.width-lacking]
					faulty(t, cut, impl.WrShort, len(cut), "a number that is cut")
				}
			}
		}
	}
}

// P17: of two numbers that are out of their bounds the first is told, also when the text ends within the second.
func TestP17FirstNumber(t *testing.T) {
	for _, m := range append(someMessages(), greatestMessages()...) {
		laid := layMessage(m)
		for a, first := range laid.numbers {
			for _, second := range laid.numbers[a+1:] {
				wrong := wrongLaid(second)[0]
				text := laid.text[:first.at] + wrongLaid(first)[0] + laid.text[first.at+first.width:second.at] + wrong
				for _, one := range []string{text, text[:len(text)-1], text + laid.text[second.at+second.width:], text + "more"} {
					faulty(t, one, impl.WrNumber, first.at, "two numbers out of their bounds")
				}
			}
		}
	}
}

// P17: edges written out.
func TestP17Known(t *testing.T) {
	leaf := strings.Repeat("z", 40)
	for _, c := range []struct {
		text     string
		code, at int
	}{
		{"\x01\x00\x00\x00", impl.WrNumber, 1},
		{"\x01\x0f\x42\x41", impl.WrNumber, 1},
		{"\x01\x0f\x42\x41\x00", impl.WrNumber, 1},
		{"\x01\x0f\x42\x40\x00", impl.WrMore, 4},
		{"\x01\xff\xff", impl.WrShort, 3},
		{"\x02\x00\x00\x01\x01\x01", impl.WrNumber, 4},
		{"\x02\x00\x00\x01\x01", impl.WrShort, 5},
		{"\x04\x01\x01\x01\x01", impl.WrNumber, 1},
		{"\x04\x01\x00\x01\x01", impl.WrNumber, 3},
		{"\x05\x00\x00\x00\x00\x11", impl.WrNumber, 5},
		{"\x05\x00\x00\x00\x00\x10", impl.WrShort, 6},
		{"\x05\x00\x00\x00\x00\x00\x00", impl.WrMore, 6},
		{"\x07\x00\x00\x00", impl.WrNumber, 3},
		{"\x07\x00\x00\x09", impl.WrNumber, 3},
		{"\x07\x00\x00\x08\x00", impl.WrMore, 4},
		{"\x08\x00\x00\x09", impl.WrNumber, 3},
		{"\x08\x00\x00\x08", impl.WrShort, 4},
		{"\x08\x00\x00\x00\x00", impl.WrMore, 4},
		{"\x08\x00\x00\x01\x29", impl.WrNumber, 4},
		{"\x08\x00\x00\x01\x29" + leaf + "z", impl.WrNumber, 4},
		{"\x08\x00\x00\x01\x28" + leaf[1:], impl.WrShort, 44},
		{"\x08\x00\x00\x01\x28" + leaf + "z", impl.WrMore, 45},
		{"\x08\x00\x00\x02\x28" + leaf, impl.WrShort, 45},
		{"\x08\x00\x00\x02\x28" + leaf + "\x29", impl.WrNumber, 45},
	} {
		faulty(t, c.text, c.code, c.at, "known")
	}
}

// The lists of a message lie ahead of marks: neither they nor the marks are written over.
func TestWireWritesNoArgument(t *testing.T) {
	for _, base := range append(someMessages(), greatestMessages()...) {
		m := base
		var allProof []impl.Digest
		var allLeaves []string
		m.Proof, allProof = withRoom(base.Proof, impl.Digest{A: 99})
		m.Leaves, allLeaves = withRoom(base.Leaves, "mark")
		proofAhead, leavesAhead := slices.Clone(allProof), slices.Clone(allLeaves)
		impl.WireOk(m)
		impl.WireBytes(m)
		if !sameMessage(m, base) || !slices.Equal(allProof, proofAhead) || !slices.Equal(allLeaves, leavesAhead) {
			t.Errorf("%v is written into", base)
		}
	}
}

// textOver is a text whose bytes can be written over.
func textOver(bytes []byte) string {
	return unsafe.String(unsafe.SliceData(bytes), len(bytes))
}

// What was read stays when the text is written over; what was written stays when the leaves are.
func TestWireAnswersAreNewMemory(t *testing.T) {
	for _, m := range append(someMessages(), greatestMessages()...) {
		laid := layMessage(m).text
		memory := []byte(laid)
		got, fault := impl.WireRead(textOver(memory))
		clear(memory)
		if fault != (impl.WireFault{}) || !sameMessage(got, m) {
			t.Errorf("%v was read, and is %v when the text is written over", m, got)
		}
		over := m
		over.Leaves, over.Proof = nil, slices.Clone(m.Proof)
		var leaves [][]byte
		for _, leaf := range m.Leaves {
			leaves = append(leaves, []byte(leaf))
			over.Leaves = append(over.Leaves, textOver(leaves[len(leaves)-1]))
		}
		text := impl.WireBytes(over)
		clear(over.Proof)
		for _, leaf := range leaves {
			clear(leaf)
		}
		if text != laid {
			t.Errorf("%v was written, and is %q when it is written over", m, text)
		}
	}
}

// Two answers to one text are written over, spare room included: neither is to be seen in the other.
func TestWireListsAreNewMemory(t *testing.T) {
	for _, m := range append(someMessages(), greatestMessages()...) {
		text := layMessage(m).text
		first, _ := impl.WireRead(text)
		second, _ := impl.WireRead(text)
		scribble(first.Proof)
		spare := first.Leaves[:cap(first.Leaves)]
		for k := range spare {
			spare[k] = "scribbled"
		}
		if !sameMessage(second, m) {
			t.Errorf("%v is %v when another answer is written over", m, second)
		}
		if third, _ := impl.WireRead(text); !sameMessage(third, m) {
			t.Errorf("%v is read as %v when another answer was written over", m, third)
		}
	}
}
