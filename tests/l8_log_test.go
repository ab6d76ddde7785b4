package tests

import (
	"fmt"
	"math"
	"math/rand/v2"
	"slices"
	"strings"
	"testing"

	"loop.example/belfry/impl"
)

// slowLog answers by the document's words; its book may know more leaves than it has.
type slowLog struct {
	leaves []string
	book   rootBook
}

func newSlowLog(leaves []string) slowLog {
	return slowLog{leaves: leaves, book: newRootBook(leaves)}
}

// first is the log when it had so many leaves.
func (s slowLog) first(n int) slowLog {
	return slowLog{leaves: s.leaves[:n], book: s.book}
}

func (s slowLog) log() impl.Log {
	return impl.Log{Leaves: s.leaves}
}

// answer is for messages that are ok.
func (s slowLog) answer(m impl.Message) (impl.Message, bool) {
	n := len(s.leaves)
	switch {
	case m.Kind == 1:
		return impl.Message{Kind: 2, Session: m.Session, Size: n, Root: s.book.point(n).Root}, true
	case m.Kind == 4 && m.From <= m.Size && m.Size <= n:
		return impl.Message{Kind: 5, From: m.From, Size: m.Size, Proof: s.book.growth(m.From, m.Size)}, true
	case m.Kind == 7 && m.From < n:
		return impl.Message{Kind: 8, From: m.From, Leaves: s.leaves[m.From:min(m.From+m.Count, n)]}, true
	}
	return impl.Message{}, false
}

// hear is for letters that are ok, with the bytes of a message.
func (s slowLog) hear(from int, m impl.Message) (impl.Letter, bool) {
	answer, ok := s.answer(m)
	if !ok {
		return impl.Letter{}, false
	}
	return impl.Letter{From: 0, To: from, Text: layMessage(answer).text}, true
}

func (s slowLog) add(leaf string) (impl.Log, bool) {
	if len(s.leaves) >= 256 || len(leaf) > 40 {
		return s.log(), false
	}
	return impl.Log{Leaves: append(slices.Clone(s.leaves), leaf)}, true
}

// sameLog takes an empty list and none for the same.
func sameLog(a, b impl.Log) bool {
	return slices.Equal(a.Leaves, b.Leaves)
}

func askOf(session int) impl.Message {
	return impl.Message{Kind: impl.MsAsk, Session: session}
}

func proveOf(from, size int) impl.Message {
	return impl.Message{Kind: impl.MsProve, From: from, Size: size}
}

func fetchOf(from, count int) impl.Message {
	return impl.Message{Kind: impl.MsFetch, From: from, Count: count}
}

// logSizes are the edges of a log's size.
func logSizes() []int {
	return []int{0, 1, 2, 3, 7, 8, 9, 16, 100, 128, 129, 254, 255, 256}
}

// aroundSize are numbers of leaves around so many, as far as a message can have them.
func aroundSize(n int) []int {
	var out []int
	for _, one := range []int{0, 1, 2, n / 2, n - 9, n - 8, n - 7, n - 2, n - 1, n, n + 1, n + 2, 255, 256} {
		if one >= 0 && one <= 256 && !slices.Contains(out, one) {
			out = append(out, one)
		}
	}
	return out
}

// questionsTo are messages of the three kinds that a log of n leaves may answer; some ask for more than there is.
func questionsTo(n int) []impl.Message {
	var out []impl.Message
	for _, session := range sessionEdges() {
		out = append(out, askOf(session))
	}
	for _, from := range aroundSize(n) {
		for _, size := range aroundSize(n) {
			out = append(out, proveOf(from, size))
		}
		for count := 1; count <= impl.WireMaxLeaves; count++ {
			out = append(out, fetchOf(from, count))
		}
	}
	return out
}

// edgeLogs are ordinary logs, and those with leaves at their bounds.
func edgeLogs() []slowLog {
	full := strings.Repeat("a", longLeaf)
	out := []slowLog{
		newSlowLog(make([]string, mostLeaves)),
		newSlowLog(slices.Repeat([]string{full}, mostLeaves)),
		newSlowLog([]string{"", full, ""}),
		newSlowLog([]string{strings.Repeat(blank, longLeaf), blank, "", "\x00", "é", "\xc3"}),
		newSlowLog(slices.Repeat([]string{"one"}, 11)),
	}
	all := newSlowLog(someLeaves(mostLeaves))
	for _, n := range logSizes() {
		out = append(out, all.first(n))
	}
	return out
}

// wrongLogs are those of which the leaves are not ok.
func wrongLogs() map[string]impl.Log {
	out := map[string]impl.Log{}
	for name, leaves := range wrongLeaves() {
		out[name] = impl.Log{Leaves: leaves}
	}
	return out
}

// answersAs holds what is answered to a message, and to the letter with it, against the slow ways.
func answersAs(s slowLog, m impl.Message) error {
	want, wantOk := s.answer(m)
	if got, ok := impl.LogAnswer(s.log(), m); ok != wantOk || !sameMessage(got, want) {
		return fmt.Errorf("%d leaves: to %v is answered %v, %v, not %v, %v", len(s.leaves), m, got, ok, want, wantOk)
	}
	wantLetter, _ := s.hear(9, m)
	got, ok := impl.LogHear(s.log(), impl.Letter{From: 9, Text: layMessage(m).text})
	if ok != wantOk || got != wantLetter {
		return fmt.Errorf("%d leaves: to the letter with %v comes %v, %v", len(s.leaves), m, got, ok)
	}
	return nil
}

// silent wants no answer to a message, and none to the letter with its bytes.
func silent(t *testing.T, l impl.Log, m impl.Message, what string) {
	t.Helper()
	if got, ok := impl.LogAnswer(l, m); ok || !isNothing(got) {
		t.Errorf("%s: %d leaves: to kind %d is answered %v, %v", what, len(l.Leaves), m.Kind, got, ok)
	}
	deaf(t, l, impl.Letter{From: 1, Text: impl.WireBytes(m)}, what)
}

func deaf(t *testing.T, l impl.Log, in impl.Letter, what string) {
	t.Helper()
	if got, ok := impl.LogHear(l, in); ok || got != (impl.Letter{}) {
		t.Errorf("%s: %d leaves: to %.60q from %d to %d comes %.60v, %v", what, len(l.Leaves), in.Text, in.From, in.To, got, ok)
	}
}

// P24, P25: answers written out.
func TestP24Known(t *testing.T) {
	l := impl.Log{Leaves: []string{"a", "b", "c"}}
	a, b, c := slowHash("\x00a"), slowHash("\x00b"), slowHash("\x00c")
	ab := pairOf(a, b)
	for _, one := range []struct{ question, answer impl.Message }{
		{impl.Message{Kind: 1, Session: 4}, impl.Message{Kind: 2, Session: 4, Size: 3, Root: pairOf(ab, c)}},
		{impl.Message{Kind: 4, From: 0, Size: 0}, impl.Message{Kind: 5}},
		{impl.Message{Kind: 4, From: 0, Size: 3}, impl.Message{Kind: 5, Size: 3}},
		{impl.Message{Kind: 4, From: 1, Size: 2}, impl.Message{Kind: 5, From: 1, Size: 2, Proof: []impl.Digest{a, b}}},
		{impl.Message{Kind: 4, From: 1, Size: 3}, impl.Message{Kind: 5, From: 1, Size: 3, Proof: []impl.Digest{a, b, c}}},
		{impl.Message{Kind: 4, From: 2, Size: 3}, impl.Message{Kind: 5, From: 2, Size: 3, Proof: []impl.Digest{ab, c}}},
		{impl.Message{Kind: 4, From: 3, Size: 3}, impl.Message{Kind: 5, From: 3, Size: 3}},
		{impl.Message{Kind: 7, From: 0, Count: 1}, impl.Message{Kind: 8, Leaves: []string{"a"}}},
		{impl.Message{Kind: 7, From: 1, Count: 8}, impl.Message{Kind: 8, From: 1, Leaves: []string{"b", "c"}}},
		{impl.Message{Kind: 7, From: 2, Count: 1}, impl.Message{Kind: 8, From: 2, Leaves: []string{"c"}}},
	} {
		if got, ok := impl.LogAnswer(l, one.question); !ok || !sameMessage(got, one.answer) {
			t.Errorf("to %v is answered %v, %v, not %v", one.question, got, ok, one.answer)
		}
	}
	in := impl.Letter{From: 7, To: 3, Text: "\x07\x00\x01\x02"}
	want := impl.Letter{From: 0, To: 7, Text: "\x08\x00\x01\x02\x01b\x01c"}
	if got, ok := impl.LogHear(l, in); !ok || got != want {
		t.Errorf("to a letter comes %v, %v", got, ok)
	}
}

// P24: a head tells the log's point, in the session that asked.
func TestP24Heads(t *testing.T) {
	all := newSlowLog(someLeaves(mostLeaves))
	for n := range mostLeaves + 1 {
		s := all.first(n)
		for _, session := range []int{1, 2, 77, impl.WireMaxSession - 1, impl.WireMaxSession} {
			if err := answersAs(s, askOf(session)); err != nil {
				t.Fatal(err)
			}
		}
		head, ok := impl.LogAnswer(s.log(), askOf(5))
		if told := (impl.Point{Size: head.Size, Root: head.Root}); !ok || told != impl.TreePoint(s.leaves) {
			t.Errorf("%d leaves: the head tells %v, %v", n, told, ok)
		}
	}
	if head, ok := impl.LogAnswer(impl.Log{}, askOf(1)); !ok || head.Size != 0 || head.Root != slowHash("") {
		t.Errorf("the head of a log without leaves is %v, %v", head, ok)
	}
}

// proves wants that a growth is answered, and taken between the two points.
func proves(s slowLog, from, size int) error {
	if err := answersAs(s, proveOf(from, size)); err != nil {
		return err
	}
	growth, ok := impl.LogAnswer(s.log(), proveOf(from, size))
	if !ok {
		return fmt.Errorf("%d leaves: no growth from %d to %d", len(s.leaves), from, size)
	}
	if code := impl.GrowthCheck(s.book.point(from), s.book.point(size), growth.Proof); code != 0 {
		return fmt.Errorf("%d leaves: the growth from %d to %d is refused: %d", len(s.leaves), from, size, code)
	}
	return nil
}

// P24: every growth of a small log, and those of the greatest logs at the edges.
func TestP24Growths(t *testing.T) {
	all := newSlowLog(someLeaves(mostLeaves))
	for n := range 25 {
		for size := range n + 1 {
			for from := range size + 1 {
				if err := proves(all.first(n), from, size); err != nil {
					t.Fatal(err)
				}
			}
		}
	}
	for _, n := range []int{128, 129, 254, 255, 256} {
		for _, size := range append(edgePlaces(n), n) {
			for _, from := range append(edgePlaces(size), size) {
				if err := proves(all.first(n), from, size); err != nil {
					t.Fatal(err)
				}
			}
		}
	}
}

// P24: leaves of 0 and of 40 bytes, alike ones and bytes 255.
func TestP24EdgeLeaves(t *testing.T) {
	for _, s := range edgeLogs() {
		n := len(s.leaves)
		for _, size := range []int{0, 1, n / 2, n - 1, n} {
			for _, from := range []int{0, 1, size / 2, size - 1, size} {
				if from < 0 || from > size || size > n {
					continue
				}
				if err := proves(s, from, size); err != nil {
					t.Error(err)
				}
			}
		}
	}
}

// P24: what was not grown is not proved: more than there is, or backwards.
func TestP24NoGrowth(t *testing.T) {
	all := newSlowLog(someLeaves(mostLeaves))
	for n := range mostLeaves + 1 {
		l := all.first(n).log()
		for _, size := range aroundSize(n) {
			for _, from := range append(aroundSize(size), aroundSize(n)...) {
				if from > size || size > n {
					silent(t, l, proveOf(from, size), fmt.Sprint("from ", from, " to ", size))
				}
			}
		}
	}
}

// P25: the leaves from each place on, as many as are asked for, fewer at the end.
func TestP25Ranges(t *testing.T) {
	all := newSlowLog(someLeaves(mostLeaves))
	for _, n := range logSizes() {
		s := all.first(n)
		for from := range n {
			for count := 1; count <= impl.WireMaxLeaves; count++ {
				if err := answersAs(s, fetchOf(from, count)); err != nil {
					t.Fatal(err)
				}
				got, _ := impl.LogAnswer(s.log(), fetchOf(from, count))
				if many := len(got.Leaves); many < 1 || many > count || many != min(count, n-from) {
					t.Fatalf("%d leaves: %d are told from %d on, asked for %d", n, many, from, count)
				}
			}
		}
	}
}

// P25: behind the end there is nothing.
func TestP25BehindTheEnd(t *testing.T) {
	all := newSlowLog(someLeaves(mostLeaves))
	for n := range mostLeaves + 1 {
		for _, from := range []int{n, n + 1, n + 2, 255, 256} {
			for _, count := range []int{1, 2, impl.WireMaxLeaves} {
				if from >= n && from <= 256 {
					silent(t, all.first(n).log(), fetchOf(from, count), fmt.Sprint("a fetch from ", from))
				}
			}
		}
	}
}

// P25: fetched one behind the other the ranges are the log's leaves.
func TestP25Whole(t *testing.T) {
	for _, s := range edgeLogs() {
		for count := 1; count <= impl.WireMaxLeaves; count++ {
			var got []string
			for {
				told, ok := impl.LogAnswer(s.log(), fetchOf(len(got), count))
				if !ok {
					break
				}
				got = append(got, told.Leaves...)
			}
			if !slices.Equal(got, s.leaves) {
				t.Errorf("%d leaves: %d were fetched, by %d", len(s.leaves), len(got), count)
			}
		}
	}
}

// P26: an answer is ok, and fits into a letter.
func TestP26AnswersFit(t *testing.T) {
	for _, s := range edgeLogs() {
		answered := 0
		for _, m := range questionsTo(len(s.leaves)) {
			if err := answersAs(s, m); err != nil {
				t.Fatal(err)
			}
			answer, ok := impl.LogAnswer(s.log(), m)
			if !ok {
				continue
			}
			answered++
			text := impl.WireBytes(answer)
			if !impl.WireOk(answer) || text == "" || len(text) > impl.WireMaxText {
				t.Errorf("%d leaves: the answer to %v does not fit, it has %d bytes", len(s.leaves), m, len(text))
			}
			out, ok := impl.LogHear(s.log(), impl.Letter{From: 20, Text: impl.WireBytes(m)})
			if !ok || !impl.LetterOk(out) || out.Text != text {
				t.Errorf("%d leaves: the letter to %v does not fit", len(s.leaves), m)
			}
		}
		if answered < len(sessionEdges()) {
			t.Errorf("%d leaves: only %d answers", len(s.leaves), answered)
		}
	}
}

// P26: no growth has too many digests, whatever its sizes; the longest is answered.
func TestP26LongestProof(t *testing.T) {
	most := 0
	for n := range mostLeaves + 1 {
		for m := range n + 1 {
			length := impl.GrowthLen(m, n)
			if length < 0 || length > impl.WireMaxProof {
				t.Errorf("from %d to %d: %d digests", m, n, length)
			}
			most = max(most, length)
		}
	}
	s := newSlowLog(someLeaves(mostLeaves))
	found := 0
	for n := range mostLeaves + 1 {
		for m := range n + 1 {
			if impl.GrowthLen(m, n) < most || found > 20 {
				continue
			}
			found++
			if err := proves(s, m, n); err != nil {
				t.Error(err)
			}
		}
	}
	if found == 0 {
		t.Error("no longest proof was met")
	}
}

// P26: a log with more leaves proves what it proved, and tells the same leaves where they were not at its end.
func TestP26StaysTrue(t *testing.T) {
	all := newSlowLog(someLeaves(mostLeaves))
	for _, n := range logSizes() {
		old := all.first(n).log()
		for _, more := range []int{n, n + 1, n + 2, 2*n + 1, 255, 256} {
			if more < n || more > mostLeaves {
				continue
			}
			grown := all.first(more).log()
			for _, m := range questionsTo(n) {
				ahead, ok := impl.LogAnswer(old, m)
				if !ok || m.Kind == impl.MsAsk || m.From+m.Count > n {
					continue
				}
				if got, ok := impl.LogAnswer(grown, m); !ok || !sameMessage(got, ahead) {
					t.Errorf("%d leaves, and then %d: to %v is answered another thing", n, more, m)
				}
			}
			headsJoin(t, old, grown)
		}
	}
}

// headsJoin wants that the later log proves that its head grew out of the earlier one's, and tells the earlier leaves.
func headsJoin(t *testing.T, old, grown impl.Log) {
	t.Helper()
	before, _ := impl.LogAnswer(old, askOf(3))
	after, _ := impl.LogAnswer(grown, askOf(3))
	growth, ok := impl.LogAnswer(grown, proveOf(before.Size, after.Size))
	code := impl.GrowthCheck(impl.Point{Size: before.Size, Root: before.Root}, impl.Point{Size: after.Size, Root: after.Root}, growth.Proof)
	if !ok || code != 0 {
		t.Errorf("from %d to %d: %v, %d", len(old.Leaves), len(grown.Leaves), ok, code)
	}
	if at := len(old.Leaves) - 1; at >= 0 {
		last, _ := impl.LogAnswer(old, fetchOf(at, impl.WireMaxLeaves))
		now, ok := impl.LogAnswer(grown, fetchOf(at, impl.WireMaxLeaves))
		if !ok || len(last.Leaves) != 1 || now.Leaves[0] != last.Leaves[0] {
			t.Errorf("from %d to %d: the leaf %d is another", len(old.Leaves), len(grown.Leaves), at)
		}
	}
}

// P26: leaf by leaf, from none to as many as there may be.
func TestP26Adds(t *testing.T) {
	want := someLeaves(mostLeaves)
	book := newRootBook(want)
	var l impl.Log
	for n, leaf := range want {
		if got, ok := impl.LogAdd(l, leaf+strings.Repeat("b", longLeaf+1-len(leaf))); ok || !slices.Equal(got.Leaves, want[:n]) {
			t.Fatalf("%d leaves: one of 41 bytes is put behind them, %v, and there are %d", n, ok, len(got.Leaves))
		}
		grown, ok := impl.LogAdd(l, leaf)
		if !ok || !slices.Equal(grown.Leaves, want[:n+1]) {
			t.Fatalf("%d leaves: %v, and there are %d", n, ok, len(grown.Leaves))
		}
		headsJoin(t, l, grown)
		if err := answersAs(slowLog{leaves: grown.Leaves, book: book}, proveOf(n, n+1)); err != nil {
			t.Fatal(err)
		}
		l = grown
	}
	for _, leaf := range addedLeaves() {
		if got, ok := impl.LogAdd(l, leaf); ok || !slices.Equal(got.Leaves, want) {
			t.Errorf("a full log: %d bytes are put behind, %v, and there are %d", len(leaf), ok, len(got.Leaves))
		}
	}
}

// addedLeaves are at their bounds, and out of them.
func addedLeaves() []string {
	var out []string
	for _, size := range []int{0, 1, 39, 40, 41, 42, 255, 256, 257, 296, 70000} {
		out = append(out, strings.Repeat("f", size), strings.Repeat(blank, size))
	}
	return append(out, strings.Repeat("é", longLeaf/2), strings.Repeat("é", longLeaf/2)+"a", "\x00", "a\xff")
}

// P26: what is added at the edges, with room and without.
func TestP26EdgeAdds(t *testing.T) {
	for _, s := range edgeLogs() {
		for _, leaf := range addedLeaves() {
			want, wantOk := s.add(leaf)
			if got, ok := impl.LogAdd(s.log(), leaf); ok != wantOk || !sameLog(got, want) {
				t.Errorf("%d leaves and %d bytes: %v, and there are %d", len(s.leaves), len(leaf), ok, len(got.Leaves))
			}
		}
	}
	for _, none := range []impl.Log{{}, {Leaves: []string{}}, {Leaves: make([]string, 0, 9)}, {Leaves: someLeaves(4)[:0]}} {
		if got, ok := impl.LogAdd(none, "a"); !ok || !slices.Equal(got.Leaves, []string{"a"}) {
			t.Errorf("no leaves and one: %v, %v", got, ok)
		}
		if got, ok := impl.LogAdd(none, strings.Repeat("a", 41)); ok || len(got.Leaves) != 0 {
			t.Errorf("no leaves and one of 41 bytes: %v, %v", got, ok)
		}
		if got, ok := impl.LogAnswer(none, askOf(8)); !ok || !sameMessage(got, impl.Message{Kind: 2, Session: 8, Root: slowHash("")}) {
			t.Errorf("no leaves: the head is %v, %v", got, ok)
		}
	}
}

// P26: a log that is not ok answers nothing, and does not grow.
func TestP26WrongLogs(t *testing.T) {
	for name, l := range wrongLogs() {
		for _, leaf := range addedLeaves() {
			if got, ok := impl.LogAdd(l, leaf); ok || len(got.Leaves) != 0 {
				t.Errorf("%s: %d bytes are put behind, and there are %d leaves", name, len(leaf), len(got.Leaves))
			}
		}
		for _, m := range questionsTo(min(len(l.Leaves), mostLeaves)) {
			silent(t, l, m, name)
		}
		for _, m := range questionsTo(1) {
			silent(t, l, m, name)
		}
	}
}

// wrongQuestions are messages of the kinds that a log answers, with one part out of its bounds, or one that the kind does not have.
func wrongQuestions() map[string]impl.Message {
	out := map[string]impl.Message{}
	for _, v := range wrongNumbers(1, impl.WireMaxSession) {
		out[fmt.Sprint("an ask of session ", v)] = askOf(v)
	}
	for _, v := range append(wrongNumbers(0, impl.TreeMaxLeaves), -256, -255) {
		out[fmt.Sprint("a prove from ", v)] = proveOf(v, 3)
		out[fmt.Sprint("a prove to ", v)] = proveOf(0, v)
		out[fmt.Sprint("a prove from and to ", v)] = proveOf(v, v)
		out[fmt.Sprint("a fetch from ", v)] = fetchOf(v, 1)
	}
	for _, v := range append(wrongNumbers(1, impl.WireMaxLeaves), 256) {
		out[fmt.Sprint("a fetch of ", v)] = fetchOf(0, v)
	}
	owned := map[int]string{impl.MsAsk: "S", impl.MsProve: "FZ", impl.MsFetch: "FC"}
	for kind, base := range map[int]impl.Message{impl.MsAsk: askOf(7), impl.MsProve: proveOf(1, 3), impl.MsFetch: fetchOf(0, 2)} {
		for k, part := range foreignParts() {
			if !strings.Contains(owned[kind], part.owned) {
				m := base
				part.set(&m)
				out[fmt.Sprint("kind ", kind, " with ", part.name, " ", k)] = m
			}
		}
	}
	return out
}

func TestP26WrongMessages(t *testing.T) {
	for _, s := range edgeLogs() {
		for name, m := range wrongQuestions() {
			silent(t, s.log(), m, name)
		}
	}
}

// P26: kinds that a log does not answer, and numbers that are no kinds, with whatever parts.
func TestP26OtherKinds(t *testing.T) {
	asked := []int{impl.MsAsk, impl.MsProve, impl.MsFetch}
	var others []impl.Message
	for _, m := range append(someMessages(), greatestMessages()...) {
		if !slices.Contains(asked, m.Kind) {
			others = append(others, m)
		}
	}
	for _, kind := range []int{0, 9, 10, -1, -4, -7, 255, 257, 260, 263, 1<<32 + 1, 1<<32 + 4, math.MinInt, math.MinInt + 1, math.MaxInt} {
		others = append(others, impl.Message{Kind: kind})
		for _, m := range append(greatestMessages(), askOf(1), proveOf(0, 1), proveOf(0, 0), fetchOf(0, 1)) {
			m.Kind = kind
			others = append(others, m)
		}
	}
	all := newSlowLog(someLeaves(mostLeaves))
	for _, n := range []int{0, 1, 3, 255, 256} {
		for _, m := range others {
			silent(t, all.first(n).log(), m, "another kind")
		}
	}
}

// P26: a log's own answers, and answers to them, lead nowhere.
func TestP26NoAnswerToAnswers(t *testing.T) {
	for _, s := range edgeLogs() {
		for _, m := range questionsTo(len(s.leaves)) {
			if answer, ok := impl.LogAnswer(s.log(), m); ok {
				silent(t, s.log(), answer, "its own answer")
			}
		}
	}
}

// P26: from whomever the letter comes, and to whomever.
func TestP26AllNodes(t *testing.T) {
	s := newSlowLog(someLeaves(5))
	for from := range impl.BagMaxNode + 1 {
		for to := range impl.BagMaxNode + 1 {
			for _, m := range []impl.Message{askOf(from + 1), proveOf(2, 5), fetchOf(3, 8), proveOf(2, 6)} {
				want, wantOk := s.hear(from, m)
				if got, ok := impl.LogHear(s.log(), impl.Letter{From: from, To: to, Text: layMessage(m).text}); ok != wantOk || got != want {
					t.Errorf("from %d to %d: to %v comes %v, %v", from, to, m, got, ok)
				}
			}
		}
	}
}

// P26: letters that are not ok, and texts that are no messages'.
func TestP26WrongLetters(t *testing.T) {
	for _, s := range []slowLog{newSlowLog(nil), newSlowLog([]string{"a"}), newSlowLog(someLeaves(mostLeaves))} {
		l := s.log()
		for name, letter := range wrongLetters() {
			deaf(t, l, letter, name)
		}
		for _, m := range []impl.Message{askOf(1), proveOf(0, 0), fetchOf(0, 1), askOf(impl.WireMaxSession)} {
			text := layMessage(m).text
			for _, node := range wrongNodes() {
				deaf(t, l, impl.Letter{From: node, Text: text}, "a wrong From")
				deaf(t, l, impl.Letter{To: node, Text: text}, "a wrong To")
				deaf(t, l, impl.Letter{From: node, To: node, Text: text}, "two wrong nodes")
			}
			for end := range len(text) {
				deaf(t, l, impl.Letter{From: 1, Text: text[:end]}, "a message cut short")
			}
			for _, more := range []string{"\x00", "\x01", blank, text, strings.Repeat("\x00", impl.WireMaxText-len(text)), strings.Repeat("\x00", impl.WireMaxText)} {
				deaf(t, l, impl.Letter{From: 1, Text: text + more}, "a message with more")
			}
			for first := range 256 {
				if first != m.Kind {
					other := string([]byte{byte(first)}) + text[1:]
					answer, ok := impl.LogHear(l, impl.Letter{From: 1, Text: other})
					heardAs(t, s, other, answer, ok)
				}
			}
		}
		for _, text := range []string{"", "\x00", "\x09", "\x01", "no message", strings.Repeat("\x01", impl.WireMaxText)} {
			deaf(t, l, impl.Letter{From: 1, Text: text}, "no message")
		}
	}
}

// heardAs holds what came to any text against the slow ways.
func heardAs(t *testing.T, s slowLog, text string, got impl.Letter, ok bool) {
	t.Helper()
	var want impl.Letter
	var wantOk bool
	if slowFault(text) == (impl.WireFault{}) {
		m, _ := impl.WireRead(text)
		want, wantOk = s.hear(1, m)
	}
	if ok != wantOk || got != want {
		t.Errorf("%d leaves: to %.60q comes %.60v, %v", len(s.leaves), text, got, ok)
	}
}

// P26: letters with texts of which some bytes are changed.
func TestP26AnyLetters(t *testing.T) {
	r := newRand()
	all := newSlowLog(someLeaves(mostLeaves))
	texts := questionsTo(9)
	heard := 0
	for range 20000 {
		s := all.first(r.IntN(20))
		text := changed(r, layMessage(texts[r.IntN(len(texts))]).text)
		got, ok := impl.LogHear(s.log(), impl.Letter{From: 1, Text: text})
		heardAs(t, s, text, got, ok)
		if ok {
			heard++
		}
	}
	if heard < 1000 {
		t.Errorf("only %d were heard", heard)
	}
}

func anyQuestion(r *rand.Rand, n int) impl.Message {
	switch r.IntN(3) {
	case 0:
		return askOf(1 + r.IntN(impl.WireMaxSession))
	case 1:
		return proveOf(r.IntN(min(n+3, 257)), r.IntN(min(n+3, 257)))
	}
	return fetchOf(r.IntN(min(n+3, 257)), 1+r.IntN(impl.WireMaxLeaves))
}

// P24, P25, P26: logs that grow by any leaves and are asked anything in between; what is asked leaves nothing behind.
func TestP26Histories(t *testing.T) {
	r := newRand()
	for turn := range 12 {
		s := newSlowLog(nil)
		for step := range 300 {
			if r.IntN(4) < 3 {
				leaf := randomText(r, r.IntN(longLeaf+3))
				want, wantOk := s.add(leaf)
				got, ok := impl.LogAdd(s.log(), leaf)
				if ok != wantOk || !sameLog(got, want) {
					t.Fatalf("turn %d, step %d: %v, and there are %d leaves, not %d", turn, step, ok, len(got.Leaves), len(want.Leaves))
				}
				// The book is made again, for it knows no leaves that come later.
				s = newSlowLog(got.Leaves)
			}
			for range 2 {
				if err := answersAs(s, anyQuestion(r, len(s.leaves))); err != nil {
					t.Fatalf("turn %d, step %d: %v", turn, step, err)
				}
			}
		}
	}
}

// laidLog is a log over memory that can be written over; its leaves lie ahead of marks.
type laidLog struct {
	log   impl.Log
	whole []string
	bytes [][]byte
}

func layLog(leaves []string) laidLog {
	var laid laidLog
	var over []string
	for _, leaf := range leaves {
		memory := []byte(leaf)
		laid.bytes = append(laid.bytes, memory)
		over = append(over, textOver(memory))
	}
	laid.log.Leaves, laid.whole = withRoom(over, "mark")
	return laid
}

// untouched wants the leaves, and behind them the marks.
func (l laidLog) untouched(leaves []string) bool {
	_, want := withRoom(leaves, "mark")
	return slices.Equal(l.whole, want)
}

func (l laidLog) writeOver() {
	for _, memory := range l.bytes {
		for k := range memory {
			memory[k] = '!'
		}
	}
	for k := range l.whole {
		l.whole[k] = "scribbled"
	}
}

// layQuestion has lists without elements that lie ahead of marks.
func layQuestion(m impl.Message) (impl.Message, []impl.Digest, []string) {
	var digests []impl.Digest
	var texts []string
	m.Proof, digests = withRoom([]impl.Digest(nil), impl.Digest{A: 99})
	m.Leaves, texts = withRoom([]string(nil), "mark")
	return m, digests, texts
}

// logAnswers is all that a log answers: to some questions, and to some leaves that are put behind.
type logAnswers struct {
	messages []impl.Message
	letters  []impl.Letter
	logs     []impl.Log
}

func askLog(l impl.Log, questions []impl.Message, leaves []string) logAnswers {
	var a logAnswers
	for _, m := range questions {
		answer, _ := impl.LogAnswer(l, m)
		letter, _ := impl.LogHear(l, impl.Letter{From: 2, Text: layMessage(m).text})
		a.messages, a.letters = append(a.messages, answer), append(a.letters, letter)
	}
	for _, leaf := range leaves {
		grown, _ := impl.LogAdd(l, leaf)
		a.logs = append(a.logs, grown)
	}
	return a
}

func (s slowLog) answers(questions []impl.Message, leaves []string) logAnswers {
	var a logAnswers
	for _, m := range questions {
		answer, _ := s.answer(m)
		letter, _ := s.hear(2, m)
		a.messages, a.letters = append(a.messages, answer), append(a.letters, letter)
	}
	for _, leaf := range leaves {
		grown, _ := s.add(leaf)
		a.logs = append(a.logs, grown)
	}
	return a
}

func (a logAnswers) like(b logAnswers) bool {
	return slices.EqualFunc(a.messages, b.messages, sameMessage) && slices.Equal(a.letters, b.letters) && slices.EqualFunc(a.logs, b.logs, sameLog)
}

// writeOver writes over all lists, spare room included.
func (a logAnswers) writeOver() {
	for _, m := range a.messages {
		scribble(m.Proof)
		scribbleTexts(m.Leaves)
	}
	for _, l := range a.logs {
		scribbleTexts(l.Leaves)
	}
}

func scribbleTexts(texts []string) {
	texts = texts[:cap(texts)]
	for k := range texts {
		texts[k] = "scribbled"
	}
}

// memoryLeaves are put behind in the tests of memory: two that are taken, and one that is too long.
func memoryLeaves() []string {
	return []string{"new", "", strings.Repeat("f", longLeaf+1)}
}

func TestLogWritesNoArgument(t *testing.T) {
	for _, s := range edgeLogs() {
		laid := layLog(s.leaves)
		for _, question := range questionsTo(len(s.leaves)) {
			m, digests, texts := layQuestion(question)
			digestsAhead, textsAhead := slices.Clone(digests), slices.Clone(texts)
			want, wantOk := s.answer(question)
			if got, ok := impl.LogAnswer(laid.log, m); ok != wantOk || !sameMessage(got, want) {
				t.Errorf("%d leaves: to %v with empty lists is answered %v, %v", len(s.leaves), question, got, ok)
			}
			if !slices.Equal(digests, digestsAhead) || !slices.Equal(texts, textsAhead) {
				t.Errorf("%d leaves: %v is written into", len(s.leaves), question)
			}
		}
		askLog(laid.log, questionsTo(len(s.leaves)), memoryLeaves())
		if !laid.untouched(s.leaves) {
			t.Errorf("%d leaves are written into", len(s.leaves))
		}
	}
	for name, l := range wrongLogs() {
		laid := layLog(l.Leaves)
		askLog(laid.log, questionsTo(3), memoryLeaves())
		if !laid.untouched(l.Leaves) {
			t.Errorf("%s: the leaves are written into", name)
		}
	}
}

// What was answered stays when the log, the question and the letter are written over.
func TestLogAnswersAreNewMemory(t *testing.T) {
	for _, s := range edgeLogs() {
		questions := questionsTo(len(s.leaves))
		laid := layLog(s.leaves)
		got := askLog(laid.log, questions, memoryLeaves())
		laid.writeOver()
		if !got.like(s.answers(questions, memoryLeaves())) {
			t.Errorf("%d leaves: answers are others when the log is written over", len(s.leaves))
		}
		for _, leaf := range memoryLeaves() {
			memory := []byte(leaf)
			want, _ := s.add(leaf)
			grown, _ := impl.LogAdd(s.log(), textOver(memory))
			clear(memory)
			if !sameLog(grown, want) {
				t.Errorf("%d leaves: another log when the leaf is written over", len(s.leaves))
			}
		}
		for _, m := range questions {
			over, digests, texts := layQuestion(m)
			memory := []byte(layMessage(m).text)
			want, _ := s.answer(m)
			wantLetter, _ := s.hear(2, m)
			answer, _ := impl.LogAnswer(s.log(), over)
			letter, _ := impl.LogHear(s.log(), impl.Letter{From: 2, Text: textOver(memory)})
			clear(memory)
			scribble(digests)
			scribbleTexts(texts)
			if !sameMessage(answer, want) || letter != wantLetter {
				t.Errorf("%d leaves: another answer when %v is written over", len(s.leaves), m)
			}
		}
	}
}

// Answers are written over, spare room included: that is to be seen neither in the log nor in the question, nor in another answer.
func TestLogAnswersShareNothing(t *testing.T) {
	for _, s := range edgeLogs() {
		questions := questionsTo(len(s.leaves))
		want := s.answers(questions, memoryLeaves())
		laid := layLog(s.leaves)
		first := askLog(laid.log, questions, memoryLeaves())
		second := askLog(laid.log, questions, memoryLeaves())
		first.writeOver()
		if !laid.untouched(s.leaves) {
			t.Fatalf("%d leaves: an answer shares memory with the log", len(s.leaves))
		}
		if !second.like(want) || !askLog(laid.log, questions, memoryLeaves()).like(want) {
			t.Errorf("%d leaves: two answers share memory", len(s.leaves))
		}
		for _, m := range questions {
			over, digests, texts := layQuestion(m)
			digestsAhead, textsAhead := slices.Clone(digests), slices.Clone(texts)
			answer, _ := impl.LogAnswer(laid.log, over)
			scribble(answer.Proof)
			scribbleTexts(answer.Leaves)
			if !slices.Equal(digests, digestsAhead) || !slices.Equal(texts, textsAhead) {
				t.Errorf("%d leaves: an answer shares memory with %v", len(s.leaves), m)
			}
		}
	}
}

// Two logs that are made out of one, and go on, do not come into each other's way.
func TestLogsGoOnApart(t *testing.T) {
	all := someLeaves(mostLeaves)
	for n := range mostLeaves - 1 {
		start, _ := impl.LogAdd(impl.Log{Leaves: all[:n]}, "start")
		left, _ := impl.LogAdd(start, "left")
		right, _ := impl.LogAdd(start, "right")
		again, ok := impl.LogAdd(left, strings.Repeat("f", longLeaf+1))
		left.Leaves[n] = "other"
		want := append(slices.Clone(all[:n]), "start")
		if ok || !slices.Equal(start.Leaves, want) || !slices.Equal(right.Leaves, append(want, "right")) || !slices.Equal(again.Leaves, append(want, "left")) {
			t.Errorf("%d leaves: %v, %d, %d and %d leaves", n, ok, len(start.Leaves), len(right.Leaves), len(again.Leaves))
		}
	}
}
