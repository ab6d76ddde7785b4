package tests

import (
	"fmt"
	"math"
	"math/rand/v2"
	"slices"
	"strconv"
	"strings"
	"testing"

	"loop.example/belfry/impl"
)

// leastNeed is the least number that is above the half of so many witnesses; nothing of what is no number of witnesses.
func leastNeed(many int) int {
	return map[int]int{1: 1, 2: 2, 3: 2, 4: 3, 5: 3, 6: 4, 7: 4}[many]
}

// slowClientOk asks for a client's bounds one by one, by the numbers of the document.
func slowClientOk(c impl.Client) bool {
	least := leastNeed(c.Many)
	if least == 0 || c.Need < least || c.Need > c.Many || c.Session < 0 || c.Session > 1000000 {
		return false
	}
	if c.Pin != (impl.Point{}) && (c.Pin.Size < 1 || c.Pin.Size > 256) {
		return false
	}
	bare := c.Goal == (impl.Point{}) && len(c.Acks) == 0
	switch c.Phase {
	case 0:
		return bare
	case 1:
		return bare && c.Session > 0
	case 2:
		return c.Session > 0 && c.Goal.Size > c.Pin.Size && c.Goal.Size <= 256 && slowAcksOk(c)
	}
	return false
}

func slowAcksOk(c impl.Client) bool {
	least := 1
	for _, who := range c.Acks {
		if who < least || who > c.Many {
			return false
		}
		least = who + 1
	}
	return len(c.Acks) < c.Need
}

func clientAsk(me, session int) impl.Letter {
	return impl.Letter{From: me, To: 0, Text: layMessage(impl.Message{Kind: 1, Session: session}).text}
}

func clientVouch(me, who, session int, p impl.Point) impl.Letter {
	return impl.Letter{From: me, To: who, Text: layMessage(impl.Message{Kind: 3, Session: session, Size: p.Size, Root: p.Root}).text}
}

func headLetter(session int, p impl.Point) impl.Letter {
	return impl.Letter{From: 0, To: 9, Text: layMessage(impl.Message{Kind: 2, Session: session, Size: p.Size, Root: p.Root}).text}
}

// ackFrom is what a witness sends to the client.
func ackFrom(who, session int, p impl.Point) impl.Letter {
	return ackLetter(who, 9, session, p)
}

func sameAsClient(c impl.Client) impl.Client {
	c.Acks = slices.Clone(c.Acks)
	return c
}

// slowClientTick is a new session, by the document's words.
func slowClientTick(c impl.Client, me int) impl.Told {
	if !slowClientOk(c) || me < 1 || me > 20 {
		return impl.Told{}
	}
	if c.Session == 1000000 {
		return impl.Told{Client: sameAsClient(c)}
	}
	next := impl.Client{Need: c.Need, Many: c.Many, Session: c.Session + 1, Phase: 1, Pin: c.Pin}
	return impl.Told{Client: next, Letters: []impl.Letter{clientAsk(me, c.Session+1)}}
}

// slowClientHear is what comes of a letter, by the document's words.
func slowClientHear(c impl.Client, me int, in impl.Letter) impl.Told {
	if !slowClientOk(c) || !slowLetterOk(in) || me < 1 || me > 20 {
		return impl.Told{}
	}
	out := impl.Told{Client: sameAsClient(c)}
	if slowFault(in.Text) != (impl.WireFault{}) {
		return out
	}
	m, _ := impl.WireRead(in.Text)
	p := impl.Point{Size: m.Size, Root: m.Root}
	switch {
	case m.Session != c.Session:
	case c.Phase == 1 && m.Kind == 2 && in.From == 0:
		slowHeadTold(&out, me, p)
	case c.Phase == 2 && m.Kind == 6 && in.From >= 1 && in.From <= c.Many && p == c.Goal:
		slowAckTold(&out, in.From)
	}
	return out
}

func slowHeadTold(out *impl.Told, me int, p impl.Point) {
	pin := out.Client.Pin
	switch {
	case p.Size == 0 || p.Size < pin.Size || p == pin:
	case p.Size == pin.Size:
		out.Alarms = []impl.Alarm{{Kind: 1, Held: pin, Told: p}}
	default:
		out.Client.Phase, out.Client.Goal = 2, p
		for who := range out.Client.Many {
			out.Letters = append(out.Letters, clientVouch(me, who+1, out.Client.Session, p))
		}
	}
}

func slowAckTold(out *impl.Told, who int) {
	c := &out.Client
	if slices.Contains(c.Acks, who) {
		return
	}
	c.Acks = append(c.Acks, who)
	slices.Sort(c.Acks)
	if len(c.Acks) < c.Need {
		return
	}
	out.Accepted = []impl.Point{c.Goal}
	c.Pin, c.Phase, c.Goal, c.Acks = c.Goal, 0, impl.Point{}, nil
}

// sameClient takes an empty list and none for the same, as all of these do.
func sameClient(a, b impl.Client) bool {
	return a.Need == b.Need && a.Many == b.Many && a.Session == b.Session && a.Phase == b.Phase && a.Goal == b.Goal && slices.Equal(a.Acks, b.Acks) && a.Pin == b.Pin
}

func sameTold(a, b impl.Told) bool {
	return sameClient(a.Client, b.Client) && slices.Equal(a.Letters, b.Letters) && slices.Equal(a.Alarms, b.Alarms) && slices.Equal(a.Accepted, b.Accepted)
}

// shownTold is what came, its bytes as signs that can be read.
func shownTold(told impl.Told) string {
	return strconv.QuoteToASCII(fmt.Sprint(told))
}

// toldAs holds what comes of a letter against the slow ways, and against what is promised of any letter.
func toldAs(c impl.Client, me int, in impl.Letter) error {
	got, want := impl.ClientHear(c, me, in), slowClientHear(c, me, in)
	if !sameTold(got, want) {
		return fmt.Errorf("%v, to %d from %d %.12q:\ncomes %v\nnot   %v", c, me, in.From, in.Text, shownTold(got), shownTold(want))
	}
	if !slowClientOk(c) || !slowLetterOk(in) || me < 1 || me > 20 {
		return nil
	}
	for _, broken := range []error{goesNeverBack(c, got), believesEnough(c, got, in), oldChangesNothing(c, got, in)} {
		if broken != nil {
			return fmt.Errorf("%v, to %d from %d %.12q: %w", c, me, in.From, in.Text, broken)
		}
	}
	return nil
}

// ticksAs holds what comes of a tick against the slow ways, and against what is promised of it.
func ticksAs(c impl.Client, me int) error {
	got, want := impl.ClientTick(c, me), slowClientTick(c, me)
	if !sameTold(got, want) {
		return fmt.Errorf("%v ticks, being %d:\ncomes %v\nnot   %v", c, me, shownTold(got), shownTold(want))
	}
	if slowClientOk(c) && me >= 1 && me <= 20 {
		return goesNeverBack(c, got)
	}
	return nil
}

// goesNeverBack is P31.
func goesNeverBack(c impl.Client, got impl.Told) error {
	if !impl.ClientOk(got.Client) || !slowClientOk(got.Client) {
		return fmt.Errorf("the client is not ok any more")
	}
	pin := c.Pin
	for _, p := range got.Accepted {
		if p.Size <= pin.Size {
			return fmt.Errorf("%v is accepted, behind %v", p, pin)
		}
		pin = p
	}
	if got.Client.Pin != pin || got.Client.Session < c.Session || got.Client.Need != c.Need || got.Client.Many != c.Many {
		return fmt.Errorf("%v became %v", c, got.Client)
	}
	return nil
}

// believesEnough is P32, of one letter.
func believesEnough(c impl.Client, got impl.Told, in impl.Letter) error {
	if len(got.Accepted) == 0 {
		return nil
	}
	if len(got.Accepted) != 1 || c.Phase != impl.ClVouch || got.Accepted[0] != c.Goal {
		return fmt.Errorf("accepted are %v", got.Accepted)
	}
	if len(c.Acks)+1 != c.Need || slices.Contains(c.Acks, in.From) || in.From < 1 || in.From > c.Many {
		return fmt.Errorf("not enough witnesses")
	}
	return nil
}

// oldChangesNothing is P33.
func oldChangesNothing(c impl.Client, got impl.Told, in impl.Letter) error {
	m, _ := impl.WireRead(in.Text)
	p := impl.Point{Size: m.Size, Root: m.Root}
	old := m.Session != c.Session || p.Size < c.Pin.Size || p == c.Pin
	repeated := m.Kind == impl.MsHead && c.Phase != impl.ClAsked || m.Kind == impl.MsAck && (c.Phase != impl.ClVouch || slices.Contains(c.Acks, in.From))
	if (old || repeated) && !sameTold(got, impl.Told{Client: c}) {
		return fmt.Errorf("of an old reply comes %v", shownTold(got))
	}
	return nil
}

// silentClient wants the client as it was, and nothing else.
func silentClient(t *testing.T, c impl.Client, me int, in impl.Letter, what string) {
	t.Helper()
	if got := impl.ClientHear(c, me, in); !sameTold(got, impl.Told{Client: c}) {
		t.Errorf("%s: of %.40q from %d comes %v to %v", what, in.Text, in.From, shownTold(got), c)
	}
}

// nothingTold wants nothing at all.
func nothingTold(t *testing.T, c impl.Client, me int, in impl.Letter, what string) {
	t.Helper()
	if got := impl.ClientHear(c, me, in); !sameTold(got, impl.Told{}) {
		t.Errorf("%s: of %.40q from %d to %d comes %v", what, in.Text, in.From, me, shownTold(got))
	}
}

// somePoint has a root that no other size has.
func somePoint(size int) impl.Point {
	if size == 0 {
		return impl.Point{}
	}
	return impl.Point{Size: size, Root: impl.Digest{A: uint64(size) << 40, B: 7, C: ^uint64(size), D: uint64(size)}}
}

// clientNumbers are all Need and Many that may be.
func clientNumbers() []impl.Client {
	var out []impl.Client
	for many := 1; many <= 7; many++ {
		for need := leastNeed(many); need <= many; need++ {
			out = append(out, impl.Client{Need: need, Many: many})
		}
	}
	return out
}

// acksOf are all lists of fewer than so many witnesses.
func acksOf(need, many int) [][]int {
	var out [][]int
	for set := range 1 << many {
		var list []int
		for who := 1; who <= many; who++ {
			if set>>(who-1)&1 == 1 {
				list = append(list, who)
			}
		}
		if len(list) < need {
			out = append(out, list)
		}
	}
	return out
}

func clientSessions() []int {
	return []int{0, 1, 2, 300, 999999, 1000000}
}

func clientPins() []impl.Point {
	return []impl.Point{{}, somePoint(1), {Size: 1}, somePoint(2), somePoint(100), somePoint(255), somePoint(256)}
}

// goalsAbove are one more than the pinned size, a few more, and all; none where all are pinned.
func goalsAbove(pin impl.Point) []impl.Point {
	var out []impl.Point
	for _, size := range []int{pin.Size + 1, pin.Size + 7, 256} {
		if size > pin.Size && size <= 256 {
			out = append(out, somePoint(size))
		}
	}
	if pin.Size < 256 {
		out = append(out, impl.Point{Size: 256})
	}
	return out
}

// calmClients are in the phases without a goal.
func calmClients() []impl.Client {
	var out []impl.Client
	for _, c := range clientNumbers() {
		for _, c.Session = range clientSessions() {
			for _, c.Pin = range clientPins() {
				c.Phase = impl.ClIdle
				out = append(out, c)
				if c.Session > 0 {
					c.Phase = impl.ClAsked
					out = append(out, c)
				}
			}
		}
	}
	return out
}

// vouchClients have each list of acknowledgements with some of the sessions and points, and each of these with some of the lists.
func vouchClients() []impl.Client {
	var out []impl.Client
	for _, c := range clientNumbers() {
		c.Phase = impl.ClVouch
		lists := acksOf(c.Need, c.Many)
		turn := 0
		for _, c.Session = range clientSessions()[1:] {
			for _, c.Pin = range clientPins() {
				for _, c.Goal = range goalsAbove(c.Pin) {
					for range 3 {
						c.Acks = lists[turn%len(lists)]
						turn++
						out = append(out, c)
					}
				}
			}
		}
	}
	return out
}

func okClients() []impl.Client {
	return append(calmClients(), vouchClients()...)
}

// fewClients are one in each phase, of one witness, three and seven, with nothing pinned and with something.
func fewClients() []impl.Client {
	var out []impl.Client
	for _, numbers := range []impl.Client{{Need: 1, Many: 1}, {Need: 2, Many: 3}, {Need: 3, Many: 3}, {Need: 4, Many: 7}, {Need: 7, Many: 7}} {
		for _, pin := range []impl.Point{{}, somePoint(1), somePoint(100)} {
			c := numbers
			c.Session, c.Pin = 5, pin
			for _, c.Phase = range []int{impl.ClIdle, impl.ClAsked} {
				out = append(out, c)
			}
			c.Phase, c.Goal = impl.ClVouch, somePoint(pin.Size+3)
			out = append(out, c)
			for who := range c.Need - 1 {
				c.Acks = append(c.Acks, c.Many-c.Need+who+2)
			}
			if c.Need > 1 {
				out = append(out, c)
			}
		}
	}
	return out
}

// wrongClients have one thing each that is not ok.
func wrongClients() map[string]impl.Client {
	out := map[string]impl.Client{}
	add := func(what string, base impl.Client, set func(*impl.Client)) {
		c := sameAsClient(base)
		set(&c)
		// What is wrong of most of the few is right of some of them.
		if !slowClientOk(c) {
			out[fmt.Sprint(base, " but ", what)] = c
		}
	}
	for _, base := range fewClients() {
		for _, many := range append(wrongNumbers(1, 7), 0, 8, 2*base.Need) {
			add(fmt.Sprint("Many ", many), base, func(c *impl.Client) { c.Many = many })
		}
		for _, need := range append(wrongNumbers(leastNeed(base.Many), base.Many), 0, base.Many/2, 1<<62, 1<<62+1, math.MinInt+base.Many) {
			add(fmt.Sprint("Need ", need), base, func(c *impl.Client) { c.Need = need })
		}
		for _, session := range wrongNumbers(0, 1000000) {
			add(fmt.Sprint("Session ", session), base, func(c *impl.Client) { c.Session = session })
		}
		for _, phase := range append(wrongNumbers(0, 2), 4) {
			add(fmt.Sprint("Phase ", phase), base, func(c *impl.Client) { c.Phase = phase })
		}
		for _, root := range []impl.Digest{{A: 1}, {B: 1}, {C: 1}, {D: 1 << 63}, slowHash("")} {
			add(fmt.Sprint("a Pin of nothing with the root ", root), base, func(c *impl.Client) { c.Pin = impl.Point{Root: root} })
			// With a goal above it, so that nothing else is wrong.
			add(fmt.Sprint("a Pin of nothing, and a goal, with the root ", root), base, func(c *impl.Client) {
				c.Pin = impl.Point{Root: root}
				if c.Phase == impl.ClVouch {
					c.Goal = somePoint(1)
				}
			})
		}
		for _, size := range wrongNumbers(1, 256) {
			if size != 0 {
				add(fmt.Sprint("Pin.Size ", size), base, func(c *impl.Client) { c.Pin = impl.Point{Size: size, Root: impl.Digest{A: 1}} })
				add(fmt.Sprint("Pin.Size alone ", size), base, func(c *impl.Client) { c.Pin = impl.Point{Size: size} })
			}
		}
		if base.Phase == impl.ClVouch {
			addWrongVouches(add, base)
		} else {
			addWrongCalms(add, base)
		}
	}
	return out
}

func addWrongCalms(add func(string, impl.Client, func(*impl.Client)), base impl.Client) {
	for _, goal := range []impl.Point{somePoint(base.Pin.Size + 1), somePoint(256), {Size: 1}, {Root: impl.Digest{A: 1}}, {Root: impl.Digest{D: 1}}, {Size: -1}, {Size: math.MinInt}, {Size: math.MaxInt}} {
		add(fmt.Sprint("the Goal ", goal), base, func(c *impl.Client) { c.Goal = goal })
		add(fmt.Sprint("the Goal and an ack ", goal), base, func(c *impl.Client) { c.Goal, c.Acks = goal, []int{1} })
	}
	for _, acks := range [][]int{{1}, {0}, {base.Many}, {1, 2, 3}, {-1}, {math.MinInt}, {math.MaxInt}} {
		add(fmt.Sprint("the Acks ", acks), base, func(c *impl.Client) { c.Acks = acks })
	}
	if base.Phase == impl.ClAsked {
		add("Session 0", base, func(c *impl.Client) { c.Session = 0 })
	}
}

func addWrongVouches(add func(string, impl.Client, func(*impl.Client)), base impl.Client) {
	add("Session 0", base, func(c *impl.Client) { c.Session = 0 })
	add("no Goal", base, func(c *impl.Client) { c.Goal = impl.Point{} })
	add("a Goal of all and one more, all pinned", base, func(c *impl.Client) { c.Pin, c.Goal = somePoint(256), somePoint(257) })
	for _, size := range append(wrongNumbers(base.Pin.Size+1, 256), 0, base.Pin.Size) {
		add(fmt.Sprint("Goal.Size ", size), base, func(c *impl.Client) { c.Goal.Size = size })
	}
	if base.Pin.Size > 0 {
		add("the Goal that is pinned", base, func(c *impl.Client) { c.Goal = c.Pin })
	}
	for _, who := range append(wrongNumbers(1, base.Many), 0, base.Many+1, 20, 63, 64, 65, -64) {
		for at := range base.Acks {
			add(fmt.Sprint("an ack at ", at, " of ", who), base, func(c *impl.Client) { c.Acks[at] = who })
		}
		if base.Need > 1 {
			add(fmt.Sprint("an ack of ", who), base, func(c *impl.Client) { c.Acks = []int{who} })
		}
	}
	all := make([]int, base.Many)
	for k := range all {
		all[k] = k + 1
	}
	for many := base.Need; many <= base.Many; many++ {
		add(fmt.Sprint(many, " acks, the first ones"), base, func(c *impl.Client) { c.Acks = slices.Clone(all[:many]) })
		add(fmt.Sprint(many, " acks, the last ones"), base, func(c *impl.Client) { c.Acks = slices.Clone(all[base.Many-many:]) })
	}
	add("very many acks", base, func(c *impl.Client) { c.Acks = make([]int, 70000) })
	add("very many acks of 1", base, func(c *impl.Client) { c.Acks = slices.Repeat([]int{1}, 70000) })
	if base.Need > 2 {
		for _, acks := range [][]int{{2, 1}, {base.Many, 1}, {1, 1}, {2, 2}, {base.Many, base.Many}, {base.Many, base.Many - 1}} {
			add(fmt.Sprint("the Acks ", acks), base, func(c *impl.Client) { c.Acks = acks })
		}
	}
	if base.Need > 3 {
		for _, acks := range [][]int{{1, 3, 2}, {1, 3, 3}, {1, 1, 3}, {1, 3, 1}, {4, 2, 3}} {
			add(fmt.Sprint("the Acks ", acks), base, func(c *impl.Client) { c.Acks = acks })
		}
	}
}

// sessionsAround are those of messages that are ok.
func sessionsAround(session int) []int {
	var out []int
	for _, one := range []int{session, session - 1, session + 1, 1, 1000000, session ^ 1<<8, session ^ 1<<16} {
		if one >= 1 && one <= 1000000 && !slices.Contains(out, one) {
			out = append(out, one)
		}
	}
	return out
}

// pointsAround are near the pinned point and the goal, with their roots and with others.
func pointsAround(c impl.Client) []impl.Point {
	out := []impl.Point{{}, {Root: c.Pin.Root}, {Root: slowHash("")}, c.Pin, c.Goal, otherRoot(c.Goal, 0), otherRoot(c.Pin, 0)}
	for _, size := range []int{c.Pin.Size - 1, c.Pin.Size, c.Pin.Size + 1, c.Goal.Size - 1, c.Goal.Size + 1, 1, 255, 256} {
		if size >= 0 && size <= 256 {
			out = append(out, somePoint(size), impl.Point{Size: size, Root: c.Goal.Root}, impl.Point{Size: size, Root: c.Pin.Root}, impl.Point{Size: size})
		}
	}
	return out
}

// lettersAround are heads and acks for such points, in the client's session from all that it may hear, and in sessions around it.
func lettersAround(c impl.Client) []impl.Letter {
	var out []impl.Letter
	for k, p := range pointsAround(c) {
		for _, session := range sessionsAround(c.Session) {
			out = append(out, headLetter(session, p), ackFrom(1+k%c.Many, session, p))
		}
		for _, from := range []int{0, 1, c.Many, c.Many + 1, 9, 20} {
			if c.Session > 0 {
				head := headLetter(c.Session, p)
				head.From = from
				out = append(out, head, ackFrom(from, c.Session, p))
			}
		}
	}
	return out
}

func TestClientLimits(t *testing.T) {
	if impl.ClientMaxMany != 7 || impl.ClIdle != 0 || impl.ClAsked != 1 || impl.ClVouch != 2 {
		t.Error(impl.ClientMaxMany, impl.ClIdle, impl.ClAsked, impl.ClVouch)
	}
}

// P31: which clients are ok.
func TestP31Ok(t *testing.T) {
	for _, c := range okClients() {
		if !impl.ClientOk(c) || !slowClientOk(c) {
			t.Errorf("not ok: %v", c)
		}
		c.Acks = append([]int{}, c.Acks...)
		if !impl.ClientOk(c) {
			t.Errorf("not ok, with an empty list for none: %v", c)
		}
	}
	for name, c := range wrongClients() {
		if impl.ClientOk(c) {
			t.Errorf("%s: ok", name)
		}
	}
}

// P31: all small numbers together.
func TestP31OkNumbers(t *testing.T) {
	points := []impl.Point{{}, {Root: impl.Digest{A: 1}}, somePoint(1), somePoint(2), somePoint(256), somePoint(257), {Size: -1}}
	oks := 0
	for need := -1; need <= 4; need++ {
		for many := -1; many <= 4; many++ {
			for _, session := range []int{-1, 0, 1, 1000000, 1000001} {
				for phase := -1; phase <= 3; phase++ {
					for _, goal := range points {
						for _, pin := range points {
							for _, acks := range [][]int{nil, {0}, {1}, {2}, {4}, {5}, {1, 2}, {2, 1}, {1, 2, 3}} {
								c := impl.Client{Need: need, Many: many, Session: session, Phase: phase, Goal: goal, Acks: acks, Pin: pin}
								if impl.ClientOk(c) != slowClientOk(c) {
									t.Fatalf("%v: %v", c, impl.ClientOk(c))
								}
								if slowClientOk(c) {
									oks++
								}
							}
						}
					}
				}
			}
		}
	}
	if oks == 0 {
		t.Error("none was ok")
	}
}

// P31: all lists of few acknowledgements, of whomever.
func TestP31OkAcks(t *testing.T) {
	for _, base := range clientNumbers() {
		base.Session, base.Phase, base.Goal = 1, impl.ClVouch, somePoint(1)
		lists := [][]int{nil}
		for range 4 {
			var longer [][]int
			for _, list := range lists {
				base.Acks = list
				if impl.ClientOk(base) != slowClientOk(base) {
					t.Fatalf("%v: %v", base, impl.ClientOk(base))
				}
				for who := -1; who <= base.Many+1; who++ {
					longer = append(longer, append(slices.Clone(list), who))
				}
			}
			lists = longer
		}
	}
}

// P31: new clients, of all numbers within their bounds and around them.
func TestP31New(t *testing.T) {
	var numbers []int
	for k := -3; k <= 20; k++ {
		numbers = append(numbers, k)
	}
	numbers = append(numbers, wrongNumbers(1, 7)...)
	numbers = append(numbers, 1<<62, 1<<62+1, math.MinInt+2, math.MaxInt-1, math.MaxInt/2+1)
	made := 0
	for _, need := range numbers {
		for _, many := range numbers {
			var want impl.Client
			wanted := many >= 1 && many <= 7 && need >= leastNeed(many) && need <= many
			if wanted {
				want = impl.Client{Need: need, Many: many}
				made++
			}
			if got, ok := impl.ClientNew(need, many); !sameClient(got, want) || ok != wanted {
				t.Errorf("need %d of %d: %v, %v", need, many, got, ok)
			}
		}
	}
	if made != len(clientNumbers()) || made != 16 {
		t.Error(made, "were made")
	}
}

// P31: a tick in each phase, of all clients.
func TestP31Ticks(t *testing.T) {
	for k, c := range okClients() {
		if err := ticksAs(c, 1+k%20); err != nil {
			t.Fatal(err)
		}
		got := impl.ClientTick(c, 1+k%20)
		if c.Session == impl.WireMaxSession {
			if !sameTold(got, impl.Told{Client: c}) {
				t.Fatalf("the last session: %v comes of %v", shownTold(got), c)
			}
			continue
		}
		if got.Client.Phase != impl.ClAsked || got.Client.Session != c.Session+1 || got.Client.Pin != c.Pin || len(got.Letters) != 1 {
			t.Fatalf("%v comes of %v", shownTold(got), c)
		}
	}
}

// P31: ticks, written out, up to the last session.
func TestP31KnownTicks(t *testing.T) {
	c, _ := impl.ClientNew(2, 3)
	got := impl.ClientTick(c, 5)
	if !sameTold(got, impl.Told{Client: impl.Client{Need: 2, Many: 3, Session: 1, Phase: 1}, Letters: []impl.Letter{{From: 5, To: 0, Text: "\x01\x00\x00\x01"}}}) {
		t.Error("the first:", shownTold(got))
	}
	c = impl.Client{Need: 2, Many: 3, Session: 0x0abcde, Phase: impl.ClVouch, Goal: somePoint(9), Acks: []int{3}, Pin: somePoint(4)}
	got = impl.ClientTick(c, 20)
	if !sameTold(got, impl.Told{Client: impl.Client{Need: 2, Many: 3, Session: 0x0abcdf, Phase: 1, Pin: somePoint(4)}, Letters: []impl.Letter{{From: 20, Text: "\x01\x0a\xbc\xdf"}}}) {
		t.Error("with a goal:", shownTold(got))
	}
	c = impl.Client{Need: 1, Many: 1, Session: 999997}
	for step := range 6 {
		got := impl.ClientTick(c, 2)
		session := min(999998+step, 1000000)
		letters := 1
		if step >= 3 {
			letters = 0
		}
		if got.Client.Session != session || len(got.Letters) != letters || got.Client.Phase != impl.ClAsked {
			t.Errorf("tick %d: %v", step, shownTold(got))
		}
		c = got.Client
	}
	if got := impl.ClientHear(c, 2, headLetter(1000000, somePoint(1))); len(got.Letters) != 1 {
		t.Error("in the last session a head is not heard:", shownTold(got))
	}
}

// P31: all clients hear letters around what they know.
func TestP31Around(t *testing.T) {
	for k, c := range okClients() {
		// All of few witnesses, some of the others, and a fifth of the letters: with all it would take long.
		if k%7 != 0 && c.Many > 4 {
			continue
		}
		for turn, in := range lettersAround(c) {
			if (turn+k)%5 != 0 {
				continue
			}
			if err := toldAs(c, 1+(k+turn)%20, in); err != nil {
				t.Fatal(err)
			}
		}
	}
	for _, c := range fewClients() {
		for _, in := range lettersAround(c) {
			for _, me := range []int{1, 9, 20} {
				if err := toldAs(c, me, in); err != nil {
					t.Fatal(err)
				}
			}
		}
	}
}

// P31: a whole session, written out.
func TestP31KnownSession(t *testing.T) {
	root := impl.Digest{A: 0x0102030405060708, D: 9}
	p := impl.Point{Size: 258 - 2, Root: root}
	tail := "\x00\x00\x07\x01\x00" + bytesOf(root)
	c := impl.Client{Need: 2, Many: 3, Session: 7, Phase: impl.ClAsked, Pin: somePoint(255)}
	goal := impl.Client{Need: 2, Many: 3, Session: 7, Phase: impl.ClVouch, Goal: p, Pin: somePoint(255)}
	vouches := []impl.Letter{{From: 8, To: 1, Text: "\x03" + tail}, {From: 8, To: 2, Text: "\x03" + tail}, {From: 8, To: 3, Text: "\x03" + tail}}
	got := impl.ClientHear(c, 8, impl.Letter{From: 0, To: 8, Text: "\x02" + tail})
	if !sameTold(got, impl.Told{Client: goal, Letters: vouches}) {
		t.Fatal("a head:", shownTold(got))
	}
	got = impl.ClientHear(goal, 8, impl.Letter{From: 3, To: 8, Text: "\x06" + tail})
	one := goal
	one.Acks = []int{3}
	if !sameTold(got, impl.Told{Client: one}) {
		t.Fatal("the first ack:", shownTold(got))
	}
	silentClient(t, one, 8, impl.Letter{From: 3, To: 8, Text: "\x06" + tail}, "the same ack")
	for _, who := range []int{1, 2} {
		got = impl.ClientHear(one, 8, impl.Letter{From: who, To: 8, Text: "\x06" + tail})
		end := impl.Client{Need: 2, Many: 3, Session: 7, Phase: impl.ClIdle, Pin: p}
		if !sameTold(got, impl.Told{Client: end, Accepted: []impl.Point{p}}) {
			t.Fatal("the second ack:", shownTold(got))
		}
		for behind := range 5 {
			silentClient(t, end, 8, impl.Letter{From: behind, To: 8, Text: "\x06" + tail}, "one ack more")
			silentClient(t, end, 8, impl.Letter{From: behind, To: 8, Text: "\x02" + tail}, "the head once more")
		}
	}
}

// P31: a head for each size and several roots, of the right session, whatever is pinned.
func TestP31Heads(t *testing.T) {
	for _, base := range []impl.Client{{Need: 1, Many: 1}, {Need: 4, Many: 7}} {
		base.Session, base.Phase = 3, impl.ClAsked
		for _, base.Pin = range clientPins() {
			for size := range 257 {
				for k, root := range []impl.Digest{base.Pin.Root, somePoint(size).Root, {}, {D: 1}} {
					p := impl.Point{Size: size, Root: root}
					in := headLetter(3, p)
					if err := toldAs(base, 9, in); err != nil {
						t.Fatal(err)
					}
					got := impl.ClientHear(base, 9, in)
					goes, forks := size > base.Pin.Size, size > 0 && size == base.Pin.Size && root != base.Pin.Root
					if goes != (got.Client.Phase == impl.ClVouch) || goes != (len(got.Letters) == base.Many) || forks != (len(got.Alarms) == 1) || len(got.Accepted) != 0 {
						t.Fatalf("%v pinned, the root %d: %v", base.Pin, k, shownTold(got))
					}
					if forks && got.Alarms[0] != (impl.Alarm{Kind: impl.AlFork, Who: 0, Held: base.Pin, Told: p, Code: 0}) {
						t.Fatalf("%v pinned: %v", base.Pin, got.Alarms)
					}
				}
			}
		}
	}
}

// P31: to each witness goes a vouch, in order, of whatever node the client is.
func TestP31Vouches(t *testing.T) {
	for _, c := range clientNumbers() {
		for _, session := range []int{1, 256, 65536, 999999, 1000000} {
			for me := 1; me <= 20; me++ {
				c.Session, c.Phase = session, impl.ClAsked
				p := somePoint(1 + me*c.Many)
				got := impl.ClientHear(c, me, headLetter(session, p))
				var want []impl.Letter
				for who := 1; who <= c.Many; who++ {
					want = append(want, clientVouch(me, who, session, p))
				}
				if !slices.Equal(got.Letters, want) || got.Client.Goal != p || got.Client.Phase != impl.ClVouch || len(got.Client.Acks) != 0 {
					t.Fatalf("%v: %v", c, shownTold(got))
				}
			}
		}
	}
}

// P33: a head in another phase, of another session, or from another node.
func TestP33Heads(t *testing.T) {
	for _, c := range fewClients() {
		for _, p := range []impl.Point{somePoint(c.Pin.Size + 1), somePoint(256), otherRoot(c.Pin, 0)} {
			for from := range 21 {
				for _, session := range sessionsAround(c.Session) {
					if c.Phase == impl.ClAsked && session == c.Session && from == 0 {
						continue
					}
					in := headLetter(session, p)
					in.From = from
					silentClient(t, c, 9, in, "a head")
				}
			}
		}
	}
	idle := impl.Client{Need: 1, Many: 1, Session: 0}
	for _, session := range []int{1, 2, 1000000} {
		silentClient(t, idle, 9, headLetter(session, somePoint(1)), "ahead of the first session")
	}
}

// P32: an ack ahead of, between and behind those that there are, one that is there, the last one that is wanted.
func TestP32Acks(t *testing.T) {
	for _, c := range clientNumbers() {
		c.Session, c.Phase, c.Goal, c.Pin = 5, impl.ClVouch, somePoint(9), somePoint(8)
		for _, c.Acks = range acksOf(c.Need, c.Many) {
			for who := range 21 {
				in := ackFrom(who, 5, c.Goal)
				if err := toldAs(c, 9, in); err != nil {
					t.Fatal(err)
				}
				got := impl.ClientHear(c, 9, in)
				there := slices.Contains(c.Acks, who)
				counts := who >= 1 && who <= c.Many && !there
				if counts && len(c.Acks)+1 == c.Need {
					if !sameTold(got, impl.Told{Client: impl.Client{Need: c.Need, Many: c.Many, Session: 5, Pin: c.Goal}, Accepted: []impl.Point{c.Goal}}) {
						t.Fatalf("%v, an ack of %d: %v", c, who, shownTold(got))
					}
					continue
				}
				want := sameAsClient(c)
				if counts {
					at, _ := slices.BinarySearch(want.Acks, who)
					want.Acks = slices.Insert(want.Acks, at, who)
				}
				if !sameTold(got, impl.Told{Client: want}) {
					t.Fatalf("%v, an ack of %d: %v", c, who, shownTold(got))
				}
			}
		}
	}
}

// P32: an ack in another session, of another size or root, or in another phase; it counts for nothing.
func TestP32OtherAcks(t *testing.T) {
	for _, c := range fewClients() {
		goal := c.Goal
		if c.Phase != impl.ClVouch {
			goal = somePoint(c.Pin.Size + 3)
		}
		for from := range 21 {
			for _, session := range sessionsAround(c.Session) {
				if session != c.Session || c.Phase != impl.ClVouch {
					silentClient(t, c, 9, ackFrom(from, session, goal), "an ack of another session or in another phase")
					silentClient(t, c, 9, ackFrom(from, session, c.Pin), "an ack of what is pinned")
				}
			}
			for size := range 257 {
				if size != goal.Size {
					silentClient(t, c, 9, ackFrom(from, c.Session, impl.Point{Size: size, Root: goal.Root}), "an ack of another size")
				}
			}
			for _, root := range []impl.Digest{{}, {A: goal.Root.A ^ 1, B: goal.Root.B, C: goal.Root.C, D: goal.Root.D}, {A: goal.Root.A, B: goal.Root.B ^ 1, C: goal.Root.C, D: goal.Root.D}, {A: goal.Root.A, B: goal.Root.B, C: goal.Root.C ^ 1<<63, D: goal.Root.D}, {A: goal.Root.A, B: goal.Root.B, C: goal.Root.C, D: goal.Root.D ^ 1}, c.Pin.Root} {
				silentClient(t, c, 9, ackFrom(from, c.Session, impl.Point{Size: goal.Size, Root: root}), "an ack of another root")
			}
		}
	}
}

// P32: whom the client itself is matters not: an ack of its own number counts just where that is a witness's.
func TestP32Itself(t *testing.T) {
	for _, c := range clientNumbers() {
		c.Session, c.Phase, c.Goal = 5, impl.ClVouch, somePoint(9)
		for me := 1; me <= 20; me++ {
			in := ackFrom(me, 5, c.Goal)
			if err := toldAs(c, me, in); err != nil {
				t.Fatal(err)
			}
			if me > c.Many {
				silentClient(t, c, me, in, "an ack of the client itself")
			} else if got := impl.ClientHear(c, me, in); len(got.Accepted)+len(got.Client.Acks) != 1 {
				t.Errorf("%v, being %d: %v", c, me, shownTold(got))
			}
		}
	}
}

// P32: all orders in which a few nodes acknowledge, each as often as may be.
func TestP32AllOrders(t *testing.T) {
	for _, c := range clientNumbers() {
		if c.Many > 4 {
			continue
		}
		c.Session, c.Phase, c.Goal = 1, impl.ClVouch, somePoint(5)
		allOrders(t, c, nil, 5)
	}
}

// allOrders lets each node acknowledge behind those that did, up to so many more.
func allOrders(t *testing.T, c impl.Client, acked []int, more int) {
	t.Helper()
	for who := range c.Many + 2 {
		got := impl.ClientHear(c, 9, ackFrom(who, 1, somePoint(5)))
		now := append(slices.Clone(acked), who)
		different := map[int]bool{}
		for _, one := range now {
			if one >= 1 && one <= c.Many {
				different[one] = true
			}
		}
		accepts := c.Phase == impl.ClVouch && len(different) == c.Need
		if accepts != (len(got.Accepted) == 1) || (got.Client.Pin == somePoint(5)) != (len(different) >= c.Need) {
			t.Fatalf("need %d of %d, acks of %v: %v", c.Need, c.Many, now, shownTold(got))
		}
		if more > 1 {
			allOrders(t, got.Client, now, more-1)
		}
	}
}

// P32: any order of many witnesses, each once and twice.
func TestP32Orders(t *testing.T) {
	r := newRand()
	for _, start := range clientNumbers() {
		for range 60 {
			c := start
			c.Session, c.Phase, c.Goal = 2, impl.ClVouch, somePoint(1+r.IntN(256))
			goal := c.Goal
			order := r.Perm(c.Many)
			for at, k := range order {
				for again := range 2 {
					in := ackFrom(k+1, 2, goal)
					if err := toldAs(c, 9, in); err != nil {
						t.Fatal(err)
					}
					got := impl.ClientHear(c, 9, in)
					if (at+1 == c.Need && again == 0) != (len(got.Accepted) == 1) {
						t.Fatalf("need %d of %d, order %v at %d: %v", c.Need, c.Many, order, at, shownTold(got))
					}
					c = got.Client
				}
			}
			if c.Pin != goal || c.Phase != impl.ClIdle {
				t.Fatalf("all have acknowledged %v: %v", goal, c)
			}
		}
	}
}

// P32: where one witness is enough, its first ack is.
func TestP32One(t *testing.T) {
	c, ok := impl.ClientNew(1, 1)
	if !ok {
		t.Fatal("no client of one witness")
	}
	for size := 1; size <= 256; size++ {
		c = impl.ClientTick(c, 9).Client
		c = impl.ClientHear(c, 9, headLetter(c.Session, somePoint(size))).Client
		for _, who := range []int{0, 2, 9, 20} {
			silentClient(t, c, 9, ackFrom(who, c.Session, somePoint(size)), "no witness")
		}
		got := impl.ClientHear(c, 9, ackFrom(1, c.Session, somePoint(size)))
		if !slices.Equal(got.Accepted, []impl.Point{somePoint(size)}) {
			t.Fatalf("size %d: %v", size, shownTold(got))
		}
		c = got.Client
	}
	c = impl.ClientTick(c, 9).Client
	silentClient(t, c, 9, headLetter(c.Session, somePoint(256)), "all are pinned")
}

// P32: acks of a former session count for nothing in the next one, also for the same point.
func TestP32SessionsApart(t *testing.T) {
	for _, c := range clientNumbers() {
		goal := somePoint(40)
		for session := 1; session <= 5; session++ {
			c = impl.ClientTick(c, 9).Client
			// What comes ahead of the head counts for nothing either.
			for who := 1; who <= c.Many; who++ {
				silentClient(t, c, 9, ackFrom(who, session, goal), "an ack ahead of the head")
			}
			c = impl.ClientHear(c, 9, headLetter(session, goal)).Client
			for who := 1; who < c.Need; who++ {
				c = impl.ClientHear(c, 9, ackFrom(who, session, goal)).Client
			}
			if len(c.Acks) != c.Need-1 || c.Phase != impl.ClVouch {
				t.Fatalf("session %d: %v", session, c)
			}
			for former := 1; former < session; former++ {
				silentClient(t, c, 9, ackFrom(c.Many, former, goal), "an ack of a former session")
			}
			silentClient(t, c, 9, ackFrom(c.Many, session+1, goal), "an ack of a later session")
		}
		if got := impl.ClientHear(c, 9, ackFrom(c.Many, 5, goal)); !slices.Equal(got.Accepted, []impl.Point{goal}) {
			t.Errorf("need %d of %d: %v", c.Need, c.Many, shownTold(got))
		}
	}
}

// P33: all that was ever heard comes again, in every phase of later sessions.
func TestP33Replayed(t *testing.T) {
	for _, c := range clientNumbers() {
		var heard []impl.Letter
		replay := func(what string) {
			for _, in := range heard {
				silentClient(t, c, 9, in, what)
			}
		}
		hear := func(in impl.Letter) {
			c = impl.ClientHear(c, 9, in).Client
			heard = append(heard, in)
		}
		for round := 1; round <= 4; round++ {
			replay("an old reply to an idle client")
			c = impl.ClientTick(c, 9).Client
			replay("an old reply to one who asked")
			goal := somePoint(10 * round)
			hear(headLetter(c.Session, goal))
			replay("an old reply to one who vouches")
			for who := c.Many; who > c.Many-c.Need; who-- {
				hear(ackFrom(who, c.Session, goal))
				replay("an old reply, or a repeat, while acks come")
			}
			if c.Pin != goal {
				t.Fatalf("%v, and %v was to be pinned", c, goal)
			}
		}
	}
}

// P33: a head below what is pinned, or just that, in the right session.
func TestP33BelowPin(t *testing.T) {
	for _, c := range clientNumbers() {
		c.Session, c.Phase = 6, impl.ClAsked
		for _, c.Pin = range clientPins() {
			for size := range c.Pin.Size {
				for _, root := range []impl.Digest{c.Pin.Root, somePoint(size).Root, {}} {
					silentClient(t, c, 9, headLetter(6, impl.Point{Size: size, Root: root}), "below the pin")
				}
			}
			silentClient(t, c, 9, headLetter(6, c.Pin), "just the pin")
			silentClient(t, c, 9, headLetter(6, impl.Point{Root: slowHash("")}), "no leaves")
		}
	}
}

// P33: behind a goal no other head is heard in the session, be it for more, for less, or another root.
func TestP33OneGoal(t *testing.T) {
	for _, c := range vouchClients() {
		for _, p := range []impl.Point{c.Goal, otherRoot(c.Goal, 0), somePoint(256), c.Pin, otherRoot(c.Pin, 0), somePoint(min(c.Goal.Size+1, 256)), {}} {
			silentClient(t, c, 9, headLetter(c.Session, p), "another head")
		}
	}
}

// P31: a client that is not ok neither ticks nor hears.
func TestP31WrongClients(t *testing.T) {
	wrong := wrongClients()
	if len(wrong) < 2000 {
		t.Error(len(wrong), "clients were not ok")
	}
	for name, c := range wrong {
		letters := []impl.Letter{{}, {From: 3, Text: "no message"}, headLetter(5, somePoint(101)), headLetter(5, somePoint(1)), headLetter(5, otherRoot(somePoint(100), 0))}
		for who := range 4 {
			letters = append(letters, ackFrom(who, 5, somePoint(3)), ackFrom(who, 5, somePoint(103)))
		}
		for _, in := range letters {
			nothingTold(t, c, 9, in, name)
		}
		if got := impl.ClientTick(c, 9); !sameTold(got, impl.Told{}) {
			t.Errorf("%s: %v", name, shownTold(got))
		}
	}
}

// usefulLetters are such as a client in its phase deals with, where there are any.
func usefulLetters(c impl.Client) []impl.Letter {
	return []impl.Letter{headLetter(c.Session, somePoint(c.Pin.Size+1)), headLetter(c.Session, otherRoot(c.Pin, 0)), ackFrom(1, c.Session, c.Goal), ackFrom(c.Many, c.Session, c.Goal)}
}

// P31: a client has the number of a node above 0.
func TestP31WrongNumbers(t *testing.T) {
	for _, c := range fewClients() {
		for _, in := range append(usefulLetters(c), impl.Letter{}) {
			for _, me := range append(wrongNodes(), 0, -20) {
				nothingTold(t, c, me, in, "a wrong number")
				if got := impl.ClientTick(c, me); !sameTold(got, impl.Told{}) {
					t.Errorf("being %d: %v", me, shownTold(got))
				}
			}
			for me := 1; me <= 20; me++ {
				if err := toldAs(c, me, in); err != nil {
					t.Fatal(err)
				}
				if err := ticksAs(c, me); err != nil {
					t.Fatal(err)
				}
			}
		}
	}
}

// P33: a letter that is not ok, also one with a message that would be heard.
func TestP33WrongLetters(t *testing.T) {
	for _, c := range fewClients() {
		for name, in := range wrongLetters() {
			nothingTold(t, c, 9, in, name)
		}
		for _, in := range usefulLetters(c) {
			for _, node := range wrongNodes() {
				wrong := in
				wrong.From = node
				nothingTold(t, c, 9, wrong, "a wrong From")
				wrong = in
				wrong.To = node
				nothingTold(t, c, 9, wrong, "a wrong To")
			}
			long := in
			long.Text += strings.Repeat("\x00", impl.WireMaxText+1-len(in.Text))
			nothingTold(t, c, 9, long, "a text that is too long")
		}
	}
}

// P33: a text that is no message's: nothing comes of it, and the client stays.
func TestP33NoMessages(t *testing.T) {
	clients := append(fewClients(), impl.Client{Need: 1, Many: 1})
	for _, c := range clients {
		for _, text := range []string{"", "\x00", "\x01", "\x02", "\x06", "\x09", "no message", strings.Repeat("\x02", impl.WireMaxText), strings.Repeat(blank, impl.WireMaxText)} {
			for from := range 21 {
				silentClient(t, c, 9, impl.Letter{From: from, Text: text}, "no message")
			}
		}
		if c.Session == 0 {
			continue
		}
		for _, in := range usefulLetters(c) {
			for end := range len(in.Text) {
				silentClient(t, c, 9, impl.Letter{From: in.From, Text: in.Text[:end]}, "a message cut short")
			}
			for _, more := range []string{"\x00", "\x01", blank, in.Text} {
				silentClient(t, c, 9, impl.Letter{From: in.From, Text: in.Text + more}, "a message with more")
			}
			for first := range 256 {
				other := impl.Letter{From: in.From, Text: string([]byte{byte(first)}) + in.Text[1:]}
				if err := toldAs(c, 9, other); err != nil {
					t.Fatal(err)
				}
			}
			silentClient(t, c, 9, impl.Letter{From: in.From, Text: in.Text[:1] + "\x00\x00\x00" + in.Text[4:]}, "session 0")
			silentClient(t, c, 9, impl.Letter{From: in.From, Text: in.Text[:4] + "\x01\x01" + in.Text[6:]}, "a size that is too great")
		}
	}
}

// P33: kinds that a client does not hear, from whomever, with its session and its points too.
func TestP33OtherKinds(t *testing.T) {
	messages := append(someMessages(), greatestMessages()...)
	for _, c := range fewClients() {
		known := slices.Clone(messages)
		for _, p := range []impl.Point{c.Goal, c.Pin, somePoint(c.Pin.Size + 1), otherRoot(c.Pin, 0)} {
			for _, kind := range []int{impl.MsHead, impl.MsVouch, impl.MsAck} {
				known = append(known, impl.Message{Kind: kind, Session: c.Session, Size: p.Size, Root: p.Root})
			}
			known = append(known, proveOf(c.Pin.Size, p.Size), impl.Message{Kind: impl.MsGrowth, From: c.Pin.Size, Size: p.Size}, fetchOf(c.Pin.Size, 1), askOf(c.Session))
		}
		for k, m := range known {
			for from := range 3 {
				in := impl.Letter{From: from, Text: layMessage(m).text}
				if m.Kind != impl.MsHead && m.Kind != impl.MsAck || m.Session != c.Session {
					silentClient(t, c, 9, in, fmt.Sprint("kind ", m.Kind))
				} else if err := toldAs(c, 1+k%20, in); err != nil {
					t.Fatal(err)
				}
			}
		}
	}
}

// P33: to whom a letter is sent makes no difference; from whom it comes does.
func TestP33AllNodes(t *testing.T) {
	for _, c := range fewClients() {
		for _, useful := range usefulLetters(c) {
			for from := range 21 {
				var first impl.Told
				for to := range 21 {
					in := impl.Letter{From: from, To: to, Text: useful.Text}
					if err := toldAs(c, 9, in); err != nil {
						t.Fatal(err)
					}
					got := impl.ClientHear(c, 9, in)
					if to == 0 {
						first = got
					}
					if !sameTold(got, first) {
						t.Fatalf("%v, from %d to %d: %v", c, from, to, shownTold(got))
					}
				}
			}
		}
	}
}

// clientPlay is a client among what an honest log, witnesses and others say, in any order.
type clientPlay struct {
	r      *rand.Rand
	client impl.Client
	// acked are the witnesses that have acknowledged the goal since it is one.
	acked map[int]bool
	// accepted are all points that ever were, in order.
	accepted []impl.Point
	met      map[string]int
}

func (p *clientPlay) hear(in impl.Letter) (impl.Told, error) {
	if err := toldAs(p.client, 9, in); err != nil {
		return impl.Told{}, err
	}
	got := impl.ClientHear(p.client, 9, in)
	if !impl.LetterOk(in) {
		// Nothing comes of it, not even the client.
		return got, nil
	}
	return got, p.count(in, got)
}

// count keeps its own list of who acknowledged, and holds what was accepted against it.
func (p *clientPlay) count(in impl.Letter, got impl.Told) error {
	m, _ := impl.WireRead(in.Text)
	was := p.client
	p.client = got.Client
	if m.Kind == impl.MsAck && m.Session == was.Session && was.Phase == impl.ClVouch && (impl.Point{Size: m.Size, Root: m.Root}) == was.Goal && in.From >= 1 && in.From <= was.Many {
		p.acked[in.From] = true
	}
	if enough := was.Phase == impl.ClVouch && len(p.acked) == was.Need; enough != (len(got.Accepted) == 1) {
		return fmt.Errorf("need %d, %v have acknowledged, accepted are %v", was.Need, p.acked, got.Accepted)
	}
	for _, one := range got.Accepted {
		if len(p.accepted) > 0 && one.Size <= p.accepted[len(p.accepted)-1].Size {
			return fmt.Errorf("%v is accepted behind %v", one, p.accepted)
		}
		p.accepted = append(p.accepted, one)
	}
	if got.Client.Phase != impl.ClVouch || was.Phase != impl.ClVouch {
		p.acked = map[int]bool{}
	}
	p.met["accepted"] += len(got.Accepted)
	p.met["alarms"] += len(got.Alarms)
	p.met["letters"] += len(got.Letters)
	return nil
}

func (p *clientPlay) tick() ([]impl.Letter, error) {
	if err := ticksAs(p.client, 9); err != nil {
		return nil, err
	}
	got := impl.ClientTick(p.client, 9)
	if got.Client.Session != p.client.Session {
		p.acked = map[int]bool{}
	}
	p.client = got.Client
	return got.Letters, nil
}

// hostileWord is near what the client knows, so that something comes of it.
func (p *clientPlay) hostileWord() impl.Letter {
	c, r := p.client, p.r
	size := min(max(c.Pin.Size+r.IntN(4)-1, 0), 256)
	point := somePoint(size)
	if r.IntN(6) == 0 {
		point = otherRoot(point, r.IntN(2))
	}
	session := max(c.Session, 1)
	if r.IntN(8) == 0 {
		session = 1 + r.IntN(session)
	}
	in := headLetter(session, point)
	if c.Phase == impl.ClVouch && r.IntN(4) > 0 || r.IntN(8) == 0 {
		if r.IntN(4) > 0 {
			point = c.Goal
		}
		in = ackFrom(r.IntN(c.Many+2), session, point)
	}
	if r.IntN(12) == 0 {
		in.Text = changed(r, in.Text)
	}
	if r.IntN(20) == 0 {
		in.From = r.IntN(22) - 1
	}
	return in
}

// P31, P32, P33: anybody says anything, in any order; what is accepted was acknowledged by Need witnesses in the session, and grows.
func TestP32HostileHistories(t *testing.T) {
	met := map[string]int{}
	for seed := range uint64(96) {
		start := clientNumbers()[seed%16]
		play := clientPlay{r: rand.New(rand.NewPCG(seed, 10)), client: start, acked: map[int]bool{}, met: met}
		if seed%5 == 4 {
			play.client.Session = impl.WireMaxSession - 20
		}
		for step := range 600 {
			var err error
			if play.r.IntN(15) == 0 || play.client.Phase == impl.ClIdle && play.r.IntN(3) == 0 {
				_, err = play.tick()
			} else {
				_, err = play.hear(play.hostileWord())
			}
			if err != nil {
				t.Fatalf("seed %d, step %d: %v", seed, step, err)
			}
		}
	}
	for _, what := range []string{"accepted", "alarms", "letters"} {
		if met[what] < 100 {
			t.Errorf("%s were not met: %v", what, met)
		}
	}
}

// belief is an honest log, witnesses and a client, and what is in flight between them.
type belief struct {
	clientPlay
	s         slowLog
	log       impl.Log
	witnesses []impl.Witness
	flight    []impl.Letter
}

func newBelief(seed uint64, s slowLog, start impl.Client) *belief {
	play := clientPlay{r: rand.New(rand.NewPCG(seed, 11)), client: start, acked: map[int]bool{}, met: map[string]int{}}
	return &belief{clientPlay: play, s: s, witnesses: make([]impl.Witness, start.Many+1)}
}

// step adds a leaf, lets the client tick, or delivers, doubles or drops a letter.
func (b *belief) step() error {
	n := len(b.log.Leaves)
	switch kind := b.r.IntN(12); {
	case kind == 0 && n < mostLeaves:
		b.log, _ = impl.LogAdd(b.log, b.s.leaves[n])
	case kind == 1 && b.r.IntN(4) == 0:
		letters, err := b.tick()
		b.flight = append(b.flight, letters...)
		return err
	case len(b.flight) == 0:
	case kind == 2:
		b.flight = append(b.flight, b.flight[b.r.IntN(len(b.flight))])
	default:
		at := b.r.IntN(len(b.flight))
		in := b.flight[at]
		b.flight = slices.Delete(b.flight, at, at+1)
		if kind > 3 {
			return b.deliver(in)
		}
	}
	return nil
}

func (b *belief) deliver(in impl.Letter) error {
	switch {
	case in.To == 0:
		if answer, ok := impl.LogHear(b.log, in); ok {
			b.flight = append(b.flight, answer)
		}
	case in.To < len(b.witnesses):
		heard := impl.WitnessHear(b.witnesses[in.To], in.To, in)
		b.witnesses[in.To] = heard.Witness
		b.flight = append(b.flight, heard.Letters...)
	case in.To == 9:
		told, err := b.hear(in)
		if err != nil {
			return err
		}
		if len(told.Alarms) != 0 {
			return fmt.Errorf("alarms: %v", told.Alarms)
		}
		b.flight = append(b.flight, told.Letters...)
		return b.believed(told.Accepted)
	}
	return nil
}

// believed wants points of the log that Need witnesses hold, or hold more than.
func (b *belief) believed(accepted []impl.Point) error {
	for _, p := range accepted {
		if p != b.s.book.point(p.Size) || p.Size > len(b.log.Leaves) {
			return fmt.Errorf("%v is accepted, and the log never was at it", p)
		}
		held := 0
		for _, w := range b.witnesses[1:] {
			if impl.WitnessHeld(w.Disk).Size >= p.Size {
				held++
			}
		}
		if held < b.client.Need {
			return fmt.Errorf("%v is accepted, and %d witnesses hold it", p, held)
		}
	}
	return nil
}

// quiet delivers all that is in flight in order, round by round.
func (b *belief) quiet() error {
	for range 8 {
		flight := b.flight
		b.flight = nil
		for _, in := range flight {
			if err := b.deliver(in); err != nil {
				return err
			}
		}
	}
	return nil
}

// P31, P32, P33: an honest log and honest witnesses, a network that drops, doubles and turns around: no alarm, and in the quiet the client has the log's point.
func TestP32HonestHistories(t *testing.T) {
	s := wholeLog()
	accepted := 0
	for seed := range uint64(64) {
		start := clientNumbers()[seed%16]
		b := newBelief(seed, s, start)
		for step := range 900 {
			if err := b.step(); err != nil {
				t.Fatalf("seed %d, step %d: %v", seed, step, err)
			}
		}
		for range 2 {
			letters, err := b.tick()
			b.flight = letters
			if err == nil {
				err = b.quiet()
			}
			if err != nil {
				t.Fatalf("seed %d, in the quiet: %v", seed, err)
			}
		}
		if b.client.Pin != s.book.point(len(b.log.Leaves)) {
			t.Errorf("seed %d: %v is pinned, and the log has %d leaves", seed, b.client.Pin, len(b.log.Leaves))
		}
		accepted += len(b.accepted)
	}
	if accepted < 100 {
		t.Error(accepted, "points were accepted")
	}
}

// laidClient has acknowledgements ahead of marks.
type laidClient struct {
	client impl.Client
	whole  []int
}

func layClient(c impl.Client) laidClient {
	out := laidClient{client: c}
	out.client.Acks, out.whole = withRoom(c.Acks, 7)
	return out
}

// untouched wants the acknowledgements, and behind them the marks.
func (l laidClient) untouched(c impl.Client) bool {
	_, want := withRoom(c.Acks, 7)
	return slices.Equal(l.whole, want)
}

// scribbleTold writes over all lists, spare room included.
func scribbleTold(told impl.Told) {
	scribbleList(told.Client.Acks, 77)
	scribbleLetters(told.Letters)
	scribbleList(told.Alarms, impl.Alarm{Kind: 77})
	scribbleList(told.Accepted, impl.Point{Size: 77})
}

// clientCase is a client and a letter.
type clientCase struct {
	client impl.Client
	in     impl.Letter
}

func clientCases() map[string]clientCase {
	asked := impl.Client{Need: 4, Many: 7, Session: 5, Phase: impl.ClAsked, Pin: somePoint(3)}
	vouching := impl.Client{Need: 4, Many: 7, Session: 5, Phase: impl.ClVouch, Goal: somePoint(9), Pin: somePoint(3)}
	with := func(acks ...int) impl.Client {
		c := vouching
		c.Acks = acks
		return c
	}
	wrong := with(2, 4, 6)
	wrong.Need = 3
	return map[string]clientCase{
		"a goal":                {asked, headLetter(5, somePoint(9))},
		"a fork":                {asked, headLetter(5, otherRoot(somePoint(3), 0))},
		"below":                 {asked, headLetter(5, somePoint(2))},
		"the first ack":         {with(), ackFrom(5, 5, somePoint(9))},
		"an ack ahead":          {with(2, 4), ackFrom(1, 5, somePoint(9))},
		"an ack between":        {with(2, 4), ackFrom(3, 5, somePoint(9))},
		"an ack behind":         {with(2, 4), ackFrom(7, 5, somePoint(9))},
		"the last ack, ahead":   {with(2, 4, 6), ackFrom(1, 5, somePoint(9))},
		"the last ack, between": {with(2, 4, 6), ackFrom(5, 5, somePoint(9))},
		"the last ack, behind":  {with(2, 4, 6), ackFrom(7, 5, somePoint(9))},
		"an ack once more":      {with(2, 4, 6), ackFrom(4, 5, somePoint(9))},
		"another point's ack":   {with(2, 4, 6), ackFrom(1, 5, somePoint(8))},
		"no message":            {with(2, 4, 6), impl.Letter{From: 1, Text: "none"}},
		"nothing":               {wrong, ackFrom(1, 5, somePoint(9))},
		"a client of the last session": {
			impl.Client{Need: 3, Many: 3, Session: impl.WireMaxSession, Phase: impl.ClVouch, Goal: somePoint(9), Acks: []int{1, 3}}, ackFrom(1, 5, somePoint(9)),
		},
	}
}

func TestClientWritesNoArgument(t *testing.T) {
	for name, one := range clientCases() {
		laid := layClient(one.client)
		impl.ClientOk(laid.client)
		ticked, heard := impl.ClientTick(laid.client, 9), impl.ClientHear(laid.client, 9, one.in)
		if !sameTold(ticked, slowClientTick(one.client, 9)) || !sameTold(heard, slowClientHear(one.client, 9, one.in)) || !laid.untouched(one.client) {
			t.Errorf("%s: the acks are written into, or %v and %v come", name, shownTold(ticked), shownTold(heard))
		}
	}
	for _, c := range vouchClients() {
		laid := layClient(c)
		impl.ClientOk(laid.client)
		impl.ClientTick(laid.client, 9)
		for who := range c.Many + 2 {
			impl.ClientHear(laid.client, 9, ackFrom(who, c.Session, c.Goal))
		}
		if !laid.untouched(c) {
			t.Fatalf("the acks are written into: %v", c)
		}
	}
}

// What comes stays when the acks and the letter are written over.
func TestClientAnswersAreNewMemory(t *testing.T) {
	for name, one := range clientCases() {
		laid, text := layClient(one.client), []byte(one.in.Text)
		ticked := impl.ClientTick(laid.client, 9)
		heard := impl.ClientHear(laid.client, 9, impl.Letter{From: one.in.From, To: one.in.To, Text: textOver(text)})
		clear(text)
		scribbleList(laid.whole, 5)
		if !sameTold(ticked, slowClientTick(one.client, 9)) || !sameTold(heard, slowClientHear(one.client, 9, one.in)) {
			t.Errorf("%s: what came is another when what was given is written over: %v, %v", name, shownTold(ticked), shownTold(heard))
		}
	}
}

// What came is written over, list by list, spare room included: that is to be seen in no other list, not in the acks, and not in what comes next.
func TestClientAnswersShareNothing(t *testing.T) {
	for name, one := range clientCases() {
		for what, ask := range map[string]func(impl.Client) impl.Told{
			"a letter": func(c impl.Client) impl.Told { return impl.ClientHear(c, 9, one.in) },
			"a tick":   func(c impl.Client) impl.Told { return impl.ClientTick(c, 9) },
		} {
			laid := layClient(one.client)
			want := ask(one.client)
			first, second := ask(laid.client), ask(laid.client)
			scribbleTold(first)
			if !laid.untouched(one.client) || !sameTold(second, want) || !sameTold(ask(laid.client), want) {
				t.Errorf("%s, %s: what came shares memory", name, what)
			}
			toldApart(t, name+", "+what, second, want)
		}
	}
}

// toldApart writes over one list after the other, and looks for it in those that are still as they came.
func toldApart(t *testing.T, name string, got, want impl.Told) {
	t.Helper()
	for k, over := range []func(){
		func() { scribbleList(got.Client.Acks, 77); want.Client.Acks, got.Client.Acks = nil, nil },
		func() { scribbleLetters(got.Letters); want.Letters, got.Letters = nil, nil },
		func() { scribbleList(got.Alarms, impl.Alarm{Kind: 77}); want.Alarms, got.Alarms = nil, nil },
		func() { scribbleList(got.Accepted, impl.Point{Size: 77}); want.Accepted, got.Accepted = nil, nil },
	} {
		over()
		if !sameTold(got, want) {
			t.Errorf("%s: list %d shares memory with another", name, k)
		}
	}
}

// Two clients that come of one do not come into each other's way, also where the list of acks has room behind its end.
func TestClientsGoOnApart(t *testing.T) {
	start := impl.Client{Need: 7, Many: 7, Session: 5, Phase: impl.ClVouch, Goal: somePoint(9)}
	for who := 1; who <= 5; who++ {
		start = impl.ClientHear(start, 9, ackFrom(who, 5, somePoint(9))).Client
		ahead := slices.Clone(start.Acks)
		left := impl.ClientHear(start, 9, ackFrom(6, 5, somePoint(9)))
		right := impl.ClientHear(start, 9, ackFrom(7, 5, somePoint(9)))
		same := impl.ClientHear(start, 9, ackFrom(who, 5, somePoint(9)))
		wantRight, wantSame := slowClientHear(start, 9, ackFrom(7, 5, somePoint(9))), impl.Told{Client: sameAsClient(start)}
		scribbleTold(left)
		if !slices.Equal(start.Acks, ahead) || !sameTold(right, wantRight) || !sameTold(same, wantSame) {
			t.Errorf("%d acks: they come into each other's way", who)
		}
		scribbleTold(same)
		if !slices.Equal(start.Acks, ahead) {
			t.Errorf("%d acks: a client that stays shares its acks", who)
		}
	}
	last := impl.Client{Need: 3, Many: 3, Session: impl.WireMaxSession, Phase: impl.ClVouch, Goal: somePoint(9), Acks: []int{1, 3}}
	scribbleTold(impl.ClientTick(last, 9))
	if !slices.Equal(last.Acks, []int{1, 3}) {
		t.Error("a tick behind the last session shares the acks:", last.Acks)
	}
}
