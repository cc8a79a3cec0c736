package tests

import (
	"bytes"
	"fmt"
	"strconv"
	"strings"
	"testing"

	"loop.example/g00726/impl"
)

// handshake opens the end 0 to the end 1, which listens, and leaves nothing in flight.
const handshake = "open0 poll0 come:0 poll1 come:0 poll0 come:0 "

var stateNames = []string{"closed", "listen", "synsent", "synrcvd", "open", "finwait1", "finwait2", "closewait", "closing", "lastack", "timewait"}

var kindNames = []string{"", "open", "send", "recv", "close", "abort", "poll", "wait", "come", "lose", "copy"}

// A play is two ends and what comes to them, told by words. Where it is turned, the sides are changed: what is said of the end 0 is done to the end 1.
type play struct {
	t        *testing.T
	name     string
	isTurned bool
	configs  [2]impl.EndConfig
	events   []impl.Event
	pair     impl.Pair
}

// The first numbers with which each play is played: what it tells is counted from them.
var firstNumbers = [][2]int64{{100, 300}, {4294967295, 0}, {4294967290, 4294967295}, {2147483647, 2147483645}}

func twoEnds() [2]impl.EndConfig {
	return [2]impl.EndConfig{
		{Port: 5000, SendCap: 50, RecvCap: 20, Mss: 10},
		{Port: 80, SendCap: 50, RecvCap: 20, Mss: 10, Listens: true},
	}
}

// inAllPlays plays it with all first numbers and from both sides, as long as nothing fails.
func inAllPlays(t *testing.T, name string, configs [2]impl.EndConfig, act func(*play)) {
	t.Helper()
	for i, first := range firstNumbers {
		for _, isTurned := range []bool{false, true} {
			if t.Failed() {
				return
			}
			p := &play{t: t, name: fmt.Sprintf("%s (first numbers %d, turned %t)", name, i, isTurned), isTurned: isTurned, configs: configs}
			p.configs[0].First, p.configs[1].First = first[0], first[1]
			p.run()
			act(p)
			checkSteps(t, p.name, p.config(0), p.config(1), p.events)
		}
	}
}

// side tells which end of the pair is meant.
func (p *play) side(side int64) int64 {
	if p.isTurned {
		return 1 - side
	}
	return side
}

func (p *play) config(side int64) impl.EndConfig {
	return p.configs[p.side(side)]
}

func (p *play) end(side int64) impl.End {
	return p.pair.Ends[p.side(side)]
}

func (p *play) run() {
	p.t.Helper()
	result := impl.RunPair(p.config(0), p.config(1), p.events)
	if result.Code != impl.OK || len(result.Pair.Ends) != 2 || len(result.Pair.Replies) != len(p.events) {
		p.t.Fatalf("%s: RunPair has the code %d, %d ends and %d replies to %d events", p.name, result.Code, len(result.Pair.Ends), len(result.Pair.Replies), len(p.events))
	}
	p.pair = result.Pair
}

// do lets come what the words tell: a kind and a side or nothing, and, behind a colon, a number or bytes.
func (p *play) do(words string) *play {
	p.t.Helper()
	for _, word := range strings.Fields(words) {
		e := eventOf(p.t, word)
		if e.Kind <= impl.EvPoll {
			e.Side = p.side(e.Side)
		}
		p.events = append(p.events, e)
	}
	p.run()
	return p
}

func eventOf(t *testing.T, word string) impl.Event {
	t.Helper()
	name, rest, _ := strings.Cut(word, ":")
	bare := strings.TrimRight(name, "01")
	for kind, kindName := range kindNames {
		if kind == 0 || bare != kindName {
			continue
		}
		e := impl.Event{Kind: int64(kind)}
		if bare != name {
			e.Side = int64(name[len(name)-1] - '0')
		}
		if e.Kind == impl.EvSend {
			e.Data = []byte(rest)
		} else if rest != "" {
			n, err := strconv.ParseInt(rest, 10, 64)
			if err != nil {
				t.Fatal(err)
			}
			e.N = n
		}
		return e
	}
	t.Fatal("no event: ", word)
	return impl.Event{}
}

func (p *play) fail(what string, got any, want any) {
	p.t.Helper()
	p.t.Errorf("%s, behind %s: %s: %v; want %v", p.name, nameEvents(p.events), what, got, want)
}

// wantReply is of the last event.
func (p *play) wantReply(code int64, value int64, data string) *play {
	p.t.Helper()
	got := p.pair.Replies[len(p.pair.Replies)-1]
	if got.Code != code || got.Value != value || string(got.Bytes) != data {
		p.fail("the reply", got, impl.Reply{Code: code, Value: value, Bytes: []byte(data)})
	}
	return p
}

// wantEnd is told by the name of the state, and by such of the others as matter.
func (p *play) wantEnd(side int64, words string) *play {
	p.t.Helper()
	e := p.end(side)
	for _, word := range strings.Fields(words) {
		name, want, _ := strings.Cut(word, "=")
		if !strings.Contains(word, "=") {
			name, want = "state", word
		}
		if got := fieldOf(e, name); got != want {
			p.fail(fmt.Sprintf("end %d: %s", side, name), got, want)
		}
	}
	return p
}

func fieldOf(e impl.End, name string) string {
	switch name {
	case "state":
		return stateNames[e.State]
	case "out":
		return string(e.Out)
	case "closes":
		return fmt.Sprint(e.Closes)
	case "pieces":
		words := []string{}
		for _, one := range e.Pieces {
			words = append(words, fmt.Sprintf("%d:%s", one.At, one.Data))
		}
		return strings.Join(words, ",")
	}
	numbers := map[string]int64{"acked": e.Acked, "sent": e.Sent, "top": e.Top, "got": e.Got, "read": e.Read, "free": e.Free, "window": e.Window, "tries": e.Tries, "waits": e.Waits, "why": e.Why}
	number, isThere := numbers[name]
	if !isThere {
		return "no field"
	}
	return fmt.Sprint(number)
}

// wantFlights is told by one text a flight: the side to which it flies, flags, and its numbers, counted from the first ones.
func (p *play) wantFlights(want ...string) *play {
	p.t.Helper()
	got := []string{}
	for _, f := range p.pair.Flights {
		got = append(got, p.nameFlight(f))
	}
	if strings.Join(got, "|") != strings.Join(want, "|") {
		p.fail("what flies", got, want)
	}
	return p
}

func (p *play) nameFlight(f impl.Flight) string {
	to, s := p.side(f.Side), f.Segment
	name := fmt.Sprintf("%d:", to)
	for i, flag := range []int64{impl.FlagSyn, impl.FlagFin, impl.FlagRst, impl.FlagPsh, impl.FlagAck} {
		if hasFlag(s.Flags, flag) {
			name += "SFRPA"[i : i+1]
		}
	}
	if s.Flags == impl.FlagRst+impl.FlagAck {
		// It answers what had no answer, and its number is 0, whatever the first one was.
		name += fmt.Sprintf(" =%d", s.Seq)
	} else {
		name += fmt.Sprintf(" %d", uint32(s.Seq-p.configs[1-to].First))
	}
	if hasFlag(s.Flags, impl.FlagAck) {
		name += fmt.Sprintf(" a%d", uint32(s.Ack-p.configs[to].First))
	}
	name += fmt.Sprintf(" w%d", s.Window)
	if s.Mss != 0 {
		name += fmt.Sprintf(" m%d", s.Mss)
	}
	if len(s.Data) > 0 {
		name += " " + string(s.Data)
	}
	return name
}

// wantNothingTurned asks that the last event left all as it was, but for its reply.
func (p *play) wantNothingTurned() *play {
	p.t.Helper()
	ahead := impl.RunPair(p.config(0), p.config(1), p.events[:len(p.events)-1]).Pair
	ahead.Replies = p.pair.Replies
	if !arePairs(ahead, p.pair) {
		p.fail("something was turned", namePair(p.pair), namePair(ahead))
	}
	return p
}

func nameEvents(events []impl.Event) string {
	words := []string{}
	for _, e := range events {
		name := fmt.Sprint(e)
		if e.Kind > 0 && e.Kind < int64(len(kindNames)) {
			name = kindNames[e.Kind]
			if e.Kind <= impl.EvPoll {
				name += fmt.Sprint(e.Side)
			}
			if len(e.Data) > 20 {
				name += fmt.Sprintf(":%d bytes", len(e.Data))
			} else if len(e.Data) > 0 {
				name += fmt.Sprintf(":%q", e.Data)
			} else if e.N != 0 || e.Kind >= impl.EvWait || e.Kind == impl.EvRecv {
				name += fmt.Sprintf(":%d", e.N)
			}
		}
		words = append(words, name)
	}
	return strings.Join(words, " ")
}

func nameEnd(e impl.End) string {
	return fmt.Sprintf("{%d acked %d sent %d top %d got %d read %d out %q closes %t free %d window %d pieces %s tries %d waits %d why %d}",
		e.State, e.Acked, e.Sent, e.Top, e.Got, e.Read, e.Out, e.Closes, e.Free, e.Window, namePieces(e.Pieces), e.Tries, e.Waits, e.Why)
}

func namePair(p impl.Pair) string {
	text := fmt.Sprintf("at %d\n", p.Now)
	for _, e := range p.Ends {
		text += nameEnd(e) + "\n"
	}
	for _, f := range p.Flights {
		text += fmt.Sprintf("to %d: %s\n", f.Side, nameSegment(f.Segment))
	}
	return text + fmt.Sprint(p.Replies)
}

// areEnds and arePairs do not lean on SameEnds and SamePairs, which are themselves asked.
func areEnds(a impl.End, b impl.End) bool {
	numbers := func(e impl.End) [11]int64 {
		return [11]int64{e.State, e.Acked, e.Sent, e.Top, e.Got, e.Read, e.Free, e.Window, e.Tries, e.Waits, e.Why}
	}
	return numbers(a) == numbers(b) && a.Closes == b.Closes && bytes.Equal(a.Out, b.Out) && arePieces(a.Pieces, b.Pieces)
}

func areSegments(a impl.Segment, b impl.Segment) bool {
	numbers := func(s impl.Segment) [7]int64 {
		return [7]int64{s.FromPort, s.ToPort, s.Seq, s.Ack, s.Flags, s.Window, s.Mss}
	}
	return numbers(a) == numbers(b) && bytes.Equal(a.Data, b.Data)
}

func areReplies(a []impl.Reply, b []impl.Reply) bool {
	if len(a) != len(b) {
		return false
	}
	for i := range a {
		if a[i].Code != b[i].Code || a[i].Value != b[i].Value || !bytes.Equal(a[i].Bytes, b[i].Bytes) {
			return false
		}
	}
	return true
}

func arePairs(a impl.Pair, b impl.Pair) bool {
	if a.Now != b.Now || len(a.Ends) != len(b.Ends) || len(a.Flights) != len(b.Flights) {
		return false
	}
	for i := range a.Ends {
		if !areEnds(a.Ends[i], b.Ends[i]) {
			return false
		}
	}
	for i := range a.Flights {
		if a.Flights[i].Side != b.Flights[i].Side || !areSegments(a.Flights[i].Segment, b.Flights[i].Segment) {
			return false
		}
	}
	return areReplies(a.Replies, b.Replies)
}

// checkSteps holds the pair behind each event against the model and against what is promised of it; what was done ahead stays, whatever follows.
func checkSteps(t *testing.T, call string, a impl.EndConfig, b impl.EndConfig, events []impl.Event) {
	t.Helper()
	configs := [2]impl.EndConfig{a, b}
	model := newModelPair(a, b)
	whole := impl.RunPair(a, b, events).Pair
	var last impl.Pair
	for count := 0; count <= len(events); count++ {
		got := impl.RunPair(a, b, events[:count])
		where := fmt.Sprintf("%s: %v, %v, behind %s", call, a, b, nameEvents(events[:count]))
		if want := model.told(); got.Code != impl.OK || !arePairs(got.Pair, want) {
			t.Fatalf("%s: code %d\n%s\nwant\n%s", where, got.Code, namePair(got.Pair), namePair(want))
		}
		if !areReplies(got.Pair.Replies, whole.Replies[:count]) {
			t.Fatalf("%s: the replies hang on what comes later", where)
		}
		checkPair(t, where, configs, got.Pair)
		if count > 0 {
			checkStep(t, where, last, got.Pair)
		}
		last = got.Pair
		if count < len(events) {
			model.turn(events[count])
		}
	}
}

func checkPair(t *testing.T, where string, configs [2]impl.EndConfig, p impl.Pair) {
	t.Helper()
	for side, e := range p.Ends {
		checkEnd(t, fmt.Sprintf("%s: end %d", where, side), configs[side], e, p.Ends[1-side])
	}
	if len(p.Flights) > 30 {
		t.Errorf("%s: %d flights", where, len(p.Flights))
	}
	for _, f := range p.Flights {
		s, to, from := f.Segment, configs[f.Side], configs[1-f.Side]
		if impl.SegmentFault(s) != impl.OK || s.ToPort != to.Port || s.FromPort != from.Port {
			t.Errorf("%s: this flies: %s", where, nameSegment(s))
		}
		heard := int64(uint32(s.Ack - to.First))
		if hasFlag(s.Flags, impl.FlagAck) && heard > p.Ends[f.Side].Top {
			t.Errorf("%s: this tells that what was not sent was heard: %s", where, nameSegment(s))
		}
	}
}

func checkEnd(t *testing.T, where string, config impl.EndConfig, e impl.End, other impl.End) {
	t.Helper()
	all := int64(len(e.Out)) + 1
	if e.Closes {
		all++
	}
	if e.Acked < 0 || e.Acked > e.Sent || e.Sent > e.Top || e.Top > all {
		t.Errorf("%s: Acked, Sent, Top and all are %d, %d, %d and %d", where, e.Acked, e.Sent, e.Top, all)
	}
	if e.Got > other.Top || e.Acked > other.Got {
		t.Errorf("%s: Got is %d, Acked %d; the other one's Top is %d, Got %d", where, e.Got, e.Acked, other.Top, other.Got)
	}
	waiting := int64(len(e.Out)) - max(e.Acked-1, 0)
	if waiting > config.SendCap || len(e.Out) > 400 {
		t.Errorf("%s: %d of %d bytes wait to be heard", where, waiting, len(e.Out))
	}
	if e.Free < 0 || e.Free > config.RecvCap || impl.PiecesFault(e.Pieces) != impl.OK {
		t.Errorf("%s: Free is %d, Pieces are %s", where, e.Free, namePieces(e.Pieces))
	}
	if count := len(e.Pieces); count > 0 && e.Pieces[count-1].At+int64(len(e.Pieces[count-1].Data)) > e.Free {
		t.Errorf("%s: Pieces go beyond what is Free, %d: %s", where, e.Free, namePieces(e.Pieces))
	}
	if isBroken := e.Why != impl.OK && (e.Why != impl.ErrReset || e.State != impl.StateClosed); isBroken {
		t.Errorf("%s: Why is %d", where, e.Why)
	}
}

// checkStep asks for what never goes back.
func checkStep(t *testing.T, where string, ahead impl.Pair, p impl.Pair) {
	t.Helper()
	for side, e := range p.Ends {
		was := ahead.Ends[side]
		isBack := e.Acked < was.Acked || e.Top < was.Top || e.Got < was.Got || e.Read < was.Read || e.Got+e.Free < was.Got+was.Free
		if isBack || was.Closes && !e.Closes || !bytes.HasPrefix(e.Out, was.Out) {
			t.Errorf("%s: end %d goes back from %s to %s", where, side, nameEnd(was), nameEnd(e))
		}
	}
}
