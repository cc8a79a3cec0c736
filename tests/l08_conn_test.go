package tests

import (
	"bytes"
	"fmt"
	"math"
	"strings"
	"testing"

	"loop.example/g00726/impl"
)

func TestP1Constants8(t *testing.T) {
	got := []int64{
		impl.StateClosed, impl.StateListen, impl.StateSynSent, impl.StateSynRcvd, impl.StateOpen, impl.StateFinWait1, impl.StateFinWait2, impl.StateCloseWait, impl.StateClosing, impl.StateLastAck, impl.StateTimeWait,
		impl.FirstWait, impl.LongestWait, impl.QuietTime, impl.MaxTries, impl.MaxBurst, impl.MaxCap, impl.MaxTotal, impl.MaxFlights, impl.MaxEvents,
		impl.EvOpen, impl.EvSend, impl.EvRecv, impl.EvClose, impl.EvAbort, impl.EvPoll, impl.EvWait, impl.EvCome, impl.EvLose, impl.EvCopy,
	}
	want := []int64{0, 1, 2, 3, 4, 5, 6, 7, 8, 9, 10, 1000, 16000, 60000, 8, 4, 200, 400, 30, 150, 1, 2, 3, 4, 5, 6, 7, 8, 9, 10}
	if fmt.Sprint(got) != fmt.Sprint(want) {
		t.Errorf("the constants are %v; want %v", got, want)
	}
}

func fineEnd() impl.EndConfig {
	return impl.EndConfig{Port: 5000, First: 77, SendCap: 50, RecvCap: 20, Mss: 10}
}

func fineOther() impl.EndConfig {
	return impl.EndConfig{Port: 80, First: 99, SendCap: 50, RecvCap: 20, Mss: 10, Listens: true}
}

// An endField is a number of a config, and what it may be.
type endField struct {
	name            string
	lowest, highest int64
	turn            func(*impl.EndConfig, int64)
}

func endFields() []endField {
	return []endField{
		{"Port", 1, 65535, func(c *impl.EndConfig, n int64) { c.Port = n }},
		{"First", 0, 4294967295, func(c *impl.EndConfig, n int64) { c.First = n }},
		{"SendCap", 1, 200, func(c *impl.EndConfig, n int64) { c.SendCap = n }},
		{"RecvCap", 1, 200, func(c *impl.EndConfig, n int64) { c.RecvCap = n }},
		{"Mss", 1, 520, func(c *impl.EndConfig, n int64) { c.Mss = n }},
	}
}

func faultyEnds() []impl.EndConfig {
	list := []impl.EndConfig{{}}
	for _, field := range endFields() {
		for _, n := range outside(field.lowest, field.highest) {
			for _, listens := range []bool{false, true} {
				c := fineEnd()
				c.Listens = listens
				field.turn(&c, n)
				list = append(list, c)
			}
		}
	}
	return list
}

// wantNoPair asks for the code alone: all else is zero.
func wantNoPair(t *testing.T, call string, got impl.PairResult, code int64) {
	t.Helper()
	p := got.Pair
	if got.Code != code || p.Now != 0 || len(p.Ends)+len(p.Flights)+len(p.Replies) > 0 {
		t.Errorf("%s: code %d, pair %s; want code %d and no pair", call, got.Code, namePair(p), code)
	}
}

func TestP1EndFault(t *testing.T) {
	for _, field := range endFields() {
		for _, n := range []int64{field.lowest, field.lowest + 1, field.highest - 1, field.highest} {
			for _, listens := range []bool{false, true} {
				c := fineEnd()
				c.Listens = listens
				field.turn(&c, n)
				call := fmt.Sprintf("%s of %d", field.name, n)
				wantCode(t, "EndFault: "+call, impl.EndFault(c), impl.OK)
				wantCode(t, "RunPair: "+call, impl.RunPair(c, fineOther(), nil).Code, impl.OK)
				wantCode(t, "RunPair: "+call, impl.RunPair(fineOther(), c, nil).Code, impl.OK)
			}
		}
	}
	for _, c := range faultyEnds() {
		call := fmt.Sprint(c)
		wantCode(t, "EndFault: "+call, impl.EndFault(c), impl.ErrRange)
		for _, events := range [][]impl.Event{nil, {}, manyEvents(151, impl.Event{})} {
			wantNoPair(t, "RunPair: a is "+call, impl.RunPair(c, fineOther(), events), impl.ErrRange)
			wantNoPair(t, "RunPair: b is "+call, impl.RunPair(fineOther(), c, events), impl.ErrRange)
			wantNoPair(t, "RunPair: both are "+call, impl.RunPair(c, c, events), impl.ErrRange)
		}
		// A fault of b is ahead of the ports.
		same := fineEnd()
		same.Port = c.Port
		if impl.EndFault(same) == impl.OK {
			wantNoPair(t, "RunPair: the same port, b is "+call, impl.RunPair(same, c, nil), impl.ErrRange)
		}
	}
}

func TestP1RunPairCodes(t *testing.T) {
	a, b := fineEnd(), fineOther()
	same := b
	same.Port = a.Port
	for _, events := range [][]impl.Event{nil, {}, manyEvents(150, impl.Event{}), manyEvents(151, impl.Event{}), manyEvents(70000, impl.Event{Kind: impl.EvPoll})} {
		call := fmt.Sprint(len(events), " events")
		wantNoPair(t, call+", the same end", impl.RunPair(a, a, events), impl.ErrTaken)
		wantNoPair(t, call+", the same port", impl.RunPair(a, same, events), impl.ErrTaken)
		wantNoPair(t, call+", the same port", impl.RunPair(same, a, events), impl.ErrTaken)
		if len(events) > 150 {
			wantNoPair(t, call, impl.RunPair(a, b, events), impl.ErrMany)
		} else if got := impl.RunPair(a, b, events); got.Code != impl.OK || len(got.Pair.Replies) != len(events) {
			t.Errorf("%s: code %d, %d replies", call, got.Code, len(got.Pair.Replies))
		}
	}
	none, empty := impl.RunPair(a, b, nil), impl.RunPair(a, b, []impl.Event{})
	if !arePairs(none.Pair, empty.Pair) || none.Code != impl.OK || empty.Code != impl.OK {
		t.Error("nil and an empty list of events are not the same")
	}
	// All but the port may be the same.
	twin := a
	twin.Port++
	wantCode(t, "ends that are the same but for the port", impl.RunPair(a, twin, nil).Code, impl.OK)
}

// An eventKind is what a kind of event needs.
type eventKind struct {
	kind     int64
	isSided  bool
	highestN int64
	hasData  bool
}

func eventKinds() []eventKind {
	return []eventKind{
		{kind: impl.EvOpen, isSided: true}, {kind: impl.EvClose, isSided: true}, {kind: impl.EvAbort, isSided: true}, {kind: impl.EvPoll, isSided: true},
		{kind: impl.EvSend, isSided: true, hasData: true},
		{kind: impl.EvRecv, isSided: true, highestN: 200},
		{kind: impl.EvWait, highestN: 60000},
		{kind: impl.EvCome, highestN: 29}, {kind: impl.EvLose, highestN: 29}, {kind: impl.EvCopy, highestN: 29},
	}
}

// wantEventFault asks RunPair, too: the reply tells the code, and nothing is turned.
func wantEventFault(t *testing.T, e impl.Event, code int64) {
	t.Helper()
	call := nameEvents([]impl.Event{e}) + fmt.Sprintf(" (side %d, N %d, %d bytes)", e.Side, e.N, len(e.Data))
	wantCode(t, "EventFault of "+call, impl.EventFault(e), code)
	if code == impl.OK {
		return
	}
	ahead := []impl.Event{{Kind: impl.EvOpen}, {Kind: impl.EvPoll}, {Kind: impl.EvSend, Data: []byte("abc")}}
	was := impl.RunPair(fineEnd(), fineOther(), ahead).Pair
	got := impl.RunPair(fineEnd(), fineOther(), append(ahead, e))
	want := was
	want.Replies = append(append([]impl.Reply{}, was.Replies...), impl.Reply{Code: code})
	if got.Code != impl.OK || !arePairs(got.Pair, want) {
		t.Errorf("RunPair with %s: code %d\n%s\nwant\n%s", call, got.Code, namePair(got.Pair), namePair(want))
	}
}

func TestP1EventsThatAreNone(t *testing.T) {
	for _, kind := range []int64{0, 11, 12, 13, 14, -1, -6, 100, 256 + 1, 1 << 32, math.MinInt64, math.MaxInt64} {
		for _, e := range []impl.Event{{}, {Side: 1}, {Side: 2}, {Side: -1}, {N: 1}, {N: -1}, {N: math.MaxInt64}, {Data: []byte("a")}, {Data: make([]byte, 101)}} {
			e.Kind = kind
			wantEventFault(t, e, impl.ErrForm)
		}
	}
}

func TestP1EventsWithinTheirBounds(t *testing.T) {
	for _, k := range eventKinds() {
		for _, side := range []int64{0, 1} {
			for _, n := range []int64{0, 1, k.highestN - 1, k.highestN} {
				for _, size := range []int{0, 1, 99, 100} {
					isNone := side > 0 && !k.isSided || n < 0 || n > k.highestN || size > 0 && !k.hasData
					if !isNone {
						wantEventFault(t, impl.Event{Kind: k.kind, Side: side, N: n, Data: make([]byte, size)}, impl.OK)
					}
				}
			}
		}
		wantEventFault(t, impl.Event{Kind: k.kind, Data: []byte{}}, impl.OK)
		wantEventFault(t, impl.Event{Kind: k.kind}, impl.OK)
	}
}

// What is not needed is ErrForm, whether or not it, or what is needed, is within its bounds.
func TestP1EventsWithMoreThanTheyNeed(t *testing.T) {
	ends := []int64{1, -1, 2, 30, 201, 60001, 1 << 32, math.MinInt64, math.MaxInt64}
	for _, k := range eventKinds() {
		for _, other := range []impl.Event{{}, {Side: 2, N: -1, Data: make([]byte, 101)}, {Side: 1, N: k.highestN + 1}} {
			other.Kind = k.kind
			if !k.isSided {
				for _, side := range ends {
					e := other
					e.Side = side
					wantEventFault(t, e, impl.ErrForm)
				}
			}
			if k.highestN == 0 {
				for _, n := range ends {
					e := other
					e.N = n
					wantEventFault(t, e, impl.ErrForm)
				}
			}
			if !k.hasData {
				for _, size := range []int{1, 100, 101, 700} {
					e := other
					e.Data = make([]byte, size)
					wantEventFault(t, e, impl.ErrForm)
				}
			}
		}
	}
}

func TestP1EventsOutOfRange(t *testing.T) {
	for _, k := range eventKinds() {
		sides := []int64{0, 1}
		if k.isSided {
			for _, side := range outside(0, 1) {
				wantEventFault(t, impl.Event{Kind: k.kind, Side: side}, impl.ErrRange)
				if k.hasData {
					wantEventFault(t, impl.Event{Kind: k.kind, Side: side, Data: make([]byte, 101)}, impl.ErrRange)
				}
				if k.highestN > 0 {
					wantEventFault(t, impl.Event{Kind: k.kind, Side: side, N: k.highestN}, impl.ErrRange)
				}
			}
		} else {
			sides = []int64{0}
		}
		if k.highestN > 0 {
			for _, n := range outside(0, k.highestN) {
				for _, side := range sides {
					wantEventFault(t, impl.Event{Kind: k.kind, Side: side, N: n}, impl.ErrRange)
				}
			}
		}
	}
	for _, size := range []int{101, 102, 200, 700, 70000} {
		for _, side := range []int64{0, 1} {
			wantEventFault(t, impl.Event{Kind: impl.EvSend, Side: side, Data: make([]byte, size)}, impl.ErrMany)
		}
	}
}

// richEvents leave something in each list of a pair: Out, Pieces, Flights, and Replies with Bytes, of both ends. At last bytes fly that fly already.
func richEvents(t *testing.T) []impl.Event {
	t.Helper()
	list := []impl.Event{}
	words := handshake + "send0:abc poll0 come:0 recv1:2 send1:uvw poll1 come:0 recv0:1 " +
		"send0:de poll0 send0:fg poll0 send0:hi poll0 come:1 send1:rs poll1 send1:tu poll1 copy:2 come:3 copy:0 wait:1000 poll0 poll1 recv1:5 recv0:9 recv0:9"
	for _, word := range strings.Fields(words) {
		list = append(list, eventOf(t, word))
	}
	return list
}

func richPair(t *testing.T) impl.Pair {
	t.Helper()
	p := impl.RunPair(fineEnd(), fineOther(), richEvents(t)).Pair
	for _, e := range p.Ends {
		if len(e.Out) == 0 || len(e.Pieces) == 0 {
			t.Fatal("the pair is not rich: ", namePair(p))
		}
	}
	if len(p.Flights) < 3 || len(p.Replies[len(p.Replies)-3].Bytes) == 0 {
		t.Fatal("the pair is not rich: ", namePair(p))
	}
	return p
}

// clonedPair tells the pair again, in memory of its own.
func clonedPair(p impl.Pair) impl.Pair {
	cloned := impl.Pair{Now: p.Now}
	for _, e := range p.Ends {
		e.Out = bytes.Clone(e.Out)
		e.Pieces = clonedPieces(e.Pieces)
		cloned.Ends = append(cloned.Ends, e)
	}
	for _, f := range p.Flights {
		f.Segment.Data = bytes.Clone(f.Segment.Data)
		cloned.Flights = append(cloned.Flights, f)
	}
	for _, r := range p.Replies {
		r.Bytes = bytes.Clone(r.Bytes)
		cloned.Replies = append(cloned.Replies, r)
	}
	return cloned
}

// bytesOf tells all memory of bytes that the pair may reach.
func bytesOf(p impl.Pair) [][]byte {
	list := [][]byte{}
	for _, e := range p.Ends {
		list = append(list, e.Out)
		for _, one := range e.Pieces {
			list = append(list, one.Data)
		}
	}
	for _, f := range p.Flights {
		list = append(list, f.Segment.Data)
	}
	for _, r := range p.Replies {
		list = append(list, r.Bytes)
	}
	for i := range list {
		list[i] = list[i][:cap(list[i])]
	}
	return list
}

// A spareEvents is a list of events in memory that goes on behind it, and behind the Data of each.
type spareEvents struct {
	list   []impl.Event
	wholes [][]byte
}

func withSpareEvents(events []impl.Event) spareEvents {
	given := spareEvents{list: make([]impl.Event, 0, len(events)+3)}
	for _, e := range events {
		cut, whole := withSpare(e.Data)
		e.Data = cut
		given.list = append(given.list, e)
		given.wholes = append(given.wholes, whole)
	}
	return given
}

func (s spareEvents) seen() string {
	return fmt.Sprint(s.list[:cap(s.list)], s.wholes)
}

func TestP1PairsAreNewMemory(t *testing.T) {
	given := withSpareEvents(richEvents(t))
	before := given.seen()
	answer := impl.RunPair(fineEnd(), fineOther(), given.list).Pair
	kept := clonedPair(answer)
	if given.seen() != before {
		t.Error("the events, or what is behind them, were changed")
	}
	wantListsApart(t, bytesOf(answer), given.seen)
	for i := range given.list {
		given.list[i].Kind ^= 7
		flipAll(given.wholes[i])
	}
	if !arePairs(answer, kept) {
		t.Error("the answer changes with the events")
	}
}

// wantListsApart turns one list of an answer after the other: no other one changes with it, nor does what is seen of the arguments.
func wantListsApart(t *testing.T, lists [][]byte, seen func() string) {
	t.Helper()
	before := seen()
	for i, list := range lists {
		was := textsOf(lists)
		flipAll(list)
		for j, text := range textsOf(lists) {
			if j != i && text != was[j] {
				t.Errorf("list %d of the answer changes with list %d", j, i)
			}
		}
		if seen() != before {
			t.Errorf("an argument changes with list %d of the answer", i)
		}
		flipAll(list)
	}
}

func textsOf(lists [][]byte) []string {
	texts := []string{}
	for _, list := range lists {
		texts = append(texts, string(list))
	}
	return texts
}

// The lists of an answer that are none of bytes share no memory either.
func TestP1ListsOfPairsAreNewMemory(t *testing.T) {
	answer := richPair(t)
	kept := clonedPair(answer)
	first, second := answer.Ends[0].Pieces, answer.Ends[1].Pieces
	clear(first[:cap(first)])
	kept.Ends[0].Pieces = make([]impl.Piece, len(first))
	if !arePairs(answer, kept) {
		t.Error("more than the Pieces of the first end were turned")
	}
	clear(second[:cap(second)])
	kept.Ends[1].Pieces = make([]impl.Piece, len(second))
	if !arePairs(answer, kept) {
		t.Error("more than the Pieces of the second end were turned")
	}
	clear(answer.Flights[:cap(answer.Flights)])
	kept.Flights = make([]impl.Flight, len(kept.Flights))
	clear(answer.Replies[:cap(answer.Replies)])
	kept.Replies = make([]impl.Reply, len(kept.Replies))
	if !arePairs(answer, kept) {
		t.Error("more than the Flights and the Replies were turned")
	}
	if again := richPair(t); arePairs(again, answer) {
		t.Error("what was cleared in one answer is cleared in another one")
	}
}

func TestP1TheSameCallAnswersTheSame(t *testing.T) {
	events := richEvents(t)
	want := impl.RunPair(fineEnd(), fineOther(), events)
	for range 50 {
		other := impl.RunPair(fineOther(), fineEnd(), events)
		got := impl.RunPair(fineEnd(), fineOther(), events)
		if got.Code != want.Code || !arePairs(got.Pair, want.Pair) || arePairs(other.Pair, want.Pair) {
			t.Fatal("the same call does not answer the same")
		}
	}
}

// endTurns turn one field of an end each.
func endTurns() map[string]func(*impl.End) {
	turns := map[string]func(*impl.End){
		"State":                func(e *impl.End) { e.State++ },
		"Acked":                func(e *impl.End) { e.Acked++ },
		"Sent":                 func(e *impl.End) { e.Sent++ },
		"Top":                  func(e *impl.End) { e.Top++ },
		"Got":                  func(e *impl.End) { e.Got++ },
		"Read":                 func(e *impl.End) { e.Read++ },
		"Closes":               func(e *impl.End) { e.Closes = !e.Closes },
		"Free":                 func(e *impl.End) { e.Free++ },
		"Window":               func(e *impl.End) { e.Window++ },
		"Tries":                func(e *impl.End) { e.Tries++ },
		"Waits":                func(e *impl.End) { e.Waits++ },
		"Why":                  func(e *impl.End) { e.Why++ },
		"Out by a byte more":   func(e *impl.End) { e.Out = append(bytes.Clone(e.Out), 0) },
		"Pieces by one more":   func(e *impl.End) { e.Pieces = append(clonedPieces(e.Pieces), impl.Piece{}) },
		"Pieces by one, ahead": func(e *impl.End) { e.Pieces = append([]impl.Piece{{At: -5}}, e.Pieces...) },
	}
	return turns
}

// listTurns turn what is in the lists of an end, where these have something.
func listTurns() map[string]func(*impl.End) {
	return map[string]func(*impl.End){
		"a byte of Out":            func(e *impl.End) { e.Out[len(e.Out)-1] ^= 1 },
		"the order of Out":         func(e *impl.End) { e.Out[0], e.Out[1] = e.Out[1], e.Out[0] },
		"Out by a byte fewer":      func(e *impl.End) { e.Out = e.Out[:len(e.Out)-1] },
		"no Out":                   func(e *impl.End) { e.Out = nil },
		"the At of a piece":        func(e *impl.End) { e.Pieces[1].At++ },
		"a byte of a piece":        func(e *impl.End) { e.Pieces[1].Data[0] ^= 1 },
		"a byte more of a piece":   func(e *impl.End) { e.Pieces[0].Data = append(e.Pieces[0].Data, 0) },
		"the order of Pieces":      func(e *impl.End) { e.Pieces[0], e.Pieces[1] = e.Pieces[1], e.Pieces[0] },
		"one fewer of Pieces":      func(e *impl.End) { e.Pieces = e.Pieces[:1] },
		"the first one of Pieces":  func(e *impl.End) { e.Pieces = e.Pieces[1:] },
		"no Pieces":                func(e *impl.End) { e.Pieces = nil },
		"a piece without its Data": func(e *impl.End) { e.Pieces[0].Data = nil },
	}
}

func someEnd() impl.End {
	return impl.End{
		State: 4, Acked: 3, Sent: 5, Top: 6, Got: 7, Read: 2, Out: []byte("abcde"), Free: 16, Window: 20,
		Pieces: []impl.Piece{piece(2, 7, 8), piece(9, 1, 2, 3)}, Tries: 1, Waits: 2, Why: 9,
	}
}

func clonedEnd(e impl.End) impl.End {
	return clonedPair(impl.Pair{Ends: []impl.End{e}}).Ends[0]
}

func TestP1SameEnds(t *testing.T) {
	ends := []impl.End{someEnd(), {}, {State: math.MinInt64, Acked: math.MaxInt64, Free: -1, Pieces: make([]impl.Piece, 9)}}
	for i, e := range ends {
		wantSame(t, impl.SameEnds, "a copy", e, clonedEnd(e), true)
		for name, turn := range endTurns() {
			other := clonedEnd(e)
			turn(&other)
			wantSame(t, impl.SameEnds, fmt.Sprintf("end %d, another %s", i, name), e, other, false)
		}
	}
	for name, turn := range listTurns() {
		other := someEnd()
		turn(&other)
		wantSame(t, impl.SameEnds, "another one: "+name, someEnd(), other, false)
	}
	empty := impl.End{Out: []byte{}, Pieces: []impl.Piece{}}
	wantSame(t, impl.SameEnds, "nil and empty", impl.End{}, empty, true)
	wantSame(t, impl.SameEnds, "nil and empty Data", impl.End{Pieces: []impl.Piece{{}}}, impl.End{Pieces: []impl.Piece{{Data: []byte{}}}}, true)
	for _, e := range richPair(t).Ends {
		wantSame(t, impl.SameEnds, "of a pair", e, clonedEnd(e), true)
		wantSame(t, impl.SameEnds, "of a pair", e, someEnd(), false)
	}
}

func somePair() impl.Pair {
	s := impl.Segment{FromPort: 1, ToPort: 2, Seq: 3, Ack: 4, Flags: 18, Window: 5, Mss: 6, Data: []byte("xyz")}
	other := someEnd()
	other.State = 5
	return impl.Pair{
		Now: 77, Ends: []impl.End{someEnd(), other},
		Flights: []impl.Flight{{Side: 1, Segment: s}, {Segment: s}},
		Replies: []impl.Reply{{Code: 0, Value: 2, Bytes: []byte("pq")}, {Code: 4}, {Code: 0, Value: 1}},
	}
}

func pairTurns() map[string]func(*impl.Pair) {
	turns := map[string]func(*impl.Pair){
		"Now":                  func(p *impl.Pair) { p.Now++ },
		"no Ends":              func(p *impl.Pair) { p.Ends = nil },
		"one end":              func(p *impl.Pair) { p.Ends = p.Ends[:1] },
		"three Ends":           func(p *impl.Pair) { p.Ends = append(p.Ends, impl.End{}) },
		"the order of Ends":    func(p *impl.Pair) { p.Ends[0], p.Ends[1] = p.Ends[1], p.Ends[0] },
		"no Flights":           func(p *impl.Pair) { p.Flights = nil },
		"one flight":           func(p *impl.Pair) { p.Flights = p.Flights[:1] },
		"three Flights":        func(p *impl.Pair) { p.Flights = append(p.Flights, impl.Flight{}) },
		"the order of Flights": func(p *impl.Pair) { p.Flights[0], p.Flights[1] = p.Flights[1], p.Flights[0] },
		"a Side":               func(p *impl.Pair) { p.Flights[1].Side = 2 },
		"a FromPort":           func(p *impl.Pair) { p.Flights[1].Segment.FromPort++ },
		"a ToPort":             func(p *impl.Pair) { p.Flights[1].Segment.ToPort++ },
		"a Seq":                func(p *impl.Pair) { p.Flights[1].Segment.Seq++ },
		"an Ack":               func(p *impl.Pair) { p.Flights[1].Segment.Ack++ },
		"Flags":                func(p *impl.Pair) { p.Flights[1].Segment.Flags++ },
		"the Window":           func(p *impl.Pair) { p.Flights[1].Segment.Window++ },
		"an Mss":               func(p *impl.Pair) { p.Flights[1].Segment.Mss++ },
		"Data":                 func(p *impl.Pair) { p.Flights[1].Segment.Data[2]++ },
		"no Data":              func(p *impl.Pair) { p.Flights[1].Segment.Data = nil },
		"no Replies":           func(p *impl.Pair) { p.Replies = nil },
		"two Replies":          func(p *impl.Pair) { p.Replies = p.Replies[:2] },
		"four Replies":         func(p *impl.Pair) { p.Replies = append(p.Replies, impl.Reply{}) },
		"the order of Replies": func(p *impl.Pair) { p.Replies[0], p.Replies[2] = p.Replies[2], p.Replies[0] },
		"a Code":               func(p *impl.Pair) { p.Replies[1].Code++ },
		"a Value":              func(p *impl.Pair) { p.Replies[1].Value++ },
		"Bytes":                func(p *impl.Pair) { p.Replies[0].Bytes[1]++ },
		"Bytes where none were": func(p *impl.Pair) {
			p.Replies[1].Bytes = []byte{0}
		},
	}
	return turns
}

func TestP1SamePairs(t *testing.T) {
	wantSame(t, impl.SamePairs, "a copy", somePair(), clonedPair(somePair()), true)
	wantSame(t, impl.SamePairs, "nothing", impl.Pair{}, impl.Pair{Ends: []impl.End{}, Flights: []impl.Flight{}, Replies: []impl.Reply{}}, true)
	wantSame(t, impl.SamePairs, "something and nothing", somePair(), impl.Pair{}, false)
	for name, turn := range pairTurns() {
		other := clonedPair(somePair())
		turn(&other)
		wantSame(t, impl.SamePairs, "another one: "+name, somePair(), other, false)
	}
	for at := range 2 {
		for _, turns := range []map[string]func(*impl.End){endTurns(), listTurns()} {
			for name, turn := range turns {
				other := clonedPair(somePair())
				turn(&other.Ends[at])
				wantSame(t, impl.SamePairs, fmt.Sprintf("another end %d: %s", at, name), somePair(), other, false)
			}
		}
	}
	nils, empties := clonedPair(somePair()), clonedPair(somePair())
	nils.Flights[0].Segment.Data, empties.Flights[0].Segment.Data = nil, []byte{}
	nils.Replies[0].Bytes, empties.Replies[0].Bytes = nil, []byte{}
	wantSame(t, impl.SamePairs, "nil and empty lists", nils, empties, true)
	rich := richPair(t)
	wantSame(t, impl.SamePairs, "a rich one", rich, clonedPair(rich), true)
	wantSame(t, impl.SamePairs, "a rich one and another one", rich, somePair(), false)
}

func TestP1IsOver(t *testing.T) {
	for _, state := range []int64{0, 1, 2, 3, 4, 5, 6, 7, 8, 9, 10, 11, -1, -10, 256, math.MinInt64, math.MaxInt64} {
		for _, why := range []int64{0, impl.ErrReset, 1, -1, math.MinInt64, math.MaxInt64} {
			want := why == 0 && (state == impl.StateClosed || state == impl.StateTimeWait)
			for _, e := range []impl.End{{}, someEnd(), {Closes: true, Acked: -1, Waits: 5, Tries: 9}} {
				e.State, e.Why = state, why
				wantBool(t, fmt.Sprintf("IsOver: state %d, why %d", state, why), impl.IsOver(e), want)
			}
		}
	}
	for _, at := range allSpots() {
		inAllPlays(t, "IsOver at "+at.words, twoEnds(), func(p *play) {
			e := p.do(at.words).end(at.side)
			want := (at.state == "closed" || at.state == "timewait") && e.Why == impl.OK
			if impl.IsOver(e) != want {
				p.fail("IsOver", !want, want)
			}
		})
	}
}

func repliesOf(events []impl.Event, data ...string) impl.Pair {
	p := impl.Pair{}
	for i := range events {
		p.Replies = append(p.Replies, impl.Reply{Value: int64(len(data[i])), Bytes: []byte(data[i])})
	}
	return p
}

func TestP1BytesRead(t *testing.T) {
	events := []impl.Event{{Kind: impl.EvRecv}, {Kind: impl.EvRecv, Side: 1}, {Kind: impl.EvSend}, {Kind: impl.EvRecv, N: 9}, {Kind: impl.EvPoll, Side: 1}, {Kind: impl.EvRecv, Side: 1, N: 201}, {Kind: impl.EvRecv, Side: 2}, {Kind: impl.EvRecv}}
	p := repliesOf(events, "ab", "uv", "XX", "c", "XX", "w", "XX", "de")
	wantBytes(t, "side 0", impl.BytesRead(p, events, 0), impl.OK, []byte("abcde"))
	wantBytes(t, "side 1", impl.BytesRead(p, events, 1), impl.OK, []byte("uvw"))
	for _, side := range outside(0, 1) {
		wantBytes(t, fmt.Sprint("side ", side), impl.BytesRead(p, events, side), impl.ErrRange, nil)
		wantBytes(t, fmt.Sprint("other events, side ", side), impl.BytesRead(p, events[1:], side), impl.ErrRange, nil)
	}
	for _, side := range []int64{0, 1} {
		wantBytes(t, "one event fewer", impl.BytesRead(p, events[1:], side), impl.ErrForm, nil)
		wantBytes(t, "no event", impl.BytesRead(p, nil, side), impl.ErrForm, nil)
		wantBytes(t, "one event more", impl.BytesRead(p, append(events[:8:8], impl.Event{}), side), impl.ErrForm, nil)
		wantBytes(t, "no reply", impl.BytesRead(impl.Pair{}, events, side), impl.ErrForm, nil)
		wantBytes(t, "nothing", impl.BytesRead(impl.Pair{}, nil, side), impl.OK, nil)
		wantBytes(t, "nothing, and empty lists", impl.BytesRead(impl.Pair{Replies: []impl.Reply{}}, []impl.Event{}, side), impl.OK, nil)
	}
}

func TestP1BytesReadUpToMaxBytes(t *testing.T) {
	for _, row := range []struct {
		sizes []int
		code  int64
	}{{[]int{700}, impl.OK}, {[]int{701}, impl.ErrMany}, {[]int{350, 350}, impl.OK}, {[]int{350, 351}, impl.ErrMany}, {[]int{0, 700, 0}, impl.OK}, {[]int{700, 0, 1}, impl.ErrMany}, {[]int{70000, 70000}, impl.ErrMany}} {
		for _, side := range []int64{0, 1} {
			events, data, want := []impl.Event{}, []string{}, ""
			for _, size := range row.sizes {
				events = append(events, impl.Event{Kind: impl.EvRecv, Side: side}, impl.Event{Kind: impl.EvRecv, Side: 1 - side})
				text := string(mixed(size))
				data = append(data, text, "other")
				want += text
			}
			if row.code != impl.OK {
				want = ""
			}
			p := repliesOf(events, data...)
			call := fmt.Sprintf("bytes of %v, side %d", row.sizes, side)
			wantBytes(t, call, impl.BytesRead(p, events, side), row.code, []byte(want))
			// The form is ahead of the number of bytes.
			wantBytes(t, call+", another event", impl.BytesRead(p, append(events, impl.Event{}), side), impl.ErrForm, nil)
		}
	}
}

func TestP1BytesReadAreNewMemory(t *testing.T) {
	given := withSpareEvents(richEvents(t))
	p := richPair(t)
	kept, before := clonedPair(p), given.seen()
	for _, side := range []int64{0, 1} {
		answer := impl.BytesRead(p, given.list, side)
		want := bytes.Clone(answer.Bytes)
		if len(want) == 0 || answer.Code != impl.OK {
			t.Fatal("nothing was read: ", answer)
		}
		flipAll(answer.Bytes[:cap(answer.Bytes)])
		if !arePairs(p, kept) || given.seen() != before {
			t.Error("an argument was changed, or changes with the answer")
		}
		flipAll(answer.Bytes[:cap(answer.Bytes)])
		for _, list := range bytesOf(p) {
			flipAll(list)
		}
		if !bytes.Equal(answer.Bytes, want) {
			t.Error("the answer changes with an argument")
		}
		for _, list := range bytesOf(p) {
			flipAll(list)
		}
	}
	impl.SamePairs(p, kept)
	impl.SameEnds(p.Ends[0], p.Ends[1])
	impl.IsOver(p.Ends[0])
	for _, e := range given.list {
		impl.EventFault(e)
	}
	if !arePairs(p, kept) || given.seen() != before {
		t.Error("an argument was changed by what tells no list")
	}
}

// A mood is how often each event comes on a walk, in the order in which the switch of nextEvent has them.
type mood [10]int

var moods = []mood{
	{12, 12, 30, 3, 3, 12, 10, 4, 1, 1},
	{12, 12, 30, 8, 6, 12, 10, 4, 0, 1},
	{14, 14, 34, 1, 1, 16, 12, 3, 0, 0},
	{12, 12, 24, 6, 4, 10, 8, 8, 4, 2},
	{16, 16, 16, 14, 1, 14, 6, 12, 1, 0},
}

// nextEvent draws an event; it looks at the model, to find what flies.
func nextEvent(draw func(int) int, m mood, p *modelPair) impl.Event {
	total := 0
	for _, often := range m {
		total += often
	}
	at := draw(total)
	which := 0
	for at >= m[which] {
		at -= m[which]
		which++
	}
	side := int64(draw(2))
	flight := int64(draw(min(len(p.flights), 29) + 1))
	if draw(3) > 0 {
		flight = 0
	}
	switch which {
	case 0, 1:
		return impl.Event{Kind: impl.EvPoll, Side: int64(which)}
	case 2:
		return impl.Event{Kind: impl.EvCome, N: flight}
	case 3:
		return impl.Event{Kind: impl.EvLose, N: flight}
	case 4:
		return impl.Event{Kind: impl.EvCopy, N: flight}
	case 5:
		return impl.Event{Kind: impl.EvSend, Side: side, Data: mixed(draw([]int{4, 12, 101}[draw(3)]))}
	case 6:
		return impl.Event{Kind: impl.EvRecv, Side: side, N: int64(draw([]int{3, 20, 201}[draw(3)]))}
	case 7:
		waits := []int64{0, 1, 500, 999, 1000, 1000, 2000, 4000, 16000, 59999, 60000}
		return impl.Event{Kind: impl.EvWait, N: waits[draw(len(waits))]}
	case 8:
		return impl.Event{Kind: impl.EvClose, Side: side}
	}
	kinds := []int64{impl.EvAbort, impl.EvOpen, impl.EvRecv, 0, 11}
	return impl.Event{Kind: kinds[draw(len(kinds))], Side: side}
}

func drawEnds(draw func(int) int) (impl.EndConfig, impl.EndConfig) {
	firsts := []int64{0, 1, 1000, 2147483647, 2147483648, 4294967295, 4294967290, 4294967000}
	one := func(port int64) impl.EndConfig {
		return impl.EndConfig{
			Port: port, First: firsts[draw(len(firsts))],
			SendCap: 1 + int64(draw([]int{6, 40, 200}[draw(3)])), RecvCap: 1 + int64(draw([]int{6, 40, 200}[draw(3)])),
			Mss: 1 + int64(draw([]int{4, 30, 520}[draw(3)])),
		}
	}
	a, b := one(5000), one(80)
	b.Listens = draw(4) > 0
	return a, b
}

// aWalk tells two ends and what comes to them, drawn by one number.
func aWalk(seed int) (impl.EndConfig, impl.EndConfig, []impl.Event) {
	state := uint32(seed*7919 + 1)
	draw := func(count int) int { return nextDraw(&state, count) }
	a, b := drawEnds(draw)
	m := moods[seed%len(moods)]
	p := newModelPair(a, b)
	events := []impl.Event{}
	add := func(e impl.Event) {
		p.turn(e)
		events = append(events, e)
	}
	add(impl.Event{Kind: impl.EvOpen})
	if !b.Listens {
		add(impl.Event{Kind: impl.EvOpen, Side: 1})
	}
	for len(events) < 150 {
		add(nextEvent(draw, m, p))
	}
	return a, b, events
}

func TestP9WalksStepByStep(t *testing.T) {
	for seed := range 150 {
		a, b, events := aWalk(seed)
		checkSteps(t, fmt.Sprint("walk ", seed), a, b, events)
	}
}

func TestP9ManyWalks(t *testing.T) {
	for seed := 150; seed < 4000; seed++ {
		a, b, events := aWalk(seed)
		p := newModelPair(a, b)
		for _, e := range events {
			p.turn(e)
		}
		got := impl.RunPair(a, b, events)
		if got.Code != impl.OK || !arePairs(got.Pair, p.told()) {
			t.Fatalf("walk %d: %v, %v, %s: code %d\n%s\nwant\n%s", seed, a, b, nameEvents(events), got.Code, namePair(got.Pair), namePair(p.told()))
		}
		checkPair(t, fmt.Sprint("walk ", seed), [2]impl.EndConfig{a, b}, got.Pair)
		for side := range int64(2) {
			read := impl.BytesRead(got.Pair, events, side)
			if read.Code != impl.OK || !bytes.HasPrefix(got.Pair.Ends[1-side].Out, read.Bytes) || int64(len(read.Bytes)) != got.Pair.Ends[side].Read {
				t.Fatalf("walk %d: the end %d reads what the other one did not say", seed, side)
			}
		}
	}
}

// Whatever follows, what was done stays: the replies to the first events, and the pair behind them.
func TestP9WhatWasDoneStays(t *testing.T) {
	for seed := range 60 {
		a, b, events := aWalk(seed)
		_, _, others := aWalk(seed + 1000)
		for _, count := range []int{0, 1, 40, 75, 149} {
			mixedUp := append(append([]impl.Event{}, events[:count]...), others[:150-count]...)
			whole, other := impl.RunPair(a, b, events).Pair, impl.RunPair(a, b, mixedUp).Pair
			first := impl.RunPair(a, b, events[:count]).Pair
			if !areReplies(whole.Replies[:count], first.Replies) || !areReplies(other.Replies[:count], first.Replies) {
				t.Fatalf("walk %d: the first %d replies hang on what follows", seed, count)
			}
		}
	}
}
