package tests

import (
	"bytes"
	"fmt"
	"math"
	"testing"

	"loop.example/g00726/impl"
)

func someHost() impl.Host {
	other := someEnd()
	other.State = 5
	return impl.Host{
		Now: 77, Cache: []impl.Entry{entry(1, 2, 3), entry(4, 5, 6)}, Held: 2, Ends: []impl.End{someEnd(), other},
		Inbox: []impl.Letter{{Ip: 7, Datagram: impl.Datagram{FromPort: 8, ToPort: 9, Data: []byte("pq")}}, {Ip: 7, Datagram: impl.Datagram{FromPort: 8, ToPort: 9, Data: []byte("rs")}}},
		Pongs: 3, Drops: 4, Frames: [][]byte{[]byte("abc"), []byte("abd"), {}},
		Replies: []impl.Reply{{Code: 0, Value: 2, Bytes: []byte("pq")}, {Code: 4}, {Code: 0, Value: 1}},
	}
}

// clonedHost tells the host again, in memory of its own.
func clonedHost(h impl.Host) impl.Host {
	pair := clonedPair(impl.Pair{Ends: h.Ends, Replies: h.Replies})
	h.Ends, h.Replies = pair.Ends, pair.Replies
	h.Cache, h.Frames = append([]impl.Entry{}, h.Cache...), clonedFrames(h.Frames)
	letters := []impl.Letter{}
	for _, l := range h.Inbox {
		l.Datagram.Data = bytes.Clone(l.Datagram.Data)
		letters = append(letters, l)
	}
	h.Inbox = letters
	return h
}

// hostTurns turn one thing of a host each.
func hostTurns() map[string]func(*impl.Host) {
	return map[string]func(*impl.Host){
		"Now":                   func(h *impl.Host) { h.Now++ },
		"Held":                  func(h *impl.Host) { h.Held++ },
		"Pongs":                 func(h *impl.Host) { h.Pongs++ },
		"Drops":                 func(h *impl.Host) { h.Drops++ },
		"no Cache":              func(h *impl.Host) { h.Cache = nil },
		"one entry":             func(h *impl.Host) { h.Cache = h.Cache[:1] },
		"three entries":         func(h *impl.Host) { h.Cache = append(h.Cache, impl.Entry{}) },
		"the order of Cache":    func(h *impl.Host) { h.Cache[0], h.Cache[1] = h.Cache[1], h.Cache[0] },
		"the Ip of an entry":    func(h *impl.Host) { h.Cache[1].Ip++ },
		"the Mac of an entry":   func(h *impl.Host) { h.Cache[1].Mac++ },
		"the Until of an entry": func(h *impl.Host) { h.Cache[1].Until++ },
		"no Ends":               func(h *impl.Host) { h.Ends = nil },
		"one end":               func(h *impl.Host) { h.Ends = h.Ends[:1] },
		"three Ends":            func(h *impl.Host) { h.Ends = append(h.Ends, impl.End{}) },
		"the order of Ends":     func(h *impl.Host) { h.Ends[0], h.Ends[1] = h.Ends[1], h.Ends[0] },
		"no Inbox":              func(h *impl.Host) { h.Inbox = nil },
		"one letter":            func(h *impl.Host) { h.Inbox = h.Inbox[:1] },
		"three letters":         func(h *impl.Host) { h.Inbox = append(h.Inbox, impl.Letter{}) },
		"the order of Inbox":    func(h *impl.Host) { h.Inbox[0], h.Inbox[1] = h.Inbox[1], h.Inbox[0] },
		"the Ip of a letter":    func(h *impl.Host) { h.Inbox[1].Ip++ },
		"a FromPort":            func(h *impl.Host) { h.Inbox[1].Datagram.FromPort++ },
		"a ToPort":              func(h *impl.Host) { h.Inbox[1].Datagram.ToPort++ },
		"Data":                  func(h *impl.Host) { h.Inbox[1].Datagram.Data[1]++ },
		"Data by a byte more":   func(h *impl.Host) { h.Inbox[1].Datagram.Data = append(h.Inbox[1].Datagram.Data, 0) },
		"no Data":               func(h *impl.Host) { h.Inbox[0].Datagram.Data = nil },
		"no Frames":             func(h *impl.Host) { h.Frames = nil },
		"two Frames":            func(h *impl.Host) { h.Frames = h.Frames[:2] },
		"four Frames":           func(h *impl.Host) { h.Frames = append(h.Frames, nil) },
		"the order of Frames":   func(h *impl.Host) { h.Frames[0], h.Frames[1] = h.Frames[1], h.Frames[0] },
		"a byte of a frame":     func(h *impl.Host) { h.Frames[1][0]++ },
		"a byte more":           func(h *impl.Host) { h.Frames[2] = []byte{0} },
		"a byte fewer":          func(h *impl.Host) { h.Frames[1] = h.Frames[1][:2] },
		"no Replies":            func(h *impl.Host) { h.Replies = nil },
		"two Replies":           func(h *impl.Host) { h.Replies = h.Replies[:2] },
		"four Replies":          func(h *impl.Host) { h.Replies = append(h.Replies, impl.Reply{}) },
		"the order of Replies":  func(h *impl.Host) { h.Replies[0], h.Replies[2] = h.Replies[2], h.Replies[0] },
		"a Code":                func(h *impl.Host) { h.Replies[1].Code++ },
		"a Value":               func(h *impl.Host) { h.Replies[1].Value++ },
		"Bytes":                 func(h *impl.Host) { h.Replies[0].Bytes[1]++ },
		"Bytes where none were": func(h *impl.Host) { h.Replies[1].Bytes = []byte{0} },
	}
}

func TestP1SameHosts(t *testing.T) {
	wantSame(t, impl.SameHosts, "a copy", someHost(), clonedHost(someHost()), true)
	wantSame(t, impl.SameHosts, "something and nothing", someHost(), impl.Host{}, false)
	for name, turn := range hostTurns() {
		other := clonedHost(someHost())
		turn(&other)
		wantSame(t, impl.SameHosts, "another one: "+name, someHost(), other, false)
	}
	for at := range 2 {
		for _, turns := range []map[string]func(*impl.End){endTurns(), listTurns()} {
			for name, turn := range turns {
				other := clonedHost(someHost())
				turn(&other.Ends[at])
				wantSame(t, impl.SameHosts, fmt.Sprintf("another end %d: %s", at, name), someHost(), other, false)
			}
		}
	}
	empty := impl.Host{Cache: []impl.Entry{}, Ends: []impl.End{}, Inbox: []impl.Letter{}, Frames: [][]byte{}, Replies: []impl.Reply{}}
	wantSame(t, impl.SameHosts, "nil and empty lists", impl.Host{}, empty, true)
	nils, empties := clonedHost(someHost()), clonedHost(someHost())
	nils.Inbox[0].Datagram.Data, empties.Inbox[0].Datagram.Data = nil, []byte{}
	nils.Frames[1], empties.Frames[1] = nil, []byte{}
	nils.Replies[0].Bytes, empties.Replies[0].Bytes = nil, []byte{}
	nils.Ends[0].Out, empties.Ends[0].Out = nil, []byte{}
	nils.Ends[0].Pieces, empties.Ends[0].Pieces = nil, []impl.Piece{}
	wantSame(t, impl.SameHosts, "nil and empty lists inside", nils, empties, true)
	rich := richHost(t)
	wantSame(t, impl.SameHosts, "a rich one", rich, clonedHost(rich), true)
	wantSame(t, impl.SameHosts, "a rich one and another one", rich, someHost(), false)
}

// It is asked of any: of what no host could be, too.
func TestP1SameHostsOfAny(t *testing.T) {
	odd := []impl.Host{
		{}, {Now: math.MinInt64}, {Now: math.MaxInt64, Held: -1}, {Cache: make([]impl.Entry, 9)}, {Cache: make([]impl.Entry, 10)}, {Ends: make([]impl.End, 7)}, {Inbox: make([]impl.Letter, 99)},
		{Frames: make([][]byte, 61)}, {Frames: make([][]byte, 62)}, {Replies: make([]impl.Reply, 151)}, {Pongs: -5}, {Drops: -5}, {Frames: [][]byte{make([]byte, 7000)}},
	}
	for i, a := range odd {
		for j, b := range odd {
			wantSame(t, impl.SameHosts, fmt.Sprintf("%d and %d", i, j), a, clonedHost(b), i == j)
		}
	}
}

// A spareInputs is a list of inputs, and one of sockets, in memory that goes on behind each, and behind the Data of each input.
type spareInputs struct {
	config impl.HostConfig
	list   []impl.Input
	wholes [][]byte
}

func withSpareInputs(config impl.HostConfig, inputs []impl.Input) spareInputs {
	given := spareInputs{config: config, list: make([]impl.Input, 0, len(inputs)+3)}
	given.config.Sockets = append(make([]impl.Socket, 0, len(config.Sockets)+2), config.Sockets...)
	for _, i := range inputs {
		cut, whole := withSpare(i.Data)
		i.Data = cut
		given.list = append(given.list, i)
		given.wholes = append(given.wholes, whole)
	}
	return given
}

func (s spareInputs) seen() string {
	return fmt.Sprint(s.config, s.config.Sockets[:cap(s.config.Sockets)], s.list[:cap(s.list)], s.wholes)
}

// memoryOf tells all memory of bytes that the host may reach.
func memoryOf(h impl.Host) [][]byte {
	list := bytesOf(impl.Pair{Ends: h.Ends, Replies: h.Replies})
	for _, l := range h.Inbox {
		list = append(list, l.Datagram.Data[:cap(l.Datagram.Data)])
	}
	for _, data := range h.Frames {
		list = append(list, data[:cap(data)])
	}
	return list
}

func TestP1HostsAreNewMemory(t *testing.T) {
	for _, inputs := range [][]impl.Input{richInputs(t), append(richInputs(t), impl.Input{Kind: impl.InTake}, impl.Input{Kind: impl.EvPoll}, impl.Input{Kind: impl.EvWait, N: 60000}, impl.Input{Kind: impl.EvPoll})} {
		given := withSpareInputs(aHost(), inputs)
		before := given.seen()
		answer := impl.RunHost(given.config, given.list).Host
		kept := clonedHost(answer)
		if given.seen() != before {
			t.Error("the arguments, or what is behind them, were changed")
		}
		wantListsApart(t, memoryOf(answer), given.seen)
		for i := range given.list {
			given.list[i].Kind ^= 7
			flipAll(given.wholes[i])
		}
		clear(given.config.Sockets[:cap(given.config.Sockets)])
		if !areHosts(answer, kept) {
			t.Error("the answer changes with the arguments")
		}
	}
}

// The lists of an answer that are none of bytes share no memory either.
func TestP1ListsOfHostsAreNewMemory(t *testing.T) {
	answer := richHost(t)
	kept := clonedHost(answer)
	wantOnlyCleared := func(name string) {
		t.Helper()
		if !areHosts(answer, kept) {
			t.Errorf("more than %s was turned", name)
		}
	}
	for i := range answer.Ends {
		clear(answer.Ends[i].Pieces[:cap(answer.Ends[i].Pieces)])
		clear(kept.Ends[i].Pieces)
		wantOnlyCleared("the Pieces of one end")
	}
	clear(answer.Cache[:cap(answer.Cache)])
	clear(kept.Cache)
	wantOnlyCleared("Cache")
	clear(answer.Inbox[:cap(answer.Inbox)])
	clear(kept.Inbox)
	wantOnlyCleared("Inbox")
	clear(answer.Frames[:cap(answer.Frames)])
	clear(kept.Frames)
	wantOnlyCleared("Frames")
	clear(answer.Replies[:cap(answer.Replies)])
	clear(kept.Replies)
	wantOnlyCleared("Replies")
	if again := richHost(t); areHosts(again, answer) {
		t.Error("what was cleared in one answer is cleared in another one")
	}
}

func TestP1WhatTellsNoHostChangesNothing(t *testing.T) {
	given := withSpareInputs(aHost(), richInputs(t))
	before := given.seen()
	h := richHost(t)
	kept := clonedHost(h)
	impl.HostFault(given.config)
	for _, i := range given.list {
		impl.InputFault(i)
		impl.IsForHost(given.config, i.Data)
	}
	impl.FramesTo(h, 11)
	impl.SameHosts(h, kept)
	if given.seen() != before || !areHosts(h, kept) {
		t.Error("an argument was changed")
	}
}

func TestP1TheSameHostAnswersTheSame(t *testing.T) {
	inputs := richInputs(t)
	want := impl.RunHost(aHost(), inputs)
	for range 50 {
		other := impl.RunHost(withoutGateway(), inputs)
		got := impl.RunHost(aHost(), inputs)
		if got.Code != want.Code || !areHosts(got.Host, want.Host) || areHosts(other.Host, want.Host) {
			t.Fatal("the same call does not answer the same")
		}
		for _, data := range inputs {
			wantBool(t, "IsForHost, again", impl.IsForHost(aHost(), data.Data), impl.IsForHost(aHost(), data.Data))
		}
	}
}
