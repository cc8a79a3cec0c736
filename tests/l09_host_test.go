package tests

import (
	"bytes"
	"fmt"
	"math"
	"testing"

	"loop.example/g00726/impl"
)

func TestP1Constants9(t *testing.T) {
	got := []int64{impl.MaxSockets, impl.MaxInbox, impl.MaxHeld, impl.MaxFrames, impl.MaxInputs, impl.AskEvery, impl.InFrame, impl.InTell, impl.InTake, impl.InPing}
	if want := []int64{3, 4, 2, 60, 150, 1000, 11, 12, 13, 14}; fmt.Sprint(got) != fmt.Sprint(want) {
		t.Errorf("the constants are %v; want %v", got, want)
	}
}

func manyInputs(count int, i impl.Input) []impl.Input {
	list := []impl.Input{}
	for range count {
		list = append(list, i)
	}
	return list
}

// wantNoHost asks for the code alone: all else is zero.
func wantNoHost(t *testing.T, call string, got impl.HostResult, code int64) {
	t.Helper()
	h := got.Host
	isZero := h.Now == 0 && h.Held == 0 && h.Pongs == 0 && h.Drops == 0 && len(h.Cache)+len(h.Ends)+len(h.Inbox)+len(h.Frames)+len(h.Replies) == 0
	if got.Code != code || !isZero {
		t.Errorf("%s: code %d, host %s; want code %d and no host", call, got.Code, nameHost(h), code)
	}
}

// wantHostFault asks all that asks the fault, with inputs of which there are too many, too: the fault is ahead.
func wantHostFault(t *testing.T, call string, c impl.HostConfig, code int64) {
	t.Helper()
	call = fmt.Sprintf("%s, %v", call, c)
	wantCode(t, "HostFault: "+call, impl.HostFault(c), code)
	fine := frameBytes(lastMac, 11, impl.KindArp, arpBytes(impl.ArpAsk, 11, ipOf("b"), 0, c.Route.Ip&lastIp))
	if code == impl.OK {
		got := impl.RunHost(c, []impl.Input{{Kind: impl.InFrame, Data: fine}})
		if got.Code != impl.OK || len(got.Host.Ends) != len(c.Sockets) || len(got.Host.Frames) != 1 {
			t.Errorf("RunHost: %s: code %d, %d ends", call, got.Code, len(got.Host.Ends))
		}
		wantBool(t, "IsForHost: "+call, impl.IsForHost(c, fine), true)
		return
	}
	for _, list := range [][]impl.Input{nil, {}, {{Kind: impl.InFrame, Data: fine}}, {{}}, manyInputs(151, impl.Input{})} {
		wantNoHost(t, "RunHost: "+call, impl.RunHost(c, list), code)
	}
	wantBool(t, "IsForHost: "+call, impl.IsForHost(c, fine), false)
	wantBool(t, "IsForHost of nothing: "+call, impl.IsForHost(c, nil), false)
}

// A hostNumber is a number of a config, and what it may be.
type hostNumber struct {
	name            string
	lowest, highest int64
	turn            func(*impl.HostConfig, int64)
}

func hostNumbers() []hostNumber {
	return []hostNumber{
		{"Mac", 1, lastMac - 1, func(c *impl.HostConfig, n int64) { c.Mac = n }},
		{"Ip", 1, lastIp, func(c *impl.HostConfig, n int64) { c.Route.Ip = n }},
		{"Bits", 8, 30, func(c *impl.HostConfig, n int64) { c.Route.Bits = n }},
		{"Gateway", 0, lastIp, func(c *impl.HostConfig, n int64) { c.Route.Gateway = n }},
		{"Udp", 1, 65535, func(c *impl.HostConfig, n int64) { c.Udp = n }},
	}
}

func TestP1HostNumbers(t *testing.T) {
	wantHostFault(t, "nothing", impl.HostConfig{}, impl.ErrRange)
	wantHostFault(t, "a host", aHost(), impl.OK)
	for _, field := range hostNumbers() {
		for _, n := range []int64{field.lowest, field.lowest + 1, field.highest - 1, field.highest} {
			c := aHost()
			field.turn(&c, n)
			wantHostFault(t, field.name, c, impl.OK)
		}
		for _, n := range outside(field.lowest, field.highest) {
			c := aHost()
			field.turn(&c, n)
			wantHostFault(t, field.name, c, impl.ErrRange)
			// These are asked ahead of the Sockets.
			c.Sockets = make([]impl.Socket, 4)
			wantHostFault(t, field.name+", and four sockets", c, impl.ErrRange)
			c.Sockets = []impl.Socket{aHost().Sockets[1], aHost().Sockets[1]}
			wantHostFault(t, field.name+", and two with the same Port", c, impl.ErrRange)
			c.Sockets = []impl.Socket{aHost().Sockets[1]}
			c.Sockets[0].Peer = 5
			wantHostFault(t, field.name+", and one that has not its form", c, impl.ErrRange)
		}
	}
}

func TestP1HowManySockets(t *testing.T) {
	fine := aHost().Sockets
	fourth := fine[1]
	fourth.End.Port = 90
	for count := range 4 {
		c := aHost()
		c.Sockets = fine[:count]
		wantHostFault(t, fmt.Sprint(count, " sockets"), c, impl.OK)
	}
	for name, list := range map[string][]impl.Socket{
		"4 sockets":                       append(fine[:3:3], fourth),
		"4 sockets, two of the same Port": append(fine[:3:3], fine[0]),
		"4 sockets that are none":         make([]impl.Socket, 4),
		"4 sockets, the last one faulty":  append(fine[:3:3], impl.Socket{}),
		"4 sockets, one without its form": append(fine[:3:3], impl.Socket{End: fineEnd()}),
		"70000 sockets":                   make([]impl.Socket, 70000),
	} {
		c := aHost()
		c.Sockets = list
		wantCode(t, name, impl.HostFault(c), impl.ErrMany)
		wantNoHost(t, name, impl.RunHost(c, nil), impl.ErrMany)
	}
	none, empty := aHost(), aHost()
	none.Sockets, empty.Sockets = nil, []impl.Socket{}
	if a, b := impl.RunHost(none, nil), impl.RunHost(empty, []impl.Input{}); a.Code != impl.OK || b.Code != impl.OK || !areHosts(a.Host, b.Host) {
		t.Error("nil and empty lists are not the same")
	}
}

// socketFaultOf tells the code of one socket whose end is fine, in words of its own.
func socketFaultOf(listens bool, peerIp int64, peer int64) int64 {
	isNobody, isSomebody := peerIp == 0 && peer == 0, peerIp > 0 && peer > 0 && peer <= 65535
	switch {
	case peerIp < 0 || peerIp > lastIp:
		return impl.ErrRange
	case listens && isNobody, !listens && isSomebody:
		return impl.OK
	}
	return impl.ErrForm
}

func TestP1PeersOfSockets(t *testing.T) {
	wantCode(t, "a caller without a peer", socketFaultOf(false, 0, 0), impl.ErrForm)
	for _, listens := range []bool{false, true} {
		for _, peerIp := range []int64{-1, 0, 1, 167772162, lastIp, lastIp + 1, math.MinInt64, math.MaxInt64} {
			for _, peer := range []int64{-1, 0, 1, 2, 65534, 65535, 65536, 1 << 32, 1<<32 + 5, math.MinInt64, math.MaxInt64} {
				for at := range 3 {
					c := aHost()
					c.Sockets[at].End.Listens, c.Sockets[at].PeerIp, c.Sockets[at].Peer = listens, peerIp, peer
					wantHostFault(t, fmt.Sprintf("listens %t, PeerIp %d, Peer %d", listens, peerIp, peer), c, socketFaultOf(listens, peerIp, peer))
				}
			}
		}
	}
}

func TestP1EndsOfSockets(t *testing.T) {
	for at := range 3 {
		for _, field := range endFields() {
			for _, n := range []int64{field.lowest, field.lowest + 1, field.highest - 1, field.highest} {
				c := aHost()
				field.turn(&c.Sockets[at].End, n)
				wantHostFault(t, fmt.Sprintf("%s of %d at %d", field.name, n, at), c, impl.OK)
			}
			for _, n := range outside(field.lowest, field.highest) {
				c := aHost()
				field.turn(&c.Sockets[at].End, n)
				wantHostFault(t, fmt.Sprintf("%s of %d at %d", field.name, n, at), c, impl.ErrRange)
				// Of the same socket it is ahead of the form.
				c.Sockets[at].Peer = -1
				wantHostFault(t, fmt.Sprintf("%s of %d at %d, without its form", field.name, n, at), c, impl.ErrRange)
			}
		}
	}
}

// All of a socket is asked ahead of the next one; whether two have the same Port, behind all of that.
func TestP1SocketsOneByOne(t *testing.T) {
	turns := map[int64]func(*impl.Socket){
		impl.ErrRange: func(s *impl.Socket) { s.End.Mss = 0 },
		impl.ErrForm:  func(s *impl.Socket) { s.Peer = 70000 },
	}
	for first := range 3 {
		for second := range 3 {
			for code, turn := range turns {
				for other, turnOther := range turns {
					if first >= second {
						continue
					}
					c := aHost()
					turn(&c.Sockets[first])
					turnOther(&c.Sockets[second])
					wantHostFault(t, fmt.Sprintf("%d at %d, %d at %d", code, first, other, second), c, code)
				}
			}
			if first == second {
				continue
			}
			c := aHost()
			c.Sockets[first].End.Port = c.Sockets[second].End.Port
			wantHostFault(t, fmt.Sprintf("the Port of %d at %d, too", second, first), c, impl.ErrTaken)
			for code, turn := range turns {
				for at := range 3 {
					faulty := clonedConfig(c)
					turn(&faulty.Sockets[at])
					wantHostFault(t, fmt.Sprintf("the same Port, and %d at %d", code, at), faulty, code)
				}
			}
		}
	}
	wrong := aHost()
	wrong.Sockets[0].PeerIp, wrong.Sockets[0].Peer = -1, -1
	wantHostFault(t, "a PeerIp that is none and a Peer that is none", wrong, impl.ErrRange)
	same := aHost()
	for at := range same.Sockets {
		same.Sockets[at].End.Port = 7
	}
	wantHostFault(t, "three with the same Port", same, impl.ErrTaken)
	// All else may be the same.
	twins := aHost()
	twins.Sockets[2] = twins.Sockets[0]
	twins.Sockets[2].End.Port++
	wantHostFault(t, "two that are the same but for the Port", twins, impl.OK)
	own := aHost()
	own.Udp, own.Sockets[0].PeerIp, own.Sockets[0].Peer = 80, own.Route.Ip, own.Sockets[0].End.Port
	wantHostFault(t, "one that calls itself, and the port of another one for datagrams", own, impl.OK)
}

func TestP1HowManyInputs(t *testing.T) {
	for _, i := range []impl.Input{{}, {Kind: impl.EvPoll}, {Kind: impl.EvWait, N: 60000}, {Kind: 15}, {Kind: impl.InTake}} {
		for _, count := range []int{0, 1, 149, 150} {
			if got := impl.RunHost(aHost(), manyInputs(count, i)); got.Code != impl.OK || len(got.Host.Replies) != count {
				t.Errorf("%d inputs: code %d, %d replies", count, got.Code, len(got.Host.Replies))
			}
		}
		for _, count := range []int{151, 152, 70000} {
			wantNoHost(t, fmt.Sprint(count, " inputs"), impl.RunHost(aHost(), manyInputs(count, i)), impl.ErrMany)
		}
	}
	if got := impl.RunHost(aHost(), manyInputs(150, impl.Input{Kind: impl.EvWait, N: 60000})).Host.Now; got != 9000000 {
		t.Error("the latest time is ", got)
	}
}

// richLines leave something in each list of a host.
var richLines = []string{
	"b tells me", "c tells me", "open 0", "poll", "b>me tcp 80>5000 SA 0 a1 w20 m10", "send 0 :hello", "poll", "b>me tcp 80>5000 PA 3 a3 w20 :cd", "b>me tcp 80>5000 PA 6 a3 w20 :fg",
	"b>me tcp 80>5000 PA 1 a3 w20 :a", "recv 0 9", "c>me tcp 9>80 S 0 w20", "poll", "c>me tcp 9>80 PA 1 a1 w20 :xyz", "recv 1 2", "c>me tcp 9>80 PA 7 a1 w20 :uvw", "send 1 :world", "poll",
	"b>me udp 7>53 :one", "c>me udp 8>53 :two", "far>me udp 9>53 :three", "take", "tell d 9 :lost", "ping far 1", "b>me pong 1 1", "b tells c", "b>me echo 1 2 :abc", "wait 10", "abort 2",
}

func richInputs(t *testing.T) []impl.Input {
	t.Helper()
	p := &hostPlay{config: aHost(), t: t}
	list := []impl.Input{}
	for _, line := range richLines {
		list = append(list, p.inputOf(line))
	}
	return list
}

func richHost(t *testing.T) impl.Host {
	t.Helper()
	h := impl.RunHost(aHost(), richInputs(t)).Host
	isRich := len(h.Cache) == 2 && h.Held == 2 && len(h.Inbox) == 2 && h.Pongs == 1 && h.Drops == 1 && len(h.Frames) > 4 && len(h.Replies[10].Bytes) > 0
	for _, e := range h.Ends[:2] {
		isRich = isRich && len(e.Out) > 0 && len(e.Pieces) > 0
	}
	if !isRich {
		t.Fatal("the host is not rich: ", nameHost(h))
	}
	return h
}

// wantInputFault asks RunHost, too: the reply tells the code, and nothing is turned.
func wantInputFault(t *testing.T, i impl.Input, code int64) {
	t.Helper()
	call := fmt.Sprintf("kind %d, socket %d, N %d, ip %d, port %d, %d bytes", i.Kind, i.Socket, i.N, i.Ip, i.Port, len(i.Data))
	wantCode(t, "InputFault of "+call, impl.InputFault(i), code)
	if code == impl.OK {
		return
	}
	ahead := richInputs(t)
	want := impl.RunHost(aHost(), ahead).Host
	want.Replies = append(append([]impl.Reply{}, want.Replies...), impl.Reply{Code: code})
	if got := impl.RunHost(aHost(), append(ahead, i)); got.Code != impl.OK || !areHosts(got.Host, want) {
		t.Errorf("RunHost with %s: code %d\n%s\nwant\n%s", call, got.Code, nameHost(got.Host), nameHost(want))
	}
}

// fineInputs have the lowest and the highest that each kind needs.
func fineInputs() []impl.Input {
	list := []impl.Input{{Kind: impl.EvPoll}, {Kind: impl.InTake}, {Kind: impl.EvPoll, Data: []byte{}}, {Kind: impl.InTake, Data: []byte{}}, {Kind: impl.InFrame}, {Kind: impl.InFrame, Data: make([]byte, 1)}, {Kind: impl.InFrame, Data: make([]byte, 700)}}
	for socket := range int64(3) {
		for _, kind := range []int64{impl.EvOpen, impl.EvClose, impl.EvAbort} {
			list = append(list, impl.Input{Kind: kind, Socket: socket})
		}
		for _, size := range []int{0, 1, 99, 100} {
			list = append(list, impl.Input{Kind: impl.EvSend, Socket: socket, Data: make([]byte, size)})
		}
		for _, n := range []int64{0, 1, 199, 200} {
			list = append(list, impl.Input{Kind: impl.EvRecv, Socket: socket, N: n})
		}
	}
	for _, n := range []int64{0, 1, 59999, 60000} {
		list = append(list, impl.Input{Kind: impl.EvWait, N: n})
	}
	for _, ip := range []int64{1, 2, lastIp - 1, lastIp} {
		for _, n := range []int64{0, 1, 65534, 65535} {
			list = append(list, impl.Input{Kind: impl.InPing, Ip: ip, N: n})
		}
		for _, port := range []int64{1, 2, 65534, 65535} {
			for _, size := range []int{0, 1, 99, 100} {
				list = append(list, impl.Input{Kind: impl.InTell, Ip: ip, Port: port, Data: make([]byte, size)})
			}
		}
	}
	return list
}

func TestP1InputsWithinTheirBounds(t *testing.T) {
	for _, i := range fineInputs() {
		wantInputFault(t, i, impl.OK)
		if i.Kind >= impl.EvOpen && i.Kind <= impl.EvAbort {
			continue
		}
		// What needs no end has no code of one: its reply is OK, but for what is not there.
		got := impl.RunHost(impl.HostConfig{Mac: 1, Route: impl.Route{Ip: 1, Bits: 8, Gateway: 9}, Udp: 1}, []impl.Input{i})
		want := int64(impl.OK)
		if i.Kind == impl.InTake {
			want = impl.ErrNone
		}
		wantCode(t, fmt.Sprint("the reply to ", i.Kind), got.Host.Replies[0].Code, want)
	}
}

func TestP1InputsThatAreNone(t *testing.T) {
	for _, kind := range []int64{0, 8, 9, 10, 15, 16, -1, -6, 100, 256 + 6, 1<<32 + 6, math.MinInt64, math.MaxInt64} {
		for _, i := range []impl.Input{{}, {Socket: 3}, {Socket: -1}, {N: 1}, {N: -1}, {N: math.MaxInt64}, {Ip: -1}, {Ip: 5, Port: 5}, {Port: 65536}, {Data: []byte("a")}, {Data: make([]byte, 701)}} {
			i.Kind = kind
			wantInputFault(t, i, impl.ErrForm)
		}
	}
}

// An inputTurn turns one part of an input.
type inputTurn struct {
	name string
	turn func(*impl.Input, int64)
}

func inputTurns() []inputTurn {
	return []inputTurn{
		{"Socket", func(i *impl.Input, n int64) { i.Socket = n }},
		{"N", func(i *impl.Input, n int64) { i.N = n }},
		{"Ip", func(i *impl.Input, n int64) { i.Ip = n }},
		{"Port", func(i *impl.Input, n int64) { i.Port = n }},
	}
}

// What each kind needs: the others are to be zero.
var neededBy = map[int64]string{
	impl.EvOpen: "Socket", impl.EvClose: "Socket", impl.EvAbort: "Socket", impl.EvSend: "Socket Data", impl.EvRecv: "Socket N", impl.EvPoll: "", impl.EvWait: "N",
	impl.InFrame: "Data", impl.InTell: "Ip Port Data", impl.InTake: "", impl.InPing: "Ip N",
}

func needs(kind int64, name string) bool {
	return bytes.Contains([]byte(neededBy[kind]), []byte(name))
}

func oneOfEachKind() []impl.Input {
	list := []impl.Input{}
	for kind := range neededBy {
		i := impl.Input{Kind: kind}
		if needs(kind, "Ip") {
			i.Ip = 5
		}
		if needs(kind, "Port") {
			i.Port = 6
		}
		list = append(list, i)
	}
	return list
}

// What is not needed is ErrForm, whether or not it, or what is needed, is within its bounds.
func TestP1InputsWithMoreThanTheyNeed(t *testing.T) {
	for _, fine := range oneOfEachKind() {
		wantInputFault(t, fine, impl.OK)
		for _, field := range inputTurns() {
			if needs(fine.Kind, field.name) {
				continue
			}
			for _, n := range []int64{1, 2, -1, 3, 65536, 1 << 32, math.MinInt64, math.MaxInt64} {
				i := fine
				field.turn(&i, n)
				wantInputFault(t, i, impl.ErrForm)
				for _, other := range inputTurns() {
					if needs(fine.Kind, other.name) {
						wrong := i
						other.turn(&wrong, -1)
						wantInputFault(t, wrong, impl.ErrForm)
					}
				}
			}
		}
		if !needs(fine.Kind, "Data") {
			for _, size := range []int{1, 100, 101, 700, 701} {
				i := fine
				i.Data = make([]byte, size)
				wantInputFault(t, i, impl.ErrForm)
			}
		}
	}
}

func TestP1InputsOutOfRange(t *testing.T) {
	lowest := map[string]int64{"Socket": 0, "N": 0, "Ip": 1, "Port": 1}
	for _, fine := range oneOfEachKind() {
		highest := map[string]int64{"Socket": 2, "N": map[int64]int64{impl.EvRecv: 200, impl.EvWait: 60000, impl.InPing: 65535}[fine.Kind], "Ip": lastIp, "Port": 65535}
		for _, field := range inputTurns() {
			if !needs(fine.Kind, field.name) {
				continue
			}
			for _, n := range outside(lowest[field.name], highest[field.name]) {
				i := fine
				field.turn(&i, n)
				wantInputFault(t, i, impl.ErrRange)
				if needs(fine.Kind, "Data") {
					i.Data = make([]byte, 701)
					wantInputFault(t, i, impl.ErrRange)
				}
			}
			for _, n := range []int64{lowest[field.name], highest[field.name]} {
				i := fine
				field.turn(&i, n)
				wantInputFault(t, i, impl.OK)
			}
		}
	}
	for _, size := range []int{101, 102, 700, 701, 70000} {
		wantInputFault(t, impl.Input{Kind: impl.EvSend, Data: make([]byte, size)}, impl.ErrMany)
		wantInputFault(t, impl.Input{Kind: impl.InTell, Ip: 5, Port: 6, Data: make([]byte, size)}, impl.ErrMany)
	}
	for _, size := range []int{701, 702, 70000} {
		wantInputFault(t, impl.Input{Kind: impl.InFrame, Data: make([]byte, size)}, impl.ErrMany)
	}
}

// All that may be wrong at once: the codes are asked over all of an input, one behind the other.
func TestP1InputsWithMoreFaults(t *testing.T) {
	datas := [][]byte{nil, {}, make([]byte, 1), make([]byte, 100), make([]byte, 101), make([]byte, 700), make([]byte, 701)}
	for kind := int64(-1); kind <= 16; kind++ {
		for _, socket := range []int64{-1, 0, 2, 3} {
			for _, n := range []int64{-1, 0, 1, 200, 201, 60000, 60001, 65535, 65536, math.MaxInt64} {
				for _, ip := range []int64{-1, 0, 1, lastIp, lastIp + 1, math.MinInt64} {
					for _, port := range []int64{-1, 0, 1, 65535, 65536} {
						for _, data := range datas {
							i := impl.Input{Kind: kind, Socket: socket, N: n, Ip: ip, Port: port, Data: data}
							if got, want := impl.InputFault(i), modelInputFault(i); got != want {
								t.Fatalf("InputFault of kind %d, socket %d, N %d, ip %d, port %d, %d bytes: %d; want %d", kind, socket, n, ip, port, len(data), got, want)
							}
						}
					}
				}
			}
		}
	}
}

// A socket that is not there has a code of its own, behind those of the input.
func TestP1SocketsThatAreNotThere(t *testing.T) {
	for count := range int64(4) {
		c := aHost()
		c.Sockets = c.Sockets[:count]
		for socket := range int64(3) {
			for _, i := range []impl.Input{{Kind: impl.EvOpen}, {Kind: impl.EvSend, Data: []byte("a")}, {Kind: impl.EvRecv, N: 1}, {Kind: impl.EvClose}, {Kind: impl.EvAbort}} {
				i.Socket = socket
				ahead := []impl.Input{{Kind: impl.InPing, Ip: 5}, {Kind: impl.EvPoll}}
				got, was := impl.RunHost(c, append(ahead, i)).Host, impl.RunHost(c, ahead).Host
				call := fmt.Sprintf("kind %d, socket %d of %d", i.Kind, socket, count)
				if socket < count {
					wantBool(t, call, got.Replies[2].Code == impl.ErrNone, false)
					continue
				}
				was.Replies = append(was.Replies, impl.Reply{Code: impl.ErrNone})
				wantBool(t, call, areHosts(got, was), true)
				i.Socket = 3
				wantCode(t, call+", and more", impl.RunHost(c, []impl.Input{i}).Host.Replies[0].Code, impl.ErrRange)
				i.Socket, i.Port = socket, 1
				wantCode(t, call+", and a Port", impl.RunHost(c, []impl.Input{i}).Host.Replies[0].Code, impl.ErrForm)
			}
		}
	}
}

// What the ends answer is what chapter 8 says: its codes come through.
func TestP1TheCodesOfEnds(t *testing.T) {
	inHostPlays(t, "codes", aHost(), func(p *hostPlay) {
		p.do("send 0 :a").wantReply(impl.ErrState, 0, "").wantNothingTurned().do("recv 0 5").wantReply(impl.ErrState, 0, "").wantNothingTurned().do("close 0").wantReply(impl.ErrState, 0, "").do("abort 0").wantReply(impl.ErrState, 0, "")
		p.do("open 1").wantReply(impl.ErrState, 0, "").wantNothingTurned().do("send 1 :a").wantReply(impl.ErrState, 0, "").do("open 0").wantReply(impl.OK, 0, "").do("open 0").wantReply(impl.ErrState, 0, "").wantNothingTurned()
		p.do("send 0 :abc").wantReply(impl.OK, 3, "").do("abort 0").wantReply(impl.OK, 0, "").do("send 0 :a").wantReply(impl.ErrReset, 0, "").wantNothingTurned().do("recv 0 5").wantReply(impl.ErrReset, 0, "").do("close 0").wantReply(impl.ErrReset, 0, "")
		p.do("close 1").wantReply(impl.OK, 0, "").do("close 1").wantReply(impl.ErrState, 0, "").do("abort 1").wantReply(impl.ErrState, 0, "")
	})
}

func TestP1IsForHost(t *testing.T) {
	config := dropHost()
	fine := fineFrames(t)
	for _, one := range fine {
		for _, count := range []int{len(one.data), 614, 615, 699, 700, 701, 70000} {
			data := append(bytes.Clone(one.data), make([]byte, count-len(one.data))...)
			wantBool(t, fmt.Sprintf("IsForHost of %d bytes with %s", count, one.name), impl.IsForHost(config, data), count <= 614)
		}
		for _, faulty := range []impl.HostConfig{{}, {Mac: 10, Route: config.Route}, {Route: config.Route, Udp: 53}} {
			wantBool(t, "IsForHost with a HostFault, "+one.name, impl.IsForHost(faulty, one.data), false)
		}
		without := config
		without.Sockets = nil
		wantBool(t, "IsForHost without sockets, "+one.name, impl.IsForHost(without, one.data), true)
	}
	wantBool(t, "IsForHost of nothing", impl.IsForHost(config, nil), false)
	wantBool(t, "IsForHost of an empty list", impl.IsForHost(config, []byte{}), false)
}

// Whatever comes: it is for the host if, and only if, RunHost of this one frame does not drop it.
func TestP1IsForHostBesideRunHost(t *testing.T) {
	state, both := uint32(5), map[bool]int{}
	draw := func(count int) int { return nextDraw(&state, count) }
	for range 20000 {
		config := drawHost(draw)
		w := &hostWalk{draw: draw, config: config, model: newModelHost(config)}
		data := w.frame()
		want := impl.RunHost(config, []impl.Input{{Kind: impl.InFrame, Data: data}}).Host.Drops == 0
		both[want]++
		wantBool(t, "IsForHost of "+nameFrame(data), impl.IsForHost(config, data), want)
	}
	if both[true] < 1000 || both[false] < 1000 {
		t.Error("the frames are to be drawn otherwise: ", both)
	}
}

func wantList(t *testing.T, call string, got impl.BytesListResult, code int64, want ...[]byte) {
	t.Helper()
	if got.Code != code || len(got.List) != len(want) {
		t.Errorf("%s: code %d, %x; want code %d, %x", call, got.Code, got.List, code, want)
		return
	}
	for i := range want {
		if !bytes.Equal(got.List[i], want[i]) {
			t.Errorf("%s: %d of the list is %x; want %x", call, i, got.List[i], want[i])
		}
	}
}

func TestP1FramesTo(t *testing.T) {
	to := func(mac int64, b byte) []byte { return frameBytes(mac, 5, 7, []byte{b}) }
	h := impl.Host{Frames: [][]byte{to(9, 1), to(0, 2), to(9, 3), nil, to(lastMac, 4), to(9, 3), make([]byte, 13), make([]byte, 14), make([]byte, 614), make([]byte, 615), to(1, 5), {}, to(lastMac-1, 6)}}
	wantList(t, "to 9", impl.FramesTo(h, 9), impl.OK, to(9, 1), to(9, 3), to(9, 3))
	wantList(t, "to 0", impl.FramesTo(h, 0), impl.OK, to(0, 2), make([]byte, 14), make([]byte, 614))
	wantList(t, "to MaxMac", impl.FramesTo(h, lastMac), impl.OK, to(lastMac, 4))
	wantList(t, "to one below MaxMac", impl.FramesTo(h, lastMac-1), impl.OK, to(lastMac-1, 6))
	wantList(t, "to 1", impl.FramesTo(h, 1), impl.OK, to(1, 5))
	wantList(t, "to 5, From whom they are", impl.FramesTo(h, 5), impl.OK)
	for _, mac := range outside(0, lastMac) {
		wantList(t, fmt.Sprint("to ", mac), impl.FramesTo(h, mac), impl.ErrRange)
		wantList(t, fmt.Sprint("without frames, to ", mac), impl.FramesTo(impl.Host{}, mac), impl.ErrRange)
	}
	for _, none := range []impl.Host{{}, {Frames: [][]byte{}}, {Now: -1, Held: 99, Drops: -7, Ends: make([]impl.End, 9), Inbox: make([]impl.Letter, 9), Cache: make([]impl.Entry, 9)}} {
		wantList(t, "without frames", impl.FramesTo(none, 9), impl.OK)
	}
	for _, count := range []int{59, 60, 61, 62, 70000} {
		many := impl.Host{}
		for range count {
			many.Frames = append(many.Frames, to(9, 1))
		}
		for _, mac := range []int64{9, 8, -1, lastMac + 1} {
			call := fmt.Sprintf("%d frames, to %d", count, mac)
			switch {
			case count > 60:
				wantList(t, call, impl.FramesTo(many, mac), impl.ErrMany)
			case mac < 0 || mac > lastMac:
				wantList(t, call, impl.FramesTo(many, mac), impl.ErrRange)
			case mac == 9:
				wantList(t, call, impl.FramesTo(many, mac), impl.OK, many.Frames...)
			default:
				wantList(t, call, impl.FramesTo(many, mac), impl.OK)
			}
		}
	}
	// Of a host that ran, all frames go to somebody.
	rich, count := richHost(t), 0
	for _, mac := range []int64{11, 12, 13, 99, lastMac} {
		count += len(impl.FramesTo(rich, mac).List)
	}
	if count != len(rich.Frames) {
		t.Errorf("%d of %d frames go to somebody", count, len(rich.Frames))
	}
}

func TestP1FramesToAreNewMemory(t *testing.T) {
	// The same memory lies twice in the argument.
	data, whole := withSpare(frameBytes(9, 5, 7, []byte("abc")))
	h := impl.Host{Frames: [][]byte{data, frameBytes(9, 5, 7, []byte("xyz")), data}}
	answer := impl.FramesTo(h, 9).List
	kept, before := clonedFrames(answer), bytes.Clone(whole)
	for i, list := range answer {
		flipAll(list[:cap(list)])
		for j := range answer {
			if i != j && !bytes.Equal(answer[j], kept[j]) {
				t.Errorf("frame %d of the answer changes with frame %d", j, i)
			}
		}
		if !bytes.Equal(whole, before) {
			t.Error("the argument changes with the answer")
		}
		flipAll(list[:cap(list)])
	}
	flipAll(whole)
	flipAll(h.Frames[1])
	for i := range answer {
		if !bytes.Equal(answer[i], kept[i]) {
			t.Error("the answer changes with the argument")
		}
	}
	clear(answer[:cap(answer)])
	if h.Frames[0] == nil || h.Frames[1] == nil || h.Frames[2] == nil {
		t.Error("the list of the argument changes with that of the answer")
	}
}

func clonedFrames(list [][]byte) [][]byte {
	cloned := [][]byte{}
	for _, data := range list {
		cloned = append(cloned, bytes.Clone(data))
	}
	return cloned
}
