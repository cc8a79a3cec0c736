package tests

import (
	"fmt"
	"strings"
	"testing"

	"loop.example/g00726/impl"
)

func TestP10FramesUpToMaxFrames(t *testing.T) {
	inHostPlays(t, "the last one of two that one input wants", aHost(), func(p *hostPlay) {
		p.do("ping b 3")
		fillFrames(p, 59)
		p.do("b asks me").wantFrames("b: me>b echo 1 3").wantReply(impl.OK, 0, "").wantHost("frames=60 held=0 cache=gw@60000,b@60000 drops=0")
		p.do("b asks me").wantFrames().wantReply(impl.OK, 0, "").wantHost("frames=60 drops=0")
	})
	inHostPlays(t, "behind them all else is turned", aHost(), func(p *hostPlay) {
		p.act(meCalls).do("ping c 1")
		fillFrames(p, 60)
		p.do("c asks me").wantFrames().wantHost("held=0 cache=b@60000,gw@60000,c@60000").do("ping d 1").wantReply(impl.OK, 0, "").wantFrames().wantHost("held=1")
		p.do("send 0 :abcdef", "poll").wantFrames().wantEnd(0, "sent=7 top=7").do("b>me tcp 80>5000 PA 1 a7 w9 :xyz").wantEnd(0, "acked=7 got=4 window=9")
		p.do("b>me udp 7>53 :x", "b>me pong 1 1", "b>me echo 1 1", "b>me udp 7>54").wantFrames().wantHost("inbox=b:7>53:x pongs=1 drops=1 held=1 frames=60")
		p.do("c>me tcp 9>80 A 5 a7").wantFrames().wantEnd(1, "listen waits=0").do("c>me tcp 9>80 S 0", "poll").wantFrames().wantEnd(1, "synrcvd sent=1")
		p.do("take").wantReply(impl.OK, 7, "x").do("recv 0 9").wantReply(impl.OK, 3, "xyz").do("tell far 9 :y").wantReply(impl.OK, 0, "").wantHost("frames=60")
		p.do("wait 60000", "wait 1").wantHost("cache= frames=60 now=60001").do("close 0", "poll").wantEnd(0, "finwait1 sent=8")
	})
	inHostPlays(t, "some of a burst", withEnds(50, 20, 1), func(p *hostPlay) {
		p.act(meCalls).do("gw tells me")
		fillFrames(p, 58)
		p.do("send 0 :abcdef", "poll").wantFrames("b: me>b tcp 5000>80 PA 1 a1 w20 :a", "b: me>b tcp 5000>80 PA 2 a1 w20 :b").wantEnd(0, "sent=5 top=5").wantHost("frames=60")
	})
	inHostPlays(t, "what it asked for with no room", withoutGateway(), func(p *hostPlay) {
		fillFrames(p, 60)
		p.do("ping far 1").wantReply(impl.ErrNone, 0, "").wantNothingTurned().do("ping b 1").wantReply(impl.OK, 0, "").wantHost("held=1 frames=60")
	})
	for _, kind := range []string{"gw asks me", "gw>me echo 1 2", "gw>me tcp 9>9 S 0", "ping gw 1", "tell gw 1", "gw>me tcp 9>80 A 0 a1"} {
		inHostPlays(t, "each way to emit: "+kind, aHost(), func(p *hostPlay) {
			p.do("gw tells me")
			for count := range 63 {
				p.do(kind).wantReply(impl.OK, 0, "").wantHost(fmt.Sprintf("frames=%d drops=0 held=0", min(count+1, 60)))
			}
		})
	}
}

func TestP10TheBoundsOfEnds(t *testing.T) {
	inHostPlays(t, "what waits to be heard", aHost(), func(p *hostPlay) {
		p.act(meCalls).do("send 0 :"+strings.Repeat("a", 60)).wantReply(impl.OK, 50, "").do("send 0 :b").wantReply(impl.OK, 0, "").do("poll", "b>me tcp 80>5000 A 1 a3 w20")
		p.do("send 0 :bcdef").wantReply(impl.OK, 2, "").wantEnd(0, "acked=3 out="+strings.Repeat("a", 50)+"bc")
	})
	inHostPlays(t, "all that is ever accepted", withEnds(200, 20, 520), func(p *hostPlay) {
		p.do("b tells me", "open 0", "poll", "b>me tcp 80>5000 SA 0 a1 w300 m520")
		text := strings.Repeat("x", 80)
		for round := range 5 {
			p.do("send 0 :"+text).wantReply(impl.OK, 80, "").do("poll", fmt.Sprintf("b>me tcp 80>5000 A 1 a%d w300", 1+80*(round+1)))
		}
		p.wantEnd(0, "acked=401 sent=401").do("send 0 :a").wantReply(impl.OK, 0, "").wantNothingTurned()
	})
	inHostPlays(t, "pieces", aHost(), func(p *hostPlay) {
		p.act(meCalls).do("b>me tcp 80>5000 PA 3 a1 w20 :c", "b>me tcp 80>5000 PA 5 a1 w20 :e", "b>me tcp 80>5000 PA 7 a1 w20 :g", "b>me tcp 80>5000 PA 9 a1 w20 :i")
		p.wantEnd(0, "got=1 pieces=2:c,4:e,6:g,8:i").do("b>me tcp 80>5000 PA 11 a1 w20 :k").wantEnd(0, "got=1 pieces=2:c,4:e,6:g,8:i").wantHost("drops=0")
		p.do("b>me tcp 80>5000 PA 1 a1 w20 :a").wantEnd(0, "got=2 pieces=1:c,3:e,5:g,7:i free=19").do("b>me tcp 80>5000 PA 2 a1 w20 :b").wantEnd(0, "got=4 pieces=1:e,3:g,5:i")
	})
	inHostPlays(t, "what waits to be read", aHost(), func(p *hostPlay) {
		p.act(meCalls).do("b>me tcp 80>5000 PA 1 a1 w20 :"+strings.Repeat("y", 25)).wantEnd(0, "got=21 free=0").do("b>me tcp 80>5000 PA 21 a1 w20 :y").wantEnd(0, "got=21 free=0")
		p.do("recv 0 200").wantReply(impl.OK, 20, strings.Repeat("y", 20)).wantEnd(0, "free=20 read=20").do("recv 0 200").wantReply(impl.OK, 0, "")
	})
	inHostPlays(t, "each end for itself", aHost(), func(p *hostPlay) {
		p.act(bCalls).act(meCalls).do("send 0 :abc", "send 1 :uvwxyz").wantEnd(0, "out=abc").wantEnd(1, "out=uvwxyz").wantEnd(2, "out=")
		p.do("b>me tcp 80>5000 PA 1 a1 w20 :123", "b>me tcp 9>80 PA 1 a1 w20 :45").do("recv 0 9").wantReply(impl.OK, 3, "123").do("recv 1 9").wantReply(impl.OK, 2, "45")
		p.do("poll").wantFrames("b: me>b tcp 5000>80 PA 1 a4 w20 :abc", "b: me>b tcp 80>9 PA 1 a3 w20 :uvwxyz").do("abort 0", "close 1", "close 2").wantReply(impl.ErrState, 0, "")
		p.wantEnd(0, "closed why=9").wantEnd(1, "finwait1").wantEnd(2, "closed why=0")
	})
}

func TestP10ThePollOfManyEnds(t *testing.T) {
	inHostPlays(t, "one behind the other", aHost(), func(p *hostPlay) {
		p.do("b tells me", "gw tells me", "b>me tcp 9>80 S 0", "open 2", "open 0").wantFrames().do("poll")
		p.wantFrames("b: me>b tcp 5000>80 S 0 w20 m10", "b: me>b tcp 80>9 SA 0 a1 w20 m10", "gw: me>far tcp 6000>7 S 0 w20 m10")
	})
	inHostPlays(t, "that have nothing to say", aHost(), func(p *hostPlay) {
		p.do("poll").wantReply(impl.OK, 0, "").wantNothingTurned().wantFrames()
	})
	none := aHost()
	none.Sockets = nil
	inHostPlays(t, "of which there is none", none, func(p *hostPlay) {
		p.do("poll").wantReply(impl.OK, 0, "").wantNothingTurned()
	})
	inHostPlays(t, "resets that wait go to who is called", aHost(), func(p *hostPlay) {
		p.act(meCalls).do("abort 0").wantFrames().wantEnd(0, "waits=1").do("poll").wantFrames("b: me>b tcp 5000>80 R 1").wantEnd(0, "waits=0")
	})
}

// Two hosts that are made for each other talk by their frames alone.
func TestP10TwoHostsTalk(t *testing.T) {
	a, b := aHost(), aHost()
	b.Mac, b.Route.Ip, b.Sockets = 11, ipOf("b"), []impl.Socket{{End: impl.EndConfig{Port: 80, First: 7, SendCap: 50, RecvCap: 20, Mss: 10, Listens: true}}}
	hosts := [2]impl.HostConfig{a, b}
	inputs, seen := [2][]impl.Input{{{Kind: impl.EvOpen}, {Kind: impl.EvSend, Data: []byte("hello, are you there?")}}, {}}, [2]int{}
	for range 12 {
		for side := range 2 {
			inputs[side] = append(inputs[side], impl.Input{Kind: impl.EvPoll})
			h := impl.RunHost(hosts[side], inputs[side]).Host
			for _, data := range h.Frames[seen[side]:] {
				inputs[1-side] = append(inputs[1-side], impl.Input{Kind: impl.InFrame, Data: data})
			}
			seen[side] = len(h.Frames)
		}
		inputs[1] = append(inputs[1], impl.Input{Kind: impl.EvRecv, N: 200})
	}
	read := ""
	for _, r := range impl.RunHost(b, inputs[1]).Host.Replies {
		read += string(r.Bytes)
	}
	if read != "hello, are you there?" {
		t.Errorf("the other host reads %q", read)
	}
	for side := range 2 {
		checkHostSteps(t, "two hosts", hosts[side], inputs[side])
	}
}

// A hostWalk draws what comes to a host; it looks at the model, so that much of it fits.
type hostWalk struct {
	draw   func(int) int
	config impl.HostConfig
	model  *modelHost
}

func pick[T any](draw func(int) int, list ...T) T {
	return list[draw(len(list))]
}

func drawHost(draw func(int) int) impl.HostConfig {
	c := impl.HostConfig{Mac: pick[int64](draw, 10, 1, lastMac-1), Route: impl.Route{Ip: ipOf("me"), Bits: int64(pick(draw, 24, 29, 8, 30)), Gateway: pick(draw, 0, ipOf("gw"), ipOf("b"))}, Udp: 53}
	firsts := []int64{0, 1, 2147483647, 4294967295, 4294967200}
	for at := range draw(4) {
		s := impl.Socket{End: impl.EndConfig{
			Port: int64(80 + at), First: pick(draw, firsts...), SendCap: 1 + int64(draw(pick(draw, 6, 40, 200))),
			RecvCap: 1 + int64(draw(pick(draw, 6, 40, 200))), Mss: 1 + int64(draw(pick(draw, 4, 30, 520))), Listens: draw(2) == 0,
		}}
		if !s.End.Listens {
			s.PeerIp, s.Peer = pick(draw, ipOf("b"), ipOf("c"), ipOf("far")), int64(7+draw(2))
		}
		c.Sockets = append(c.Sockets, s)
	}
	return c
}

func (w *hostWalk) next() impl.Input {
	draw := w.draw
	socket := int64(draw(max(len(w.config.Sockets), 1) + draw(8)/7))
	switch at := draw(100); {
	case at < 14:
		return impl.Input{Kind: impl.EvPoll}
	case at < 20:
		return impl.Input{Kind: impl.EvWait, N: pick[int64](draw, 0, 1, 500, 999, 1000, 2000, 16000, 59000, 60000)}
	case at < 24:
		return impl.Input{Kind: impl.EvOpen, Socket: socket}
	case at < 31:
		return impl.Input{Kind: impl.EvSend, Socket: socket, Data: mixed(draw(pick(draw, 4, 12, 101)))}
	case at < 36:
		return impl.Input{Kind: impl.EvRecv, Socket: socket, N: int64(draw(pick(draw, 3, 20, 201)))}
	case at < 37:
		return impl.Input{Kind: pick[int64](draw, impl.EvClose, impl.EvClose, impl.EvClose, impl.EvAbort), Socket: socket}
	case at < 41:
		return impl.Input{Kind: impl.InTell, Ip: w.ip(), Port: 9, Data: mixed(draw(9))}
	case at < 43:
		return impl.Input{Kind: impl.InTake}
	case at < 46:
		return impl.Input{Kind: impl.InPing, Ip: w.ip(), N: int64(draw(65536))}
	case at < 47:
		return impl.Input{Kind: int64(draw(17)), Socket: int64(draw(4)), N: int64(draw(2)), Ip: int64(draw(2)), Port: int64(draw(2)), Data: mixed(draw(2))}
	}
	return impl.Input{Kind: impl.InFrame, Data: w.frame()}
}

func (w *hostWalk) ip() int64 {
	return parties[1+w.draw(8)].ip
}

func (w *hostWalk) frame() []byte {
	data := w.fineFrame()
	switch w.draw(25) {
	case 0:
		at := w.draw(len(data))
		return put(data, at, data[at]^1<<w.draw(8))
	case 1:
		return data[:w.draw(len(data)+1)]
	case 2:
		return append(data, mixed(w.draw(20))...)
	}
	return data
}

func (w *hostWalk) fineFrame() []byte {
	draw, me := w.draw, w.config.Route.Ip
	who := parties[1+draw(8)]
	to := pick(draw, w.config.Mac, w.config.Mac, w.config.Mac, w.config.Mac, lastMac, 12)
	target := pick(draw, me, me, me, me, me, me, me, ipOf("b"))
	if len(w.config.Sockets) > 0 && draw(3) > 0 {
		return w.segmentFrame()
	}
	switch draw(6) {
	case 0, 1, 2:
		return frameBytes(to, who.mac, impl.KindArp, arpBytes(int64(1+draw(2)), who.mac, who.ip, int64(draw(20)), target))
	case 3:
		body := impl.PackEcho(impl.Echo{Reply: draw(2) == 0, Id: int64(draw(3)), Seq: int64(draw(65536)), Data: mixed(draw(9))}).Bytes
		return frameBytes(to, who.mac, impl.KindIp, packetBytes(who.ip, target, 1, body))
	case 4:
		body := impl.PackDatagram(who.ip, target, impl.Datagram{FromPort: int64(1 + draw(9)), ToPort: pick[int64](draw, 53, 53, 53, 80), Data: mixed(draw(9))}).Bytes
		return frameBytes(to, who.mac, impl.KindIp, packetBytes(who.ip, target, 17, body))
	}
	body := impl.PackSegment(who.ip, target, impl.Segment{FromPort: int64(7 + draw(2)), ToPort: int64(79 + draw(5)), Seq: int64(draw(9)), Flags: pick[int64](draw, 2, 4, 1, 0, 8)}).Bytes
	return frameBytes(to, who.mac, impl.KindIp, packetBytes(who.ip, target, int64(pick(draw, 6, 6, 6, 7)), body))
}

// segmentFrame is to one of the ends, from its other one, and near to what that one could say.
func (w *hostWalk) segmentFrame() []byte {
	draw, at := w.draw, w.draw(len(w.config.Sockets))
	e, from := w.model.ends[at], w.model.peerIps[at]
	s := impl.Segment{FromPort: e.other.Port, ToPort: e.config.Port, Window: int64(draw(pick(draw, 1, 20, 300)))}
	if s.FromPort == 0 || draw(30) == 0 {
		from, s.FromPort = w.ip(), int64(7+draw(2))
	}
	s.Flags = pick[int64](draw, 16, 16, 24, 24, 24, 17, 25, 0, 8, 2, 18, 4, 20, int64(draw(32)))
	if e.state == impl.StateSynSent || e.state == impl.StateListen {
		s.Flags = pick(draw, s.Flags, 2, 18, 18)
		s.Seq = pick[int64](draw, 5, 4294967295, 2147483640)
	} else {
		s.Seq = int64(e.wanted() + uint32(pick(draw, 0, 0, 0, 0, 1, -1, draw(9)-4, draw(300)-150)))
	}
	if hasFlag(s.Flags, 16) {
		s.Ack = int64(e.number(pick(draw, e.top, e.top, e.top, e.sent, e.acked, e.top+1, e.acked-1, e.acked+int64(draw(9)))))
	}
	if hasFlag(s.Flags, 2) {
		s.Mss = int64(draw(pick(draw, 1, 20, 600)))
	}
	if hasFlag(s.Flags, 8) || draw(9) == 0 {
		s.Data = mixed(draw(pick(draw, 4, 20, 300)))
	}
	return frameBytes(w.config.Mac, 11, impl.KindIp, packetBytes(from, w.config.Route.Ip, 6, impl.PackSegment(from, w.config.Route.Ip, s).Bytes))
}

// aHostWalk tells a host and what comes to it, drawn by one number, and the model behind it.
func aHostWalk(seed int) (impl.HostConfig, []impl.Input, *modelHost) {
	state := uint32(seed*7919 + 3)
	draw := func(count int) int { return nextDraw(&state, count) }
	config := drawHost(draw)
	w := &hostWalk{draw: draw, config: config, model: newModelHost(config)}
	inputs := []impl.Input{}
	for len(inputs) < 150 {
		next := w.next()
		w.model.turn(next)
		inputs = append(inputs, next)
	}
	return config, inputs, w.model
}

func TestP10HostWalksStepByStep(t *testing.T) {
	for seed := range 60 {
		config, inputs, _ := aHostWalk(seed)
		checkHostSteps(t, fmt.Sprint("walk ", seed), config, inputs)
	}
}

func TestP10ManyHostWalks(t *testing.T) {
	states := map[int64]int{}
	for seed := 60; seed < 6000; seed++ {
		config, inputs, model := aHostWalk(seed)
		got := impl.RunHost(config, inputs)
		if got.Code != impl.OK || !areHosts(got.Host, model.told()) {
			t.Fatalf("walk %d: %v, %s: code %d\n%s\nwant\n%s", seed, config, nameInputs(inputs), got.Code, nameHost(got.Host), nameHost(model.told()))
		}
		checkHost(t, fmt.Sprint("walk ", seed), config, got.Host)
		for _, e := range got.Host.Ends {
			states[e.State]++
		}
	}
	for state, name := range stateNames {
		if states[int64(state)] == 0 {
			t.Errorf("no walk ends in the state %s; they are to be drawn otherwise", name)
		}
	}
}

// Whatever follows, what was done stays: the replies to the first inputs, and what was emitted.
func TestP10WhatWasDoneAtAHostStays(t *testing.T) {
	for seed := range 40 {
		config, inputs, _ := aHostWalk(seed)
		_, others, _ := aHostWalk(seed + 1000)
		for _, count := range []int{0, 1, 40, 75, 149} {
			mixedUp := append(append([]impl.Input{}, inputs[:count]...), others[:150-count]...)
			first := impl.RunHost(config, inputs[:count]).Host
			for _, list := range [][]impl.Input{inputs, mixedUp} {
				whole := impl.RunHost(config, list).Host
				if !areReplies(whole.Replies[:count], first.Replies) || nameFrames(whole.Frames[:len(first.Frames)]) != nameFrames(first.Frames) {
					t.Fatalf("walk %d: what was done first hangs on what follows", seed)
				}
			}
		}
	}
}
