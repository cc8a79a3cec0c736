package tests

import (
	"fmt"
	"testing"

	"loop.example/g00726/impl"
)

func TestP10WhoAsksIsTold(t *testing.T) {
	inHostPlays(t, "asked by who is near", aHost(), func(p *hostPlay) {
		p.do("b asks me").wantReply(impl.OK, 0, "").wantFrames("b: me tells b").wantHost("drops=0 held=0 cache=b@60000")
		p.do("all: c asks me").wantFrames("c: me tells c").wantHost("drops=0 cache=b@60000,c@60000")
		p.do("b asks me").wantFrames("b: me tells b").wantHost("cache=c@60000,b@60000")
	})
	inHostPlays(t, "asked without ends", impl.HostConfig{Mac: 10, Route: impl.Route{Ip: ipOf("me"), Bits: 30}, Udp: 1}, func(p *hostPlay) {
		p.do("far asks me").wantFrames("gw: me tells far").wantHost("cache=far@60000")
	})
	inHostPlays(t, "asked for somebody else", aHost(), func(p *hostPlay) {
		p.do("b asks c").wantDropped().wantFrames().do("all: b asks c").wantDropped().do("b asks b").wantDropped().do("b asks nobody").wantDropped()
		p.do("b asks all").wantDropped().wantHost("cache= drops=5")
	})
	// What the head of the frame tells as From is not looked at.
	inHostPlays(t, "asked by a mac inside another one", aHost(), func(p *hostPlay) {
		ask := arpBytes(impl.ArpAsk, 77, ipOf("b"), 0, ipOf("me"))
		p.come(frameBytes(10, 11, impl.KindArp, ask)).wantHost("cache=b@60000")
		told := p.host.Frames[len(p.host.Frames)-1]
		wantBytes(t, "what is told", impl.BytesResult{Bytes: told}, impl.OK, frameBytes(77, 10, impl.KindArp, arpBytes(impl.ArpTell, 10, ipOf("me"), 77, ipOf("b"))))
		p.do("ping b 1")
		sent := p.host.Frames[len(p.host.Frames)-1]
		wantInt(t, "to whom it goes", impl.IntResult{Value: impl.ReadFrame(sent).Frame.To}, impl.OK, 77)
	})
	// Whom an ask is spoken to by its mac, and any bytes behind it, are not looked at.
	inHostPlays(t, "asked with more", aHost(), func(p *hostPlay) {
		ask := append(arpBytes(impl.ArpAsk, 11, ipOf("b"), 12345, ipOf("me")), repeated(7, 18)...)
		p.come(frameBytes(lastMac, 11, impl.KindArp, ask)).wantFrames("b: me tells b").wantHost("drops=0")
		long := append(arpBytes(impl.ArpAsk, 12, ipOf("c"), 0, ipOf("me")), make([]byte, 572)...)
		p.come(frameBytes(10, 12, impl.KindArp, long)).wantFrames("c: me tells c").wantHost("drops=0")
	})
}

func TestP10AnyMacAndIpIsTold(t *testing.T) {
	for _, mac := range someMacs() {
		for _, ip := range append(someIps(), ipOf("me"), ipOf("all"), ipOf("gw"), ipOf("far")) {
			for _, op := range []int64{impl.ArpAsk, impl.ArpTell} {
				inHostPlays(t, fmt.Sprintf("op %d from mac %d, ip %d", op, mac, ip), aHost(), func(p *hostPlay) {
					p.come(frameBytes(10, 11, impl.KindArp, arpBytes(op, mac, ip, 0, ipOf("me"))))
					if len(p.host.Cache) != 1 || p.host.Cache[0] != (impl.Entry{Ip: ip, Mac: mac, Until: 60000}) || p.host.Drops != 0 {
						p.fail("what is learned", p.host.Cache, mac)
					}
					want := [][]byte{}
					if op == impl.ArpAsk {
						want = append(want, frameBytes(mac, 10, impl.KindArp, arpBytes(impl.ArpTell, 10, ipOf("me"), mac, ip)))
					}
					if nameFrames(p.host.Frames) != nameFrames(want) {
						p.fail("what is told", nameFrames(p.host.Frames), nameFrames(want))
					}
				})
			}
		}
	}
}

func TestP10WhatIsToldIsLearned(t *testing.T) {
	inHostPlays(t, "told", aHost(), func(p *hostPlay) {
		p.do("b tells me").wantReply(impl.OK, 0, "").wantFrames().wantHost("drops=0 cache=b@60000")
		p.do("ping b 3").wantFrames("b: me>b echo 1 3").wantHost("held=0")
		p.do("all: c tells me").wantFrames().wantHost("drops=0 cache=b@60000,c@60000").do("tell c 9 :hi").wantFrames("c: me>c udp 53>9 :hi")
		p.do("b tells c").wantDropped()
	})
	inHostPlays(t, "told by who asks", aHost(), func(p *hostPlay) {
		p.do("b asks me", "ping b 3").wantFrames("b: me tells b", "b: me>b echo 1 3").wantHost("held=0")
	})
	inHostPlays(t, "told again by another mac", aHost(), func(p *hostPlay) {
		p.do("b tells me", "wait 7").come(frameBytes(10, 12, impl.KindArp, arpBytes(impl.ArpTell, 12, ipOf("b"), 10, ipOf("me")))).wantHost("cache=b@60007")
		p.do("ping b 3").wantFrames("c: me>b echo 1 3")
	})
}

func TestP10WhatIsHeldGoes(t *testing.T) {
	inHostPlays(t, "one packet", aHost(), func(p *hostPlay) {
		p.do("ping b 3").wantReply(impl.OK, 0, "").wantFrames("all: me asks b").wantHost("held=1")
		p.do("b tells me").wantFrames("b: me>b echo 1 3").wantHost("held=0").do("b tells me").wantFrames().wantHost("held=0")
	})
	inHostPlays(t, "to who asks, ahead of the answer", aHost(), func(p *hostPlay) {
		p.do("tell b 9 :hi").wantFrames("all: me asks b").do("b asks me").wantFrames("b: me>b udp 53>9 :hi", "b: me tells b").wantHost("held=0")
	})
	for _, order := range [][2]string{{"b", "c"}, {"c", "b"}} {
		inHostPlays(t, "two packets for two hops", aHost(), func(p *hostPlay) {
			p.do("ping b 3", "tell c 9 :hi").wantFrames("all: me asks b", "all: me asks c").wantHost("held=2")
			p.do("d tells me", "d asks me", "far tells me").wantFrames("d: me tells d").wantHost("held=2")
			goes := map[string]string{"b": "b: me>b echo 1 3", "c": "c: me>c udp 53>9 :hi"}
			p.do(order[0] + " tells me").wantFrames(goes[order[0]]).wantHost("held=1")
			p.do(order[0] + " tells me").wantFrames().wantHost("held=1")
			p.do(order[1] + " tells me").wantFrames(goes[order[1]]).wantHost("held=0")
		})
	}
	inHostPlays(t, "to the mac that is told then", aHost(), func(p *hostPlay) {
		p.do("ping b 3").come(frameBytes(10, 11, impl.KindArp, arpBytes(impl.ArpTell, 12, ipOf("b"), 10, ipOf("me")))).wantFrames("c: me>b echo 1 3")
	})
	inHostPlays(t, "not to who is asked for by others, nor by frames of other kinds", aHost(), func(p *hostPlay) {
		p.do("ping b 3", "b tells c", "c asks b", "c tells me").wantFrames("all: me asks b").wantHost("held=1 drops=2")
		// A packet from there teaches nothing.
		p.do("b>me udp 7>53 :x").wantFrames().wantHost("held=1 cache=c@60000 inbox=b:7>53:x")
	})
	inHostPlays(t, "however late", aHost(), func(p *hostPlay) {
		p.do("ping b 3", "wait 60000", "wait 60000", "wait 60000").wantHost("held=1").do("b tells me").wantFrames("b: me>b echo 1 3").wantHost("held=0 cache=b@240000")
	})
	inHostPlays(t, "segments, too", aHost(), func(p *hostPlay) {
		p.do("open 0", "poll").wantFrames("all: me asks b").wantHost("held=1").do("b tells me").wantFrames("b: me>b tcp 5000>80 S 0 w20 m10").wantHost("held=0")
	})
	inHostPlays(t, "an answer to an echo, and a reset", aHost(), func(p *hostPlay) {
		p.do("b>me echo 5 6 :xyz").wantFrames("all: me asks b").wantHost("held=1 drops=0").do("b tells me").wantFrames("b: me>b pong 5 6 :xyz")
		p.do("c>me tcp 9>9 S 0").wantFrames("all: me asks c").wantHost("held=1 drops=0").do("c asks me").wantFrames("c: me>c tcp 9>9 RA =0 a1", "c: me tells c")
	})
}

func TestP10WhatIsLost(t *testing.T) {
	inHostPlays(t, "a second packet for the same hop", aHost(), func(p *hostPlay) {
		p.do("ping b 3", "ping b 4", "tell b 9 :hi").wantFrames("all: me asks b").wantHost("held=1").wantReply(impl.OK, 0, "")
		p.do("b tells me").wantFrames("b: me>b echo 1 3").wantHost("held=0").do("ping b 5").wantFrames("b: me>b echo 1 5")
	})
	inHostPlays(t, "a third hop", aHost(), func(p *hostPlay) {
		p.do("ping b 3", "ping c 4", "ping d 5").wantFrames("all: me asks b", "all: me asks c", "all: me asks d").wantHost("held=2").wantReply(impl.OK, 0, "")
		p.do("d tells me").wantFrames().wantHost("held=2").do("b tells me").wantFrames("b: me>b echo 1 3").wantHost("held=1")
		p.do("ping e 6").wantFrames("all: me asks e").wantHost("held=2").do("ping f 7").wantFrames("all: me asks f").wantHost("held=2")
		p.do("f tells me").wantFrames().do("e tells me").wantFrames("e: me>e echo 1 6").do("c tells me").wantFrames("c: me>c echo 1 4").wantHost("held=0")
	})
	inHostPlays(t, "all but the first segment of a burst", withEnds(50, 20, 2), func(p *hostPlay) {
		p.do("open 0", "poll", "b tells me", "b>me tcp 80>5000 SA 0 a1 w20", "poll").wantEnd(0, "open")
		p.do("wait 60000", "wait 1", "send 0 :abcdef", "poll").wantFrames("all: me asks b").wantHost("held=1 cache=").wantEnd(0, "sent=7")
		p.do("b tells me").wantFrames("b: me>b tcp 5000>80 PA 1 a1 w20 :ab").wantHost("held=0")
	})
	// Where nothing is lost of a hop that was told, packets go in their order.
	inHostPlays(t, "nothing of who is known", withEnds(50, 20, 2), func(p *hostPlay) {
		p.do("open 0", "poll", "b tells me", "b>me tcp 80>5000 SA 0 a1 w20", "poll", "send 0 :abcdef", "poll")
		p.wantFrames("all: me asks b", "b: me>b tcp 5000>80 S 0 w20 m2", "b: me>b tcp 5000>80 A 1 a1 w20",
			"b: me>b tcp 5000>80 PA 1 a1 w20 :ab", "b: me>b tcp 5000>80 PA 3 a1 w20 :cd", "b: me>b tcp 5000>80 PA 5 a1 w20 :ef")
	})
}

func TestP10HowOftenItAsks(t *testing.T) {
	inHostPlays(t, "at the first time", aHost(), func(p *hostPlay) {
		p.do("ping b 3").wantFrames("all: me asks b").do("ping b 4").wantFrames().do("wait 999", "ping b 5").wantFrames()
		p.do("wait 1", "ping b 6").wantFrames("all: me asks b").wantHost("held=1 now=1000")
		// From then on it counts anew.
		p.do("wait 999", "ping b 7").wantFrames().do("wait 1", "ping b 8").wantFrames("all: me asks b").do("ping b 9").wantFrames()
		p.do("b tells me").wantFrames("b: me>b echo 1 3").wantHost("held=0")
	})
	inHostPlays(t, "at a later time", aHost(), func(p *hostPlay) {
		p.do("wait 500", "ping b 3").wantFrames("all: me asks b").do("wait 500", "ping b 4").wantFrames().do("wait 499", "ping b 5").wantFrames()
		p.do("wait 1", "ping b 6").wantFrames("all: me asks b").do("wait 5000", "ping b 7").wantFrames("all: me asks b")
	})
	// What did not ask does not put the next asking off.
	inHostPlays(t, "counted from the last asking alone", aHost(), func(p *hostPlay) {
		p.do("ping b 3", "wait 600", "ping b 4", "wait 400", "ping b 5").wantFrames("all: me asks b", "all: me asks b")
	})
	inHostPlays(t, "only where something is sent", aHost(), func(p *hostPlay) {
		p.do("ping b 3", "wait 5000", "poll", "wait 5000", "poll", "c asks me").wantFrames("all: me asks b", "c: me tells c").wantHost("held=1")
	})
	inHostPlays(t, "another hop at once", aHost(), func(p *hostPlay) {
		p.do("ping b 3", "ping c 3", "ping b 4", "ping c 4").wantFrames("all: me asks b", "all: me asks c")
		p.do("wait 500", "ping d 5").wantFrames("all: me asks d").wantHost("held=2")
		p.do("wait 500", "ping d 6").wantFrames().do("ping b 6", "ping c 6").wantFrames("all: me asks b", "all: me asks c")
		p.do("wait 499", "ping d 7").wantFrames().do("wait 1", "ping d 8", "ping b 8", "ping c 8").wantFrames("all: me asks d").wantHost("held=2")
	})
	inHostPlays(t, "where all is lost", aHost(), func(p *hostPlay) {
		p.do("ping b 1", "ping c 2").do("ping d 3").wantFrames("all: me asks d").do("ping d 4").wantFrames()
		p.do("wait 999", "ping d 5").wantFrames().do("wait 1", "ping d 6").wantFrames("all: me asks d").wantHost("held=2")
	})
	// Who was told and is not known any more was asked for all the same.
	inHostPlays(t, "behind what was told and is gone", aHost(), func(p *hostPlay) {
		p.do("ping b 3", "b tells me", "c tells me", "d tells me", "e tells me", "f tells me").wantHost("cache=c@60000,d@60000,e@60000,f@60000 held=0")
		p.do("wait 999", "ping b 4").wantFrames().wantHost("held=1").do("wait 1", "ping b 5").wantFrames("all: me asks b").wantHost("held=1")
		p.do("b tells me").wantFrames("b: me>b echo 1 4")
	})
	inHostPlays(t, "each hop of many for itself", aHost(), func(p *hostPlay) {
		for n := int64(20); n < 60; n++ {
			p.put(impl.Input{Kind: impl.InPing, Ip: 10<<24 + n})
		}
		p.wantHost("frames=40 held=2").do("wait 999")
		for n := int64(20); n < 60; n++ {
			p.put(impl.Input{Kind: impl.InPing, Ip: 10<<24 + n})
		}
		p.wantHost("frames=40").do("wait 1").put(impl.Input{Kind: impl.InPing, Ip: 10<<24 + 20}, impl.Input{Kind: impl.InPing, Ip: 10<<24 + 59}).wantHost("frames=42 held=2")
	})
}

func TestP10NearAndFar(t *testing.T) {
	inHostPlays(t, "far by the gateway", aHost(), func(p *hostPlay) {
		p.do("ping far 3").wantFrames("all: me asks gw").wantHost("held=1").do("ping away 4").wantFrames().wantHost("held=1")
		p.do("far tells me", "away tells me").wantFrames().wantHost("held=1").do("gw tells me").wantFrames("gw: me>far echo 1 3").wantHost("held=0")
		p.do("ping away 5", "tell far 7 :x", "ping gw 6").wantFrames("gw: me>away echo 1 5", "gw: me>far udp 53>7 :x", "gw: me>gw echo 1 6")
		p.do("ping b 7").wantFrames("all: me asks b")
	})
	inHostPlays(t, "the gateway itself is a hop like another one", aHost(), func(p *hostPlay) {
		p.do("ping gw 3").wantFrames("all: me asks gw").do("ping far 4").wantFrames().wantHost("held=1").do("gw tells me").wantFrames("gw: me>gw echo 1 3").wantHost("held=0")
	})
	// That who is far is known does not make it near.
	inHostPlays(t, "far, and known", aHost(), func(p *hostPlay) {
		p.do("far asks me").wantFrames("gw: me tells far").do("ping far 3").wantFrames("all: me asks gw").wantHost("held=1")
	})
	inHostPlays(t, "the ends of the net", aHost(), func(p *hostPlay) {
		first, last := int64(10<<24), int64(10<<24+255)
		p.put(impl.Input{Kind: impl.InPing, Ip: first}, impl.Input{Kind: impl.InPing, Ip: last}, impl.Input{Kind: impl.InPing, Ip: last + 1}, impl.Input{Kind: impl.InPing, Ip: first - 1})
		want := []int64{first, last, ipOf("gw")}
		for i, data := range p.host.Frames {
			if got := impl.ReadArp(impl.ReadFrame(data).Frame.Body).Arp.ToIp; len(p.host.Frames) != 3 || got != want[i] {
				p.fail("asked", got, want[i])
			}
		}
	})
	inHostPlays(t, "the own ip", aHost(), func(p *hostPlay) {
		p.do("ping me 3").wantReply(impl.OK, 0, "").wantFrames("all: me asks me").wantHost("held=1")
	})
}

func TestP10NoGateway(t *testing.T) {
	for _, lines := range [][]string{{}, {"b tells me"}, {"ping b 1", "ping c 2"}, {"far tells me", "gw tells me"}} {
		inHostPlays(t, "what is asked for who is far", withoutGateway(), func(p *hostPlay) {
			p.do(lines...)
			p.do("ping far 3").wantReply(impl.ErrNone, 0, "").wantNothingTurned().do("tell away 9 :x").wantReply(impl.ErrNone, 0, "").wantNothingTurned()
			p.do("ping gw 3").wantReply(impl.OK, 0, "")
		})
	}
	inHostPlays(t, "what an end says to who is far", withoutGateway(), func(p *hostPlay) {
		p.do("open 2", "poll").wantReply(impl.OK, 0, "").wantFrames().wantHost("held=0 frames=0").wantEnd(2, "synsent sent=1 top=1")
		p.do("open 0", "poll").wantFrames("all: me asks b").wantHost("held=1")
		p.do("wait 1000", "poll").wantFrames("all: me asks b").wantEnd(2, "synsent tries=1").wantEnd(0, "synsent tries=1")
	})
	inHostPlays(t, "what who is far wants", withoutGateway(), func(p *hostPlay) {
		p.do("far>me echo 1 2 :x").wantReply(impl.OK, 0, "").wantNothingTurned()
		p.do("far>me tcp 9>9 S 0").wantReply(impl.OK, 0, "").wantNothingTurned().do("far>me tcp 9>80 A 5 a5").wantReply(impl.OK, 0, "").wantNothingTurned()
		p.do("far>me pong 1 2").wantHost("pongs=1").do("far>me udp 7>53 :x").wantHost("inbox=far:7>53:x drops=0")
		p.do("far>me tcp 9>80 S 0 w9").wantEnd(1, "synrcvd").do("poll").wantFrames().wantEnd(1, "synrcvd sent=1").wantHost("held=0 frames=0 drops=0")
	})
	inHostPlays(t, "what an end says to who is far, and then to who is near", withoutGateway(), func(p *hostPlay) {
		p.do("b tells me", "open 2", "open 0", "poll").wantFrames("b: me>b tcp 5000>80 S 0 w20 m10").wantEnd(2, "sent=1")
	})
}

func TestP10HowLongItCounts(t *testing.T) {
	inHostPlays(t, "up to its end", aHost(), func(p *hostPlay) {
		p.do("b tells me", "wait 60000").wantHost("cache=b@60000").do("ping b 3").wantFrames("b: me>b echo 1 3").wantHost("held=0")
		p.do("wait 1").wantHost("cache=").do("ping b 4").wantFrames("all: me asks b").wantHost("held=1")
	})
	inHostPlays(t, "each for itself", aHost(), func(p *hostPlay) {
		p.do("b tells me", "wait 1", "c tells me", "wait 59999").wantHost("cache=b@60000,c@60001").do("wait 1").wantHost("cache=c@60001")
		p.do("wait 0").wantHost("cache=c@60001").do("wait 1").wantHost("cache= now=60002")
	})
	inHostPlays(t, "told again", aHost(), func(p *hostPlay) {
		p.do("b tells me", "c tells me", "wait 60000", "b asks me").wantHost("cache=c@60000,b@120000").do("wait 1").wantHost("cache=b@120000")
		p.do("wait 59999").wantHost("cache=b@120000").do("wait 1").wantHost("cache=")
	})
	inHostPlays(t, "what is sent does not make it count longer", aHost(), func(p *hostPlay) {
		p.do("b tells me", "wait 30000", "ping b 3", "b>me echo 1 1", "wait 30001").wantHost("cache=")
	})
}

func TestP10TheCacheIsFull(t *testing.T) {
	inHostPlays(t, "one more", aHost(), func(p *hostPlay) {
		p.do("b tells me", "c asks me", "d tells me", "e tells me").wantHost("cache=b@60000,c@60000,d@60000,e@60000")
		p.do("f tells me").wantHost("cache=c@60000,d@60000,e@60000,f@60000").do("ping b 1").wantFrames("all: me asks b").wantHost("held=1")
		p.do("ping c 2", "ping f 3").wantFrames("c: me>c echo 1 2", "f: me>f echo 1 3")
		p.do("b asks me").wantFrames("b: me>b echo 1 1", "b: me tells b").wantHost("cache=d@60000,e@60000,f@60000,b@60000")
	})
	inHostPlays(t, "one of them again", aHost(), func(p *hostPlay) {
		p.do("b tells me", "c tells me", "d tells me", "e tells me", "wait 5", "b tells me").wantHost("cache=c@60000,d@60000,e@60000,b@60005")
		p.do("f tells me").wantHost("cache=d@60000,e@60000,b@60005,f@60005")
	})
}

// Where Frames has no room, it asked all the same, and what was held is gone all the same.
func TestP10AddressesBehindTheLastFrame(t *testing.T) {
	inHostPlays(t, "no room to ask", aHost(), func(p *hostPlay) {
		p.do("ping b 1", "ping c 2")
		fillFrames(p, 60)
		p.do("ping e 3", "wait 5000", "ping b 4", "b tells me", "c asks me", "d asks me").wantHost("frames=60 held=0 drops=0 cache=gw@60000,b@65000,c@65000,d@65000")
	})
}

// fillFrames lets the gateway ask, until so many frames were emitted.
func fillFrames(p *hostPlay, count int) {
	p.t.Helper()
	for len(p.host.Frames) < count {
		p.do("gw asks me")
	}
}
