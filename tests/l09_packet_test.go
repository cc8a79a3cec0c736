package tests

import (
	"fmt"
	"strings"
	"testing"

	"loop.example/g00726/impl"
)

func TestP10EchosAreAnswered(t *testing.T) {
	inHostPlays(t, "to who is known", aHost(), func(p *hostPlay) {
		p.do("b tells me")
		for _, words := range []string{"0 0", "3 4 :xyz", "65535 65535 :" + strings.Repeat("ab", 276), "1 65535", "65535 1 :a"} {
			p.do("b>me echo "+words).wantReply(impl.OK, 0, "").wantFrames("b: me>b pong " + words).wantHost("pongs=0 drops=0 held=0")
		}
		p.do("all: b>me echo 3 4 :xyz").wantFrames("b: me>b pong 3 4 :xyz")
	})
	inHostPlays(t, "to From, whoever brought it", aHost(), func(p *hostPlay) {
		p.do("b tells me", "c tells me").come(frameBytes(10, 12, impl.KindIp, packetBytes(ipOf("b"), ipOf("me"), 1, impl.PackEcho(impl.Echo{Id: 3, Seq: 4}).Bytes)))
		p.wantFrames("b: me>b pong 3 4")
	})
	inHostPlays(t, "to who is far", aHost(), func(p *hostPlay) {
		p.do("far>me echo 3 4 :xyz").wantFrames("all: me asks gw").do("gw asks me").wantFrames("gw: me>far pong 3 4 :xyz", "gw: me tells gw")
		p.do("away>me echo 5 6").wantFrames("gw: me>away pong 5 6")
	})
	// Bytes that fill up a short frame are none of the echo.
	inHostPlays(t, "in a frame that is filled up", aHost(), func(p *hostPlay) {
		p.do("b tells me").come(append(p.frame("b>me echo 3 4 :xyz"), mixed(40)...)).wantFrames("b: me>b pong 3 4 :xyz")
	})
	inHostPlays(t, "again and again", aHost(), func(p *hostPlay) {
		p.do("b tells me", "b>me echo 3 4 :xyz", "b>me echo 3 4 :xyz", "c>me echo 3 4 :xyz").wantFrames("b: me>b pong 3 4 :xyz", "b: me>b pong 3 4 :xyz", "all: me asks c").wantHost("held=1")
	})
}

func TestP10PongsAreCounted(t *testing.T) {
	inHostPlays(t, "asked for or not", aHost(), func(p *hostPlay) {
		p.do("b>me pong 1 1").wantReply(impl.OK, 0, "").wantHost("pongs=1 drops=0 held=0").wantFrames()
		p.do("b tells me", "ping b 7", "b>me pong 1 7", "b>me pong 1 7", "far>me pong 65535 0 :abc", "all: c>me pong 0 0").wantFrames("b: me>b echo 1 7").wantHost("pongs=5 drops=0")
	})
}

func TestP10Pings(t *testing.T) {
	inHostPlays(t, "to who is known", aHost(), func(p *hostPlay) {
		p.do("b tells me", "gw tells me")
		for _, n := range []string{"0", "1", "255", "256", "65535"} {
			p.do("ping b "+n).wantReply(impl.OK, 0, "").wantFrames("b: me>b echo 1 " + n).wantHost("held=0 pongs=0")
			p.do("ping far " + n).wantFrames("gw: me>far echo 1 " + n)
		}
	})
}

func TestP10Datagrams(t *testing.T) {
	inHostPlays(t, "are told", aHost(), func(p *hostPlay) {
		p.do("b tells me", "tell b 1", "tell b 65535 :x", "tell b 53 :hello").wantReply(impl.OK, 0, "")
		p.wantFrames("b: me>b udp 53>1", "b: me>b udp 53>65535 :x", "b: me>b udp 53>53 :hello").wantHost("held=0 inbox=")
		long := strings.Repeat("xy", 50)
		p.do("tell b 9 :" + long).wantFrames("b: me>b udp 53>9 :" + long)
	})
	inHostPlays(t, "come, and are taken in order", aHost(), func(p *hostPlay) {
		p.do("take").wantReply(impl.ErrNone, 0, "").wantNothingTurned()
		p.do("b>me udp 7>53 :hello").wantReply(impl.OK, 0, "").wantHost("inbox=b:7>53:hello drops=0").wantFrames()
		p.do("c>me udp 65535>53", "far>me udp 53>53 :x", "all: b>me udp 7>53 :hello").wantHost("inbox=b:7>53:hello,c:65535>53:,far:53>53:x,b:7>53:hello drops=0")
		p.do("take").wantReply(impl.OK, 7, "hello").wantHost("inbox=c:65535>53:,far:53>53:x,b:7>53:hello").wantFrames()
		p.do("take").wantReply(impl.OK, 65535, "").do("b>me udp 8>53 :last").do("take").wantReply(impl.OK, 53, "x")
		p.do("take").wantReply(impl.OK, 7, "hello").do("take").wantReply(impl.OK, 8, "last").wantHost("inbox=")
		p.do("take").wantReply(impl.ErrNone, 0, "").wantNothingTurned()
	})
	inHostPlays(t, "as long as there may be", aHost(), func(p *hostPlay) {
		long := strings.Repeat("abcd", 138)
		p.do("b>me udp 7>53 :"+long).do("take").wantReply(impl.OK, 7, long)
	})
	inHostPlays(t, "without a sum, and in a frame that is filled up", aHost(), func(p *hostPlay) {
		d := putWord(impl.PackDatagram(ipOf("b"), ipOf("me"), impl.Datagram{FromPort: 7, ToPort: 53, Data: []byte("hello")}).Bytes, 6, 0)
		data := frameBytes(10, 11, impl.KindIp, append(packetBytes(ipOf("b"), ipOf("me"), 17, d), mixed(30)...))
		p.come(data).wantHost("inbox=b:7>53:hello drops=0")
	})
	// Ports of ends and that of datagrams have nothing to do with each other.
	other := aHost()
	other.Udp = 80
	inHostPlays(t, "with the port of an end", other, func(p *hostPlay) {
		p.do("b>me udp 7>80 :x").wantHost("inbox=b:7>80:x drops=0").wantEnd(1, "listen").do("b>me udp 7>53 :x").wantDropped()
		p.do("b tells me", "tell b 7 :y").wantFrames("b: me>b udp 80>7 :y")
	})
}

// callB leads the end 0 to StateOpen with b, which is known then.
func callB(p *hostPlay) *hostPlay {
	p.t.Helper()
	return p.do("b tells me", "open 0", "poll", "b>me tcp 80>5000 SA 0 a1 w20 m10", "poll").wantEnd(0, "open")
}

func TestP10WhichEndHears(t *testing.T) {
	inHostPlays(t, "the one that is between them", aHost(), func(p *hostPlay) {
		p.do("b tells me", "gw tells me", "open 0", "open 2", "poll").wantFrames("b: me>b tcp 5000>80 S 0 w20 m10", "gw: me>far tcp 6000>7 S 0 w20 m10")
		p.do("b>me tcp 80>5000 SA 0 a1 w5").wantEnd(0, "open got=1").wantEnd(1, "listen").wantEnd(2, "synsent")
		p.do("far>me tcp 7>6000 SA 0 a1 w5").wantEnd(2, "open got=1").wantHost("drops=0")
		p.do("poll").wantFrames("b: me>b tcp 5000>80 A 1 a1 w20", "gw: me>far tcp 6000>7 A 1 a1 w20")
	})
	for _, line := range []string{"b>me tcp 81>5000 SA 0 a1 w5", "c>me tcp 80>5000 SA 0 a1 w5", "far>me tcp 80>5000 SA 0 a1 w5", "far>me tcp 7>5000 SA 0 a1", "b>me tcp 80>6000 SA 0 a1", "b>me tcp 80>5001 SA 0 a1"} {
		inHostPlays(t, "none but that one: "+line, aHost(), func(p *hostPlay) {
			p.do("open 0", "open 2", "poll").do(line)
			p.wantEnd(0, "synsent got=0 waits=0").wantEnd(1, "listen waits=0").wantEnd(2, "synsent got=0 waits=0").wantHost("drops=0")
		})
	}
	inHostPlays(t, "a closed one hears, too", aHost(), func(p *hostPlay) {
		p.do("b tells me", "b>me tcp 80>5000 S 0").wantFrames().wantEnd(0, "closed waits=1").do("b>me tcp 80>5000 A 3 a7").wantEnd(0, "waits=2")
		p.do("poll").wantFrames("b: me>b tcp 5000>80 RA =0 a1", "b: me>b tcp 5000>80 R 7").wantEnd(0, "closed waits=0")
	})
	// All but the first of the ends with this port are not asked: there is but one.
	twoListen := aHost()
	twoListen.Sockets[0].End.Listens, twoListen.Sockets[0].PeerIp, twoListen.Sockets[0].Peer = true, 0, 0
	inHostPlays(t, "two that listen", twoListen, func(p *hostPlay) {
		p.do("b>me tcp 9>80 S 0").wantEnd(0, "listen").wantEnd(1, "synrcvd").do("b>me tcp 9>5000 S 0").wantEnd(0, "synrcvd").wantEnd(1, "synrcvd").wantHost("drops=0")
	})
}

func TestP10AListenerIsCalled(t *testing.T) {
	inHostPlays(t, "by a SYN", aHost(), func(p *hostPlay) {
		p.do("c>me tcp 9>80 S 0 w7 m4").wantReply(impl.OK, 0, "").wantFrames().wantEnd(1, "synrcvd got=1 window=7 sent=0").wantHost("held=0")
		p.do("poll").wantFrames("all: me asks c").wantEnd(1, "synrcvd sent=1 top=1").do("c tells me").wantFrames("c: me>c tcp 80>9 SA 0 a1 w20 m10")
		p.do("c>me tcp 9>80 A 1 a1 w7").wantEnd(1, "open acked=1").do("send 1 :abcdef", "poll").wantFrames("c: me>c tcp 80>9 PA 1 a1 w20 :abcd", "c: me>c tcp 80>9 PA 5 a1 w20 :ef")
		p.do("c>me tcp 9>80 PA 1 a7 w7 :xyz").wantEnd(1, "acked=7 got=4").do("recv 1 9").wantReply(impl.OK, 3, "xyz")
		p.do("poll").wantFrames("c: me>c tcp 80>9 A 7 a4 w20")
	})
	inHostPlays(t, "by who is far", aHost(), func(p *hostPlay) {
		p.do("gw tells me", "far>me tcp 65535>80 S 0 w7", "poll").wantFrames("gw: me>far tcp 80>65535 SA 0 a1 w20 m10")
	})
	// While the first call lasts, and behind it, there is no end for another one.
	inHostPlays(t, "by another one while the first call lasts", aHost(), func(p *hostPlay) {
		p.do("b tells me", "c tells me", "c>me tcp 9>80 S 0 w7")
		p.do("b>me tcp 9>80 S 0").wantFrames("b: me>b tcp 80>9 RA =0 a1").do("c>me tcp 10>80 S 5 :ab").wantFrames("c: me>c tcp 80>10 RA =0 a8")
		p.do("b>me tcp 9>80 A 0 a77").wantFrames("b: me>b tcp 80>9 R 77").wantEnd(1, "synrcvd got=1 waits=0")
		p.do("poll").wantFrames("c: me>c tcp 80>9 SA 0 a1 w20 m10").do("b>me tcp 9>80 R 1").wantFrames().wantEnd(1, "synrcvd")
		p.do("c>me tcp 9>80 R 1").wantEnd(1, "closed why=9").do("b>me tcp 9>80 S 0").wantFrames("b: me>b tcp 80>9 RA =0 a1").wantEnd(1, "waits=0")
		p.do("c>me tcp 9>80 S 0").wantFrames().wantEnd(1, "closed waits=1").do("poll").wantFrames("c: me>c tcp 80>9 RA =0 a1").wantHost("drops=0")
	})
	inHostPlays(t, "again by the same one", aHost(), func(p *hostPlay) {
		p.do("c tells me", "c>me tcp 9>80 S 0 w7", "c>me tcp 9>80 S 0 w7", "poll").wantFrames("c: me>c tcp 80>9 SA 0 a1 w20 m10").wantEnd(1, "synrcvd got=1")
		p.do("c>me tcp 9>80 S 0 w7").wantFrames().do("poll").wantFrames("c: me>c tcp 80>9 A 1 a1 w20").wantEnd(1, "synrcvd")
	})
	inHostPlays(t, "where it was closed", aHost(), func(p *hostPlay) {
		p.do("c tells me", "close 1").wantEnd(1, "closed").do("c>me tcp 9>80 S 0").wantFrames("c: me>c tcp 80>9 RA =0 a1").wantEnd(1, "closed waits=0 got=0").do("poll").wantFrames()
	})
	inHostPlays(t, "where it was cut off", aHost(), func(p *hostPlay) {
		p.do("c tells me", "abort 1").wantEnd(1, "closed why=9 waits=0").do("poll").wantFrames().do("c>me tcp 9>80 S 0").wantFrames("c: me>c tcp 80>9 RA =0 a1").wantEnd(1, "closed waits=0")
	})
	inHostPlays(t, "and cuts off who called", aHost(), func(p *hostPlay) {
		p.do("c tells me", "c>me tcp 9>80 S 0", "abort 1").wantEnd(1, "closed why=9 waits=1").do("poll").wantFrames("c: me>c tcp 80>9 R 0")
	})
}

func TestP10AListenerRefuses(t *testing.T) {
	inHostPlays(t, "at once, and listens still", aHost(), func(p *hostPlay) {
		p.do("c tells me").do("c>me tcp 9>80 A 5 a7").wantReply(impl.OK, 0, "").wantFrames("c: me>c tcp 80>9 R 7").wantEnd(1, "listen waits=0 got=0").wantHost("drops=0")
		p.do("poll").wantFrames().wantEnd(1, "listen")
		p.do("c>me tcp 9>80 SA 5 a0").wantFrames("c: me>c tcp 80>9 R 0").do("c>me tcp 9>80 FA 5 a-3").wantFrames("c: me>c tcp 80>9 R -3").do("c>me tcp 9>80 PA 5 a4 :xy").wantFrames("c: me>c tcp 80>9 R 4")
		// It has nobody yet: whoever calls is taken.
		p.do("b tells me", "b>me tcp 9>80 S 0", "poll").wantFrames("b: me>b tcp 80>9 SA 0 a1 w20 m10").wantEnd(1, "synrcvd")
		p.do("c>me tcp 9>80 A 5 a7").wantFrames("c: me>c tcp 80>9 R 7").wantEnd(1, "synrcvd waits=0")
	})
	inHostPlays(t, "by the next hop, as all that is sent", aHost(), func(p *hostPlay) {
		p.do("c>me tcp 9>80 A 5 a7").wantFrames("all: me asks c").wantHost("held=1").wantEnd(1, "listen waits=0").do("c>me tcp 9>80 A 5 a8").wantFrames().wantHost("held=1")
		p.do("c tells me").wantFrames("c: me>c tcp 80>9 R 7").do("far>me tcp 9>80 A 5 a7").wantFrames("all: me asks gw").wantHost("held=1 drops=0")
	})
	// Who was refused is not its other one: where it is closed then, there is no end for that one.
	for _, words := range []string{"close 1", "abort 1"} {
		inHostPlays(t, "and is no end any more behind "+words, aHost(), func(p *hostPlay) {
			p.do("c tells me", "c>me tcp 9>80 A 5 a7", words).do("c>me tcp 9>80 S 0").wantFrames("c: me>c tcp 80>9 RA =0 a1").wantEnd(1, "closed waits=0").do("poll").wantFrames()
		})
	}
	inHostPlays(t, "no reset", aHost(), func(p *hostPlay) {
		p.do("c tells me")
		for _, flags := range []string{"R", "RA", "RS", "RSA", "RF", "RFPSA"} {
			p.do("c>me tcp 9>80 "+flags+" 5").wantReply(impl.OK, 0, "").wantNothingTurned()
		}
	})
	inHostPlays(t, "nothing without a SYN", aHost(), func(p *hostPlay) {
		p.do("c tells me", "c>me tcp 9>80 - 5", "c>me tcp 9>80 F 5", "c>me tcp 9>80 P 5 :ab", "c>me tcp 9>80 PF 5 :ab").wantFrames().wantEnd(1, "listen waits=0 got=0").wantHost("drops=0")
	})
}

func TestP10NoEnd(t *testing.T) {
	config := aHost()
	config.Sockets = nil
	inHostPlays(t, "where there is no socket", config, func(p *hostPlay) {
		p.do("c tells me").do("c>me tcp 9>80 S 0 w9 m9").wantReply(impl.OK, 0, "").wantFrames("c: me>c tcp 80>9 RA =0 a1")
		p.do("c>me tcp 9>80 A 5 a7").wantFrames("c: me>c tcp 80>9 R 7").do("c>me tcp 9>80 - 5").wantFrames("c: me>c tcp 80>9 RA =0 a5")
		p.do("c>me tcp 9>80 SF 5 :abc").wantFrames("c: me>c tcp 80>9 RA =0 a10").do("c>me tcp 1>65535 PF 5 :abc").wantFrames("c: me>c tcp 65535>1 RA =0 a9")
		p.do("c>me tcp 9>80 SFPA 5 a7 :abc").wantFrames("c: me>c tcp 80>9 R 7").do("c>me tcp 9>80 R 5", "c>me tcp 9>80 RA 5 a5", "c>me tcp 9>80 RS 5").wantFrames().wantHost("drops=0 held=0")
		p.do("b>me tcp 9>80 S 0").wantFrames("all: me asks b").wantHost("held=1").do("far>me tcp 9>80 S 0").wantFrames("all: me asks gw").wantHost("held=2")
		p.do("gw tells me").wantFrames("gw: me>far tcp 80>9 RA =0 a1").do("poll").wantFrames()
	})
}

// Two frames in which a packet goes, held or not, are the same.
func TestP10AllOfAPacketIsHeld(t *testing.T) {
	long := strings.Repeat("0123456789", 10)
	for _, lines := range [][]string{{"tell b 9 :" + long}, {"ping b 65535"}, {"b>me echo 1 2 :" + strings.Repeat("ab", 276)}, {"open 0", "poll"}} {
		inHostPlays(t, fmt.Sprint(lines), aHost(), func(p *hostPlay) {
			p.do(lines...).do("b tells me")
			held := p.host.Frames[len(p.host.Frames)-1]
			known := impl.RunHost(p.config, append([]impl.Input{p.inputOf("b tells me")}, p.inputs[:len(lines)]...)).Host.Frames
			wantBytes(t, "what was held", impl.BytesResult{Bytes: held}, impl.OK, known[len(known)-1])
		})
	}
}
