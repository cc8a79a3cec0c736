package tests

import (
	"strings"
	"testing"

	"loop.example/g00726/impl"
)

// A lost SYN whose timer runs out while Window is 0, as nobody told one: it goes again, and from then on a probe is due.
const lostSyn = "open0 poll0 lose:0 wait:1000 poll0 "

// lateHandshake opens the end 0 as handshake does, with a probe due behind it, and leaves nothing in flight.
const lateHandshake = lostSyn + "come:0 poll1 come:0 poll0 come:0 "

// smallEnds have little room to be read, and the same part for both.
func smallEnds(recvCap int64, mss int64) [2]impl.EndConfig {
	ends := endsOf(recvCap, mss)
	ends[0].RecvCap = recvCap
	return ends
}

// callingEnds are smallEnds of which none listens.
func callingEnds(recvCap int64, mss int64) [2]impl.EndConfig {
	ends := smallEnds(recvCap, mss)
	ends[1].Listens = false
	return ends
}

func TestP9AProbeStaysDueBehindASyn(t *testing.T) {
	inAllPlays(t, "one end called", endsOf(5, 10), func(p *play) {
		p.do(lostSyn).wantFlights("1:S 0 w20 m10").wantEnd(0, "synsent window=0 tries=1")
		p.do("come:0 poll1 come:0").wantEnd(0, "open window=5 acked=1 sent=1 tries=0")
		p.do("send0:abcdefgh poll0").wantFlights("1:PA 1 a1 w20 abcde", "1:PA 6 a1 w20 f").wantEnd(0, "acked=1 sent=7 top=7")
		p.do("poll0 poll0").wantFlights("1:PA 1 a1 w20 abcde", "1:PA 6 a1 w20 f").wantEnd(0, "sent=7 top=7")
	})
	inAllPlays(t, "bytes were accepted ahead of the SYN", endsOf(3, 10), func(p *play) {
		p.do("open0 send0:abcde poll0 lose:0 wait:1000 poll0").wantEnd(0, "synsent window=0 tries=1")
		p.do("come:0 poll1 come:0 poll0").wantFlights("1:PA 1 a1 w20 abc", "1:PA 4 a1 w20 d").wantEnd(0, "sent=5 top=5")
		p.do("poll0").wantFlights("1:PA 1 a1 w20 abc", "1:PA 4 a1 w20 d")
	})
	inAllPlays(t, "many SYNs are lost, and one probe is due", endsOf(3, 1), func(p *play) {
		p.do(lostSyn+"lose:0 wait:2000 poll0 lose:0 wait:4000 poll0").wantEnd(0, "synsent tries=3")
		p.do("come:0 poll1 come:0 send0:abcdef poll0").wantFlights("1:PA 1 a1 w20 a", "1:PA 2 a1 w20 b", "1:PA 3 a1 w20 c", "1:PA 4 a1 w20 d")
		p.do("poll0").wantEnd(0, "sent=5 top=5")
	})
	// No limit is asked of who calls, however often it is polled, though it is 0 there.
	inAllPlays(t, "polled again while it calls", endsOf(1, 10), func(p *play) {
		p.do(lostSyn+"poll0 poll0 come:0 poll1 poll0 come:0 send0:abc poll0").wantFlights("1:PA 1 a1 w20 a", "1:PA 2 a1 w20 b").wantEnd(0, "sent=3")
		p.do("poll0").wantEnd(0, "sent=3 top=3")
	})
}

func TestP9AProbeStaysDueWhereBothCall(t *testing.T) {
	inAllPlays(t, "one SYN is lost", callingEnds(5, 10), func(p *play) {
		p.do(lostSyn+"lose:0 open1 poll1 come:0").wantEnd(0, "synrcvd window=5 sent=0 top=1")
		p.do("poll0").wantFlights("1:SA 0 a1 w5 m10").do("come:0 poll1").wantFlights("0:A 1 a1 w5").wantEnd(1, "open")
		p.do("come:0").wantEnd(0, "open window=5 acked=1 sent=1")
		p.do("send0:abcdefgh poll0").wantFlights("1:PA 1 a1 w5 abcde", "1:PA 6 a1 w5 f").wantEnd(0, "sent=7 top=7")
		p.do("poll0").wantFlights("1:PA 1 a1 w5 abcde", "1:PA 6 a1 w5 f")
		// The other one's timer was never over.
		p.do("lose:0 lose:0 send1:stuvwxyz poll1 poll1").wantFlights("0:PA 1 a1 w5 stuvw").wantEnd(1, "sent=6 top=6")
	})
	both := "open0 open1 poll0 poll1 lose:0 lose:0 wait:1000 poll0 poll1 come:0 come:0 "
	inAllPlays(t, "both SYNs are lost", callingEnds(5, 10), func(p *play) {
		p.do(both).wantEnd(0, "synrcvd window=5 sent=0").wantEnd(1, "synrcvd window=5 sent=0")
		p.do("poll0 poll1").wantFlights("1:SA 0 a1 w5 m10", "0:SA 0 a1 w5 m10").do("come:0 come:0 poll0 poll1")
		p.wantFlights("1:A 1 a1 w5", "0:A 1 a1 w5").do("come:0 come:0").wantEnd(0, "open").wantEnd(1, "open")
		p.do("send0:abcdefgh poll0").wantFlights("1:PA 1 a1 w5 abcde", "1:PA 6 a1 w5 f")
		p.do("send1:stuvwxyz poll1").wantFlights("1:PA 1 a1 w5 abcde", "1:PA 6 a1 w5 f", "0:PA 1 a1 w5 stuvw", "0:PA 6 a1 w5 x")
		p.do("poll0 poll1").wantEnd(0, "sent=7 top=7").wantEnd(1, "sent=7 top=7")
	})
	// Nor is a limit asked of who answers: with a window of 1 its SYN alone would reach it.
	inAllPlays(t, "polled again while it answers", callingEnds(1, 10), func(p *play) {
		p.do(lostSyn+"lose:0 open1 poll1 come:0 poll0 poll0 poll0 come:0 poll1 come:0").wantEnd(0, "open sent=1")
		p.do("send0:abc poll0").wantFlights("1:PA 1 a1 w1 a", "1:PA 2 a1 w1 b").do("poll0").wantEnd(0, "sent=3 top=3")
	})
	inAllPlays(t, "who answers closes", callingEnds(5, 10), func(p *play) {
		p.do(lostSyn+"lose:0 open1 poll1 come:0 poll0 come:0 poll1 send0:abcde close0 come:0").wantEnd(0, "finwait1 sent=1 window=5")
		p.do("poll0").wantFlights("1:PA 1 a1 w5 abcde", "1:FA 6 a1 w5").wantEnd(0, "sent=7 top=7")
	})
}

// A timer that is over while a Window is told makes no probe due: what follows keeps to the limit.
func TestP9NoProbeBecomesDueWhereAWindowIsTold(t *testing.T) {
	inAllPlays(t, "bytes are lost", endsOf(5, 10), func(p *play) {
		p.do(handshake + "send0:abcdefgh poll0").wantFlights("1:PA 1 a1 w20 abcde")
		p.do("lose:0 wait:1000 poll0").wantFlights("1:PA 1 a1 w20 abcde").wantEnd(0, "tries=1 sent=6 top=6")
		p.do("poll0").wantFlights("1:PA 1 a1 w20 abcde").wantEnd(0, "sent=6 top=6")
	})
	inAllPlays(t, "the SYN of who listened is lost", smallEnds(5, 10), func(p *play) {
		p.do("open0 poll0 come:0 poll1 lose:0 wait:1000 poll1").wantFlights("0:SA 0 a1 w5 m10").wantEnd(1, "synrcvd window=5 acked=0 tries=1")
		p.do("come:0 poll0 come:0 send1:abcdefgh poll1 poll1").wantFlights("0:PA 1 a1 w5 abcde").wantEnd(1, "open sent=6 top=6")
	})
	inAllPlays(t, "the SYN that answers a SYN is lost", callingEnds(5, 10), func(p *play) {
		p.do("open0 open1 poll0 poll1 come:1 poll0 lose:0 lose:0 wait:1000 poll0").wantEnd(0, "synrcvd window=5 tries=1").wantFlights("1:SA 0 a1 w5 m10")
		p.do("come:0 poll1 come:0 send0:abcdefgh poll0 poll0").wantFlights("1:PA 1 a1 w5 abcde").wantEnd(0, "open sent=6 top=6")
	})
	inAllPlays(t, "no SYN is lost", endsOf(5, 10), func(p *play) {
		p.do("open0 poll0 wait:999 poll0 come:0 poll1 wait:1 come:0 send0:abcdefgh poll0 poll0").wantFlights("1:PA 1 a1 w20 abcde").wantEnd(0, "sent=6 top=6")
	})
}

func TestP9AProbeOfBytesThatAreNotAllSent(t *testing.T) {
	inAllPlays(t, "in one burst", endsOf(5, 2), func(p *play) {
		p.do(lateHandshake+"send0:abcdefgh poll0").wantFlights("1:PA 1 a1 w20 ab", "1:PA 3 a1 w20 cd", "1:PA 5 a1 w20 e", "1:PA 6 a1 w20 f")
		p.do("poll0").wantEnd(0, "sent=7 top=7")
	})
	inAllPlays(t, "in the next burst", endsOf(5, 1), func(p *play) {
		p.do(lateHandshake+"send0:abcdefgh poll0").wantEnd(0, "sent=5 top=5").do("lose:0 lose:0 lose:0 lose:0 poll0")
		p.wantFlights("1:PA 5 a1 w20 e", "1:PA 6 a1 w20 f").do("poll0").wantEnd(0, "sent=7 top=7")
	})
	// The fourth part reaches the limit, which is not asked a fifth time.
	inAllPlays(t, "alone in the next burst", endsOf(4, 1), func(p *play) {
		p.do(lateHandshake+"send0:abcdefgh poll0").wantEnd(0, "sent=5 top=5").do("lose:0 lose:0 lose:0 lose:0 poll0")
		p.wantFlights("1:PA 5 a1 w20 e").do("poll0").wantFlights("1:PA 5 a1 w20 e").wantEnd(0, "sent=6 top=6")
	})
	inAllPlays(t, "to who closed", endsOf(5, 10), func(p *play) {
		p.do(lateHandshake+"close1 poll1 come:0 send0:abcdefgh poll0").wantFlights("1:PA 1 a2 w20 abcde", "1:PA 6 a2 w20 f").wantEnd(0, "closewait sent=7 top=7")
	})
	inAllPlays(t, "that is heard", endsOf(5, 10), func(p *play) {
		p.do(lateHandshake+"send0:abcdefgh poll0 come:0 recv1:5 come:0").wantEnd(1, "got=7 free=4").do("poll1").wantFlights("0:A 1 a7 w4")
		p.do("come:0 poll0").wantFlights("1:PA 7 a1 w20 gh").wantEnd(0, "acked=7 sent=9")
	})
	inAllPlays(t, "that is not heard", endsOf(5, 10), func(p *play) {
		p.do(lateHandshake+"send0:abcdefgh poll0 come:0 come:0").wantEnd(1, "got=6 free=0").do("poll1 come:0").wantEnd(0, "acked=6 sent=7 window=0")
		p.do("poll0 wait:999 poll0").wantFlights().do("wait:1 poll0").wantFlights("1:PA 6 a1 w20 f").wantEnd(0, "sent=7 tries=0")
	})
}

func TestP9AProbeThatIsTheEnd(t *testing.T) {
	inAllPlays(t, "of who closes first", endsOf(5, 10), func(p *play) {
		p.do(lateHandshake+"send0:abcde close0 poll0").wantFlights("1:PA 1 a1 w20 abcde", "1:FA 6 a1 w20").wantEnd(0, "finwait1 sent=7 top=7")
		p.do("poll0").wantFlights("1:PA 1 a1 w20 abcde", "1:FA 6 a1 w20")
		p.do("come:0 recv1:5 come:0").wantEnd(1, "closewait got=7").do("poll1 come:0").wantEnd(0, "finwait2 acked=7")
	})
	inAllPlays(t, "alone", endsOf(4, 1), func(p *play) {
		p.do(lateHandshake+"send0:abcd close0 poll0").wantEnd(0, "finwait1 sent=5").do("lose:0 lose:0 lose:0 lose:0 poll0")
		p.wantFlights("1:FA 5 a1 w20").wantEnd(0, "finwait1 sent=6 top=6")
	})
	inAllPlays(t, "of who closes behind the other one", endsOf(5, 10), func(p *play) {
		p.do(lateHandshake+"close1 poll1 come:0 send0:abcde").wantEnd(0, "closewait")
		p.do("close0 poll0").wantFlights("1:PA 1 a2 w20 abcde", "1:FA 6 a2 w20").wantEnd(0, "lastack sent=7 top=7")
	})
	inAllPlays(t, "where both close at once", endsOf(5, 10), func(p *play) {
		p.do(lateHandshake+"send0:abcde close0 close1 poll1 come:0").wantEnd(0, "closing sent=1")
		p.do("poll0").wantFlights("1:PA 1 a2 w20 abcde", "1:FA 6 a2 w20").wantEnd(0, "closing sent=7 top=7")
	})
	inAllPlays(t, "not where a byte is the probe", endsOf(5, 10), func(p *play) {
		p.do(lateHandshake+"send0:abcdef close0 poll0").wantFlights("1:PA 1 a1 w20 abcde", "1:PA 6 a1 w20 f").wantEnd(0, "finwait1 sent=7")
		p.do("poll0").wantEnd(0, "finwait1 sent=7 top=7")
	})
	inAllPlays(t, "not where the limit has room for it", endsOf(5, 10), func(p *play) {
		p.do(lateHandshake+"send0:abcd close0 poll0").wantFlights("1:PA 1 a1 w20 abcd", "1:FA 5 a1 w20").wantEnd(0, "finwait1 sent=6")
		p.do("come:0 come:0 poll1 come:0").wantEnd(0, "finwait2 acked=6").do("poll0 wait:60000 poll0").wantFlights().wantEnd(0, "finwait2 sent=6 top=6 tries=0")
	})
}

// Only a limit that is not above Sent uses a probe up, and does so also where nothing goes.
func TestP9AProbeIsUsedUp(t *testing.T) {
	inAllPlays(t, "with nothing to say", endsOf(3, 10), func(p *play) {
		p.do(lateHandshake+"send0:abc poll0").wantFlights("1:PA 1 a1 w20 abc").do("send0:def poll0").wantFlights("1:PA 1 a1 w20 abc").wantEnd(0, "sent=4 top=4")
	})
	inAllPlays(t, "with nothing to say at a later poll", endsOf(4, 1), func(p *play) {
		p.do(lateHandshake+"send0:abcd poll0 lose:0 lose:0 lose:0 lose:0 poll0 send0:ef poll0").wantFlights().wantEnd(0, "sent=5 top=5")
	})
	inAllPlays(t, "not below the limit", endsOf(3, 10), func(p *play) {
		p.do(lateHandshake+"poll0 send0:ab poll0 poll0").wantFlights("1:PA 1 a1 w20 ab").wantEnd(0, "sent=3")
		p.do("send0:cde poll0").wantFlights("1:PA 1 a1 w20 ab", "1:PA 3 a1 w20 c", "1:PA 4 a1 w20 d").wantEnd(0, "sent=5 top=5")
	})
	inAllPlays(t, "not by what is heard", endsOf(5, 10), func(p *play) {
		p.do(lateHandshake+"send0:abc poll0 come:0 poll1 come:0 poll0").wantEnd(0, "acked=4 sent=4 window=2")
		p.do("send0:xyz poll0").wantFlights("1:PA 4 a1 w20 xy", "1:PA 6 a1 w20 z").do("poll0").wantEnd(0, "sent=7 top=7")
	})
	inAllPlays(t, "not by bytes of the other one, nor where they are read", endsOf(5, 10), func(p *play) {
		p.do(lateHandshake+"send1:xyz poll1 come:0 recv0:2").wantReply(impl.OK, 2, "xy")
		p.do("send0:abcdefgh poll0").wantFlights("1:PA 1 a4 w19 abcde", "1:PA 6 a4 w19 f").do("poll0").wantEnd(0, "sent=7 top=7")
	})
	inAllPlays(t, "not by a Window of 0 that is told", endsOf(4, 1), func(p *play) {
		p.do(lateHandshake+"send0:abcd poll0 come:0 come:0 come:0 come:0 poll1 come:0").wantEnd(0, "acked=5 sent=5 window=0")
		p.do("send0:ef poll0").wantFlights("1:PA 5 a1 w20 e").wantEnd(0, "sent=6 top=6 tries=0").do("lose:0 poll0").wantFlights()
		p.do("wait:999 poll0").wantFlights().do("wait:1 poll0").wantFlights("1:PA 5 a1 w20 e").wantEnd(0, "sent=6 tries=0")
	})
	inAllPlays(t, "not by a timer that is over while a Window is told", endsOf(5, 10), func(p *play) {
		p.do(lateHandshake+"send0:abc poll0 lose:0 wait:1000 poll0").wantFlights("1:PA 1 a1 w20 abc").wantEnd(0, "tries=1 window=5")
		p.do("send0:defg poll0").wantFlights("1:PA 1 a1 w20 abc", "1:PA 4 a1 w20 de", "1:PA 6 a1 w20 f").wantEnd(0, "sent=7 top=7")
	})
	inAllPlays(t, "not by the time", endsOf(5, 10), func(p *play) {
		p.do(lateHandshake+strings.Repeat("wait:60000 poll0 ", 3)+"send0:abcdefgh poll0").wantFlights("1:PA 1 a1 w20 abcde", "1:PA 6 a1 w20 f")
	})
}
