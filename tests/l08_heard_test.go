package tests

import (
	"fmt"
	"strings"
	"testing"

	"loop.example/g00726/impl"
)

// noneListens has two ends that are closed at first.
func noneListens() [2]impl.EndConfig {
	ends := twoEnds()
	ends[1].Listens = false
	return ends
}

// endsOf has the RecvCap of the end 1 and the Mss of both.
func endsOf(recvCap int64, mss int64) [2]impl.EndConfig {
	ends := twoEnds()
	ends[1].RecvCap = recvCap
	ends[0].Mss, ends[1].Mss = mss, mss
	return ends
}

func TestP9Opening(t *testing.T) {
	inAllPlays(t, "opening", twoEnds(), func(p *play) {
		first := " acked=0 sent=0 top=0 got=0 read=0 out= closes=false free=20 window=0 pieces= tries=0 waits=0 why=0"
		p.wantEnd(0, "closed"+first).wantEnd(1, "listen"+first)
		p.do("poll0 poll1").wantFlights().wantEnd(0, "closed"+first).wantEnd(1, "listen"+first)
		p.do("open0").wantEnd(0, "synsent"+first).wantFlights()
		p.do("poll0").wantEnd(0, "synsent acked=0 sent=1 top=1 got=0").wantFlights("1:S 0 w20 m10")
		p.do("come:0").wantEnd(1, "synrcvd acked=0 sent=0 top=0 got=1 window=20").wantFlights()
		p.do("poll1").wantEnd(1, "synrcvd acked=0 sent=1 top=1").wantFlights("0:SA 0 a1 w20 m10")
		p.do("come:0").wantEnd(0, "open acked=1 sent=1 top=1 got=1 window=20").wantFlights()
		p.do("poll0").wantFlights("1:A 1 a1 w20")
		p.do("come:0").wantEnd(1, "open acked=1 sent=1 top=1 got=1 window=20")
		p.do("poll0 poll1 wait:60000 poll0 poll1").wantFlights().wantEnd(0, "open tries=0").wantEnd(1, "open tries=0")
	})
}

func TestP9ClosedRefuses(t *testing.T) {
	inAllPlays(t, "a SYN", noneListens(), func(p *play) {
		p.do("open0 poll0 copy:0 come:0").wantEnd(1, "closed waits=1 got=0 why=0 window=0").wantFlights("1:S 0 w20 m10")
		p.do("come:0").wantEnd(1, "closed waits=2")
		p.do("poll1").wantFlights("0:RA =0 a1 w0", "0:RA =0 a1 w0").wantEnd(1, "closed waits=0")
		p.do("come:0").wantEnd(0, "closed why=9 acked=0 sent=1 got=0 waits=0")
		// What refuses is not refused.
		p.do("come:0").wantEnd(0, "closed waits=0").do("poll0 poll1").wantFlights()
	})
	inAllPlays(t, "bytes", twoEnds(), func(p *play) {
		p.do(handshake+"send0:ab poll0 abort1 poll1 lose:1 come:0").wantEnd(1, "closed waits=1")
		p.do("poll1").wantFlights("0:R 1 w0").do("come:0").wantEnd(0, "closed why=9 waits=0")
	})
	inAllPlays(t, "resets", twoEnds(), func(p *play) {
		p.do(handshake+"abort0 abort1 poll0 poll1").wantFlights("1:R 1 w0", "0:R 1 w0")
		p.do("come:0 come:0").wantEnd(0, "closed waits=0").wantEnd(1, "closed waits=0")
	})
	inAllPlays(t, "a SYN to one that listened", twoEnds(), func(p *play) {
		p.do("close1 open0 poll0 come:0 poll1").wantFlights("0:RA =0 a1 w0").wantEnd(1, "closed why=0 got=0")
	})
}

func TestP9CallingHearsAnAnswer(t *testing.T) {
	// A later SYN without an answer is heard first; then the one with it.
	inAllPlays(t, "both call, one hears the answer", noneListens(), func(p *play) {
		p.do("open0 open1 poll0 poll1").wantFlights("1:S 0 w20 m10", "0:S 0 w20 m10")
		p.do("come:0").wantEnd(1, "synrcvd acked=0 sent=0 top=1 got=1 window=20")
		p.do("poll1").wantFlights("0:S 0 w20 m10", "0:SA 0 a1 w20 m10").wantEnd(1, "synrcvd sent=1 top=1")
		p.do("come:1").wantEnd(0, "open acked=1 sent=1 got=1 window=20").do("poll0").wantFlights("0:S 0 w20 m10", "1:A 1 a1 w20")
		p.do("come:1").wantEnd(1, "open acked=1 sent=1")
		p.do("come:0").wantEnd(0, "open").do("poll0").wantFlights("1:A 1 a1 w20")
	})
	inAllPlays(t, "both call at once", noneListens(), func(p *play) {
		p.do("open0 open1 poll0 poll1 come:0 come:0").wantEnd(0, "synrcvd sent=0 top=1 got=1").wantEnd(1, "synrcvd sent=0 top=1 got=1")
		p.do("poll0 poll1").wantFlights("1:SA 0 a1 w20 m10", "0:SA 0 a1 w20 m10")
		p.do("come:0 come:0").wantEnd(0, "synrcvd acked=0").wantEnd(1, "synrcvd acked=0")
		p.do("poll0 poll1").wantFlights("1:A 1 a1 w20", "0:A 1 a1 w20")
		p.do("come:0 come:0").wantEnd(0, "open acked=1").wantEnd(1, "open acked=1")
	})
	inAllPlays(t, "called ahead of its own call", noneListens(), func(p *play) {
		p.do("open1 poll1 open0 come:0").wantEnd(0, "synrcvd sent=0 top=0 got=1")
		p.do("poll0").wantFlights("1:SA 0 a1 w20 m10").do("come:0").wantEnd(1, "open acked=1 got=1").do("poll1 come:0").wantEnd(0, "open")
	})
}

func TestP9CallingHearsNoAnswer(t *testing.T) {
	inAllPlays(t, "a reset with an answer", noneListens(), func(p *play) {
		p.do("open0 poll0 come:0 poll1 come:0").wantEnd(0, "closed why=9 acked=0 sent=1 top=1 got=0 waits=0")
		p.do("poll0 wait:60000 poll0").wantFlights()
	})
	inAllPlays(t, "a reset without an answer", twoEnds(), func(p *play) {
		p.do("open0 poll0 come:0 abort1 poll1").wantFlights("0:R 0 w0")
		p.do("come:0").wantEnd(0, "synsent why=0 waits=0 got=0").do("poll0").wantFlights()
	})
	inAllPlays(t, "an answer without a SYN", twoEnds(), func(p *play) {
		p.do("open0 poll0 copy:0 come:0 poll1 lose:1 come:0 poll1").wantFlights("0:A 1 a1 w20")
		p.do("come:0").wantEnd(0, "synsent acked=0 sent=1 got=0 waits=0 why=0").do("poll0").wantFlights()
	})
}

func TestP9AnsweringHearsTheAnswer(t *testing.T) {
	called := "open0 poll0 come:0 poll1 come:0 poll0 "
	inAllPlays(t, "with bytes", twoEnds(), func(p *play) {
		p.do(called + "lose:0 send0:abc poll0").wantFlights("1:PA 1 a1 w20 abc")
		p.do("come:0").wantEnd(1, "open acked=1 sent=1 got=4 free=17").do("poll1").wantFlights("0:A 1 a4 w17")
	})
	inAllPlays(t, "with bytes that came too early", twoEnds(), func(p *play) {
		p.do(called+"lose:0 send0:abc poll0 send0:de poll0 come:1").wantEnd(1, "open acked=1 got=1 pieces=3:de")
	})
	inAllPlays(t, "with the end", twoEnds(), func(p *play) {
		p.do(called+"lose:0 close0 poll0").wantFlights("1:FA 1 a1 w20").do("come:0").wantEnd(1, "closewait acked=1 got=2 free=20")
	})
	inAllPlays(t, "which closed ahead of it", twoEnds(), func(p *play) {
		p.do("open0 poll0 come:0 close1").wantEnd(1, "synrcvd closes=true sent=0")
		p.do("poll1").wantFlights("0:SA 0 a1 w20 m10").wantEnd(1, "synrcvd sent=1")
		p.do("poll1").wantFlights("0:SA 0 a1 w20 m10")
		p.do("come:0 poll0 come:0").wantEnd(1, "finwait1 acked=1 sent=1").do("poll1").wantFlights("0:FA 1 a1 w20").wantEnd(1, "finwait1 sent=2 top=2")
		p.do("come:0").wantEnd(0, "closewait got=2").do("poll0 come:0").wantEnd(1, "finwait2 acked=2")
	})
	inAllPlays(t, "which closed ahead of bytes and the end", twoEnds(), func(p *play) {
		p.do("open0 poll0 come:0 send1:xy close1 poll1 come:0 close0 poll0").wantFlights("1:FA 1 a1 w20")
		p.do("come:0").wantEnd(1, "closing acked=1 got=2").do("poll1").wantFlights("0:PA 1 a2 w20 xy", "0:FA 3 a2 w20")
		p.do("come:0").wantEnd(0, "finwait2 got=3").do("come:0").wantEnd(0, "timewait got=4").do("poll0 come:0").wantEnd(1, "timewait acked=4")
	})
	inAllPlays(t, "with a reset", twoEnds(), func(p *play) {
		p.do(called+"lose:0 abort0 poll0").wantFlights("1:R 1 w0").do("come:0").wantEnd(1, "closed why=9 acked=0")
	})
	inAllPlays(t, "the SYN again", twoEnds(), func(p *play) {
		p.do("open0 poll0 copy:0 copy:0 come:0 come:0").wantEnd(1, "synrcvd sent=0 got=1")
		p.do("poll1").wantFlights("1:S 0 w20 m10", "0:SA 0 a1 w20 m10").do("poll1").wantFlights("1:S 0 w20 m10", "0:SA 0 a1 w20 m10")
		p.do("come:0 poll1").wantFlights("0:SA 0 a1 w20 m10", "0:A 1 a1 w20").wantEnd(1, "synrcvd sent=1 got=1")
	})
}

// A SYN that comes again is behind all that came, and is answered, but turns nothing.
func TestP9TheSynAgain(t *testing.T) {
	for _, words := range []string{"", "send0:abc poll0 come:1 ", "close0 poll0 come:1 ", "close1 ", "close1 poll1 come:1 poll0 come:1 "} {
		inAllPlays(t, "the SYN again, behind "+words, twoEnds(), func(p *play) {
			p.do("open0 poll0 copy:0 come:0 poll1 come:1 poll0 come:1 " + words)
			was := p.end(1)
			p.do("come:0")
			if !areEnds(was, p.end(1)) {
				p.fail("the end", nameEnd(p.end(1)), nameEnd(was))
			}
			p.do("poll1")
			last := p.pair.Flights[len(p.pair.Flights)-1].Segment
			if !hasFlag(last.Flags, impl.FlagAck) || hasFlag(last.Flags, impl.FlagSyn) {
				p.fail("the answer", nameSegment(last), "an answer")
			}
		})
	}
}

func TestP9BytesInTheWindow(t *testing.T) {
	inAllPlays(t, "in order", twoEnds(), func(p *play) {
		p.do(handshake+"send0:abc poll0").wantFlights("1:PA 1 a1 w20 abc").wantEnd(0, "acked=1 sent=4 top=4")
		p.do("come:0").wantEnd(1, "open got=4 free=17 read=0 pieces=")
		p.do("poll1").wantFlights("0:A 1 a4 w17").do("poll1").wantFlights("0:A 1 a4 w17")
		p.do("come:0").wantEnd(0, "acked=4 sent=4 window=17")
	})
	inAllPlays(t, "again", twoEnds(), func(p *play) {
		p.do(handshake + "send0:abc poll0 copy:0 come:0 poll1 lose:1")
		p.do("come:0").wantEnd(1, "open got=4 free=17 pieces=").do("poll1").wantFlights("0:A 1 a4 w17")
	})
	inAllPlays(t, "again, with more behind it", twoEnds(), func(p *play) {
		p.do(handshake + "send0:abc poll0 come:0 send0:def poll1 lose:0 wait:1000 poll0").wantFlights("1:PA 1 a1 w20 abcdef")
		p.do("come:0").wantEnd(1, "got=7 free=14 pieces=").do("recv1:9").wantReply(impl.OK, 6, "abcdef")
	})
	inAllPlays(t, "up to the last byte of the window", twoEnds(), func(p *play) {
		p.do(handshake+"send0:abcdefghij poll0 send0:klmnopqrs poll0 send0:tu poll0 come:2").wantEnd(1, "got=1 pieces=19:t")
		p.do("come:1").wantEnd(1, "got=1 pieces=10:klmnopqrst free=20").do("come:0").wantEnd(1, "got=21 free=0 pieces=")
		p.do("recv1:200").wantReply(impl.OK, 20, "abcdefghijklmnopqrst")
	})
	inAllPlays(t, "some of them there already", twoEnds(), func(p *play) {
		p.do(handshake+"send0:ab poll0 send0:cd poll0 come:1").wantEnd(1, "pieces=2:cd")
		p.do("send0:ef wait:1000 poll0 come:1").wantEnd(1, "got=7 pieces=").do("recv1:9").wantReply(impl.OK, 6, "abcdef")
		p.do("come:0 recv1:9").wantReply(impl.OK, 0, "")
	})
}

// A segment without a byte fits at what is missing first, and in the window, but not behind its last byte.
func TestP9AnswersInTheWindow(t *testing.T) {
	for _, row := range []struct {
		sent string
		fits bool
	}{{"", true}, {"a", true}, {"abcd", true}, {"abcde", false}} {
		inAllPlays(t, "an answer behind "+row.sent, endsOf(5, 10), func(p *play) {
			p.do(handshake + "send1:xy poll1 send0:" + row.sent + " poll0")
			lost := len(p.pair.Flights) - 1
			// The answer that goes alone is behind what is lost.
			p.do("come:0 poll0")
			for range lost {
				p.do("lose:0")
			}
			p.do("come:0")
			acked := map[bool]string{true: "acked=3", false: "acked=1"}[row.fits]
			p.wantEnd(1, "open "+acked+" got=1").do("poll1")
			if !row.fits {
				p.wantFlights("0:A 3 a1 w5")
				return
			}
			p.wantFlights()
		})
	}
	inAllPlays(t, "an answer to a window that is shut", endsOf(3, 10), func(p *play) {
		p.do(handshake+"send0:abc poll0 come:0 send1:xy poll1 come:0 poll0").wantFlights("1:A 4 a3 w18").wantEnd(1, "free=0")
		p.do("come:0").wantEnd(1, "acked=3 free=0").do("poll1").wantFlights()
	})
	// A byte does not fit there, and the answer that it brings is not heard either.
	inAllPlays(t, "a byte to a window that is shut", endsOf(3, 10), func(p *play) {
		p.do(handshake + "send0:abcd poll0 come:0 send1:xy poll1 come:0 poll0 lose:0 wait:1000 poll0").wantFlights("1:PA 4 a3 w18 d")
		p.do("come:0").wantEnd(1, "acked=1 free=0 got=4").do("poll1").wantFlights("0:PA 1 a4 w0 xy")
	})
}

// outOfOrder sends parts of two bytes, and lets those come whose places among what flies are told.
func outOfOrder(p *play, count int, order ...int) *play {
	p.t.Helper()
	text := "abcdefghijklmnopqrstuvwxyz"
	p.do(handshake)
	for i := range count {
		p.do("send0:" + text[2*i:2*i+2] + " poll0")
	}
	for _, at := range order {
		p.do(fmt.Sprint("come:", at))
	}
	return p
}

func TestP9BytesOutOfOrder(t *testing.T) {
	ends := endsOf(40, 2)
	rows := []struct {
		order []int
		want  string
	}{
		{[]int{1}, "got=1 pieces=2:cd"},
		{[]int{3, 1}, "got=1 pieces=2:cd,6:gh"},
		{[]int{1, 2}, "got=1 pieces=2:cd,6:gh"},
		{[]int{1, 1}, "got=1 pieces=2:cdef"},
		{[]int{2, 1}, "got=1 pieces=2:cdef"},
		{[]int{1, 2, 1}, "got=1 pieces=2:cdefgh"},
		{[]int{1, 2, 0}, "got=5 pieces=2:gh"},
		{[]int{1, 2, 0, 0}, "got=9 pieces="},
		{[]int{1, 2, 3, 4}, "got=1 pieces=2:cd,6:gh,10:kl,14:op"},
		// One piece more than there may be is left out, and what it would be is wanted again.
		{[]int{1, 2, 3, 4, 5}, "got=1 pieces=2:cd,6:gh,10:kl,14:op"},
		{[]int{9, 7, 5, 3, 1}, "got=1 pieces=6:gh,10:kl,14:op,18:st"},
		{[]int{5, 4, 3, 2, 1}, "got=1 pieces=2:cdefghijkl"},
		// One that touches is none more.
		{[]int{1, 2, 3, 4, 4}, "got=1 pieces=2:cd,6:gh,10:kl,14:opqr"},
		{[]int{1, 2, 3, 4, 1}, "got=1 pieces=2:cdefgh,10:kl,14:op"},
		// What is ready goes, and there may be one more ahead of that.
		{[]int{2, 3, 4, 5, 0}, "got=3 pieces=2:ef,6:ij,10:mn,14:qr"},
		{[]int{1, 2, 3, 4, 0}, "got=5 pieces=2:gh,6:kl,10:op"},
	}
	for _, row := range rows {
		inAllPlays(t, fmt.Sprint("order ", row.order), ends, func(p *play) {
			outOfOrder(p, 11, row.order...).wantEnd(1, "open free="+fmt.Sprint(41-p.end(1).Got)+" "+row.want)
			flying := len(p.pair.Flights)
			p.do("poll1")
			if len(p.pair.Flights) != flying+1 {
				p.fail("answers", len(p.pair.Flights)-flying, 1)
			}
		})
	}
}

func TestP9AnEndThatComesTooEarly(t *testing.T) {
	inAllPlays(t, "ahead of bytes", endsOf(40, 2), func(p *play) {
		p.do(handshake+"send0:abcd close0 poll0").wantFlights("1:PA 1 a1 w20 ab", "1:PA 3 a1 w20 cd", "1:FA 5 a1 w20").wantEnd(0, "finwait1 sent=6 top=6")
		p.do("come:2").wantEnd(1, "open got=1 pieces=").do("poll1 lose:2")
		p.do("come:1").wantEnd(1, "open got=1 pieces=2:cd").do("come:0").wantEnd(1, "closewait got=6 free=36 pieces=")
		p.do("poll1").wantFlights("0:A 1 a6 w36")
	})
	inAllPlays(t, "between bytes", endsOf(40, 2), func(p *play) {
		p.do(handshake+"send0:abcd close0 poll0 come:1 come:1").wantEnd(1, "open got=1 pieces=2:cd").do("come:0").wantEnd(1, "closewait got=6")
	})
	inAllPlays(t, "to one that closed", endsOf(40, 2), func(p *play) {
		p.do(handshake+"close1 send0:ab close0 poll0 come:1").wantEnd(1, "finwait1 got=1").do("come:0").wantEnd(1, "closing got=4 free=38")
	})
	inAllPlays(t, "to one that closed and was heard", endsOf(40, 2), func(p *play) {
		p.do(handshake+"close1 poll1 come:0 poll0 come:0").wantEnd(1, "finwait2")
		p.do("send0:ab close0 poll0 come:1").wantEnd(1, "finwait2 got=1").do("come:0").wantEnd(1, "timewait got=4").wantEnd(0, "lastack")
	})
	// Five pieces are too many: the last bytes are left out; the end that comes with nothing is known all the same.
	inAllPlays(t, "behind too many pieces", endsOf(40, 2), func(p *play) {
		outOfOrder(p, 11, 1, 2, 3, 4, 5).do("close0 poll0").wantEnd(0, "finwait1 sent=24")
		p.do(fmt.Sprint("come:", len(p.pair.Flights)-1)).wantEnd(1, "open got=1 pieces=2:cd,6:gh,10:kl,14:op")
		p.do("come:0 come:0 come:0 come:0").wantEnd(1, "open got=17")
		p.do("come:0 come:0").wantEnd(1, "open got=19 pieces=2:uv").do("poll1 come:0").wantEnd(0, "finwait1 acked=19 sent=24")
		p.do("poll0 wait:1000 poll0").wantFlights("1:PA 19 a1 w20 st", "1:PA 21 a1 w20 uv", "1:FA 23 a1 w20")
		p.do("come:0").wantEnd(1, "closewait got=24 free=18 pieces=")
	})
}

func TestP9AnEndInASmallWindow(t *testing.T) {
	inAllPlays(t, "room for the bytes alone", endsOf(3, 10), func(p *play) {
		p.do(handshake+"send0:abc close0 poll0").wantFlights("1:PA 1 a1 w20 abc").wantEnd(0, "finwait1 sent=4")
		p.do("come:0 poll1").wantFlights("0:A 1 a4 w0").do("come:0 poll0").wantFlights().wantEnd(0, "finwait1 acked=4 sent=4 window=0")
		p.do("wait:999 poll0").wantFlights().do("wait:1 poll0").wantFlights("1:FA 4 a1 w20").wantEnd(0, "sent=5 top=5 tries=0")
		p.do("come:0").wantEnd(1, "open got=4 free=0").do("poll1").wantFlights("0:A 1 a4 w0")
		p.do("come:0 recv1:1 poll1").wantFlights("0:A 1 a4 w1").do("come:0").wantEnd(0, "window=1 sent=5 acked=4").do("poll0").wantFlights()
		p.do("wait:2000 poll0").wantFlights("1:FA 4 a1 w20").wantEnd(0, "tries=1")
		p.do("come:0").wantEnd(1, "closewait got=5 free=1").do("recv1:9").wantReply(impl.OK, 2, "bc")
		p.do("recv1:9").wantReply(impl.ErrNone, 0, "")
	})
	inAllPlays(t, "room for one more", endsOf(4, 10), func(p *play) {
		p.do(handshake+"send0:abc close0 poll0").wantFlights("1:PA 1 a1 w20 abc", "1:FA 4 a1 w20").wantEnd(0, "sent=5 top=5")
		p.do("copy:1 come:1").wantEnd(1, "open got=1").do("come:0").wantEnd(1, "closewait got=5 free=1")
		p.do("come:0").wantEnd(1, "closewait got=5").do("poll1").wantFlights("0:A 1 a5 w1")
	})
}

// Who closes in which order.
func TestP9Closing(t *testing.T) {
	inAllPlays(t, "one behind the other", twoEnds(), func(p *play) {
		p.do(handshake+"close0 poll0").wantFlights("1:FA 1 a1 w20").wantEnd(0, "finwait1 sent=2 top=2 acked=1")
		p.do("come:0").wantEnd(1, "closewait got=2 free=20").do("poll1").wantFlights("0:A 1 a2 w20")
		p.do("come:0").wantEnd(0, "finwait2 acked=2").do("poll0").wantFlights()
		p.do("send1:xyz poll1").wantFlights("0:PA 1 a2 w20 xyz").do("come:0").wantEnd(0, "finwait2 got=4").do("recv0:9").wantReply(impl.OK, 3, "xyz")
		p.do("poll0").wantFlights("1:A 2 a4 w20").do("come:0").wantEnd(1, "closewait acked=4")
		p.do("close1").wantEnd(1, "lastack").do("poll1").wantFlights("0:FA 4 a2 w20").wantEnd(1, "lastack sent=5 top=5")
		p.do("come:0").wantEnd(0, "timewait got=5").do("poll0").wantFlights("1:A 2 a5 w20")
		p.do("come:0").wantEnd(1, "closed acked=5 why=0").do("poll1").wantFlights()
		p.do("recv0:1").wantReply(impl.ErrNone, 0, "").do("recv1:1").wantReply(impl.ErrNone, 0, "")
	})
	inAllPlays(t, "both at once", twoEnds(), func(p *play) {
		p.do(handshake+"close0 close1 poll0 poll1").wantFlights("1:FA 1 a1 w20", "0:FA 1 a1 w20")
		p.do("come:0 come:0").wantEnd(0, "closing got=2 acked=1").wantEnd(1, "closing got=2 acked=1")
		p.do("poll0 poll1").wantFlights("1:A 2 a2 w20", "0:A 2 a2 w20")
		p.do("come:0 come:0").wantEnd(0, "timewait acked=2").wantEnd(1, "timewait acked=2").do("poll0 poll1").wantFlights()
	})
	inAllPlays(t, "the second one with its answer", twoEnds(), func(p *play) {
		p.do(handshake + "close0 poll0 come:0 close1 poll1").wantFlights("0:FA 1 a2 w20")
		p.do("come:0").wantEnd(0, "timewait got=2 acked=2").do("poll0 come:0").wantEnd(1, "closed why=0")
	})
	inAllPlays(t, "with bytes, and the answer, and the end at once", twoEnds(), func(p *play) {
		p.do(handshake+"send0:abc close0 send1:de poll0").wantFlights("1:PA 1 a1 w20 abc", "1:FA 4 a1 w20")
		p.do("come:0 come:0 close1 poll1").wantFlights("0:PA 1 a5 w17 de", "0:FA 3 a5 w17")
		p.do("come:1").wantEnd(0, "finwait2 got=1 acked=5").do("come:0").wantEnd(0, "timewait got=4").do("recv0:9").wantReply(impl.OK, 2, "de")
	})
	inAllPlays(t, "an answer to less than all", endsOf(20, 2), func(p *play) {
		p.do(handshake+"send0:abcd close0 poll0 come:0 poll1 come:2").wantEnd(0, "finwait1 acked=3 sent=6")
		p.do("come:0 poll1 come:1").wantEnd(0, "finwait1 acked=5").do("come:0 poll1 come:0").wantEnd(0, "finwait2 acked=6")
	})
}

// A state in which the other one's end came takes no more bytes, and what comes again is answered.
func TestP9TheEndAgain(t *testing.T) {
	for _, row := range []struct{ words, state string }{
		{"", "closewait"}, {"close1 ", "lastack"}, {"close1 poll1 ", "lastack"}, {"send1:abc ", "closewait"},
	} {
		inAllPlays(t, "the end again, behind "+row.words, twoEnds(), func(p *play) {
			p.do(handshake+"close0 poll0 copy:0 come:0 poll1 lose:1 "+row.words+"come:0").wantEnd(1, row.state+" got=2")
			p.do("poll1 come:0").wantEnd(0, map[string]string{"closewait": "finwait2", "lastack": "timewait"}[row.state])
		})
	}
	inAllPlays(t, "the end again, where both close", twoEnds(), func(p *play) {
		p.do(handshake+"close0 close1 poll0 poll1 copy:1 come:1 come:1").wantEnd(0, "closing got=2").do("poll0").wantFlights("1:FA 1 a1 w20", "1:A 2 a2 w20")
	})
}

func TestP9Resets(t *testing.T) {
	linked := "synrcvd open finwait1 finwait2 closewait closing lastack timewait"
	for _, at := range allSpots() {
		other := fmt.Sprint(1 - at.side)
		inAllPlays(t, "a reset at "+at.state+", behind "+at.words, twoEnds(), func(p *play) {
			p.do(at.words)
			if !strings.Contains(linked, at.state) || fieldOf(p.end(1-at.side), "state") == "synsent" {
				return
			}
			p.do("abort" + other + " poll" + other)
			p.do(fmt.Sprint("come:", len(p.pair.Flights)-1)).wantEnd(at.side, "closed why=9")
			waits := p.end(at.side).Waits
			p.do("poll"+fmt.Sprint(at.side)+" poll0 poll1 wait:60000 poll0 poll1").wantEnd(at.side, "closed why=9 waits=0")
			if waits != 0 {
				p.fail("what waits of who is cut off", waits, 0)
			}
		})
	}
}

func TestP9ResetsElsewhere(t *testing.T) {
	for _, row := range []struct {
		sent, state, answer string
	}{
		{"", "closed", ""},
		{"a", "open", "0:A 1 a1 w5"},
		{"abcd", "open", "0:A 1 a1 w5"},
		{"abcde", "open", ""},
	} {
		inAllPlays(t, "a reset behind lost "+row.sent, endsOf(5, 10), func(p *play) {
			p.do(handshake + "send0:" + row.sent + " poll0")
			if row.sent != "" {
				p.do("lose:0")
			}
			p.do("abort0 poll0").wantFlights(fmt.Sprintf("1:R %d w0", 1+len(row.sent)))
			p.do("come:0").wantEnd(1, row.state+" got=1 waits=0").do("poll1")
			if row.answer == "" {
				p.wantFlights()
				return
			}
			// The answer tells the other one what number its reset has to have.
			p.wantFlights(row.answer).do("come:0").wantEnd(0, "closed waits=1").do("poll0").wantFlights("1:R 1 w0")
			p.do("come:0").wantEnd(1, "closed why=9")
		})
	}
	inAllPlays(t, "a reset behind all that came", twoEnds(), func(p *play) {
		p.do(handshake+"send1:xy poll1 send0:abc poll0 abort0 poll0 lose:2 come:0 poll0").wantFlights("1:PA 1 a1 w20 abc", "1:R 1 w0")
		p.do("come:0").wantEnd(1, "open got=4").do("come:0").wantEnd(1, "open got=4 why=0 waits=0")
	})
}

func TestP9OldAnswers(t *testing.T) {
	inAllPlays(t, "in the other order", endsOf(20, 2), func(p *play) {
		p.do(handshake+"send0:abcdef poll0 come:0 poll1 come:0 poll1 come:0 poll1").wantFlights("0:A 1 a3 w18", "0:A 1 a5 w16", "0:A 1 a7 w14")
		p.do("come:2").wantEnd(0, "acked=7 sent=7 window=14").do("come:0").wantEnd(0, "acked=7 window=14").do("come:0").wantEnd(0, "acked=7 window=14")
		p.do("poll0").wantFlights()
	})
	inAllPlays(t, "in order", endsOf(20, 2), func(p *play) {
		p.do(handshake + "send0:abcdef poll0 come:0 poll1 come:0 poll1 come:0 poll1")
		p.do("come:0").wantEnd(0, "acked=3 sent=7 window=18").do("come:0").wantEnd(0, "acked=5 window=16").do("come:0").wantEnd(0, "acked=7 window=14")
	})
}

// Of two windows that hear the same, the one of the later unit counts; of the same unit the one that is told last.
func TestP9WhichWindowCounts(t *testing.T) {
	told := handshake + "send0:abc poll0 copy:0 come:0 send1:p poll1 recv1:3 send1:q poll1 "
	inAllPlays(t, "of a later unit, in order", twoEnds(), func(p *play) {
		p.do(told).wantFlights("1:PA 1 a1 w20 abc", "0:PA 1 a4 w17 p", "0:PA 2 a4 w20 q")
		p.do("come:1").wantEnd(0, "acked=4 window=17").do("come:1").wantEnd(0, "acked=4 window=20 got=3")
	})
	inAllPlays(t, "of a later unit, out of order", twoEnds(), func(p *play) {
		p.do(told+"come:2").wantEnd(0, "acked=4 window=20 pieces=1:q").do("come:1").wantEnd(0, "acked=4 window=20 got=3 pieces=")
	})
	same := handshake + "send0:abc poll0 copy:0 come:0 poll1 recv1:3 come:0 poll1 "
	inAllPlays(t, "of the same unit, in order", twoEnds(), func(p *play) {
		p.do(same).wantFlights("0:A 1 a4 w17", "0:A 1 a4 w20").do("come:0").wantEnd(0, "window=17").do("come:0").wantEnd(0, "window=20")
	})
	inAllPlays(t, "of the same unit, out of order", twoEnds(), func(p *play) {
		p.do(same+"come:1").wantEnd(0, "window=20").do("come:0").wantEnd(0, "window=17 acked=4")
	})
	// Bytes that came in order move Got: what is told of a unit is counted from the first one.
	inAllPlays(t, "of units behind bytes", twoEnds(), func(p *play) {
		p.do(handshake+"send1:wxyz poll1 come:0 poll0 come:0 send0:abc poll0 copy:0 come:0 poll1 recv1:3 come:0 poll1").wantFlights("0:A 5 a4 w17", "0:A 5 a4 w20")
		p.do("send1:v poll1 come:2").wantEnd(0, "window=20 got=6").do("come:0").wantEnd(0, "window=20")
	})
	// The window that the SYN tells is of the unit 0: any other one is later.
	inAllPlays(t, "behind the SYN", endsOf(5, 10), func(p *play) {
		p.do("open0 poll0 come:0 poll1 come:0").wantEnd(0, "window=5").do("poll0 come:0 send1:x poll1 come:0").wantEnd(0, "window=5 got=2")
	})
}

// After the timer ran out fewer units are Sent than were ever sent: an answer to those counts all the same.
func TestP9UnitsThatAreTopAndNotSent(t *testing.T) {
	burst := handshake + "send0:abcdefgh poll0 poll0 wait:1000 poll0 "
	inAllPlays(t, "all are heard", endsOf(20, 1), func(p *play) {
		p.do(handshake+"send0:abcdefgh poll0").wantEnd(0, "sent=5 top=5").do("poll0").wantEnd(0, "sent=9 top=9")
		p.do("wait:1000 poll0").wantEnd(0, "acked=1 sent=5 top=9 tries=1")
		p.do(strings.Repeat("come:0 ", 8)+"poll1 come:4").wantEnd(0, "acked=9 sent=9 top=9 tries=0").wantEnd(1, "got=9")
		p.do("poll0 wait:60000 poll0").wantEnd(0, "acked=9 tries=0")
	})
	inAllPlays(t, "some are heard", endsOf(20, 1), func(p *play) {
		p.do(burst+strings.Repeat("come:0 ", 6)+"poll1 come:6").wantEnd(0, "acked=7 sent=7 top=9")
		p.do("lose:0 lose:0 lose:0 lose:0 lose:0 lose:0 poll0").wantFlights("1:PA 7 a1 w20 g", "1:PA 8 a1 w20 h").wantEnd(0, "sent=9 top=9")
	})
	inAllPlays(t, "fewer than are Sent are heard", endsOf(20, 1), func(p *play) {
		p.do(burst+"come:0 come:0 poll1 come:10").wantEnd(0, "acked=3 sent=5 top=9 tries=0")
	})
	inAllPlays(t, "cut off then", endsOf(20, 1), func(p *play) {
		p.do(burst+strings.Repeat("lose:0 ", 12)+"abort0 poll0").wantFlights("1:R 9 w0").wantEnd(0, "closed sent=5 top=9")
	})
}
