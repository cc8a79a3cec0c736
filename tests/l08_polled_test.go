package tests

import (
	"fmt"
	"strings"
	"testing"

	"loop.example/g00726/impl"
)

func TestP9WhatWaitsGoesFirst(t *testing.T) {
	inAllPlays(t, "ahead of a SYN", noneListens(), func(p *play) {
		p.do("open1 poll1 copy:0 come:0 come:0").wantEnd(0, "closed waits=2").do("open0").wantEnd(0, "synsent waits=2")
		p.do("poll0").wantFlights("1:RA =0 a1 w0", "1:RA =0 a1 w0", "1:S 0 w20 m10").wantEnd(0, "synsent waits=0 sent=1")
	})
	// What waits has an answer, and what is wanted has another one: it goes with the SYN.
	inAllPlays(t, "ahead of a SYN with an answer", noneListens(), func(p *play) {
		p.do("open1 poll1 copy:0 come:0 open0 come:0").wantEnd(0, "synrcvd waits=1")
		p.do("poll0").wantFlights("1:RA =0 a1 w0", "1:SA 0 a1 w20 m10")
	})
	inAllPlays(t, "of who is closed", twoEnds(), func(p *play) {
		p.do(handshake+"send1:ab send0:cd poll1 abort0 come:0 poll0").wantFlights("1:R 1 w0", "1:R 1 w0").wantEnd(0, "closed waits=0")
		p.do("poll0").wantFlights("1:R 1 w0", "1:R 1 w0")
	})
}

func TestP9ABurst(t *testing.T) {
	inAllPlays(t, "of four", endsOf(20, 1), func(p *play) {
		p.do(handshake+"send0:abcdefghij poll0").wantFlights("1:PA 1 a1 w20 a", "1:PA 2 a1 w20 b", "1:PA 3 a1 w20 c", "1:PA 4 a1 w20 d").wantEnd(0, "acked=1 sent=5 top=5")
		p.do("lose:0 lose:0 lose:0 lose:0 poll0").wantFlights("1:PA 5 a1 w20 e", "1:PA 6 a1 w20 f", "1:PA 7 a1 w20 g", "1:PA 8 a1 w20 h")
		p.do("lose:0 lose:0 lose:0 lose:0 poll0").wantFlights("1:PA 9 a1 w20 i", "1:PA 10 a1 w20 j").wantEnd(0, "sent=11 top=11")
		p.do("poll0").wantFlights("1:PA 9 a1 w20 i", "1:PA 10 a1 w20 j")
	})
	inAllPlays(t, "with the end as the fourth", endsOf(20, 1), func(p *play) {
		p.do(handshake+"send0:abc close0 poll0").wantFlights("1:PA 1 a1 w20 a", "1:PA 2 a1 w20 b", "1:PA 3 a1 w20 c", "1:FA 4 a1 w20").wantEnd(0, "sent=5")
	})
	inAllPlays(t, "without the end, that would be the fifth", endsOf(20, 1), func(p *play) {
		p.do(handshake+"send0:abcd close0 poll0").wantFlights("1:PA 1 a1 w20 a", "1:PA 2 a1 w20 b", "1:PA 3 a1 w20 c", "1:PA 4 a1 w20 d").wantEnd(0, "finwait1 sent=5")
		p.do("lose:0 lose:0 lose:0 lose:0 poll0").wantFlights("1:FA 5 a1 w20").wantEnd(0, "finwait1 sent=6").do("poll0").wantFlights("1:FA 5 a1 w20")
	})
}

func TestP9TheSizeOfParts(t *testing.T) {
	hundred := strings.Repeat("0123456789", 10)
	for _, row := range []struct {
		own, other int64
		sizes      []int
	}{
		{10, 7, []int{7, 7, 7, 7}},
		{7, 10, []int{7, 7, 7, 7}},
		{7, 7, []int{7, 7, 7, 7}},
		{1, 520, []int{1, 1, 1, 1}},
		{520, 1, []int{1, 1, 1, 1}},
		{99, 520, []int{99, 99, 2}},
		{520, 100, []int{100, 100}},
		{199, 200, []int{199, 1}},
		{520, 520, []int{200}},
	} {
		ends := wideEnds()
		ends[0].Mss, ends[1].Mss = row.own, row.other
		for _, opening := range []string{handshake, "open1 poll1 open0 come:0 poll0 come:0 poll1 come:0 "} {
			ends[1].Listens = opening == handshake
			inAllPlays(t, fmt.Sprintf("parts of %d and %d, opened by %s", row.own, row.other, opening), ends, func(p *play) {
				p.do(opening + "send0:" + hundred + " send0:" + hundred + " poll0")
				sizes := []int{}
				for _, f := range p.pair.Flights {
					sizes = append(sizes, len(f.Segment.Data))
				}
				if fmt.Sprint(sizes) != fmt.Sprint(row.sizes) {
					p.fail("parts", sizes, row.sizes)
				}
			})
		}
	}
}

func TestP9TheLimit(t *testing.T) {
	inAllPlays(t, "all that the window has room for", endsOf(5, 3), func(p *play) {
		p.do(handshake+"send0:abcdefghij poll0").wantFlights("1:PA 1 a1 w20 abc", "1:PA 4 a1 w20 de").wantEnd(0, "sent=6 top=6 window=5")
		p.do("poll0 poll0").wantFlights("1:PA 1 a1 w20 abc", "1:PA 4 a1 w20 de")
		// What is heard and not read makes no room.
		p.do("come:0 poll1 come:1").wantEnd(0, "acked=4 window=2 sent=6").do("poll0").wantFlights("1:PA 4 a1 w20 de")
		p.do("come:0 recv1:4").wantReply(impl.OK, 4, "abcd").do("poll1").wantFlights("0:A 1 a6 w4")
		p.do("come:0").wantEnd(0, "acked=6 window=4").do("poll0").wantFlights("1:PA 6 a1 w20 fgh", "1:PA 9 a1 w20 i").wantEnd(0, "sent=10")
	})
	inAllPlays(t, "no end where there is no room for it", endsOf(5, 10), func(p *play) {
		p.do(handshake+"send0:abcde close0 poll0").wantFlights("1:PA 1 a1 w20 abcde").wantEnd(0, "finwait1 sent=6")
		p.do("poll0").wantFlights("1:PA 1 a1 w20 abcde").do("come:0 recv1:1 poll1 come:0").wantEnd(0, "window=1 acked=6")
		p.do("poll0").wantFlights("1:FA 6 a1 w20").wantEnd(0, "finwait1 sent=7")
	})
	inAllPlays(t, "no byte ahead of the handshake", twoEnds(), func(p *play) {
		p.do("open0 send0:abc poll0").wantFlights("1:S 0 w20 m10").do("poll0").wantFlights("1:S 0 w20 m10").wantEnd(0, "sent=1")
		p.do("come:0 send1:xyz poll1").wantFlights("0:SA 0 a1 w20 m10").do("poll1").wantFlights("0:SA 0 a1 w20 m10").wantEnd(1, "sent=1")
		p.do("come:0 poll0").wantFlights("1:PA 1 a1 w20 abc").do("come:0 poll1").wantFlights("0:PA 1 a4 w17 xyz")
	})
	inAllPlays(t, "bytes of who the other one closed", twoEnds(), func(p *play) {
		p.do(handshake+"close0 poll0 come:0 send1:xyz poll1").wantFlights("0:PA 1 a2 w20 xyz").wantEnd(1, "closewait sent=4")
		p.do("send1:uv close1 poll1").wantFlights("0:PA 1 a2 w20 xyz", "0:PA 4 a2 w20 uv", "0:FA 6 a2 w20").wantEnd(1, "lastack sent=7")
	})
	inAllPlays(t, "bytes of who closes, where the other one does, too", twoEnds(), func(p *play) {
		p.do(handshake+"send0:abc close0 close1 poll1 come:0").wantEnd(0, "closing sent=1 got=2")
		p.do("poll0").wantFlights("1:PA 1 a2 w20 abc", "1:FA 4 a2 w20").wantEnd(0, "closing sent=5")
	})
}

func TestP9ALoneAnswer(t *testing.T) {
	inAllPlays(t, "where one is wanted", twoEnds(), func(p *play) {
		p.do(handshake + "send0:abc poll0 come:0 poll1").wantFlights("0:A 1 a4 w17").do("poll1").wantFlights("0:A 1 a4 w17")
	})
	inAllPlays(t, "one for many", endsOf(20, 1), func(p *play) {
		p.do(handshake + "send0:abcd poll0 come:0 come:0 come:0 come:0 poll1").wantFlights("0:A 1 a5 w16")
	})
	inAllPlays(t, "none where bytes go", twoEnds(), func(p *play) {
		p.do(handshake + "send0:abc poll0 come:0 send1:xy poll1").wantFlights("0:PA 1 a4 w17 xy").do("poll1").wantFlights("0:PA 1 a4 w17 xy")
	})
	inAllPlays(t, "none where the end goes", twoEnds(), func(p *play) {
		p.do(handshake + "send0:abc poll0 come:0 close1 poll1").wantFlights("0:FA 1 a4 w17").do("poll1").wantFlights("0:FA 1 a4 w17")
	})
	inAllPlays(t, "behind bytes that are not heard yet", twoEnds(), func(p *play) {
		p.do(handshake+"send1:xy poll1 send0:abc poll0 come:1 poll1").wantFlights("0:PA 1 a1 w20 xy", "0:A 3 a4 w17")
	})
	inAllPlays(t, "none of who is cut off", twoEnds(), func(p *play) {
		p.do(handshake + "send0:abc poll0 come:0 abort1 poll1").wantFlights("0:R 1 w0")
	})
	inAllPlays(t, "none to an answer", twoEnds(), func(p *play) {
		p.do(handshake + "send0:abc poll0 come:0 poll1 come:0 poll0").wantFlights()
	})
}

// The waits behind which what is not heard goes again, and at last a reset.
var tryWaits = []int{1000, 2000, 4000, 8000, 16000, 16000, 16000, 16000, 16000}

// tryAll lets all tries be lost, and asks what goes at each; words are what loses a try.
func tryAll(p *play, side int64, state string, try string, reset string) {
	p.t.Helper()
	poll := fmt.Sprintf(" poll%d", side)
	for i, wait := range tryWaits {
		p.wantEnd(side, fmt.Sprintf("%s tries=%d why=0", state, i))
		p.do(fmt.Sprintf("wait:%d", wait-1)+poll).wantFlights().wantEnd(side, fmt.Sprintf("%s tries=%d", state, i))
		p.do("wait:1" + poll)
		if i < len(tryWaits)-1 {
			p.wantFlights(try).do("lose:0" + poll).wantFlights()
		}
	}
	p.wantFlights(reset).wantEnd(side, "closed tries=9 why=9 waits=0")
	p.do("lose:0"+poll).wantFlights().wantEnd(side, "closed tries=0 why=9").do("wait:60000" + poll).wantFlights()
}

func TestP9TheTimerRunsOut(t *testing.T) {
	inAllPlays(t, "of a SYN", twoEnds(), func(p *play) {
		p.do("open0 poll0 lose:0")
		tryAll(p, 0, "synsent", "1:S 0 w20 m10", "1:R 1 w0")
	})
	inAllPlays(t, "of a SYN with an answer", twoEnds(), func(p *play) {
		p.do("open0 poll0 come:0 poll1 lose:0")
		tryAll(p, 1, "synrcvd", "0:SA 0 a1 w20 m10", "0:R 1 w0")
	})
	inAllPlays(t, "of bytes", twoEnds(), func(p *play) {
		p.do(handshake + "send0:abc poll0 lose:0")
		tryAll(p, 0, "open", "1:PA 1 a1 w20 abc", "1:R 4 w0")
		p.wantEnd(0, "sent=4 acked=1 top=4")
	})
	inAllPlays(t, "of the end", twoEnds(), func(p *play) {
		p.do(handshake + "close0 poll0 lose:0")
		tryAll(p, 0, "finwait1", "1:FA 1 a1 w20", "1:R 2 w0")
	})
	inAllPlays(t, "of the last end", twoEnds(), func(p *play) {
		p.do(handshake + "close0 poll0 come:0 close1 poll1 lose:0")
		tryAll(p, 1, "lastack", "0:FA 1 a2 w20", "0:R 2 w0")
	})
	inAllPlays(t, "of bytes to who closed", twoEnds(), func(p *play) {
		p.do(handshake + "close0 poll0 come:0 send1:xy poll1 lose:0")
		tryAll(p, 1, "closewait", "0:PA 1 a2 w20 xy", "0:R 3 w0")
	})
	inAllPlays(t, "of both ends at once", twoEnds(), func(p *play) {
		p.do(handshake + "close0 close1 poll1 poll0 lose:1 come:0 poll0 lose:0")
		tryAll(p, 0, "closing", "1:FA 1 a2 w20", "1:R 2 w0")
	})
	// What is accepted later is said again with the rest, and later bytes do not put the timer off.
	inAllPlays(t, "with more bytes", twoEnds(), func(p *play) {
		p.do(handshake+"send0:abc poll0 wait:600 send0:def poll0 wait:399 poll0").wantFlights("1:PA 1 a1 w20 abc", "1:PA 4 a1 w20 def").wantEnd(0, "tries=0")
		p.do("lose:0 lose:0 wait:1 poll0").wantFlights("1:PA 1 a1 w20 abcdef").wantEnd(0, "tries=1 sent=7 top=7")
	})
	// It ran out long ago: it is one try all the same.
	inAllPlays(t, "polled late", twoEnds(), func(p *play) {
		p.do(handshake+"send0:abc poll0 lose:0 wait:60000 wait:60000 poll0").wantFlights("1:PA 1 a1 w20 abc").wantEnd(0, "tries=1")
		p.do("lose:0 wait:1999 poll0").wantFlights().do("wait:1 poll0").wantFlights("1:PA 1 a1 w20 abc").wantEnd(0, "tries=2")
	})
}

func TestP9TheTimerIsOffWhenHeard(t *testing.T) {
	inAllPlays(t, "all is heard", twoEnds(), func(p *play) {
		p.do(handshake+"send0:abc poll0 lose:0 wait:1000 poll0 come:0 poll1").wantEnd(0, "tries=1").do("come:0").wantEnd(0, "acked=4 tries=0")
		p.do("poll0 wait:60000 poll0").wantFlights()
		// The wait is the first one again.
		p.do("send0:d poll0 lose:0 wait:999 poll0").wantFlights().do("wait:1 poll0").wantFlights("1:PA 4 a1 w20 d").wantEnd(0, "tries=1")
	})
	inAllPlays(t, "some is heard", endsOf(20, 2), func(p *play) {
		p.do(handshake+"send0:abcd poll0 lose:1 wait:1000 poll0 lose:1 lose:1").wantEnd(0, "tries=1")
		p.do("come:0 poll1 wait:300 come:0").wantEnd(0, "acked=3 sent=5 tries=0").do("poll0").wantFlights()
		p.do("wait:999 poll0").wantFlights().do("wait:1 poll0").wantFlights("1:PA 3 a1 w20 cd").wantEnd(0, "tries=1 sent=5")
	})
	// An answer to nothing new leaves the timer and the tries as they were.
	inAllPlays(t, "nothing new is heard", twoEnds(), func(p *play) {
		p.do(handshake+"send0:abc poll0 lose:0 wait:1000 poll0 lose:0 send1:x poll1 wait:1500 come:0").wantEnd(0, "acked=1 tries=1 got=2")
		p.do("poll0").wantFlights("1:A 4 a2 w19").do("lose:0 wait:499 poll0").wantFlights().do("wait:1 poll0").wantFlights("1:PA 1 a2 w19 abc").wantEnd(0, "tries=2")
	})
	// What is not polled has no timer: it begins with the poll.
	inAllPlays(t, "polled late", endsOf(20, 2), func(p *play) {
		p.do(handshake + "send0:abcd poll0 lose:1 come:0 poll1 come:0 wait:5000 poll0").wantFlights().do("wait:1000 poll0").wantFlights("1:PA 3 a1 w20 cd")
	})
	// The SYN that is heard turns Tries, and leaves the wait, until a poll finds all heard.
	inAllPlays(t, "a SYN", twoEnds(), func(p *play) {
		p.do("open0 poll0 lose:0 wait:1000 poll0").wantEnd(0, "tries=1").do("come:0 poll1 come:0").wantEnd(0, "open tries=0")
		p.do("send0:ab poll0 lose:0 wait:1999 poll0").wantFlights().do("wait:1 poll0").wantFlights("1:PA 1 a1 w20 ab").wantEnd(0, "tries=1")
	})
	inAllPlays(t, "a SYN, and a poll", twoEnds(), func(p *play) {
		p.do("open0 poll0 lose:0 wait:1000 poll0 come:0 poll1 come:0 poll0 lose:0 send0:ab poll0 lose:0 wait:999 poll0").wantFlights().do("wait:1 poll0").wantFlights("1:PA 1 a1 w20 ab").wantEnd(0, "tries=1")
	})
	inAllPlays(t, "who closes ahead of the answer", twoEnds(), func(p *play) {
		p.do("open0 poll0 lose:0 close0 wait:1000 poll0").wantFlights().wantEnd(0, "closed tries=0")
	})
	// Both call at once: the timer of the first SYN goes on.
	inAllPlays(t, "both call at once", noneListens(), func(p *play) {
		p.do("open0 open1 poll0 poll1 wait:400 come:1 poll0 lose:0 lose:0 wait:599 poll0").wantFlights().wantEnd(0, "synrcvd tries=0")
		p.do("wait:1 poll0").wantFlights("1:SA 0 a1 w20 m10").wantEnd(0, "synrcvd tries=1")
	})
}

// No try is counted of who hears that the window is shut, and it is asked for ever.
func TestP9Probes(t *testing.T) {
	shut := handshake + "send0:abcde poll0 come:0 poll1 come:0 "
	waits := append(append([]int{}, tryWaits...), 16000, 16000, 16000)
	inAllPlays(t, "bytes", endsOf(3, 10), func(p *play) {
		p.do(shut).wantEnd(0, "acked=4 sent=4 window=0").do("poll0").wantFlights()
		for _, wait := range waits {
			p.do(fmt.Sprintf("wait:%d poll0", wait-1)).wantFlights()
			p.do("wait:1 poll0").wantFlights("1:PA 4 a1 w20 d").wantEnd(0, "open tries=0 acked=4 sent=5 top=5").do("lose:0 poll0").wantFlights()
		}
		p.do("recv1:2 poll1 come:0").wantEnd(0, "window=2 acked=4 sent=5").do("poll0").wantFlights("1:PA 5 a1 w20 e").wantEnd(0, "sent=6")
	})
	inAllPlays(t, "bytes that are answered", endsOf(3, 10), func(p *play) {
		p.do(shut+"poll0 wait:1000 poll0 come:0").wantEnd(1, "got=4 free=0").do("poll1").wantFlights("0:A 1 a4 w0")
		p.do("come:0").wantEnd(0, "window=0 acked=4 sent=5 tries=0").do("poll0 wait:1999 poll0").wantFlights()
		p.do("wait:1 poll0").wantFlights("1:PA 4 a1 w20 d").wantEnd(0, "tries=0 sent=5").do("recv1:1 come:0").wantEnd(1, "got=5 free=0")
		p.do("poll1").wantFlights("0:A 1 a5 w0").do("come:0").wantEnd(0, "acked=5 sent=5 window=0 tries=0")
		// What was heard makes the wait the first one again.
		p.do("poll0 wait:1000 poll0").wantFlights("1:PA 5 a1 w20 e")
	})
	inAllPlays(t, "one byte, whatever a part may have, and no end behind it", endsOf(3, 10), func(p *play) {
		p.do(shut+"close0 poll0").wantFlights().do("wait:1000 poll0").wantFlights("1:PA 4 a1 w20 d").wantEnd(0, "finwait1 sent=5")
		p.do("lose:0 wait:2000 poll0").wantFlights("1:PA 4 a1 w20 d").wantEnd(0, "finwait1 sent=5 top=5 tries=0")
	})
	inAllPlays(t, "the end", endsOf(3, 10), func(p *play) {
		p.do(handshake+"send0:abc poll0 come:0 poll1 come:0 poll0 wait:60000 poll0").wantFlights().wantEnd(0, "window=0")
		p.do("close0 poll0").wantFlights().do("wait:999 poll0").wantFlights().do("wait:1 poll0").wantFlights("1:FA 4 a1 w20").wantEnd(0, "finwait1 sent=5 tries=0")
		p.do("lose:0 wait:2000 poll0").wantFlights("1:FA 4 a1 w20").wantEnd(0, "tries=0")
	})
	inAllPlays(t, "none where there is nothing to say", endsOf(3, 10), func(p *play) {
		p.do(handshake+"send0:abc poll0 come:0 poll1 come:0 poll0 wait:60000 poll0 wait:60000 poll0").wantFlights().wantEnd(0, "window=0 sent=4 tries=0")
		p.do("send0:d poll0 wait:999 poll0").wantFlights().do("wait:1 poll0").wantFlights("1:PA 4 a1 w20 d")
	})
	// The probe is done by the window that opens again: what is not heard then is a try.
	inAllPlays(t, "none where the window is open again", endsOf(3, 10), func(p *play) {
		p.do(shut+"poll0 wait:500 recv1:3 poll1 come:0").wantEnd(0, "window=3").do("poll0").wantFlights("1:PA 4 a1 w20 de")
		p.do("lose:0 wait:500 poll0").wantFlights("1:PA 4 a1 w20 de").wantEnd(0, "tries=1")
	})
}

// A quiet end lasts for 60000 and is put off by what does not fit, unless it is a reset.
func TestP9TheQuietEnd(t *testing.T) {
	quiet := handshake + "close0 poll0 come:0 close1 poll1 copy:0 wait:700 come:0 "
	inAllPlays(t, "alone", twoEnds(), func(p *play) {
		p.do(quiet+"wait:59999 poll0").wantEnd(0, "timewait").do("wait:1").wantEnd(0, "timewait").do("poll0").wantEnd(0, "closed why=0 acked=2 got=2")
		p.do("poll0 wait:60000 poll0").wantEnd(0, "closed")
	})
	inAllPlays(t, "polled late", twoEnds(), func(p *play) {
		p.do(quiet+"wait:60000 wait:60000 poll0").wantEnd(0, "closed why=0")
		// Neither is the answer that was wanted told any more.
		p.wantFlights("0:FA 1 a2 w20")
	})
	inAllPlays(t, "put off", twoEnds(), func(p *play) {
		p.do(quiet+"poll0 lose:1 wait:50000 come:0").wantEnd(0, "timewait").do("poll0").wantFlights("1:A 2 a2 w20")
		p.do("wait:59999 poll0").wantEnd(0, "timewait").do("wait:1 poll0").wantEnd(0, "closed why=0")
	})
	inAllPlays(t, "not put off by an answer", twoEnds(), func(p *play) {
		p.do(handshake+"close0 close1 poll0 poll1 come:0 come:0 poll0 poll1 copy:1 come:1 wait:40000 come:1").wantEnd(0, "timewait")
		p.do("wait:19999 poll0").wantEnd(0, "timewait").do("wait:1 poll0").wantEnd(0, "closed")
	})
	inAllPlays(t, "behind the answer to its end", twoEnds(), func(p *play) {
		p.do(handshake+"close0 close1 poll0 poll1 come:0 come:0 poll1 wait:900 come:0").wantEnd(0, "timewait")
		p.do("wait:59999 poll0").wantEnd(0, "timewait").do("wait:1 poll0").wantEnd(0, "closed")
	})
	inAllPlays(t, "behind the other one's end", twoEnds(), func(p *play) {
		p.do(handshake+"close0 poll0 come:0 poll1 come:0 close1 poll1 wait:300 come:0").wantEnd(0, "timewait")
		p.do("wait:59999 poll0").wantEnd(0, "timewait").do("wait:1 poll0").wantEnd(0, "closed")
	})
	// A reset that is not the next one puts nothing off and is not answered.
	inAllPlays(t, "not put off by a reset", twoEnds(), func(p *play) {
		p.do(handshake+"close0 poll0 copy:0 come:0 poll1 come:1 close1 poll1 come:1 poll0 lose:1 abort1 come:0 poll1").wantEnd(0, "timewait")
		p.wantFlights("0:R 2 w0", "0:R 1 w0").do("wait:30000 come:1").wantEnd(0, "timewait why=0").do("poll0").wantFlights("0:R 2 w0")
		p.do("wait:29999 poll0").wantEnd(0, "timewait").do("wait:1 poll0").wantEnd(0, "closed why=0")
	})
}

// fill lets copies of the only flight fly, until there are so many.
func fill(p *play, count int) *play {
	return p.do(strings.Repeat("copy:0 ", count-len(p.pair.Flights)))
}

func TestP9Flights(t *testing.T) {
	inAllPlays(t, "as many as there may be", twoEnds(), func(p *play) {
		fill(p.do("open0 poll0"), 30).wantReply(impl.OK, 0, "")
		p.do("copy:29").wantReply(impl.ErrFull, 0, "").wantNothingTurned().do("copy:0").wantReply(impl.ErrFull, 0, "")
		p.do("come:29").wantReply(impl.OK, 0, "").do("copy:28").wantReply(impl.OK, 0, "").do("copy:28").wantReply(impl.ErrFull, 0, "")
		// What has no room is lost, and was said all the same.
		p.do("poll1").wantEnd(1, "synrcvd sent=1 top=1")
		if last := p.pair.Flights[29]; len(p.pair.Flights) != 30 || p.nameFlight(last) != "1:S 0 w20 m10" {
			p.fail("the last one", p.nameFlight(last), "a SYN")
		}
	})
	inAllPlays(t, "some of a burst have room", endsOf(20, 1), func(p *play) {
		fill(p.do(handshake+"send1:x poll1"), 28).do("send0:abcdef poll0").wantEnd(0, "sent=5 top=5")
		got := []string{p.nameFlight(p.pair.Flights[27]), p.nameFlight(p.pair.Flights[28]), p.nameFlight(p.pair.Flights[29])}
		want := []string{"0:PA 1 a1 w20 x", "1:PA 1 a1 w20 a", "1:PA 2 a1 w20 b"}
		if len(p.pair.Flights) != 30 || fmt.Sprint(got) != fmt.Sprint(want) {
			p.fail("the last ones", got, want)
		}
		p.do("poll0").wantEnd(0, "sent=7")
	})
	inAllPlays(t, "order", endsOf(20, 1), func(p *play) {
		p.do(handshake+"send0:abc poll0 copy:1").wantFlights("1:PA 1 a1 w20 a", "1:PA 2 a1 w20 b", "1:PA 3 a1 w20 c", "1:PA 2 a1 w20 b")
		p.do("lose:1").wantFlights("1:PA 1 a1 w20 a", "1:PA 3 a1 w20 c", "1:PA 2 a1 w20 b").wantEnd(1, "got=1")
		p.do("come:1").wantFlights("1:PA 1 a1 w20 a", "1:PA 2 a1 w20 b").wantEnd(1, "got=1 pieces=2:c")
		p.do("send1:x poll1").wantFlights("1:PA 1 a1 w20 a", "1:PA 2 a1 w20 b", "0:PA 1 a1 w20 x")
		p.do("come:2").wantEnd(0, "got=2").do("come:0").wantEnd(1, "got=2").do("come:0").wantEnd(1, "got=4").wantFlights()
	})
	for count := range 4 {
		for _, kind := range []string{"come", "lose", "copy"} {
			inAllPlays(t, "none is there", twoEnds(), func(p *play) {
				p.do("open0 poll0")
				if count == 0 {
					p.do("lose:0")
				} else {
					fill(p, count)
				}
				p.do(fmt.Sprintf("%s:%d", kind, count)).wantReply(impl.ErrNone, 0, "").wantNothingTurned()
				p.do(kind+":29").wantReply(impl.ErrNone, 0, "").wantNothingTurned()
				if count > 0 {
					p.do(fmt.Sprintf("%s:%d", kind, count-1)).wantReply(impl.OK, 0, "")
				}
			})
		}
	}
}

func TestP9TheTimeGoesOn(t *testing.T) {
	inAllPlays(t, "time", twoEnds(), func(p *play) {
		for i, row := range []struct {
			words string
			now   int64
		}{{"", 0}, {"wait:0", 0}, {"wait:1", 1}, {"open0 poll0 come:0", 1}, {"wait:60000", 60001}, {"wait:60001", 60001}, {"wait:-1", 60001}, {"wait:7", 60008}} {
			p.do(row.words)
			if p.pair.Now != row.now {
				p.fail(fmt.Sprint("the time, row ", i), p.pair.Now, row.now)
			}
		}
	})
	if now := impl.RunPair(twoEnds()[0], twoEnds()[1], manyEvents(150, impl.Event{Kind: impl.EvWait, N: 60000})).Pair.Now; now != 9000000 {
		t.Error("the latest time is ", now)
	}
}

func manyEvents(count int, e impl.Event) []impl.Event {
	list := []impl.Event{}
	for range count {
		list = append(list, e)
	}
	return list
}
