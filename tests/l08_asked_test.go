package tests

import (
	"strings"
	"testing"

	"loop.example/g00726/impl"
)

// closing lets the end 0 close first, and then the end 1: the end 0 is quiet, the end 1 waits for the last answer.
const closingBoth = handshake + "close0 poll0 come:0 close1 poll1 come:0 "

// A spot is an end that has come to a state, and the codes with which it answers to EvOpen, EvSend, EvRecv, EvClose and EvAbort then.
type spot struct {
	words string
	side  int64
	state string
	codes [5]int64
}

func allSpots() []spot {
	const ok, none, state, reset = impl.OK, impl.ErrNone, impl.ErrState, impl.ErrReset
	isClosed := [5]int64{state, state, state, state, state}
	isCut := [5]int64{state, reset, reset, reset, state}
	isOver := [5]int64{state, state, none, state, state}
	hasClosed := [5]int64{state, state, ok, state, ok}
	isEnding := [5]int64{state, state, none, state, ok}
	isLinked := [5]int64{state, ok, ok, ok, ok}
	return []spot{
		{"", 0, "closed", [5]int64{ok, state, state, state, state}},
		{"open0 close0", 0, "closed", isClosed},
		{"open0 poll0 close0 wait:1000 poll0", 0, "closed", isClosed},
		{"close1", 1, "closed", isClosed},
		{"abort1", 1, "closed", isCut},
		{"open0 abort0", 0, "closed", isCut},
		{handshake + "abort0", 0, "closed", isCut},
		{handshake + "abort0 poll0 come:0", 1, "closed", isCut},
		{handshake + "close0 abort0", 0, "closed", isCut},
		{closingBoth + "poll0 come:0", 1, "closed", isOver},
		{closingBoth + "wait:60000 poll0", 0, "closed", isOver},
		{"", 1, "listen", [5]int64{state, state, state, ok, ok}},
		{"open0", 0, "synsent", [5]int64{state, ok, state, ok, ok}},
		{"open0 poll0", 0, "synsent", [5]int64{state, ok, state, ok, ok}},
		{"open0 poll0 come:0", 1, "synrcvd", isLinked},
		{"open0 poll0 come:0 poll1", 1, "synrcvd", isLinked},
		{handshake, 0, "open", isLinked},
		{handshake, 1, "open", isLinked},
		{handshake + "close0", 0, "finwait1", hasClosed},
		{handshake + "close0 poll0", 0, "finwait1", hasClosed},
		{handshake + "close0 poll0 come:0 poll1 come:0", 0, "finwait2", hasClosed},
		{handshake + "close0 poll0 come:0", 1, "closewait", [5]int64{state, ok, none, ok, ok}},
		{handshake + "close0 close1 poll0 poll1 come:1", 0, "closing", isEnding},
		{handshake + "close0 poll0 come:0 close1", 1, "lastack", isEnding},
		{handshake + "close0 poll0 come:0 close1 poll1", 1, "lastack", isEnding},
		{closingBoth, 0, "timewait", isEnding},
	}
}

// inAllSpots plays each spot, and lets one more event come.
func inAllSpots(t *testing.T, kind int, words string, check func(*play, spot, int64)) {
	t.Helper()
	for _, at := range allSpots() {
		inAllPlays(t, "at "+at.state, twoEnds(), func(p *play) {
			p.do(at.words).wantEnd(at.side, at.state)
			p.do(strings.ReplaceAll(words, "*", string(rune('0'+at.side))))
			code := at.codes[kind]
			if code == impl.OK {
				check(p, at, at.side)
				return
			}
			p.wantReply(code, 0, "").wantNothingTurned()
		})
	}
}

func TestP9OpenInEachState(t *testing.T) {
	inAllSpots(t, 0, "open*", func(p *play, at spot, side int64) {
		p.wantReply(impl.OK, 0, "").wantEnd(side, "synsent acked=0 sent=0 top=0 got=0 why=0 tries=0 waits=0").wantFlights()
	})
}

func TestP9SendInEachState(t *testing.T) {
	inAllSpots(t, 1, "send*:abc", func(p *play, at spot, side int64) {
		p.wantReply(impl.OK, 3, "").wantEnd(side, at.state+" out=abc closes=false")
		p.do(strings.ReplaceAll("send*:de send*", "*", string(rune('0'+side))))
		p.wantReply(impl.OK, 0, "").wantEnd(side, at.state+" out=abcde")
	})
}

func TestP9SendOfNoByteInEachState(t *testing.T) {
	inAllSpots(t, 1, "send*", func(p *play, at spot, side int64) {
		p.wantReply(impl.OK, 0, "").wantNothingTurned()
	})
}

func TestP9RecvInEachState(t *testing.T) {
	for _, words := range []string{"recv*:0", "recv*:1", "recv*:200"} {
		inAllSpots(t, 2, words, func(p *play, at spot, side int64) {
			p.wantReply(impl.OK, 0, "").wantNothingTurned()
		})
	}
}

func TestP9CloseInEachState(t *testing.T) {
	becomes := map[string]string{
		"listen": "closed closes=false", "synsent": "closed closes=false", "synrcvd": "synrcvd closes=true",
		"open": "finwait1 closes=true", "closewait": "lastack closes=true",
	}
	inAllSpots(t, 3, "close*", func(p *play, at spot, side int64) {
		p.wantReply(impl.OK, 0, "").wantEnd(side, becomes[at.state]+" why=0 waits=0")
	})
}

func TestP9AbortInEachState(t *testing.T) {
	inAllSpots(t, 4, "abort*", func(p *play, at spot, side int64) {
		waits := " waits=1"
		if at.state == "listen" || at.state == "synsent" {
			waits = " waits=0"
		}
		p.wantReply(impl.OK, 0, "").wantEnd(side, "closed why=9"+waits)
	})
}

// All spots again, and what they have to say then, as the next polls show it: a timer that was on is off where the end is closed or cut off.
func TestP9PolledInEachState(t *testing.T) {
	for _, after := range []string{"", "close* ", "abort* ", "send*:abc "} {
		for _, at := range allSpots() {
			inAllPlays(t, "polled at "+at.state+", behind "+after, twoEnds(), func(p *play) {
				side := string(rune('0' + at.side))
				p.do(at.words + strings.ReplaceAll(" "+after+"poll* wait:1000 poll* poll* wait:2000 poll* wait:60000 poll*", "*", side))
				if after == "abort* " {
					p.wantEnd(at.side, "closed tries=0 waits=0")
				}
			})
		}
	}
}

func TestP9AnEndOpensOnce(t *testing.T) {
	rows := []string{"open0 close0 open0", "open0 abort0 open0", "open0 open0", "open0 poll0 close0 wait:2000 poll0 open0", closingBoth + "wait:60000 poll0 open0", closingBoth + "poll0 come:0 open1", "close1 open1", "abort1 open1", "open1"}
	for _, words := range rows {
		inAllPlays(t, "opened again", twoEnds(), func(p *play) {
			p.do(words).wantReply(impl.ErrState, 0, "").wantNothingTurned()
		})
	}
	both := twoEnds()
	both[1].Listens = false
	inAllPlays(t, "none listens", both, func(p *play) {
		p.do("open1").wantReply(impl.OK, 0, "").wantEnd(1, "synsent").wantEnd(0, "closed")
		p.do("open0").wantReply(impl.OK, 0, "").wantEnd(0, "synsent")
		p.do("close1 open1").wantReply(impl.ErrState, 0, "")
	})
	both[0].Listens, both[1].Listens = true, true
	inAllPlays(t, "both listen", both, func(p *play) {
		p.do("open0").wantReply(impl.ErrState, 0, "").do("open1").wantReply(impl.ErrState, 0, "")
		p.do("poll0 poll1").wantFlights().wantEnd(0, "listen").wantEnd(1, "listen")
	})
}

func TestP9SendHasSoMuchRoom(t *testing.T) {
	ends := twoEnds()
	ends[0].SendCap = 5
	inAllPlays(t, "room", ends, func(p *play) {
		p.do(handshake+"send0:abc").wantReply(impl.OK, 3, "")
		p.do("send0:defg").wantReply(impl.OK, 2, "").wantEnd(0, "out=abcde")
		p.do("send0:h").wantReply(impl.OK, 0, "").wantEnd(0, "out=abcde").wantNothingTurned()
		p.do("send0").wantReply(impl.OK, 0, "")
		// That it is sent makes no room, that it is heard does.
		p.do("poll0 send0:h").wantReply(impl.OK, 0, "")
		p.do("come:0 poll1 send0:h").wantReply(impl.OK, 0, "")
		p.do("come:0").wantEnd(0, "acked=6")
		p.do("send0:fghijkl").wantReply(impl.OK, 5, "").wantEnd(0, "out=abcdefghij")
	})
	inAllPlays(t, "room ahead of the handshake", ends, func(p *play) {
		p.do("open0 send0:abcdefg").wantReply(impl.OK, 5, "")
		p.do("poll0 send0:f").wantReply(impl.OK, 0, "")
		// The SYN that is heard is none of the bytes.
		p.do("come:0 poll1 come:0 send0:f").wantReply(impl.OK, 0, "").wantEnd(0, "open acked=1 out=abcde")
	})
	ends[0].SendCap = 1
	inAllPlays(t, "room for one byte", ends, func(p *play) {
		p.do(handshake+"send0:abc").wantReply(impl.OK, 1, "")
		p.do("send0:bc").wantReply(impl.OK, 0, "")
		p.do("poll0 come:0 poll1 come:0 send0:bc").wantReply(impl.OK, 1, "").wantEnd(0, "out=ab")
	})
}

// wideEnds have as much room as there can be.
func wideEnds() [2]impl.EndConfig {
	ends := twoEnds()
	for i := range ends {
		ends[i].SendCap, ends[i].RecvCap, ends[i].Mss = 200, 200, 520
	}
	return ends
}

func TestP9SendUpToAllThatThereMayBe(t *testing.T) {
	hundred := strings.Repeat("0123456789", 10)
	inAllPlays(t, "in all", wideEnds(), func(p *play) {
		p.do(handshake+"send0:"+hundred+" send0:"+hundred).wantReply(impl.OK, 100, "")
		p.do("send0:"+hundred).wantReply(impl.OK, 0, "")
		through := " poll0 come:0 recv1:200 poll1 come:0 "
		p.do(through+"send0:"+hundred).wantReply(impl.OK, 100, "")
		p.do("send0:"+hundred[:99]).wantReply(impl.OK, 99, "")
		p.do(through+"send0:xyz").wantReply(impl.OK, 1, "")
		p.do("send0:yz").wantReply(impl.OK, 0, "")
		p.do(through+"send0:yz").wantReply(impl.OK, 0, "").wantEnd(0, "acked=401 top=401")
		if len(p.end(0).Out) != 400 {
			p.fail("bytes in all", len(p.end(0).Out), 400)
		}
		// The other way is another one.
		p.do("send1:"+hundred).wantReply(impl.OK, 100, "")
		p.do("close0").wantEnd(0, "finwait1").do("poll0 come:0 poll1 come:0").wantEnd(0, "finwait2 acked=402 got=101")
	})
}

func TestP9RecvOfSoMany(t *testing.T) {
	inAllPlays(t, "recv", twoEnds(), func(p *play) {
		p.do(handshake+"send0:abcdefg poll0 come:0").wantEnd(1, "got=8 read=0 free=13")
		p.do("recv1:0").wantReply(impl.OK, 0, "").wantNothingTurned()
		p.do("recv1:2").wantReply(impl.OK, 2, "ab").wantEnd(1, "got=8 read=2 free=15")
		p.do("recv1:1").wantReply(impl.OK, 1, "c").wantEnd(1, "read=3 free=16")
		p.do("recv0:5").wantReply(impl.OK, 0, "")
		p.do("recv1:4").wantReply(impl.OK, 4, "defg").wantEnd(1, "read=7 free=20 got=8")
		p.do("recv1:4").wantReply(impl.OK, 0, "").wantNothingTurned()
		p.do("send0:hij poll0 come:0 recv1:200").wantReply(impl.OK, 3, "hij").wantEnd(1, "read=10 free=20")
	})
}

// What came too early cannot be read.
func TestP9RecvOfWhatIsInOrder(t *testing.T) {
	inAllPlays(t, "recv in order", twoEnds(), func(p *play) {
		p.do(handshake+"send0:abc poll0 send0:def poll0 come:1").wantEnd(1, "got=1 free=20 pieces=3:def")
		p.do("recv1:9").wantReply(impl.OK, 0, "")
		p.do("come:0").wantEnd(1, "got=7 free=14 pieces=")
		p.do("recv1:9").wantReply(impl.OK, 6, "abcdef")
	})
}

func TestP9RecvBehindTheEnd(t *testing.T) {
	inAllPlays(t, "recv behind the end", twoEnds(), func(p *play) {
		p.do(handshake+"send0:abc close0 poll0 come:0 recv1:0").wantReply(impl.OK, 0, "")
		p.do("come:0").wantEnd(1, "closewait got=5 free=17")
		p.do("recv1:0").wantReply(impl.OK, 0, "")
		p.do("recv1:2").wantReply(impl.OK, 2, "ab")
		p.do("recv1:0").wantReply(impl.OK, 0, "")
		p.do("recv1:2").wantReply(impl.OK, 1, "c")
		p.do("recv1:0").wantReply(impl.ErrNone, 0, "").wantNothingTurned()
		p.do("recv1:2").wantReply(impl.ErrNone, 0, "").wantNothingTurned()
		p.do("close1 recv1:2").wantReply(impl.ErrNone, 0, "").wantEnd(1, "lastack read=3")
	})
	// The end that came too early is no end yet.
	inAllPlays(t, "recv ahead of the end", twoEnds(), func(p *play) {
		p.do(handshake+"send0:abc close0 poll0 come:1").wantEnd(1, "open got=1")
		p.do("recv1:2").wantReply(impl.OK, 0, "")
		p.do("come:0").wantEnd(1, "closewait got=5").do("recv1:3").wantReply(impl.OK, 3, "abc").do("recv1:3").wantReply(impl.ErrNone, 0, "")
	})
}

func TestP9RecvBehindAReset(t *testing.T) {
	for _, cut := range []string{"abort1", "abort0 poll0 come:0"} {
		inAllPlays(t, "recv behind a reset", twoEnds(), func(p *play) {
			p.do(handshake+"send0:abc poll0 come:0 "+cut).wantEnd(1, "closed why=9 got=4 free=17")
			p.do("recv1:0").wantReply(impl.OK, 0, "")
			p.do("recv1:2").wantReply(impl.OK, 2, "ab").wantEnd(1, "read=2 free=19")
			p.do("recv1:2").wantReply(impl.OK, 1, "c").wantEnd(1, "read=3 free=20")
			p.do("recv1:0").wantReply(impl.ErrReset, 0, "").wantNothingTurned()
			p.do("recv1:2").wantReply(impl.ErrReset, 0, "").wantNothingTurned()
		})
	}
	// Behind the end that came in order, too, a reset is the code.
	inAllPlays(t, "recv behind the end and a reset", twoEnds(), func(p *play) {
		p.do(handshake+"send0:a close0 poll0 come:0 come:0 abort1").wantEnd(1, "closed why=9 got=3")
		p.do("recv1:5").wantReply(impl.OK, 1, "a").do("recv1:5").wantReply(impl.ErrReset, 0, "")
	})
}

// An answer is wanted where the window was shut and opens, and nowhere else.
func TestP9RecvOpensTheWindow(t *testing.T) {
	ends := twoEnds()
	ends[1].RecvCap = 3
	inAllPlays(t, "recv opens the window", ends, func(p *play) {
		p.do(handshake+"send0:abcdef poll0 come:0 poll1").wantFlights("0:A 1 a4 w0").wantEnd(1, "free=0")
		p.do("come:0").wantEnd(0, "window=0 acked=4 sent=4").do("poll0 poll1").wantFlights()
		p.do("recv1:0 poll1").wantFlights()
		p.do("recv1:1").wantReply(impl.OK, 1, "a").do("poll1").wantFlights("0:A 1 a4 w1")
		// It is open already.
		p.do("recv1:1 poll1").wantFlights("0:A 1 a4 w1").wantEnd(1, "free=2")
		p.do("come:0").wantEnd(0, "window=1").do("poll0").wantFlights("1:PA 4 a1 w20 d")
		p.do("come:0 recv1:200").wantReply(impl.OK, 2, "cd").do("poll1 poll1").wantFlights("0:A 1 a5 w3")
	})
	inAllPlays(t, "recv of a window that was not shut", ends, func(p *play) {
		p.do(handshake + "send0:ab poll0 come:0 poll1").wantFlights("0:A 1 a3 w1")
		p.do("come:0 recv1:2").wantEnd(1, "free=3").do("poll1").wantFlights()
		p.do("send0:cde poll0 come:0 recv1:3").wantReply(impl.OK, 1, "c")
	})
}
