package tests

import (
	"bytes"
	"fmt"
	"strings"
	"testing"

	"loop.example/g00726/impl"
)

// A hostSpot is how an end of a host comes to a state, with nothing left to say. It is in touch with b, which is known.
type hostSpot struct {
	state string
	lines string
	// The socket, and what b tells ahead of a segment to it.
	socket int
	ports  string
	// What it has heard and said: the units that came, those that are Acked, and those that were ever Sent.
	got, acked, top int64
}

const bCalls = "b tells me; b>me tcp 9>80 S 0 w20 m10; poll; b>me tcp 9>80 A 1 a1 w20; "
const meCalls = "b tells me; open 0; poll; b>me tcp 80>5000 SA 0 a1 w20 m10; poll; "

// linkedSpots are in the eight states in which a SYN of the other one came.
func linkedSpots() []hostSpot {
	to5000, to80 := "b>me tcp 80>5000 ", "b>me tcp 9>80 "
	return []hostSpot{
		{"synrcvd", "b tells me; b>me tcp 9>80 S 0 w20 m10; poll; ", 1, to80, 1, 0, 1},
		{"synrcvd", "b tells me; open 0; poll; b>me tcp 80>5000 S 0 w20 m10; poll; ", 0, to5000, 1, 0, 1},
		{"open", meCalls, 0, to5000, 1, 1, 1},
		{"open", bCalls, 1, to80, 1, 1, 1},
		{"open", meCalls + "send 0 :abc; poll; b>me tcp 80>5000 PA 1 a4 w20 :xy; recv 0 2; poll; ", 0, to5000, 3, 4, 4},
		{"finwait1", meCalls + "close 0; poll; ", 0, to5000, 1, 1, 2},
		{"finwait1", bCalls + "send 1 :abc; close 1; poll; b>me tcp 9>80 A 1 a4 w20; ", 1, to80, 1, 4, 5},
		{"finwait2", meCalls + "close 0; poll; b>me tcp 80>5000 A 1 a2 w20; ", 0, to5000, 1, 2, 2},
		{"closewait", meCalls + "b>me tcp 80>5000 FA 1 a1 w20; poll; ", 0, to5000, 2, 1, 1},
		{"closing", meCalls + "close 0; poll; b>me tcp 80>5000 FA 1 a1 w20; poll; ", 0, to5000, 2, 1, 2},
		{"lastack", meCalls + "b>me tcp 80>5000 FA 1 a1 w20; close 0; poll; ", 0, to5000, 2, 1, 2},
		{"timewait", meCalls + "close 0; poll; b>me tcp 80>5000 A 1 a2 w20; b>me tcp 80>5000 FA 1 a2 w20; poll; ", 0, to5000, 2, 2, 2},
	}
}

// act does what is told behind one another, with a semicolon between.
func (p *hostPlay) act(lines string) *hostPlay {
	p.t.Helper()
	for _, line := range strings.Split(lines, ";") {
		if line = strings.TrimSpace(line); line != "" {
			p.do(line)
		}
	}
	return p
}

// hear lets b say this to the end of the spot. Of a number, as in {got-1}, the units of the spot are put in its place.
func (p *hostPlay) hear(at hostSpot, words string) *hostPlay {
	p.t.Helper()
	return p.do(at.ports + at.with(words))
}

func (at hostSpot) with(words string) string {
	for name, base := range map[string]int64{"got": at.got, "acked": at.acked, "top": at.top} {
		for _, off := range []int64{-300, -20, -3, -2, -1, 0, 1, 2, 3, 17, 18, 19, 20, 21, 300} {
			words = strings.ReplaceAll(words, fmt.Sprintf("{%s%+d}", name, off), fmt.Sprint(base+off))
		}
		words = strings.ReplaceAll(words, "{"+name+"}", fmt.Sprint(base))
	}
	return words
}

// said tells a frame that goes to b from the end of the spot.
func (at hostSpot) said(words string) string {
	ports := "5000>80 "
	if at.socket == 1 {
		ports = "80>9 "
	}
	return "b: me>b tcp " + ports + at.with(words)
}

func inLinkedSpots(t *testing.T, words string, check func(*hostPlay, hostSpot)) {
	t.Helper()
	for i, at := range linkedSpots() {
		inHostPlays(t, fmt.Sprintf("%s at spot %d, %s", words, i, at.state), aHost(), func(p *hostPlay) {
			p.act(at.lines).wantEnd(at.socket, at.with(at.state+" got={got} acked={acked} top={top} free=20 waits=0"))
			p.do("poll").wantFrames().hear(at, words).wantReply(impl.OK, 0, "").wantFrames().wantHost("drops=0")
			check(p, at)
		})
	}
}

func wantLeftAlone(t *testing.T, list ...string) {
	t.Helper()
	for _, words := range list {
		inLinkedSpots(t, words, func(p *hostPlay, at hostSpot) {
			p.wantNothingTurned().do("poll").wantFrames()
		})
	}
}

// wantAnswered asks for an answer that tells what came so far, and nothing else.
func wantAnswered(t *testing.T, list ...string) {
	t.Helper()
	for _, words := range list {
		inLinkedSpots(t, words, func(p *hostPlay, at hostSpot) {
			p.wantNothingTurned().do("poll").wantFrames(at.said("A {top} a{got} w20")).wantEnd(at.socket, at.with(at.state+" got={got} acked={acked} top={top}"))
			p.do("poll").wantFrames()
		})
	}
}

func TestP10AResetInTheWindow(t *testing.T) {
	for _, words := range []string{"R {got}", "RA {got} a{top}", "RA {got} a{top+1}", "RS {got}", "RF {got}", "RPA {got} a{acked} :abc", "RSFPA {got} a{top}"} {
		inLinkedSpots(t, words, func(p *hostPlay, at hostSpot) {
			p.wantEnd(at.socket, at.with("closed why=9 got={got} acked={acked} top={top} waits=0"))
			p.do("poll").wantFrames().do("wait 60000", "poll").wantFrames().wantEnd(at.socket, "closed why=9 tries=0")
			p.do(fmt.Sprintf("recv %d 5", at.socket)).wantReply(impl.ErrReset, 0, "").do(fmt.Sprintf("send %d :a", at.socket)).wantReply(impl.ErrReset, 0, "")
		})
	}
	wantAnswered(t, "R {got+1}", "R {got+19}", "RA {got+1} a{top}", "RP {got-1} :ab", "RF {got+19}", "RS {got+3}", "RSA {got+1} a{top}")
	wantLeftAlone(t, "R {got-1}", "R {got+20}", "R {got-300}", "R {got+300}", "RA {got-1} a{top}", "RS {got-1}", "RS {got+20}", "RFA {got+20} a{top}", "RP {got-3} :abc")
}

func TestP10ASynInTheWindow(t *testing.T) {
	wantAnswered(t, "S {got}", "S {got+1}", "S {got+19}", "SA {got} a{top}", "SA {got} a{top+1}", "SA {got} a{acked}", "SPA {got} a{top} :abc", "SFA {got} a{top}", "SF {got}", "S {got} w9 m5", "SA {got-1} a{top} :a")
	// Outside of it the answer is the same.
	wantAnswered(t, "S {got-1}", "S {got+20}", "SA {got-1} a{top}", "SA {got+20} a{top}", "SFA {got-2} a{top}")
}

func TestP10ASegmentWithoutAck(t *testing.T) {
	wantLeftAlone(t, "- {got}", "P {got} :abc", "F {got}", "PF {got} :abc", "- {got+19}", "F {got+19}", "P {got-2} :abc", "P {got+2} :abc", "- {got} w7", "P {got+19} w300 :abc")
	wantAnswered(t, "- {got-1}", "- {got+20}", "P {got+20} :abc", "F {got-1}", "P {got-3} :abc", "PF {got-3} :ab")
}

func TestP10ASegmentOutsideOfTheWindow(t *testing.T) {
	wantAnswered(t, "A {got-1} a{top}", "A {got+20} a{top}", "A {got-300} a{top}", "A {got+300} a{top}", "PA {got-1} a{top} :a", "PA {got-3} a{top} :abc", "PA {got+20} a{top} :a", "FA {got-1} a{top}", "FA {got+20} a{top}", "FPA {got-3} a{top} :ab")
	wantAnswered(t, "A {got+20} a{top+1}", "PA {got+20} a{acked-1} :a", "A {got-1} a{top} w300")
	// What begins ahead of the window and ends behind it is in it with neither its first nor its last unit.
	wantAnswered(t, "PA {got-1} a{top} :0123456789abcdefghijkl", "FPA {got-1} a{top} :0123456789abcdefghijk", "FPA {got-300} a{top} :"+strings.Repeat("x", 330))
}

// A number of units that were never sent is no answer, but in StateSynRcvd, which refuses it.
func TestP10AnAnswerToWhatWasNotSent(t *testing.T) {
	for _, words := range []string{"A {got} a{top+1}", "A {got} a{top+300}", "A {got+19} a{top+1}", "PA {got} a{top+1} :abc", "FA {got} a{top+1}", "FPA {got} a{top+2} :abc", "A {got} a{top+1} w300"} {
		inLinkedSpots(t, words, func(p *hostPlay, at hostSpot) {
			if at.state == "synrcvd" {
				p.wantEnd(at.socket, at.with("synrcvd waits=1 got=1 acked=0 window=20"))
				p.do("poll").wantFrames(at.said("R " + strings.TrimPrefix(strings.Fields(at.with(words))[2], "a")))
				return
			}
			p.wantNothingTurned().do("poll").wantFrames(at.said("A {top} a{got} w20")).wantEnd(at.socket, at.with(at.state+" got={got} acked={acked}"))
		})
	}
}

func TestP10AnOldAnswer(t *testing.T) {
	for _, words := range []string{"A {got} a{acked-1}", "A {got} a{acked-1} w300", "A {got} a{acked-300}", "A {got+19} a{acked-1}"} {
		inLinkedSpots(t, words, func(p *hostPlay, at hostSpot) {
			if at.state == "synrcvd" {
				p.wantEnd(at.socket, "synrcvd waits=1").do("poll").wantFrames(at.said("R " + strings.TrimPrefix(strings.Fields(at.with(words))[2], "a")))
				return
			}
			p.wantNothingTurned().do("poll").wantFrames()
		})
	}
}

// What an answer to all that was sent leads to.
func TestP10AnAnswerInEachState(t *testing.T) {
	then := map[string]string{"synrcvd": "open", "open": "open", "finwait1": "finwait2", "finwait2": "finwait2", "closewait": "closewait", "closing": "timewait", "lastack": "closed", "timewait": "timewait"}
	for _, words := range []string{"A {got} a{top} w13", "A {got+19} a{top} w13"} {
		inLinkedSpots(t, words, func(p *hostPlay, at hostSpot) {
			p.wantEnd(at.socket, at.with(then[at.state]+" got={got} acked={top} sent={top} top={top} window=13 tries=0 waits=0 why=0"))
			p.do("poll").wantFrames().do("wait 16000", "poll").wantFrames()
		})
	}
}

func TestP10BytesInEachState(t *testing.T) {
	then := map[string]string{"synrcvd": "open", "open": "open", "finwait1": "finwait2", "finwait2": "finwait2"}
	inLinkedSpots(t, "PA {got} a{top} w13 :xyz", func(p *hostPlay, at hostSpot) {
		state, isTaken := then[at.state]
		if !isTaken {
			// The other one ended: what comes of it then fits, and nothing is taken.
			p.wantEnd(at.socket, at.with("got={got} acked={top} free=20 waits=0")).do("poll").wantFrames()
			return
		}
		p.wantEnd(at.socket, at.with(state+" got={got+3} acked={top} free=17")).do("poll").wantFrames(at.said("A {top} a{got+3} w17"))
		p.do(fmt.Sprintf("recv %d 9", at.socket)).wantReply(impl.OK, 3, "xyz")
	})
	// Of what begins ahead of the window, and of what goes beyond it, only what is in it.
	inLinkedSpots(t, "PA {got-1} a{top} w13 :*0123456789abcdefghij", func(p *hostPlay, at hostSpot) {
		if _, isTaken := then[at.state]; isTaken {
			p.do(fmt.Sprintf("recv %d 200", at.socket)).wantReply(impl.OK, 20, "0123456789abcdefghij")
		}
	})
	inLinkedSpots(t, "PA {got+18} a{top} w13 :xyz", func(p *hostPlay, at hostSpot) {
		if _, isTaken := then[at.state]; isTaken {
			p.wantEnd(at.socket, at.with("got={got} pieces=18:xy free=20")).do("poll").wantFrames(at.said("A {top} a{got} w20"))
		}
	})
	inLinkedSpots(t, "PA {got} a{acked-1} :xyz", func(p *hostPlay, at hostSpot) {
		// An answer to less than what is known already takes nothing away from the bytes.
		if _, isTaken := then[at.state]; isTaken && at.state != "synrcvd" {
			p.wantEnd(at.socket, at.with(at.state+" got={got+3} acked={acked}"))
		}
	})
}

func TestP10BytesAndTheEndInOneSegment(t *testing.T) {
	then := map[string]string{"synrcvd": "closewait", "open": "closewait", "finwait1": "timewait", "finwait2": "timewait"}
	inLinkedSpots(t, "FPA {got} a{top} w13 :xy", func(p *hostPlay, at hostSpot) {
		state, isTaken := then[at.state]
		if !isTaken {
			p.wantEnd(at.socket, at.with("got={got} acked={top} free=20")).do("poll").wantFrames()
			return
		}
		p.wantEnd(at.socket, at.with(state+" got={got+3} acked={top} free=18")).do("poll").wantFrames(at.said("A {top} a{got+3} w18"))
		p.do(fmt.Sprintf("recv %d 9", at.socket)).wantReply(impl.OK, 2, "xy").do(fmt.Sprintf("recv %d 9", at.socket)).wantReply(impl.ErrNone, 0, "")
	})
	// Without an answer to its own FIN, who closed is not done.
	inLinkedSpots(t, "FPA {got} a{acked} w13 :xy", func(p *hostPlay, at hostSpot) {
		if at.state == "finwait1" {
			p.wantEnd(at.socket, at.with("closing got={got+3} acked={acked}"))
		}
	})
	for _, row := range []struct {
		words, want string
	}{
		{"FPA {got} a{top} :0123456789abcdefghi", "got={got+20} free=1"},
		// The FIN itself has no room: it is not known.
		{"FPA {got} a{top} :0123456789abcdefghij", "got={got+20} free=0"},
		{"FPA {got+17} a{top} :xy", "got={got} free=20 pieces=17:xy"},
	} {
		inLinkedSpots(t, row.words, func(p *hostPlay, at hostSpot) {
			if _, isTaken := then[at.state]; isTaken {
				p.wantEnd(at.socket, at.with(row.want))
			}
		})
	}
}

func TestP10TheEndAheadOfTheBytes(t *testing.T) {
	inHostPlays(t, "the rest comes later", aHost(), func(p *hostPlay) {
		p.act(meCalls).do("b>me tcp 80>5000 FPA 3 a1 w20 :cd").wantEnd(0, "open got=1 pieces=2:cd free=20").do("poll").wantFrames("b: me>b tcp 5000>80 A 1 a1 w20")
		p.do("b>me tcp 80>5000 PA 1 a1 w20 :ab").wantEnd(0, "closewait got=6 pieces= free=16").do("recv 0 9").wantReply(impl.OK, 4, "abcd").do("recv 0 9").wantReply(impl.ErrNone, 0, "")
	})
	inHostPlays(t, "the last bytes had no room", aHost(), func(p *hostPlay) {
		p.act(meCalls).do("b>me tcp 80>5000 FPA 1 a1 w20 :0123456789abcdefghij").wantEnd(0, "open got=21 free=0").do("recv 0 9", "poll").wantFrames("b: me>b tcp 5000>80 A 1 a21 w9")
		p.do("b>me tcp 80>5000 FA 21 a1 w20").wantEnd(0, "closewait got=22 free=9")
	})
}

// A closed end refuses all but resets, and what it refuses waits for the next poll.
func TestP10AClosedEndHears(t *testing.T) {
	spots := []string{"b tells me; ", meCalls + "b>me tcp 80>5000 R 1; ", meCalls + "b>me tcp 80>5000 FA 1 a1 w20; close 0; poll; b>me tcp 80>5000 A 2 a2; ", "b tells me; open 0; close 0; "}
	for _, lines := range spots {
		for _, row := range [][2]string{
			{"S 5", "RA =0 a6"}, {"SF 5 w9 m9 :abc", "RA =0 a10"}, {"- 5", "RA =0 a5"}, {"P 5 :abc", "RA =0 a8"}, {"F 5", "RA =0 a6"},
			{"A 5 a7", "R 7"}, {"SA 5 a7", "R 7"}, {"FPA 5 a-9 :abc", "R -9"}, {"A 5 a0", "R 0"},
		} {
			inHostPlays(t, row[0]+" to who is closed behind "+lines, aHost(), func(p *hostPlay) {
				p.act(lines).wantEnd(0, "closed").do("poll").do("b>me tcp 80>5000 "+row[0]).wantFrames().wantEnd(0, "closed waits=1")
				p.do("b>me tcp 80>5000 "+row[0], "wait 5000").wantEnd(0, "closed waits=2")
				p.do("poll").wantFrames("b: me>b tcp 5000>80 "+row[1], "b: me>b tcp 5000>80 "+row[1]).wantEnd(0, "closed waits=0").do("poll").wantFrames()
			})
		}
		inHostPlays(t, "a reset to who is closed behind "+lines, aHost(), func(p *hostPlay) {
			p.act(lines)
			for _, words := range []string{"R 5", "RA 5 a7", "RS 5", "R 1", "RA 1 a1", "RSFPA 5 a7"} {
				p.do("b>me tcp 80>5000 "+words).wantReply(impl.OK, 0, "").wantNothingTurned()
			}
		})
	}
}

func TestP10WhoCallsHears(t *testing.T) {
	said, unsaid := "b tells me; open 0; poll; ", "b tells me; open 0; "
	for _, row := range []struct{ lines, words, want, frame string }{
		{said, "SA 0 a1 w7", "open got=1 acked=1 sent=1 window=7 tries=0", "A 1 a1 w20"},
		{said, "SA 0 a2 w7", "synsent got=0 waits=1 window=0", "R 2"},
		{said, "SA 0 a0 w7", "synsent got=0 waits=1", "R 0"},
		{said, "SA 0 a-1 w7", "synsent got=0 waits=1", "R -1"},
		{said, "A 0 a2 w7", "synsent got=0 waits=1", "R 2"},
		{said, "FPA 7 a300 :abc", "synsent got=0 waits=1", "R 300"},
		{said, "A 0 a1 w7", "synsent got=0 acked=0 waits=0 window=0", ""},
		{said, "PA 5 a1 :abc", "synsent got=0 acked=0 waits=0", ""},
		{said, "FA 5 a1", "synsent got=0 acked=0 waits=0", ""},
		{said, "RA 0 a1", "closed why=9 waits=0", ""},
		{said, "RA 77 a1", "closed why=9 waits=0", ""},
		{said, "RSA 0 a1", "closed why=9 waits=0 got=0", ""},
		{said, "RA 0 a2", "synsent why=0 waits=0", ""},
		{said, "RA 0 a0", "synsent why=0 waits=0", ""},
		{said, "RSA 0 a2", "synsent why=0 waits=0", ""},
		{said, "R 0", "synsent why=0 waits=0", ""},
		{said, "R 1", "synsent why=0 waits=0", ""},
		{said, "RS 0", "synsent why=0 waits=0 got=0", ""},
		{said, "- 0", "synsent waits=0 got=0", ""},
		{said, "P 1 :abc", "synsent waits=0 got=0", ""},
		{said, "F 0", "synsent waits=0 got=0", ""},
		{said, "S 0 w7", "synrcvd got=1 sent=0 top=1 acked=0 window=7", "SA 0 a1 w20 m10"},
		{said, "SA 0 a1 w7 :abc", "open got=1 free=20", "A 1 a1 w20"},
		{said, "SFA 0 a1 w7", "open got=1 free=20", "A 1 a1 w20"},
		{said, "SF 0 w7 :abc", "synrcvd got=1 free=20", "SA 0 a1 w20 m10"},
		{unsaid, "SA 0 a1 w7", "synsent got=0 top=0 waits=1", "R 1|S 0 w20 m10"},
		{unsaid, "A 0 a0", "synsent got=0 waits=1", "R 0|S 0 w20 m10"},
		{unsaid, "RA 0 a1", "synsent why=0 waits=0", "S 0 w20 m10"},
		{unsaid, "RA 0 a0", "synsent why=0 waits=0", "S 0 w20 m10"},
		{unsaid, "R 0", "synsent why=0 waits=0", "S 0 w20 m10"},
		{unsaid, "S 0 w7", "synrcvd got=1 sent=0 top=0 window=7", "SA 0 a1 w20 m10"},
		{unsaid, "- 0", "synsent got=0 waits=0", "S 0 w20 m10"},
	} {
		inHostPlays(t, row.words+" behind "+row.lines, aHost(), func(p *hostPlay) {
			p.act(row.lines).do("b>me tcp 80>5000 "+row.words).wantFrames().wantEnd(0, row.want).wantHost("drops=0")
			want := []string{}
			for _, words := range strings.Split(row.frame, "|") {
				if words != "" {
					want = append(want, "b: me>b tcp 5000>80 "+words)
				}
			}
			p.do("poll").wantFrames(want...).wantEnd(0, "waits=0")
		})
	}
}

func TestP10WhoWasCalledHears(t *testing.T) {
	said, unsaid := "b tells me; b>me tcp 9>80 S 0 w7; poll; ", "b tells me; b>me tcp 9>80 S 0 w7; "
	for _, row := range []struct{ lines, words, want, frame string }{
		{said, "A 1 a1 w9", "open acked=1 sent=1 window=9 waits=0", ""},
		{said, "A 1 a0", "synrcvd acked=0 waits=1", "R 0"},
		{said, "A 1 a2", "synrcvd acked=0 waits=1", "R 2"},
		{said, "A 1 a-1", "synrcvd acked=0 waits=1", "R -1"},
		{said, "PA 1 a2 :abc", "synrcvd got=1 waits=1", "R 2"},
		{said, "FA 1 a0", "synrcvd got=1 waits=1", "R 0"},
		{said, "A 5 a1 w9", "open acked=1 window=9", ""},
		{said, "PA 1 a1 w9 :abc", "open acked=1 got=4 free=17", "A 1 a4 w17"},
		{said, "FPA 1 a1 w9 :abc", "closewait acked=1 got=5 free=17", "A 1 a5 w17"},
		{said, "FA 1 a1 w9", "closewait got=2", "A 1 a2 w20"},
		{said, "PA 3 a1 w9 :cd", "open got=1 pieces=2:cd", "A 1 a1 w20"},
		{said, "- 1", "synrcvd", ""},
		{said, "S 0 w7", "synrcvd got=1 sent=1", "A 1 a1 w20"},
		{unsaid, "A 1 a1", "synrcvd top=0 waits=1", "R 1|SA 0 a1 w20 m10"},
		{unsaid, "A 1 a0", "synrcvd top=0 waits=1", "R 0|SA 0 a1 w20 m10"},
		{unsaid, "PA 1 a1 :abc", "synrcvd got=1 waits=1", "R 1|SA 0 a1 w20 m10"},
		{unsaid, "S 0 w7", "synrcvd got=1 waits=0", "SA 0 a1 w20 m10"},
		{unsaid, "R 1", "closed why=9 waits=0", ""},
		{unsaid, "R 2", "synrcvd waits=0", "SA 0 a1 w20 m10"},
		{unsaid + "close 1; ", "A 1 a1", "synrcvd closes=true waits=1", "R 1|SA 0 a1 w20 m10"},
		{said + "close 1; ", "A 1 a1 w9", "finwait1 acked=1", "FA 1 a1 w20"},
		{said + "close 1; ", "FPA 1 a1 w9 :ab", "closing acked=1 got=4", "FA 1 a4 w18"},
		{said + "send 1 :abc; close 1; ", "A 1 a1 w9", "finwait1 acked=1", "PA 1 a1 w20 :abc|FA 4 a1 w20"},
		{said + "close 1; ", "A 1 a2", "synrcvd waits=1", "R 2"},
	} {
		inHostPlays(t, row.words+" behind "+row.lines, aHost(), func(p *hostPlay) {
			p.act(row.lines).wantEnd(1, "synrcvd").do("b>me tcp 9>80 "+row.words).wantFrames().wantEnd(1, row.want).wantHost("drops=0")
			want := []string{}
			for _, words := range strings.Split(row.frame, "|") {
				if words != "" {
					want = append(want, "b: me>b tcp 80>9 "+words)
				}
			}
			p.do("poll").wantFrames(want...).wantEnd(1, "waits=0")
		})
	}
}

// A SYN may tell that there is no window: a timer that is over then makes a probe due, which is used when the call is open.
func TestP10ATimerIsOverWhereTheSynToldNoWindow(t *testing.T) {
	called := "b tells me; b>me tcp 9>80 S 0 w0; poll; "
	inHostPlays(t, "the timer is over", aHost(), func(p *hostPlay) {
		p.act(called).wantEnd(1, "synrcvd window=0 sent=1 tries=0").do("wait 999", "poll").wantFrames().do("wait 1", "poll").wantFrames("b: me>b tcp 80>9 SA 0 a1 w20 m10")
		p.wantEnd(1, "synrcvd tries=1 acked=0").do("b>me tcp 9>80 A 1 a1 w0").wantEnd(1, "open window=0 tries=0").do("send 1 :abc", "poll").wantFrames("b: me>b tcp 80>9 PA 1 a1 w20 :a")
		p.do("poll").wantFrames().wantEnd(1, "sent=2").do("wait 999", "poll").wantFrames().do("wait 1", "poll").wantFrames("b: me>b tcp 80>9 PA 1 a1 w20 :a").wantEnd(1, "tries=0")
	})
	inHostPlays(t, "the timer is over, and a window is told later", aHost(), func(p *hostPlay) {
		p.act(called).do("wait 1000", "poll", "b>me tcp 9>80 A 1 a1 w2", "send 1 :abcdef", "poll").wantFrames("b: me>b tcp 80>9 SA 0 a1 w20 m10", "b: me>b tcp 80>9 PA 1 a1 w20 :ab", "b: me>b tcp 80>9 PA 3 a1 w20 :c")
		p.do("poll").wantFrames().wantEnd(1, "sent=4 top=4")
	})
	inHostPlays(t, "the timer is not over", aHost(), func(p *hostPlay) {
		p.act(called).do("wait 999", "poll", "b>me tcp 9>80 A 1 a1 w0", "send 1 :abc", "poll").wantFrames().wantEnd(1, "open window=0 sent=1")
		p.do("wait 999", "poll").wantFrames().do("wait 1", "poll").wantFrames("b: me>b tcp 80>9 PA 1 a1 w20 :a").wantEnd(1, "sent=2 tries=0")
	})
	inHostPlays(t, "a window was told", aHost(), func(p *hostPlay) {
		p.act("b tells me; b>me tcp 9>80 S 0 w1; poll; ").do("wait 1000", "poll").wantEnd(1, "synrcvd tries=1").do("b>me tcp 9>80 A 1 a1 w0", "send 1 :abc", "poll").wantFrames().wantEnd(1, "open window=0 sent=1")
	})
	// Who was never heard is given up, though it tells no window.
	inHostPlays(t, "again and again", aHost(), func(p *hostPlay) {
		p.act(called)
		for try := 1; try <= 8; try++ {
			p.do("wait 16000", "poll").wantFrames("b: me>b tcp 80>9 SA 0 a1 w20 m10").wantEnd(1, fmt.Sprintf("synrcvd tries=%d", try))
			p.do("b tells me")
		}
		p.do("wait 16000", "poll").wantFrames("b: me>b tcp 80>9 R 1").wantEnd(1, "closed why=9 tries=9")
	})
}

// Without an Mss in the SYN, the own one is less than what is taken for it.
func TestP10ASynWithoutAnMss(t *testing.T) {
	text := strings.Repeat("0123456789", 15)
	for _, row := range []struct {
		mss  int64
		told string
		want int
	}{{200, "", 150}, {100, "", 100}, {520, "", 150}, {520, " m65535", 150}, {520, " m30", 30}, {30, " m520", 30}, {1, "", 1}, {200, " m1", 1}, {30, " m29", 29}, {30, " m31", 30}} {
		inHostPlays(t, fmt.Sprintf("Mss of %d, who calls tells%s", row.mss, row.told), withEnds(150, 20, row.mss), func(p *hostPlay) {
			p.do("b tells me", "b>me tcp 9>80 S 0 w300"+row.told, "poll", "b>me tcp 9>80 A 1 a1 w300", "send 1 :"+text[:100], "send 1 :"+text[100:])
			p.wantFirstFrame("b: me>b tcp 80>9 PA 1 a1 w20 :" + text[:row.want])
		})
		inHostPlays(t, fmt.Sprintf("Mss of %d, who is called tells%s", row.mss, row.told), withEnds(150, 20, row.mss), func(p *hostPlay) {
			p.do("b tells me", "open 0", "poll", "b>me tcp 80>5000 SA 0 a1 w300"+row.told, "send 0 :"+text[:100], "send 0 :"+text[100:])
			p.wantFirstFrame("b: me>b tcp 5000>80 PA 1 a1 w20 :" + text[:row.want])
		})
	}
}

// wantFirstFrame polls, and is of the first frame that goes then.
func (p *hostPlay) wantFirstFrame(line string) {
	p.t.Helper()
	p.do("poll")
	said := p.host.Frames[len(p.ahead.Frames):]
	if want := p.frame(line); len(said) == 0 || !bytes.Equal(said[0], want) {
		p.fail("the first frame", nameFrames(said), nameFrame(want))
	}
}

func TestP10WindowsThatTwoEndsNeverTell(t *testing.T) {
	inHostPlays(t, "one that is as high as it may be", withEnds(200, 20, 100), func(p *hostPlay) {
		p.do("b tells me", "b>me tcp 9>80 S 0 w65535", "poll", "b>me tcp 9>80 A 1 a1 w65535").wantEnd(1, "open window=65535")
		text := strings.Repeat("0123456789", 10)
		p.do("send 1 :"+text, "send 1 :"+text, "poll").wantFrames("b: me>b tcp 80>9 PA 1 a1 w20 :"+text, "b: me>b tcp 80>9 PA 101 a1 w20 :"+text)
	})
	inHostPlays(t, "one that moves back", aHost(), func(p *hostPlay) {
		p.act(bCalls).do("send 1 :abcdefghijklmnop", "poll").wantEnd(1, "sent=17").do("b>me tcp 9>80 A 1 a3 w1").wantEnd(1, "acked=3 window=1 sent=17")
		p.do("poll").wantFrames().do("wait 1000", "poll").wantFrames("b: me>b tcp 80>9 PA 3 a1 w20 :c").wantEnd(1, "sent=4 tries=1")
	})
	inHostPlays(t, "of units that come out of order", aHost(), func(p *hostPlay) {
		p.act(bCalls).do("b>me tcp 9>80 PA 3 a1 w33 :cd").wantEnd(1, "window=33 pieces=2:cd").do("b>me tcp 9>80 PA 1 a1 w44 :ab").wantEnd(1, "window=33 got=5")
		p.do("b>me tcp 9>80 A 5 a1 w55").wantEnd(1, "window=55").do("b>me tcp 9>80 A 5 a1 w66").wantEnd(1, "window=66").do("b>me tcp 9>80 A 20 a1 w77").wantEnd(1, "window=77")
		p.do("b>me tcp 9>80 A 5 a1 w88").wantEnd(1, "window=77")
	})
}

// In StateTimeWait what does not fit is answered, and quiet begins anew; what fits is left alone.
func TestP10TheQuietTime(t *testing.T) {
	at := linkedSpots()[11]
	for _, row := range []struct {
		words string
		isNew bool
	}{{"FA 1 a2 w20", true}, {"A 1 a2", true}, {"- 1", true}, {"S 1", true}, {"PA 22 a2 :a", true}, {"A 2 a2", false}, {"S 2", false}, {"R 1", false}, {"R 3", false}, {"PA 2 a2 :abc", false}, {"FA 2 a2", false}, {"A 2 a3", false}} {
		inHostPlays(t, row.words+" in quiet", aHost(), func(p *hostPlay) {
			p.act(at.lines).do("wait 30000").hear(at, row.words).wantEnd(0, "timewait").do("wait 29999", "poll").wantEnd(0, "timewait").do("wait 1", "poll")
			if !row.isNew {
				p.wantEnd(0, "closed why=0")
				return
			}
			p.wantEnd(0, "timewait").do("wait 29999", "poll").wantEnd(0, "timewait").do("wait 1", "poll").wantEnd(0, "closed why=0")
		})
	}
}

// With nothing free no byte fits, and what has no size fits at its own place alone.
func TestP10NothingIsFree(t *testing.T) {
	full := meCalls + "b>me tcp 80>5000 PA 1 a1 w20 :0123456789abcdefghij; poll; "
	for _, row := range [][2]string{
		{"A 21 a1 w7", ""}, {"A 22 a1 w7", "A 1 a21 w0"}, {"A 20 a1 w7", "A 1 a21 w0"}, {"PA 21 a1 :x", "A 1 a21 w0"}, {"PA 20 a1 :xy", "A 1 a21 w0"}, {"FA 21 a1", "A 1 a21 w0"}, {"S 21", "A 1 a21 w0"}, {"R 22", ""}, {"RF 21", ""},
	} {
		inHostPlays(t, row[0]+" where nothing is free", aHost(), func(p *hostPlay) {
			p.act(full).wantEnd(0, "open got=21 free=0").do("b>me tcp 80>5000 "+row[0]).wantEnd(0, "open got=21 free=0 waits=0").do("poll")
			if row[1] == "" {
				p.wantFrames()
				return
			}
			p.wantFrames("b: me>b tcp 5000>80 " + row[1])
		})
	}
	inHostPlays(t, "a reset where nothing is free", aHost(), func(p *hostPlay) {
		p.act(full).do("b>me tcp 80>5000 R 21").wantEnd(0, "closed why=9").do("recv 0 200").wantReply(impl.OK, 20, "0123456789abcdefghij").do("recv 0 1").wantReply(impl.ErrReset, 0, "")
	})
	inHostPlays(t, "it is asked when the other one may go on", aHost(), func(p *hostPlay) {
		p.act(full).do("recv 0 0").wantReply(impl.OK, 0, "").do("poll").wantFrames().do("recv 0 1", "poll").wantFrames("b: me>b tcp 5000>80 A 1 a21 w1").do("recv 0 1", "poll").wantFrames()
	})
}
