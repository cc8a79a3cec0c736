package tests

import (
	"bytes"
	"sort"

	"loop.example/g00726/impl"
)

// A modelEnd is an end told again from the chapter, sentence by sentence: bytes lie at their units, and numbers of 32 bits go round by themselves.
type modelEnd struct {
	config, other                                          impl.EndConfig
	state, acked, sent, top, got, read                     int64
	window, windowUnit, windowAcked, tries, why            int64
	finUnit, part, wait, timer, quietEnd                   int64
	out, in                                                []byte
	early                                                  map[int64]byte
	irs                                                    uint32
	closes, wasElse, isFinKnown, hasFin, isTimer, isWanted bool
	isProbe                                                bool
	waits                                                  []impl.Segment
}

type modelPair struct {
	now     int64
	ends    [2]*modelEnd
	flights []impl.Flight
	replies []impl.Reply
}

func newModelEnd(config impl.EndConfig, other impl.EndConfig) *modelEnd {
	m := &modelEnd{config: config, other: other, wait: 1000, early: map[int64]byte{}}
	if config.Listens {
		m.state, m.wasElse = impl.StateListen, true
	}
	return m
}

func (m *modelEnd) free() int64 {
	return m.config.RecvCap - (int64(len(m.in)) - m.read)
}

func (m *modelEnd) number(unit int64) uint32 {
	return uint32(m.config.First) + uint32(unit)
}

func (m *modelEnd) wanted() uint32 {
	return m.irs + uint32(m.got)
}

func (m *modelEnd) all() int64 {
	if m.closes {
		return int64(len(m.out)) + 2
	}
	return int64(len(m.out)) + 1
}

func (m *modelEnd) isOneOf(states ...int64) bool {
	for _, state := range states {
		if m.state == state {
			return true
		}
	}
	return false
}

func (m *modelEnd) isOneOfFive() bool {
	return m.isOneOf(impl.StateOpen, impl.StateCloseWait, impl.StateFinWait1, impl.StateClosing, impl.StateLastAck)
}

func (m *modelEnd) cut() {
	m.state, m.why, m.isTimer, m.isWanted = impl.StateClosed, impl.ErrReset, false, false
}

func (m *modelEnd) segment(unit int64, flags int64, data []byte) impl.Segment {
	s := impl.Segment{FromPort: m.config.Port, ToPort: m.other.Port, Seq: int64(m.number(unit)), Flags: flags, Data: data}
	if !hasFlag(flags, impl.FlagRst) {
		s.Window = m.free()
	}
	if hasFlag(flags, impl.FlagAck) {
		s.Ack = int64(m.wanted())
	}
	return s
}

func (m *modelEnd) ask(e impl.Event) impl.Reply {
	switch e.Kind {
	case impl.EvOpen:
		if m.state != impl.StateClosed || m.wasElse {
			return impl.Reply{Code: impl.ErrState}
		}
		m.state, m.wasElse = impl.StateSynSent, true
	case impl.EvSend:
		return m.askSend(e.Data)
	case impl.EvRecv:
		return m.askRecv(e.N)
	case impl.EvClose:
		return impl.Reply{Code: m.askClose()}
	case impl.EvAbort:
		if m.state == impl.StateClosed {
			return impl.Reply{Code: impl.ErrState}
		}
		if !m.isOneOf(impl.StateListen, impl.StateSynSent) {
			m.waits = append(m.waits, m.segment(m.top, impl.FlagRst, nil))
		}
		m.cut()
	}
	return impl.Reply{}
}

func (m *modelEnd) askSend(data []byte) impl.Reply {
	if m.why != 0 {
		return impl.Reply{Code: impl.ErrReset}
	}
	if m.closes || !m.isOneOf(impl.StateSynSent, impl.StateSynRcvd, impl.StateOpen, impl.StateCloseWait) {
		return impl.Reply{Code: impl.ErrState}
	}
	accepted := int64(0)
	for _, b := range data {
		notAcked := int64(len(m.out))
		if m.acked > 0 {
			notAcked -= m.acked - 1
		}
		if notAcked < m.config.SendCap && len(m.out) < 400 {
			m.out = append(m.out, b)
			accepted++
		}
	}
	return impl.Reply{Value: accepted}
}

func (m *modelEnd) askRecv(n int64) impl.Reply {
	if m.read == int64(len(m.in)) {
		switch {
		case m.why != 0:
			return impl.Reply{Code: impl.ErrReset}
		case m.got == 0:
			return impl.Reply{Code: impl.ErrState}
		case m.hasFin:
			return impl.Reply{Code: impl.ErrNone}
		}
		return impl.Reply{}
	}
	wasShut := m.free() == 0
	given := []byte{}
	for n > 0 && m.read < int64(len(m.in)) {
		given = append(given, m.in[m.read])
		m.read++
		n--
	}
	if wasShut && m.free() > 0 {
		m.isWanted = true
	}
	return impl.Reply{Value: int64(len(given)), Bytes: given}
}

func (m *modelEnd) askClose() int64 {
	switch {
	case m.why != 0:
		return impl.ErrReset
	case m.closes || m.state == impl.StateClosed:
		return impl.ErrState
	case m.isOneOf(impl.StateListen, impl.StateSynSent):
		m.state, m.isTimer = impl.StateClosed, false
		return impl.OK
	}
	m.closes = true
	if m.state == impl.StateOpen {
		m.state = impl.StateFinWait1
	} else if m.state == impl.StateCloseWait {
		m.state = impl.StateLastAck
	}
	return impl.OK
}

// refuse tells the reset that waits then, told again from chapter 5.
func (m *modelEnd) refuse(s impl.Segment) {
	if hasFlag(s.Flags, impl.FlagRst) {
		return
	}
	reset := impl.Segment{FromPort: s.ToPort, ToPort: s.FromPort, Flags: impl.FlagRst, Seq: s.Ack}
	if !hasFlag(s.Flags, impl.FlagAck) {
		reset.Flags += impl.FlagAck
		reset.Ack = int64(uint32(s.Seq) + uint32(unitsIn(s)))
	}
	m.waits = append(m.waits, reset)
}

func unitsIn(s impl.Segment) int64 {
	size := int64(len(s.Data))
	for _, flag := range []int64{impl.FlagSyn, impl.FlagFin} {
		if hasFlag(s.Flags, flag) {
			size++
		}
	}
	return size
}

func (m *modelEnd) takeSyn(s impl.Segment) {
	m.irs, m.got, m.window, m.windowUnit, m.windowAcked = uint32(s.Seq), 1, s.Window, 0, m.acked
	m.part = 536
	if s.Mss > 0 {
		m.part = s.Mss
	}
	if m.config.Mss < m.part {
		m.part = m.config.Mss
	}
	m.isWanted = true
}

func (m *modelEnd) hear(s impl.Segment, now int64) {
	isSyn, isRst, isAck := hasFlag(s.Flags, impl.FlagSyn), hasFlag(s.Flags, impl.FlagRst), hasFlag(s.Flags, impl.FlagAck)
	switch m.state {
	case impl.StateClosed:
		m.refuse(s)
	case impl.StateListen:
		if !isRst && isAck {
			m.refuse(s)
		} else if !isRst && isSyn {
			m.takeSyn(s)
			m.state = impl.StateSynRcvd
		}
	case impl.StateSynSent:
		isHeard := isAck && m.top == 1 && uint32(s.Ack) == m.number(1)
		if isAck && !isHeard {
			m.refuse(s)
		} else if isRst && isHeard {
			m.cut()
		} else if !isRst && isSyn && isHeard {
			m.acked, m.sent, m.isTimer, m.tries = 1, 1, false, 0
			m.takeSyn(s)
			m.state = impl.StateOpen
		} else if !isRst && isSyn {
			m.takeSyn(s)
			m.state, m.sent = impl.StateSynRcvd, 0
		}
	default:
		m.hearLinked(s, now)
	}
}

func (m *modelEnd) hearLinked(s impl.Segment, now int64) {
	off, size, free := int64(int32(uint32(s.Seq)-m.wanted())), unitsIn(s), m.free()
	isRst := hasFlag(s.Flags, impl.FlagRst)
	doesFit := off == 0 || off > 0 && off < free
	if size > 0 {
		last := off + size - 1
		doesFit = free > 0 && (off >= 0 && off <= free-1 || last >= 0 && last <= free-1)
	}
	if !doesFit {
		if !isRst {
			m.isWanted = true
			if m.state == impl.StateTimeWait {
				m.quietEnd = now + 60000
			}
		}
		return
	}
	if isRst && off == 0 {
		m.cut()
		return
	}
	if isRst || hasFlag(s.Flags, impl.FlagSyn) {
		m.isWanted = true
		return
	}
	if hasFlag(s.Flags, impl.FlagAck) && m.hearAck(s, off, now) {
		m.takeIn(s, off, free, now)
	}
}

func (m *modelEnd) hearAck(s impl.Segment, off int64, now int64) bool {
	u := m.acked + int64(int32(uint32(s.Ack)-m.number(m.acked)))
	if m.state == impl.StateSynRcvd {
		if u < 1 || u > m.top {
			m.refuse(s)
			return false
		}
		m.state = impl.StateOpen
		if m.closes {
			m.state = impl.StateFinWait1
		}
	}
	if u > m.top {
		m.isWanted = true
		return false
	}
	if u > m.acked {
		m.acked, m.tries, m.wait, m.isTimer = u, 0, 1000, false
		if m.sent < u {
			m.sent = u
		}
	}
	unit := m.got + off
	if u == m.acked && (m.windowUnit < unit || m.windowUnit == unit && m.windowAcked <= u) {
		m.window, m.windowUnit, m.windowAcked = s.Window, unit, u
	}
	if m.closes && m.acked == m.all() {
		switch m.state {
		case impl.StateFinWait1:
			m.state = impl.StateFinWait2
		case impl.StateClosing:
			m.state, m.quietEnd = impl.StateTimeWait, now+60000
		case impl.StateLastAck:
			m.state = impl.StateClosed
			return false
		}
	}
	return true
}

func (m *modelEnd) takeIn(s impl.Segment, off int64, free int64, now int64) {
	if !m.isOneOf(impl.StateOpen, impl.StateFinWait1, impl.StateFinWait2) {
		return
	}
	behind := off + int64(len(s.Data))
	isFin := hasFlag(s.Flags, impl.FlagFin)
	if len(s.Data) > 0 || isFin {
		m.isWanted = true
	}
	if isFin && behind >= 0 && behind < free {
		m.isFinKnown, m.finUnit = true, m.got+behind
	}
	if len(s.Data) > 0 {
		m.lay(s.Data, off, free)
	}
	if !m.isFinKnown || m.got != m.finUnit {
		return
	}
	m.got, m.hasFin = m.got+1, true
	switch m.state {
	case impl.StateOpen:
		m.state = impl.StateCloseWait
	case impl.StateFinWait1:
		m.state = impl.StateClosing
	case impl.StateFinWait2:
		m.state, m.quietEnd = impl.StateTimeWait, now+60000
	}
}

// lay puts each byte at its unit, and takes what is in order; all of it is left, if what waits then is too many pieces.
func (m *modelEnd) lay(data []byte, off int64, free int64) {
	early, in, got := map[int64]byte{}, m.in, m.got
	for unit, b := range m.early {
		early[unit] = b
	}
	for i, b := range data {
		place := off + int64(i)
		_, isThere := early[m.got+place]
		if place >= 0 && place < free && !isThere {
			early[m.got+place] = b
		}
	}
	for b, isThere := early[got]; isThere; b, isThere = early[got] {
		delete(early, got)
		in = append(in[:len(in):len(in)], b)
		got++
	}
	if len(runsOf(early, 0)) <= 4 {
		m.early, m.in, m.got = early, in, got
	}
}

// runsOf tells the bytes as pieces from a unit on.
func runsOf(early map[int64]byte, from int64) []impl.Piece {
	units := []int64{}
	for unit := range early {
		units = append(units, unit)
	}
	sort.Slice(units, func(i, j int) bool { return units[i] < units[j] })
	runs := []impl.Piece{}
	for i, unit := range units {
		if i == 0 || units[i-1] != unit-1 {
			runs = append(runs, impl.Piece{At: unit - from})
		}
		runs[len(runs)-1].Data = append(runs[len(runs)-1].Data, early[unit])
	}
	return runs
}

func (m *modelEnd) poll(now int64) []impl.Segment {
	list := m.waits
	m.waits = nil
	if m.state == impl.StateTimeWait && m.quietEnd <= now {
		m.state = impl.StateClosed
		return list
	}
	if m.isTimer && m.timer <= now {
		if m.window > 0 || m.acked == 0 {
			m.tries++
			if m.tries > 8 {
				list = append(list, m.segment(m.top, impl.FlagRst, nil))
				m.cut()
				return list
			}
		}
		m.sent, m.isTimer, m.isProbe = m.acked, false, m.isProbe || m.window == 0
		m.wait *= 2
		if m.wait > 16000 {
			m.wait = 16000
		}
	}
	for range 4 {
		s, isOne := m.next()
		if !isOne {
			break
		}
		if hasFlag(s.Flags, impl.FlagAck) {
			m.isWanted = false
		}
		list = append(list, s)
	}
	if m.isWanted && !m.isOneOf(impl.StateClosed, impl.StateListen, impl.StateSynSent) {
		list = append(list, m.segment(m.top, impl.FlagAck, nil))
	}
	m.isWanted = false
	m.watch(now)
	return list
}

func (m *modelEnd) next() (impl.Segment, bool) {
	first := m.sent
	if m.isOneOf(impl.StateSynSent, impl.StateSynRcvd) && m.sent == 0 {
		s := m.segment(0, impl.FlagSyn, nil)
		if m.state == impl.StateSynRcvd {
			s = m.segment(0, impl.FlagSyn+impl.FlagAck, nil)
		}
		s.Mss = m.config.Mss
		m.say(1)
		return s, true
	}
	if !m.isOneOfFive() || m.sent == 0 {
		return impl.Segment{}, false
	}
	limit := m.acked + m.window
	if m.isProbe && limit <= m.sent {
		limit, m.isProbe = m.sent+1, false
	}
	data := []byte{}
	for m.sent+int64(len(data)) <= int64(len(m.out)) && int64(len(data)) < m.part && m.sent+int64(len(data)) < limit {
		data = append(data, m.out[m.sent-1+int64(len(data))])
	}
	if len(data) > 0 {
		s := m.segment(first, impl.FlagPsh+impl.FlagAck, data)
		m.say(int64(len(data)))
		return s, true
	}
	if m.closes && m.sent == int64(len(m.out))+1 && limit > m.sent {
		s := m.segment(first, impl.FlagFin+impl.FlagAck, nil)
		m.say(1)
		return s, true
	}
	return impl.Segment{}, false
}

func (m *modelEnd) say(count int64) {
	m.sent += count
	if m.top < m.sent {
		m.top = m.sent
	}
}

func (m *modelEnd) watch(now int64) {
	isShut := m.window == 0 && m.acked > 0 && m.isOneOfFive() && m.acked < m.all()
	if !m.isOneOf(impl.StateClosed, impl.StateListen) && (m.sent > m.acked || isShut) {
		if !m.isTimer {
			m.isTimer, m.timer = true, now+m.wait
		}
		return
	}
	m.isTimer, m.wait, m.tries = false, 1000, 0
}

func (m *modelEnd) told() impl.End {
	return impl.End{
		State: m.state, Acked: m.acked, Sent: m.sent, Top: m.top, Got: m.got, Read: m.read,
		Out: bytes.Clone(m.out), Closes: m.closes, Free: m.free(), Window: m.window,
		Pieces: runsOf(m.early, int64(len(m.in))+1), Tries: m.tries, Waits: int64(len(m.waits)), Why: m.why,
	}
}

func newModelPair(a impl.EndConfig, b impl.EndConfig) *modelPair {
	return &modelPair{ends: [2]*modelEnd{newModelEnd(a, b), newModelEnd(b, a)}}
}

func (p *modelPair) turn(e impl.Event) {
	p.replies = append(p.replies, p.replyTo(e))
}

func (p *modelPair) replyTo(e impl.Event) impl.Reply {
	if fault := modelEventFault(e); fault != 0 {
		return impl.Reply{Code: fault}
	}
	if e.Kind >= impl.EvCome && int(e.N) >= len(p.flights) {
		return impl.Reply{Code: impl.ErrNone}
	}
	switch e.Kind {
	case impl.EvPoll:
		for _, s := range p.ends[e.Side].poll(p.now) {
			if len(p.flights) < 30 {
				p.flights = append(p.flights, impl.Flight{Side: 1 - e.Side, Segment: s})
			}
		}
	case impl.EvWait:
		p.now += e.N
	case impl.EvCopy:
		if len(p.flights) == 30 {
			return impl.Reply{Code: impl.ErrFull}
		}
		p.flights = append(p.flights, p.flights[e.N])
	case impl.EvCome, impl.EvLose:
		gone := p.flights[e.N]
		p.flights = append(append([]impl.Flight{}, p.flights[:e.N]...), p.flights[e.N+1:]...)
		if e.Kind == impl.EvCome {
			p.ends[gone.Side].hear(gone.Segment, p.now)
		}
	default:
		return p.ends[e.Side].ask(e)
	}
	return impl.Reply{}
}

// modelEventFault tells for each kind which bytes, sides and numbers it may have.
func modelEventFault(e impl.Event) int64 {
	isSided := e.Kind >= impl.EvOpen && e.Kind <= impl.EvPoll
	mostN := map[int64]int64{impl.EvRecv: 200, impl.EvWait: 60000, impl.EvCome: 29, impl.EvLose: 29, impl.EvCopy: 29}[e.Kind]
	switch {
	case e.Kind < 1 || e.Kind > 10, !isSided && e.Side != 0, mostN == 0 && e.N != 0, e.Kind != impl.EvSend && len(e.Data) > 0:
		return impl.ErrForm
	case e.Side < 0 || e.Side > 1, e.N < 0 || e.N > mostN:
		return impl.ErrRange
	case len(e.Data) > 100:
		return impl.ErrMany
	}
	return impl.OK
}

func (p *modelPair) told() impl.Pair {
	return impl.Pair{Now: p.now, Ends: []impl.End{p.ends[0].told(), p.ends[1].told()}, Flights: p.flights, Replies: p.replies}
}
