package tests

import (
	"bytes"

	"loop.example/g00726/impl"
)

// A modelHost is a host told again from the chapter, sentence by sentence. Its ends are those of two ends (l08_model_test.go).
type modelHost struct {
	config       impl.HostConfig
	now          int64
	cache        []impl.Entry
	held         []modelHeld
	asks         []modelAsk
	ends         []*modelEnd
	peerIps      []int64
	inbox        []impl.Letter
	pongs, drops int64
	frames       [][]byte
	replies      []impl.Reply
}

type modelHeld struct {
	hop    int64
	packet []byte
}

// A modelAsk is one of all that were ever asked, the last one behind the others.
type modelAsk struct{ hop, at int64 }

func newModelHost(config impl.HostConfig) *modelHost {
	m := &modelHost{config: config}
	for _, s := range config.Sockets {
		m.ends = append(m.ends, newModelEnd(s.End, impl.EndConfig{Port: s.Peer}))
		m.peerIps = append(m.peerIps, s.PeerIp)
	}
	return m
}

func (m *modelHost) emit(to int64, kind int64, body []byte) {
	if len(m.frames) == 60 {
		return
	}
	m.frames = append(m.frames, frameBytes(to, m.config.Mac, kind, body))
}

// hop tells by whom an ip is reached: the net of the own ip has as many as there are in sizeOfNet.
func (m *modelHost) hop(ip int64) (int64, bool) {
	size := sizeOfNet(m.config.Route.Bits)
	if ip/size == m.config.Route.Ip/size {
		return ip, true
	}
	return m.config.Route.Gateway, m.config.Route.Gateway != 0
}

func (m *modelHost) isHeldFor(hop int64) bool {
	for _, h := range m.held {
		if h.hop == hop {
			return true
		}
	}
	return false
}

// send tells whether there is a next hop.
func (m *modelHost) send(proto int64, to int64, body []byte) bool {
	hop, isHop := m.hop(to)
	if !isHop {
		return false
	}
	packet := packetBytes(m.config.Route.Ip, to, proto, body)
	for _, e := range m.cache {
		if e.Ip == hop && e.Until >= m.now {
			m.emit(e.Mac, 2048, packet)
			return true
		}
	}
	if !m.isHeldFor(hop) && len(m.held) < 2 {
		m.held = append(m.held, modelHeld{hop, packet})
	}
	isAllowed := true
	for _, a := range m.asks {
		if a.hop == hop && m.now < a.at+1000 {
			isAllowed = false
		}
	}
	if isAllowed {
		m.asks = append(m.asks, modelAsk{hop, m.now})
		m.emit(lastMac, 2054, arpBytes(1, m.config.Mac, m.config.Route.Ip, 0, hop))
	}
	return true
}

func (m *modelHost) sendSegment(to int64, s impl.Segment) {
	m.send(6, to, impl.PackSegment(m.config.Route.Ip, to, s).Bytes)
}

// look tells whether the frame is not dropped.
func (m *modelHost) look(data []byte) bool {
	if len(data) < 14 || len(data) > 614 {
		return false
	}
	f := impl.ReadFrame(data).Frame
	if f.To != m.config.Mac && f.To != lastMac {
		return false
	}
	switch f.Kind {
	case 2054:
		return m.lookArp(f.Body)
	case 2048:
		return m.lookPacket(f.Body)
	}
	return false
}

func (m *modelHost) lookArp(body []byte) bool {
	a := impl.ReadArp(body)
	if a.Code != 0 || a.Arp.ToIp != m.config.Route.Ip {
		return false
	}
	mac, ip := a.Arp.FromMac, a.Arp.FromIp
	m.cache = cacheThen(m.cache, ip, mac, m.now)
	left := []modelHeld{}
	for _, h := range m.held {
		if h.hop == ip {
			m.emit(mac, 2048, h.packet)
		} else {
			left = append(left, h)
		}
	}
	m.held = left
	if a.Arp.Op == 1 {
		m.emit(mac, 2054, arpBytes(2, m.config.Mac, m.config.Route.Ip, mac, ip))
	}
	return true
}

func (m *modelHost) lookPacket(body []byte) bool {
	read := impl.ReadPacket(body)
	k := read.Packet
	if read.Code != 0 || k.To != m.config.Route.Ip || k.From == 0 {
		return false
	}
	switch k.Proto {
	case 1:
		e := impl.ReadEcho(k.Body)
		if e.Code == 0 && e.Echo.Reply {
			m.pongs++
		} else if e.Code == 0 {
			m.send(1, k.From, impl.PackEcho(impl.Echo{Reply: true, Id: e.Echo.Id, Seq: e.Echo.Seq, Data: e.Echo.Data}).Bytes)
		}
		return e.Code == 0
	case 17:
		d := impl.ReadDatagram(k.From, k.To, k.Body)
		isTaken := d.Code == 0 && d.Datagram.ToPort == m.config.Udp && len(m.inbox) < 4
		if isTaken {
			m.inbox = append(m.inbox, impl.Letter{Ip: k.From, Datagram: d.Datagram})
		}
		return isTaken
	case 6:
		s := impl.ReadSegment(k.From, k.To, k.Body)
		if s.Code == 0 {
			m.hear(k.From, s.Segment)
		}
		return s.Code == 0
	}
	return false
}

func (m *modelHost) hear(from int64, s impl.Segment) {
	at := -1
	for i, e := range m.ends {
		if at < 0 && e.config.Port == s.ToPort && m.peerIps[i] == from && e.other.Port == s.FromPort {
			at = i
		}
	}
	for i, e := range m.ends {
		if at < 0 && e.config.Port == s.ToPort && e.state == impl.StateListen {
			at = i
		}
	}
	if at < 0 {
		// An end that is closed tells what answers, and where it waits.
		closed := newModelEnd(impl.EndConfig{}, impl.EndConfig{})
		closed.refuse(s)
		for _, reset := range closed.waits {
			m.sendSegment(from, reset)
		}
		return
	}
	e := m.ends[at]
	wasListening := e.state == impl.StateListen
	e.hear(s, m.now)
	if wasListening && e.state != impl.StateListen {
		m.peerIps[at], e.other.Port = from, s.FromPort
	} else if wasListening {
		for _, reset := range e.waits {
			m.sendSegment(from, reset)
		}
		e.waits = nil
	}
}

func (m *modelHost) turn(i impl.Input) {
	m.replies = append(m.replies, m.replyTo(i))
}

func (m *modelHost) replyTo(i impl.Input) impl.Reply {
	if fault := modelInputFault(i); fault != 0 {
		return impl.Reply{Code: fault}
	}
	switch i.Kind {
	case impl.EvPoll:
		for at, e := range m.ends {
			for _, s := range e.poll(m.now) {
				if m.peerIps[at] != 0 {
					m.sendSegment(m.peerIps[at], s)
				}
			}
		}
	case impl.EvWait:
		m.now += i.N
		m.cache = without(m.cache, func(e impl.Entry) bool { return e.Until < m.now })
	case impl.InFrame:
		if !m.look(i.Data) {
			m.drops++
		}
	case impl.InTell:
		d := impl.Datagram{FromPort: m.config.Udp, ToPort: i.Port, Data: i.Data}
		if !m.send(17, i.Ip, impl.PackDatagram(m.config.Route.Ip, i.Ip, d).Bytes) {
			return impl.Reply{Code: impl.ErrNone}
		}
	case impl.InPing:
		if !m.send(1, i.Ip, impl.PackEcho(impl.Echo{Id: 1, Seq: i.N}).Bytes) {
			return impl.Reply{Code: impl.ErrNone}
		}
	case impl.InTake:
		if len(m.inbox) == 0 {
			return impl.Reply{Code: impl.ErrNone}
		}
		first := m.inbox[0]
		m.inbox = append([]impl.Letter{}, m.inbox[1:]...)
		return impl.Reply{Value: first.Datagram.FromPort, Bytes: first.Datagram.Data}
	default:
		if i.Socket >= int64(len(m.ends)) {
			return impl.Reply{Code: impl.ErrNone}
		}
		return m.ends[i.Socket].ask(impl.Event{Kind: i.Kind, N: i.N, Data: i.Data})
	}
	return impl.Reply{}
}

// modelInputFault tells of each kind what it has: the lowest and the highest of Socket, N, Ip and Port, and how many bytes.
func modelInputFault(i impl.Input) int64 {
	type row struct {
		socket, n, lowestIp, ip, lowestPort, port int64
		bytes                                     int
	}
	rows := map[int64]row{
		1: {socket: 2}, 2: {socket: 2, bytes: 100}, 3: {socket: 2, n: 200}, 4: {socket: 2}, 5: {socket: 2}, 6: {}, 7: {n: 60000},
		11: {bytes: 700}, 12: {lowestIp: 1, ip: lastIp, lowestPort: 1, port: 65535, bytes: 100}, 13: {}, 14: {n: 65535, lowestIp: 1, ip: lastIp},
	}
	r, isKind := rows[i.Kind]
	switch {
	case !isKind, r.socket == 0 && i.Socket != 0, r.n == 0 && i.N != 0, r.ip == 0 && i.Ip != 0, r.port == 0 && i.Port != 0, r.bytes == 0 && len(i.Data) > 0:
		return impl.ErrForm
	case i.Socket < 0 || i.Socket > r.socket, i.N < 0 || i.N > r.n, i.Ip < r.lowestIp || i.Ip > r.ip, i.Port < r.lowestPort || i.Port > r.port:
		return impl.ErrRange
	case len(i.Data) > r.bytes:
		return impl.ErrMany
	}
	return impl.OK
}

func (m *modelHost) told() impl.Host {
	told := impl.Host{Now: m.now, Held: int64(len(m.held)), Pongs: m.pongs, Drops: m.drops}
	told.Cache = append(told.Cache, m.cache...)
	told.Inbox = append(told.Inbox, m.inbox...)
	told.Replies = append(told.Replies, m.replies...)
	for _, e := range m.ends {
		told.Ends = append(told.Ends, e.told())
	}
	for _, data := range m.frames {
		told.Frames = append(told.Frames, bytes.Clone(data))
	}
	return told
}
