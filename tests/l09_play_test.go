package tests

import (
	"bytes"
	"fmt"
	"math"
	"slices"
	"strconv"
	"strings"
	"testing"

	"loop.example/g00726/impl"
)

// A party is who may be on the wire. Those that are far have the mac of the gateway: what comes from them comes by it.
type party struct {
	name    string
	ip, mac int64
}

var parties = []party{
	{"me", 10<<24 + 1, 10},
	{"b", 10<<24 + 2, 11},
	{"c", 10<<24 + 3, 12},
	{"d", 10<<24 + 4, 13},
	{"e", 10<<24 + 5, 14},
	{"f", 10<<24 + 6, 15},
	{"gw", 10<<24 + 254, 99},
	{"far", 192<<24 + 168<<16 + 7<<8 + 7, 99},
	{"away", 8<<24 + 9<<16 + 10<<8 + 11, 99},
	{"nobody", 0, 0},
	{"all", 10<<24 + 255, lastMac},
}

func partyOf(t *testing.T, name string) party {
	t.Helper()
	for _, who := range parties {
		if who.name == name {
			return who
		}
	}
	t.Fatal("no party: ", name)
	return party{}
}

func ipOf(name string) int64 {
	for _, who := range parties {
		if who.name == name {
			return who.ip
		}
	}
	return -1
}

func nameIp(ip int64) string {
	for _, who := range parties {
		if who.ip == ip {
			return who.name
		}
	}
	return fmt.Sprintf("%d.%d.%d.%d", ip>>24, ip>>16&255, ip>>8&255, ip&255)
}

func nameMac(mac int64) string {
	for _, who := range parties {
		if who.mac == mac {
			return who.name
		}
	}
	return fmt.Sprint("mac-", mac)
}

// aHost has an end that calls b, one that listens, and one that calls who is far.
func aHost() impl.HostConfig {
	end := impl.EndConfig{SendCap: 50, RecvCap: 20, Mss: 10}
	caller, listener, farCaller := end, end, end
	caller.Port, listener.Port, farCaller.Port = 5000, 80, 6000
	listener.Listens = true
	return impl.HostConfig{
		Mac: 10, Route: impl.Route{Ip: ipOf("me"), Bits: 24, Gateway: ipOf("gw")}, Udp: 53,
		Sockets: []impl.Socket{{End: caller, PeerIp: ipOf("b"), Peer: 80}, {End: listener}, {End: farCaller, PeerIp: ipOf("far"), Peer: 7}},
	}
}

func withoutGateway() impl.HostConfig {
	c := aHost()
	c.Route.Gateway = 0
	return c
}

// withEnds turns the config of all three ends.
func withEnds(sendCap int64, recvCap int64, mss int64) impl.HostConfig {
	c := aHost()
	for i := range c.Sockets {
		c.Sockets[i].End.SendCap, c.Sockets[i].End.RecvCap, c.Sockets[i].End.Mss = sendCap, recvCap, mss
	}
	return c
}

func clonedConfig(c impl.HostConfig) impl.HostConfig {
	c.Sockets = append([]impl.Socket{}, c.Sockets...)
	return c
}

// A hostPlay is a host and what comes to it, a line each. Numbers in segments are counted from the first ones.
type hostPlay struct {
	t         *testing.T
	name      string
	config    impl.HostConfig
	peerFirst int64
	inputs    []impl.Input
	ahead     impl.Host
	host      impl.Host
}

// inHostPlays plays it with all first numbers, as long as nothing fails, and holds each of its steps against the model.
func inHostPlays(t *testing.T, name string, config impl.HostConfig, act func(*hostPlay)) {
	t.Helper()
	for i, first := range firstNumbers {
		if t.Failed() {
			return
		}
		p := &hostPlay{t: t, name: fmt.Sprintf("%s (first numbers %d)", name, i), config: clonedConfig(config), peerFirst: first[1]}
		for at := range p.config.Sockets {
			p.config.Sockets[at].End.First = first[0]
		}
		p.run()
		act(p)
		checkHostSteps(t, p.name, p.config, p.inputs)
	}
}

func (p *hostPlay) run() {
	p.t.Helper()
	result := impl.RunHost(p.config, p.inputs)
	if result.Code != impl.OK || len(result.Host.Ends) != len(p.config.Sockets) || len(result.Host.Replies) != len(p.inputs) {
		p.t.Fatalf("%s: RunHost has the code %d, %d ends and %d replies to %d inputs", p.name, result.Code, len(result.Host.Ends), len(result.Host.Replies), len(p.inputs))
	}
	p.host = result.Host
}

func (p *hostPlay) do(lines ...string) *hostPlay {
	p.t.Helper()
	list := []impl.Input{}
	for _, line := range lines {
		list = append(list, p.inputOf(line))
	}
	return p.put(list...)
}

// come lets a frame come, whatever it is.
func (p *hostPlay) come(data []byte) *hostPlay {
	p.t.Helper()
	return p.put(impl.Input{Kind: impl.InFrame, Data: data})
}

func (p *hostPlay) put(list ...impl.Input) *hostPlay {
	p.t.Helper()
	p.ahead = p.host
	p.inputs = append(p.inputs, list...)
	p.run()
	return p
}

func (p *hostPlay) inputOf(line string) impl.Input {
	p.t.Helper()
	bare, text, _ := strings.Cut(line, " :")
	words := strings.Fields(bare)
	number := func(at int) int64 { return numberIn(p.t, words[at]) }
	for kind, name := range map[int64]string{impl.EvOpen: "open", impl.EvSend: "send", impl.EvRecv: "recv", impl.EvClose: "close", impl.EvAbort: "abort"} {
		if words[0] != name {
			continue
		}
		i := impl.Input{Kind: kind, Socket: number(1), Data: []byte(text)}
		if kind == impl.EvRecv {
			i.N = number(2)
		}
		return i
	}
	switch words[0] {
	case "poll":
		return impl.Input{Kind: impl.EvPoll}
	case "wait":
		return impl.Input{Kind: impl.EvWait, N: number(1)}
	case "tell":
		return impl.Input{Kind: impl.InTell, Ip: partyOf(p.t, words[1]).ip, Port: number(2), Data: []byte(text)}
	case "take":
		return impl.Input{Kind: impl.InTake}
	case "ping":
		return impl.Input{Kind: impl.InPing, Ip: partyOf(p.t, words[1]).ip, N: number(2)}
	}
	return impl.Input{Kind: impl.InFrame, Data: p.frame(line)}
}

func numberIn(t *testing.T, word string) int64 {
	t.Helper()
	n, err := strconv.ParseInt(word, 10, 64)
	if err != nil {
		t.Fatal(err)
	}
	return n
}

// frame tells the bytes of a frame that is told in words. Where no mac is told ahead, it goes to me.
func (p *hostPlay) frame(line string) []byte {
	p.t.Helper()
	to := "me"
	if name, rest, isTold := strings.Cut(line, ": "); isTold && !strings.Contains(name, " ") {
		to, line = name, rest
	}
	bare, text, _ := strings.Cut(line, " :")
	words := strings.Fields(bare)
	if words[1] == "asks" || words[1] == "tells" {
		return frameBytes(partyOf(p.t, to).mac, partyOf(p.t, words[0]).mac, impl.KindArp, p.arp(words))
	}
	fromName, toName, _ := strings.Cut(words[0], ">")
	from, target := partyOf(p.t, fromName), partyOf(p.t, toName)
	proto, body := p.body(from.ip, target.ip, words[1:], []byte(text))
	return frameBytes(partyOf(p.t, to).mac, from.mac, impl.KindIp, packetBytes(from.ip, target.ip, proto, body))
}

func frameBytes(to int64, from int64, kind int64, body []byte) []byte {
	return impl.PackFrame(impl.Frame{To: to, From: from, Kind: kind, Body: body}).Bytes
}

func packetBytes(from int64, to int64, proto int64, body []byte) []byte {
	return impl.PackPacket(impl.Packet{From: from, To: to, Proto: proto, Ttl: 64, Body: body}).Bytes
}

func arpBytes(op int64, fromMac int64, fromIp int64, toMac int64, toIp int64) []byte {
	return impl.PackArp(impl.Arp{Op: op, FromMac: fromMac, FromIp: fromIp, ToMac: toMac, ToIp: toIp}).Bytes
}

func (p *hostPlay) arp(words []string) []byte {
	from, to := partyOf(p.t, words[0]), partyOf(p.t, words[2])
	if words[1] == "asks" {
		return arpBytes(impl.ArpAsk, from.mac, from.ip, 0, to.ip)
	}
	return arpBytes(impl.ArpTell, from.mac, from.ip, to.mac, to.ip)
}

func (p *hostPlay) body(from int64, to int64, words []string, data []byte) (int64, []byte) {
	p.t.Helper()
	switch words[0] {
	case "echo", "pong":
		e := impl.Echo{Reply: words[0] == "pong", Id: numberIn(p.t, words[1]), Seq: numberIn(p.t, words[2]), Data: data}
		return impl.ProtoIcmp, impl.PackEcho(e).Bytes
	case "udp":
		fromPort, toPort := portsIn(p.t, words[1])
		return impl.ProtoUdp, impl.PackDatagram(from, to, impl.Datagram{FromPort: fromPort, ToPort: toPort, Data: data}).Bytes
	case "tcp":
		return impl.ProtoTcp, impl.PackSegment(from, to, p.segment(from == ipOf("me"), words[1:], data)).Bytes
	}
	p.t.Fatal("no body: ", words)
	return 0, nil
}

func portsIn(t *testing.T, word string) (int64, int64) {
	t.Helper()
	from, to, _ := strings.Cut(word, ">")
	return numberIn(t, from), numberIn(t, to)
}

// segment is told by ports, flags, the unit of its Seq, and, where they are not 0, those of its Ack, its Window and its Mss. A number behind = is not counted from a first one.
func (p *hostPlay) segment(isMine bool, words []string, data []byte) impl.Segment {
	p.t.Helper()
	s := impl.Segment{Data: data}
	s.FromPort, s.ToPort = portsIn(p.t, words[0])
	for i, flag := range []int64{impl.FlagSyn, impl.FlagFin, impl.FlagRst, impl.FlagPsh, impl.FlagAck} {
		if strings.Contains(words[1], "SFRPA"[i:i+1]) {
			s.Flags += flag
		}
	}
	first, other := p.peerFirst, p.firstOf(s.ToPort)
	if isMine {
		first, other = p.firstOf(s.FromPort), p.peerFirst
	}
	s.Seq = numberFrom(p.t, first, words[2])
	for _, word := range words[3:] {
		switch word[0] {
		case 'a':
			s.Ack = numberFrom(p.t, other, word[1:])
		case 'w':
			s.Window = numberIn(p.t, word[1:])
		case 'm':
			s.Mss = numberIn(p.t, word[1:])
		default:
			p.t.Fatal("no part of a segment: ", word)
		}
	}
	return s
}

func numberFrom(t *testing.T, first int64, word string) int64 {
	t.Helper()
	if rest, isBare := strings.CutPrefix(word, "="); isBare {
		return numberIn(t, rest)
	}
	return int64(uint32(first + numberIn(t, word)))
}

// firstOf is 0 for a port that no socket has.
func (p *hostPlay) firstOf(port int64) int64 {
	for _, s := range p.config.Sockets {
		if s.End.Port == port {
			return s.End.First
		}
	}
	return 0
}

func (p *hostPlay) fail(what string, got any, want any) {
	p.t.Helper()
	p.t.Errorf("%s, behind %s: %s:\n%v; want\n%v", p.name, nameInputs(p.inputs), what, got, want)
}

// wantFrames is of what the last do emitted.
func (p *hostPlay) wantFrames(lines ...string) *hostPlay {
	p.t.Helper()
	got := p.host.Frames[len(p.ahead.Frames):]
	want := [][]byte{}
	for _, line := range lines {
		want = append(want, p.frame(line))
	}
	if !slices.EqualFunc(got, want, bytes.Equal) {
		p.fail("what it emits", nameFrames(got), nameFrames(want))
	}
	return p
}

// wantReply is of the last input.
func (p *hostPlay) wantReply(code int64, value int64, data string) *hostPlay {
	p.t.Helper()
	got := p.host.Replies[len(p.host.Replies)-1]
	if got.Code != code || got.Value != value || string(got.Bytes) != data {
		p.fail("the reply", got, impl.Reply{Code: code, Value: value, Bytes: []byte(data)})
	}
	return p
}

// wantHost is told by words such as held=1.
func (p *hostPlay) wantHost(words string) *hostPlay {
	p.t.Helper()
	for _, word := range strings.Fields(words) {
		name, want, _ := strings.Cut(word, "=")
		if got := hostField(p.host, name); got != want {
			p.fail(name, got, want)
		}
	}
	return p
}

func hostField(h impl.Host, name string) string {
	list := []string{}
	switch name {
	case "cache":
		for _, e := range h.Cache {
			list = append(list, fmt.Sprintf("%s@%d", nameIp(e.Ip), e.Until))
		}
	case "inbox":
		for _, l := range h.Inbox {
			list = append(list, fmt.Sprintf("%s:%d>%d:%s", nameIp(l.Ip), l.Datagram.FromPort, l.Datagram.ToPort, l.Datagram.Data))
		}
	default:
		numbers := map[string]int64{"now": h.Now, "held": h.Held, "pongs": h.Pongs, "drops": h.Drops, "frames": int64(len(h.Frames))}
		number, isThere := numbers[name]
		if !isThere {
			return "no field"
		}
		return fmt.Sprint(number)
	}
	return strings.Join(list, ",")
}

func (p *hostPlay) wantEnd(socket int, words string) *hostPlay {
	p.t.Helper()
	for _, word := range strings.Fields(words) {
		name, want, _ := strings.Cut(word, "=")
		if !strings.Contains(word, "=") {
			name, want = "state", word
		}
		if got := fieldOf(p.host.Ends[socket], name); got != want {
			p.fail(fmt.Sprintf("end %d: %s", socket, name), got, want)
		}
	}
	return p
}

// wantDropped asks that the last input made Drops one more, and turned nothing else.
func (p *hostPlay) wantDropped() *hostPlay {
	p.t.Helper()
	p.wantReply(impl.OK, 0, "")
	return p.wantOnly("more than Drops was turned, or less", func(h *impl.Host) { h.Drops++ })
}

func (p *hostPlay) wantNothingTurned() *hostPlay {
	p.t.Helper()
	return p.wantOnly("something was turned", func(*impl.Host) {})
}

// wantOnly asks that the last input turned this and nothing else, but for its reply.
func (p *hostPlay) wantOnly(what string, turn func(*impl.Host)) *hostPlay {
	p.t.Helper()
	want := impl.RunHost(p.config, p.inputs[:len(p.inputs)-1]).Host
	if !areReplies(want.Replies, p.host.Replies[:len(p.host.Replies)-1]) {
		p.fail("the replies ahead", p.host.Replies, want.Replies)
	}
	want.Replies = p.host.Replies
	turn(&want)
	if !areHosts(p.host, want) {
		p.fail(what, nameHost(p.host), nameHost(want))
	}
	return p
}

func nameInputs(list []impl.Input) string {
	words := []string{}
	for _, i := range list {
		text := fmt.Sprintf("{kind %d socket %d n %d ip %s port %d %q}", i.Kind, i.Socket, i.N, nameIp(i.Ip), i.Port, i.Data)
		if i.Kind == impl.InFrame {
			text = "[" + nameFrame(i.Data) + "]"
		}
		words = append(words, text)
	}
	return strings.Join(words, " ")
}

func nameFrames(list [][]byte) string {
	lines := []string{}
	for _, data := range list {
		lines = append(lines, nameFrame(data))
	}
	return strings.Join(lines, "\n")
}

func nameFrame(data []byte) string {
	f := impl.ReadFrame(data)
	if f.Code != impl.OK {
		return fmt.Sprintf("no frame %x", data)
	}
	head := fmt.Sprintf("to %s from %s kind %d: ", nameMac(f.Frame.To), nameMac(f.Frame.From), f.Frame.Kind)
	if a := impl.ReadArp(f.Frame.Body); f.Frame.Kind == impl.KindArp && a.Code == impl.OK {
		return head + fmt.Sprintf("arp %d from %s %s to %s %s", a.Arp.Op, nameMac(a.Arp.FromMac), nameIp(a.Arp.FromIp), nameMac(a.Arp.ToMac), nameIp(a.Arp.ToIp))
	}
	read := impl.ReadPacket(f.Frame.Body)
	if read.Code != impl.OK {
		return head + fmt.Sprintf("%x", f.Frame.Body)
	}
	k := read.Packet
	head += fmt.Sprintf("%s>%s proto %d ttl %d: ", nameIp(k.From), nameIp(k.To), k.Proto, k.Ttl)
	if s := impl.ReadSegment(k.From, k.To, k.Body); k.Proto == impl.ProtoTcp && s.Code == impl.OK {
		return head + nameSegment(s.Segment)
	}
	return head + fmt.Sprintf("%x", k.Body)
}

func nameHost(h impl.Host) string {
	text := fmt.Sprintf("at %d, cache %s, held %d, inbox %s, pongs %d, drops %d\n", h.Now, hostField(h, "cache"), h.Held, hostField(h, "inbox"), h.Pongs, h.Drops)
	for _, e := range h.Ends {
		text += nameEnd(e) + "\n"
	}
	return text + nameFrames(h.Frames) + "\n" + fmt.Sprint(h.Replies)
}

// areHosts does not lean on SameHosts, which is itself asked.
func areHosts(a impl.Host, b impl.Host) bool {
	numbers := func(h impl.Host) [4]int64 { return [4]int64{h.Now, h.Held, h.Pongs, h.Drops} }
	return numbers(a) == numbers(b) && areEntries(a.Cache, b.Cache) && slices.EqualFunc(a.Ends, b.Ends, areEnds) &&
		slices.EqualFunc(a.Inbox, b.Inbox, areLetters) && slices.EqualFunc(a.Frames, b.Frames, bytes.Equal) && areReplies(a.Replies, b.Replies)
}

func areLetters(a impl.Letter, b impl.Letter) bool {
	x, y := a.Datagram, b.Datagram
	return a.Ip == b.Ip && x.FromPort == y.FromPort && x.ToPort == y.ToPort && bytes.Equal(x.Data, y.Data)
}

// checkHostSteps holds the host behind each input against the model and against what is promised of it; what was done ahead stays, whatever follows.
func checkHostSteps(t *testing.T, call string, config impl.HostConfig, inputs []impl.Input) {
	t.Helper()
	model := newModelHost(config)
	whole := impl.RunHost(config, inputs).Host
	last := impl.Host{}
	for count := 0; count <= len(inputs); count++ {
		got := impl.RunHost(config, inputs[:count])
		where := fmt.Sprintf("%s: %v, behind %s", call, config, nameInputs(inputs[:count]))
		if want := model.told(); got.Code != impl.OK || !areHosts(got.Host, want) {
			t.Fatalf("%s: code %d\n%s\nwant\n%s", where, got.Code, nameHost(got.Host), nameHost(want))
		}
		if !areReplies(got.Host.Replies, whole.Replies[:count]) {
			t.Fatalf("%s: the replies hang on what comes later", where)
		}
		checkHost(t, where, config, got.Host)
		checkHostStep(t, where, last, got.Host)
		last = got.Host
		if count < len(inputs) {
			model.turn(inputs[count])
		}
	}
}

// checkHost asks for what is promised of a host wherever it is: all keeps its bounds, and what it emits can be read.
func checkHost(t *testing.T, where string, config impl.HostConfig, h impl.Host) {
	t.Helper()
	if h.Held < 0 || h.Held > 2 || len(h.Inbox) > 4 || len(h.Frames) > 60 || impl.CacheFault(h.Cache) != impl.OK {
		t.Errorf("%s: a bound is not kept: %s", where, nameHost(h))
	}
	for _, e := range h.Cache {
		if e.Until < h.Now || e.Until > h.Now+60000 {
			t.Errorf("%s: at %d the cache has %v", where, h.Now, e)
		}
	}
	for i, e := range h.Ends {
		anyOther := impl.End{Top: math.MaxInt64, Got: math.MaxInt64}
		checkEnd(t, fmt.Sprintf("%s: end %d", where, i), config.Sockets[i].End, e, anyOther)
	}
	for _, data := range h.Frames {
		if !isFrameOf(config, data) {
			t.Errorf("%s: this is emitted: %s", where, nameFrame(data))
		}
	}
}

// isFrameOf tells whether it is From this mac and, in all that it has inside, from this ip, and can be read.
func isFrameOf(config impl.HostConfig, data []byte) bool {
	f := impl.ReadFrame(data)
	if f.Code != impl.OK || f.Frame.From != config.Mac {
		return false
	}
	if f.Frame.Kind == impl.KindArp {
		a := impl.ReadArp(f.Frame.Body)
		return a.Code == impl.OK && len(f.Frame.Body) == 28 && a.Arp.FromMac == config.Mac && a.Arp.FromIp == config.Route.Ip
	}
	k := impl.ReadPacket(f.Frame.Body)
	if f.Frame.Kind != impl.KindIp || k.Code != impl.OK || k.Packet.From != config.Route.Ip || k.Packet.Ttl != 64 {
		return false
	}
	switch k.Packet.Proto {
	case 1:
		return impl.ReadEcho(k.Packet.Body).Code == impl.OK
	case 17:
		return impl.ReadDatagram(k.Packet.From, k.Packet.To, k.Packet.Body).Code == impl.OK
	case 6:
		return impl.ReadSegment(k.Packet.From, k.Packet.To, k.Packet.Body).Code == impl.OK
	}
	return false
}

// checkHostStep asks for what never goes back.
func checkHostStep(t *testing.T, where string, ahead impl.Host, h impl.Host) {
	t.Helper()
	isBack := h.Now < ahead.Now || h.Pongs < ahead.Pongs || h.Drops < ahead.Drops || len(h.Frames) < len(ahead.Frames)
	if isBack || !slices.EqualFunc(h.Frames[:len(ahead.Frames)], ahead.Frames, bytes.Equal) {
		t.Errorf("%s: it goes back from\n%s\nto\n%s", where, nameHost(ahead), nameHost(h))
	}
	for i, was := range ahead.Ends {
		e := h.Ends[i]
		if e.Acked < was.Acked || e.Top < was.Top || e.Got < was.Got || e.Read < was.Read || e.Got+e.Free < was.Got+was.Free || was.Closes && !e.Closes {
			t.Errorf("%s: end %d goes back from %s to %s", where, i, nameEnd(was), nameEnd(e))
		}
	}
}
