package tests

import (
	"bytes"
	"fmt"
	"testing"

	"loop.example/g00726/impl"
)

// A named is a frame and what is with it.
type named struct {
	name string
	data []byte
}

// dropHost has small numbers, so that a turned bit leads to none that means something else.
func dropHost() impl.HostConfig {
	c := aHost()
	for i := range c.Sockets {
		c.Sockets[i].End.First = 1000
	}
	return c
}

// dropPlay is for what is told of frames in words.
func dropPlay(t *testing.T) *hostPlay {
	return &hostPlay{t: t, name: "frames", config: dropHost(), peerFirst: 5000}
}

// fineFrames are all looked at, each one by another part of the host.
func fineFrames(t *testing.T) []named {
	t.Helper()
	list := []named{}
	for _, line := range []string{
		"b asks me", "b tells me", "b>me echo 3 4", "b>me echo 3 4 :abcd", "b>me echo 3 4 :abc", "b>me pong 3 4 :xyz", "b>me udp 7>53", "b>me udp 7>53 :hello",
		"b>me tcp 9>9 S 0 w5 m10", "b>me tcp 9>9 PA 5 a6 w7 :abcde", "b>me tcp 9>80 S 0 w5 m10", "b>me tcp 9>80 A 0 a1", "b>me tcp 80>5000 SA 0 a1 w20 m10", "b>me tcp 80>5000 R 0",
	} {
		list = append(list, named{line, dropPlay(t).frame(line)})
	}
	return list
}

// situations are what came ahead: nothing, and what a frame that is dropped could turn.
func situations() [][]string {
	return [][]string{
		{},
		{"b tells me"},
		{"ping b 1"},
		{"ping b 1", "ping c 2", "ping d 3"},
		{"b asks me", "c tells me", "d tells me", "e tells me", "far tells me", "gw tells me"},
		{"ping b 1", "b tells me", "b>me udp 7>53 :first", "b>me pong 1 1"},
		{"open 0", "poll"},
		{"b tells me", "open 0", "send 0 :abc", "poll", "b>me tcp 80>5000 SA 0 a1 w20 m10", "poll", "b>me tcp 9>80 S 0 w9", "poll"},
		{"open 2", "poll", "c>me udp 7>53 :first", "c>me udp 7>53 :second"},
		{"abort 0", "close 1", "wait 60000"},
	}
}

// wantAllDropped lets each frame come in each situation. All of them come at last, one behind the other.
func wantAllDropped(t *testing.T, config impl.HostConfig, frames []named) {
	t.Helper()
	for _, lines := range situations() {
		p := &hostPlay{t: t, config: config, peerFirst: 5000}
		p.run()
		ahead := p.do(lines...).inputs
		for _, one := range frames {
			p := &hostPlay{t: t, name: one.name, config: config, peerFirst: 5000}
			p.put(ahead[:len(ahead):len(ahead)]...).come(one.data).wantDropped()
			if t.Failed() {
				return
			}
		}
		for count := 0; count < len(frames); count += 100 {
			wantTogetherDropped(t, config, ahead, frames[count:min(count+100, len(frames))])
		}
	}
	for _, one := range frames {
		wantBool(t, "IsForHost of "+one.name, impl.IsForHost(config, one.data), false)
	}
}

func wantTogetherDropped(t *testing.T, config impl.HostConfig, ahead []impl.Input, frames []named) {
	t.Helper()
	inputs := append([]impl.Input{}, ahead...)
	for _, one := range frames {
		inputs = append(inputs, impl.Input{Kind: impl.InFrame, Data: one.data})
	}
	want := impl.RunHost(config, ahead).Host
	want.Drops += int64(len(frames))
	want.Replies = append(append([]impl.Reply{}, want.Replies...), make([]impl.Reply, len(frames))...)
	if got := impl.RunHost(config, inputs).Host; !areHosts(got, want) {
		t.Errorf("%d frames, one behind the other:\n%s\nwant\n%s", len(frames), nameHost(got), nameHost(want))
	}
}

// wantLookedAt asks that none of them is dropped.
func wantLookedAt(t *testing.T, config impl.HostConfig, frames []named) {
	t.Helper()
	for _, one := range frames {
		got := impl.RunHost(config, []impl.Input{{Kind: impl.InFrame, Data: one.data}})
		if got.Code != impl.OK || got.Host.Drops != 0 {
			t.Errorf("%s: code %d, %d drops", one.name, got.Code, got.Host.Drops)
		}
		wantBool(t, "IsForHost of "+one.name, impl.IsForHost(config, one.data), true)
	}
}

func TestP10FineFramesAreLookedAt(t *testing.T) {
	wantLookedAt(t, dropHost(), fineFrames(t))
	all := []named{}
	for _, one := range fineFrames(t) {
		all = append(all, named{"to all: " + one.name, append(repeated(255, 6), one.data[6:]...)})
		// Who brings it does not matter.
		for _, from := range someMacs() {
			all = append(all, named{fmt.Sprintf("from mac %d: %s", from, one.name), bytes.Join([][]byte{one.data[:6], impl.PackWord(from, 6).Bytes, one.data[12:]}, nil)})
		}
		// Neither do bytes behind what a packet or an arp tells of itself.
		for _, count := range []int{1, 2, 18, 600 - (len(one.data) - 14)} {
			all = append(all, named{fmt.Sprintf("%d bytes more: %s", count, one.name), append(bytes.Clone(one.data), mixed(count)...)})
		}
	}
	wantLookedAt(t, dropHost(), all)
}

func TestP10FramesThatAreCutOff(t *testing.T) {
	list := []named{}
	for _, one := range fineFrames(t) {
		for count := range len(one.data) {
			list = append(list, named{fmt.Sprintf("%d bytes of %s", count, one.name), one.data[:count]})
		}
	}
	wantAllDropped(t, dropHost(), list)
}

func TestP10FramesThatAreTooLong(t *testing.T) {
	list, fine := []named{}, []named{}
	for _, one := range fineFrames(t) {
		for _, count := range []int{615, 616, 650, 700} {
			list = append(list, named{fmt.Sprintf("%d bytes with %s", count, one.name), append(bytes.Clone(one.data), make([]byte, count-len(one.data))...)})
		}
		fine = append(fine, named{"614 bytes with " + one.name, append(bytes.Clone(one.data), make([]byte, 614-len(one.data))...)})
	}
	wantAllDropped(t, dropHost(), list)
	wantLookedAt(t, dropHost(), fine)
}

func TestP10FramesToAnotherMac(t *testing.T) {
	list := []named{}
	for _, one := range fineFrames(t) {
		for _, mac := range []int64{0, 1, 9, 11, 12, 99, 10 + 1<<8, 10 + 1<<40, 1 << 47, lastMac - 1, lastMac - 255} {
			list = append(list, named{fmt.Sprintf("to mac %d: %s", mac, one.name), append(impl.PackWord(mac, 6).Bytes, one.data[6:]...)})
		}
	}
	wantAllDropped(t, dropHost(), list)
	// Another host takes what goes to its mac, and not what goes to this one.
	for _, mac := range []int64{1, 11, 1 << 40, lastMac - 1} {
		other := dropHost()
		other.Mac = mac
		wantAllDropped(t, other, fineFrames(t))
		fine := []named{}
		for _, one := range fineFrames(t) {
			fine = append(fine, named{fmt.Sprintf("to mac %d: %s", mac, one.name), append(impl.PackWord(mac, 6).Bytes, one.data[6:]...)})
		}
		wantLookedAt(t, other, fine)
	}
}

func TestP10FramesOfAnotherKind(t *testing.T) {
	list := []named{}
	for _, one := range fineFrames(t) {
		own := impl.ReadFrame(one.data).Frame.Kind
		for _, kind := range []int64{0, 1, 6, 8, 2047, 2048, 2049, 2053, 2054, 2055, 2048 + 256, 34525, 65535} {
			if kind != own {
				list = append(list, named{fmt.Sprintf("of kind %d: %s", kind, one.name), putWord(one.data, 12, int(kind))})
			}
		}
	}
	wantAllDropped(t, dropHost(), list)
}

// Of each bit it is known whether the host looks at it: not at who brings a frame, nor at what an arp tells of its own but its ip.
func TestP10FramesWithOneTurnedBit(t *testing.T) {
	list, fine := []named{}, []named{}
	for _, one := range fineFrames(t) {
		isArp := impl.ReadFrame(one.data).Frame.Kind == impl.KindArp
		for at := range one.data {
			for bit := range 8 {
				turned := named{fmt.Sprintf("bit %d of byte %d turned of %s", bit, at, one.name), put(one.data, at, one.data[at]^1<<bit)}
				isPassed := at >= 6 && at < 12 || isArp && at >= 14+8 && at < 14+24
				if isPassed {
					fine = append(fine, turned)
				} else {
					list = append(list, turned)
				}
			}
		}
	}
	for _, lines := range situations()[:4] {
		ahead := (&hostPlay{t: t, config: dropHost(), peerFirst: 5000}).do(lines...).inputs
		for count := 0; count < len(list); count += 100 {
			wantTogetherDropped(t, dropHost(), ahead, list[count:min(count+100, len(list))])
		}
	}
	for _, one := range list {
		wantBool(t, "IsForHost of "+one.name, impl.IsForHost(dropHost(), one.data), false)
	}
	wantLookedAt(t, dropHost(), fine)
}

func TestP10ArpsThatAreDropped(t *testing.T) {
	list := []named{}
	add := func(name string, body []byte) {
		for _, to := range []int64{10, lastMac} {
			list = append(list, named{name, frameBytes(to, 11, impl.KindArp, body)})
		}
	}
	for _, op := range []int64{impl.ArpAsk, impl.ArpTell} {
		fine := arpBytes(op, 11, ipOf("b"), 10, ipOf("me"))
		for _, ip := range []int64{0, ipOf("b"), ipOf("me") - 1, ipOf("me") + 2, ipOf("all"), ipOf("far"), ipOf("gw"), lastIp} {
			add(fmt.Sprintf("op %d to ip %d", op, ip), arpBytes(op, 11, ipOf("b"), 10, ip))
		}
		for at := range 8 {
			for _, b := range []byte{0, 1, 2, 3, 4, 6, 8, 255} {
				if fine[at] != b && !(at == 7 && (b == 1 || b == 2)) {
					add(fmt.Sprintf("op %d with a byte %d at %d", op, b, at), put(fine, at, b))
				}
			}
		}
		add("27 bytes", fine[:27])
		add("nothing", nil)
	}
	wantAllDropped(t, dropHost(), list)
}

// packetAs tells a fine echo in a packet whose head has something else; its sum is made anew.
func packetAs(turn func(*impl.Packet)) []byte {
	k := impl.Packet{From: ipOf("b"), To: ipOf("me"), Proto: 1, Ttl: 64, Body: impl.PackEcho(impl.Echo{Id: 3, Seq: 4, Data: []byte("abcd")}).Bytes}
	turn(&k)
	return impl.PackPacket(k).Bytes
}

func TestP10PacketsThatAreDropped(t *testing.T) {
	list := []named{}
	add := func(name string, packet []byte) {
		for _, to := range []int64{10, lastMac} {
			list = append(list, named{name, frameBytes(to, 11, impl.KindIp, packet)})
		}
	}
	fine := packetAs(func(*impl.Packet) {})
	for _, ip := range []int64{0, ipOf("b"), ipOf("me") - 1, ipOf("me") + 2, ipOf("all"), ipOf("far"), ipOf("gw"), lastIp} {
		add(fmt.Sprint("to ip ", ip), packetAs(func(k *impl.Packet) { k.To = ip }))
	}
	for proto := range int64(256) {
		if proto != 1 && proto != 6 && proto != 17 {
			add(fmt.Sprint("of protocol ", proto), packetAs(func(k *impl.Packet) { k.Proto = proto }))
		}
	}
	for _, proto := range []int64{1, 6, 17} {
		_, body := dropPlay(t).body(0, ipOf("me"), map[int64][]string{1: {"echo", "1", "2"}, 6: {"tcp", "9>80", "S", "0"}, 17: {"udp", "7>53"}}[proto], nil)
		add(fmt.Sprintf("of protocol %d from nobody", proto), packetBytes(0, ipOf("me"), proto, body))
	}
	add("without a Ttl", headSealed(put(fine, 8, 0)))
	add("another sum", put(fine, 11, fine[11]^1))
	for _, b := range []byte{0, 64, 68, 70, 85, 101} {
		add(fmt.Sprintf("%d as the first byte", b), headSealed(put(fine, 0, b)))
	}
	for _, word := range []int{1, 8191, 8192, 16383, 16385, 24576, 32768, 65535} {
		add(fmt.Sprintf("cut, %d", word), headSealed(putWord(fine, 6, word)))
	}
	for _, length := range []int{0, 19, len(fine) + 1, 581, 65535} {
		add(fmt.Sprintf("%d as its length", length), headSealed(putWord(fine, 2, length)))
	}
	add("19 bytes", fine[:19])
	add("nothing", nil)
	wantAllDropped(t, dropHost(), list)
	looked := []named{}
	for _, ttl := range []int64{1, 2, 64, 255} {
		looked = append(looked, named{fmt.Sprint("Ttl of ", ttl), frameBytes(10, 11, impl.KindIp, packetAs(func(k *impl.Packet) { k.Ttl = ttl }))})
	}
	for _, from := range []int64{1, ipOf("me"), ipOf("far"), ipOf("all"), lastIp} {
		looked = append(looked, named{fmt.Sprint("from ip ", from), frameBytes(10, 11, impl.KindIp, packetAs(func(k *impl.Packet) { k.From = from }))})
	}
	looked = append(looked, named{"may be cut", frameBytes(10, 11, impl.KindIp, headSealed(putWord(fine, 6, 0)))})
	wantLookedAt(t, dropHost(), looked)
}

// inPackets tells bodies of one protocol as frames.
func inPackets(proto int64, bodies []named) []named {
	list := []named{}
	for _, one := range bodies {
		list = append(list, named{one.name, frameBytes(10, 11, impl.KindIp, packetBytes(ipOf("b"), ipOf("me"), proto, one.data))})
	}
	return list
}

func TestP10EchosThatAreDropped(t *testing.T) {
	list := []named{{"nothing", nil}}
	for _, isReply := range []bool{false, true} {
		fine := impl.PackEcho(impl.Echo{Reply: isReply, Id: 3, Seq: 4, Data: []byte("abcd")}).Bytes
		list = append(list, named{"7 bytes", fine[:7]}, named{"11 bytes", fine[:11]}, named{"another sum", put(fine, 3, fine[3]^1)})
		for _, b := range []byte{1, 3, 5, 9, 11, 255} {
			list = append(list, named{fmt.Sprintf("%d as the first byte", b), echoSealed(put(fine, 0, b))}, named{fmt.Sprintf("%d as the second byte", b), echoSealed(put(fine, 1, b))})
		}
	}
	wantAllDropped(t, dropHost(), inPackets(1, list))
}

func TestP10DatagramsThatAreDropped(t *testing.T) {
	b, me := ipOf("b"), ipOf("me")
	fine := impl.PackDatagram(b, me, impl.Datagram{FromPort: 7, ToPort: 53, Data: []byte("hello")}).Bytes
	list := []named{
		{"nothing", nil}, {"7 bytes", fine[:7]}, {"12 bytes", fine[:12]}, {"another sum", put(fine, 7, fine[7]^1)},
		{"the sum of others", impl.PackDatagram(ipOf("c"), me, impl.Datagram{FromPort: 7, ToPort: 53, Data: []byte("hello")}).Bytes},
	}
	for _, length := range []int{0, 7, 8, 12, 14, 65535} {
		list = append(list, named{fmt.Sprintf("%d as its length", length), datagramSealed(b, me, putWord(fine, 4, length))})
	}
	for _, port := range []int{0, 1, 7, 52, 54, 80, 5000, 6000, 53 + 256, 53 * 256, 65535} {
		list = append(list, named{fmt.Sprint("to port ", port), datagramSealed(b, me, putWord(fine, 2, port))})
	}
	list = append(list, named{"from port 0", datagramSealed(b, me, putWord(fine, 0, 0))})
	wantAllDropped(t, dropHost(), inPackets(17, list))
	wantLookedAt(t, dropHost(), inPackets(17, []named{{"without a sum", putWord(fine, 6, 0)}, {"from its own port", datagramSealed(b, me, putWord(fine, 0, 53))}}))
	for _, port := range []int64{1, 53, 80, 65535} {
		other := dropHost()
		other.Udp = port
		own := named{fmt.Sprint("to its port ", port), datagramSealed(b, me, putWord(fine, 2, int(port)))}
		wantLookedAt(t, other, inPackets(17, []named{own}))
		wantBool(t, "IsForHost with another port", impl.IsForHost(other, inPackets(17, []named{{"", fine}})[0].data), port == 53)
	}
}

func TestP10SegmentsThatAreDropped(t *testing.T) {
	b, me := ipOf("b"), ipOf("me")
	list := []named{{"nothing", nil}}
	for _, s := range []impl.Segment{
		{FromPort: 9, ToPort: 9, Seq: 5000, Flags: impl.FlagSyn},
		{FromPort: 9, ToPort: 80, Seq: 5000, Flags: impl.FlagSyn, Data: []byte("abcd")},
		{FromPort: 80, ToPort: 5000, Seq: 5000, Ack: 1001, Flags: impl.FlagSyn + impl.FlagAck},
	} {
		fine := segmentSealed(b, me, segmentBytes(s, nil))
		list = append(list, named{"19 bytes", fine[:19]}, named{"another sum", put(fine, 17, fine[17]^1)}, named{"the sum of others", segmentSealed(ipOf("c"), me, segmentBytes(s, nil))})
		for _, head := range []byte{0, 16, 64, 112, 240} {
			list = append(list, named{fmt.Sprintf("%d as its head", head), segmentSealed(b, me, put(fine, 12, head))})
		}
		for _, options := range [][]byte{{2, 4, 1, 1, 2, 3, 1, 0}, {5, 1, 0, 0}, {1, 1, 1, 2}, {3, 9, 0, 0}, {4, 0, 0, 0}} {
			list = append(list, named{fmt.Sprint("options ", options), segmentSealed(b, me, segmentBytes(s, options))})
		}
		list = append(list, named{"from port 0", segmentSealed(b, me, putWord(fine, 0, 0))}, named{"to port 0", segmentSealed(b, me, putWord(fine, 2, 0))})
		long := s
		long.Data = mixed(521)
		list = append(list, named{"521 bytes", segmentSealed(b, me, segmentBytes(long, nil))})
		long.Data = mixed(540)
		list = append(list, named{"540 bytes", segmentSealed(b, me, segmentBytes(long, nil))})
	}
	wantAllDropped(t, dropHost(), inPackets(6, list))
	s := impl.Segment{FromPort: 9, ToPort: 80, Seq: 5000, Flags: impl.FlagSyn, Data: mixed(520)}
	wantLookedAt(t, dropHost(), inPackets(6, []named{
		{"520 bytes", segmentSealed(b, me, segmentBytes(s, nil))}, {"options", segmentSealed(b, me, segmentBytes(s, []byte{1, 1, 1, 0, 9, 9, 9, 9}))},
	}))
}

func TestP10TheInboxIsFull(t *testing.T) {
	inHostPlays(t, "four letters", aHost(), func(p *hostPlay) {
		p.do("b>me udp 1>53 :v", "c>me udp 2>53 :w", "far>me udp 3>53", "b>me udp 1>53 :y").wantHost("drops=0 inbox=b:1>53:v,c:2>53:w,far:3>53:,b:1>53:y")
		p.do("b>me udp 5>53 :z").wantDropped().do("c>me udp 6>53").wantDropped()
		p.do("take").wantReply(impl.OK, 1, "v").do("c>me udp 6>53 :n").wantHost("drops=2 inbox=c:2>53:w,far:3>53:,b:1>53:y,c:6>53:n")
		p.do("c>me udp 6>53 :m").wantDropped()
		// What else comes is looked at.
		p.do("b asks me", "b>me echo 1 2", "b>me pong 1 2").wantFrames("b: me tells b", "b: me>b pong 1 2").wantHost("drops=3 pongs=1")
	})
}

// Nothing comes of these, and yet they are no drop.
func TestP10WhatIsNoDrop(t *testing.T) {
	for _, lines := range situations()[:5] {
		inHostPlays(t, fmt.Sprint("behind ", lines), aHost(), func(p *hostPlay) {
			p.do(lines...)
			p.do("c>me tcp 9>9 R 5").wantNothingTurned().do("c>me tcp 9>9 RA 5 a7").wantNothingTurned().do("c>me tcp 9>80 R 5").wantNothingTurned()
			p.do("c>me tcp 9>80 - 5").wantNothingTurned().do("c>me tcp 9>80 F 5").wantNothingTurned().do("c>me tcp 9>80 P 5 :abc").wantNothingTurned()
			p.do("c>me tcp 9>80 RS 5").wantNothingTurned().do("c>me tcp 9>80 RA 5 a1").wantNothingTurned()
			p.do("c>me pong 7 7").wantOnly("more than Pongs", func(h *impl.Host) { h.Pongs++ })
			p.do("nobody tells me").wantReply(impl.OK, 0, "").wantHost("drops=0").wantFrames()
		})
	}
}
