package tests

import (
	"bytes"
	"fmt"
	"math"
	"testing"

	"loop.example/g00726/impl"
)

// wantPacket holds field against field, and so does not lean on SamePackets, which is itself asked.
func wantPacket(t *testing.T, call string, got impl.PacketResult, code int64, want impl.Packet) {
	t.Helper()
	p := got.Packet
	isSame := p.From == want.From && p.To == want.To && p.Proto == want.Proto && p.Ttl == want.Ttl && bytes.Equal(p.Body, want.Body)
	if got.Code != code || !isSame {
		t.Errorf("%s: code %d, packet %v; want code %d, packet %v", call, got.Code, p, code, want)
	}
}

func wantEcho(t *testing.T, call string, got impl.EchoResult, code int64, want impl.Echo) {
	t.Helper()
	e := got.Echo
	if got.Code != code || e.Reply != want.Reply || e.Id != want.Id || e.Seq != want.Seq || !bytes.Equal(e.Data, want.Data) {
		t.Errorf("%s: code %d, echo %v; want code %d, echo %v", call, got.Code, e, code, want)
	}
}

func namePacket(p impl.Packet) string {
	return fmt.Sprintf("packet from %d to %d, proto %d, ttl %d, with %d bytes", p.From, p.To, p.Proto, p.Ttl, len(p.Body))
}

func nameEcho(e impl.Echo) string {
	return fmt.Sprintf("echo, reply %t, id %d, seq %d, with %d bytes", e.Reply, e.Id, e.Seq, len(e.Data))
}

const examplePacketHead = "45000073000040004011b861c0a80001c0a800c7"
const exampleEcho = "0800f7fc00010002"

func examplePacket() impl.Packet {
	return impl.Packet{From: 3232235521, To: 3232235719, Proto: impl.ProtoUdp, Ttl: 64, Body: make([]byte, 95)}
}

func packed(t *testing.T, p impl.Packet) []byte {
	t.Helper()
	made := impl.PackPacket(p)
	wantCode(t, "PackPacket of the "+namePacket(p), made.Code, impl.OK)
	if len(made.Bytes) != 20+len(p.Body) {
		t.Fatalf("PackPacket of the %s: %d bytes", namePacket(p), len(made.Bytes))
	}
	return made.Bytes
}

// put tells data with another byte at a place, and leaves data as it is.
func put(data []byte, at int, value byte) []byte {
	out := bytes.Clone(data)
	out[at] = value
	return out
}

func putWord(data []byte, at int, word int) []byte {
	return put(put(data, at, byte(word/256)), at+1, byte(word%256))
}

// headSealed makes the sum of the first 20 bytes anew, and echoSealed that of all.
func headSealed(data []byte) []byte {
	return append(impl.SealSum(data[:20], 10).Bytes, data[20:]...)
}

func echoSealed(data []byte) []byte {
	return impl.SealSum(data, 2).Bytes
}

func TestP4Constants(t *testing.T) {
	if impl.MaxData != 560 || impl.FirstTtl != 64 {
		t.Error("a bound is another one")
	}
	if impl.ProtoIcmp != 1 || impl.ProtoTcp != 6 || impl.ProtoUdp != 17 {
		t.Error("a protocol is another one")
	}
}

func TestP4TheExamples(t *testing.T) {
	data := append(unhex(t, examplePacketHead), make([]byte, 95)...)
	wantBytes(t, "PackPacket of the example", impl.PackPacket(examplePacket()), impl.OK, data)
	wantPacket(t, "ReadPacket of the example", impl.ReadPacket(data), impl.OK, examplePacket())
	echo := impl.Echo{Id: 1, Seq: 2}
	wantBytes(t, "PackEcho of the example", impl.PackEcho(echo), impl.OK, unhex(t, exampleEcho))
	wantEcho(t, "ReadEcho of the example", impl.ReadEcho(unhex(t, exampleEcho)), impl.OK, echo)
}

func TestP4BytesOfPackets(t *testing.T) {
	rows := []struct {
		packet impl.Packet
		text   string
	}{
		{impl.Packet{Ttl: 1}, "45000014" + "00004000" + "010079eb" + "00000000" + "00000000"},
		{impl.Packet{From: 0x01020304, To: 0x11121314, Proto: 0x21, Ttl: 0x31, Body: []byte{0x41, 0x42, 0x43}}, "45000017" + "00004000" + "3121219b" + "01020304" + "11121314" + "414243"},
		{impl.Packet{From: impl.MaxIp, To: impl.MaxIp, Proto: 255, Ttl: 255, Body: []byte{0}}, "45000015" + "00004000" + "ffff7aea" + "ffffffff" + "ffffffff" + "00"},
	}
	for _, r := range rows {
		data := unhex(t, r.text)
		wantBytes(t, "PackPacket of the "+namePacket(r.packet), impl.PackPacket(r.packet), impl.OK, data)
		wantPacket(t, "ReadPacket of "+r.text, impl.ReadPacket(data), impl.OK, r.packet)
	}
}

// checkPacket packs a packet and reads it back.
func checkPacket(t *testing.T, p impl.Packet) {
	t.Helper()
	call := namePacket(p)
	wantCode(t, "PacketFault of the "+call, impl.PacketFault(p), impl.OK)
	data := packed(t, p)
	wantBool(t, "IsSummed of the head of the "+call, impl.IsSummed(data[:20]), true)
	back := impl.ReadPacket(data)
	wantPacket(t, "read back: "+call, back, impl.OK, p)
	wantBool(t, "SamePackets of the "+call+" and itself read back", impl.SamePackets(p, back.Packet), true)
}

func TestP4PacketsAreReadBack(t *testing.T) {
	for _, ip := range someIps() {
		for _, proto := range []int64{0, impl.ProtoIcmp, impl.ProtoTcp, impl.ProtoUdp, 254, 255} {
			for _, ttl := range []int64{1, 2, impl.FirstTtl, 254, 255} {
				for _, count := range []int{0, 1, 2, 3, 95, 559, 560} {
					body := mixed(count)
					checkPacket(t, impl.Packet{From: ip, To: 7, Proto: proto, Ttl: ttl, Body: body})
					checkPacket(t, impl.Packet{From: 7, To: ip, Proto: proto, Ttl: ttl, Body: body})
					checkPacket(t, impl.Packet{From: ip, To: impl.MaxIp - ip, Proto: proto, Ttl: ttl, Body: body})
					checkPacket(t, impl.Packet{From: ip, To: ip, Proto: proto, Ttl: ttl, Body: body})
				}
			}
		}
	}
}

func TestP4EachBodyIsReadBack(t *testing.T) {
	for count := range 561 {
		for _, body := range [][]byte{mixed(count), make([]byte, count), repeated(255, count)} {
			checkPacket(t, impl.Packet{From: 5, To: 6, Proto: impl.ProtoTcp, Ttl: impl.FirstTtl, Body: body})
		}
	}
}

func TestP4BytesBehindTheLengthToldAreNotLookedAt(t *testing.T) {
	for _, count := range []int{0, 1, 2, 95, 559, 560} {
		p := impl.Packet{From: 5, To: 6, Proto: impl.ProtoTcp, Ttl: 3, Body: mixed(count)}
		data := packed(t, p)
		for _, more := range []int{1, 2, 7, 20, 580 - count} {
			for _, behind := range [][]byte{mixed(more), make([]byte, more), repeated(255, more)} {
				longer := append(bytes.Clone(data), behind...)
				if len(longer) <= impl.MaxBody {
					wantPacket(t, fmt.Sprintf("ReadPacket with %d bytes in, and %d behind it", count, more), impl.ReadPacket(longer), impl.OK, p)
				}
			}
		}
	}
}

func TestP4ThreeBytesOfTheHeadAreNotLookedAt(t *testing.T) {
	p := impl.Packet{From: 0x01020304, To: 0x11121314, Proto: 6, Ttl: 9, Body: mixed(5)}
	data := packed(t, p)
	for value := range 256 {
		for _, at := range []int{1, 4, 5} {
			other := headSealed(put(data, at, byte(value)))
			wantPacket(t, fmt.Sprintf("ReadPacket with %d at %d", value, at), impl.ReadPacket(other), impl.OK, p)
		}
		all := put(put(put(data, 1, byte(value)), 4, byte(value+1)), 5, byte(value+2))
		wantPacket(t, fmt.Sprintf("ReadPacket with others at 1, 4 and 5, from %d on", value), impl.ReadPacket(headSealed(all)), impl.OK, p)
	}
}

func TestP4TheBytesOfTheNumbers(t *testing.T) {
	p := impl.Packet{From: 0x01020304, To: 0x11121314, Proto: 6, Ttl: 9, Body: mixed(5)}
	data := packed(t, p)
	for value := range 256 {
		n := int64(value)
		for i := range 4 {
			from, to := p, p
			shift := 24 - 8*i
			from.From = from.From&^(255<<shift) | n<<shift
			to.To = to.To&^(255<<shift) | n<<shift
			wantPacket(t, fmt.Sprintf("From with %d at %d", value, i), impl.ReadPacket(headSealed(put(data, 12+i, byte(value)))), impl.OK, from)
			wantPacket(t, fmt.Sprintf("To with %d at %d", value, i), impl.ReadPacket(headSealed(put(data, 16+i, byte(value)))), impl.OK, to)
		}
		proto, ttl := p, p
		proto.Proto, ttl.Ttl = n, n
		wantPacket(t, fmt.Sprintf("Proto %d", value), impl.ReadPacket(headSealed(put(data, 9, byte(value)))), impl.OK, proto)
		if n > 0 {
			wantPacket(t, fmt.Sprintf("Ttl %d", value), impl.ReadPacket(headSealed(put(data, 8, byte(value)))), impl.OK, ttl)
		}
	}
}

func TestP4EachBitOfThePacketHeadIsTold(t *testing.T) {
	packets := []impl.Packet{
		examplePacket(),
		{Ttl: 1},
		{From: impl.MaxIp, To: impl.MaxIp, Proto: 255, Ttl: 255, Body: mixed(560)},
		{From: 0x01020304, To: 0x11121314, Proto: 6, Ttl: 128, Body: mixed(12)},
	}
	for _, p := range packets {
		data := packed(t, p)
		for _, more := range []int{0, 20} {
			longer := append(bytes.Clone(data), mixed(more)...)
			for bit := range 160 {
				turned := put(longer, bit/8, longer[bit/8]^1<<(bit%8))
				read := impl.ReadPacket(turned)
				if read.Code != impl.ErrForm && read.Code != impl.ErrSum {
					t.Errorf("bit %d of the %s turned: code %d", bit, namePacket(p), read.Code)
				}
				wantPacket(t, "ReadPacket with a bit turned", read, read.Code, impl.Packet{})
			}
		}
	}
}

func TestP4ABitOfTheBodyIsNotTold(t *testing.T) {
	p := impl.Packet{From: 1, To: 2, Proto: 6, Ttl: 9, Body: mixed(7)}
	data := packed(t, p)
	for bit := 160; bit < 8*len(data); bit++ {
		turned := put(data, bit/8, data[bit/8]^1<<(bit%8))
		other := p
		other.Body = turned[20:]
		wantPacket(t, fmt.Sprintf("ReadPacket with bit %d turned", bit), impl.ReadPacket(turned), impl.OK, other)
	}
}

// A sum of 0 may be told by two zeros or by two bytes 255: IsSummed takes both.
func TestP4BothFormsOfASumOfZero(t *testing.T) {
	p := impl.Packet{Proto: 0, Ttl: 1, To: 0x79eb}
	data := packed(t, p)
	wantBytes(t, "the sum of the packet", impl.BytesResult{Bytes: data[10:12]}, impl.OK, []byte{0, 0})
	wantPacket(t, "ReadPacket with two zeros", impl.ReadPacket(data), impl.OK, p)
	wantPacket(t, "ReadPacket with two bytes 255", impl.ReadPacket(putWord(data, 10, 65535)), impl.OK, p)
	e := impl.Echo{Id: 0xf7ff}
	echo := impl.PackEcho(e).Bytes
	wantBytes(t, "PackEcho", impl.BytesResult{Bytes: echo}, impl.OK, unhex(t, "08000000f7ff0000"))
	wantEcho(t, "ReadEcho with two zeros", impl.ReadEcho(echo), impl.OK, e)
	wantEcho(t, "ReadEcho with two bytes 255", impl.ReadEcho(putWord(echo, 2, 65535)), impl.OK, e)
}

func TestP4BytesOfEchos(t *testing.T) {
	rows := []struct {
		echo impl.Echo
		text string
	}{
		{impl.Echo{}, "0800f7ff00000000"},
		{impl.Echo{Reply: true}, "0000ffff00000000"},
		{impl.Echo{Reply: true, Id: 1, Seq: 2}, "0000fffc00010002"},
		{impl.Echo{Id: 0x0102, Seq: 0x0304, Data: []byte{0x11}}, "0800e2f90102030411"},
		{impl.Echo{Reply: true, Id: 0x0102, Seq: 0x0304, Data: []byte{0x11, 0x12}}, "0000eae7010203041112"},
		{impl.Echo{Id: 65535, Seq: 65535}, "0800f7ffffffffff"},
	}
	for _, r := range rows {
		data := unhex(t, r.text)
		wantBytes(t, "PackEcho of the "+nameEcho(r.echo), impl.PackEcho(r.echo), impl.OK, data)
		wantEcho(t, "ReadEcho of "+r.text, impl.ReadEcho(data), impl.OK, r.echo)
	}
}

// checkEcho packs an echo and reads it back.
func checkEcho(t *testing.T, e impl.Echo) {
	t.Helper()
	call := nameEcho(e)
	wantCode(t, "EchoFault of the "+call, impl.EchoFault(e), impl.OK)
	made := impl.PackEcho(e)
	if made.Code != impl.OK || len(made.Bytes) != 8+len(e.Data) {
		t.Fatalf("PackEcho of the %s: code %d, %d bytes", call, made.Code, len(made.Bytes))
	}
	wantBool(t, "IsSummed of the "+call, impl.IsSummed(made.Bytes), true)
	wantEcho(t, "read back: "+call, impl.ReadEcho(made.Bytes), impl.OK, e)
}

func TestP4EchosAreReadBack(t *testing.T) {
	words := []int64{0, 1, 255, 256, 0x0102, 65534, 65535}
	for _, isReply := range []bool{false, true} {
		for _, id := range words {
			for _, seq := range words {
				for _, count := range []int{0, 1, 2, 3, 551, 552} {
					checkEcho(t, impl.Echo{Reply: isReply, Id: id, Seq: seq, Data: mixed(count)})
				}
			}
		}
	}
}

func TestP4EachDataOfAnEchoIsReadBack(t *testing.T) {
	for count := range 553 {
		for _, data := range [][]byte{mixed(count), make([]byte, count), repeated(255, count)} {
			checkEcho(t, impl.Echo{Id: 5, Seq: 6, Data: data})
			checkEcho(t, impl.Echo{Reply: true, Id: 5, Seq: 6, Data: data})
		}
	}
}

func TestP4EachBitOfAnEchoIsTold(t *testing.T) {
	echos := []impl.Echo{
		{}, {Reply: true}, {Id: 1, Seq: 2}, {Reply: true, Id: 65535, Seq: 65535, Data: []byte{255}}, {Id: 3, Seq: 4, Data: mixed(552)},
	}
	for _, e := range echos {
		data := impl.PackEcho(e).Bytes
		for bit := range 8 * len(data) {
			turned := put(data, bit/8, data[bit/8]^1<<(bit%8))
			wantEcho(t, fmt.Sprintf("bit %d of the %s turned", bit, nameEcho(e)), impl.ReadEcho(turned), impl.ErrSum, impl.Echo{})
		}
	}
}

func TestP4AnEchoIsReadBackAsTheBodyOfAPacket(t *testing.T) {
	for _, count := range []int{0, 1, 551, 552} {
		e := impl.Echo{Id: 7, Seq: 8, Data: mixed(count)}
		body := impl.PackEcho(e).Bytes
		data := packed(t, impl.Packet{From: 1, To: 2, Proto: impl.ProtoIcmp, Ttl: impl.FirstTtl, Body: body})
		frame := impl.PackFrame(impl.Frame{To: 3, From: 4, Kind: impl.KindIp, Body: append(data, 0, 0, 0)})
		read := impl.ReadPacket(impl.ReadFrame(frame.Bytes).Frame.Body)
		wantEcho(t, fmt.Sprintf("an echo with %d bytes, in a packet, in a frame", count), impl.ReadEcho(read.Packet.Body), impl.OK, e)
	}
}

// checkOnePacketField turns one field after the other of a packet.
func checkOnePacketField(t *testing.T, call string, p impl.Packet) {
	t.Helper()
	copied := p
	copied.Body = bytes.Clone(p.Body)
	wantSame(t, impl.SamePackets, call+": a copy", p, copied, true)
	from, to, proto, ttl, longer := p, p, p, p, p
	from.From ^= 1
	to.To ^= 1
	proto.Proto ^= 1
	ttl.Ttl ^= 1
	longer.Body = append(bytes.Clone(p.Body), 0)
	wantSame(t, impl.SamePackets, call+": another From", p, from, false)
	wantSame(t, impl.SamePackets, call+": another To", p, to, false)
	wantSame(t, impl.SamePackets, call+": another Proto", p, proto, false)
	wantSame(t, impl.SamePackets, call+": another Ttl", p, ttl, false)
	wantSame(t, impl.SamePackets, call+": one byte more", p, longer, false)
	for at := range p.Body {
		turned := p
		turned.Body = put(p.Body, at, p.Body[at]^1)
		wantSame(t, impl.SamePackets, fmt.Sprintf("%s: another byte at %d", call, at), p, turned, false)
	}
}

func TestP4SamePackets(t *testing.T) {
	checkOnePacketField(t, "no body", impl.Packet{From: 1, To: 2, Proto: 3, Ttl: 4})
	checkOnePacketField(t, "one byte", impl.Packet{From: 1, To: 2, Proto: 3, Ttl: 4, Body: []byte{0}})
	checkOnePacketField(t, "560 bytes", impl.Packet{From: impl.MaxIp, To: impl.MaxIp, Proto: 255, Ttl: 255, Body: mixed(560)})
	p := impl.Packet{From: 1, To: 2, Proto: 3, Ttl: 4}
	wantSame(t, impl.SamePackets, "From and To changed", p, impl.Packet{From: 2, To: 1, Proto: 3, Ttl: 4}, false)
	wantSame(t, impl.SamePackets, "Proto and Ttl changed", p, impl.Packet{From: 1, To: 2, Proto: 4, Ttl: 3}, false)
	wantSame(t, impl.SamePackets, "nil and an empty body", impl.Packet{Ttl: 1}, impl.Packet{Ttl: 1, Body: []byte{}}, true)
}

func TestP4SamePacketsOfPacketsWithAFault(t *testing.T) {
	checkOnePacketField(t, "all zero", impl.Packet{})
	checkOnePacketField(t, "all below", impl.Packet{From: -1, To: -2, Proto: -3, Ttl: -4, Body: []byte{1}})
	checkOnePacketField(t, "all above", impl.Packet{From: impl.MaxIp + 1, To: impl.MaxIp + 2, Proto: 256, Ttl: 257, Body: []byte{1}})
	checkOnePacketField(t, "the lowest", impl.Packet{From: math.MinInt64, To: math.MinInt64, Proto: math.MinInt64, Ttl: math.MinInt64})
	checkOnePacketField(t, "the highest", impl.Packet{From: math.MaxInt64, To: math.MaxInt64, Proto: math.MaxInt64, Ttl: math.MaxInt64})
	checkOnePacketField(t, "561 bytes", impl.Packet{Ttl: 1, Body: mixed(561)})
	checkOnePacketField(t, "1500 bytes", impl.Packet{From: -1, Body: mixed(1500)})
	// Numbers that are alike in the bytes that a packet has room for are not the same.
	wantSame(t, impl.SamePackets, "a From that is a round further on", impl.Packet{From: 1}, impl.Packet{From: impl.MaxIp + 2}, false)
	wantSame(t, impl.SamePackets, "a To that is a round further on", impl.Packet{To: 1}, impl.Packet{To: impl.MaxIp + 2}, false)
	wantSame(t, impl.SamePackets, "a Proto that is a round further on", impl.Packet{Proto: 1}, impl.Packet{Proto: 257}, false)
	wantSame(t, impl.SamePackets, "a Ttl that is a round further on", impl.Packet{Ttl: 1}, impl.Packet{Ttl: 257}, false)
}

func wantPacketFault(t *testing.T, p impl.Packet, code int64) {
	t.Helper()
	wantCode(t, "PacketFault of the "+namePacket(p), impl.PacketFault(p), code)
	wantBytes(t, "PackPacket of the "+namePacket(p), impl.PackPacket(p), code, nil)
}

func TestP1PacketCodes(t *testing.T) {
	wantPacketFault(t, impl.Packet{}, impl.ErrRange)
	// A body that is too long does not change the code: the numbers are asked ahead of it.
	for _, body := range [][]byte{nil, {}, {1}, mixed(560), mixed(561), mixed(5000)} {
		for _, none := range noIp() {
			wantPacketFault(t, impl.Packet{From: none, To: 1, Proto: 1, Ttl: 1, Body: body}, impl.ErrRange)
			wantPacketFault(t, impl.Packet{From: 1, To: none, Proto: 1, Ttl: 1, Body: body}, impl.ErrRange)
			wantPacketFault(t, impl.Packet{From: none, To: none, Proto: none, Ttl: none, Body: body}, impl.ErrRange)
		}
		for _, none := range []int64{-1, 256, 257, 65536, math.MinInt64, math.MaxInt64} {
			wantPacketFault(t, impl.Packet{From: 1, To: 1, Proto: none, Ttl: 1, Body: body}, impl.ErrRange)
			wantPacketFault(t, impl.Packet{From: 1, To: 1, Proto: 1, Ttl: none, Body: body}, impl.ErrRange)
		}
		wantPacketFault(t, impl.Packet{From: 1, To: 1, Proto: 1, Ttl: 0, Body: body}, impl.ErrRange)
	}
	for _, count := range []int{561, 562, 580, 581, 600, 601, 700, 5000} {
		wantPacketFault(t, impl.Packet{Ttl: 1, Body: make([]byte, count)}, impl.ErrMany)
		wantPacketFault(t, impl.Packet{From: impl.MaxIp, To: impl.MaxIp, Proto: 255, Ttl: 255, Body: mixed(count)}, impl.ErrMany)
	}
	checkPacket(t, impl.Packet{Ttl: 1, Body: nil})
	checkPacket(t, impl.Packet{Ttl: 1, Body: []byte{}})
	checkPacket(t, impl.Packet{From: impl.MaxIp, To: impl.MaxIp, Proto: 255, Ttl: 255, Body: mixed(560)})
}

func TestP1ReadPacketAsksHowMany(t *testing.T) {
	p := impl.Packet{From: 1, To: 2, Proto: 3, Ttl: 4}
	data := packed(t, p)
	wantPacket(t, "ReadPacket of nil", impl.ReadPacket(nil), impl.ErrMany, impl.Packet{})
	wantPacket(t, "ReadPacket of no bytes", impl.ReadPacket([]byte{}), impl.ErrMany, impl.Packet{})
	for count := range 20 {
		// Here the rest stands behind the end, in the same memory.
		wantPacket(t, fmt.Sprintf("ReadPacket of the first %d bytes", count), impl.ReadPacket(data[:count]), impl.ErrMany, impl.Packet{})
	}
	for _, count := range []int{20, 21, 580, 581, 599, 600} {
		longer := append(bytes.Clone(data), mixed(count-20)...)
		wantPacket(t, fmt.Sprintf("ReadPacket of %d bytes", count), impl.ReadPacket(longer), impl.OK, p)
	}
	for _, count := range []int{601, 602, 614, 700, 701, 5000} {
		longer := append(bytes.Clone(data), mixed(count-20)...)
		wantPacket(t, fmt.Sprintf("ReadPacket of %d bytes", count), impl.ReadPacket(longer), impl.ErrMany, impl.Packet{})
	}
}

func TestP1ReadPacketAsksTheCodesInOrder(t *testing.T) {
	good := packed(t, impl.Packet{From: 1, To: 2, Proto: 3, Ttl: 4})
	mark := headSealed(put(good, 0, 70))
	length := headSealed(putWord(good, 2, 19))
	cut := headSealed(putWord(good, 6, 8192))
	noTtl := headSealed(put(good, 8, 0))
	sum := putWord(good, 10, 1)
	rows := []struct {
		call string
		data []byte
		code int64
	}{
		{"all is right", good, impl.OK},
		{"no mark", mark, impl.ErrForm},
		{"no length", length, impl.ErrForm},
		{"cut", cut, impl.ErrForm},
		{"no sum", sum, impl.ErrSum},
		{"no ttl", noTtl, impl.ErrRange},
		{"no mark, no sum", putWord(mark, 10, 1), impl.ErrForm},
		{"no length, no sum", putWord(length, 10, 1), impl.ErrForm},
		{"cut, no sum", putWord(cut, 10, 1), impl.ErrForm},
		{"no mark, no ttl", headSealed(put(mark, 8, 0)), impl.ErrForm},
		{"no length, no ttl", headSealed(put(length, 8, 0)), impl.ErrForm},
		{"cut, no ttl", headSealed(put(cut, 8, 0)), impl.ErrForm},
		{"no sum, no ttl", putWord(noTtl, 10, 1), impl.ErrSum},
		{"nothing is right", make([]byte, 20), impl.ErrForm},
		{"all bytes 255", repeated(255, 20), impl.ErrForm},
		{"19 bytes, nothing is right", make([]byte, 19), impl.ErrMany},
		{"601 bytes, nothing is right", make([]byte, 601), impl.ErrMany},
		{"601 bytes, no sum", append(bytes.Clone(sum), make([]byte, 581)...), impl.ErrMany},
		{"601 bytes, no ttl", append(bytes.Clone(noTtl), make([]byte, 581)...), impl.ErrMany},
	}
	for _, r := range rows {
		want := impl.Packet{}
		if r.code == impl.OK {
			want = impl.Packet{From: 1, To: 2, Proto: 3, Ttl: 4}
		}
		wantPacket(t, "ReadPacket: "+r.call, impl.ReadPacket(r.data), r.code, want)
	}
}

func TestP1ReadPacketAsksTheMark(t *testing.T) {
	p := impl.Packet{From: 1, To: 2, Proto: 3, Ttl: 4, Body: mixed(9)}
	data := packed(t, p)
	for value := range 256 {
		code, want := int64(impl.ErrForm), impl.Packet{}
		if value == 69 {
			code, want = impl.OK, p
		}
		wantPacket(t, fmt.Sprintf("ReadPacket that begins with %d", value), impl.ReadPacket(headSealed(put(data, 0, byte(value)))), code, want)
	}
}

func TestP1ReadPacketAsksTheLengthTold(t *testing.T) {
	for _, count := range []int{20, 21, 22, 115, 579, 580, 581, 599, 600} {
		data := append(packed(t, impl.Packet{From: 1, To: 2, Proto: 3, Ttl: 4}), mixed(count-20)...)
		lengths := []int{0, 1, 19, 20, 21, 255, 256, 257, count - 1, count, count + 1, 579, 580, 581, 599, 600, 601, 32768, 65535, 256 + count, 65536 - count}
		for _, length := range lengths {
			code, want := int64(impl.ErrForm), impl.Packet{}
			if length >= 20 && length <= count && length <= 580 {
				code, want = impl.OK, impl.Packet{From: 1, To: 2, Proto: 3, Ttl: 4, Body: data[20:length]}
			}
			wantPacket(t, fmt.Sprintf("ReadPacket of %d bytes that tell %d", count, length), impl.ReadPacket(headSealed(putWord(data, 2, length))), code, want)
		}
	}
}

func TestP1ReadPacketTakesNothingFromBehindTheEnd(t *testing.T) {
	data := packed(t, impl.Packet{From: 1, To: 2, Proto: 3, Ttl: 4, Body: mixed(30)})
	for count := 20; count < 50; count++ {
		wantPacket(t, fmt.Sprintf("ReadPacket of the first %d of 50 bytes", count), impl.ReadPacket(data[:count]), impl.ErrForm, impl.Packet{})
	}
}

func TestP1ReadPacketAsksWhetherItIsCut(t *testing.T) {
	p := impl.Packet{From: 1, To: 2, Proto: 3, Ttl: 4, Body: mixed(9)}
	data := packed(t, p)
	for _, word := range []int{0, 16384} {
		wantPacket(t, fmt.Sprintf("ReadPacket with %d at 6", word), impl.ReadPacket(headSealed(putWord(data, 6, word))), impl.OK, p)
	}
	for bit := range 16 {
		words := []int{1 << bit, 16384 | 1<<bit, 65535 ^ 1<<bit}
		for _, word := range words {
			if word != 16384 {
				wantPacket(t, fmt.Sprintf("ReadPacket with %d at 6", word), impl.ReadPacket(headSealed(putWord(data, 6, word))), impl.ErrForm, impl.Packet{})
			}
		}
	}
	wantPacket(t, "ReadPacket with 64 at 7", impl.ReadPacket(headSealed(putWord(data, 6, 64))), impl.ErrForm, impl.Packet{})
}

func TestP1ReadPacketAsksTheSum(t *testing.T) {
	data := packed(t, impl.Packet{From: 1, To: 2, Proto: 3, Ttl: 4, Body: mixed(9)})
	for sum := range 65536 {
		other := putWord(data, 10, sum)
		if bytes.Equal(other, data) {
			continue
		}
		if code := impl.ReadPacket(other).Code; code != impl.ErrSum {
			t.Fatalf("ReadPacket with the sum %d: code %d", sum, code)
		}
	}
	// The sum is of the head alone: one over all does not do.
	all := impl.SealSum(data, 10).Bytes
	wantPacket(t, "ReadPacket with a sum over all", impl.ReadPacket(all), impl.ErrSum, impl.Packet{})
}

func TestP1ReadPacketAsksTheTtl(t *testing.T) {
	for _, p := range []impl.Packet{{Ttl: 1}, {From: impl.MaxIp, To: impl.MaxIp, Proto: 255, Ttl: 255, Body: mixed(560)}} {
		data := headSealed(put(packed(t, p), 8, 0))
		wantPacket(t, "ReadPacket with the ttl 0", impl.ReadPacket(data), impl.ErrRange, impl.Packet{})
		p.Ttl = 1
		wantPacket(t, "ReadPacket with the ttl 1", impl.ReadPacket(headSealed(put(data, 8, 1))), impl.OK, p)
	}
}

func wantEchoFault(t *testing.T, e impl.Echo, code int64) {
	t.Helper()
	wantCode(t, "EchoFault of the "+nameEcho(e), impl.EchoFault(e), code)
	wantBytes(t, "PackEcho of the "+nameEcho(e), impl.PackEcho(e), code, nil)
}

func TestP1EchoCodes(t *testing.T) {
	for _, isReply := range []bool{false, true} {
		// Data that is too long does not change the code: the numbers are asked ahead of it.
		for _, data := range [][]byte{nil, {}, {1}, mixed(552), mixed(553), mixed(5000)} {
			for _, none := range noWord() {
				wantEchoFault(t, impl.Echo{Reply: isReply, Id: none, Seq: 1, Data: data}, impl.ErrRange)
				wantEchoFault(t, impl.Echo{Reply: isReply, Id: 1, Seq: none, Data: data}, impl.ErrRange)
				wantEchoFault(t, impl.Echo{Reply: isReply, Id: none, Seq: none, Data: data}, impl.ErrRange)
			}
		}
		for _, count := range []int{553, 554, 560, 561, 692, 693, 700, 5000} {
			wantEchoFault(t, impl.Echo{Reply: isReply, Data: make([]byte, count)}, impl.ErrMany)
			wantEchoFault(t, impl.Echo{Reply: isReply, Id: 65535, Seq: 65535, Data: mixed(count)}, impl.ErrMany)
		}
		checkEcho(t, impl.Echo{Reply: isReply, Data: nil})
		checkEcho(t, impl.Echo{Reply: isReply, Data: []byte{}})
		checkEcho(t, impl.Echo{Reply: isReply, Id: 65535, Seq: 65535, Data: mixed(552)})
	}
}

func TestP1ReadEchoAsksHowMany(t *testing.T) {
	wantEcho(t, "ReadEcho of nil", impl.ReadEcho(nil), impl.ErrMany, impl.Echo{})
	wantEcho(t, "ReadEcho of no bytes", impl.ReadEcho([]byte{}), impl.ErrMany, impl.Echo{})
	for count := range 8 {
		data := echoSealed(put(make([]byte, 8), 0, 8))
		wantEcho(t, fmt.Sprintf("ReadEcho of the first %d bytes", count), impl.ReadEcho(data[:count]), impl.ErrMany, impl.Echo{})
		if count >= 4 {
			// These have a sum that is right.
			wantEcho(t, fmt.Sprintf("ReadEcho of %d bytes", count), impl.ReadEcho(echoSealed(make([]byte, count))), impl.ErrMany, impl.Echo{})
		}
	}
	for _, count := range []int{8, 9, 559, 560} {
		wantEcho(t, fmt.Sprintf("ReadEcho of %d bytes", count), impl.ReadEcho(echoSealed(make([]byte, count))), impl.OK, impl.Echo{Reply: true, Data: make([]byte, count-8)})
	}
	for _, count := range []int{561, 562, 568, 600, 700} {
		wantEcho(t, fmt.Sprintf("ReadEcho of %d bytes", count), impl.ReadEcho(echoSealed(make([]byte, count))), impl.ErrMany, impl.Echo{})
	}
	for _, count := range []int{7, 561, 701, 5000} {
		wantEcho(t, fmt.Sprintf("ReadEcho of %d bytes with no sum and no form", count), impl.ReadEcho(repeated(7, count)), impl.ErrMany, impl.Echo{})
	}
}

func TestP1ReadEchoAsksTheFirstTwoBytes(t *testing.T) {
	for _, count := range []int{8, 9, 560} {
		data := putWord(mixed(count), 0, 0)
		id, seq := int64(data[4])*256+int64(data[5]), int64(data[6])*256+int64(data[7])
		for value := range 256 {
			code, want := int64(impl.ErrForm), impl.Echo{}
			if value == 8 || value == 0 {
				code, want = impl.OK, impl.Echo{Reply: value == 0, Id: id, Seq: seq, Data: data[8:]}
			}
			wantEcho(t, fmt.Sprintf("ReadEcho of %d bytes that begin with %d", count, value), impl.ReadEcho(echoSealed(put(data, 0, byte(value)))), code, want)
			if value > 0 {
				for _, first := range []int{0, 8, 7} {
					other := echoSealed(putWord(data, 0, 256*first+value))
					wantEcho(t, fmt.Sprintf("ReadEcho of %d bytes that begin with %d and %d", count, first, value), impl.ReadEcho(other), impl.ErrForm, impl.Echo{})
				}
			}
		}
	}
}

func TestP1ReadEchoAsksTheSumAheadOfTheForm(t *testing.T) {
	for _, count := range []int{8, 9, 559, 560} {
		data := make([]byte, count)
		wantEcho(t, fmt.Sprintf("ReadEcho of %d zeros", count), impl.ReadEcho(data), impl.ErrSum, impl.Echo{})
		wantEcho(t, fmt.Sprintf("ReadEcho of a 3 and %d zeros", count-1), impl.ReadEcho(put(data, 0, 3)), impl.ErrSum, impl.Echo{})
		wantEcho(t, fmt.Sprintf("ReadEcho of a 0, a 1 and %d zeros", count-2), impl.ReadEcho(put(data, 1, 1)), impl.ErrSum, impl.Echo{})
	}
	echo := unhex(t, exampleEcho)
	for sum := range 65536 {
		other := putWord(echo, 2, sum)
		if bytes.Equal(other, echo) {
			continue
		}
		if code := impl.ReadEcho(other).Code; code != impl.ErrSum {
			t.Fatalf("ReadEcho with the sum %d: code %d", sum, code)
		}
	}
	// All of it counts: a byte behind it is part of it.
	wantEcho(t, "ReadEcho with a byte behind it", impl.ReadEcho(append(echo, 1)), impl.ErrSum, impl.Echo{})
}

func TestP1NoPacketIsChanged(t *testing.T) {
	for _, count := range []int{0, 1, 7, 8, 9, 19, 20, 21, 115, 552, 553, 560, 561, 600, 601} {
		for _, head := range []string{"", examplePacketHead, exampleEcho} {
			given := make([]byte, count)
			copy(given, unhex(t, head))
			data, whole := withSpare(given)
			before := bytes.Clone(whole)
			for _, ttl := range []int64{0, 1} {
				p := impl.Packet{From: 1, To: 2, Proto: 3, Ttl: ttl, Body: data}
				impl.PacketFault(p)
				impl.PackPacket(p)
				impl.SamePackets(p, p)
				impl.SamePackets(p, impl.Packet{From: 1, To: 2, Proto: 3, Ttl: ttl, Body: mixed(count)})
				e := impl.Echo{Reply: ttl == 0, Id: 1, Seq: 2, Data: data}
				impl.EchoFault(e)
				impl.PackEcho(e)
			}
			impl.ReadPacket(data)
			impl.ReadEcho(data)
			if !bytes.Equal(whole, before) {
				t.Errorf("%d bytes, or what is behind them, were changed", count)
			}
		}
	}
}

func TestP1PacketsAreNewMemory(t *testing.T) {
	for _, count := range []int{0, 1, 2, 95, 551, 552} {
		body, wholeBody := withSpare(mixed(count))
		made := impl.PackPacket(impl.Packet{From: 1, To: 2, Proto: 3, Ttl: 4, Body: body})
		wantNoSharing(t, fmt.Sprintf("PackPacket with %d bytes", count), wholeBody, made.Bytes)
		data, wholeData := withSpare(made.Bytes)
		wantNoSharing(t, fmt.Sprintf("ReadPacket with %d bytes", count), wholeData, impl.ReadPacket(data).Packet.Body)
		longer, wholeLonger := withSpare(append(bytes.Clone(made.Bytes), 1, 2, 3))
		wantNoSharing(t, fmt.Sprintf("ReadPacket with %d bytes and three behind", count), wholeLonger, impl.ReadPacket(longer).Packet.Body)
		echo := impl.PackEcho(impl.Echo{Id: 1, Seq: 2, Data: body})
		wantNoSharing(t, fmt.Sprintf("PackEcho with %d bytes", count), wholeBody, echo.Bytes)
		echoData, wholeEcho := withSpare(echo.Bytes)
		wantNoSharing(t, fmt.Sprintf("ReadEcho with %d bytes", count), wholeEcho, impl.ReadEcho(echoData).Echo.Data)
	}
}

func TestP1PacketAnswersHangOnTheArgumentsAlone(t *testing.T) {
	p, e := examplePacket(), impl.Echo{Id: 1, Seq: 2, Data: []byte{9}}
	data := append(unhex(t, examplePacketHead), make([]byte, 95)...)
	for range 3 {
		made := impl.PackPacket(p)
		wantBytes(t, "PackPacket", made, impl.OK, data)
		read := impl.ReadPacket(data)
		wantPacket(t, "ReadPacket", read, impl.OK, p)
		echo := impl.PackEcho(e)
		wantBytes(t, "PackEcho", echo, impl.OK, unhex(t, "0800eefc0001000209"))
		echoRead := impl.ReadEcho(unhex(t, "0800eefc0001000209"))
		wantEcho(t, "ReadEcho", echoRead, impl.OK, e)
		flipAll(made.Bytes[:cap(made.Bytes)])
		flipAll(read.Packet.Body[:cap(read.Packet.Body)])
		flipAll(echo.Bytes[:cap(echo.Bytes)])
		flipAll(echoRead.Echo.Data[:cap(echoRead.Echo.Data)])
		wantPacket(t, "ReadPacket of 19 bytes", impl.ReadPacket(data[:19]), impl.ErrMany, impl.Packet{})
		wantEcho(t, "ReadEcho of 7 bytes", impl.ReadEcho(mixed(7)), impl.ErrMany, impl.Echo{})
	}
}
