package tests

import (
	"bytes"
	"encoding/binary"
	"fmt"
	"math"
	"testing"

	"loop.example/g00726/impl"
)

const lastSeq = 4294967295

// wantSegment holds field against field, and so does not lean on SameSegments, which is itself asked.
func wantSegment(t *testing.T, call string, got impl.SegmentResult, code int64, want impl.Segment) {
	t.Helper()
	s := got.Segment
	arePorts := s.FromPort == want.FromPort && s.ToPort == want.ToPort
	areNumbers := s.Seq == want.Seq && s.Ack == want.Ack && s.Flags == want.Flags && s.Window == want.Window && s.Mss == want.Mss
	if got.Code != code || !arePorts || !areNumbers || !bytes.Equal(s.Data, want.Data) {
		t.Errorf("%s: code %d, segment %v; want code %d, segment %v", call, got.Code, s, code, want)
	}
}

func nameSegment(s impl.Segment) string {
	return fmt.Sprintf("segment from port %d to port %d, Seq %d, Ack %d, Flags %d, Window %d, Mss %d, with %d bytes",
		s.FromPort, s.ToPort, s.Seq, s.Ack, s.Flags, s.Window, s.Mss, len(s.Data))
}

// segmentBytes tells a segment with whatever options, in another way than the program does, and without its sum. The Mss is not among them.
func segmentBytes(s impl.Segment, options []byte) []byte {
	data := binary.BigEndian.AppendUint16(nil, uint16(s.FromPort))
	data = binary.BigEndian.AppendUint16(data, uint16(s.ToPort))
	data = binary.BigEndian.AppendUint32(data, uint32(s.Seq))
	data = binary.BigEndian.AppendUint32(data, uint32(s.Ack))
	data = append(data, byte((20+len(options))/4<<4), byte(s.Flags))
	data = binary.BigEndian.AppendUint16(data, uint16(s.Window))
	data = append(data, 0, 0, 0, 0)
	data = append(data, options...)
	return append(data, s.Data...)
}

func mssOption(mss int64) []byte {
	return []byte{2, 4, byte(mss >> 8), byte(mss)}
}

func segmentSum(from int64, to int64, data []byte) int {
	all := append(headBytes(from, to, 6, int64(len(data))), putWord(data, 16, 0)...)
	return int(onesSum(all))
}

// segmentSealed makes the sum anew.
func segmentSealed(from int64, to int64, data []byte) []byte {
	return putWord(data, 16, segmentSum(from, to, data))
}

func sealedAB(data []byte) []byte {
	return segmentSealed(hostA, hostB, data)
}

func readAB(data []byte) impl.SegmentResult {
	return impl.ReadSegment(hostA, hostB, data)
}

func packedSegment(t *testing.T, from int64, to int64, s impl.Segment) []byte {
	t.Helper()
	made := impl.PackSegment(from, to, s)
	if made.Code != impl.OK || len(made.Bytes) < 20 {
		t.Fatalf("PackSegment of the %s: code %d, %d bytes", nameSegment(s), made.Code, len(made.Bytes))
	}
	return made.Bytes
}

// checkSegment packs a segment, holds its bytes against what they have to be, and reads it back.
func checkSegment(t *testing.T, from int64, to int64, s impl.Segment) {
	t.Helper()
	call := fmt.Sprintf("%s, from %d to %d", nameSegment(s), from, to)
	wantCode(t, "SegmentFault of the "+call, impl.SegmentFault(s), impl.OK)
	options := []byte(nil)
	if s.Mss > 0 {
		options = mssOption(s.Mss)
	}
	data := packedSegment(t, from, to, s)
	wantBytes(t, "PackSegment of the "+call, impl.BytesResult{Bytes: data}, impl.OK, segmentSealed(from, to, segmentBytes(s, options)))
	back := impl.ReadSegment(from, to, data)
	wantSegment(t, "read back: "+call, back, impl.OK, s)
	wantBool(t, "SameSegments of the "+call+" and itself read back", impl.SameSegments(s, back.Segment), true)
}

func fiveFlags() []int64 {
	return []int64{impl.FlagFin, impl.FlagSyn, impl.FlagRst, impl.FlagPsh, impl.FlagAck}
}

func hasFlag(flags int64, flag int64) bool {
	return flags/flag%2 == 1
}

// fitting takes from a segment what its Flags leave no room for.
func fitting(s impl.Segment) impl.Segment {
	if !hasFlag(s.Flags, impl.FlagAck) {
		s.Ack = 0
	}
	if !hasFlag(s.Flags, impl.FlagSyn) {
		s.Mss = 0
	}
	return s
}

func someSegments() []impl.Segment {
	return []impl.Segment{
		{FromPort: 1, ToPort: 1},
		{FromPort: 1, ToPort: 2, Seq: 3, Ack: 4, Flags: 18, Window: 5, Mss: 536, Data: []byte{7}},
		{FromPort: 65535, ToPort: 65535, Seq: lastSeq, Ack: lastSeq, Flags: 31, Window: 65535, Mss: 65535, Data: repeated(255, 3)},
		{FromPort: 0x1112, ToPort: 0x2122, Seq: 0x31323334, Ack: 0x41424344, Flags: 24, Window: 0x5152, Data: mixed(40)},
		{FromPort: 80, ToPort: 1024, Seq: 9, Flags: 2, Mss: 1},
		{FromPort: 80, ToPort: 1024, Seq: 9, Flags: 1, Data: mixed(101)},
	}
}

func TestP6Constants(t *testing.T) {
	if impl.FlagFin != 1 || impl.FlagSyn != 2 || impl.FlagRst != 4 || impl.FlagPsh != 8 || impl.FlagAck != 16 {
		t.Error("a flag is another one")
	}
	if impl.MaxWindow != 65535 || impl.MaxSegment != 520 || impl.DefaultMss != 536 {
		t.Error("a bound is another one")
	}
}

func TestP6BytesOfSegments(t *testing.T) {
	rows := []struct {
		from, to int64
		segment  impl.Segment
		text     string
	}{
		{1, 2, impl.Segment{FromPort: 1, ToPort: 2, Seq: 3, Ack: 4, Flags: 18, Window: 5, Mss: 536, Data: []byte{7}},
			"0001000200000003000000046012000594a00000" + "02040218" + "07"},
		{hostA, hostB, impl.Segment{FromPort: 1, ToPort: 2, Seq: 3, Window: 4},
			"000100020000000300000000500000049bd80000"},
		{hostA, hostB, impl.Segment{FromPort: 0x1112, ToPort: 0x2122, Seq: 0x31323334, Ack: 0x41424344, Flags: 24, Window: 0x5152, Data: []byte("abc")},
			"111221223132333441424344501851526af10000" + "616263"},
		{hostA, hostB, impl.Segment{FromPort: 0x1112, ToPort: 0x2122, Seq: 0x31323334, Flags: 2, Window: 0x5152, Mss: 0x7172},
			"1112212231323334000000006002515230790000" + "02047172"},
		{0, 0, impl.Segment{FromPort: 1, ToPort: 1},
			"00010001000000000000000050000000afe30000"},
		{impl.MaxIp, impl.MaxIp, impl.Segment{FromPort: 65535, ToPort: 65535, Seq: lastSeq, Ack: lastSeq, Flags: 31, Window: 65535, Mss: 65535, Data: []byte{255}},
			"ffffffffffffffffffffffff601fffff9ebc0000" + "0204ffff" + "ff"},
	}
	for _, r := range rows {
		data := unhex(t, r.text)
		wantBytes(t, "PackSegment of the "+nameSegment(r.segment), impl.PackSegment(r.from, r.to, r.segment), impl.OK, data)
		wantSegment(t, "ReadSegment of "+r.text, impl.ReadSegment(r.from, r.to, data), impl.OK, r.segment)
	}
}

func TestP6SegmentsAreReadBack(t *testing.T) {
	numbers := []int64{0, 1, 0x01020304, lastSeq - 1, lastSeq}
	for _, ack := range numbers {
		for _, seq := range numbers {
			for flags := range int64(32) {
				for _, mss := range []int64{0, 1, 256, 65535} {
					for _, window := range []int64{0, 1, 65535} {
						s := fitting(impl.Segment{FromPort: 1, ToPort: 65535, Seq: seq, Ack: ack, Flags: flags, Window: window, Mss: mss})
						checkSegment(t, hostA, hostB, s)
						s.Data = mixed(int(flags) + 1)
						checkSegment(t, impl.MaxIp, 0, s)
					}
				}
			}
		}
	}
}

func TestP6SegmentsAreReadBackBetweenAllAddressesAndPorts(t *testing.T) {
	for _, from := range someIps() {
		for _, to := range someIps() {
			for _, fromPort := range []int64{1, 255, 256, 65535} {
				for _, toPort := range []int64{1, 255, 256, 65535} {
					for _, count := range []int{0, 1, 2, 519, 520} {
						s := impl.Segment{FromPort: fromPort, ToPort: toPort, Seq: 5, Ack: 6, Flags: 18, Window: 7, Data: mixed(count)}
						checkSegment(t, from, to, s)
						s.Mss = 1460
						checkSegment(t, from, to, s)
					}
				}
			}
		}
	}
}

func TestP6EachDataOfASegmentIsReadBack(t *testing.T) {
	for count := range 521 {
		for _, data := range [][]byte{mixed(count), make([]byte, count), repeated(255, count)} {
			checkSegment(t, hostA, hostB, impl.Segment{FromPort: 5, ToPort: 6, Data: data})
			checkSegment(t, impl.MaxIp, 0, impl.Segment{FromPort: 65535, ToPort: 1, Ack: lastSeq, Flags: 31, Mss: 65535, Data: data})
		}
	}
}

// Other than with datagrams, a sum of 0 stays 0, and is asked.
func TestP6ASumOfZeroStaysZero(t *testing.T) {
	for _, ip := range someIps() {
		for _, s := range someSegments() {
			s.Window = 0
			options := []byte(nil)
			if s.Mss > 0 {
				options = mssOption(s.Mss)
			}
			// What the sum is with a Window of 0 makes it 0 as the Window.
			s.Window = int64(segmentSum(ip, hostB, segmentBytes(s, options)))
			data := packedSegment(t, ip, hostB, s)
			wantBytes(t, "the sum of the "+nameSegment(s), impl.BytesResult{Bytes: data[16:18]}, impl.OK, []byte{0, 0})
			checkSegment(t, ip, hostB, s)
			// 65535 counts the same in a sum.
			wantSegment(t, "65535 for a sum of 0", impl.ReadSegment(ip, hostB, putWord(data, 16, 65535)), impl.OK, s)
			wantSegment(t, "1 for a sum of 0", impl.ReadSegment(ip, hostB, putWord(data, 16, 1)), impl.ErrSum, impl.Segment{})
		}
	}
}

func TestP6EachOtherSumIsTold(t *testing.T) {
	for _, s := range someSegments()[:3] {
		data := packedSegment(t, hostA, hostB, s)
		for sum := range 65536 {
			other := putWord(data, 16, sum)
			read := readAB(other)
			if isSame := bytes.Equal(other, data); isSame != (read.Code == impl.OK) || !isSame && read.Code != impl.ErrSum {
				t.Fatalf("ReadSegment of the %s with the sum %d: code %d", nameSegment(s), sum, read.Code)
			}
		}
	}
}

func TestP6EachBitOfASegmentIsTold(t *testing.T) {
	segments := append(someSegments(), impl.Segment{FromPort: 7, ToPort: 8, Seq: 9, Ack: 10, Flags: 31, Window: 11, Mss: 536, Data: mixed(520)})
	for _, s := range segments {
		for _, ip := range someIps() {
			data := packedSegment(t, ip, hostB, s)
			for bit := range 8 * len(data) {
				turned := put(data, bit/8, data[bit/8]^1<<(bit%8))
				code := int64(impl.ErrSum)
				if head := int(turned[12]>>4) * 4; head < 20 || head > len(data) {
					code = impl.ErrForm
				}
				wantSegment(t, fmt.Sprintf("bit %d of the %s turned", bit, nameSegment(s)), impl.ReadSegment(ip, hostB, turned), code, impl.Segment{})
			}
		}
	}
}

func TestP6EachBitOfOtherOptionsIsTold(t *testing.T) {
	options := []byte{1, 1, 8, 10, 1, 2, 3, 4, 5, 6, 7, 8, 3, 3, 7, 2, 4, 5, 180, 0, 9, 9, 9, 9}
	s := impl.Segment{FromPort: 7, ToPort: 8, Seq: 9, Flags: 2, Window: 11, Data: mixed(33)}
	data := sealedAB(segmentBytes(s, options))
	s.Mss = 1460
	wantSegment(t, "a head with many options", readAB(data), impl.OK, s)
	for bit := range 8 * len(data) {
		turned := put(data, bit/8, data[bit/8]^1<<(bit%8))
		if got := readAB(turned); got.Code != impl.ErrSum && got.Code != impl.ErrForm {
			t.Errorf("bit %d turned: code %d", bit, got.Code)
		}
	}
}

func TestP6OtherAddressesOfASegmentAreTold(t *testing.T) {
	for _, s := range someSegments() {
		for _, from := range someIps() {
			for _, to := range someIps() {
				data := packedSegment(t, from, to, s)
				for bit := range 32 {
					other := int64(1) << bit
					wantSegment(t, fmt.Sprintf("bit %d of from turned: %s", bit, nameSegment(s)), impl.ReadSegment(from^other, to, data), impl.ErrSum, impl.Segment{})
					wantSegment(t, fmt.Sprintf("bit %d of to turned: %s", bit, nameSegment(s)), impl.ReadSegment(from, to^other, data), impl.ErrSum, impl.Segment{})
				}
			}
		}
	}
}

// The addresses, the protocol and the size are all in the sum: one over less does not do.
func TestP6TheSumOfASegmentIsOverThePseudoHeadToo(t *testing.T) {
	s := impl.Segment{FromPort: 1, ToPort: 2, Seq: 3, Flags: 8, Data: mixed(5)}
	bare := segmentBytes(s, nil)
	heads := map[string][]byte{
		"no head":          {},
		"another protocol": headBytes(hostA, hostB, impl.ProtoUdp, 25),
		"no protocol":      headBytes(hostA, hostB, 0, 25),
		"the size of Data": headBytes(hostA, hostB, impl.ProtoTcp, 5),
		"the size of head": headBytes(hostA, hostB, impl.ProtoTcp, 20),
		"no size":          headBytes(hostA, hostB, impl.ProtoTcp, 0),
		"only from":        headBytes(hostA, 0, impl.ProtoTcp, 25),
		"only to":          headBytes(0, hostB, impl.ProtoTcp, 25),
	}
	for call, head := range heads {
		sum := int(onesSum(append(bytes.Clone(head), bare...)))
		wantSegment(t, "a sum over "+call, readAB(putWord(bare, 16, sum)), impl.ErrSum, impl.Segment{})
	}
	wantSegment(t, "a sum of 0", readAB(bare), impl.ErrSum, impl.Segment{})
	wantSegment(t, "a sum over all", readAB(sealedAB(bare)), impl.OK, s)
}

func TestP6ASegmentIsReadBackAsTheBodyOfAPacket(t *testing.T) {
	for _, count := range []int{0, 1, 519, 520} {
		s := impl.Segment{FromPort: 7, ToPort: 8, Seq: 9, Ack: 10, Flags: 18, Window: 11, Mss: 12, Data: mixed(count)}
		body := packedSegment(t, hostA, hostB, s)
		data := packed(t, impl.Packet{From: hostA, To: hostB, Proto: impl.ProtoTcp, Ttl: impl.FirstTtl, Body: body})
		frame := impl.PackFrame(impl.Frame{To: 3, From: 4, Kind: impl.KindIp, Body: append(data, 0, 0, 0)})
		p := impl.ReadPacket(impl.ReadFrame(frame.Bytes).Frame.Body).Packet
		wantSegment(t, fmt.Sprintf("a segment with %d bytes, in a packet, in a frame", count), impl.ReadSegment(p.From, p.To, p.Body), impl.OK, s)
	}
}

// wantOptions reads a segment with these options, once with each of some Data behind them, which is not to be taken for options.
func wantOptions(t *testing.T, call string, options []byte, code int64, mss int64) {
	t.Helper()
	for _, data := range [][]byte{nil, {2, 4, 9, 9}, {0}, mixed(500 - len(options))} {
		s := impl.Segment{FromPort: 1, ToPort: 2, Seq: 3, Ack: 4, Flags: 18, Window: 5, Data: data}
		bytesOfS := sealedAB(segmentBytes(s, options))
		notSyn := s
		notSyn.Flags = 16
		bytesOfNotSyn := sealedAB(segmentBytes(notSyn, options))
		s.Mss = mss
		if code != impl.OK {
			s, notSyn = impl.Segment{}, impl.Segment{}
		}
		name := fmt.Sprintf("options %x (%s), %d bytes behind them", options, call, len(data))
		wantSegment(t, name, readAB(bytesOfS), code, s)
		wantSegment(t, name+", without FlagSyn", readAB(bytesOfNotSyn), code, notSyn)
	}
}

func TestP6Options(t *testing.T) {
	rows := []struct {
		call    string
		options []byte
		mss     int64
	}{
		{"none", nil, 0},
		{"an end and three zeros", []byte{0, 0, 0, 0}, 0},
		{"an end, a broken option behind it", []byte{0, 2, 3, 255}, 0},
		{"an end, an Mss behind it", []byte{0, 1, 1, 1, 2, 4, 1, 2}, 0},
		{"an Mss, an end, another Mss", []byte{2, 4, 1, 2, 0, 2, 4, 3, 4, 0, 0, 0}, 0x0102},
		{"an end, a size of 0 behind it", []byte{0, 9, 0, 0}, 0},
		{"an end, a size beyond the head behind it", []byte{1, 0, 9, 255}, 0},
		{"an end as the last byte", []byte{1, 1, 1, 0}, 0},
		{"only ones", []byte{1, 1, 1, 1}, 0},
		{"a one as the last byte", []byte{5, 3, 9, 1}, 0},
		{"ones, an Mss", []byte{1, 1, 1, 2, 4, 1, 2, 1}, 0x0102},
		{"an Mss", []byte{2, 4, 2, 24}, 536},
		{"an Mss of 0", []byte{2, 4, 0, 0}, 0},
		{"an Mss of 1", []byte{2, 4, 0, 1}, 1},
		{"an Mss of 256", []byte{2, 4, 1, 0}, 256},
		{"an Mss of 65535", []byte{2, 4, 255, 255}, 65535},
		{"two Mss", []byte{2, 4, 1, 2, 2, 4, 3, 4}, 0x0304},
		{"two Mss, the later one 0", []byte{2, 4, 1, 2, 2, 4, 0, 0}, 0},
		{"two Mss, the later one less", []byte{2, 4, 3, 4, 1, 2, 4, 0, 1, 1, 1, 0}, 1},
		{"an Mss as the last option", []byte{1, 1, 1, 1, 2, 4, 5, 6}, 0x0506},
		{"another kind of 2 bytes", []byte{4, 2, 4, 2}, 0},
		{"another kind of 2 bytes ahead of an Mss", []byte{4, 2, 2, 4, 7, 8, 1, 1}, 0x0708},
		{"another kind of 3 bytes", []byte{3, 3, 2, 0}, 0},
		{"another kind of 4 bytes", []byte{3, 4, 2, 4}, 0},
		{"another kind with what looks like an Mss in it", []byte{8, 6, 2, 4, 1, 2, 1, 1}, 0},
		{"another kind with what looks like an end in it", []byte{8, 4, 0, 0, 2, 4, 1, 2}, 0x0102},
		{"the kind 255", []byte{255, 4, 9, 9}, 0},
		{"a kind of all of the head", append([]byte{254, 40}, mixed(38)...), 0},
		{"40 bytes of ones", repeated(1, 40), 0},
		{"40 bytes of zeros", make([]byte, 40), 0},
		{"ten Mss", bytes.Repeat([]byte{2, 4, 6, 7}, 10), 0x0607},
		{"an Mss at the end of 60 bytes", append(repeated(1, 36), 2, 4, 5, 6), 0x0506},
	}
	for _, r := range rows {
		wantOptions(t, r.call, r.options, impl.OK, r.mss)
	}
}

func TestP6WhatIsNoOption(t *testing.T) {
	rows := []struct {
		call    string
		options []byte
	}{
		{"an Mss of 0 bytes", []byte{2, 0, 1, 2}},
		{"an Mss of 1 byte", []byte{2, 1, 1, 2}},
		{"an Mss of 2 bytes", []byte{2, 2, 1, 1}},
		{"an Mss of 3 bytes", []byte{2, 3, 1, 1}},
		{"an Mss of 5 bytes", []byte{2, 5, 1, 2, 3, 1, 1, 1}},
		{"an Mss of 8 bytes", []byte{2, 8, 1, 2, 3, 4, 5, 6}},
		{"an Mss of 255 bytes", []byte{2, 255, 1, 2}},
		{"a size of 0", []byte{3, 0, 0, 0}},
		{"a size of 1", []byte{3, 1, 1, 1}},
		{"the kind 255 with a size of 0", []byte{255, 0, 0, 0}},
		{"the kind 255 with a size of 1", []byte{255, 1, 0, 0}},
		{"a kind without a size", []byte{1, 1, 1, 3}},
		{"an Mss without a size", []byte{1, 1, 1, 2}},
		{"an Mss that lacks both bytes", []byte{1, 1, 2, 4}},
		{"an Mss that lacks a byte", []byte{1, 2, 4, 9}},
		{"a kind that lacks a byte", []byte{3, 5, 1, 1}},
		{"a kind of 2 bytes, one that lacks a byte", []byte{4, 2, 3, 3}},
		{"a kind that lacks many bytes", []byte{3, 255, 1, 1}},
		{"a kind that lacks a byte, and has a broken Mss in it", []byte{8, 9, 2, 4, 1, 2, 1, 1}},
		{"an Mss, then a size of 0", []byte{2, 4, 1, 2, 7, 0, 0, 0}},
		{"an Mss, then a size of 1", []byte{2, 4, 1, 2, 7, 1, 0, 0}},
		{"an Mss, then a kind without a size", []byte{2, 4, 1, 2, 1, 1, 1, 9}},
		{"an Mss, then one that lacks a byte", []byte{2, 4, 1, 2, 1, 2, 4, 3}},
		{"a broken option, then an end", []byte{9, 1, 0, 0}},
		{"a kind of all of the head and one more", append([]byte{254, 41}, mixed(38)...)},
		{"a kind without a size at the end of 60 bytes", append(repeated(1, 39), 8)},
		{"an Mss that lacks a byte at the end of 60 bytes", append(repeated(1, 37), 2, 4, 5)},
	}
	for _, r := range rows {
		wantOptions(t, r.call, r.options, impl.ErrForm, 0)
	}
}

// mssTold goes through options by calling itself; it tells -1 where one is none.
func mssTold(options []byte, mss int64) int64 {
	switch {
	case len(options) == 0 || options[0] == 0:
		return mss
	case options[0] == 1:
		return mssTold(options[1:], mss)
	case len(options) >= 4 && options[0] == 2 && options[1] == 4:
		return mssTold(options[4:], int64(options[2])*256+int64(options[3]))
	case len(options) >= 2 && options[0] != 2 && options[1] >= 2 && int(options[1]) <= len(options):
		return mssTold(options[options[1]:], mss)
	}
	return -1
}

func checkAllOptions(t *testing.T, kinds []byte, size int) {
	t.Helper()
	count := 1
	for range size {
		count *= len(kinds)
	}
	options := make([]byte, size)
	for number := range count {
		for at := range options {
			options[at] = kinds[number%len(kinds)]
			number /= len(kinds)
		}
		code, want := int64(impl.ErrForm), impl.Segment{}
		s := impl.Segment{FromPort: 1, ToPort: 2, Flags: 2, Data: []byte{3, 4}}
		data := sealedAB(segmentBytes(s, options))
		if mss := mssTold(options, 0); mss >= 0 {
			code, want = impl.OK, s
			want.Mss = mss
		}
		wantSegment(t, fmt.Sprintf("options %x", options), readAB(data), code, want)
	}
}

func TestP6AllShortOptions(t *testing.T) {
	checkAllOptions(t, []byte{0, 1, 2, 3, 4, 5, 6, 255}, 4)
	checkAllOptions(t, []byte{0, 1, 2, 4, 7}, 8)
}

func TestP6HeadsOfAllSizes(t *testing.T) {
	for head := 20; head <= 60; head += 4 {
		for _, count := range []int{0, 1, 2, 3, 4, 60, 500} {
			s := impl.Segment{FromPort: 1, ToPort: 2, Seq: 3, Window: 4, Data: mixed(count)}
			data := sealedAB(segmentBytes(s, repeated(1, head-20)))
			wantSegment(t, fmt.Sprintf("a head of %d bytes, %d behind it", head, count), readAB(data), impl.OK, s)
		}
	}
}

// What a segment says without its flag is not said.
func TestP6WithoutItsFlagAnAckIsZero(t *testing.T) {
	for flags := range int64(32) {
		for _, ack := range []int64{0, 1, 0x01020304, 0x80000000, lastSeq} {
			s := impl.Segment{FromPort: 1, ToPort: 2, Seq: 3, Ack: ack, Flags: flags, Window: 4, Data: []byte{5}}
			data := sealedAB(segmentBytes(s, mssOption(1460)))
			s.Mss = 1460
			wantSegment(t, fmt.Sprintf("Ack %d and an Mss with the Flags %d", ack, flags), readAB(data), impl.OK, fitting(s))
		}
	}
}

// The bits of byte 13 above 31, the lower four of byte 12 and the bytes 18 and 19 say nothing, but are in the sum.
func TestP6WhatIsNotLookedAt(t *testing.T) {
	for low := range 16 {
		for high := range 8 {
			for flags := range 32 {
				s := impl.Segment{FromPort: 1, ToPort: 2, Seq: 3, Flags: int64(flags), Window: 4, Data: []byte{5}}
				bare := segmentBytes(s, nil)
				bare[12] += byte(low)
				bare[13] += byte(32 * high)
				wantSegment(t, fmt.Sprintf("byte 12 is %d, byte 13 is %d", bare[12], bare[13]), readAB(sealedAB(bare)), impl.OK, s)
			}
		}
	}
	s := impl.Segment{FromPort: 1, ToPort: 2}
	for _, word := range []int{1, 256, 65535} {
		data := sealedAB(putWord(segmentBytes(s, nil), 18, word))
		wantSegment(t, fmt.Sprintf("the bytes 18 and 19 are %d", word), readAB(data), impl.OK, s)
	}
}

func TestP6SegmentSize(t *testing.T) {
	wantInt(t, "SegmentSize of the example", impl.SegmentSize(impl.Segment{FromPort: 1, ToPort: 2, Flags: impl.FlagSyn + impl.FlagFin, Data: []byte{1, 2, 3}}), impl.OK, 5)
	for flags := range int64(32) {
		for _, count := range []int{0, 1, 2, 3, 519, 520} {
			size := int64(count)
			if hasFlag(flags, impl.FlagSyn) {
				size++
			}
			if hasFlag(flags, impl.FlagFin) {
				size++
			}
			s := impl.Segment{FromPort: 1, ToPort: 2, Seq: lastSeq, Flags: flags, Window: 9, Data: mixed(count)}
			wantInt(t, "SegmentSize of the "+nameSegment(s), impl.SegmentSize(s), impl.OK, size)
		}
	}
}

func TestP6HasFlag(t *testing.T) {
	for flags := range int64(32) {
		for flag := int64(-40); flag <= 300; flag++ {
			want := false
			for _, one := range fiveFlags() {
				want = want || flag == one && hasFlag(flags, one)
			}
			// The rest of the segment has a fault, and is not asked.
			wantBool(t, fmt.Sprintf("HasFlag of the Flags %d and %d", flags, flag), impl.HasFlag(impl.Segment{Flags: flags}, flag), want)
		}
		for _, flag := range []int64{math.MinInt64, math.MinInt64 + 1, -65536, 1 << 32, 1<<32 + 1, 1<<62 + 16, math.MaxInt64} {
			wantBool(t, fmt.Sprintf("HasFlag of the Flags %d and %d", flags, flag), impl.HasFlag(impl.Segment{Flags: flags}, flag), false)
		}
	}
}

func TestP6HasFlagWhereFlagsAreNone(t *testing.T) {
	for _, flags := range []int64{math.MinInt64, -32, -16, -2, -1, 32, 33, 34, 48, 63, 255, 1 << 32, 1<<32 + 31, math.MaxInt64} {
		for _, flag := range append(fiveFlags(), -1, 0, 31, 32, flags) {
			s := impl.Segment{FromPort: 1, ToPort: 2, Flags: flags}
			wantBool(t, fmt.Sprintf("HasFlag of the Flags %d and %d", flags, flag), impl.HasFlag(s, flag), false)
		}
	}
}

func TestP6HasFlagIsAskedOfAny(t *testing.T) {
	faulty := impl.Segment{FromPort: -1, ToPort: 65536, Seq: -1, Ack: math.MaxInt64, Flags: 5, Window: -1, Mss: math.MinInt64, Data: mixed(5000)}
	wantBool(t, "FlagFin among the Flags 5", impl.HasFlag(faulty, impl.FlagFin), true)
	wantBool(t, "FlagSyn among the Flags 5", impl.HasFlag(faulty, impl.FlagSyn), false)
	wantBool(t, "FlagRst among the Flags 5", impl.HasFlag(faulty, impl.FlagRst), true)
	wantBool(t, "5 among the Flags 5", impl.HasFlag(faulty, 5), false)
}

func wantReset(t *testing.T, s impl.Segment, want impl.Segment) {
	t.Helper()
	call := "ResetFor the " + nameSegment(s)
	reset := impl.ResetFor(s)
	wantSegment(t, call, reset, impl.OK, want)
	wantCode(t, "SegmentFault of the "+call, impl.SegmentFault(reset.Segment), impl.OK)
	wantSegment(t, "ResetFor the "+call, impl.ResetFor(reset.Segment), impl.ErrState, impl.Segment{})
	checkSegment(t, hostB, hostA, reset.Segment)
}

// roundSum adds in 32 bits, which go round by themselves.
func roundSum(seq int64, n int) int64 {
	return int64(uint32(seq) + uint32(n))
}

func TestP6ResetForASegment(t *testing.T) {
	for flags := range int64(32) {
		for _, seq := range []int64{0, 1, 0x7fffffff, 0x80000000, lastSeq - 522, lastSeq - 521, lastSeq - 1, lastSeq} {
			for _, ack := range []int64{0, 1, 0x80000000, lastSeq} {
				for _, count := range []int{0, 1, 2, 519, 520} {
					s := fitting(impl.Segment{FromPort: 7, ToPort: 9, Seq: seq, Ack: ack, Flags: flags, Window: 65535, Mss: 1460, Data: mixed(count)})
					size := count + int(flags%2) + int(flags/2%2)
					switch {
					case hasFlag(flags, impl.FlagRst):
						wantSegment(t, "ResetFor the "+nameSegment(s), impl.ResetFor(s), impl.ErrState, impl.Segment{})
					case hasFlag(flags, impl.FlagAck):
						wantReset(t, s, impl.Segment{FromPort: 9, ToPort: 7, Seq: ack, Flags: 4})
					default:
						wantReset(t, s, impl.Segment{FromPort: 9, ToPort: 7, Ack: roundSum(seq, size), Flags: 20})
					}
				}
			}
		}
	}
}

func TestP6ResetForASegmentGoesRound(t *testing.T) {
	wantReset(t, impl.Segment{FromPort: 1, ToPort: 65535, Seq: lastSeq}, impl.Segment{FromPort: 65535, ToPort: 1, Ack: lastSeq, Flags: 20})
	wantReset(t, impl.Segment{FromPort: 1, ToPort: 65535, Seq: lastSeq, Flags: 2}, impl.Segment{FromPort: 65535, ToPort: 1, Ack: 0, Flags: 20})
	wantReset(t, impl.Segment{FromPort: 1, ToPort: 65535, Seq: lastSeq, Flags: 3, Data: []byte{1, 2, 3}}, impl.Segment{FromPort: 65535, ToPort: 1, Ack: 4, Flags: 20})
	wantReset(t, impl.Segment{FromPort: 5, ToPort: 5, Seq: 8, Flags: 8, Data: []byte{1}}, impl.Segment{FromPort: 5, ToPort: 5, Ack: 9, Flags: 20})
}

// checkOneSegmentField turns one field after the other of a segment.
func checkOneSegmentField(t *testing.T, call string, s impl.Segment) {
	t.Helper()
	copied := s
	copied.Data = bytes.Clone(s.Data)
	wantSame(t, impl.SameSegments, call+": a copy", s, copied, true)
	turns := map[string]func(*impl.Segment){
		"FromPort":      func(o *impl.Segment) { o.FromPort ^= 1 },
		"ToPort":        func(o *impl.Segment) { o.ToPort ^= 1 },
		"Seq":           func(o *impl.Segment) { o.Seq ^= 1 },
		"Ack":           func(o *impl.Segment) { o.Ack ^= 1 },
		"Flags":         func(o *impl.Segment) { o.Flags ^= 1 },
		"Window":        func(o *impl.Segment) { o.Window ^= 1 },
		"Mss":           func(o *impl.Segment) { o.Mss ^= 1 },
		"one byte more": func(o *impl.Segment) { o.Data = append(bytes.Clone(o.Data), 0) },
	}
	for field, turn := range turns {
		other := s
		turn(&other)
		wantSame(t, impl.SameSegments, call+": another "+field, s, other, false)
	}
	for at := range s.Data {
		other := s
		other.Data = put(s.Data, at, s.Data[at]^1)
		wantSame(t, impl.SameSegments, fmt.Sprintf("%s: another byte at %d", call, at), s, other, false)
	}
}

func TestP6SameSegments(t *testing.T) {
	for _, s := range someSegments() {
		checkOneSegmentField(t, nameSegment(s), s)
	}
	checkOneSegmentField(t, "520 bytes", impl.Segment{FromPort: 1, ToPort: 2, Data: mixed(520)})
	s := impl.Segment{FromPort: 2, ToPort: 4, Seq: 6, Ack: 8, Flags: 18, Window: 10, Mss: 12}
	wantSame(t, impl.SameSegments, "the ports changed", s, impl.Segment{FromPort: 4, ToPort: 2, Seq: 6, Ack: 8, Flags: 18, Window: 10, Mss: 12}, false)
	wantSame(t, impl.SameSegments, "Seq and Ack changed", s, impl.Segment{FromPort: 2, ToPort: 4, Seq: 8, Ack: 6, Flags: 18, Window: 10, Mss: 12}, false)
	wantSame(t, impl.SameSegments, "Window and Mss changed", s, impl.Segment{FromPort: 2, ToPort: 4, Seq: 6, Ack: 8, Flags: 18, Window: 12, Mss: 10}, false)
	wantSame(t, impl.SameSegments, "one and none", s, impl.Segment{}, false)
	wantSame(t, impl.SameSegments, "nil and empty data", impl.Segment{FromPort: 1}, impl.Segment{FromPort: 1, Data: []byte{}}, true)
}

func TestP6SameSegmentsOfSegmentsWithAFault(t *testing.T) {
	alike := func(n int64, data []byte) impl.Segment {
		return impl.Segment{FromPort: n, ToPort: n, Seq: n, Ack: n, Flags: n, Window: n, Mss: n, Data: data}
	}
	checkOneSegmentField(t, "all zero", impl.Segment{})
	checkOneSegmentField(t, "all below", alike(-1, []byte{1}))
	checkOneSegmentField(t, "all above", alike(impl.SeqSize, []byte{1}))
	checkOneSegmentField(t, "the lowest", alike(math.MinInt64, nil))
	checkOneSegmentField(t, "the highest", alike(math.MaxInt64, nil))
	checkOneSegmentField(t, "521 bytes", impl.Segment{FromPort: 1, ToPort: 1, Data: mixed(521)})
	checkOneSegmentField(t, "an Ack without its flag", impl.Segment{FromPort: 1, ToPort: 1, Ack: 1})
	checkOneSegmentField(t, "1500 bytes", alike(-1, mixed(1500)))
	// Numbers that are alike in the bytes that a segment has room for are not the same.
	for _, round := range []int64{32, 65536, impl.SeqSize} {
		s := alike(1, nil)
		for _, other := range []impl.Segment{alike(1+round, nil), alike(1-round, nil)} {
			wantSame(t, impl.SameSegments, fmt.Sprintf("all are %d further on", round), s, other, false)
		}
	}
}

// wantSegmentFault asks all that tells the fault of a segment.
func wantSegmentFault(t *testing.T, s impl.Segment, code int64) {
	t.Helper()
	call := nameSegment(s)
	wantCode(t, "SegmentFault of the "+call, impl.SegmentFault(s), code)
	wantInt(t, "SegmentSize of the "+call, impl.SegmentSize(s), code, 0)
	wantBytes(t, "PackSegment of the "+call, impl.PackSegment(hostA, hostB, s), code, nil)
	wantSegment(t, "ResetFor the "+call, impl.ResetFor(s), code, impl.Segment{})
}

// outside tells what stands just outside of some bounds, and further away.
func outside(lowest int64, highest int64) []int64 {
	return []int64{lowest - 1, highest + 1, highest + 1<<32, -impl.SeqSize, math.MinInt64, math.MaxInt64}
}

// withOneNumber tells a segment once with each number that is not so in one field.
func withOneNumber(s impl.Segment) []impl.Segment {
	list := []impl.Segment{}
	add := func(lowest int64, highest int64, turn func(*impl.Segment, int64)) {
		for _, number := range outside(lowest, highest) {
			other := s
			turn(&other, number)
			list = append(list, other)
		}
	}
	add(1, 65535, func(o *impl.Segment, n int64) { o.FromPort = n })
	add(1, 65535, func(o *impl.Segment, n int64) { o.ToPort = n })
	add(0, lastSeq, func(o *impl.Segment, n int64) { o.Seq = n })
	add(0, lastSeq, func(o *impl.Segment, n int64) { o.Ack = n })
	add(0, 31, func(o *impl.Segment, n int64) { o.Flags = n })
	add(0, 65535, func(o *impl.Segment, n int64) { o.Window = n })
	add(0, 65535, func(o *impl.Segment, n int64) { o.Mss = n })
	return list
}

func TestP1SegmentNumbers(t *testing.T) {
	wantSegmentFault(t, impl.Segment{}, impl.ErrRange)
	bases := []impl.Segment{
		{FromPort: 1, ToPort: 1},
		{FromPort: 65535, ToPort: 65535, Seq: lastSeq, Ack: lastSeq, Flags: 31, Window: 65535, Mss: 65535, Data: mixed(520)},
		{FromPort: 1, ToPort: 1, Flags: 18, Ack: 1, Mss: 1},
		// What has the other faults, too, has this one first.
		{FromPort: 1, ToPort: 1, Ack: 1},
		{FromPort: 1, ToPort: 1, Mss: 1},
		{FromPort: 1, ToPort: 1, Data: mixed(521)},
		{FromPort: 1, ToPort: 1, Ack: 1, Mss: 1, Data: mixed(5000)},
		// A number that is none is that with FlagRst, too.
		{FromPort: 1, ToPort: 1, Flags: 4},
	}
	for _, base := range bases {
		for _, s := range withOneNumber(base) {
			wantSegmentFault(t, s, impl.ErrRange)
		}
	}
}

func TestP1SegmentNumbersAtTheirEdges(t *testing.T) {
	base := impl.Segment{FromPort: 2, ToPort: 2, Seq: 2, Ack: 2, Flags: 31, Window: 2, Mss: 2}
	for _, port := range []int64{1, 65535} {
		s := base
		s.FromPort = port
		checkSegment(t, hostA, hostB, s)
		s.FromPort, s.ToPort = 2, port
		checkSegment(t, hostA, hostB, s)
	}
	for _, seq := range []int64{0, lastSeq} {
		s := base
		s.Seq = seq
		checkSegment(t, hostA, hostB, s)
		s.Seq, s.Ack = 2, seq
		checkSegment(t, hostA, hostB, s)
	}
	for _, word := range []int64{0, 65535} {
		s := base
		s.Window = word
		checkSegment(t, hostA, hostB, s)
		s.Window, s.Mss = 2, word
		checkSegment(t, hostA, hostB, s)
	}
	checkSegment(t, 0, impl.MaxIp, impl.Segment{FromPort: 1, ToPort: 1, Data: []byte{}})
	checkSegment(t, impl.MaxIp, 0, impl.Segment{FromPort: 1, ToPort: 1, Flags: 31, Data: mixed(520)})
}

func TestP1SegmentsWithoutAFlag(t *testing.T) {
	for flags := range int64(32) {
		for _, ack := range []int64{0, 1, lastSeq} {
			for _, mss := range []int64{0, 1, 65535} {
				for _, count := range []int{0, 520, 521, 5000} {
					s := impl.Segment{FromPort: 1, ToPort: 2, Ack: ack, Flags: flags, Mss: mss, Data: mixed(count)}
					isForm := ack != 0 && !hasFlag(flags, impl.FlagAck) || mss != 0 && !hasFlag(flags, impl.FlagSyn)
					switch {
					case isForm:
						wantSegmentFault(t, s, impl.ErrForm)
					case count > 520:
						wantSegmentFault(t, s, impl.ErrMany)
					default:
						checkSegment(t, hostA, hostB, s)
					}
				}
			}
		}
	}
}

func TestP1SegmentsWithTooMuchData(t *testing.T) {
	for _, count := range []int{521, 522, 536, 540, 541, 560, 561, 600, 668, 669, 700, 701, 65535, 70000} {
		wantSegmentFault(t, impl.Segment{FromPort: 1, ToPort: 1, Data: make([]byte, count)}, impl.ErrMany)
		wantSegmentFault(t, impl.Segment{FromPort: 65535, ToPort: 65535, Ack: 1, Flags: 31, Mss: 1, Data: mixed(count)}, impl.ErrMany)
	}
}

func TestP1PackSegmentAsksTheAddressesFirst(t *testing.T) {
	segments := append(someSegments(),
		impl.Segment{},
		impl.Segment{FromPort: 1, ToPort: 2, Ack: 1},
		impl.Segment{FromPort: 1, ToPort: 2, Mss: 1},
		impl.Segment{FromPort: 1, ToPort: 2, Data: mixed(521)},
	)
	for _, s := range segments {
		for _, none := range noIp() {
			call := fmt.Sprintf("PackSegment of the %s, %d for an ip", nameSegment(s), none)
			wantBytes(t, call, impl.PackSegment(none, 0, s), impl.ErrRange, nil)
			wantBytes(t, call, impl.PackSegment(0, none, s), impl.ErrRange, nil)
			wantBytes(t, call, impl.PackSegment(none, none, s), impl.ErrRange, nil)
		}
	}
}

func TestP1ReadSegmentAsksTheAddressesFirst(t *testing.T) {
	s := impl.Segment{FromPort: 1, ToPort: 2, Data: []byte{3, 4}}
	good := segmentSealed(0, 0, segmentBytes(s, nil))
	rows := map[string][]byte{
		"nil":              nil,
		"no bytes":         {},
		"19 bytes":         mixed(19),
		"561 bytes":        mixed(561),
		"5000 bytes":       mixed(5000),
		"all is right":     good,
		"another head":     segmentSealed(0, 0, put(good, 12, 64)),
		"another sum":      putWord(good, 16, 1),
		"a broken option":  segmentSealed(0, 0, segmentBytes(s, []byte{2, 3, 1, 1})),
		"a port of 0":      segmentSealed(0, 0, putWord(good, 0, 0)),
		"nothing is told":  make([]byte, 20),
		"too much of Data": segmentSealed(0, 0, append(bytes.Clone(good), make([]byte, 538)...)),
	}
	for call, data := range rows {
		for _, none := range noIp() {
			wantSegment(t, fmt.Sprintf("%s, from %d", call, none), impl.ReadSegment(none, 0, data), impl.ErrRange, impl.Segment{})
			wantSegment(t, fmt.Sprintf("%s, to %d", call, none), impl.ReadSegment(0, none, data), impl.ErrRange, impl.Segment{})
			wantSegment(t, fmt.Sprintf("%s, from and to %d", call, none), impl.ReadSegment(none, none, data), impl.ErrRange, impl.Segment{})
		}
	}
	wantSegment(t, "from 0 to 0", impl.ReadSegment(0, 0, good), impl.OK, s)
	high := segmentSealed(impl.MaxIp, impl.MaxIp, good)
	wantSegment(t, "from and to the highest ip", impl.ReadSegment(impl.MaxIp, impl.MaxIp, high), impl.OK, s)
}

func TestP1ReadSegmentAsksHowMany(t *testing.T) {
	wantSegment(t, "ReadSegment of nil", readAB(nil), impl.ErrMany, impl.Segment{})
	wantSegment(t, "ReadSegment of no bytes", readAB([]byte{}), impl.ErrMany, impl.Segment{})
	whole := packedSegment(t, hostA, hostB, impl.Segment{FromPort: 1, ToPort: 2})
	for count := range 20 {
		// Here the rest stands behind the end, in the same memory.
		wantSegment(t, fmt.Sprintf("ReadSegment of the first %d bytes", count), readAB(whole[:count]), impl.ErrMany, impl.Segment{})
	}
	wantSegment(t, "ReadSegment of 20 bytes", readAB(whole), impl.OK, impl.Segment{FromPort: 1, ToPort: 2})
	// With a head of 40 bytes 560 have just as much Data as there may be.
	for _, count := range []int{559, 560, 561, 562, 600, 688, 689, 700, 701, 5000} {
		s := impl.Segment{FromPort: 1, ToPort: 2, Data: mixed(count - 40)}
		code, want := int64(impl.ErrMany), impl.Segment{}
		if count <= 560 {
			code, want = impl.OK, s
		}
		wantSegment(t, fmt.Sprintf("ReadSegment of %d bytes", count), readAB(sealedAB(segmentBytes(s, repeated(1, 20)))), code, want)
	}
}

func TestP1ReadSegmentAsksTheHead(t *testing.T) {
	for count := 20; count <= 80; count++ {
		for steps := range 16 {
			// Ones are passed by, so that whatever is told as the head has options.
			s := impl.Segment{FromPort: 1, ToPort: 2, Data: repeated(1, count-20)}
			data := sealedAB(put(segmentBytes(s, nil), 12, byte(16*steps)))
			head := 4 * steps
			code, want := int64(impl.ErrForm), impl.Segment{}
			if head >= 20 && head <= count {
				code, want = impl.OK, s
				want.Data = repeated(1, count-head)
			}
			call := fmt.Sprintf("ReadSegment of %d bytes with a head of %d", count, head)
			wantSegment(t, call, readAB(data), code, want)
			// The lower four bits make the head no longer.
			wantSegment(t, call+" and lower bits", readAB(sealedAB(put(data, 12, byte(16*steps+15)))), code, want)
		}
	}
}

func TestP1ReadSegmentAsksThePorts(t *testing.T) {
	for _, from := range []int64{0, 1, 255, 256, 65535} {
		for _, to := range []int64{0, 1, 255, 256, 65535} {
			for _, count := range []int{0, 1, 520} {
				s := impl.Segment{FromPort: from, ToPort: to, Seq: 1, Window: 2, Data: mixed(count)}
				data := sealedAB(segmentBytes(s, nil))
				code := int64(impl.OK)
				if from == 0 || to == 0 {
					code, s = impl.ErrRange, impl.Segment{}
				}
				wantSegment(t, fmt.Sprintf("ReadSegment from port %d to port %d with %d bytes", from, to, count), readAB(data), code, s)
			}
		}
	}
}

func TestP1ReadSegmentAsksHowMuchData(t *testing.T) {
	for head := 20; head <= 60; head += 4 {
		for count := 515; head+count <= 560; count++ {
			s := impl.Segment{FromPort: 1, ToPort: 2, Flags: 2, Data: mixed(count)}
			data := sealedAB(segmentBytes(s, repeated(1, head-20)))
			code := int64(impl.OK)
			if count > 520 {
				code, s = impl.ErrMany, impl.Segment{}
			}
			wantSegment(t, fmt.Sprintf("ReadSegment with a head of %d and %d bytes of Data", head, count), readAB(data), code, s)
		}
	}
}

func TestP1ReadSegmentAsksTheCodesInOrder(t *testing.T) {
	much := mixed(521)
	broken := []byte{3, 1, 0, 0}
	good := impl.Segment{FromPort: 1, ToPort: 2, Seq: 3}
	noPort := impl.Segment{ToPort: 2, Seq: 3}
	muchData := impl.Segment{FromPort: 1, ToPort: 2, Seq: 3, Data: much}
	all := impl.Segment{FromPort: 1, Seq: 3, Data: much}
	otherSum := func(data []byte) []byte { return put(sealedAB(data), 4, 1) }
	shortHead := func(data []byte) []byte { return put(data, 12, 64) }
	rows := []struct {
		call string
		data []byte
		code int64
	}{
		{"all is right", sealedAB(segmentBytes(good, nil)), impl.OK},
		{"a head too short", sealedAB(shortHead(segmentBytes(good, nil))), impl.ErrForm},
		{"a head too short, another sum", otherSum(shortHead(segmentBytes(good, nil))), impl.ErrForm},
		{"a head too long, another sum", otherSum(put(segmentBytes(good, nil), 12, 96)), impl.ErrForm},
		{"a head too short, no port, too much Data", otherSum(shortHead(segmentBytes(all, nil))), impl.ErrForm},
		{"another sum", otherSum(segmentBytes(good, nil)), impl.ErrSum},
		{"another sum, a broken option", otherSum(segmentBytes(good, broken)), impl.ErrSum},
		{"another sum, no port", otherSum(segmentBytes(noPort, nil)), impl.ErrSum},
		{"another sum, too much Data", otherSum(segmentBytes(muchData, nil)), impl.ErrSum},
		{"another sum and all else", otherSum(segmentBytes(all, broken)), impl.ErrSum},
		{"a broken option", sealedAB(segmentBytes(good, broken)), impl.ErrForm},
		{"a broken option, no port", sealedAB(segmentBytes(noPort, broken)), impl.ErrForm},
		{"a broken option, too much Data", sealedAB(segmentBytes(muchData, broken)), impl.ErrForm},
		{"a broken option, no port, too much Data", sealedAB(segmentBytes(all, broken)), impl.ErrForm},
		{"no port", sealedAB(segmentBytes(noPort, nil)), impl.ErrRange},
		{"no port, too much Data", sealedAB(segmentBytes(all, nil)), impl.ErrRange},
		{"too much Data", sealedAB(segmentBytes(muchData, nil)), impl.ErrMany},
		{"19 bytes, nothing is right", make([]byte, 19), impl.ErrMany},
		{"561 bytes, a head too short", make([]byte, 561), impl.ErrMany},
		{"561 bytes, another sum", otherSum(segmentBytes(impl.Segment{FromPort: 1, ToPort: 2, Data: mixed(541)}, nil)), impl.ErrMany},
		{"561 bytes, a broken option", sealedAB(segmentBytes(impl.Segment{FromPort: 1, ToPort: 2, Data: mixed(537)}, broken)), impl.ErrMany},
		{"561 bytes, no port", sealedAB(segmentBytes(impl.Segment{Data: mixed(541)}, nil)), impl.ErrMany},
	}
	for _, r := range rows {
		want := impl.Segment{}
		if r.code == impl.OK {
			want = good
		}
		wantSegment(t, "ReadSegment: "+r.call, readAB(r.data), r.code, want)
	}
}

// FlagRst is asked behind the fault.
func TestP1ResetForAsksTheFaultFirst(t *testing.T) {
	wantSegment(t, "no port", impl.ResetFor(impl.Segment{ToPort: 2, Flags: 4}), impl.ErrRange, impl.Segment{})
	wantSegment(t, "an Ack without its flag", impl.ResetFor(impl.Segment{FromPort: 1, ToPort: 2, Ack: 1, Flags: 4}), impl.ErrForm, impl.Segment{})
	wantSegment(t, "an Mss without its flag", impl.ResetFor(impl.Segment{FromPort: 1, ToPort: 2, Mss: 1, Flags: 4}), impl.ErrForm, impl.Segment{})
	wantSegment(t, "too much Data", impl.ResetFor(impl.Segment{FromPort: 1, ToPort: 2, Flags: 4, Data: mixed(521)}), impl.ErrMany, impl.Segment{})
	wantSegment(t, "none of these", impl.ResetFor(impl.Segment{FromPort: 1, ToPort: 2, Flags: 4}), impl.ErrState, impl.Segment{})
}

// Bytes that follow no rule are refused, or are a segment without a fault.
func TestP1ReadSegmentAnswersAtAnyBytes(t *testing.T) {
	for count := range 565 {
		for _, head := range []byte{0, 64, 80, 96, 160, 240, 255} {
			data := mixed(count)
			if count > 17 {
				data = sealedAB(put(data, 12, head))
			}
			first, second := readAB(data), readAB(data)
			if !impl.SameSegments(first.Segment, second.Segment) || first.Code != second.Code {
				t.Errorf("%d bytes are read in two ways", count)
			}
			if fault := impl.SegmentFault(first.Segment); first.Code == impl.OK && fault != impl.OK {
				t.Errorf("%d bytes are read as a segment with the fault %d", count, fault)
			}
			if first.Code != impl.OK {
				wantSegment(t, "beside a code", impl.SegmentResult{Segment: first.Segment}, impl.OK, impl.Segment{})
			}
		}
	}
}

func TestP1NoSegmentIsChanged(t *testing.T) {
	for _, count := range []int{0, 1, 19, 20, 21, 24, 519, 520, 521, 560, 561, 5000} {
		given := mixed(count)
		if count >= 20 {
			given = sealedAB(put(given, 12, 80))
		}
		data, whole := withSpare(given)
		before := bytes.Clone(whole)
		for _, s := range []impl.Segment{
			{FromPort: 1, ToPort: 2, Flags: 2, Mss: 3, Data: data},
			{FromPort: 1, ToPort: 2, Ack: 3, Flags: 16, Data: data},
			{FromPort: 1, ToPort: 2, Ack: 3, Data: data},
			{Data: data},
		} {
			impl.SegmentFault(s)
			impl.SegmentSize(s)
			impl.HasFlag(s, impl.FlagSyn)
			impl.PackSegment(hostA, hostB, s)
			impl.PackSegment(-1, hostB, s)
			impl.ResetFor(s)
			impl.SameSegments(s, s)
			impl.SameSegments(s, impl.Segment{Data: mixed(count)})
		}
		readAB(data)
		impl.ReadSegment(hostA, -1, data)
		if !bytes.Equal(whole, before) {
			t.Errorf("%d bytes, or what is behind them, were changed", count)
		}
	}
}

func TestP1SegmentsAreNewMemory(t *testing.T) {
	for _, count := range []int{0, 1, 2, 95, 519, 520} {
		for _, mss := range []int64{0, 1460} {
			given, wholeGiven := withSpare(mixed(count))
			s := impl.Segment{FromPort: 1, ToPort: 2, Flags: 2, Mss: mss, Data: given}
			made := impl.PackSegment(hostA, hostB, s)
			wantNoSharing(t, fmt.Sprintf("PackSegment with %d bytes", count), wholeGiven, made.Bytes)
			wantNoSharing(t, fmt.Sprintf("ResetFor with %d bytes", count), wholeGiven, impl.ResetFor(s).Segment.Data)
			data, whole := withSpare(made.Bytes)
			wantNoSharing(t, fmt.Sprintf("ReadSegment with %d bytes", count), whole, readAB(data).Segment.Data)
		}
	}
}

func TestP1SegmentAnswersHangOnTheArgumentsAlone(t *testing.T) {
	s := impl.Segment{FromPort: 0x1112, ToPort: 0x2122, Seq: 0x31323334, Ack: 0x41424344, Flags: 24, Window: 0x5152, Data: []byte("abc")}
	data := unhex(t, "111221223132333441424344501851526af10000616263")
	for range 3 {
		made := impl.PackSegment(hostA, hostB, s)
		wantBytes(t, "PackSegment", made, impl.OK, data)
		read := readAB(data)
		wantSegment(t, "ReadSegment", read, impl.OK, s)
		wantSegment(t, "ResetFor", impl.ResetFor(s), impl.OK, impl.Segment{FromPort: 0x2122, ToPort: 0x1112, Seq: 0x41424344, Flags: 4})
		wantInt(t, "SegmentSize", impl.SegmentSize(s), impl.OK, 3)
		flipAll(made.Bytes[:cap(made.Bytes)])
		flipAll(read.Segment.Data[:cap(read.Segment.Data)])
		wantSegment(t, "ReadSegment of 19 bytes", readAB(data[:19]), impl.ErrMany, impl.Segment{})
		wantBytes(t, "PackSegment without ports", impl.PackSegment(hostA, hostB, impl.Segment{}), impl.ErrRange, nil)
	}
}
