package tests

import (
	"bytes"
	"encoding/binary"
	"fmt"
	"math"
	"testing"

	"loop.example/g00726/impl"
)

const hostA = 0x0a000001
const hostB = 0x0a000002

// wantDatagram holds field against field, and so does not lean on SameDatagrams, which is itself asked.
func wantDatagram(t *testing.T, call string, got impl.DatagramResult, code int64, want impl.Datagram) {
	t.Helper()
	d := got.Datagram
	if got.Code != code || d.FromPort != want.FromPort || d.ToPort != want.ToPort || !bytes.Equal(d.Data, want.Data) {
		t.Errorf("%s: code %d, datagram %v; want code %d, datagram %v", call, got.Code, d, code, want)
	}
}

func nameDatagram(from int64, to int64, d impl.Datagram) string {
	return fmt.Sprintf("datagram from %d port %d to %d port %d, with %d bytes", from, d.FromPort, to, d.ToPort, len(d.Data))
}

// headBytes tells the pseudo head in another way than the program does.
func headBytes(from int64, to int64, proto int64, size int64) []byte {
	head := binary.BigEndian.AppendUint32(nil, uint32(from))
	head = binary.BigEndian.AppendUint32(head, uint32(to))
	head = append(head, 0, byte(proto))
	return binary.BigEndian.AppendUint16(head, uint16(size))
}

// datagramBytes tells the head of a datagram and its Data, with whatever ports, length and sum.
func datagramBytes(fromPort int, toPort int, length int, sum int, data []byte) []byte {
	head := make([]byte, 8)
	for i, word := range []int{fromPort, toPort, length, sum} {
		binary.BigEndian.PutUint16(head[2*i:], uint16(word))
	}
	return append(head, data...)
}

// sumBetween tells the sum that these bytes have between two addresses, whatever stands in its place.
func sumBetween(from int64, to int64, data []byte) int {
	all := append(headBytes(from, to, 17, int64(len(data))), putWord(data, 6, 0)...)
	return int(onesSum(all))
}

// datagramSealed makes the sum anew; one of 0 is told as 65535.
func datagramSealed(from int64, to int64, data []byte) []byte {
	sum := sumBetween(from, to, data)
	if sum == 0 {
		sum = 65535
	}
	return putWord(data, 6, sum)
}

func packedDatagram(t *testing.T, from int64, to int64, d impl.Datagram) []byte {
	t.Helper()
	made := impl.PackDatagram(from, to, d)
	if made.Code != impl.OK || len(made.Bytes) != 8+len(d.Data) {
		t.Fatalf("PackDatagram of the %s: code %d, %d bytes", nameDatagram(from, to, d), made.Code, len(made.Bytes))
	}
	return made.Bytes
}

// checkDatagram packs a datagram, holds its bytes against what they have to be, and reads it back.
func checkDatagram(t *testing.T, from int64, to int64, d impl.Datagram) {
	t.Helper()
	call := nameDatagram(from, to, d)
	wantCode(t, "DatagramFault of the "+call, impl.DatagramFault(d), impl.OK)
	data := packedDatagram(t, from, to, d)
	bare := datagramBytes(int(d.FromPort), int(d.ToPort), 8+len(d.Data), 0, d.Data)
	wantBytes(t, "PackDatagram of the "+call, impl.BytesResult{Bytes: data}, impl.OK, datagramSealed(from, to, bare))
	back := impl.ReadDatagram(from, to, data)
	wantDatagram(t, "read back: "+call, back, impl.OK, d)
	wantBool(t, "SameDatagrams of the "+call+" and itself read back", impl.SameDatagrams(d, back.Datagram), true)
}

func TestP5BytesOfPseudoHeads(t *testing.T) {
	rows := []struct {
		from, to, proto, size int64
		text                  string
	}{
		{hostA, hostB, 17, 9, "0a0000010a00000200110009"},
		{0, 0, 0, 0, "000000000000000000000000"},
		{impl.MaxIp, impl.MaxIp, 255, 65535, "ffffffffffffffff00ffffff"},
		{0x01020304, 0x11121314, 0x21, 0x3132, "010203041112131400213132"},
		{impl.MaxIp, 0, impl.ProtoTcp, 256, "ffffffff0000000000060100"},
		{0, impl.MaxIp, impl.ProtoIcmp, 255, "00000000ffffffff000100ff"},
	}
	for _, r := range rows {
		call := fmt.Sprintf("PseudoHead(%d, %d, %d, %d)", r.from, r.to, r.proto, r.size)
		wantBytes(t, call, impl.PseudoHead(r.from, r.to, r.proto, r.size), impl.OK, unhex(t, r.text))
	}
}

func TestP5BytesOfDatagrams(t *testing.T) {
	rows := []struct {
		from, to int64
		datagram impl.Datagram
		text     string
	}{
		{hostA, hostB, impl.Datagram{FromPort: 1, ToPort: 2, Data: []byte{3}}, "000100020009e8d6" + "03"},
		{0, 0, impl.Datagram{FromPort: 1, ToPort: 1}, "000100010008ffdc"},
		{impl.MaxIp, impl.MaxIp, impl.Datagram{FromPort: 65535, ToPort: 65535}, "ffffffff0008ffde"},
		{0x01020304, 0x11121314, impl.Datagram{FromPort: 0x2122, ToPort: 0x3132, Data: []byte{0x41, 0x42, 0x43}}, "21223132000b0116" + "414243"},
	}
	for _, r := range rows {
		data := unhex(t, r.text)
		call := nameDatagram(r.from, r.to, r.datagram)
		wantBytes(t, "PackDatagram of the "+call, impl.PackDatagram(r.from, r.to, r.datagram), impl.OK, data)
		wantDatagram(t, "ReadDatagram of "+r.text, impl.ReadDatagram(r.from, r.to, data), impl.OK, r.datagram)
	}
}

func TestP5DatagramsAreReadBack(t *testing.T) {
	ports := []int64{1, 2, 255, 256, 0x0102, 65534, 65535}
	for _, from := range someIps() {
		for _, to := range someIps() {
			for _, fromPort := range ports {
				for _, toPort := range ports {
					for _, count := range []int{0, 1, 2, 3, 551, 552} {
						checkDatagram(t, from, to, impl.Datagram{FromPort: fromPort, ToPort: toPort, Data: mixed(count)})
					}
				}
			}
		}
	}
}

func TestP5EachDataOfADatagramIsReadBack(t *testing.T) {
	for count := range 553 {
		for _, data := range [][]byte{mixed(count), make([]byte, count), repeated(255, count)} {
			checkDatagram(t, hostA, hostB, impl.Datagram{FromPort: 5, ToPort: 6, Data: data})
			checkDatagram(t, impl.MaxIp, 0, impl.Datagram{FromPort: 65535, ToPort: 1, Data: data})
		}
	}
}

// The sums of these are 0, and 0 would say that there is none.
func TestP5ASumOfZeroIsToldAs65535(t *testing.T) {
	rows := []struct {
		from, to int64
		datagram impl.Datagram
		text     string
	}{
		{0, 0, impl.Datagram{FromPort: 1, ToPort: 2, Data: []byte{255, 215}}, "00010002000affff" + "ffd7"},
		{0, 0, impl.Datagram{FromPort: 1, ToPort: 65501}, "0001ffdd0008ffff"},
		{65500, 0, impl.Datagram{FromPort: 1, ToPort: 1}, "000100010008ffff"},
		{0, 65500 << 16, impl.Datagram{FromPort: 1, ToPort: 1}, "000100010008ffff"},
		{impl.MaxIp, impl.MaxIp, impl.Datagram{FromPort: 1, ToPort: 65501}, "0001ffdd0008ffff"},
		{0, 0, impl.Datagram{FromPort: 1, ToPort: 0xdb, Data: []byte{255}}, "000100db0009ffff" + "ff"},
	}
	for _, r := range rows {
		data := unhex(t, r.text)
		call := nameDatagram(r.from, r.to, r.datagram)
		if sum := sumBetween(r.from, r.to, data); sum != 0 {
			t.Fatalf("the sum of the %s is %d", call, sum)
		}
		wantBytes(t, "PackDatagram of the "+call, impl.PackDatagram(r.from, r.to, r.datagram), impl.OK, data)
		wantDatagram(t, "ReadDatagram of "+r.text, impl.ReadDatagram(r.from, r.to, data), impl.OK, r.datagram)
		wantDatagram(t, "ReadDatagram of "+r.text+" without a sum", impl.ReadDatagram(r.from, r.to, putWord(data, 6, 0)), impl.OK, r.datagram)
		wantDatagram(t, "ReadDatagram of "+r.text+" with the sum 1", impl.ReadDatagram(r.from, r.to, putWord(data, 6, 1)), impl.ErrSum, impl.Datagram{})
		wantDatagram(t, "ReadDatagram of "+r.text+" with the sum 65534", impl.ReadDatagram(r.from, r.to, putWord(data, 6, 65534)), impl.ErrSum, impl.Datagram{})
	}
}

// What a datagram's sum is with two zeros in its Data makes it 0 in their place.
func TestP5EachDatagramCanHaveASumOfZero(t *testing.T) {
	for _, from := range someIps() {
		for _, to := range someIps() {
			for _, count := range []int{2, 3, 4, 101, 551, 552} {
				d := impl.Datagram{FromPort: 7, ToPort: 9, Data: putWord(mixed(count), 0, 0)}
				sum := sumBetween(from, to, datagramBytes(7, 9, 8+count, 0, d.Data))
				d.Data = putWord(d.Data, 0, sum)
				data := packedDatagram(t, from, to, d)
				wantBytes(t, "the sum of the "+nameDatagram(from, to, d), impl.BytesResult{Bytes: data[6:8]}, impl.OK, []byte{255, 255})
				checkDatagram(t, from, to, d)
			}
		}
	}
}

func TestP5ASumThatIsNotToldIsNotAsked(t *testing.T) {
	for _, from := range someIps() {
		for _, to := range someIps() {
			for _, count := range []int{0, 1, 2, 3, 551, 552} {
				for _, data := range [][]byte{mixed(count), make([]byte, count), repeated(255, count)} {
					for _, port := range []int{1, 256, 65535} {
						d := impl.Datagram{FromPort: int64(port), ToPort: int64(65536 - port), Data: data}
						bare := datagramBytes(port, 65536-port, 8+count, 0, data)
						wantDatagram(t, "without a sum: "+nameDatagram(from, to, d), impl.ReadDatagram(from, to, bare), impl.OK, d)
					}
				}
			}
		}
	}
}

// A sum is told where only one of its two bytes is 0.
func TestP5ASumWithOneByteOfZeroIsAsked(t *testing.T) {
	for _, sum := range []int{0x00ff, 0x0001, 0xff00, 0x0100, 0x8000} {
		d := impl.Datagram{FromPort: 1, ToPort: 2, Data: []byte{0, 0}}
		before := sumBetween(hostA, hostB, datagramBytes(1, 2, 10, 0, d.Data))
		// The sum falls by as much as the word in Data is; 65535 counts as 0 there.
		d.Data = putWord(d.Data, 0, (before-sum+65535)%65535)
		data := packedDatagram(t, hostA, hostB, d)
		wantBytes(t, fmt.Sprintf("the sum %04x", sum), impl.BytesResult{Bytes: data[6:8]}, impl.OK, []byte{byte(sum >> 8), byte(sum)})
		wantDatagram(t, fmt.Sprintf("ReadDatagram with the sum %04x", sum), impl.ReadDatagram(hostA, hostB, data), impl.OK, d)
		// Where the sum has one bit alone, and that is turned, none is told any more.
		wantDatagram(t, fmt.Sprintf("ReadDatagram with 0 for the sum %04x", sum), impl.ReadDatagram(hostA, hostB, putWord(data, 6, 0)), impl.OK, d)
		turned := put(data, 9, data[9]^1)
		wantDatagram(t, fmt.Sprintf("ReadDatagram with the sum %04x of other bytes", sum), impl.ReadDatagram(hostA, hostB, turned), impl.ErrSum, impl.Datagram{})
	}
}

func TestP5EachOtherSumIsTold(t *testing.T) {
	datagrams := []impl.Datagram{
		{FromPort: 1, ToPort: 2, Data: []byte{3}},
		{FromPort: 65535, ToPort: 65535},
		{FromPort: 1, ToPort: 65501},
	}
	for _, d := range datagrams {
		for _, ip := range []int64{0, hostA, impl.MaxIp} {
			data := packedDatagram(t, ip, 0, d)
			for sum := 1; sum < 65536; sum++ {
				other := putWord(data, 6, sum)
				read := impl.ReadDatagram(ip, 0, other)
				if isSame := bytes.Equal(other, data); isSame != (read.Code == impl.OK) || !isSame && read.Code != impl.ErrSum {
					t.Fatalf("ReadDatagram of the %s with the sum %d: code %d", nameDatagram(ip, 0, d), sum, read.Code)
				}
			}
		}
	}
}

func someDatagrams() []impl.Datagram {
	return []impl.Datagram{
		{FromPort: 1, ToPort: 1},
		{FromPort: 65535, ToPort: 65535, Data: []byte{255}},
		{FromPort: 0x2122, ToPort: 0x3132, Data: mixed(12)},
		{FromPort: 53, ToPort: 1024, Data: mixed(551)},
		{FromPort: 1, ToPort: 65501, Data: make([]byte, 552)},
	}
}

func TestP5OtherAddressesAreTold(t *testing.T) {
	for _, d := range someDatagrams() {
		for _, from := range someIps() {
			for _, to := range someIps() {
				data := packedDatagram(t, from, to, d)
				call := nameDatagram(from, to, d)
				for bit := range 32 {
					other := int64(1) << bit
					wantDatagram(t, fmt.Sprintf("bit %d of from turned: %s", bit, call), impl.ReadDatagram(from^other, to, data), impl.ErrSum, impl.Datagram{})
					wantDatagram(t, fmt.Sprintf("bit %d of to turned: %s", bit, call), impl.ReadDatagram(from, to^other, data), impl.ErrSum, impl.Datagram{})
				}
			}
		}
	}
}

// A sum does not know which word stands where: these addresses are others, but their sum is the same.
func TestP5OtherAddressesWithTheSameSumAreNotTold(t *testing.T) {
	for _, d := range someDatagrams() {
		data := packedDatagram(t, 0x01020304, 0x11121314, d)
		rows := []struct{ from, to int64 }{
			{0x11121314, 0x01020304}, {0x03040102, 0x11121314}, {0x01020305, 0x11121313}, {0x0406, 0x2426},
		}
		for _, r := range rows {
			wantDatagram(t, "the same sum: "+nameDatagram(r.from, r.to, d), impl.ReadDatagram(r.from, r.to, data), impl.OK, d)
		}
		zeros := packedDatagram(t, 0, 0, d)
		wantDatagram(t, "the sum of no address and the highest one", impl.ReadDatagram(impl.MaxIp, 0, zeros), impl.OK, d)
	}
}

func TestP5EachBitOfADatagramIsTold(t *testing.T) {
	for _, d := range someDatagrams() {
		for _, ip := range someIps() {
			data := packedDatagram(t, ip, hostB, d)
			for bit := range 8 * len(data) {
				code := int64(impl.ErrSum)
				if isLength := bit/16 == 2; isLength {
					code = impl.ErrForm
				}
				turned := put(data, bit/8, data[bit/8]^1<<(bit%8))
				wantDatagram(t, fmt.Sprintf("bit %d of the %s turned", bit, nameDatagram(ip, hostB, d)), impl.ReadDatagram(ip, hostB, turned), code, impl.Datagram{})
			}
		}
	}
}

// The addresses, the protocol and the size are all in the sum: one over less does not do.
func TestP5TheSumIsOverThePseudoHeadToo(t *testing.T) {
	d := impl.Datagram{FromPort: 1, ToPort: 2, Data: mixed(5)}
	bare := datagramBytes(1, 2, 13, 0, d.Data)
	heads := map[string][]byte{
		"no head":          {},
		"another protocol": headBytes(hostA, hostB, impl.ProtoTcp, 13),
		"no protocol":      headBytes(hostA, hostB, 0, 13),
		"the size of Data": headBytes(hostA, hostB, impl.ProtoUdp, 5),
		"no size":          headBytes(hostA, hostB, impl.ProtoUdp, 0),
		"only from":        headBytes(hostA, 0, impl.ProtoUdp, 13),
		"only to":          headBytes(0, hostB, impl.ProtoUdp, 13),
	}
	for call, head := range heads {
		sum := int(onesSum(append(bytes.Clone(head), bare...)))
		wantDatagram(t, "a sum over "+call, impl.ReadDatagram(hostA, hostB, putWord(bare, 6, sum)), impl.ErrSum, impl.Datagram{})
	}
	wantDatagram(t, "a sum over all", impl.ReadDatagram(hostA, hostB, datagramSealed(hostA, hostB, bare)), impl.OK, d)
}

func TestP5ADatagramIsReadBackAsTheBodyOfAPacket(t *testing.T) {
	for _, count := range []int{0, 1, 551, 552} {
		d := impl.Datagram{FromPort: 7, ToPort: 8, Data: mixed(count)}
		body := packedDatagram(t, hostA, hostB, d)
		data := packed(t, impl.Packet{From: hostA, To: hostB, Proto: impl.ProtoUdp, Ttl: impl.FirstTtl, Body: body})
		frame := impl.PackFrame(impl.Frame{To: 3, From: 4, Kind: impl.KindIp, Body: append(data, 0, 0, 0)})
		p := impl.ReadPacket(impl.ReadFrame(frame.Bytes).Frame.Body).Packet
		wantDatagram(t, fmt.Sprintf("a datagram with %d bytes, in a packet, in a frame", count), impl.ReadDatagram(p.From, p.To, p.Body), impl.OK, d)
	}
}

// checkOneDatagramField turns one field after the other of a datagram.
func checkOneDatagramField(t *testing.T, call string, d impl.Datagram) {
	t.Helper()
	copied := d
	copied.Data = bytes.Clone(d.Data)
	wantSame(t, impl.SameDatagrams, call+": a copy", d, copied, true)
	from, to, longer := d, d, d
	from.FromPort ^= 1
	to.ToPort ^= 1
	longer.Data = append(bytes.Clone(d.Data), 0)
	wantSame(t, impl.SameDatagrams, call+": another FromPort", d, from, false)
	wantSame(t, impl.SameDatagrams, call+": another ToPort", d, to, false)
	wantSame(t, impl.SameDatagrams, call+": one byte more", d, longer, false)
	for at := range d.Data {
		turned := d
		turned.Data = put(d.Data, at, d.Data[at]^1)
		wantSame(t, impl.SameDatagrams, fmt.Sprintf("%s: another byte at %d", call, at), d, turned, false)
	}
}

func TestP5SameDatagrams(t *testing.T) {
	checkOneDatagramField(t, "no data", impl.Datagram{FromPort: 2, ToPort: 4})
	checkOneDatagramField(t, "one byte", impl.Datagram{FromPort: 2, ToPort: 4, Data: []byte{0}})
	checkOneDatagramField(t, "552 bytes", impl.Datagram{FromPort: 65535, ToPort: 65535, Data: mixed(552)})
	d := impl.Datagram{FromPort: 2, ToPort: 4}
	wantSame(t, impl.SameDatagrams, "the ports changed", d, impl.Datagram{FromPort: 4, ToPort: 2}, false)
	wantSame(t, impl.SameDatagrams, "nil and empty data", d, impl.Datagram{FromPort: 2, ToPort: 4, Data: []byte{}}, true)
	wantSame(t, impl.SameDatagrams, "one and none", d, impl.Datagram{}, false)
}

func TestP5SameDatagramsOfDatagramsWithAFault(t *testing.T) {
	checkOneDatagramField(t, "all zero", impl.Datagram{})
	checkOneDatagramField(t, "all below", impl.Datagram{FromPort: -1, ToPort: -2, Data: []byte{1}})
	checkOneDatagramField(t, "all above", impl.Datagram{FromPort: 65536, ToPort: 65537, Data: []byte{1}})
	checkOneDatagramField(t, "the lowest", impl.Datagram{FromPort: math.MinInt64, ToPort: math.MinInt64})
	checkOneDatagramField(t, "the highest", impl.Datagram{FromPort: math.MaxInt64, ToPort: math.MaxInt64})
	checkOneDatagramField(t, "553 bytes", impl.Datagram{FromPort: 1, ToPort: 1, Data: mixed(553)})
	checkOneDatagramField(t, "1500 bytes", impl.Datagram{FromPort: -1, Data: mixed(1500)})
	// Numbers that are alike in the bytes that a datagram has room for are not the same.
	wantSame(t, impl.SameDatagrams, "a FromPort that is a round further on", impl.Datagram{FromPort: 1}, impl.Datagram{FromPort: 65537}, false)
	wantSame(t, impl.SameDatagrams, "a ToPort that is a round further on", impl.Datagram{ToPort: 1}, impl.Datagram{ToPort: 65537}, false)
}

func wantPseudoHead(t *testing.T, from int64, to int64, proto int64, size int64, isOne bool) {
	t.Helper()
	call := fmt.Sprintf("PseudoHead(%d, %d, %d, %d)", from, to, proto, size)
	if isOne {
		wantBytes(t, call, impl.PseudoHead(from, to, proto, size), impl.OK, headBytes(from, to, proto, size))
	} else {
		wantBytes(t, call, impl.PseudoHead(from, to, proto, size), impl.ErrRange, nil)
	}
}

func TestP1PseudoHeadCodes(t *testing.T) {
	ips := append(someIps(), noIp()...)
	protos := []int64{math.MinInt64, -256, -1, 0, 1, 254, 255, 256, 257, 65535, math.MaxInt64}
	sizes := []int64{math.MinInt64, -65536, -1, 0, 1, 65534, 65535, 65536, impl.MaxIp, math.MaxInt64}
	for _, from := range ips {
		for _, to := range ips {
			for _, proto := range protos {
				for _, size := range sizes {
					isFrom := from >= 0 && from <= 4294967295
					isTo := to >= 0 && to <= 4294967295
					isProto := proto >= 0 && proto <= 255
					isSize := size >= 0 && size <= 65535
					wantPseudoHead(t, from, to, proto, size, isFrom && isTo && isProto && isSize)
				}
			}
		}
	}
}

// noPort tells what stands just outside the bounds of a port, and the ends of int64.
func noPort() []int64 {
	return append(noWord(), 0)
}

func wantDatagramFault(t *testing.T, d impl.Datagram, code int64) {
	t.Helper()
	call := nameDatagram(hostA, hostB, d)
	wantCode(t, "DatagramFault of the "+call, impl.DatagramFault(d), code)
	wantBytes(t, "PackDatagram of the "+call, impl.PackDatagram(hostA, hostB, d), code, nil)
}

func TestP1DatagramCodes(t *testing.T) {
	wantDatagramFault(t, impl.Datagram{}, impl.ErrRange)
	// Data that is too long does not change the code: the ports are asked ahead of it.
	for _, data := range [][]byte{nil, {}, {1}, mixed(552), mixed(553), mixed(5000)} {
		for _, none := range noPort() {
			wantDatagramFault(t, impl.Datagram{FromPort: none, ToPort: 1, Data: data}, impl.ErrRange)
			wantDatagramFault(t, impl.Datagram{FromPort: 1, ToPort: none, Data: data}, impl.ErrRange)
			wantDatagramFault(t, impl.Datagram{FromPort: none, ToPort: none, Data: data}, impl.ErrRange)
		}
	}
	for _, count := range []int{553, 554, 560, 561, 692, 693, 700, 701, 65528, 70000} {
		wantDatagramFault(t, impl.Datagram{FromPort: 1, ToPort: 1, Data: make([]byte, count)}, impl.ErrMany)
		wantDatagramFault(t, impl.Datagram{FromPort: 65535, ToPort: 65535, Data: mixed(count)}, impl.ErrMany)
	}
	checkDatagram(t, 0, 0, impl.Datagram{FromPort: 1, ToPort: 1, Data: nil})
	checkDatagram(t, 0, 0, impl.Datagram{FromPort: 1, ToPort: 1, Data: []byte{}})
	checkDatagram(t, impl.MaxIp, impl.MaxIp, impl.Datagram{FromPort: 65535, ToPort: 65535, Data: mixed(552)})
}

func TestP1PackDatagramAsksTheAddressesFirst(t *testing.T) {
	datagrams := []impl.Datagram{
		{},
		{FromPort: 1, ToPort: 2},
		{FromPort: 1, ToPort: 2, Data: mixed(552)},
		{FromPort: 1, ToPort: 2, Data: mixed(553)},
		{FromPort: 0, ToPort: 65536, Data: mixed(5000)},
	}
	for _, d := range datagrams {
		for _, none := range noIp() {
			wantBytes(t, "PackDatagram of the "+nameDatagram(none, 0, d), impl.PackDatagram(none, 0, d), impl.ErrRange, nil)
			wantBytes(t, "PackDatagram of the "+nameDatagram(0, none, d), impl.PackDatagram(0, none, d), impl.ErrRange, nil)
			wantBytes(t, "PackDatagram of the "+nameDatagram(none, none, d), impl.PackDatagram(none, none, d), impl.ErrRange, nil)
		}
	}
}

func TestP1ReadDatagramAsksTheAddressesFirst(t *testing.T) {
	good := datagramSealed(0, 0, datagramBytes(1, 2, 10, 0, []byte{3, 4}))
	rows := map[string][]byte{
		"nil":             nil,
		"no bytes":        {},
		"7 bytes":         mixed(7),
		"561 bytes":       mixed(561),
		"5000 bytes":      mixed(5000),
		"all is right":    good,
		"another length":  putWord(good, 4, 9),
		"another sum":     putWord(good, 6, 1),
		"no sum":          putWord(good, 6, 0),
		"a port of 0":     putWord(putWord(good, 0, 0), 6, 0),
		"nothing is told": make([]byte, 8),
	}
	for call, data := range rows {
		for _, none := range noIp() {
			wantDatagram(t, fmt.Sprintf("%s, from %d", call, none), impl.ReadDatagram(none, 0, data), impl.ErrRange, impl.Datagram{})
			wantDatagram(t, fmt.Sprintf("%s, to %d", call, none), impl.ReadDatagram(0, none, data), impl.ErrRange, impl.Datagram{})
			wantDatagram(t, fmt.Sprintf("%s, from and to %d", call, none), impl.ReadDatagram(none, none, data), impl.ErrRange, impl.Datagram{})
		}
	}
	wantDatagram(t, "from 0 to 0", impl.ReadDatagram(0, 0, good), impl.OK, impl.Datagram{FromPort: 1, ToPort: 2, Data: []byte{3, 4}})
}

func TestP1ReadDatagramAsksHowMany(t *testing.T) {
	wantDatagram(t, "ReadDatagram of nil", impl.ReadDatagram(hostA, hostB, nil), impl.ErrMany, impl.Datagram{})
	wantDatagram(t, "ReadDatagram of no bytes", impl.ReadDatagram(hostA, hostB, []byte{}), impl.ErrMany, impl.Datagram{})
	for count := range 8 {
		// Here the rest stands behind the end, in the same memory.
		data := datagramBytes(1, 2, 8, 0, nil)
		wantDatagram(t, fmt.Sprintf("ReadDatagram of the first %d bytes", count), impl.ReadDatagram(hostA, hostB, data[:count]), impl.ErrMany, impl.Datagram{})
		short := datagramBytes(1, 2, count, 0, nil)
		wantDatagram(t, fmt.Sprintf("ReadDatagram of %d bytes that tell so", count), impl.ReadDatagram(hostA, hostB, short[:count]), impl.ErrMany, impl.Datagram{})
	}
	for _, count := range []int{8, 9, 559, 560} {
		d := impl.Datagram{FromPort: 1, ToPort: 2, Data: mixed(count - 8)}
		bare := datagramBytes(1, 2, count, 0, d.Data)
		wantDatagram(t, fmt.Sprintf("ReadDatagram of %d bytes", count), impl.ReadDatagram(hostA, hostB, datagramSealed(hostA, hostB, bare)), impl.OK, d)
		wantDatagram(t, fmt.Sprintf("ReadDatagram of %d bytes without a sum", count), impl.ReadDatagram(hostA, hostB, bare), impl.OK, d)
	}
	for _, count := range []int{561, 562, 568, 600, 688, 689, 700, 701, 5000} {
		bare := datagramBytes(1, 2, count, 0, mixed(count-8))
		wantDatagram(t, fmt.Sprintf("ReadDatagram of %d bytes", count), impl.ReadDatagram(hostA, hostB, datagramSealed(hostA, hostB, bare)), impl.ErrMany, impl.Datagram{})
		wantDatagram(t, fmt.Sprintf("ReadDatagram of %d bytes without a sum", count), impl.ReadDatagram(hostA, hostB, bare), impl.ErrMany, impl.Datagram{})
	}
}

func TestP1ReadDatagramAsksTheLengthTold(t *testing.T) {
	for _, count := range []int{8, 9, 10, 11, 255, 256, 257, 264, 559, 560} {
		d := impl.Datagram{FromPort: 1, ToPort: 2, Data: mixed(count - 8)}
		lengths := []int{0, 1, 7, 8, 9, count - 8, count - 1, count, count + 1, count + 8, count ^ 1, count ^ 256, count + 256, count ^ 32768, 560, 561, 65535}
		for _, length := range lengths {
			bare := datagramBytes(1, 2, length, 0, d.Data)
			code, want := int64(impl.ErrForm), impl.Datagram{}
			if length == count {
				code, want = impl.OK, d
			}
			call := fmt.Sprintf("ReadDatagram of %d bytes that tell %d", count, length)
			wantDatagram(t, call, impl.ReadDatagram(hostA, hostB, datagramSealed(hostA, hostB, bare)), code, want)
			wantDatagram(t, call+", without a sum", impl.ReadDatagram(hostA, hostB, bare), code, want)
		}
	}
}

func TestP1ReadDatagramTakesNoByteBehindIt(t *testing.T) {
	data := packedDatagram(t, hostA, hostB, impl.Datagram{FromPort: 1, ToPort: 2, Data: mixed(30)})
	for count := 8; count < 38; count++ {
		wantDatagram(t, fmt.Sprintf("ReadDatagram of the first %d of 38 bytes", count), impl.ReadDatagram(hostA, hostB, data[:count]), impl.ErrForm, impl.Datagram{})
	}
	for _, more := range []int{1, 2, 100} {
		longer := append(bytes.Clone(data), make([]byte, more)...)
		wantDatagram(t, fmt.Sprintf("ReadDatagram with %d bytes behind it", more), impl.ReadDatagram(hostA, hostB, longer), impl.ErrForm, impl.Datagram{})
	}
}

func TestP1ReadDatagramAsksThePorts(t *testing.T) {
	for _, count := range []int{0, 1, 552} {
		data := mixed(count)
		for _, from := range []int{0, 1, 255, 256, 65535} {
			for _, to := range []int{0, 1, 255, 256, 65535} {
				code, want := int64(impl.ErrRange), impl.Datagram{}
				if from > 0 && to > 0 {
					code, want = impl.OK, impl.Datagram{FromPort: int64(from), ToPort: int64(to), Data: data}
				}
				call := fmt.Sprintf("ReadDatagram from port %d to port %d with %d bytes", from, to, count)
				bare := datagramBytes(from, to, 8+count, 0, data)
				wantDatagram(t, call, impl.ReadDatagram(hostA, hostB, datagramSealed(hostA, hostB, bare)), code, want)
				wantDatagram(t, call+", without a sum", impl.ReadDatagram(hostA, hostB, bare), code, want)
			}
		}
	}
}

func TestP1ReadDatagramAsksTheCodesInOrder(t *testing.T) {
	good := datagramSealed(hostA, hostB, datagramBytes(1, 2, 8, 0, nil))
	noPorts := datagramSealed(hostA, hostB, datagramBytes(0, 0, 8, 0, nil))
	otherLength := datagramSealed(hostA, hostB, datagramBytes(1, 2, 9, 0, nil))
	rows := []struct {
		call string
		data []byte
		code int64
	}{
		{"all is right", good, impl.OK},
		{"no sum is told", putWord(good, 6, 0), impl.OK},
		{"another length", otherLength, impl.ErrForm},
		{"another sum", putWord(good, 6, 1), impl.ErrSum},
		{"no ports", noPorts, impl.ErrRange},
		{"no ports, no sum is told", putWord(noPorts, 6, 0), impl.ErrRange},
		{"no ports, another sum", putWord(noPorts, 6, 1), impl.ErrSum},
		{"no FromPort, another sum", putWord(good, 0, 0), impl.ErrSum},
		{"no ToPort, another sum", putWord(good, 2, 0), impl.ErrSum},
		{"another length and sum", putWord(otherLength, 6, 1), impl.ErrForm},
		{"another length, no ports", datagramSealed(hostA, hostB, putWord(noPorts, 4, 7)), impl.ErrForm},
		{"another length, no ports, no sum is told", make([]byte, 8), impl.ErrForm},
		{"another length and sum, no ports", datagramBytes(0, 0, 0, 1, nil), impl.ErrForm},
		{"7 bytes, nothing is right", datagramBytes(0, 0, 0, 1, nil)[:7], impl.ErrMany},
		{"561 bytes, another length", make([]byte, 561), impl.ErrMany},
		{"561 bytes, another sum", datagramBytes(1, 2, 561, 1, make([]byte, 553)), impl.ErrMany},
		{"561 bytes, no ports", datagramBytes(0, 0, 561, 0, make([]byte, 553)), impl.ErrMany},
	}
	for _, r := range rows {
		want := impl.Datagram{}
		if r.code == impl.OK {
			want = impl.Datagram{FromPort: 1, ToPort: 2}
		}
		wantDatagram(t, "ReadDatagram: "+r.call, impl.ReadDatagram(hostA, hostB, r.data), r.code, want)
	}
}

func TestP1NoDatagramIsChanged(t *testing.T) {
	for _, count := range []int{0, 1, 7, 8, 9, 551, 552, 553, 560, 561, 5000} {
		for _, sum := range []int{0, 1} {
			given := mixed(count)
			copy(given, datagramBytes(1, 2, count, sum, nil))
			data, whole := withSpare(given)
			before := bytes.Clone(whole)
			for _, port := range []int64{0, 1} {
				d := impl.Datagram{FromPort: port, ToPort: 2, Data: data}
				impl.DatagramFault(d)
				impl.PackDatagram(hostA, hostB, d)
				impl.PackDatagram(-1, hostB, d)
				impl.SameDatagrams(d, d)
				impl.SameDatagrams(d, impl.Datagram{FromPort: port, ToPort: 2, Data: mixed(count)})
			}
			impl.ReadDatagram(hostA, hostB, data)
			impl.ReadDatagram(hostA, -1, data)
			if !bytes.Equal(whole, before) {
				t.Errorf("%d bytes, or what is behind them, were changed", count)
			}
		}
	}
}

func TestP1DatagramsAreNewMemory(t *testing.T) {
	for _, count := range []int{0, 1, 2, 95, 551, 552} {
		given, wholeGiven := withSpare(mixed(count))
		made := impl.PackDatagram(hostA, hostB, impl.Datagram{FromPort: 1, ToPort: 2, Data: given})
		wantNoSharing(t, fmt.Sprintf("PackDatagram with %d bytes", count), wholeGiven, made.Bytes)
		data, whole := withSpare(made.Bytes)
		wantNoSharing(t, fmt.Sprintf("ReadDatagram with %d bytes", count), whole, impl.ReadDatagram(hostA, hostB, data).Datagram.Data)
		bare, wholeBare := withSpare(putWord(made.Bytes, 6, 0))
		wantNoSharing(t, fmt.Sprintf("ReadDatagram with %d bytes and no sum", count), wholeBare, impl.ReadDatagram(hostA, hostB, bare).Datagram.Data)
	}
}

func TestP1DatagramAnswersHangOnTheArgumentsAlone(t *testing.T) {
	d := impl.Datagram{FromPort: 1, ToPort: 2, Data: []byte{3}}
	data := unhex(t, "000100020009e8d603")
	for range 3 {
		head := impl.PseudoHead(hostA, hostB, 17, 9)
		wantBytes(t, "PseudoHead", head, impl.OK, unhex(t, "0a0000010a00000200110009"))
		made := impl.PackDatagram(hostA, hostB, d)
		wantBytes(t, "PackDatagram", made, impl.OK, data)
		read := impl.ReadDatagram(hostA, hostB, data)
		wantDatagram(t, "ReadDatagram", read, impl.OK, d)
		flipAll(head.Bytes[:cap(head.Bytes)])
		flipAll(made.Bytes[:cap(made.Bytes)])
		flipAll(read.Datagram.Data[:cap(read.Datagram.Data)])
		wantDatagram(t, "ReadDatagram of 8 bytes", impl.ReadDatagram(hostA, hostB, data[:8]), impl.ErrForm, impl.Datagram{})
		wantBytes(t, "PackDatagram without ports", impl.PackDatagram(hostA, hostB, impl.Datagram{}), impl.ErrRange, nil)
	}
}
