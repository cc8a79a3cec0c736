package tests

import (
	"bytes"
	"fmt"
	"math"
	"testing"

	"loop.example/g00726/impl"
)

// wantFrame holds field against field, and so does not lean on SameFrames, which is itself asked.
func wantFrame(t *testing.T, call string, got impl.FrameResult, code int64, want impl.Frame) {
	t.Helper()
	f := got.Frame
	if got.Code != code || f.To != want.To || f.From != want.From || f.Kind != want.Kind || !bytes.Equal(f.Body, want.Body) {
		t.Errorf("%s: code %d, frame %v; want code %d, frame %v", call, got.Code, f, code, want)
	}
}

func wantArp(t *testing.T, call string, got impl.ArpResult, code int64, want impl.Arp) {
	t.Helper()
	if got.Code != code || got.Arp != want {
		t.Errorf("%s: code %d, arp %v; want code %d, arp %v", call, got.Code, got.Arp, code, want)
	}
}

func someMacs() []int64 {
	return []int64{0, 1, 0x0102030405f6, impl.MaxMac - 1, impl.MaxMac}
}

func someIps() []int64 {
	return []int64{0, 1, 0x0a0b0cfd, impl.MaxIp - 1, impl.MaxIp}
}

func someArp() impl.Arp {
	return impl.Arp{Op: impl.ArpTell, FromMac: 0x010203040506, FromIp: 0x0a0b0c0d, ToMac: 0x111213141516, ToIp: 0x1a1b1c1d}
}

const someArpText = "0001080006040002" + "010203040506" + "0a0b0c0d" + "111213141516" + "1a1b1c1d"

func TestP3Constants(t *testing.T) {
	if impl.MaxMac != 281474976710655 || impl.MaxIp != 4294967295 || impl.MaxBody != 600 {
		t.Error("a bound is another one")
	}
	if impl.KindIp != 2048 || impl.KindArp != 2054 || impl.ArpAsk != 1 || impl.ArpTell != 2 {
		t.Error("a kind or an op is another one")
	}
}

func TestP3BytesOfFrames(t *testing.T) {
	rows := []struct {
		frame impl.Frame
		text  string
	}{
		{impl.Frame{}, "0000000000000000000000000000"},
		{impl.Frame{To: 1, From: 258, Kind: impl.KindArp, Body: []byte{9}}, "000000000001000000000102080609"},
		{impl.Frame{To: 0x010203040506, From: 0x111213141516, Kind: 0x2122, Body: []byte{0x31, 0x32, 0x33}}, "0102030405061112131415162122313233"},
		{impl.Frame{To: impl.MaxMac, Kind: impl.KindIp}, "ffffffffffff0000000000000800"},
		{impl.Frame{From: impl.MaxMac, Kind: 65535, Body: []byte{0}}, "000000000000ffffffffffffffff00"},
	}
	for _, r := range rows {
		wantBytes(t, fmt.Sprintf("PackFrame of %v", r.frame), impl.PackFrame(r.frame), impl.OK, unhex(t, r.text))
		wantFrame(t, "ReadFrame of "+r.text, impl.ReadFrame(unhex(t, r.text)), impl.OK, r.frame)
	}
}

// checkFrame packs a frame and reads it back.
func checkFrame(t *testing.T, f impl.Frame) {
	t.Helper()
	call := fmt.Sprintf("frame to %d from %d of kind %d with %d bytes", f.To, f.From, f.Kind, len(f.Body))
	wantCode(t, "FrameFault of the "+call, impl.FrameFault(f), impl.OK)
	packed := impl.PackFrame(f)
	if packed.Code != impl.OK || len(packed.Bytes) != 14+len(f.Body) {
		t.Errorf("PackFrame of the %s: code %d, %d bytes", call, packed.Code, len(packed.Bytes))
	}
	back := impl.ReadFrame(packed.Bytes)
	wantFrame(t, "read back: "+call, back, impl.OK, f)
	wantBool(t, "SameFrames of the "+call+" and itself read back", impl.SameFrames(f, back.Frame), true)
}

func TestP3FramesAreReadBack(t *testing.T) {
	for _, to := range someMacs() {
		for _, from := range someMacs() {
			for _, kind := range []int64{0, 1, 255, 256, impl.KindIp, impl.KindArp, 65534, 65535} {
				for _, count := range []int{0, 1, 2, 46, 599, 600} {
					checkFrame(t, impl.Frame{To: to, From: from, Kind: kind, Body: mixed(count)})
				}
			}
		}
	}
}

func TestP3EachBodyIsReadBack(t *testing.T) {
	for count := range 601 {
		for _, body := range [][]byte{mixed(count), make([]byte, count), repeated(255, count)} {
			checkFrame(t, impl.Frame{To: 5, From: 6, Kind: impl.KindIp, Body: body})
		}
	}
}

func TestP3BytesAreFrames(t *testing.T) {
	for count := 14; count <= 614; count++ {
		for _, data := range [][]byte{mixed(count), make([]byte, count), repeated(255, count)} {
			read := impl.ReadFrame(data)
			wantCode(t, fmt.Sprintf("ReadFrame of %d bytes", count), read.Code, impl.OK)
			wantBytes(t, fmt.Sprintf("PackFrame of what %d bytes are", count), impl.PackFrame(read.Frame), impl.OK, data)
		}
	}
}

func TestP3BytesOfArps(t *testing.T) {
	rows := []struct {
		arp  impl.Arp
		text string
	}{
		{someArp(), someArpText},
		{impl.Arp{Op: impl.ArpAsk}, "0001080006040001" + "0000000000000000000000000000000000000000"},
		{impl.Arp{Op: impl.ArpTell, FromMac: 5, FromIp: 167772161, ToMac: 6, ToIp: 167772162}, "00010800060400020000000000050a0000010000000000060a000002"},
		{impl.Arp{Op: impl.ArpAsk, FromMac: impl.MaxMac, ToIp: impl.MaxIp}, "0001080006040001" + "ffffffffffff" + "00000000" + "000000000000" + "ffffffff"},
		{impl.Arp{Op: impl.ArpTell, FromIp: impl.MaxIp, ToMac: impl.MaxMac}, "0001080006040002" + "000000000000" + "ffffffff" + "ffffffffffff" + "00000000"},
	}
	for _, r := range rows {
		wantBytes(t, fmt.Sprintf("PackArp of %v", r.arp), impl.PackArp(r.arp), impl.OK, unhex(t, r.text))
		wantArp(t, "ReadArp of "+r.text, impl.ReadArp(unhex(t, r.text)), impl.OK, r.arp)
	}
}

// checkArp packs an arp and reads it back, from its bytes alone and with more behind them.
func checkArp(t *testing.T, a impl.Arp) {
	t.Helper()
	wantCode(t, fmt.Sprintf("ArpFault of %v", a), impl.ArpFault(a), impl.OK)
	packed := impl.PackArp(a)
	if packed.Code != impl.OK || len(packed.Bytes) != 28 {
		t.Fatalf("PackArp of %v: code %d, bytes %x", a, packed.Code, packed.Bytes)
	}
	for _, more := range []int{0, 1, 2, 18, 571, 572} {
		for _, behind := range [][]byte{mixed(more), make([]byte, more), repeated(255, more)} {
			data := append(bytes.Clone(packed.Bytes), behind...)
			wantArp(t, fmt.Sprintf("ReadArp with %d bytes behind", more), impl.ReadArp(data), impl.OK, a)
		}
	}
}

func TestP3ArpsAreReadBack(t *testing.T) {
	for _, op := range []int64{impl.ArpAsk, impl.ArpTell} {
		for _, mac := range someMacs() {
			for _, ip := range someIps() {
				checkArp(t, impl.Arp{Op: op, FromMac: mac, FromIp: ip, ToMac: 7, ToIp: 8})
				checkArp(t, impl.Arp{Op: op, FromMac: 7, FromIp: 8, ToMac: mac, ToIp: ip})
				checkArp(t, impl.Arp{Op: op, FromMac: mac, FromIp: ip, ToMac: impl.MaxMac - mac, ToIp: impl.MaxIp - ip})
				checkArp(t, impl.Arp{Op: op, FromMac: mac, FromIp: ip, ToMac: mac, ToIp: ip})
			}
		}
	}
}

func TestP3ArpsAreReadBackAsTheBodyOfAFrame(t *testing.T) {
	body := impl.PackArp(someArp()).Bytes
	for _, count := range []int{28, 46, 600} {
		padded := append(bytes.Clone(body), make([]byte, count-28)...)
		packed := impl.PackFrame(impl.Frame{To: impl.MaxMac, From: 1, Kind: impl.KindArp, Body: padded})
		read := impl.ReadFrame(packed.Bytes)
		wantArp(t, fmt.Sprintf("the arp in a body of %d bytes", count), impl.ReadArp(read.Frame.Body), impl.OK, someArp())
	}
}

func TestP3TheBytesBehindTheArpHeadAreAddresses(t *testing.T) {
	data := unhex(t, someArpText)
	for at := 8; at < 28; at++ {
		for value := range 256 {
			turned := bytes.Clone(data)
			turned[at] = byte(value)
			read := impl.ReadArp(turned)
			wantCode(t, fmt.Sprintf("ReadArp with %d at %d", value, at), read.Code, impl.OK)
			wantBytes(t, fmt.Sprintf("PackArp with %d at %d", value, at), impl.PackArp(read.Arp), impl.OK, turned)
		}
	}
}

// checkOneField turns one field after the other of a frame.
func checkOneField(t *testing.T, call string, f impl.Frame) {
	t.Helper()
	copied := f
	copied.Body = bytes.Clone(f.Body)
	wantSame(t, impl.SameFrames, call+": a copy", f, copied, true)
	to, from, kind, longer := f, f, f, f
	to.To ^= 1
	from.From ^= 1
	kind.Kind ^= 1
	longer.Body = append(bytes.Clone(f.Body), 0)
	wantSame(t, impl.SameFrames, call+": another To", f, to, false)
	wantSame(t, impl.SameFrames, call+": another From", f, from, false)
	wantSame(t, impl.SameFrames, call+": another Kind", f, kind, false)
	wantSame(t, impl.SameFrames, call+": one byte more", f, longer, false)
	for at := range f.Body {
		turned := f
		turned.Body = bytes.Clone(f.Body)
		turned.Body[at] ^= 1
		wantSame(t, impl.SameFrames, fmt.Sprintf("%s: another byte at %d", call, at), f, turned, false)
	}
}

func TestP3SameFrames(t *testing.T) {
	checkOneField(t, "no body", impl.Frame{To: 1, From: 2, Kind: 3})
	checkOneField(t, "one byte", impl.Frame{To: 1, From: 2, Kind: 3, Body: []byte{0}})
	checkOneField(t, "600 bytes", impl.Frame{To: impl.MaxMac, From: impl.MaxMac, Kind: 65535, Body: mixed(600)})
	changed := impl.Frame{To: 2, From: 1, Kind: 3}
	wantSame(t, impl.SameFrames, "To and From changed", impl.Frame{To: 1, From: 2, Kind: 3}, changed, false)
	wantSame(t, impl.SameFrames, "nil and an empty body", impl.Frame{Body: nil}, impl.Frame{Body: []byte{}}, true)
}

func TestP3SameFramesOfFramesWithAFault(t *testing.T) {
	checkOneField(t, "all below", impl.Frame{To: -1, From: -2, Kind: -3, Body: []byte{1}})
	checkOneField(t, "all above", impl.Frame{To: impl.MaxMac + 1, From: impl.MaxMac + 2, Kind: 65536, Body: []byte{1}})
	checkOneField(t, "the lowest", impl.Frame{To: math.MinInt64, From: math.MinInt64, Kind: math.MinInt64})
	checkOneField(t, "the highest", impl.Frame{To: math.MaxInt64, From: math.MaxInt64, Kind: math.MaxInt64})
	checkOneField(t, "601 bytes", impl.Frame{To: 1, Body: mixed(601)})
	checkOneField(t, "1500 bytes", impl.Frame{To: -1, Body: mixed(1500)})
}

// noMac, noIp and noWord tell what stands just outside the bounds, and the ends of int64.
func noMac() []int64 {
	return []int64{-1, impl.MaxMac + 1, math.MinInt64, math.MaxInt64}
}

func noIp() []int64 {
	return []int64{-1, impl.MaxIp + 1, impl.MaxMac, math.MinInt64, math.MaxInt64}
}

func noWord() []int64 {
	return []int64{-1, 65536, impl.MaxMac, math.MinInt64, math.MaxInt64}
}

func wantFrameFault(t *testing.T, f impl.Frame, code int64) {
	t.Helper()
	call := fmt.Sprintf("frame to %d from %d of kind %d with %d bytes", f.To, f.From, f.Kind, len(f.Body))
	wantCode(t, "FrameFault of the "+call, impl.FrameFault(f), code)
	wantBytes(t, "PackFrame of the "+call, impl.PackFrame(f), code, nil)
}

func TestP1FrameCodes(t *testing.T) {
	// A body that is too long does not change the code: the numbers are asked ahead of it.
	for _, body := range [][]byte{nil, {}, {1}, mixed(600), mixed(601), mixed(5000)} {
		for _, none := range noMac() {
			wantFrameFault(t, impl.Frame{To: none, From: 1, Kind: 1, Body: body}, impl.ErrRange)
			wantFrameFault(t, impl.Frame{To: 1, From: none, Kind: 1, Body: body}, impl.ErrRange)
			wantFrameFault(t, impl.Frame{To: none, From: none, Kind: none, Body: body}, impl.ErrRange)
		}
		for _, none := range noWord() {
			wantFrameFault(t, impl.Frame{To: 1, From: 1, Kind: none, Body: body}, impl.ErrRange)
		}
	}
	for _, count := range []int{601, 602, 614, 615, 700, 5000} {
		wantFrameFault(t, impl.Frame{Body: make([]byte, count)}, impl.ErrMany)
		wantFrameFault(t, impl.Frame{To: impl.MaxMac, From: impl.MaxMac, Kind: 65535, Body: mixed(count)}, impl.ErrMany)
	}
	checkFrame(t, impl.Frame{Body: nil})
	checkFrame(t, impl.Frame{Body: []byte{}})
	checkFrame(t, impl.Frame{To: impl.MaxMac, From: impl.MaxMac, Kind: 65535, Body: mixed(600)})
}

func TestP1ReadFrameCodes(t *testing.T) {
	wantFrame(t, "ReadFrame of nil", impl.ReadFrame(nil), impl.ErrMany, impl.Frame{})
	wantFrame(t, "ReadFrame of no bytes", impl.ReadFrame([]byte{}), impl.ErrMany, impl.Frame{})
	for _, count := range []int{1, 2, 6, 12, 13, 615, 616, 700, 5000} {
		for _, data := range [][]byte{mixed(count), make([]byte, count), repeated(255, count)} {
			wantFrame(t, fmt.Sprintf("ReadFrame of %d bytes", count), impl.ReadFrame(data), impl.ErrMany, impl.Frame{})
		}
	}
	// What stands behind the end in the same memory is not there.
	wantFrame(t, "ReadFrame of the first 13 of 20 bytes", impl.ReadFrame(mixed(20)[:13]), impl.ErrMany, impl.Frame{})
	wantFrame(t, "ReadFrame of the first 14 of 20 bytes", impl.ReadFrame(make([]byte, 20)[:14]), impl.OK, impl.Frame{})
	wantFrame(t, "ReadFrame of 14 bytes", impl.ReadFrame(repeated(255, 14)), impl.OK, impl.Frame{To: impl.MaxMac, From: impl.MaxMac, Kind: 65535})
	wantFrame(t, "ReadFrame of 614 bytes", impl.ReadFrame(make([]byte, 614)), impl.OK, impl.Frame{Body: make([]byte, 600)})
}

func wantArpFault(t *testing.T, a impl.Arp, code int64) {
	t.Helper()
	wantCode(t, fmt.Sprintf("ArpFault of %v", a), impl.ArpFault(a), code)
	wantBytes(t, fmt.Sprintf("PackArp of %v", a), impl.PackArp(a), code, nil)
}

func TestP1ArpCodes(t *testing.T) {
	wantArpFault(t, impl.Arp{}, impl.ErrRange)
	for _, op := range []int64{0, 3, -1, -2, 257, 258, 65535, 65536, 65537, 65538, math.MinInt64, math.MaxInt64} {
		a := someArp()
		a.Op = op
		wantArpFault(t, a, impl.ErrRange)
	}
	for _, op := range []int64{impl.ArpAsk, impl.ArpTell} {
		for _, none := range noMac() {
			from, to := someArp(), someArp()
			from.Op, from.FromMac = op, none
			to.Op, to.ToMac = op, none
			wantArpFault(t, from, impl.ErrRange)
			wantArpFault(t, to, impl.ErrRange)
		}
		for _, none := range noIp() {
			from, to := someArp(), someArp()
			from.Op, from.FromIp = op, none
			to.Op, to.ToIp = op, none
			wantArpFault(t, from, impl.ErrRange)
			wantArpFault(t, to, impl.ErrRange)
		}
	}
}

func TestP1ReadArpCodes(t *testing.T) {
	arp := unhex(t, someArpText)
	wantArp(t, "ReadArp of nil", impl.ReadArp(nil), impl.ErrMany, impl.Arp{})
	wantArp(t, "ReadArp of no bytes", impl.ReadArp([]byte{}), impl.ErrMany, impl.Arp{})
	for _, count := range []int{1, 7, 8, 27} {
		// Here the rest stands behind the end, in the same memory.
		wantArp(t, fmt.Sprintf("ReadArp of the first %d bytes", count), impl.ReadArp(arp[:count]), impl.ErrMany, impl.Arp{})
	}
	for _, count := range []int{28, 29, 599, 600} {
		data := append(bytes.Clone(arp), mixed(count-28)...)
		wantArp(t, fmt.Sprintf("ReadArp of %d bytes", count), impl.ReadArp(data), impl.OK, someArp())
	}
	for _, count := range []int{601, 602, 614, 700, 5000} {
		data := append(bytes.Clone(arp), mixed(count-28)...)
		wantArp(t, fmt.Sprintf("ReadArp of %d bytes", count), impl.ReadArp(data), impl.ErrMany, impl.Arp{})
	}
}

func TestP1ReadArpAsksHowManyAheadOfTheForm(t *testing.T) {
	for _, count := range []int{1, 27, 601, 5000} {
		wantArp(t, fmt.Sprintf("ReadArp of %d zeros", count), impl.ReadArp(make([]byte, count)), impl.ErrMany, impl.Arp{})
	}
	for _, count := range []int{28, 29, 599, 600} {
		for _, data := range [][]byte{make([]byte, count), repeated(255, count), mixed(count)} {
			wantArp(t, fmt.Sprintf("ReadArp of %d bytes that are none", count), impl.ReadArp(data), impl.ErrForm, impl.Arp{})
		}
	}
}

func TestP1ReadArpAsksEachByteOfTheHead(t *testing.T) {
	for _, count := range []int{28, 29, 600} {
		arp := append(unhex(t, someArpText), mixed(count-28)...)
		for at := range 8 {
			for value := range 256 {
				turned := bytes.Clone(arp)
				turned[at] = byte(value)
				isOp := at == 7 && (value == impl.ArpAsk || value == impl.ArpTell)
				code, want := int64(impl.ErrForm), impl.Arp{}
				if isOp || turned[at] == arp[at] {
					code, want = impl.OK, someArp()
				}
				if isOp {
					want.Op = int64(value)
				}
				wantArp(t, fmt.Sprintf("ReadArp of %d bytes with %d at %d", count, value, at), impl.ReadArp(turned), code, want)
			}
		}
	}
}

func TestP1ReadArpDoesNotLookForItFurtherBack(t *testing.T) {
	arp := unhex(t, someArpText)
	wantArp(t, "ReadArp of a byte and an arp", impl.ReadArp(append([]byte{0}, arp...)), impl.ErrForm, impl.Arp{})
	wantArp(t, "ReadArp of a frame with an arp", impl.ReadArp(append(make([]byte, 14), arp...)), impl.ErrForm, impl.Arp{})
}

func TestP1NoFrameIsChanged(t *testing.T) {
	for _, count := range []int{0, 1, 13, 14, 15, 27, 28, 29, 600, 601, 614, 615} {
		given := mixed(count)
		copy(given, unhex(t, someArpText))
		data, whole := withSpare(given)
		before := bytes.Clone(whole)
		for _, to := range []int64{-1, 1} {
			f := impl.Frame{To: to, From: 2, Kind: 3, Body: data}
			impl.FrameFault(f)
			impl.PackFrame(f)
			impl.SameFrames(f, f)
			impl.SameFrames(f, impl.Frame{To: to, From: 2, Kind: 3, Body: mixed(count)})
		}
		impl.ReadFrame(data)
		impl.ReadArp(data)
		if !bytes.Equal(whole, before) {
			t.Errorf("%d bytes, or what is behind them, were changed", count)
		}
	}
}

func TestP1FramesAreNewMemory(t *testing.T) {
	for _, count := range []int{0, 1, 2, 28, 599, 600} {
		body, wholeBody := withSpare(mixed(count))
		packed := impl.PackFrame(impl.Frame{To: 1, From: 2, Kind: 3, Body: body})
		wantNoSharing(t, fmt.Sprintf("PackFrame with %d bytes", count), wholeBody, packed.Bytes)
		data, wholeData := withSpare(mixed(14 + count))
		read := impl.ReadFrame(data)
		wantNoSharing(t, fmt.Sprintf("ReadFrame with %d bytes", count), wholeData, read.Frame.Body)
	}
}

func TestP1FrameAnswersHangOnTheArgumentsAlone(t *testing.T) {
	f := impl.Frame{To: 1, From: 258, Kind: impl.KindArp, Body: []byte{9}}
	text := "000000000001000000000102080609"
	for range 3 {
		packed := impl.PackFrame(f)
		wantBytes(t, "PackFrame", packed, impl.OK, unhex(t, text))
		read := impl.ReadFrame(unhex(t, text))
		wantFrame(t, "ReadFrame", read, impl.OK, f)
		arp := impl.PackArp(someArp())
		wantBytes(t, "PackArp", arp, impl.OK, unhex(t, someArpText))
		flipAll(packed.Bytes[:cap(packed.Bytes)])
		flipAll(read.Frame.Body[:cap(read.Frame.Body)])
		flipAll(arp.Bytes[:cap(arp.Bytes)])
		wantFrame(t, "ReadFrame of 13 bytes", impl.ReadFrame(mixed(13)), impl.ErrMany, impl.Frame{})
		wantArp(t, "ReadArp", impl.ReadArp(unhex(t, someArpText)), impl.OK, someArp())
		wantArp(t, "ReadArp of 27 bytes", impl.ReadArp(mixed(27)), impl.ErrMany, impl.Arp{})
	}
}
