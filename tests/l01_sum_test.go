package tests

import (
	"bytes"
	"fmt"
	"math"
	"testing"

	"loop.example/g00726/impl"
)

const half = 2147483648

func TestP2CodesAndBounds(t *testing.T) {
	codes := []int64{impl.OK, impl.ErrForm, impl.ErrMany, impl.ErrRange, impl.ErrNone, impl.ErrText, impl.ErrSum, impl.ErrFull, impl.ErrState, impl.ErrReset, impl.ErrTaken}
	for number, code := range codes {
		if code != int64(number) {
			t.Errorf("code %d has the number %d", number, code)
		}
	}
	if impl.MaxBytes != 700 || impl.SeqSize != 4294967296 {
		t.Error("MaxBytes or SeqSize is another one")
	}
}

func TestP2WordsHaveTheHighestByteFirst(t *testing.T) {
	rows := []struct {
		n, size int64
		text    string
	}{
		{0, 1, "00"}, {255, 1, "ff"}, {258, 2, "0102"}, {258, 6, "000000000102"},
		{66051, 3, "010203"}, {16909060, 4, "01020304"}, {4328719365, 5, "0102030405"}, {1108152157446, 6, "010203040506"},
	}
	for _, r := range rows {
		call := fmt.Sprintf("PackWord(%d, %d)", r.n, r.size)
		wantBytes(t, call, impl.PackWord(r.n, r.size), impl.OK, unhex(t, r.text))
		wantInt(t, "ReadWord of "+r.text, impl.ReadWord(unhex(t, r.text), 0, r.size), impl.OK, r.n)
	}
}

// wordsOfSize tells numbers of so many bytes, the lowest and the highest one among them.
func wordsOfSize(size int64) []int64 {
	last := int64(1)<<(8*size) - 1
	return []int64{0, 1, 127, 128, 255, last / 3, last/2 + 1, last - 1, last}
}

func TestP2WordsAreReadBack(t *testing.T) {
	for size := int64(1); size <= 6; size++ {
		for _, n := range wordsOfSize(size) {
			packed := impl.PackWord(n, size)
			if packed.Code != impl.OK || int64(len(packed.Bytes)) != size {
				t.Fatalf("PackWord(%d, %d): code %d, bytes %x", n, size, packed.Code, packed.Bytes)
			}
			for at := range int64(4) {
				data := append(repeated(77, int(at)), packed.Bytes...)
				call := fmt.Sprintf("ReadWord of %d in %d bytes at %d", n, size, at)
				wantInt(t, call, impl.ReadWord(data, at, size), impl.OK, n)
				wantInt(t, call+" with more behind", impl.ReadWord(append(data, 99, 98), at, size), impl.OK, n)
			}
		}
	}
}

func TestP2WordsAreReadFromLongData(t *testing.T) {
	data := append(make([]byte, 2000), 1, 2)
	wantInt(t, "ReadWord at 2000", impl.ReadWord(data, 2000, 2), impl.OK, 258)
}

// onesSum tells the sum in another way: the carry of each word is brought around at once.
func onesSum(data []byte) int64 {
	sum := uint16(0)
	for i, b := range data {
		word := uint16(b)
		if i%2 == 0 {
			word = uint16(b) << 8
		}
		before := sum
		sum += word
		if sum < before {
			sum++
		}
	}
	return int64(^sum)
}

func TestP2Sums(t *testing.T) {
	rows := []struct {
		text string
		sum  int64
	}{
		{"0001f203f4f5f6f7", 8717}, {"", 65535}, {"00", 65535}, {"0000", 65535}, {"000000", 65535},
		{"ff", 255}, {"01", 65279}, {"0001", 65534}, {"ffff", 0}, {"ffffff", 255}, {"ffff0000", 0}, {"ffffffff", 0},
		{"ffff0001", 65534}, {"80008000", 65534}, {"ff0000ff", 0}, {"010203", 64509},
	}
	for _, r := range rows {
		wantInt(t, "SumOf of "+r.text, impl.SumOf(unhex(t, r.text)), impl.OK, r.sum)
	}
	for count := range 701 {
		for _, data := range [][]byte{mixed(count), make([]byte, count), repeated(255, count)} {
			wantInt(t, fmt.Sprintf("SumOf of %x", data), impl.SumOf(data), impl.OK, onesSum(data))
		}
	}
}

func TestP2OddDataIsSummedAsWithAZeroBehind(t *testing.T) {
	for count := 1; count < 700; count += 2 {
		data := mixed(count)
		wantInt(t, fmt.Sprintf("SumOf of %d bytes", count), impl.SumOf(data), impl.OK, impl.SumOf(append(data, 0)).Value)
	}
}

func TestP2IsSummed(t *testing.T) {
	rows := []struct {
		text string
		want bool
	}{
		{"", false}, {"00", false}, {"0000", false}, {"01", false}, {"ff", false}, {"ffff", true}, {"ffff00", true},
		{"ff00ff", false}, {"fffe01", false}, {"feffff", false}, {"00ffff", true}, {"0102f9fd0500", true}, {"0102f9fd0501", false},
	}
	for _, r := range rows {
		data := unhex(t, r.text)
		wantBool(t, "IsSummed of "+r.text, impl.IsSummed(data), r.want)
		if (impl.SumOf(data).Value == 0) != r.want {
			t.Errorf("SumOf of %s does not tell whether it is summed", r.text)
		}
	}
	wantBool(t, "IsSummed of 700 bytes 255", impl.IsSummed(repeated(255, 700)), true)
	// With the code the value is 0, but that is no sum.
	wantBool(t, "IsSummed of 701 bytes 255", impl.IsSummed(repeated(255, 701)), false)
	wantBool(t, "IsSummed of 702 bytes 255", impl.IsSummed(repeated(255, 702)), false)
}

func TestP2SealExample(t *testing.T) {
	wantBytes(t, "SealSum of 0102030405 at 2", impl.SealSum([]byte{1, 2, 3, 4, 5}, 2), impl.OK, []byte{1, 2, 249, 253, 5})
	wantBytes(t, "SealSum of 0000 at 0", impl.SealSum([]byte{0, 0}, 0), impl.OK, []byte{255, 255})
	wantBytes(t, "SealSum of ffff1234 at 2", impl.SealSum([]byte{255, 255, 18, 52}, 2), impl.OK, []byte{255, 255, 0, 0})
	wantBytes(t, "SealSum of 123400 at 0", impl.SealSum([]byte{18, 52, 0}, 0), impl.OK, []byte{255, 255, 0})
}

// checkSeal holds what is sealed at one place against what it has to be.
func checkSeal(t *testing.T, data []byte, at int64) {
	t.Helper()
	zeroed := bytes.Clone(data)
	zeroed[at], zeroed[at+1] = 0, 0
	sum := onesSum(zeroed)
	want := bytes.Clone(zeroed)
	want[at], want[at+1] = byte(sum>>8), byte(sum)
	got := impl.SealSum(data, at)
	call := fmt.Sprintf("SealSum of %x at %d", data, at)
	wantBytes(t, call, got, impl.OK, want)
	wantBool(t, "IsSummed of "+call, impl.IsSummed(got.Bytes), true)
	wantBytes(t, "again "+call, impl.SealSum(got.Bytes, at), impl.OK, want)
}

func TestP2WhatIsSealedIsSummed(t *testing.T) {
	for _, count := range []int{2, 3, 4, 5, 8, 9, 20, 21, 699, 700} {
		for at := int64(0); at+2 <= int64(count); at += 2 {
			checkSeal(t, mixed(count), at)
			checkSeal(t, make([]byte, count), at)
			checkSeal(t, repeated(255, count), at)
		}
	}
}

func TestP2OneTurnedBitIsNotSummed(t *testing.T) {
	for _, count := range []int{2, 3, 20, 21} {
		sealed := impl.SealSum(mixed(count), 0).Bytes
		for bit := range 8 * count {
			turned := bytes.Clone(sealed)
			turned[bit/8] ^= 1 << (bit % 8)
			wantBool(t, fmt.Sprintf("IsSummed of %x", turned), impl.IsSummed(turned), false)
		}
	}
}

func TestP2SeqAdd(t *testing.T) {
	rows := []struct{ seq, n, want int64 }{
		{0, 0, 0}, {0, 1, 1}, {0, -1, impl.SeqSize - 1}, {impl.SeqSize - 1, 1, 0}, {impl.SeqSize - 1, -1, impl.SeqSize - 2},
		{0, impl.SeqSize, 0}, {0, -impl.SeqSize, 0}, {7, impl.SeqSize, 7}, {7, -impl.SeqSize, 7},
		{impl.SeqSize - 1, impl.SeqSize, impl.SeqSize - 1}, {impl.SeqSize - 1, -impl.SeqSize, impl.SeqSize - 1},
		{impl.SeqSize - 1, impl.SeqSize - 1, impl.SeqSize - 2}, {0, 1 - impl.SeqSize, 1},
		{half, half, 0}, {0, half, half}, {0, -half, half}, {half - 1, half, impl.SeqSize - 1},
	}
	for _, r := range rows {
		wantInt(t, fmt.Sprintf("SeqAdd(%d, %d)", r.seq, r.n), impl.SeqAdd(r.seq, r.n), impl.OK, r.want)
	}
}

func TestP2SeqDist(t *testing.T) {
	rows := []struct{ from, to, want int64 }{
		{4294967295, 4, 5}, {4, 4294967295, -5}, {0, 0, 0}, {4294967295, 4294967295, 0}, {0, 4294967295, -1}, {4294967295, 0, 1},
		{0, half - 1, half - 1}, {0, half, -half}, {0, half + 1, 1 - half},
		{half, 0, -half}, {half - 1, 0, 1 - half}, {half + 1, 0, half - 1},
		{4294967295, half - 1, -half}, {4294967295, half - 2, half - 1}, {4294967295, half, 1 - half}, {half - 1, 4294967295, -half},
	}
	for _, r := range rows {
		wantInt(t, fmt.Sprintf("SeqDist(%d, %d)", r.from, r.to), impl.SeqDist(r.from, r.to), impl.OK, r.want)
	}
}

func TestP2SeqBackAndForth(t *testing.T) {
	numbers := []int64{0, 1, 65535, 65536, half - 2, half - 1, half, half + 1, impl.SeqSize - 65536, impl.SeqSize - 2, impl.SeqSize - 1, 3141592653}
	steps := []int64{-half, 1 - half, -65536, -3, -1, 0, 1, 2, 65535, 1234567890, half - 2, half - 1}
	for _, from := range numbers {
		for _, n := range steps {
			to := impl.SeqAdd(from, n)
			if to.Code != impl.OK || to.Value < 0 || to.Value >= impl.SeqSize {
				t.Fatalf("SeqAdd(%d, %d): %v", from, n, to)
			}
			wantInt(t, fmt.Sprintf("SeqDist(%d, %d)", from, to.Value), impl.SeqDist(from, to.Value), impl.OK, n)
		}
		for _, to := range numbers {
			dist := impl.SeqDist(from, to)
			if dist.Code != impl.OK || dist.Value < -half || dist.Value > half-1 {
				t.Fatalf("SeqDist(%d, %d): %v", from, to, dist)
			}
			wantInt(t, fmt.Sprintf("SeqAdd(%d, %d)", from, dist.Value), impl.SeqAdd(from, dist.Value), impl.OK, to)
		}
	}
}

func TestP2InWindow(t *testing.T) {
	for _, from := range []int64{0, 5, half, impl.SeqSize - 65535, impl.SeqSize - 2, impl.SeqSize - 1} {
		for _, size := range []int64{0, 1, 2, 4, 65534, 65535} {
			rows := []struct {
				move int64
				want bool
			}{
				{-1, false}, {0, size > 0}, {1, size > 1}, {size - 1, size > 0}, {size, false}, {size + 1, false},
				{-half, false}, {half - 1, false}, {half + 1, false},
			}
			for _, r := range rows {
				seq := ((from+r.move)%impl.SeqSize + impl.SeqSize) % impl.SeqSize
				wantBool(t, fmt.Sprintf("InWindow(%d, %d, %d)", seq, from, size), impl.InWindow(seq, from, size), r.want)
			}
		}
	}
}

func TestP1PackWordCodes(t *testing.T) {
	for _, size := range []int64{math.MinInt64, -8, -1, 0, 7, 8, 64, math.MaxInt64} {
		for _, n := range []int64{0, 1, math.MaxInt64, math.MinInt64} {
			wantBytes(t, fmt.Sprintf("PackWord(%d, %d)", n, size), impl.PackWord(n, size), impl.ErrRange, nil)
		}
	}
	for size := int64(1); size <= 6; size++ {
		room := int64(1) << (8 * size)
		wantBytes(t, fmt.Sprintf("PackWord(%d, %d)", room-1, size), impl.PackWord(room-1, size), impl.OK, repeated(255, int(size)))
		for _, n := range []int64{room, room + 1, -1, -room, math.MaxInt64, math.MinInt64} {
			wantBytes(t, fmt.Sprintf("PackWord(%d, %d)", n, size), impl.PackWord(n, size), impl.ErrRange, nil)
		}
	}
}

func TestP1ReadWordCodes(t *testing.T) {
	data := mixed(6)
	for _, size := range []int64{math.MinInt64, -1, 0, 7, 8, math.MaxInt64} {
		for _, at := range []int64{0, 1, -1, math.MaxInt64, math.MinInt64} {
			wantInt(t, fmt.Sprintf("ReadWord at %d of %d", at, size), impl.ReadWord(mixed(20), at, size), impl.ErrRange, 0)
		}
	}
	for size := int64(1); size <= 6; size++ {
		if impl.ReadWord(data, 6-size, size).Code != impl.OK {
			t.Errorf("ReadWord of the last %d bytes has a code", size)
		}
		for _, at := range []int64{-1, -6, 7 - size, 6, 7, math.MaxInt64, math.MaxInt64 - size + 1, math.MinInt64} {
			wantInt(t, fmt.Sprintf("ReadWord at %d of %d", at, size), impl.ReadWord(data, at, size), impl.ErrRange, 0)
		}
		wantInt(t, "ReadWord of nil", impl.ReadWord(nil, 0, size), impl.ErrRange, 0)
		wantInt(t, "ReadWord of no bytes", impl.ReadWord([]byte{}, 0, size), impl.ErrRange, 0)
		// What stands behind the end in the same memory is not there.
		wantInt(t, "ReadWord behind the end", impl.ReadWord(mixed(20)[:size-1], 0, size), impl.ErrRange, 0)
	}
}

func TestP1SumCodes(t *testing.T) {
	wantInt(t, "SumOf of nil", impl.SumOf(nil), impl.OK, 65535)
	wantInt(t, "SumOf of no bytes", impl.SumOf([]byte{}), impl.OK, 65535)
	wantInt(t, "SumOf of 700 bytes", impl.SumOf(make([]byte, 700)), impl.OK, 65535)
	for _, count := range []int{701, 702, 5000} {
		wantInt(t, fmt.Sprintf("SumOf of %d bytes", count), impl.SumOf(make([]byte, count)), impl.ErrMany, 0)
		wantBool(t, fmt.Sprintf("IsSummed of %d bytes", count), impl.IsSummed(repeated(255, count)), false)
	}
	wantBool(t, "IsSummed of nil", impl.IsSummed(nil), false)
	wantBool(t, "IsSummed of no bytes", impl.IsSummed([]byte{}), false)
}

func TestP1SealCodes(t *testing.T) {
	for _, count := range []int{0, 1, 2, 3, 20, 21, 699, 700} {
		data := mixed(count)
		for _, at := range []int64{-1, -2, 1, 3, int64(count) - 1, int64(count), int64(count) + 2, math.MaxInt64, math.MaxInt64 - 1, math.MinInt64, math.MinInt64 + 1} {
			if at >= 0 && at%2 == 0 && at < int64(count)-1 {
				continue
			}
			wantBytes(t, fmt.Sprintf("SealSum of %d bytes at %d", count, at), impl.SealSum(data, at), impl.ErrRange, nil)
		}
	}
	wantBytes(t, "SealSum of nil", impl.SealSum(nil, 0), impl.ErrRange, nil)
	wantBytes(t, "SealSum of 701 bytes", impl.SealSum(make([]byte, 701), 0), impl.ErrMany, nil)
	if got := impl.SealSum(make([]byte, 700), 698); got.Code != impl.OK || len(got.Bytes) != 700 {
		t.Error("SealSum of 700 bytes at 698 has a code, or another length")
	}
}

func TestP1SealAsksHowManyAheadOfWhere(t *testing.T) {
	for _, at := range []int64{-1, 1, 701, math.MaxInt64, math.MinInt64} {
		wantBytes(t, fmt.Sprintf("SealSum of 701 bytes at %d", at), impl.SealSum(make([]byte, 701), at), impl.ErrMany, nil)
	}
}

func TestP1SeqCodes(t *testing.T) {
	for _, none := range []int64{-1, -impl.SeqSize, impl.SeqSize, impl.SeqSize + 1, math.MaxInt64, math.MinInt64} {
		wantInt(t, fmt.Sprintf("SeqAdd(%d, 0)", none), impl.SeqAdd(none, 0), impl.ErrRange, 0)
		wantInt(t, fmt.Sprintf("SeqAdd(%d, 1)", none), impl.SeqAdd(none, 1), impl.ErrRange, 0)
		wantInt(t, fmt.Sprintf("SeqAdd(%d, the same)", none), impl.SeqAdd(none, none), impl.ErrRange, 0)
		wantInt(t, fmt.Sprintf("SeqDist(%d, 0)", none), impl.SeqDist(none, 0), impl.ErrRange, 0)
		wantInt(t, fmt.Sprintf("SeqDist(0, %d)", none), impl.SeqDist(0, none), impl.ErrRange, 0)
		wantInt(t, fmt.Sprintf("SeqDist(%d, %d)", none, none), impl.SeqDist(none, none), impl.ErrRange, 0)
		wantBool(t, fmt.Sprintf("InWindow(%d, 0, 65535)", none), impl.InWindow(none, 0, 65535), false)
		wantBool(t, fmt.Sprintf("InWindow(0, %d, 65535)", none), impl.InWindow(0, none, 65535), false)
		wantBool(t, fmt.Sprintf("InWindow(%d, %d, 65535)", none, none), impl.InWindow(none, none, 65535), false)
	}
	for _, n := range []int64{-impl.SeqSize - 1, impl.SeqSize + 1, math.MaxInt64, math.MinInt64} {
		wantInt(t, fmt.Sprintf("SeqAdd(0, %d)", n), impl.SeqAdd(0, n), impl.ErrRange, 0)
		wantInt(t, fmt.Sprintf("SeqAdd(the last one, %d)", n), impl.SeqAdd(impl.SeqSize-1, n), impl.ErrRange, 0)
	}
	wantBool(t, "InWindow(0, 0, 65535)", impl.InWindow(0, 0, 65535), true)
	for _, size := range []int64{-1, 65536, math.MaxInt64, math.MinInt64} {
		wantBool(t, fmt.Sprintf("InWindow(0, 0, %d)", size), impl.InWindow(0, 0, size), false)
	}
}

func TestP1NoArgumentIsChanged(t *testing.T) {
	for _, count := range []int{0, 1, 2, 3, 6, 20, 21, 699, 700, 701} {
		data, whole := withSpare(mixed(count))
		before := bytes.Clone(whole)
		for _, at := range []int64{-1, 0, 1, 2, int64(count) - 2, int64(count) - 1, int64(count)} {
			impl.ReadWord(data, at, 2)
			impl.SumOf(data)
			impl.IsSummed(data)
			impl.SealSum(data, at)
		}
		if !bytes.Equal(whole, before) {
			t.Errorf("%d bytes, or what is behind them, were changed", count)
		}
	}
}

func TestP1AnswersAreNewMemory(t *testing.T) {
	for _, count := range []int{2, 3, 20, 700} {
		data := mixed(count)
		// What is sealed already is answered as it was: that must be a copy, too.
		for _, given := range [][]byte{data, impl.SealSum(data, 0).Bytes} {
			before := bytes.Clone(given)
			sealed := impl.SealSum(given, 0).Bytes
			kept := bytes.Clone(sealed)
			flipAll(given)
			if !bytes.Equal(sealed, kept) {
				t.Errorf("SealSum of %d bytes: the answer changes with the argument", count)
			}
			copy(given, before)
			flipAll(sealed[:cap(sealed)])
			if !bytes.Equal(given, before) {
				t.Errorf("SealSum of %d bytes: the argument changes with the answer", count)
			}
		}
	}
}

func TestP1AnswersHangOnTheArgumentsAlone(t *testing.T) {
	for range 3 {
		packed := impl.PackWord(258, 6)
		wantBytes(t, "PackWord(258, 6)", packed, impl.OK, []byte{0, 0, 0, 0, 1, 2})
		sealed := impl.SealSum([]byte{1, 2, 3, 4, 5}, 2)
		wantBytes(t, "SealSum of 0102030405 at 2", sealed, impl.OK, []byte{1, 2, 249, 253, 5})
		flipAll(packed.Bytes[:cap(packed.Bytes)])
		flipAll(sealed.Bytes[:cap(sealed.Bytes)])
		wantInt(t, "SumOf of 0001f203f4f5f6f7", impl.SumOf(unhex(t, "0001f203f4f5f6f7")), impl.OK, 8717)
		wantInt(t, "SumOf of 701 bytes", impl.SumOf(mixed(701)), impl.ErrMany, 0)
		wantInt(t, "SeqDist(4294967295, 4)", impl.SeqDist(4294967295, 4), impl.OK, 5)
	}
}
