package impl

import (
	"iter"
	"slices"
)

const OK = 0
const ErrForm = 1
const ErrMany = 2
const ErrRange = 3
const ErrNone = 4
const ErrText = 5
const ErrSum = 6
const ErrFull = 7
const ErrState = 8
const ErrReset = 9
const ErrTaken = 10
const MaxBytes = 700
const SeqSize = 4294967296

const maxWordSize = 6
const lastWord = 65535

type IntResult struct {
	Code  int64
	Value int64
}
type BytesResult struct {
	Code  int64
	Bytes []byte
}

func PackWord(n int64, size int64) BytesResult {
	if !isWordSize(size) || n < 0 || n >= int64(1)<<(8*size) {
		return BytesResult{Code: ErrRange}
	}
	packed := make([]byte, size)
	for at := size - 1; at >= 0; at-- {
		packed[at] = byte(n % 256)
		n /= 256
	}
	return BytesResult{Bytes: packed}
}

func isWordSize(size int64) bool {
	return size >= 1 && size <= maxWordSize
}

func ReadWord(data []byte, at int64, size int64) IntResult {
	if !isWordSize(size) || !hasBytes(data, at, size) {
		return IntResult{Code: ErrRange}
	}
	n := int64(0)
	for _, b := range data[at : at+size] {
		n = n*256 + int64(b)
	}
	return IntResult{Value: n}
}

// hasBytes takes size from the length, and does not add it to at: at may be as high as an int64 goes, and the sum would overflow.
func hasBytes(data []byte, at int64, size int64) bool {
	return at >= 0 && at <= int64(len(data))-size
}

func SumOf(data []byte) IntResult {
	if len(data) > MaxBytes {
		return IntResult{Code: ErrMany}
	}
	total := int64(0)
	for word := range wordsIn(data) {
		total += word
	}
	fold := func() { total = total%(lastWord+1) + total/(lastWord+1) }
	for total > lastWord {
		fold()
	}
	return IntResult{Value: lastWord - total}
}

func wordsIn(data []byte) iter.Seq[int64] {
	return func(yield func(int64) bool) {
		for at := 0; at < len(data); at += 2 {
			word := int64(data[at]) * 256
			if at+1 < len(data) {
				word += int64(data[at+1])
			}
			if !yield(word) {
				return
			}
		}
	}
}

func SealSum(data []byte, at int64) BytesResult {
	if len(data) > MaxBytes {
		return BytesResult{Code: ErrMany}
	}
	if at%2 != 0 || !hasBytes(data, at, 2) {
		return BytesResult{Code: ErrRange}
	}
	sealed := slices.Clone(data)
	// What stood in the place of the sum must not count.
	sealed[at], sealed[at+1] = 0, 0
	copy(sealed[at:], PackWord(SumOf(sealed).Value, 2).Bytes)
	return BytesResult{Bytes: sealed}
}

func IsSummed(data []byte) bool {
	sum := SumOf(data)
	// The code is asked, too: with one, the value is 0 as well.
	return sum.Code == OK && sum.Value == 0
}

func SeqAdd(seq int64, n int64) IntResult {
	if !isSeq(seq) || n < -SeqSize || n > SeqSize {
		return IntResult{Code: ErrRange}
	}
	// One round more keeps the remainder from being below 0.
	return IntResult{Value: (seq + n + SeqSize) % SeqSize}
}

func isSeq(seq int64) bool {
	return seq >= 0 && seq < SeqSize
}

func SeqDist(from int64, to int64) IntResult {
	if !isSeq(from) || !isSeq(to) {
		return IntResult{Code: ErrRange}
	}
	ahead := (to - from + SeqSize) % SeqSize
	// Just half a round counts as backwards, so that no two distances lead to the same number.
	if ahead >= SeqSize/2 {
		ahead -= SeqSize
	}
	return IntResult{Value: ahead}
}

func InWindow(seq int64, from int64, size int64) bool {
	dist := SeqDist(from, seq)
	return dist.Code == OK && size >= 0 && size <= lastWord && dist.Value >= 0 && dist.Value < size
}
