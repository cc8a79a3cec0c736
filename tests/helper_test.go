package tests

import (
	"bytes"
	"encoding/hex"
	"testing"

	"loop.example/g00726/impl"
)

func unhex(t *testing.T, text string) []byte {
	t.Helper()
	data, err := hex.DecodeString(text)
	if err != nil {
		t.Fatal(err)
	}
	return data
}

func repeated(b byte, count int) []byte {
	return bytes.Repeat([]byte{b}, count)
}

// mixed tells count bytes that follow a fixed rule and look unordered.
func mixed(count int) []byte {
	data := make([]byte, count)
	state := uint32(count + 1)
	for i := range data {
		state = state*1664525 + 1013904223
		data[i] = byte(state >> 24)
	}
	return data
}

func wantInt(t *testing.T, call string, got impl.IntResult, code int64, value int64) {
	t.Helper()
	if got.Code != code || got.Value != value {
		t.Errorf("%s: code %d, value %d; want code %d, value %d", call, got.Code, got.Value, code, value)
	}
}

// wantBytes takes nil and an empty list for the same value, as the document does.
func wantBytes(t *testing.T, call string, got impl.BytesResult, code int64, data []byte) {
	t.Helper()
	if got.Code != code || !bytes.Equal(got.Bytes, data) {
		t.Errorf("%s: code %d, bytes %x; want code %d, bytes %x", call, got.Code, got.Bytes, code, data)
	}
}

func wantCode(t *testing.T, call string, got int64, want int64) {
	t.Helper()
	if got != want {
		t.Errorf("%s: code %d; want %d", call, got, want)
	}
}

func wantBool(t *testing.T, call string, got bool, want bool) {
	t.Helper()
	if got != want {
		t.Errorf("%s: %t; want %t", call, got, want)
	}
}

// wantSame asks both ways round, and each thing with itself.
func wantSame[T any](t *testing.T, same func(T, T) bool, call string, a T, b T, want bool) {
	t.Helper()
	wantBool(t, "the same: "+call, same(a, b), want)
	wantBool(t, "the same the other way round: "+call, same(b, a), want)
	wantBool(t, "the first one the same as itself: "+call, same(a, a), true)
	wantBool(t, "the second one the same as itself: "+call, same(b, b), true)
}

// withSpare tells data in memory that goes on behind it, and all of that memory: an append to the first one would show in the second one.
func withSpare(data []byte) ([]byte, []byte) {
	whole := append(bytes.Clone(data), repeated(170, 8)...)
	return whole[:len(data)], whole
}

func flipAll(data []byte) {
	for i := range data {
		data[i] ^= 255
	}
}

// wantNoSharing turns all memory that an answer may reach, and then all of the argument's.
func wantNoSharing(t *testing.T, call string, whole []byte, answer []byte) {
	t.Helper()
	before, kept := bytes.Clone(whole), bytes.Clone(answer)
	flipAll(answer[:cap(answer)])
	if !bytes.Equal(whole, before) {
		t.Errorf("%s: the argument changes with the answer", call)
	}
	flipAll(answer[:cap(answer)])
	flipAll(whole)
	if !bytes.Equal(answer, kept) {
		t.Errorf("%s: the answer changes with the argument", call)
	}
	flipAll(whole)
}
