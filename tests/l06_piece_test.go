package tests

import (
	"bytes"
	"fmt"
	"math"
	"testing"

	"loop.example/g00726/impl"
)

func piece(at int64, data ...byte) impl.Piece {
	return impl.Piece{At: at, Data: data}
}

// pieceOf has count bytes, and no two that stand behind one another are alike.
func pieceOf(at int64, count int) impl.Piece {
	return impl.Piece{At: at, Data: mixed(count)}
}

// apart tells count pieces of one byte each, with one place missing ahead of each of them.
func apart(count int) []impl.Piece {
	list := []impl.Piece{}
	for i := range count {
		list = append(list, piece(int64(2*i+1), byte(i+101)))
	}
	return list
}

func namePieces(list []impl.Piece) string {
	name := "pieces"
	for _, p := range list {
		if len(p.Data) > 9 {
			name += fmt.Sprintf(" %d:%d bytes", p.At, len(p.Data))
		} else {
			name += fmt.Sprintf(" %d:%x", p.At, p.Data)
		}
	}
	return name
}

// arePieces does not lean on SamePieces, which is itself asked.
func arePieces(got []impl.Piece, want []impl.Piece) bool {
	if len(got) != len(want) {
		return false
	}
	for i := range got {
		if got[i].At != want[i].At || !bytes.Equal(got[i].Data, want[i].Data) {
			return false
		}
	}
	return true
}

func wantPieces(t *testing.T, call string, got impl.PiecesResult, code int64, ready []byte, list ...impl.Piece) {
	t.Helper()
	if got.Code != code || !bytes.Equal(got.Ready, ready) || !arePieces(got.Pieces, list) {
		t.Errorf("%s: code %d, ready %x, %s; want code %d, ready %x, %s",
			call, got.Code, got.Ready, namePieces(got.Pieces), code, ready, namePieces(list))
	}
}

// places tells what is at each place, -1 where there is none: another way to hold pieces than the program's.
type places []int

func noPlaces() places {
	held := make(places, impl.MaxSpan)
	for i := range held {
		held[i] = -1
	}
	return held
}

func (p places) lay(at int64, data []byte) {
	for i, b := range data {
		if p[int(at)+i] < 0 {
			p[int(at)+i] = int(b)
		}
	}
}

func placesOf(list []impl.Piece) places {
	held := noPlaces()
	for _, p := range list {
		held.lay(p.At, p.Data)
	}
	return held
}

func (p places) pieces() []impl.Piece {
	list := []impl.Piece{}
	for i, b := range p {
		if b < 0 {
			continue
		}
		if i == 0 || p[i-1] < 0 {
			list = append(list, impl.Piece{At: int64(i)})
		}
		last := &list[len(list)-1]
		last.Data = append(last.Data, byte(b))
	}
	return list
}

func (p places) held() int64 {
	count := int64(0)
	for _, b := range p {
		if b >= 0 {
			count++
		}
	}
	return count
}

// checkPut holds PutPiece against what is at each place then, and tells the pieces that are there then.
func checkPut(t *testing.T, list []impl.Piece, at int64, data []byte) []impl.Piece {
	t.Helper()
	call := fmt.Sprintf("PutPiece of %d bytes at %d, %s", len(data), at, namePieces(list))
	held := placesOf(list)
	held.lay(at, data)
	want := held.pieces()
	got := impl.PutPiece(list, at, data)
	if len(want) > 4 {
		wantPieces(t, call, got, impl.ErrFull, nil)
		return list
	}
	wantPieces(t, call, got, impl.OK, nil, want...)
	wantCode(t, "PiecesFault behind "+call, impl.PiecesFault(got.Pieces), impl.OK)
	wantInt(t, "HeldIn behind "+call, impl.HeldIn(got.Pieces), impl.OK, held.held())
	return got.Pieces
}

func TestP7Constants(t *testing.T) {
	if impl.MaxPieces != 4 || impl.MaxSpan != 2000 {
		t.Error("a bound is another one")
	}
}

func TestP7TheExample(t *testing.T) {
	held := []impl.Piece{piece(0, 1, 2, 3, 4, 5)}
	wantPieces(t, "2 bytes at 5", impl.PutPiece(held, 5, []byte{6, 7}), impl.OK, nil, piece(0, 1, 2, 3, 4, 5, 6, 7))
}

// Held bytes are above 100 here, so that one that was written over shows.
func TestP7Putting(t *testing.T) {
	two := []impl.Piece{piece(10, 110, 111, 112), piece(20, 120, 121)}
	near := []impl.Piece{piece(10, 110, 111), piece(13, 113), piece(15, 115, 116)}
	rows := []struct {
		name string
		list []impl.Piece
		at   int64
		data []byte
		want []impl.Piece
	}{
		{"the first one", nil, 7, []byte{1, 2}, []impl.Piece{piece(7, 1, 2)}},
		{"the first one at 0", nil, 0, []byte{1}, []impl.Piece{piece(0, 1)}},
		{"ahead of all", two, 3, []byte{1, 2}, []impl.Piece{piece(3, 1, 2), two[0], two[1]}},
		{"behind all", two, 30, []byte{1, 2}, []impl.Piece{two[0], two[1], piece(30, 1, 2)}},
		{"between two", two, 15, []byte{1, 2}, []impl.Piece{two[0], piece(15, 1, 2), two[1]}},
		{"one byte away from the one behind it", two, 7, []byte{1, 2}, []impl.Piece{piece(7, 1, 2), two[0], two[1]}},
		{"one byte away from the one ahead of it", two, 23, []byte{1}, []impl.Piece{two[0], two[1], piece(23, 1)}},
		{"one byte away from both", two, 14, []byte{1, 2, 3, 4, 5}, []impl.Piece{two[0], piece(14, 1, 2, 3, 4, 5), two[1]}},
		{"touches the one ahead of it", two, 13, []byte{1, 2}, []impl.Piece{piece(10, 110, 111, 112, 1, 2), two[1]}},
		{"touches the one behind it", two, 18, []byte{1, 2}, []impl.Piece{two[0], piece(18, 1, 2, 120, 121)}},
		{"touches the first of all", two, 8, []byte{1, 2}, []impl.Piece{piece(8, 1, 2, 110, 111, 112), two[1]}},
		{"touches the last of all", two, 22, []byte{1, 2}, []impl.Piece{two[0], piece(20, 120, 121, 1, 2)}},
		{"touches both, and fills the hole", two, 13, []byte{1, 2, 3, 4, 5, 6, 7}, []impl.Piece{piece(10, 110, 111, 112, 1, 2, 3, 4, 5, 6, 7, 120, 121)}},
		{"fills a hole of one byte", near, 12, []byte{1}, []impl.Piece{piece(10, 110, 111, 1, 113), near[2]}},
		{"fills another hole of one byte", near, 14, []byte{1}, []impl.Piece{near[0], piece(13, 113, 1, 115, 116)}},
		{"overlaps one at its begin", two, 8, []byte{1, 2, 3, 4}, []impl.Piece{piece(8, 1, 2, 110, 111, 112), two[1]}},
		{"overlaps one at its end", two, 11, []byte{1, 2, 3, 4}, []impl.Piece{piece(10, 110, 111, 112, 3, 4), two[1]}},
		{"lies in one", two, 11, []byte{1}, two},
		{"lies in one at its begin", two, 10, []byte{1, 2}, two},
		{"lies in one at its end", two, 11, []byte{1, 2}, two},
		{"is one", two, 20, []byte{1, 2}, two},
		{"covers one", two, 9, []byte{1, 2, 3, 4, 5}, []impl.Piece{piece(9, 1, 110, 111, 112, 5), two[1]}},
		{"begins with one, and goes on", two, 20, []byte{1, 2, 3}, []impl.Piece{two[0], piece(20, 120, 121, 3)}},
		{"ends with one", two, 19, []byte{1, 2, 3}, []impl.Piece{two[0], piece(19, 1, 120, 121)}},
		{"overlaps two", two, 12, []byte{1, 2, 3, 4, 5, 6, 7, 8, 9}, []impl.Piece{piece(10, 110, 111, 112, 2, 3, 4, 5, 6, 7, 8, 120, 121)}},
		{"covers three, and reaches beyond both ends", near, 9, []byte{1, 2, 3, 4, 5, 6, 7, 8, 9}, []impl.Piece{piece(9, 1, 110, 111, 4, 113, 6, 115, 116, 9)}},
		{"covers three, just so", near, 10, []byte{1, 2, 3, 4, 5, 6, 7}, []impl.Piece{piece(10, 110, 111, 3, 113, 5, 115, 116)}},
	}
	for _, row := range rows {
		wantPieces(t, row.name, impl.PutPiece(row.list, row.at, row.data), impl.OK, nil, row.want...)
		checkPut(t, row.list, row.at, row.data)
	}
}

// piecesAt holds a byte at each place behind base whose bit is set.
func piecesAt(base int64, bits int) []impl.Piece {
	held := noPlaces()
	for i := int64(0); bits>>i > 0; i++ {
		if bits>>i%2 == 1 {
			held[base+i] = 101 + int(i)
		}
	}
	return held.pieces()
}

func TestP7PuttingAllThatIsShort(t *testing.T) {
	const count = 8
	for _, base := range []int64{0, 1, 1991, 1992} {
		for bits := range 1 << count {
			list := piecesAt(base, bits)
			for at := range int64(count + 1) {
				for size := range count + 1 - int(at) {
					checkPut(t, list, base+at, mixed(size))
				}
			}
		}
	}
}

func TestP7PuttingWhatIsLong(t *testing.T) {
	lists := [][]impl.Piece{
		nil,
		{pieceOf(0, 2000)},
		{pieceOf(0, 1), pieceOf(1999, 1)},
		{pieceOf(0, 700), pieceOf(701, 700), pieceOf(1402, 1), pieceOf(1404, 596)},
		{pieceOf(1, 300), pieceOf(555, 11), pieceOf(600, 1000), pieceOf(1998, 1)},
	}
	for _, list := range lists {
		for _, at := range []int64{0, 1, 300, 301, 566, 700, 1401, 1403, 1600, 1998, 1999} {
			for _, size := range []int64{1, 2, 256, 520, 700, 1999 - at, 2000 - at} {
				if size >= 0 && at+size <= 2000 {
					checkPut(t, list, at, repeated(7, int(size)))
				}
			}
		}
	}
}

func TestP7NoByteChangesNothing(t *testing.T) {
	lists := [][]impl.Piece{
		nil,
		{},
		{piece(0, 101)},
		{piece(3, 101, 102), piece(6, 103), piece(8, 104)},
		apart(4),
		{pieceOf(0, 999), pieceOf(1000, 500), piece(1501, 1), pieceOf(1503, 497)},
	}
	for _, list := range lists {
		for at := range int64(impl.MaxSpan + 1) {
			for _, none := range [][]byte{nil, {}} {
				call := fmt.Sprintf("no byte at %d, %s", at, namePieces(list))
				wantPieces(t, call, impl.PutPiece(list, at, none), impl.OK, nil, list...)
			}
		}
	}
}

func TestP7NoMoreThanFour(t *testing.T) {
	four := []impl.Piece{piece(2, 102), piece(4, 104, 105), piece(10, 110), piece(20, 120)}
	for _, at := range []int64{0, 7, 8, 12, 15, 18, 22, 1999} {
		wantPieces(t, fmt.Sprintf("a fifth one at %d", at), impl.PutPiece(four, at, []byte{1}), impl.ErrFull, nil)
	}
	wantPieces(t, "a fifth one of many bytes", impl.PutPiece(four, 30, mixed(600)), impl.ErrFull, nil)
	rows := []struct {
		name string
		at   int64
		data []byte
		want []impl.Piece
	}{
		{"touches the first one", 1, []byte{1}, []impl.Piece{piece(1, 1, 102), four[1], four[2], four[3]}},
		{"touches one at its end", 6, []byte{1}, []impl.Piece{four[0], piece(4, 104, 105, 1), four[2], four[3]}},
		{"touches the last one", 21, []byte{1}, []impl.Piece{four[0], four[1], four[2], piece(20, 120, 1)}},
		{"joins two", 3, []byte{1}, []impl.Piece{piece(2, 102, 1, 104, 105), four[2], four[3]}},
		{"joins two others", 5, []byte{1, 2, 3, 4, 5}, []impl.Piece{four[0], piece(4, 104, 105, 2, 3, 4, 5, 110), four[3]}},
		{"lies in one", 5, []byte{1}, four},
	}
	for _, row := range rows {
		wantPieces(t, row.name, impl.PutPiece(four, row.at, row.data), impl.OK, nil, row.want...)
	}
	wantPieces(t, "a fourth one", impl.PutPiece(four[:3], 20, []byte{120}), impl.OK, nil, four...)
	wantPieces(t, "one that joins all", impl.PutPiece(four, 0, repeated(1, 2000)), impl.OK, nil, placesThen(four, 0, repeated(1, 2000))...)
}

func placesThen(list []impl.Piece, at int64, data []byte) []impl.Piece {
	held := placesOf(list)
	held.lay(at, data)
	return held.pieces()
}

func TestP7HowManyAreHeld(t *testing.T) {
	rows := []struct {
		list  []impl.Piece
		count int64
	}{
		{nil, 0},
		{[]impl.Piece{}, 0},
		{[]impl.Piece{piece(0, 1)}, 1},
		{[]impl.Piece{piece(1999, 1)}, 1},
		{[]impl.Piece{pieceOf(0, 2000)}, 2000},
		{[]impl.Piece{pieceOf(3, 4), pieceOf(8, 5)}, 9},
		{apart(4), 4},
		{[]impl.Piece{pieceOf(0, 999), pieceOf(1000, 500), pieceOf(1501, 1), pieceOf(1503, 497)}, 1997},
	}
	for _, row := range rows {
		wantInt(t, "HeldIn "+namePieces(row.list), impl.HeldIn(row.list), impl.OK, row.count)
	}
}

func TestP7Taking(t *testing.T) {
	rows := []struct {
		name  string
		list  []impl.Piece
		ready []byte
		rest  []impl.Piece
	}{
		{"none", nil, nil, nil},
		{"an empty list", []impl.Piece{}, nil, nil},
		{"one at 0", []impl.Piece{piece(0, 1, 2, 3)}, []byte{1, 2, 3}, nil},
		{"one above 0", []impl.Piece{piece(1, 1, 2, 3)}, nil, []impl.Piece{piece(1, 1, 2, 3)}},
		{"several above 0", apart(4), nil, apart(4)},
		{"two", []impl.Piece{piece(0, 1, 2), piece(3, 4)}, []byte{1, 2}, []impl.Piece{piece(1, 4)}},
		{"four", []impl.Piece{piece(0, 1, 2, 3), piece(4, 4, 5), piece(20, 6), piece(30, 7, 8)}, []byte{1, 2, 3},
			[]impl.Piece{piece(1, 4, 5), piece(17, 6), piece(27, 7, 8)}},
		{"all of the span", []impl.Piece{pieceOf(0, 2000)}, mixed(2000), nil},
		{"the end of the span", []impl.Piece{piece(0, 1), piece(1999, 2)}, []byte{1}, []impl.Piece{piece(1998, 2)}},
		{"many bytes, and one behind them", []impl.Piece{pieceOf(0, 1998), piece(1999, 2)}, mixed(1998), []impl.Piece{piece(1, 2)}},
	}
	for _, row := range rows {
		got := impl.TakeReady(row.list)
		wantPieces(t, "TakeReady, "+row.name, got, impl.OK, row.ready, row.rest...)
		wantCode(t, "PiecesFault behind TakeReady, "+row.name, impl.PiecesFault(got.Pieces), impl.OK)
		wantPieces(t, "TakeReady once more, "+row.name, impl.TakeReady(got.Pieces), impl.OK, nil, row.rest...)
	}
}

func TestP7TakingAllThatIsShort(t *testing.T) {
	for bits := range 1 << 8 {
		list := piecesAt(0, bits)
		count := 0
		for bits>>count%2 == 1 {
			count++
		}
		held := placesOf(list)
		ready := []byte{}
		for i := range count {
			ready = append(ready, byte(held[i]))
		}
		moved := noPlaces()
		copy(moved, held[count:])
		wantPieces(t, "TakeReady, "+namePieces(list), impl.TakeReady(list), impl.OK, ready, moved.pieces()...)
	}
}

// orders hands each order of the places to use.
func orders(list []int, done int, use func([]int)) {
	if done == len(list) {
		use(list)
		return
	}
	for i := done; i < len(list); i++ {
		list[done], list[i] = list[i], list[done]
		orders(list, done+1, use)
		list[done], list[i] = list[i], list[done]
	}
}

// Of eight bytes no more than four can stand alone, so that there is room in any order.
func TestP7ByteByByteInAnyOrder(t *testing.T) {
	data := []byte{11, 12, 13, 14, 15, 16, 17, 18}
	orders([]int{0, 1, 2, 3, 4, 5, 6, 7}, 0, func(order []int) {
		list := []impl.Piece(nil)
		for _, at := range order {
			list = impl.PutPiece(list, int64(at), data[at:at+1]).Pieces
		}
		wantPieces(t, fmt.Sprint("in the order ", order), impl.TakeReady(list), impl.OK, data)
	})
}

// What is taken on the way moves the rest up, and it is whole all the same.
func TestP7TakingOnTheWay(t *testing.T) {
	data := []byte{11, 12, 13, 14, 15, 16, 17}
	orders([]int{0, 1, 2, 3, 4, 5, 6}, 0, func(order []int) {
		list, taken := []impl.Piece(nil), []byte{}
		for _, at := range order {
			put := impl.PutPiece(list, int64(at-len(taken)), data[at:at+1])
			took := impl.TakeReady(put.Pieces)
			list, taken = took.Pieces, append(taken, took.Ready...)
		}
		if !bytes.Equal(taken, data) || len(list) != 0 {
			t.Errorf("in the order %v: %x, and %s", order, taken, namePieces(list))
		}
	})
}

// nextDraw tells a number below count that follows a fixed rule and looks unordered.
func nextDraw(state *uint32, count int) int {
	*state = *state*1664525 + 1013904223
	return int(*state>>8) % count
}

// What finds no room, or is beyond the window, comes again later, and some of it comes twice.
func TestP7ALongStreamOutOfOrder(t *testing.T) {
	data := mixed(5000)
	for _, longest := range []int{37, 101, 512, 700} {
		list, taken, state := []impl.Piece(nil), []byte{}, uint32(longest)
		for round := 0; len(taken) < len(data) && round < 100000; round++ {
			at := len(taken) - 50 + nextDraw(&state, 2050)
			if at < 0 || at >= len(data) {
				continue
			}
			part := data[at:min(at+1+nextDraw(&state, longest), len(data))]
			for _, cut := range impl.CutPiece(int64(at-len(taken)), part, 2000).Pieces {
				list = checkPut(t, list, cut.At, cut.Data)
			}
			took := impl.TakeReady(list)
			list, taken = took.Pieces, append(taken, took.Ready...)
		}
		if !bytes.Equal(taken, data) {
			t.Errorf("parts of up to %d bytes: what was taken, %d bytes, is not what was put", longest, len(taken))
		}
	}
}

// checkCut looks at each byte by itself.
func checkCut(t *testing.T, at int64, data []byte, size int64) {
	t.Helper()
	want := []impl.Piece{}
	for i, b := range data {
		place := at + int64(i)
		if place < 0 || place >= size {
			continue
		}
		if len(want) == 0 {
			want = append(want, impl.Piece{At: place})
		}
		want[0].Data = append(want[0].Data, b)
	}
	got := impl.CutPiece(at, data, size)
	wantPieces(t, fmt.Sprintf("CutPiece of %d bytes at %d, size %d", len(data), at, size), got, impl.OK, nil, want...)
	wantCode(t, "PiecesFault behind CutPiece", impl.PiecesFault(got.Pieces), impl.OK)
}

func TestP7Cutting(t *testing.T) {
	five := []byte{1, 2, 3, 4, 5}
	rows := []struct {
		name string
		at   int64
		data []byte
		size int64
		want []impl.Piece
	}{
		{"all of it", 3, five, 20, []impl.Piece{piece(3, 1, 2, 3, 4, 5)}},
		{"just the window", 0, five, 5, []impl.Piece{piece(0, 1, 2, 3, 4, 5)}},
		{"begins below 0", -2, five, 20, []impl.Piece{piece(0, 3, 4, 5)}},
		{"ends with the window", 3, five, 8, []impl.Piece{piece(3, 1, 2, 3, 4, 5)}},
		{"ends one short of the window's end", 3, five, 9, []impl.Piece{piece(3, 1, 2, 3, 4, 5)}},
		{"ends one above the window", 3, five, 7, []impl.Piece{piece(3, 1, 2, 3, 4)}},
		{"covers the window", -1, five, 3, []impl.Piece{piece(0, 2, 3, 4)}},
		{"touches it by its first byte", 9, five, 10, []impl.Piece{piece(9, 1)}},
		{"touches it by its last byte", -4, five, 10, []impl.Piece{piece(0, 5)}},
		{"just behind the window", 10, five, 10, nil},
		{"just ahead of the window", -5, five, 10, nil},
		{"far behind", 2000, five, 10, nil},
		{"far ahead", -2000, five, 10, nil},
		{"no window", 0, five, 0, nil},
		{"no window, below and above", -2, five, 0, nil},
		{"no byte", 3, nil, 10, nil},
		{"no byte, and not nil", 3, []byte{}, 10, nil},
		{"nothing", 0, nil, 0, nil},
	}
	for _, row := range rows {
		wantPieces(t, row.name, impl.CutPiece(row.at, row.data, row.size), impl.OK, nil, row.want...)
		checkCut(t, row.at, row.data, row.size)
	}
}

func TestP7CuttingAllThatIsShort(t *testing.T) {
	for at := int64(-8); at <= 8; at++ {
		for count := range 9 {
			for size := range int64(9) {
				checkCut(t, at, mixed(count), size)
			}
		}
	}
}

func TestP7CuttingAtTheEndsOfTheSpan(t *testing.T) {
	for _, at := range []int64{-2000, -1999, -1301, -1300, -1299, -701, -700, -699, -1, 0, 1, 1299, 1300, 1301, 1998, 1999, 2000} {
		for _, count := range []int{0, 1, 2, 699, 700} {
			for _, size := range []int64{0, 1, 2, 699, 700, 701, 1299, 1999, 2000} {
				checkCut(t, at, mixed(count), size)
			}
		}
	}
}

func TestP7SamePieces(t *testing.T) {
	same := func(call string, a []impl.Piece, b []impl.Piece, want bool) {
		t.Helper()
		wantSame(t, impl.SamePieces, call, a, b, want)
	}
	list := func() []impl.Piece { return []impl.Piece{piece(1, 5, 6), piece(4, 7), piece(9, 8, 9)} }
	same("two alike", list(), list(), true)
	same("nil and an empty list", nil, []impl.Piece{}, true)
	same("none and one", nil, []impl.Piece{piece(0, 0)}, false)
	same("none and one without a byte", nil, []impl.Piece{{}}, false)
	for i := range list() {
		other := list()
		other[i].At++
		same(fmt.Sprintf("At of piece %d", i), list(), other, false)
		for at := range list()[i].Data {
			other = list()
			other[i].Data[at]++
			same(fmt.Sprintf("byte %d of piece %d", at, i), list(), other, false)
		}
		other = list()
		other[i].Data = append(other[i].Data, 0)
		same(fmt.Sprintf("a byte more in piece %d", i), list(), other, false)
		other = list()
		other[i].Data = other[i].Data[1:]
		same(fmt.Sprintf("a byte less in piece %d", i), list(), other, false)
		same(fmt.Sprintf("only %d pieces", i), list(), list()[:i], false)
		other = list()
		other[0], other[i] = other[i], other[0]
		same(fmt.Sprintf("piece %d and the first one exchanged", i), list(), other, i == 0)
	}
}

func TestP7SamePiecesOfPiecesWithAFault(t *testing.T) {
	faults := [][]impl.Piece{
		{{}},
		{{At: -1}},
		{{At: math.MinInt64, Data: []byte{1}}},
		{{At: math.MaxInt64, Data: []byte{1}}},
		{piece(5, 1), piece(5, 1)},
		{piece(5, 1), piece(6, 1)},
		{piece(6, 1), piece(5, 1)},
		{piece(5, 1, 1)},
		apart(5),
		append(apart(5), piece(11, 1)),
		{pieceOf(0, 2001)},
		{pieceOf(0, 5000)},
	}
	for i, a := range faults {
		for j, b := range faults {
			wantBool(t, fmt.Sprintf("SamePieces of faults %d and %d", i, j), impl.SamePieces(a, b), i == j)
		}
	}
	wantSame(t, impl.SamePieces, "no Data and empty Data", []impl.Piece{{At: -1}}, []impl.Piece{{At: -1, Data: []byte{}}}, true)
}

// wantPiecesFault asks all that tell the fault, and PutPiece also where at is none.
func wantPiecesFault(t *testing.T, call string, code int64, list ...impl.Piece) {
	t.Helper()
	call += ", " + namePieces(list)
	wantCode(t, "PiecesFault: "+call, impl.PiecesFault(list), code)
	put, took, held := impl.PutPiece(list, 0, nil), impl.TakeReady(list), impl.HeldIn(list)
	if code == impl.OK {
		wantPieces(t, "PutPiece: "+call, put, impl.OK, nil, list...)
		wantCode(t, "TakeReady: "+call, took.Code, impl.OK)
		wantCode(t, "HeldIn: "+call, held.Code, impl.OK)
		return
	}
	wantPieces(t, "PutPiece: "+call, put, code, nil)
	wantPieces(t, "TakeReady: "+call, took, code, nil)
	wantInt(t, "HeldIn: "+call, held, code, 0)
	for _, at := range []int64{math.MinInt64, -1, 0, 1, 2000, 2001, math.MaxInt64} {
		for _, data := range [][]byte{nil, {1}, mixed(2001)} {
			wantPieces(t, fmt.Sprintf("PutPiece of %d bytes at %d: %s", len(data), at, call), impl.PutPiece(list, at, data), code, nil)
		}
	}
}

func TestP1HowManyPieces(t *testing.T) {
	for count := range 5 {
		wantPiecesFault(t, "not too many", impl.OK, apart(count)...)
	}
	for _, count := range []int{5, 6, 100} {
		wantPiecesFault(t, "too many", impl.ErrMany, apart(count)...)
	}
	wantPiecesFault(t, "an empty list", impl.OK, []impl.Piece{}...)
}

func TestP1ThePlacesOfAPiece(t *testing.T) {
	for _, p := range []impl.Piece{piece(0, 1), piece(1999, 1), pieceOf(0, 2000), pieceOf(1, 1999), pieceOf(1000, 1000), pieceOf(1480, 520)} {
		wantPiecesFault(t, "in the span", impl.OK, p)
	}
	ends := []int64{math.MinInt64, math.MinInt64 + 1, -2001, -2000, -1, 2001, 2002, math.MaxInt64 - 1, math.MaxInt64}
	for _, at := range ends {
		for _, count := range []int{0, 1, 2, 2000, 2001} {
			wantPiecesFault(t, "no place", impl.ErrRange, pieceOf(at, count))
		}
	}
	for _, p := range []impl.Piece{piece(2000, 1), piece(1999, 1, 2), pieceOf(0, 2001), pieceOf(1, 2000), pieceOf(1001, 1000), pieceOf(1481, 520), pieceOf(0, 70000)} {
		wantPiecesFault(t, "beyond the span", impl.ErrRange, p)
		wantPiecesFault(t, "beyond the span, behind another one", impl.ErrRange, piece(0, 1), p)
	}
	for _, at := range []int64{0, 1, 1999, 2000} {
		wantPiecesFault(t, "no byte", impl.ErrNone, impl.Piece{At: at})
		wantPiecesFault(t, "no byte, and not nil", impl.ErrNone, impl.Piece{At: at, Data: []byte{}})
	}
}

func TestP1PiecesThatTouch(t *testing.T) {
	for _, at := range []int64{0, 1, 9, 10, 11, 12, 13} {
		wantPiecesFault(t, "not above the end", impl.ErrForm, piece(10, 1, 2, 3), piece(at, 4, 5))
	}
	for _, at := range []int64{14, 15, 1998} {
		wantPiecesFault(t, "above the end", impl.OK, piece(10, 1, 2, 3), piece(at, 4, 5))
	}
	for i := range 3 {
		list := []impl.Piece{piece(1, 1), piece(10, 2), piece(20, 3), piece(30, 4)}
		list[i].Data = mixed(int(list[i+1].At - list[i].At - 1))
		wantPiecesFault(t, fmt.Sprintf("one place missing behind piece %d", i), impl.OK, list...)
		list[i].Data = mixed(int(list[i+1].At - list[i].At))
		wantPiecesFault(t, fmt.Sprintf("none missing behind piece %d", i), impl.ErrForm, list...)
		list[i], list[i+1] = piece(list[i+1].At, 2), piece(list[i].At, 1)
		wantPiecesFault(t, fmt.Sprintf("pieces %d and %d exchanged", i, i+1), impl.ErrForm, list...)
	}
	wantPiecesFault(t, "two alike", impl.ErrForm, piece(5, 1), piece(5, 1))
}

func TestP1TheCodesOfPiecesInOrder(t *testing.T) {
	low, high := piece(-1, 1), pieceOf(1990, 11)
	none, lowNone := impl.Piece{At: 7}, impl.Piece{At: -1}
	fine := piece(3, 1)
	for _, p := range []impl.Piece{low, high, none, lowNone, fine} {
		wantPiecesFault(t, "five alike", impl.ErrMany, p, p, p, p, p)
		wantPiecesFault(t, "four, and a fifth one", impl.ErrMany, append(apart(4), p)...)
	}
	wantPiecesFault(t, "both in one piece", impl.ErrRange, lowNone)
	wantPiecesFault(t, "both in one piece, above", impl.ErrRange, impl.Piece{At: 2001})
	for _, outer := range []impl.Piece{low, high, lowNone} {
		wantPiecesFault(t, "ErrRange earlier", impl.ErrRange, outer, none)
		wantPiecesFault(t, "ErrNone earlier", impl.ErrNone, none, outer)
		wantPiecesFault(t, "ErrRange earlier, behind one that is fine", impl.ErrRange, fine, outer, none)
		wantPiecesFault(t, "ErrNone earlier, behind one that is fine", impl.ErrNone, fine, none, outer)
		wantPiecesFault(t, "ErrForm earlier, and ErrRange", impl.ErrRange, fine, fine, outer)
		wantPiecesFault(t, "ErrForm earlier, and ErrRange last of four", impl.ErrRange, fine, fine, fine, outer)
	}
	wantPiecesFault(t, "ErrForm earlier, and ErrNone", impl.ErrNone, fine, fine, none)
	wantPiecesFault(t, "ErrForm earlier, and ErrNone last of four", impl.ErrNone, fine, fine, fine, none)
	wantPiecesFault(t, "ErrNone, and ErrForm by the same piece", impl.ErrNone, piece(10, 1), none)
	wantPiecesFault(t, "ErrRange, and ErrForm by the same piece", impl.ErrRange, piece(10, 1), low)
}

func TestP1PutPieceAsksTheBounds(t *testing.T) {
	lists := [][]impl.Piece{nil, {}, {piece(0, 1)}, {piece(1999, 1)}, apart(4), {pieceOf(0, 2000)}}
	noPlace := []int64{math.MinInt64, math.MinInt64 + 1, -2001, -2000, -1, 2001, 2002, math.MaxInt64 - 2000, math.MaxInt64 - 1, math.MaxInt64}
	for _, list := range lists {
		for _, at := range noPlace {
			for _, data := range [][]byte{nil, {}, {1}, {1, 2}, mixed(2000), mixed(2001)} {
				wantPieces(t, fmt.Sprintf("PutPiece of %d bytes at %d, %s", len(data), at, namePieces(list)), impl.PutPiece(list, at, data), impl.ErrRange, nil)
			}
		}
		for _, at := range []int64{0, 1, 700, 1999, 2000} {
			for _, more := range []int{1, 2, 5000} {
				data := mixed(2000 - int(at) + more)
				wantPieces(t, fmt.Sprintf("PutPiece of %d bytes at %d, %s", len(data), at, namePieces(list)), impl.PutPiece(list, at, data), impl.ErrRange, nil)
			}
			checkPut(t, list, at, mixed(2000-int(at)))
		}
	}
}

// There is no room in four that are apart: the bounds are asked ahead of that.
func TestP1PutPieceAsksTheBoundsAheadOfTheRoom(t *testing.T) {
	wantPieces(t, "in the span", impl.PutPiece(apart(4), 1999, []byte{1}), impl.ErrFull, nil)
	wantPieces(t, "beyond the span", impl.PutPiece(apart(4), 2000, []byte{1}), impl.ErrRange, nil)
	wantPieces(t, "beyond the span by its length", impl.PutPiece(apart(4), 1999, []byte{1, 2}), impl.ErrRange, nil)
	wantPieces(t, "below the span", impl.PutPiece(apart(4), -1, []byte{1}), impl.ErrRange, nil)
}

func TestP1CutPieceCodes(t *testing.T) {
	datas := [][]byte{nil, {}, {1}, mixed(700), mixed(701), mixed(5000)}
	noPlace := []int64{math.MinInt64, math.MinInt64 + 1, -2002, -2001, 2001, 2002, math.MaxInt64 - 700, math.MaxInt64}
	noSize := []int64{math.MinInt64, -2000, -1, 2001, 2002, math.MaxInt64}
	for _, data := range datas {
		for _, at := range noPlace {
			for _, size := range append([]int64{0, 1, 2000}, noSize...) {
				wantPieces(t, fmt.Sprintf("CutPiece of %d bytes at %d, size %d", len(data), at, size), impl.CutPiece(at, data, size), impl.ErrRange, nil)
			}
		}
		for _, size := range noSize {
			for _, at := range []int64{-2000, -1, 0, 1, 2000} {
				wantPieces(t, fmt.Sprintf("CutPiece of %d bytes at %d, size %d", len(data), at, size), impl.CutPiece(at, data, size), impl.ErrRange, nil)
			}
		}
	}
	for _, at := range []int64{-2000, -701, -1, 0, 1, 1999, 2000} {
		for _, size := range []int64{0, 1, 700, 2000} {
			for _, count := range []int{701, 702, 2000, 2001, 70000} {
				wantPieces(t, fmt.Sprintf("CutPiece of %d bytes at %d, size %d", count, at, size), impl.CutPiece(at, mixed(count), size), impl.ErrMany, nil)
			}
			checkCut(t, at, mixed(700), size)
		}
	}
}

func clonedPieces(list []impl.Piece) []impl.Piece {
	cloned := []impl.Piece{}
	for _, p := range list {
		cloned = append(cloned, impl.Piece{At: p.At, Data: bytes.Clone(p.Data)})
	}
	return cloned
}

// given is a list, and data, in memory that goes on behind each of them: a list that goes on, and Data that goes on.
type given struct {
	list []impl.Piece
	data []byte
	all  [][]byte
}

func giveWithSpare(list []impl.Piece, data []byte) given {
	g := given{list: make([]impl.Piece, 0, len(list)+3)}
	for _, p := range list {
		cut, whole := withSpare(p.Data)
		g.list = append(g.list, impl.Piece{At: p.At, Data: cut})
		g.all = append(g.all, whole)
	}
	cut, whole := withSpare(data)
	g.data, g.all = cut, append(g.all, whole)
	return g
}

// seen tells all that can be seen of the arguments: the list, what is behind it, all bytes and what is behind them.
func (g given) seen() []impl.Piece {
	seen := clonedPieces(g.list[:cap(g.list)])
	for _, whole := range g.all {
		seen = append(seen, impl.Piece{Data: bytes.Clone(whole)})
	}
	return seen
}

func (g given) turn() {
	for _, whole := range g.all {
		flipAll(whole)
	}
	for i := range g.list {
		g.list[i].At ^= 255
	}
}

// partsOf tells all memory of bytes that an answer may reach.
func partsOf(answer impl.PiecesResult) [][]byte {
	parts := [][]byte{answer.Ready[:cap(answer.Ready)]}
	for _, p := range answer.Pieces {
		parts = append(parts, p.Data[:cap(p.Data)])
	}
	return parts
}

func seenParts(answer impl.PiecesResult) []impl.Piece {
	return clonedPieces(append([]impl.Piece{{Data: answer.Ready}}, answer.Pieces...))
}

// wantOwnMemory asks that no argument is changed, that the answer shares no memory with one, and that no two lists of it share any.
func wantOwnMemory(t *testing.T, call string, g given, ask func(given) impl.PiecesResult) {
	t.Helper()
	before := g.seen()
	answer := ask(g)
	if !arePieces(g.seen(), before) {
		t.Errorf("%s: an argument, or what is behind it, was changed", call)
	}
	kept := seenParts(answer)
	for i, part := range partsOf(answer) {
		flipAll(part)
		for j, now := range seenParts(answer) {
			if i != j && !bytes.Equal(now.Data, kept[j].Data) {
				t.Errorf("%s: list %d of the answer changes with list %d", call, j, i)
			}
		}
		if !arePieces(g.seen(), before) {
			t.Errorf("%s: an argument changes with list %d of the answer", call, i)
		}
		flipAll(part)
	}
	g.turn()
	if !arePieces(seenParts(answer), kept) {
		t.Errorf("%s: the answer changes with an argument", call)
	}
	g.turn()
	clear(answer.Pieces[:cap(answer.Pieces)])
	if !arePieces(g.seen(), before) {
		t.Errorf("%s: the list changes with that of the answer", call)
	}
}

func TestP1PiecesAreNewMemory(t *testing.T) {
	lists := [][]impl.Piece{
		nil,
		{piece(0, 101, 102, 103)},
		{piece(3, 101, 102)},
		{piece(0, 101, 102), piece(5, 103, 104), piece(9, 105), piece(20, 106)},
		{piece(2, 101), piece(5, 103, 104), piece(9, 105), piece(20, 106)},
		{pieceOf(0, 600), pieceOf(601, 700), pieceOf(1900, 100)},
		{piece(5, 1), piece(5, 1)},
		{piece(5, 1), {At: 7}},
		{piece(2001, 1)},
		apart(5),
	}
	datas := [][]byte{nil, {1}, {1, 2, 3}, mixed(7), mixed(600), mixed(700), mixed(701), mixed(2000)}
	for _, list := range lists {
		for _, data := range datas {
			for _, at := range []int64{-1, 0, 2, 4, 6, 8, 21, 600, 1999, 2000} {
				call := fmt.Sprintf("%d bytes at %d, %s", len(data), at, namePieces(list))
				wantOwnMemory(t, "PutPiece of "+call, giveWithSpare(list, data), func(g given) impl.PiecesResult {
					return impl.PutPiece(g.list, at, g.data)
				})
				wantOwnMemory(t, "CutPiece of "+call, giveWithSpare(nil, data), func(g given) impl.PiecesResult {
					return impl.CutPiece(at, g.data, 500)
				})
			}
		}
		wantOwnMemory(t, "TakeReady, "+namePieces(list), giveWithSpare(list, nil), func(g given) impl.PiecesResult {
			return impl.TakeReady(g.list)
		})
		wantOwnMemory(t, "what tells no pieces, "+namePieces(list), giveWithSpare(list, nil), func(g given) impl.PiecesResult {
			impl.PiecesFault(g.list)
			impl.HeldIn(g.list)
			impl.SamePieces(g.list, g.list)
			impl.SamePieces(g.list, apart(4))
			return impl.PiecesResult{}
		})
	}
}

func TestP1PiecesHangOnTheArgumentsAlone(t *testing.T) {
	list := []impl.Piece{piece(0, 101, 102), piece(5, 103, 104), piece(9, 105), piece(20, 106)}
	for range 3 {
		put := impl.PutPiece(list, 1, []byte{1, 2, 3, 4, 5})
		wantPieces(t, "PutPiece", put, impl.OK, nil, piece(0, 101, 102, 2, 3, 4, 103, 104), piece(9, 105), piece(20, 106))
		took := impl.TakeReady(list)
		wantPieces(t, "TakeReady", took, impl.OK, []byte{101, 102}, piece(3, 103, 104), piece(7, 105), piece(18, 106))
		cut := impl.CutPiece(-1, []byte{1, 2, 3}, 2)
		wantPieces(t, "CutPiece", cut, impl.OK, nil, piece(0, 2, 3))
		wantInt(t, "HeldIn", impl.HeldIn(list), impl.OK, 6)
		for _, answer := range []impl.PiecesResult{put, took, cut} {
			for _, part := range partsOf(answer) {
				flipAll(part)
			}
			clear(answer.Pieces[:cap(answer.Pieces)])
		}
		wantPieces(t, "PutPiece where there is no room", impl.PutPiece(list, 30, []byte{1}), impl.ErrFull, nil)
		wantPieces(t, "TakeReady of too many", impl.TakeReady(apart(5)), impl.ErrMany, nil)
	}
}
