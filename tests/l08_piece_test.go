package tests

import (
	"bytes"
	"slices"
	"testing"

	"loop.example/g00670/impl"
)

// Promise 9: a fragmented message is reassembled unchanged.

// cutCase are the arguments of a cut.
type cutCase struct {
	message impl.Message
	size    int64
	tsn     int64
	seq     int64
}

func messageOf(stream int64, size int) impl.Message {
	return impl.Message{Stream: stream, Bytes: someData(size, 300+uint32(size))}
}

// someMessages are in order. Some are unordered.
func someMessages() []impl.Message {
	var list []impl.Message
	for i, size := range []int{1, 2, 3, 4, 5, 7, 8, 9, 12, 99, 100, 101, 199, 200, 201, 255, 256, 257, 399, 400} {
		list = append(list, messageOf(int64(i%10), size), messageOf(int64((i+3)%10), size))
		list[2*i+1].Unordered = true
	}
	return append(list, impl.Message{Bytes: []byte{0}}, impl.Message{Stream: 9, Bytes: make([]byte, 400)})
}

func copiedDatas(list []impl.Data) []impl.Data {
	own := slices.Clone(list)
	for i, d := range list {
		own[i].Piece = bytes.Clone(d.Piece)
	}
	return own
}

// changedDatas returns the pieces with one of them changed.
func changedDatas(list []impl.Data, place int, change func(d *impl.Data)) []impl.Data {
	own := copiedDatas(list)
	change(&own[place])
	return own
}

// cutElsewhere counts the pieces before it finds each of them by its number.
func cutElsewhere(c cutCase) []impl.Data {
	length := int64(len(c.message.Bytes))
	count := (length + c.size - 1) / c.size
	list := make([]impl.Data, count)
	for i := range count {
		list[i] = impl.Data{
			Tsn: (c.tsn + i) % (impl.MaxWord + 1), Stream: c.message.Stream, Seq: c.seq, First: i == 0, Last: i == count-1,
			Unordered: c.message.Unordered, Piece: c.message.Bytes[i*c.size : min(length, (i+1)*c.size)],
		}
	}
	return list
}

func dataFaultElsewhere(d impl.Data) int64 {
	switch {
	case d.Tsn != int64(uint32(d.Tsn)) || d.Stream < 0 || d.Stream > 9 || d.Seq != int64(uint16(d.Seq)):
		return impl.ErrRange
	case len(d.Piece) < 1 || len(d.Piece) > 100:
		return impl.ErrMany
	case d.Unordered && d.Seq > 0:
		return impl.ErrForm
	}
	return impl.OK
}

// joinElsewhere finds out from the first piece what the others must be.
func joinElsewhere(list []impl.Data) impl.MessageResult {
	if len(list) < 1 || len(list) > 100 {
		return impl.MessageResult{Code: impl.ErrMany}
	}
	for _, d := range list {
		if code := dataFaultElsewhere(d); code != impl.OK {
			return impl.MessageResult{Code: code}
		}
	}
	var whole []byte
	for i, d := range list {
		want := list[0]
		want.Tsn = (want.Tsn + int64(i)) % (impl.MaxWord + 1)
		want.First, want.Last, want.Piece = i == 0, i == len(list)-1, d.Piece
		if told(d) != told(want) {
			return impl.MessageResult{Code: impl.ErrForm}
		}
		whole = slices.Concat(whole, d.Piece)
	}
	if len(whole) > 400 {
		return impl.MessageResult{Code: impl.ErrMany}
	}
	return impl.MessageResult{Message: impl.Message{Stream: list[0].Stream, Unordered: list[0].Unordered, Bytes: whole}}
}

// wantCut also joins the pieces again.
func wantCut(t *testing.T, c cutCase, want []impl.Data) {
	t.Helper()
	got := impl.CutMessage(c.message, c.size, c.tsn, c.seq)
	if got.Code != impl.OK || told(got.Datas) != told(want) {
		t.Errorf("CutMessage of %+v = %+v, want %+v", c, got, want)
	}
	wantJoined(t, want, c.message)
	wantJoined(t, got.Datas, c.message)
}

func wantNoCut(t *testing.T, c cutCase, code int64) {
	t.Helper()
	got := impl.CutMessage(c.message, c.size, c.tsn, c.seq)
	if got.Code != code || len(got.Datas) != 0 {
		t.Errorf("CutMessage of %+v = %+v, want the code %d and no pieces", c, got, code)
	}
}

func wantJoined(t *testing.T, list []impl.Data, want impl.Message) {
	t.Helper()
	if got := impl.JoinPieces(list); told(got) != told(impl.MessageResult{Message: want}) {
		t.Errorf("JoinPieces(%+v) = %+v, want %+v", list, got, want)
	}
}

func wantUnjoined(t *testing.T, list []impl.Data, code int64) {
	t.Helper()
	if got := impl.JoinPieces(list); told(got) != told(impl.MessageResult{Code: code}) {
		t.Errorf("JoinPieces(%+v) = %+v, want the code %d and nothing else", list, got, code)
	}
}

// wantJoinAsElsewhere joins in two ways, and returns the code.
func wantJoinAsElsewhere(t *testing.T, list []impl.Data) int64 {
	t.Helper()
	want := joinElsewhere(list)
	if got := impl.JoinPieces(list); told(got) != told(want) {
		t.Errorf("JoinPieces(%+v) = %+v, want %+v", list, got, want)
	}
	return want.Code
}

func wantMessageFault(t *testing.T, m impl.Message, want int64) {
	t.Helper()
	if got := impl.MessageFault(m); got != want {
		t.Errorf("MessageFault(%+v) = %d, want %d", m, got, want)
	}
}

func wantSameMessages(t *testing.T, a []impl.Message, b []impl.Message, want bool) {
	t.Helper()
	if impl.SameMessages(a, b) != want || impl.SameMessages(b, a) != want {
		t.Errorf("SameMessages(%+v, %+v) = %t, or in the other order %t, want %t", a, b, impl.SameMessages(a, b), impl.SameMessages(b, a), want)
	}
}

func wantSameDatas(t *testing.T, a []impl.Data, b []impl.Data, want bool) {
	t.Helper()
	if impl.SameDatas(a, b) != want || impl.SameDatas(b, a) != want {
		t.Errorf("SameDatas(%+v, %+v) = %t, or in the other order %t, want %t", a, b, impl.SameDatas(a, b), impl.SameDatas(b, a), want)
	}
}

// badMessageSizes are numbers of bytes that a message may not have. The low bits of
// some would be in order.
func badMessageSizes() []int {
	return []int{0, 401, 402, 500, 656, 1000, 65536, 65537, 65936}
}

func TestFaultsOfMessages(t *testing.T) {
	for stream := range int64(10) {
		for size := 1; size <= impl.MaxMessage; size++ {
			wantMessageFault(t, messageOf(stream, size), impl.OK)
			wantMessageFault(t, impl.Message{Stream: stream, Unordered: true, Bytes: make([]byte, size)}, impl.OK)
		}
		for _, size := range badMessageSizes() {
			wantMessageFault(t, messageOf(stream, size), impl.ErrMany)
			wantMessageFault(t, impl.Message{Stream: stream, Unordered: true, Bytes: make([]byte, size)}, impl.ErrMany)
		}
		wantMessageFault(t, impl.Message{Stream: stream}, impl.ErrMany)
		// Memory behind the bytes is not part of the message.
		wantMessageFault(t, impl.Message{Stream: stream, Bytes: make([]byte, 0, 9)}, impl.ErrMany)
		wantMessageFault(t, impl.Message{Stream: stream, Bytes: make([]byte, 400, 900)}, impl.OK)
	}
	for _, stream := range append(notFrom(0, 9), 10, -1) {
		for _, size := range append(badMessageSizes(), 1, 9, 400) {
			wantMessageFault(t, messageOf(stream, size), impl.ErrRange)
			wantMessageFault(t, impl.Message{Stream: stream, Unordered: true, Bytes: make([]byte, size)}, impl.ErrRange)
		}
		wantMessageFault(t, impl.Message{Stream: stream}, impl.ErrRange)
	}
}

func TestKnownCuts(t *testing.T) {
	whole := []byte("abcdefghi")
	wantCut(t, cutCase{impl.Message{Stream: 2, Bytes: whole}, 4, 7, 5}, []impl.Data{
		{Tsn: 7, Stream: 2, Seq: 5, First: true, Piece: []byte("abcd")},
		{Tsn: 8, Stream: 2, Seq: 5, Piece: []byte("efgh")},
		{Tsn: 9, Stream: 2, Seq: 5, Last: true, Piece: []byte("i")},
	})
	wantCut(t, cutCase{impl.Message{Stream: 2, Bytes: whole}, 4, impl.MaxWord, 65535}, []impl.Data{
		{Tsn: impl.MaxWord, Stream: 2, Seq: 65535, First: true, Piece: []byte("abcd")},
		{Tsn: 0, Stream: 2, Seq: 65535, Piece: []byte("efgh")},
		{Tsn: 1, Stream: 2, Seq: 65535, Last: true, Piece: []byte("i")},
	})
	wantCut(t, cutCase{impl.Message{Stream: 9, Unordered: true, Bytes: whole[:8]}, 4, impl.MaxWord - 1, 0}, []impl.Data{
		{Tsn: impl.MaxWord - 1, Stream: 9, First: true, Unordered: true, Piece: []byte("abcd")},
		{Tsn: impl.MaxWord, Stream: 9, Last: true, Unordered: true, Piece: []byte("efgh")},
	})
	for _, size := range []int64{9, 10, 50, 100} {
		wantCut(t, cutCase{impl.Message{Bytes: whole}, size, impl.MaxWord, 1}, []impl.Data{
			{Tsn: impl.MaxWord, Seq: 1, First: true, Last: true, Piece: whole},
		})
	}
	wantCut(t, cutCase{impl.Message{Bytes: whole[:1]}, 4, 0, 0}, []impl.Data{{First: true, Last: true, Piece: []byte("a")}})
}

func TestCutMessagesAreJoinedAgain(t *testing.T) {
	t.Parallel()
	words := someWords()
	for length := 1; length <= impl.MaxMessage; length++ {
		for size := int64(impl.MinPiece); size <= impl.MaxPiece; size++ {
			c := cutCase{messageOf(size%10, length), size, words[(length+int(size))%len(words)], size * int64(length) % 65536}
			if size%3 == 1 {
				c.message.Unordered, c.seq = true, 0
			}
			wantCut(t, c, cutElsewhere(c))
		}
	}
}

func TestLengthsOfPieces(t *testing.T) {
	for length := 1; length <= impl.MaxMessage; length++ {
		for size := impl.MinPiece; size <= impl.MaxPiece; size++ {
			left := length
			list := impl.CutMessage(messageOf(1, length), int64(size), 5, 6).Datas
			for i, d := range list {
				want := min(size, left)
				left -= want
				if len(d.Piece) != want || want == 0 || d.First != (i == 0) || d.Last != (left == 0) {
					t.Errorf("%d bytes by %d: %+v is piece %d", length, size, d, i)
				}
			}
			if left != 0 {
				t.Errorf("%d bytes by %d: the last %d are in no piece", length, size, left)
			}
		}
	}
}

func TestTsnsOfPieces(t *testing.T) {
	m := messageOf(3, impl.MaxMessage)
	for back := range int64(103) {
		for _, tsn := range []int64{impl.MaxWord - back, back, 2147483647 - back, 4294901760 - back, 65536 - back} {
			c := cutCase{m, 4, tsn, 2}
			wantCut(t, c, cutElsewhere(c))
			passed := false
			for i, d := range impl.CutMessage(c.message, c.size, c.tsn, c.seq).Datas {
				passed = passed || i > 0 && d.Tsn == 0
				if want := impl.AddWords(tsn, int64(i)).Value; d.Tsn != want {
					t.Errorf("piece %d from the Tsn %d has the Tsn %d, want %d", i, tsn, d.Tsn, want)
				}
			}
			if want := tsn > impl.MaxWord-99; passed != want {
				t.Errorf("the Tsns from %d pass the last one: %t", tsn, passed)
			}
		}
	}
}

func TestSeqsAndStreamsOfPieces(t *testing.T) {
	t.Parallel()
	for _, seq := range []int64{0, 1, 2, 127, 128, 255, 256, 258, 32767, 32768, 65534, 65535} {
		for stream := range int64(10) {
			for _, length := range []int{1, 4, 5, 12, 400} {
				c := cutCase{messageOf(stream, length), 4, impl.MaxWord - 1, seq}
				wantCut(t, c, cutElsewhere(c))
				if seq == 0 {
					c.message.Unordered = true
					wantCut(t, c, cutElsewhere(c))
				}
			}
		}
	}
	for seq := range int64(65536) {
		c := cutCase{messageOf(8, 5), 4, seq * 65537, seq}
		wantCut(t, c, cutElsewhere(c))
	}
}

func TestUnorderedMessagesHaveNoSeq(t *testing.T) {
	for seq := int64(1); seq <= 65535; seq += 1 + seq/16 {
		for _, m := range someMessages() {
			m.Unordered = true
			wantNoCut(t, cutCase{m, 4, 0, seq}, impl.ErrForm)
			wantNoCut(t, cutCase{m, 100, impl.MaxWord, seq}, impl.ErrForm)
		}
	}
}

func TestSizesOfPieces(t *testing.T) {
	for _, m := range someMessages() {
		for size := int64(impl.MinPiece); size <= impl.MaxPiece; size++ {
			c := cutCase{m, size, 1, 0}
			wantCut(t, c, cutElsewhere(c))
		}
		for _, size := range append(notFrom(impl.MinPiece, impl.MaxPiece), 0, 1, 2, 3, 101, 102, 400, 65536, -4, -100) {
			wantNoCut(t, cutCase{m, size, 1, 0}, impl.ErrRange)
		}
	}
}

func TestOfTwoFaultsOfACutTheFirstCounts(t *testing.T) {
	valid := func() cutCase {
		return cutCase{messageOf(4, 22), 6, 77, 8}
	}
	wantCut(t, valid(), cutElsewhere(valid()))
	all := slices.Concat(
		numberBreaches(1, impl.ErrRange, func(c *cutCase) *int64 { return &c.message.Stream }, notFrom(0, 9)...),
		numberBreaches(3, impl.ErrRange, func(c *cutCase) *int64 { return &c.size }, notFrom(4, 100)...),
		numberBreaches(4, impl.ErrRange, func(c *cutCase) *int64 { return &c.tsn }, noWords()...),
		numberBreaches(5, impl.ErrRange, func(c *cutCase) *int64 { return &c.seq }, notFrom(0, 65535)...))
	for _, size := range badMessageSizes() {
		all = append(all, breach[cutCase]{2, impl.ErrMany, func(c *cutCase) { c.message.Bytes = make([]byte, size) }})
	}
	all = append(all, breach[cutCase]{6, impl.ErrForm, func(c *cutCase) { c.message.Unordered = true }})
	check := func(c cutCase, code int64) {
		t.Helper()
		wantNoCut(t, c, code)
	}
	eachBreach(valid, all, check)
	// Another fault of the message counts before those of the numbers.
	for _, size := range badMessageSizes() {
		for _, stream := range []int64{-1, 0, 9, 10} {
			m := messageOf(stream, size)
			wantNoCut(t, cutCase{m, 0, -1, -1}, impl.MessageFault(m))
			wantNoCut(t, cutCase{m, 4, 0, 0}, impl.MessageFault(m))
		}
	}
}

// piecesOfSizes are all pieces of one message, in order.
func piecesOfSizes(tsn int64, sizes ...int) []impl.Data {
	var list []impl.Data
	for i, size := range sizes {
		list = append(list, impl.Data{
			Tsn: (tsn + int64(i)) % (impl.MaxWord + 1), Stream: 6, Seq: 300, First: i == 0, Last: i == len(sizes)-1, Piece: someData(size, 310+uint32(i)),
		})
	}
	return list
}

// wholeOf are the bytes of all pieces.
func wholeOf(list []impl.Data) []byte {
	var whole []byte
	for _, d := range list {
		whole = append(whole, d.Piece...)
	}
	return whole
}

func TestJoiningPiecesOfAnySizes(t *testing.T) {
	for _, sizes := range [][]int{
		{1}, {100}, {1, 1}, {1, 100}, {100, 1}, {3, 2, 1}, {100, 100, 100, 100}, {99, 100, 100, 100, 1}, {1, 99, 100, 100, 100}, {7, 1, 7, 1, 7, 1},
	} {
		for _, tsn := range append(someWords(), impl.MaxWord-3) {
			list := piecesOfSizes(tsn, sizes...)
			wantJoined(t, list, impl.Message{Stream: 6, Bytes: wholeOf(list)})
			for i := range list {
				list[i].Unordered, list[i].Seq = true, 0
			}
			wantJoined(t, list, impl.Message{Stream: 6, Unordered: true, Bytes: wholeOf(list)})
		}
	}
}

func TestTheNumberOfJoinedPieces(t *testing.T) {
	for count := 1; count <= 100; count++ {
		for _, size := range []int{1, 2, 3, 4} {
			list := piecesOfSizes(impl.MaxWord-50, slices.Repeat([]int{size}, count)...)
			wantJoined(t, list, impl.Message{Stream: 6, Bytes: wholeOf(list)})
		}
	}
	wantUnjoined(t, nil, impl.ErrMany)
	wantUnjoined(t, []impl.Data{}, impl.ErrMany)
	for _, count := range []int{101, 102, 200, 255, 256, 257, 300, 356, 65536 + 3} {
		wantUnjoined(t, piecesOfSizes(5, slices.Repeat([]int{1}, count)...), impl.ErrMany)
		// The number comes before whatever the pieces are.
		wantUnjoined(t, make([]impl.Data, count), impl.ErrMany)
		wantUnjoined(t, slices.Repeat([]impl.Data{{Tsn: -1}}, count), impl.ErrMany)
	}
}

func TestPiecesOfAMessageThatIsTooLong(t *testing.T) {
	for _, sizes := range [][]int{
		{100, 100, 100, 100, 1}, {1, 100, 100, 100, 100}, {100, 100, 1, 100, 100}, {81, 80, 80, 80, 80}, {80, 80, 80, 80, 81}, {100, 100, 100, 100, 100},
		append(slices.Repeat([]int{4}, 99), 5), slices.Repeat([]int{5}, 100), slices.Repeat([]int{100}, 100), slices.Repeat([]int{5}, 81),
		// The low bits of these lengths would be in order.
		append(slices.Repeat([]int{64}, 4), slices.Repeat([]int{100}, 3)...), slices.Repeat([]int{64}, 8),
	} {
		for _, tsn := range []int64{0, 5, impl.MaxWord - 2} {
			list := piecesOfSizes(tsn, sizes...)
			wantUnjoined(t, list, impl.ErrMany)
			for i := range list {
				list[i].Unordered, list[i].Seq = true, 0
			}
			wantUnjoined(t, list, impl.ErrMany)
			// The order of the pieces comes before the length.
			wantUnjoined(t, changedDatas(list, len(list)-1, func(d *impl.Data) { d.Last = false }), impl.ErrForm)
			wantUnjoined(t, list[1:], impl.ErrForm)
		}
	}
	// One byte less, and the message is as long as it may be.
	for _, sizes := range [][]int{{100, 100, 100, 99, 1}, {80, 80, 80, 80, 80}, slices.Repeat([]int{4}, 100), slices.Repeat([]int{5}, 80)} {
		list := piecesOfSizes(9, sizes...)
		wantJoined(t, list, impl.Message{Stream: 6, Bytes: wholeOf(list)})
	}
}

// unfitting change a piece so that it is in order, but does not fit to the others.
func unfitting() map[string]func(d *impl.Data) {
	return map[string]func(d *impl.Data){
		"First":                      func(d *impl.Data) { d.First = !d.First },
		"Last":                       func(d *impl.Data) { d.Last = !d.Last },
		"First and Last":             func(d *impl.Data) { d.First, d.Last = !d.First, !d.Last },
		"the next Tsn":               func(d *impl.Data) { d.Tsn = (d.Tsn + 1) % (impl.MaxWord + 1) },
		"the previous Tsn":           func(d *impl.Data) { d.Tsn = (d.Tsn + impl.MaxWord) % (impl.MaxWord + 1) },
		"a Tsn with other low bits":  func(d *impl.Data) { d.Tsn ^= 3 },
		"a Tsn with other high bits": func(d *impl.Data) { d.Tsn ^= 1 << 31 },
		"a Tsn 256 further":          func(d *impl.Data) { d.Tsn = (d.Tsn + 256) % (impl.MaxWord + 1) },
		"a Tsn 65536 further":        func(d *impl.Data) { d.Tsn = (d.Tsn + 65536) % (impl.MaxWord + 1) },
		"the next Stream":            func(d *impl.Data) { d.Stream = (d.Stream + 1) % 10 },
		"the previous Stream":        func(d *impl.Data) { d.Stream = (d.Stream + 9) % 10 },
		"a lower Seq":                func(d *impl.Data) { d.Seq-- },
		"a greater Seq":              func(d *impl.Data) { d.Seq++ },
		"a Seq 256 further":          func(d *impl.Data) { d.Seq ^= 256 },
		"a Seq 32768 further":        func(d *impl.Data) { d.Seq ^= 32768 },
		"Unordered":                  func(d *impl.Data) { d.Unordered, d.Seq = true, 0 },
		"another Unordered and Seq":  func(d *impl.Data) { d.Unordered, d.Seq = !d.Unordered, 0 },
	}
}

func TestPiecesThatDoNotFit(t *testing.T) {
	for _, tsn := range []int64{0, 1, 700, impl.MaxWord - 2, impl.MaxWord - 1, impl.MaxWord, 2147483646} {
		for count := 2; count <= 6; count++ {
			list := piecesOfSizes(tsn, slices.Repeat([]int{3}, count)...)
			wantJoined(t, list, impl.Message{Stream: 6, Bytes: wholeOf(list)})
			for place := range list {
				for name, change := range unfitting() {
					changed := changedDatas(list, place, change)
					if code := wantJoinAsElsewhere(t, changed); code != impl.ErrForm {
						t.Errorf("%d pieces with %s at %d are not malformed", count, name, place)
					}
					wantUnjoined(t, changed, impl.ErrForm)
				}
				wantUnjoined(t, slices.Delete(copiedDatas(list), place, place+1), impl.ErrForm)
				wantUnjoined(t, slices.Insert(copiedDatas(list), place, list[place]), impl.ErrForm)
				wantUnjoined(t, append(copiedDatas(list), list[place]), impl.ErrForm)
				for other := range place {
					own := copiedDatas(list)
					own[place], own[other] = own[other], own[place]
					wantUnjoined(t, own, impl.ErrForm)
				}
			}
		}
	}
}

func TestOnePiece(t *testing.T) {
	for _, d := range someDatas() {
		want := int64(impl.ErrForm)
		if d.First && d.Last {
			want = impl.OK
			wantJoined(t, []impl.Data{d}, impl.Message{Stream: d.Stream, Unordered: d.Unordered, Bytes: d.Piece})
		}
		if code := wantJoinAsElsewhere(t, []impl.Data{d}); code != want {
			t.Errorf("joining %+v alone has the code %d", d, code)
		}
	}
}

func TestUnorderedPiecesBesideOrderedOnes(t *testing.T) {
	// Both kinds have the Seq 0, so only the flag differs.
	list := piecesOfSizes(4, 2, 2, 2)
	for i := range list {
		list[i].Seq = 0
	}
	for choice := range 8 {
		own := copiedDatas(list)
		for i := range own {
			own[i].Unordered = choice>>i%2 == 1
		}
		if choice == 0 || choice == 7 {
			wantJoined(t, own, impl.Message{Stream: 6, Unordered: choice == 7, Bytes: wholeOf(list)})
		} else {
			wantUnjoined(t, own, impl.ErrForm)
		}
	}
}

// pieceAt is the piece at a place, or one that belongs to no list.
func pieceAt(list *[]impl.Data, place int) *impl.Data {
	if place < len(*list) {
		return &(*list)[place]
	}
	return &impl.Data{}
}

func TestOfTwoFaultsOfPiecesTheFirstCounts(t *testing.T) {
	valid := func() []impl.Data {
		return piecesOfSizes(impl.MaxWord-1, 70, 70, 70, 70, 70)
	}
	wantJoined(t, valid(), impl.Message{Stream: 6, Bytes: wholeOf(valid())})
	all := []breach[[]impl.Data]{{1, impl.ErrMany, func(v *[]impl.Data) { *v = nil }}}
	for _, more := range []int{96, 97, 251, 256, 351} {
		all = append(all, breach[[]impl.Data]{1, impl.ErrMany, func(v *[]impl.Data) { *v = append(*v, make([]impl.Data, more)...) }})
	}
	for _, place := range []int{0, 2, 4} {
		all = append(all, dataBreaches(10+10*place, func(v *[]impl.Data) *impl.Data { return pieceAt(v, place) })...)
	}
	for _, change := range unfitting() {
		for _, place := range []int{0, 1, 4} {
			all = append(all, breach[[]impl.Data]{100, impl.ErrForm, func(v *[]impl.Data) {
				// A piece that is faulty already keeps its fault.
				if d := pieceAt(v, place); dataFaultElsewhere(*d) == impl.OK {
					change(d)
				}
			}})
		}
	}
	all = append(all, breach[[]impl.Data]{200, impl.ErrMany, func(v *[]impl.Data) {
		for i, d := range *v {
			if dataFaultElsewhere(d) == impl.OK {
				(*v)[i].Piece = make([]byte, 100)
			}
		}
	}})
	eachBreach(valid, all, func(v []impl.Data, code int64) {
		t.Helper()
		wantUnjoined(t, v, code)
	})
}

func TestJoiningAllSmallLists(t *testing.T) {
	var from []impl.Data
	for flags := range 4 {
		for _, d := range []impl.Data{
			{Tsn: impl.MaxWord, Stream: 1}, {Tsn: 0, Stream: 1}, {Tsn: 1, Stream: 1}, {Tsn: 0, Stream: 2}, {Tsn: 0, Stream: 1, Seq: 1}, {Tsn: 0, Stream: 1, Unordered: true},
		} {
			d.First, d.Last, d.Piece = flags%2 == 1, flags/2 == 1, someData(2+flags, uint32(len(from)))
			from = append(from, d)
		}
	}
	from = append(from, impl.Data{Tsn: 0, Stream: 10, Piece: []byte{1}}, impl.Data{Tsn: 0, Stream: 1}, impl.Data{Tsn: 0, Stream: 1, Seq: 1, Unordered: true, Piece: []byte{1}})
	found := map[int64]int{}
	for count := range 4 {
		eachList(from, count, nil, func(list []impl.Data) { found[wantJoinAsElsewhere(t, list)]++ })
	}
	for code, least := range map[int64]int{impl.OK: 9, impl.ErrMany: 100, impl.ErrRange: 100, impl.ErrForm: 1000} {
		if found[code] < least {
			t.Errorf("only %d lists have the code %d", found[code], code)
		}
	}
}

func TestPiecesTravelInChunks(t *testing.T) {
	for i, m := range someMessages() {
		for _, size := range []int64{4, 7, 33, 100} {
			var arrived []impl.Data
			for _, d := range impl.CutMessage(m, size, impl.MaxWord-int64(i), 0).Datas {
				packed := impl.PackData(d)
				if packed.Code != impl.OK {
					t.Fatalf("the piece %+v cannot be packed", d)
				}
				arrived = append(arrived, impl.ReadData(packed.Chunk).Data)
			}
			wantJoined(t, arrived, m)
		}
	}
}

func TestPiecesOfTwoMessagesAreNotJoined(t *testing.T) {
	for i, m := range someMessages() {
		other := someMessages()[(i+2)%len(someMessages())]
		a := impl.CutMessage(m, 50, 10, 0).Datas
		b := impl.CutMessage(other, 50, 10+int64(len(a)), 0).Datas
		wantUnjoined(t, slices.Concat(a, b), impl.ErrForm)
		wantUnjoined(t, slices.Concat(a[:1], b), impl.ErrForm)
		wantUnjoined(t, slices.Concat(b, a), impl.ErrForm)
	}
}

// changedFields are a piece and others that differ from it in one field.
func changedFields(d impl.Data) []impl.Data {
	list := slices.Repeat([]impl.Data{d}, 12)
	for i := range list {
		list[i].Piece = bytes.Clone(d.Piece)
	}
	list[1].Tsn++
	list[2].Tsn += impl.MaxWord + 1
	list[3].Stream++
	list[4].Stream += 256
	list[5].Seq++
	list[6].Seq += 65536
	list[7].First = !d.First
	list[8].Last = !d.Last
	list[9].Unordered = !d.Unordered
	list[10].Piece = append(list[10].Piece, 0)
	list[11].Piece = append([]byte{77}, list[11].Piece...)
	for place := range d.Piece {
		for _, change := range []byte{1, 128} {
			other := d
			other.Piece = bytes.Clone(d.Piece)
			other.Piece[place] ^= change
			list = append(list, other)
		}
	}
	return list
}

// anyDatas include ones that are not in order.
func anyDatas() []impl.Data {
	list := []impl.Data{{}, {Tsn: -1, Stream: -1, Seq: -1}, {Unordered: true, Seq: 7}, {Piece: make([]byte, 101)}, {Tsn: impl.MaxWord + 5, Stream: 99, Seq: 65536, First: true, Piece: []byte{0}}}
	return append(list, piecesOfSizes(4294967295, 3, 4, 1)...)
}

func TestComparingPieces(t *testing.T) {
	t.Parallel()
	wantSameDatas(t, nil, nil, true)
	wantSameDatas(t, nil, []impl.Data{}, true)
	for _, d := range anyDatas() {
		for i, a := range changedFields(d) {
			for j, b := range changedFields(d) {
				same := told(a) == told(b)
				if same != (i == j) {
					t.Errorf("%+v and %+v should differ", a, b)
				}
				wantSameDatas(t, []impl.Data{a}, []impl.Data{b}, same)
			}
			wantSameDatas(t, []impl.Data{a}, nil, false)
			wantSameDatas(t, []impl.Data{a}, []impl.Data{}, false)
		}
		wantSameDatas(t, []impl.Data{{Tsn: d.Tsn, Piece: nil}}, []impl.Data{{Tsn: d.Tsn, Piece: []byte{}}}, true)
	}
}

func TestComparingListsOfPieces(t *testing.T) {
	all := anyDatas()
	wantSameDatas(t, all, copiedDatas(all), true)
	for place, d := range all {
		for _, other := range changedFields(d)[1:] {
			wantSameDatas(t, all, changedDatas(all, place, func(d *impl.Data) { *d = other }), false)
		}
		wantSameDatas(t, all, slices.Delete(copiedDatas(all), place, place+1), false)
		wantSameDatas(t, all, slices.Insert(copiedDatas(all), place, d), false)
		wantSameDatas(t, all[:place], all, false)
		for other := range place {
			own := copiedDatas(all)
			own[place], own[other] = own[other], own[place]
			wantSameDatas(t, all, own, false)
		}
	}
	from := []impl.Data{{}, {First: true}, {Last: true}, {First: true, Last: true}, {Unordered: true}, {Tsn: 1}, {Seq: 1}, {Piece: []byte{0}}}
	var lists [][]impl.Data
	for count := range 3 {
		eachList(from, count, nil, func(list []impl.Data) { lists = append(lists, slices.Clone(list)) })
	}
	for _, a := range lists {
		for _, b := range lists {
			wantSameDatas(t, a, b, told(a) == told(b))
		}
	}
}

// changedMessages are a message and others that differ from it in one field.
func changedMessages(m impl.Message) []impl.Message {
	list := slices.Repeat([]impl.Message{m}, 6)
	for i := range list {
		list[i].Bytes = bytes.Clone(m.Bytes)
	}
	list[1].Stream++
	list[2].Stream += 256
	list[3].Unordered = !m.Unordered
	list[4].Bytes = append(list[4].Bytes, 0)
	list[5].Bytes = append([]byte{1}, list[5].Bytes...)
	for place := range min(9, len(m.Bytes)) {
		other := m
		other.Bytes = bytes.Clone(m.Bytes)
		other.Bytes[len(m.Bytes)-1-place] ^= 4
		list = append(list, other)
	}
	return list
}

func TestComparingMessages(t *testing.T) {
	wantSameMessages(t, nil, nil, true)
	wantSameMessages(t, nil, []impl.Message{}, true)
	all := append(someMessages(), impl.Message{}, impl.Message{Stream: -1}, impl.Message{Stream: 10, Unordered: true}, impl.Message{Stream: 1 << 40, Bytes: make([]byte, 401)})
	for _, m := range all {
		for i, a := range changedMessages(m) {
			for j, b := range changedMessages(m) {
				wantSameMessages(t, []impl.Message{a}, []impl.Message{b}, i == j)
			}
			wantSameMessages(t, []impl.Message{a}, nil, false)
			wantSameMessages(t, []impl.Message{a}, []impl.Message{}, false)
		}
		wantSameMessages(t, []impl.Message{{Stream: m.Stream}}, []impl.Message{{Stream: m.Stream, Bytes: []byte{}}}, true)
	}
	for place := range all {
		own := slices.Clone(all)
		wantSameMessages(t, all, own, true)
		for _, other := range changedMessages(all[place])[1:] {
			own[place] = other
			wantSameMessages(t, all, own, false)
		}
		wantSameMessages(t, all, slices.Delete(slices.Clone(all), place, place+1), false)
		wantSameMessages(t, all, all[:place], false)
		for other := range place {
			own = slices.Clone(all)
			own[place], own[other] = own[other], own[place]
			wantSameMessages(t, all, own, told(all[place]) == told(all[other]))
		}
	}
}
