package tests

import (
	"bytes"
	"fmt"
	"math/bits"
	"math/rand"
	"slices"
	"strings"
	"testing"

	"loop.example/g00670/impl"
)

// Promise 10: in whatever order and however often pieces arrive, each message is
// delivered once, and those of a stream in order; an acknowledgement reports exactly
// what arrived.

// half is how far apart two words are of which neither precedes the other.
const half = 1 << 31

// stepsFrom is the word that many steps further, or further back.
func stepsFrom(word int64, steps int64) int64 {
	return int64(uint32(word + steps))
}

func gapElsewhere(from int64, to int64) int64 {
	return int64(uint32(to - from))
}

// stepsOf are words from Cum on.
func stepsOf(cum int64, distances ...int64) []int64 {
	var list []int64
	for _, distance := range distances {
		list = append(list, stepsFrom(cum, distance))
	}
	return list
}

func equalDatas(a impl.Data, b impl.Data) bool {
	same := bytes.Equal(a.Piece, b.Piece)
	a.Piece, b.Piece = nil, nil
	return same && told(a) == told(b)
}

func equalMessages(a impl.Message, b impl.Message) bool {
	return a.Stream == b.Stream && a.Unordered == b.Unordered && bytes.Equal(a.Bytes, b.Bytes)
}

func equalRecvs(a impl.Recv, b impl.Recv) bool {
	return a.Cum == b.Cum && slices.Equal(a.Beyond, b.Beyond) && slices.EqualFunc(a.Pieces, b.Pieces, equalDatas) && slices.Equal(a.Next, b.Next)
}

func equalTakes(a impl.RecvResult, b impl.RecvResult) bool {
	return a.Code == b.Code && a.Twice == b.Twice && equalRecvs(a.Recv, b.Recv) && slices.EqualFunc(a.Messages, b.Messages, equalMessages)
}

func copiedRecv(r impl.Recv) impl.Recv {
	return impl.Recv{Cum: r.Cum, Beyond: slices.Clone(r.Beyond), Pieces: copiedDatas(r.Pieces), Next: slices.Clone(r.Next)}
}

func recvFaultElsewhere(r impl.Recv) int64 {
	if r.Cum != int64(uint32(r.Cum)) {
		return impl.ErrRange
	}
	if len(r.Beyond) > 16 || len(r.Pieces) > 64 || len(r.Next) != 10 {
		return impl.ErrMany
	}
	for i, tsn := range r.Beyond {
		if tsn != int64(uint32(tsn)) {
			return impl.ErrRange
		}
		gap := gapElsewhere(r.Cum, tsn)
		if gap < 2 || gap > 16 || i > 0 && gap <= gapElsewhere(r.Cum, r.Beyond[i-1]) {
			return impl.ErrForm
		}
	}
	for i, d := range r.Pieces {
		if code := dataFaultElsewhere(d); code != impl.OK {
			return code
		}
		if i > 0 {
			if step := gapElsewhere(r.Pieces[i-1].Tsn, d.Tsn); step == 0 || step >= half {
				return impl.ErrForm
			}
		}
		if gap := gapElsewhere(r.Cum, d.Tsn); gap > 0 && gap < half && !slices.Contains(r.Beyond, d.Tsn) {
			return impl.ErrState
		}
	}
	if slices.ContainsFunc(r.Next, func(seq int64) bool { return seq != int64(uint16(seq)) }) {
		return impl.ErrRange
	}
	return impl.OK
}

// deliverElsewhere takes the first message out, and then those of what is left.
func deliverElsewhere(r impl.Recv) impl.RecvResult {
	for from, begin := range r.Pieces {
		length := 1 + slices.IndexFunc(r.Pieces[from:], func(d impl.Data) bool { return d.Last })
		if length == 0 {
			break
		}
		joined := joinElsewhere(r.Pieces[from : from+length])
		if joined.Code != impl.OK || !begin.Unordered && r.Next[begin.Stream] != begin.Seq {
			continue
		}
		left := copiedRecv(r)
		left.Pieces = slices.Concat(r.Pieces[:from], r.Pieces[from+length:])
		if !begin.Unordered {
			left.Next[begin.Stream] = int64(uint16(begin.Seq + 1))
		}
		later := deliverElsewhere(left)
		later.Messages = slices.Concat([]impl.Message{joined.Message}, later.Messages)
		return later
	}
	return impl.RecvResult{Recv: r}
}

// takeElsewhere keeps the TSNs as bits, and sorts the pieces. They may be as far apart
// as a quarter of all words at most.
func takeElsewhere(r impl.Recv, d impl.Data) impl.RecvResult {
	for _, code := range []int64{recvFaultElsewhere(r), dataFaultElsewhere(d)} {
		if code != impl.OK {
			return impl.RecvResult{Code: code}
		}
	}
	gap := gapElsewhere(r.Cum, d.Tsn)
	if gap == 0 || gap >= half || slices.Contains(r.Beyond, d.Tsn) {
		return impl.RecvResult{Recv: r, Twice: true}
	}
	if gap > 16 || len(r.Pieces) == 64 {
		return impl.RecvResult{Code: impl.ErrFull}
	}
	arrived := uint32(1) << (gap - 1)
	for _, tsn := range r.Beyond {
		arrived |= 1 << (gapElsewhere(r.Cum, tsn) - 1)
	}
	moved := bits.TrailingZeros32(^arrived)
	own := impl.Recv{Cum: stepsFrom(r.Cum, int64(moved)), Pieces: append(copiedDatas(r.Pieces), d), Next: r.Next}
	for i := moved; i < 16; i++ {
		if arrived>>i&1 == 1 {
			own.Beyond = append(own.Beyond, stepsFrom(r.Cum, int64(i+1)))
		}
	}
	slices.SortFunc(own.Pieces, func(a impl.Data, b impl.Data) int {
		return int(int32(a.Tsn-r.Cum)) - int(int32(b.Tsn-r.Cum))
	})
	return deliverElsewhere(own)
}

// gapsElsewhere finds the gaps in a text that shows what arrived.
func gapsElsewhere(r impl.Recv) []impl.Gap {
	shown := []byte(strings.Repeat(".", 18))
	for _, tsn := range r.Beyond {
		shown[gapElsewhere(r.Cum, tsn)] = 'x'
	}
	var gaps []impl.Gap
	for at := 0; strings.Contains(string(shown[at:]), "x"); {
		from := at + strings.Index(string(shown[at:]), "x")
		at = from + strings.Index(string(shown[from:]), ".")
		gaps = append(gaps, impl.Gap{From: int64(from), To: int64(at - 1)})
	}
	return gaps
}

// wantTaken also wants the acknowledgement of what arrived. It returns the result.
func wantTaken(t *testing.T, r impl.Recv, d impl.Data, want impl.RecvResult) impl.RecvResult {
	t.Helper()
	got := impl.TakeData(r, d)
	if !equalTakes(got, want) {
		t.Errorf("TakeData(%+v, %+v) = %+v, want %+v", r, d, got, want)
	}
	if want.Code == impl.OK {
		wantSack(t, got.Recv, gapsElsewhere(want.Recv))
	}
	return got
}

func wantNotTaken(t *testing.T, r impl.Recv, d impl.Data, code int64) {
	t.Helper()
	wantTaken(t, r, d, impl.RecvResult{Code: code})
}

func wantTwice(t *testing.T, r impl.Recv, d impl.Data) {
	t.Helper()
	wantTaken(t, r, d, impl.RecvResult{Recv: r, Twice: true})
}

func wantSack(t *testing.T, r impl.Recv, gaps []impl.Gap) {
	t.Helper()
	got := impl.SackOf(r)
	if told(got) != told(impl.SackResult{Sack: impl.Sack{Cum: r.Cum, Gaps: gaps}}) {
		t.Errorf("SackOf(%+v) = %+v, want the gaps %+v", r, got, gaps)
	}
	if packed := impl.PackSack(got.Sack); packed.Code != impl.OK {
		t.Errorf("SackOf(%+v) = %+v cannot be packed", r, got)
	}
}

// wantRecvFault also wants that nothing else is done with a faulty receiver.
func wantRecvFault(t *testing.T, r impl.Recv, want int64) {
	t.Helper()
	if got := impl.RecvFault(r); got != want {
		t.Errorf("RecvFault(%+v) = %d, want %d", r, got, want)
	}
	if want == impl.OK {
		wantSack(t, r, gapsElsewhere(r))
		return
	}
	if got := impl.SackOf(r); told(got) != told(impl.SackResult{Code: want}) {
		t.Errorf("SackOf(%+v) = %+v, want the code %d and nothing else", r, got, want)
	}
	for _, d := range []impl.Data{{Tsn: stepsFrom(r.Cum, 1), Piece: []byte{1}}, {Tsn: r.Cum, Piece: []byte{1}}, {Tsn: -1}} {
		wantNotTaken(t, r, d, want)
	}
}

// wantValid wants a receiver to be in order as it is.
func wantValid(t *testing.T, r impl.Recv) {
	t.Helper()
	wantRecvFault(t, r, impl.OK)
}

func newRecv(cum int64) impl.Recv {
	return impl.Recv{Cum: cum, Next: make([]int64, 10)}
}

// wholePiece is all of a message on the stream 0.
func wholePiece(tsn int64, seq int64) impl.Data {
	return impl.Data{Tsn: tsn, Seq: seq, First: true, Last: true, Piece: someData(3, uint32(tsn+77*seq))}
}

// loosePiece is all of an unordered message.
func loosePiece(tsn int64) impl.Data {
	d := wholePiece(tsn, 0)
	d.Stream, d.Unordered = 4, true
	return d
}

// middlePiece is never delivered, because its message has no beginning.
func middlePiece(tsn int64) impl.Data {
	return impl.Data{Tsn: tsn, Stream: 3, Seq: 9, Piece: []byte{5, 6}}
}

// waiting is a receiver with a piece for every TSN beyond Cum, at the distances.
func waiting(cum int64, distances ...int64) impl.Recv {
	r := newRecv(cum)
	r.Beyond = stepsOf(cum, distances...)
	for _, tsn := range r.Beyond {
		r.Pieces = append(r.Pieces, middlePiece(tsn))
	}
	return r
}

// behind are so many pieces that wait although Cum has passed them.
func behind(cum int64, count int) []impl.Data {
	var list []impl.Data
	for i := range count {
		list = append(list, middlePiece(stepsFrom(cum, int64(i+1-count))))
	}
	return list
}

func TestLimitsOfReceivers(t *testing.T) {
	if impl.MaxWindow != 16 || impl.MaxPieces != 64 {
		t.Errorf("the limits are %d and %d", impl.MaxWindow, impl.MaxPieces)
	}
}

func TestNewReceivers(t *testing.T) {
	for _, cum := range someWords() {
		got := impl.NewRecv(cum)
		if !equalTakes(got, impl.RecvResult{Recv: impl.Recv{Cum: cum, Next: []int64{0, 0, 0, 0, 0, 0, 0, 0, 0, 0}}}) {
			t.Errorf("NewRecv(%d) = %+v", cum, got)
		}
		wantValid(t, got.Recv)
		wantSack(t, got.Recv, nil)
	}
	for _, cum := range noWords() {
		if got := impl.NewRecv(cum); !equalTakes(got, impl.RecvResult{Code: impl.ErrRange}) {
			t.Errorf("NewRecv(%d) = %+v, want ErrRange and nothing else", cum, got)
		}
	}
}

func TestKnownSacksOfReceivers(t *testing.T) {
	r := newRecv(5)
	r.Beyond = []int64{7, 8, 10}
	wantSack(t, r, []impl.Gap{{From: 2, To: 3}, {From: 5, To: 5}})
	for _, cum := range append(someWords(), impl.MaxWord-9) {
		for _, c := range []struct {
			distances []int64
			gaps      []impl.Gap
		}{
			{nil, nil},
			{[]int64{2}, []impl.Gap{{From: 2, To: 2}}},
			{[]int64{16}, []impl.Gap{{From: 16, To: 16}}},
			{[]int64{2, 16}, []impl.Gap{{From: 2, To: 2}, {From: 16, To: 16}}},
			{[]int64{2, 3, 4}, []impl.Gap{{From: 2, To: 4}}},
			{[]int64{14, 15, 16}, []impl.Gap{{From: 14, To: 16}}},
			{[]int64{3, 5, 6, 8, 9, 10, 12}, []impl.Gap{{From: 3, To: 3}, {From: 5, To: 6}, {From: 8, To: 10}, {From: 12, To: 12}}},
			{[]int64{2, 4, 6, 8, 10, 12, 14, 16}, []impl.Gap{{From: 2, To: 2}, {From: 4, To: 4}, {From: 6, To: 6}, {From: 8, To: 8}, {From: 10, To: 10}, {From: 12, To: 12}, {From: 14, To: 14}, {From: 16, To: 16}}},
			{[]int64{2, 3, 4, 5, 6, 7, 8, 9, 10, 11, 12, 13, 14, 15, 16}, []impl.Gap{{From: 2, To: 16}}},
		} {
			wantSack(t, waiting(cum, c.distances...), c.gaps)
			// What arrived is reported whether its pieces still wait or not.
			r := newRecv(cum)
			r.Beyond = stepsOf(cum, c.distances...)
			wantSack(t, r, c.gaps)
		}
	}
}

func TestAnAcknowledgementReportsExactlyWhatArrived(t *testing.T) {
	for choice := range 1 << 15 {
		cum := someWords()[choice%len(someWords())]
		var distances []int64
		for i := range int64(15) {
			if choice>>i&1 == 1 {
				distances = append(distances, i+2)
			}
		}
		r := newRecv(cum)
		r.Beyond = stepsOf(cum, distances...)
		wantSack(t, r, gapsElsewhere(r))
		var reported []int64
		for _, g := range impl.SackOf(r).Sack.Gaps {
			for distance := g.From; distance <= g.To; distance++ {
				reported = append(reported, distance)
			}
		}
		if !slices.Equal(reported, distances) {
			t.Errorf("SackOf(%+v) reports the distances %v, want %v", r, reported, distances)
		}
	}
}

func TestAnUnorderedMessageIsDeliveredAtOnce(t *testing.T) {
	for _, cum := range someWords() {
		for distance := int64(2); distance <= 16; distance++ {
			d := loosePiece(stepsFrom(cum, distance))
			want := impl.RecvResult{Recv: newRecv(cum), Messages: []impl.Message{{Stream: 4, Unordered: true, Bytes: d.Piece}}}
			want.Recv.Beyond = []int64{d.Tsn}
			wantTaken(t, newRecv(cum), d, want)
		}
	}
}

func TestAnOrderedMessageIsDeliveredAfterItsPredecessors(t *testing.T) {
	r := newRecv(40)
	zero, one, two, loose := wholePiece(41, 0), wholePiece(42, 1), wholePiece(44, 2), loosePiece(43)
	r = wantTaken(t, r, two, impl.RecvResult{Recv: impl.Recv{Cum: 40, Beyond: []int64{44}, Pieces: []impl.Data{two}, Next: r.Next}}).Recv
	r = wantTaken(t, r, one, impl.RecvResult{Recv: impl.Recv{Cum: 40, Beyond: []int64{42, 44}, Pieces: []impl.Data{one, two}, Next: r.Next}}).Recv
	r = wantTaken(t, r, loose, impl.RecvResult{
		Recv:     impl.Recv{Cum: 40, Beyond: []int64{42, 43, 44}, Pieces: []impl.Data{one, two}, Next: r.Next},
		Messages: []impl.Message{{Stream: 4, Unordered: true, Bytes: loose.Piece}},
	}).Recv
	r = wantTaken(t, r, zero, impl.RecvResult{
		Recv:     impl.Recv{Cum: 44, Next: []int64{3, 0, 0, 0, 0, 0, 0, 0, 0, 0}},
		Messages: []impl.Message{{Bytes: zero.Piece}, {Bytes: one.Piece}, {Bytes: two.Piece}},
	}).Recv
	for _, d := range []impl.Data{zero, one, two, loose} {
		wantTwice(t, r, d)
	}
}

func TestDistancesOfArrivingPieces(t *testing.T) {
	for _, cum := range someWords() {
		r := newRecv(cum)
		for distance := int64(1); distance <= 16; distance++ {
			d := middlePiece(stepsFrom(cum, distance))
			want := impl.Recv{Cum: cum, Beyond: []int64{d.Tsn}, Pieces: []impl.Data{d}, Next: r.Next}
			if distance == 1 {
				want.Cum, want.Beyond = d.Tsn, nil
			}
			wantTaken(t, r, d, impl.RecvResult{Recv: want})
		}
		for _, distance := range []int64{17, 18, 31, 32, 33, 256, 257, 272, 65536, 65537, half - 16, half - 2, half - 1} {
			wantNotTaken(t, r, middlePiece(stepsFrom(cum, distance)), impl.ErrFull)
			wantNotTaken(t, waiting(cum, 2, 16), middlePiece(stepsFrom(cum, distance)), impl.ErrFull)
		}
		for _, distance := range []int64{0, half, half + 1, half + 16, impl.MaxWord - 15, impl.MaxWord - 1, impl.MaxWord} {
			wantTwice(t, r, middlePiece(stepsFrom(cum, distance)))
			wantTwice(t, waiting(cum, 2, 16), middlePiece(stepsFrom(cum, distance)))
		}
	}
}

func TestTsnsThatAreBeyondCumAlready(t *testing.T) {
	all := []int64{2, 3, 4, 5, 6, 7, 8, 9, 10, 11, 12, 13, 14, 15, 16}
	for _, cum := range []int64{0, 5, impl.MaxWord - 7, impl.MaxWord, half} {
		for _, distances := range [][]int64{{2}, {16}, {2, 16}, {3, 4, 9}, all} {
			r, empty := waiting(cum, distances...), newRecv(cum)
			empty.Beyond = r.Beyond
			for distance := int64(2); distance <= 16; distance++ {
				d := loosePiece(stepsFrom(cum, distance))
				if slices.Contains(distances, distance) {
					wantTwice(t, r, d)
					wantTwice(t, empty, d)
				} else {
					wantTaken(t, r, d, takeElsewhere(r, d))
					wantTaken(t, empty, d, takeElsewhere(empty, d))
				}
			}
		}
	}
}

func TestCumPassesWhatIsBeyondIt(t *testing.T) {
	for _, cum := range append(someWords(), impl.MaxWord-9) {
		for length := int64(1); length <= 16; length++ {
			// So many follow each other, and others are behind a gap.
			r := newRecv(cum)
			for distance := int64(2); distance <= length; distance++ {
				r.Beyond = append(r.Beyond, stepsFrom(cum, distance))
			}
			for far := length + 2; far <= 16; far += 3 {
				r.Beyond = append(r.Beyond, stepsFrom(cum, far))
			}
			d := middlePiece(stepsFrom(cum, 1))
			want := impl.Recv{Cum: stepsFrom(cum, length), Beyond: r.Beyond[length-1:], Pieces: []impl.Data{d}, Next: r.Next}
			wantTaken(t, r, d, impl.RecvResult{Recv: want})
		}
	}
}

func TestAMissingTsnStopsCum(t *testing.T) {
	for _, cum := range []int64{5, impl.MaxWord - 8, impl.MaxWord} {
		for hole := int64(2); hole <= 16; hole++ {
			r := newRecv(cum)
			for distance := int64(2); distance <= 16; distance++ {
				if distance != hole {
					r.Beyond = append(r.Beyond, stepsFrom(cum, distance))
				}
			}
			first, last := loosePiece(stepsFrom(cum, 1)), loosePiece(stepsFrom(cum, hole))
			messages := func(d impl.Data) []impl.Message {
				return []impl.Message{{Stream: 4, Unordered: true, Bytes: d.Piece}}
			}
			stopped := impl.Recv{Cum: stepsFrom(cum, hole-1), Beyond: r.Beyond[hole-2:], Next: r.Next}
			wantTaken(t, r, first, impl.RecvResult{Recv: stopped, Messages: messages(first)})
			passed := impl.Recv{Cum: stepsFrom(cum, 16), Next: r.Next}
			wantTaken(t, stopped, last, impl.RecvResult{Recv: passed, Messages: messages(last)})
			full := impl.Recv{Cum: cum, Next: r.Next}
			for distance := int64(2); distance <= 16; distance++ {
				full.Beyond = append(full.Beyond, stepsFrom(cum, distance))
			}
			wantTaken(t, r, last, impl.RecvResult{Recv: full, Messages: messages(last)})
		}
	}
}

// letter is a message to be cut into so many pieces.
type letter struct {
	stream    int64
	unordered bool
	count     int
}

// mail is a letter that was cut: its pieces are those from one place up to another.
type mail struct {
	message impl.Message
	seq     int64
	from    int
	to      int
}

// history is what a receiver has got of some mails. What it must have become is found
// anew from all that arrived.
type history struct {
	start   impl.Recv
	mails   []mail
	pieces  []impl.Data
	arrived []bool
	recv    impl.Recv
	got     []impl.Message
}

// newHistory numbers the letters of each stream from a Seq on, in their order, and sends
// them in another one.
func newHistory(cum int64, seq int64, letters []letter, order []int) *history {
	h := &history{start: impl.Recv{Cum: cum, Next: slices.Repeat([]int64{seq}, 10)}}
	next := slices.Clone(h.start.Next)
	all := make([]mail, len(letters))
	for i, l := range letters {
		all[i].message = impl.Message{Stream: l.stream, Unordered: l.unordered, Bytes: someData(4*l.count-i%4, uint32(900+i))}
		// No two messages may be the same.
		all[i].message.Bytes[0] = byte(i)
		if !l.unordered {
			all[i].seq = next[l.stream]
			next[l.stream] = int64(uint16(next[l.stream] + 1))
		}
	}
	for _, place := range order {
		m := all[place]
		m.from = len(h.pieces)
		h.pieces = append(h.pieces, cutElsewhere(cutCase{m.message, 4, stepsFrom(cum, int64(m.from+1)), m.seq})...)
		m.to = len(h.pieces)
		h.mails = append(h.mails, m)
	}
	h.arrived = make([]bool, len(h.pieces))
	h.recv = copiedRecv(h.start)
	return h
}

// inOrder is the order of so many letters in which they are numbered.
func inOrder(count int) []int {
	var list []int
	for i := range count {
		list = append(list, i)
	}
	return list
}

func (h *history) isWhole(m mail) bool {
	return !slices.Contains(h.arrived[m.from:m.to], false)
}

// delivered are the places of the delivered mails, the unordered ones first.
func (h *history) delivered() []int {
	var list []int
	for place, m := range h.mails {
		if m.message.Unordered && h.isWhole(m) {
			list = append(list, place)
		}
	}
	for stream, seq := range h.start.Next {
		due := func(m mail) bool {
			return m.message.Stream == int64(stream) && !m.message.Unordered && m.seq == seq && h.isWhole(m)
		}
		for place := slices.IndexFunc(h.mails, due); place >= 0; place = slices.IndexFunc(h.mails, due) {
			list = append(list, place)
			seq = int64(uint16(seq + 1))
		}
	}
	return list
}

// wanted is the receiver after all that arrived.
func (h *history) wanted() impl.Recv {
	r := copiedRecv(h.start)
	moved := slices.Index(h.arrived, false)
	if moved < 0 {
		moved = len(h.arrived)
	}
	r.Cum = stepsFrom(r.Cum, int64(moved))
	for i := moved; i < len(h.arrived); i++ {
		if h.arrived[i] {
			r.Beyond = append(r.Beyond, stepsFrom(h.start.Cum, int64(i+1)))
		}
	}
	held := slices.Clone(h.arrived)
	for _, place := range h.delivered() {
		m := h.mails[place]
		clear(held[m.from:m.to])
		if !m.message.Unordered {
			r.Next[m.message.Stream] = int64(uint16(r.Next[m.message.Stream] + 1))
		}
	}
	for i, d := range h.pieces {
		if held[i] {
			r.Pieces = append(r.Pieces, d)
		}
	}
	return r
}

// wantedOf is what must become of a piece that arrives now.
func (h *history) wantedOf(place int) impl.RecvResult {
	before := h.wanted()
	if h.arrived[place] {
		return impl.RecvResult{Recv: before, Twice: true}
	}
	if gapElsewhere(before.Cum, h.pieces[place].Tsn) > 16 || len(before.Pieces) == 64 {
		return impl.RecvResult{Code: impl.ErrFull}
	}
	old := h.delivered()
	h.arrived[place] = true
	want := impl.RecvResult{Recv: h.wanted()}
	for _, at := range h.delivered() {
		if !slices.Contains(old, at) {
			want.Messages = append(want.Messages, h.mails[at].message)
		}
	}
	return want
}

// take lets a piece arrive. It returns the code.
func (h *history) take(t *testing.T, place int) int64 {
	t.Helper()
	want := h.wantedOf(place)
	got := wantTaken(t, h.recv, h.pieces[place], want)
	if t.Failed() {
		t.Fatalf("piece %d of %+v, after %v", place, h.mails, h.arrived)
	}
	if want.Code == impl.OK {
		h.recv = got.Recv
		h.got = append(h.got, got.Messages...)
		if code := impl.RecvFault(got.Recv); code != impl.OK {
			t.Fatalf("RecvFault(%+v) = %d", got.Recv, code)
		}
	}
	return want.Code
}

// takeAll lets pieces arrive, each of which must be in the window.
func (h *history) takeAll(t *testing.T, places []int) {
	t.Helper()
	for _, place := range places {
		if code := h.take(t, place); code != impl.OK {
			t.Errorf("piece %d of %+v has the code %d", place, h.mails, code)
		}
	}
}

// wantEnd wants each message delivered once, and those of a stream in order.
func (h *history) wantEnd(t *testing.T) {
	t.Helper()
	if len(h.recv.Pieces) != 0 || len(h.recv.Beyond) != 0 || h.recv.Cum != stepsFrom(h.start.Cum, int64(len(h.pieces))) {
		t.Errorf("something is left: %+v", h.recv)
	}
	if len(h.got) != len(h.mails) {
		t.Errorf("%d messages of %d are delivered", len(h.got), len(h.mails))
	}
	for stream := range int64(10) {
		var sent, got []impl.Message
		// From the first Seq on, all of them are less than the number of mails away.
		for step := range int64(len(h.mails)) {
			for _, m := range h.mails {
				if m.message.Stream == stream && !m.message.Unordered && gapElsewhere(h.start.Next[stream], m.seq)%65536 == step {
					sent = append(sent, m.message)
				}
			}
		}
		for _, m := range h.got {
			if m.Stream == stream && !m.Unordered {
				got = append(got, m)
			}
		}
		if !slices.EqualFunc(got, sent, equalMessages) {
			t.Errorf("stream %d: %+v are delivered of %+v", stream, got, sent)
		}
	}
	for _, m := range h.mails {
		if count := len(h.got) - len(slices.DeleteFunc(slices.Clone(h.got), func(g impl.Message) bool { return equalMessages(g, m.message) })); count != 1 {
			t.Errorf("%+v is delivered %d times", m.message, count)
		}
	}
}

// someLetters have 16 pieces in all.
func someLetters() [][]letter {
	return [][]letter{
		{{0, false, 1}, {0, false, 2}, {0, false, 3}, {0, false, 4}, {0, false, 6}},
		{{1, false, 3}, {9, false, 3}, {1, false, 2}, {9, false, 2}, {1, true, 1}, {9, false, 1}, {1, false, 4}},
		{{3, true, 5}, {3, true, 1}, {3, false, 2}, {2, false, 3}, {3, true, 4}, {2, false, 1}},
		{{5, false, 16}},
		{{5, true, 16}},
		{{8, false, 1}, {8, false, 1}, {8, false, 1}, {8, false, 1}, {7, false, 1}, {7, false, 1}, {7, true, 1}, {7, true, 1}, {6, false, 8}},
	}
}

func TestArrivingInSomeOrders(t *testing.T) {
	t.Parallel()
	seed := rand.New(rand.NewSource(1))
	for _, letters := range someLetters() {
		for i, cum := range append(someWords(), impl.MaxWord-5, impl.MaxWord-16) {
			for _, seq := range []int64{0, 3, 65534, 65535} {
				forward := inOrder(16)
				reverse := slices.Clone(forward)
				slices.Reverse(reverse)
				twice := slices.Concat(forward, forward)
				each := slices.Sorted(slices.Values(twice))
				for _, order := range [][]int{forward, reverse, twice, each, append(slices.Clone(reverse), reverse...), seed.Perm(16), append(seed.Perm(16), seed.Perm(16)...)} {
					numbered := inOrder(len(letters))
					if i%3 == 1 {
						slices.Reverse(numbered)
					} else if i%3 == 2 {
						numbered = seed.Perm(len(letters))
					}
					h := newHistory(cum, seq, letters, numbered)
					h.takeAll(t, order)
					h.wantEnd(t)
				}
			}
		}
	}
}

// eachOrder gives all orders of the elements from some place on.
func eachOrder[T any](list []T, place int, give func(list []T)) {
	if place == len(list) {
		give(list)
		return
	}
	for other := place; other < len(list); other++ {
		list[place], list[other] = list[other], list[place]
		eachOrder(list, place+1, give)
		list[place], list[other] = list[other], list[place]
	}
}

// lettersOf divides so many pieces into letters: one ends where a bit of the choice is
// set, and at the end.
func lettersOf(count int, choice int, kind int) []letter {
	var list []letter
	length := 0
	for i := range count {
		length++
		if i < count-1 && choice>>i&1 == 0 {
			continue
		}
		l := letter{stream: 2, count: length}
		switch kind {
		case 1:
			l.stream = int64(len(list) % 2)
		case 2:
			l.unordered = len(list)%2 == 0
		case 3:
			l.unordered = true
		}
		list = append(list, l)
		length = 0
	}
	return list
}

func TestAllOrdersOfFewPieces(t *testing.T) {
	t.Parallel()
	for count := 1; count <= 5; count++ {
		for choice := range 1 << (count - 1) {
			for kind := range 4 {
				letters := lettersOf(count, choice, kind)
				eachOrder(inOrder(count), 0, func(order []int) {
					h := newHistory(impl.MaxWord-2, 65534, letters, inOrder(len(letters)))
					h.takeAll(t, order)
					h.wantEnd(t)
					h.takeAll(t, order)
				})
			}
		}
	}
}

func TestAllOrdersOfMessagesWithOnePiece(t *testing.T) {
	letters := slices.Repeat([]letter{{stream: 9, count: 1}}, 4)
	eachOrder(inOrder(4), 0, func(numbered []int) {
		eachOrder(inOrder(4), 0, func(order []int) {
			h := newHistory(impl.MaxWord, 65535, letters, numbered)
			h.takeAll(t, order)
			h.wantEnd(t)
		})
	})
}

func TestLongHistories(t *testing.T) {
	t.Parallel()
	for round := range 30 {
		seed := rand.New(rand.NewSource(int64(round)))
		var letters []letter
		for range 50 + round {
			letters = append(letters, letter{stream: int64(seed.Intn(1 + round%10)), unordered: seed.Intn(4) == 0, count: 1 + seed.Intn(8)})
		}
		h := newHistory(stepsFrom(0, int64(-round*5)), stepsFrom(65530, int64(round))%65536, letters, inOrder(len(letters)))
		found := map[int64]int{}
		for cum := 0; cum < len(h.pieces); cum = int(gapElsewhere(h.start.Cum, h.recv.Cum)) {
			// Some arrive again, some too early.
			place := cum - 3 + seed.Intn(20+round/4)
			if place >= 0 && place < len(h.pieces) {
				found[h.take(t, place)]++
			}
		}
		h.wantEnd(t)
		if len(found) < 2 {
			t.Errorf("round %d: the codes are %v", round, found)
		}
	}
}

func TestPiecesThatWaitForTheirTurn(t *testing.T) {
	for _, last := range []int64{1, 7, 15} {
		for _, seq := range []int64{0, 65535 - last/2, 65535} {
			letters := slices.Repeat([]letter{{stream: 5, count: 1}}, int(last+1))
			h := newHistory(impl.MaxWord-4, seq, letters, inOrder(len(letters)))
			// All but the first wait, and then all are delivered at once.
			for place := last; place > 0; place-- {
				h.take(t, int(place))
				if len(h.got) != 0 || int64(len(h.recv.Pieces)) != last+1-place || h.recv.Next[5] != seq {
					t.Errorf("%d messages are delivered too early: %+v", len(h.got), h.recv)
				}
			}
			h.take(t, 0)
			h.wantEnd(t)
			if h.recv.Next[5] != (seq+last+1)%65536 {
				t.Errorf("the next message is %d, after %d from %d on", h.recv.Next[5], last+1, seq)
			}
		}
	}
}

func TestOneMessageHoldsUpItsOwnStreamOnly(t *testing.T) {
	letters := []letter{{2, false, 2}, {2, false, 1}, {6, false, 1}, {2, true, 1}, {2, false, 3}, {6, false, 1}}
	h := newHistory(8, 500, letters, inOrder(len(letters)))
	for place, want := range []int{0, 0, 0, 1, 2, 2, 2, 2, 3} {
		if place != 1 {
			h.take(t, place)
			if len(h.got) != want {
				t.Errorf("after piece %d, %d messages are delivered, want %d", place, len(h.got), want)
			}
		}
	}
	h.take(t, 1)
	h.wantEnd(t)
}

func TestTheNextSeqOfEachStream(t *testing.T) {
	for stream := range int64(10) {
		for _, seq := range []int64{0, 1, 255, 256, 32767, 32768, 65534, 65535} {
			r := newRecv(77)
			r.Next[stream] = seq
			for _, d := range []impl.Data{wholePiece(78, seq), wholePiece(79, seq)} {
				d.Stream = stream
				want := copiedRecv(r)
				want.Next[stream] = (seq + 1) % 65536
				want.Cum = 78
				if d.Tsn == 79 {
					want.Cum, want.Beyond = 77, []int64{79}
				}
				wantTaken(t, r, d, impl.RecvResult{Recv: want, Messages: []impl.Message{{Stream: stream, Bytes: d.Piece}}})
				for _, other := range []int64{(seq + 1) % 65536, (seq + 65535) % 65536, seq ^ 256, seq ^ 32768} {
					d.Seq = other
					held := copiedRecv(want)
					held.Next, held.Pieces = r.Next, []impl.Data{d}
					wantTaken(t, r, d, impl.RecvResult{Recv: held})
				}
			}
		}
	}
}

func TestAsManyPiecesAsMayWait(t *testing.T) {
	for _, cum := range []int64{3, 90, impl.MaxWord - 30, impl.MaxWord} {
		for _, count := range []int{0, 1, 62, 63, 64} {
			r := newRecv(cum)
			r.Pieces = behind(cum, count)
			for _, d := range []impl.Data{loosePiece(stepsFrom(cum, 1)), middlePiece(stepsFrom(cum, 1)), loosePiece(stepsFrom(cum, 16)), middlePiece(stepsFrom(cum, 9))} {
				if count == 64 {
					wantNotTaken(t, r, d, impl.ErrFull)
				} else {
					wantTaken(t, r, d, takeElsewhere(r, d))
				}
			}
			// A piece that arrived before needs no room.
			wantTwice(t, r, loosePiece(cum))
			wantTwice(t, r, loosePiece(stepsFrom(cum, -9)))
			wantNotTaken(t, r, loosePiece(stepsFrom(cum, 17)), impl.ErrFull)
		}
		r := waiting(cum, 3, 4, 16)
		r.Pieces = append(behind(cum, 61), r.Pieces...)
		wantValid(t, r)
		wantTwice(t, r, loosePiece(stepsFrom(cum, 4)))
		wantNotTaken(t, r, loosePiece(stepsFrom(cum, 1)), impl.ErrFull)
	}
}

func TestAMessageOfAsManyPiecesAsMayWait(t *testing.T) {
	t.Parallel()
	for _, unordered := range []bool{false, true} {
		for _, count := range []int{62, 63, 64} {
			h := newHistory(impl.MaxWord-20, 7, []letter{{1, unordered, count}, {1, false, 1}}, inOrder(2))
			h.takeAll(t, inOrder(count+1))
			h.wantEnd(t)
			// The last piece that was missing may be any one of the last in the window.
			for missing := count - 16; missing < count; missing++ {
				h := newHistory(impl.MaxWord-20, 7, []letter{{1, unordered, count}}, inOrder(1))
				h.takeAll(t, slices.Delete(inOrder(count), missing, missing+1))
				if len(h.got) != 0 || len(h.recv.Pieces) != count-1 {
					t.Errorf("without piece %d: %+v", missing, h.recv)
				}
				h.take(t, missing)
				h.wantEnd(t)
			}
		}
		// One piece more, and there is no room for the last of them.
		h := newHistory(impl.MaxWord-20, 7, []letter{{1, unordered, 65}, {2, true, 1}}, inOrder(2))
		h.takeAll(t, inOrder(64))
		for _, place := range []int{64, 65, 64} {
			if code := h.take(t, place); code != impl.ErrFull || len(h.recv.Pieces) != 64 || len(h.got) != 0 {
				t.Errorf("piece %d has the code %d: %+v", place, code, h.recv)
			}
		}
		h.takeAll(t, inOrder(64))
	}
}

func TestMessagesThatBeginFirstAreDeliveredFirst(t *testing.T) {
	// The receiver holds messages that were never delivered, and any piece that arrives
	// lets them go. An ordered one that begins later may be due first.
	for _, cum := range []int64{60, impl.MaxWord - 2, 1} {
		at := func(steps int64) int64 { return stepsFrom(cum, steps) }
		r := newRecv(cum)
		r.Pieces = []impl.Data{wholePiece(at(-5), 2), loosePiece(at(-4)), wholePiece(at(-3), 1), loosePiece(at(-2)), wholePiece(at(-1), 0), loosePiece(at(0))}
		d := middlePiece(at(1))
		want := impl.Recv{Cum: at(1), Pieces: []impl.Data{d}, Next: []int64{3, 0, 0, 0, 0, 0, 0, 0, 0, 0}}
		var messages []impl.Message
		for _, place := range []int{1, 3, 4, 2, 0, 5} {
			p := r.Pieces[place]
			messages = append(messages, impl.Message{Stream: p.Stream, Unordered: p.Unordered, Bytes: p.Piece})
		}
		// The last one begins later than those that were due only after another.
		wantTaken(t, r, d, impl.RecvResult{Recv: want, Messages: messages})
		// Nothing is delivered where nothing arrives.
		wantTwice(t, r, wholePiece(cum, 0))
		wantNotTaken(t, r, wholePiece(at(17), 0), impl.ErrFull)
	}
}

func TestCompletePiecesOfAMessageThatIsTooLong(t *testing.T) {
	r := newRecv(10)
	list := piecesOfSizes(11, 100, 100, 100, 100, 1)
	r.Next[6] = 300
	for i, d := range list {
		want := copiedRecv(r)
		want.Cum, want.Pieces = d.Tsn, list[:i+1]
		r = wantTaken(t, r, d, impl.RecvResult{Recv: want}).Recv
	}
	// It stays, but does not keep others from being delivered.
	d := loosePiece(16)
	want := copiedRecv(r)
	want.Cum = 16
	wantTaken(t, r, d, impl.RecvResult{Recv: want, Messages: []impl.Message{{Stream: 4, Unordered: true, Bytes: d.Piece}}})
}

// anyPiece has a TSN and otherwise what chance gives it.
func anyPiece(seed *rand.Rand, tsn int64) impl.Data {
	d := impl.Data{Tsn: tsn, Stream: int64(seed.Intn(2)), First: seed.Intn(2) == 0, Last: seed.Intn(2) == 0, Piece: someData(1+seed.Intn(3), seed.Uint32())}
	if seed.Intn(3) == 0 {
		d.Unordered = true
	} else {
		d.Seq = (65534 + int64(seed.Intn(4))) % 65536
	}
	return d
}

// anyRecv is a receiver that is in order, but need not come from any sender.
func anyRecv(seed *rand.Rand) impl.Recv {
	words := someWords()
	r := newRecv(stepsFrom(words[seed.Intn(len(words))], int64(seed.Intn(5)-2)))
	for stream := range r.Next {
		r.Next[stream] = (65533 + int64(seed.Intn(5))) % 65536
	}
	for steps := int64(-seed.Intn(9)); steps <= 16; steps++ {
		tsn := stepsFrom(r.Cum, steps)
		if steps > 1 && seed.Intn(2) == 0 {
			r.Beyond = append(r.Beyond, tsn)
		}
		if steps < 1 || slices.Contains(r.Beyond, tsn) && seed.Intn(4) > 0 {
			r.Pieces = append(r.Pieces, anyPiece(seed, tsn))
		}
	}
	return r
}

func TestTakingDataInAnyState(t *testing.T) {
	t.Parallel()
	seed := rand.New(rand.NewSource(9))
	found := map[string]int{}
	for range 30000 {
		r := anyRecv(seed)
		d := anyPiece(seed, stepsFrom(r.Cum, int64(seed.Intn(20)-1)))
		if seed.Intn(3) == 0 {
			d.Tsn = stepsFrom(r.Cum, 1)
		}
		wantValid(t, r)
		got := wantTaken(t, r, d, takeElsewhere(r, d))
		if t.Failed() {
			return
		}
		if got.Code == impl.OK {
			wantValid(t, got.Recv)
		}
		found[fmt.Sprintf("code %d, twice %t", got.Code, got.Twice)]++
		found[fmt.Sprintf("%d messages", min(3, len(got.Messages)))]++
	}
	for _, name := range []string{"code 0, twice false", "code 0, twice true", "code 7, twice false", "0 messages", "1 messages", "2 messages", "3 messages"} {
		if found[name] < 100 {
			t.Errorf("%s: only %d times", name, found[name])
		}
	}
}

func TestWhereAPieceIsInserted(t *testing.T) {
	for _, cum := range []int64{20, 2, impl.MaxWord - 7, half - 5} {
		all := []int64{-3, -1, 0, 2, 4, 5, 9, 16}
		for choice := range 1 << len(all) {
			r := newRecv(cum)
			for i, steps := range all {
				if choice>>i&1 == 1 {
					r.Pieces = append(r.Pieces, middlePiece(stepsFrom(cum, steps)))
				}
				if choice>>i&1 == 1 && steps > 1 {
					r.Beyond = append(r.Beyond, stepsFrom(cum, steps))
				}
			}
			for distance := int64(1); distance <= 16; distance++ {
				d := middlePiece(stepsFrom(cum, distance))
				wantTaken(t, r, d, takeElsewhere(r, d))
			}
		}
	}
}

// wantInserted wants the other pieces in their order, and a receiver that is in order.
func wantInserted(t *testing.T, r impl.Recv, d impl.Data) {
	t.Helper()
	got := impl.TakeData(r, d)
	if got.Code != impl.OK || got.Twice || len(got.Messages) != 0 {
		t.Fatalf("TakeData(%+v, %+v) = %+v", r, d, got)
	}
	left := slices.DeleteFunc(copiedDatas(got.Recv.Pieces), func(p impl.Data) bool { return equalDatas(p, d) })
	if len(got.Recv.Pieces) != len(r.Pieces)+1 || !slices.EqualFunc(left, r.Pieces, equalDatas) {
		t.Errorf("TakeData(%+v, %+v) = %+v: other pieces are changed", r, d, got)
	}
	wantValid(t, got.Recv)
}

func TestPiecesThatAreFarBehind(t *testing.T) {
	// Far behind Cum, a piece may precede one in front of it, and be preceded by it, over
	// others. There may still be only one place where a new piece fits in.
	for _, cum := range []int64{50, impl.MaxWord - 3, half} {
		tried := 0
		from := stepsOf(cum, 0, 4, half, half+1, half+2, half+3, half+5, half+half/2, impl.MaxWord)
		for count := 1; count <= 4; count++ {
			eachList(from, count, nil, func(list []int64) {
				r := newRecv(cum)
				for _, tsn := range list {
					r.Pieces = append(r.Pieces, middlePiece(tsn))
				}
				r.Beyond = stepsOf(cum, 4)
				want := recvFaultElsewhere(r)
				if got := impl.RecvFault(r); got != want {
					t.Errorf("RecvFault(%+v) = %d, want %d", r, got, want)
				}
				for _, distance := range []int64{2, 3, 5} {
					d := middlePiece(stepsFrom(cum, distance))
					// A single piece half of all words away fits on neither side.
					if want == impl.OK && (count > 1 || gapElsewhere(d.Tsn, list[0]) != half) {
						wantInserted(t, r, d)
						tried++
					}
				}
			})
		}
		if tried < 1000 {
			t.Errorf("only %d pieces are inserted", tried)
		}
	}
}

// validRecv has something in every field.
func validRecv() impl.Recv {
	r := waiting(impl.MaxWord-5, 3, 4, 9, 16)
	r.Pieces = append(behind(r.Cum, 2), r.Pieces...)
	r.Next = []int64{1, 2, 3, 4, 5, 6, 65535, 0, 256, 9}
	return r
}

// newPiece arrives at the receiver above for the first time.
func newPiece() impl.Data {
	return impl.Data{Tsn: impl.MaxWord - 3, Stream: 5, Seq: 900, Last: true, Piece: []byte{1, 2, 3}}
}

func TestReceiversInOrder(t *testing.T) {
	wantValid(t, validRecv())
	for _, cum := range someWords() {
		wantValid(t, newRecv(cum))
		for distance := int64(2); distance <= 16; distance++ {
			wantValid(t, waiting(cum, distance))
			for more := distance + 1; more <= 16; more++ {
				wantValid(t, waiting(cum, distance, more))
			}
		}
		wantValid(t, waiting(cum, 2, 3, 4, 5, 6, 7, 8, 9, 10, 11, 12, 13, 14, 15, 16))
		for _, distance := range []int64{0, impl.MaxWord, impl.MaxWord - 1, half + 1, half} {
			r := newRecv(cum)
			r.Pieces = []impl.Data{middlePiece(stepsFrom(cum, distance))}
			wantValid(t, r)
		}
		for _, count := range []int{1, 2, 63, 64} {
			r := newRecv(cum)
			r.Pieces = behind(cum, count)
			wantValid(t, r)
		}
	}
	for stream := range 10 {
		for _, seq := range []int64{0, 1, 255, 256, 65534, 65535} {
			r := validRecv()
			r.Next[stream] = seq
			wantValid(t, r)
		}
	}
	for _, d := range someDatas() {
		r := newRecv(d.Tsn)
		r.Pieces = []impl.Data{d}
		wantValid(t, r)
	}
}

func TestReceiversWithAFault(t *testing.T) {
	for _, cum := range noWords() {
		wantRecvFault(t, newRecv(cum), impl.ErrRange)
		wantRecvFault(t, impl.Recv{Cum: cum}, impl.ErrRange)
	}
	for _, cum := range append(someWords(), impl.MaxWord-20) {
		r := newRecv(cum)
		for _, distance := range []int64{0, 1, 17, 18, 256 + 2, 65536 + 2, half - 1, half, half + 2, impl.MaxWord} {
			for _, others := range [][]int64{nil, {2}, {2, 15}} {
				r.Beyond = append(stepsOf(cum, others...), stepsFrom(cum, distance))
				wantRecvFault(t, r, impl.ErrForm)
			}
			r.Beyond = append(stepsOf(cum, distance), stepsOf(cum, 16)...)
			wantRecvFault(t, r, impl.ErrForm)
		}
		for a := int64(2); a <= 16; a++ {
			for b := int64(2); b <= a; b++ {
				r.Beyond = stepsOf(cum, a, b)
				wantRecvFault(t, r, impl.ErrForm)
			}
		}
		for _, tsn := range noWords() {
			r.Beyond = []int64{tsn}
			wantRecvFault(t, r, impl.ErrRange)
			r.Beyond = append(stepsOf(cum, 2, 3), tsn)
			wantRecvFault(t, r, impl.ErrRange)
		}
		// The low bits of these are those of a TSN in order.
		for _, more := range []int64{allNumbers, -allNumbers, 1 << 40} {
			r.Beyond = []int64{stepsFrom(cum, 2) + more}
			wantRecvFault(t, r, impl.ErrRange)
		}
	}
}

func TestCountsOfReceivers(t *testing.T) {
	for _, count := range []int{17, 18, 32, 100, 256, 257, 65536} {
		r := newRecv(5)
		r.Beyond = make([]int64, count)
		wantRecvFault(t, r, impl.ErrMany)
	}
	// So many are not too many, but they cannot be in order: there are 15 distances.
	r := newRecv(5)
	r.Beyond = stepsOf(5, 1, 2, 3, 4, 5, 6, 7, 8, 9, 10, 11, 12, 13, 14, 15, 16)
	wantRecvFault(t, r, impl.ErrForm)
	r.Beyond = stepsOf(5, 2, 3, 4, 5, 6, 7, 8, 9, 10, 11, 12, 13, 14, 15, 16, 17)
	wantRecvFault(t, r, impl.ErrForm)
	r.Beyond = append(r.Beyond[:15], -1)
	wantRecvFault(t, r, impl.ErrRange)
	for _, count := range []int{65, 66, 128, 256, 300, 65536} {
		r := newRecv(500)
		r.Pieces = behind(500, count)
		wantRecvFault(t, r, impl.ErrMany)
		r.Pieces = make([]impl.Data, count)
		wantRecvFault(t, r, impl.ErrMany)
	}
	for _, count := range []int{0, 1, 9, 11, 12, 20, 256, 266, 65546} {
		r := newRecv(5)
		r.Next = make([]int64, count)
		wantRecvFault(t, r, impl.ErrMany)
		// Numbers behind the list do not count.
		r.Next = make([]int64, count, count+10)
		wantRecvFault(t, r, impl.ErrMany)
	}
	wantRecvFault(t, impl.Recv{}, impl.ErrMany)
	wantRecvFault(t, impl.Recv{Next: []int64{}}, impl.ErrMany)
}

func TestPiecesOfAFaultyReceiver(t *testing.T) {
	for _, cum := range someWords() {
		for _, distance := range []int64{1, 2, 8, 15, 16, 17, 18, 256, 65536, half - 2, half - 1} {
			r := newRecv(cum)
			r.Pieces = []impl.Data{middlePiece(stepsFrom(cum, distance))}
			wantRecvFault(t, r, impl.ErrState)
			r.Pieces = append(behind(cum, 3), r.Pieces...)
			wantRecvFault(t, r, impl.ErrState)
			// Others are beyond Cum, but this one is not among them.
			r = waiting(cum, 3, 9)
			r.Pieces = []impl.Data{middlePiece(stepsFrom(cum, distance))}
			wantRecvFault(t, r, impl.ErrState)
		}
		for _, step := range []int64{0, -1, -2, half, half + 1} {
			r := newRecv(cum)
			r.Pieces = []impl.Data{middlePiece(cum), middlePiece(stepsFrom(cum, step))}
			wantRecvFault(t, r, impl.ErrForm)
			r.Pieces = append(behind(cum, 4), middlePiece(stepsFrom(cum, step)))
			wantRecvFault(t, r, impl.ErrForm)
		}
		r := waiting(cum, 2, 3)
		r.Pieces[0], r.Pieces[1] = r.Pieces[1], r.Pieces[0]
		wantRecvFault(t, r, impl.ErrForm)
		r.Pieces[0] = r.Pieces[1]
		wantRecvFault(t, r, impl.ErrForm)
	}
	// A piece is checked whole before the next one, and all of them before Next.
	codes := []int64{impl.ErrRange, impl.ErrState, impl.ErrForm}
	wrong := []impl.Data{{Tsn: 10, Stream: 10, Piece: []byte{1}}, {Tsn: 12, Piece: []byte{1}}, {Tsn: 9, Piece: []byte{1}}}
	for first, code := range codes {
		for _, second := range wrong {
			r := newRecv(10)
			r.Pieces = []impl.Data{middlePiece(10), wrong[first], second}
			r.Next[9] = -1
			wantRecvFault(t, r, code)
		}
	}
	// This one is not behind the other, and it is not beyond Cum either.
	r := waiting(10, 3, 9)
	r.Pieces[1].Tsn = 12
	wantRecvFault(t, r, impl.ErrForm)
	r.Pieces[1].Stream = 10
	wantRecvFault(t, r, impl.ErrRange)
}

// recvBreaches make the receiver above faulty, from some rank on.
func recvBreaches[T any](recv func(v *T) *impl.Recv) []breach[T] {
	place := func(at int) func(v *T) *int64 {
		return func(v *T) *int64 {
			if r := recv(v); at < len(r.Beyond) {
				return &r.Beyond[at]
			}
			return new(int64)
		}
	}
	change := func(rank int, code int64, make func(r *impl.Recv)) breach[T] {
		return breach[T]{rank, code, func(v *T) { make(recv(v)) }}
	}
	all := numberBreaches(1, impl.ErrRange, func(v *T) *int64 { return &recv(v).Cum }, noWords()...)
	all = append(all,
		change(2, impl.ErrMany, func(r *impl.Recv) {
			r.Beyond = append(r.Beyond, stepsOf(r.Cum, 1, 2, 3, 4, 5, 6, 7, 8, 9, 10, 11, 12, 13)...)
		}),
		change(2, impl.ErrMany, func(r *impl.Recv) { r.Pieces = append(r.Pieces, behind(r.Cum, 59)...) }),
		change(2, impl.ErrMany, func(r *impl.Recv) { r.Next = append(r.Next, 0) }),
		change(2, impl.ErrMany, func(r *impl.Recv) { r.Next = r.Next[:min(9, len(r.Next))] }),
		change(2, impl.ErrMany, func(r *impl.Recv) { r.Next = nil }))
	for _, at := range []int{0, 1, 3} {
		all = append(all, numberBreaches(10+at, impl.ErrRange, place(at), noWords()...)...)
		// A number that is no word is another fault, of the same place.
		all = append(all, numberBreaches(10+at, impl.ErrForm, place(at), stepsOf(impl.MaxWord-5, 0, 1, 17, half, impl.MaxWord)...)...)
	}
	all = append(all, numberBreaches(11, impl.ErrForm, place(1), stepsOf(impl.MaxWord-5, 2, 3)...)...)
	return all
}

// recvPieceBreaches make a piece or a Seq of it faulty, each later than those above.
func recvPieceBreaches[T any](recv func(v *T) *impl.Recv) []breach[T] {
	var all []breach[T]
	for _, at := range []int{0, 2, 5} {
		piece := func(v *T) *impl.Data {
			return pieceAt(&recv(v).Pieces, at)
		}
		all = append(all, dataBreaches(20+10*at, piece)...)
		// Where the piece is faulty already, its TSN stays.
		move := func(rank int, code int64, steps int64) breach[T] {
			return breach[T]{rank, code, func(v *T) {
				if d := piece(v); dataFaultElsewhere(*d) == impl.OK {
					d.Tsn = stepsFrom(impl.MaxWord-5, steps)
				}
			}}
		}
		if at > 0 {
			all = append(all, move(25+10*at, impl.ErrForm, -1), move(25+10*at, impl.ErrForm, -7))
		}
		all = append(all, move(25+10*at, impl.ErrState, 17), move(25+10*at, impl.ErrState, half-10))
	}
	for _, stream := range []int{0, 4, 9} {
		all = append(all, numberBreaches(200, impl.ErrRange, func(v *T) *int64 {
			if r := recv(v); stream < len(r.Next) {
				return &r.Next[stream]
			}
			return new(int64)
		}, notFrom(0, 65535)...)...)
	}
	return all
}

func TestOfTwoFaultsOfAReceiverTheFirstCounts(t *testing.T) {
	same := func(v *impl.Recv) *impl.Recv { return v }
	all := append(recvBreaches(same), recvPieceBreaches(same)...)
	eachBreach(validRecv, all, func(r impl.Recv, code int64) {
		t.Helper()
		if got := impl.RecvFault(r); got != code || recvFaultElsewhere(r) != code {
			t.Errorf("RecvFault(%+v) = %d, and elsewhere %d, want %d", r, got, recvFaultElsewhere(r), code)
		}
	})
	for _, b := range all {
		r := validRecv()
		b.make(&r)
		wantRecvFault(t, r, b.code)
	}
}

// takeCase are the arguments of a piece that arrives.
type takeCase struct {
	recv impl.Recv
	data impl.Data
}

func TestOfTwoFaultsOfAnArrivalTheFirstCounts(t *testing.T) {
	valid := func() takeCase {
		return takeCase{validRecv(), newPiece()}
	}
	wantTaken(t, valid().recv, valid().data, takeElsewhere(valid().recv, valid().data))
	recv := func(c *takeCase) *impl.Recv { return &c.recv }
	data := func(c *takeCase) *impl.Data { return &c.data }
	all := slices.Concat(recvBreaches(recv), numberBreaches(200, impl.ErrRange, func(c *takeCase) *int64 { return &c.recv.Next[len(c.recv.Next)-1] }, -1, 65536))
	all = slices.DeleteFunc(all, func(b breach[takeCase]) bool {
		v := valid()
		b.make(&v)
		return len(v.recv.Next) == 0
	})
	all = append(all, dataBreaches(300, data)...)
	for _, steps := range []int64{17, 18, half - 1} {
		all = append(all, breach[takeCase]{400, impl.ErrFull, func(c *takeCase) {
			if dataFaultElsewhere(c.data) == impl.OK {
				c.data.Tsn = stepsFrom(impl.MaxWord-5, steps)
			}
		}})
	}
	eachBreach(valid, all, func(c takeCase, code int64) {
		t.Helper()
		if got := impl.TakeData(c.recv, c.data); !equalTakes(got, impl.RecvResult{Code: code}) {
			t.Errorf("TakeData(%+v, %+v) = %+v, want the code %d and nothing else", c.recv, c.data, got, code)
		}
	})
}

func TestFaultyPiecesThatArrivedOrFindNoRoom(t *testing.T) {
	full := newRecv(70)
	full.Pieces = behind(70, 64)
	for _, b := range dataBreaches(1, func(d *impl.Data) *impl.Data { return d }) {
		for _, tsn := range []int64{70, 71, 72, 90, 5} {
			for _, r := range []impl.Recv{newRecv(70), waiting(70, 2, 5), full} {
				d := newPiece()
				d.Tsn = tsn
				b.make(&d)
				wantNotTaken(t, r, d, b.code)
			}
		}
	}
}

func TestFaultsOfAllSmallReceivers(t *testing.T) {
	var pieces []impl.Data
	for _, steps := range []int64{-1, 0, 1, 2, 3, half} {
		pieces = append(pieces, middlePiece(stepsFrom(impl.MaxWord, steps)))
	}
	pieces = append(pieces, impl.Data{Tsn: impl.MaxWord}, impl.Data{Tsn: impl.MaxWord, Stream: 10, Piece: []byte{1}})
	found := map[int64]int{}
	for count := range 4 {
		eachList(pieces, count, nil, func(list []impl.Data) {
			for size := range 3 {
				eachList([]int64{-1, impl.MaxWord, 0, 1, 2, 15, 16, 4294967297}, size, nil, func(beyond []int64) {
					for _, next := range []int64{0, 65536} {
						r := newRecv(impl.MaxWord)
						r.Beyond, r.Pieces, r.Next[3] = beyond, list, next
						want := recvFaultElsewhere(r)
						if got := impl.RecvFault(r); got != want {
							t.Errorf("RecvFault(%+v) = %d, want %d", r, got, want)
						}
						found[want]++
					}
				})
			}
		})
	}
	for _, code := range []int64{impl.OK, impl.ErrRange, impl.ErrMany, impl.ErrForm, impl.ErrState} {
		if found[code] < 100 {
			t.Errorf("only %d receivers have the code %d", found[code], code)
		}
	}
}

// changedRecvs are a receiver and others that differ from it in one field, a length or
// an order.
func changedRecvs(r impl.Recv) []impl.Recv {
	list := []impl.Recv{copiedRecv(r)}
	change := func(make func(own *impl.Recv)) {
		own := copiedRecv(r)
		make(&own)
		list = append(list, own)
	}
	change(func(own *impl.Recv) { own.Cum++ })
	change(func(own *impl.Recv) { own.Cum += allNumbers })
	change(func(own *impl.Recv) { own.Beyond = append(own.Beyond, 7) })
	change(func(own *impl.Recv) { own.Next = append(own.Next, 7) })
	change(func(own *impl.Recv) { own.Pieces = append(own.Pieces, middlePiece(7)) })
	for i := range r.Beyond {
		change(func(own *impl.Recv) { own.Beyond[i] += 256 })
		change(func(own *impl.Recv) { own.Beyond = slices.Delete(own.Beyond, i, i+1) })
	}
	for i := range r.Next {
		change(func(own *impl.Recv) { own.Next[i] += 65536 })
		change(func(own *impl.Recv) { own.Next = slices.Delete(own.Next, i, i+1) })
	}
	for i, d := range r.Pieces {
		for _, other := range changedFields(d)[1:] {
			change(func(own *impl.Recv) { own.Pieces[i] = other })
		}
		change(func(own *impl.Recv) { own.Pieces = slices.Delete(own.Pieces, i, i+1) })
	}
	change(func(own *impl.Recv) { slices.Reverse(own.Beyond) })
	change(func(own *impl.Recv) { slices.Reverse(own.Pieces) })
	change(func(own *impl.Recv) { slices.Reverse(own.Next) })
	change(func(own *impl.Recv) { own.Beyond, own.Next = own.Next, own.Beyond })
	return list
}

func wantSameRecvs(t *testing.T, a impl.Recv, b impl.Recv, want bool) {
	t.Helper()
	if impl.SameRecvs(a, b) != want || impl.SameRecvs(b, a) != want {
		t.Errorf("SameRecvs(%+v, %+v) = %t, or in the other order %t, want %t", a, b, impl.SameRecvs(a, b), impl.SameRecvs(b, a), want)
	}
}

func TestComparingReceivers(t *testing.T) {
	t.Parallel()
	faulty := impl.Recv{Cum: -1, Beyond: []int64{-5, 3}, Pieces: anyDatas(), Next: []int64{70000, 1, 2}}
	for _, r := range []impl.Recv{validRecv(), newRecv(7), faulty, {}} {
		for i, a := range changedRecvs(r) {
			for j, b := range changedRecvs(r) {
				wantSameRecvs(t, a, b, i == j || equalRecvs(a, b))
			}
			if i > 0 && len(r.Beyond) > 1 {
				wantSameRecvs(t, a, r, false)
			}
		}
		wantSameRecvs(t, r, copiedRecv(r), true)
	}
	wantSameRecvs(t, impl.Recv{}, impl.Recv{Beyond: []int64{}, Pieces: []impl.Data{}, Next: []int64{}}, true)
	wantSameRecvs(t, impl.Recv{Pieces: []impl.Data{{}}}, impl.Recv{Pieces: []impl.Data{{Piece: []byte{}}}}, true)
}

func TestReceivingWhatTravelsInPackets(t *testing.T) {
	// Pieces and acknowledgements are packed and read on their way.
	for i, m := range someMessages() {
		if len(m.Bytes) > 60*7 {
			continue
		}
		r := impl.NewRecv(int64(i)).Recv
		for _, d := range impl.CutMessage(m, 7, int64(i)+1, 0).Datas {
			packed := impl.PackPacket(impl.Packet{Tag: 1, Chunks: []impl.Chunk{impl.PackData(d).Chunk}})
			read := impl.ReadData(impl.ReadPacket(packed.Bytes).Packet.Chunks[0])
			got := impl.TakeData(r, read.Data)
			if got.Code != impl.OK || len(got.Messages) == 1 != d.Last || d.Last && !equalMessages(got.Messages[0], m) {
				t.Errorf("piece %+v of %+v: %+v", d, m, got)
			}
			r = got.Recv
			sack := impl.ReadSack(impl.PackSack(impl.SackOf(r).Sack).Chunk)
			if sack.Code != impl.OK || sack.Sack.Cum != d.Tsn {
				t.Errorf("after %+v, the acknowledgement is %+v", d, sack)
			}
		}
	}
}
