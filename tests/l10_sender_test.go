package tests

import (
	"fmt"
	"math/rand"
	"slices"
	"testing"

	"loop.example/g00670/impl"
)

// Promise 11: pushed pieces are appended with consecutive TSNs; sent pieces were due and
// then wait; acknowledged pieces are removed, all others stay, and old acknowledgements
// change nothing.

func copiedSend(s impl.Send) impl.Send {
	own := impl.Send{Next: s.Next, Acked: s.Acked, Seqs: slices.Clone(s.Seqs), Items: slices.Clone(s.Items)}
	for i := range own.Items {
		own.Items[i].Data = copiedDatas([]impl.Data{own.Items[i].Data})[0]
	}
	return own
}

func equalItems(a impl.SendItem, b impl.SendItem) bool {
	return a.Sent == b.Sent && a.Due == b.Due && equalDatas(a.Data, b.Data)
}

func equalSends(a impl.Send, b impl.Send) bool {
	return a.Next == b.Next && a.Acked == b.Acked && slices.Equal(a.Seqs, b.Seqs) && slices.EqualFunc(a.Items, b.Items, equalItems)
}

func equalSendResults(a impl.SendResult, b impl.SendResult) bool {
	return a.Code == b.Code && a.Old == b.Old && equalSends(a.Send, b.Send) && slices.EqualFunc(a.Datas, b.Datas, equalDatas)
}

func isWordElsewhere(n int64) bool {
	return n == int64(uint32(n))
}

func itemFaultElsewhere(item impl.SendItem) int64 {
	if code := dataFaultElsewhere(item.Data); code != impl.OK {
		return code
	}
	if min(item.Sent, item.Due) < 0 || item.Sent > 99 || item.Due > 1000000000 {
		return impl.ErrRange
	}
	return impl.OK
}

func sendFaultElsewhere(s impl.Send) int64 {
	if !isWordElsewhere(s.Next) || !isWordElsewhere(s.Acked) {
		return impl.ErrRange
	}
	if len(s.Items) > 40 || len(s.Seqs) != 10 {
		return impl.ErrMany
	}
	end := gapElsewhere(s.Acked, s.Next)
	if end == 0 || end > 1000 {
		return impl.ErrForm
	}
	for i, item := range s.Items {
		if code := itemFaultElsewhere(item); code != impl.OK {
			return code
		}
		gap := gapElsewhere(s.Acked, item.Data.Tsn)
		if gap == 0 || gap >= end || i > 0 && gap <= gapElsewhere(s.Acked, s.Items[i-1].Data.Tsn) {
			return impl.ErrForm
		}
	}
	if slices.ContainsFunc(s.Seqs, func(seq int64) bool { return seq != int64(uint16(seq)) }) {
		return impl.ErrRange
	}
	return impl.OK
}

func cutFaultElsewhere(c cutCase) int64 {
	switch {
	case c.message.Stream < 0 || c.message.Stream > 9:
		return impl.ErrRange
	case len(c.message.Bytes) < 1 || len(c.message.Bytes) > 400:
		return impl.ErrMany
	case c.size < 4 || c.size > 100:
		return impl.ErrRange
	}
	return impl.OK
}

func pushElsewhere(s impl.Send, m impl.Message, size int64) impl.SendResult {
	c := cutCase{message: m, size: size, tsn: s.Next}
	for _, code := range []int64{sendFaultElsewhere(s), cutFaultElsewhere(c)} {
		if code != impl.OK {
			return impl.SendResult{Code: code}
		}
	}
	if !m.Unordered {
		c.seq = s.Seqs[m.Stream]
	}
	pieces := cutElsewhere(c)
	own := copiedSend(s)
	own.Next = stepsFrom(s.Next, int64(len(pieces)))
	if !m.Unordered {
		own.Seqs[m.Stream] = int64(uint16(c.seq + 1))
	}
	for _, d := range pieces {
		own.Items = append(own.Items, impl.SendItem{Data: d})
	}
	if len(own.Items) > 40 || gapElsewhere(s.Acked, own.Next) > 1000 {
		return impl.SendResult{Code: impl.ErrFull}
	}
	return impl.SendResult{Send: own, Datas: pieces}
}

// emitElsewhere marks all items that may be sent, and then sends the first of them.
func emitElsewhere(s impl.Send, now int64, rto int64, most int64) impl.SendResult {
	if code := sendFaultElsewhere(s); code != impl.OK {
		return impl.SendResult{Code: code}
	}
	if now < 0 || now > 1000000000 || rto < 1 || rto > 1000000 || most < 0 || most > 40 {
		return impl.SendResult{Code: impl.ErrRange}
	}
	var places []int
	for i, item := range s.Items {
		inWindow := gapElsewhere(s.Acked, item.Data.Tsn) < 17
		if inWindow && (item.Sent == 0 || now >= item.Due) {
			places = append(places, i)
		}
	}
	want := impl.SendResult{Send: copiedSend(s)}
	for _, place := range places[:min(most, int64(len(places)))] {
		item := want.Send.Items[place]
		want.Datas = append(want.Datas, item.Data)
		if item.Sent < 99 {
			item.Sent++
		}
		item.Due = now + rto
		if item.Due > 1000000000 {
			item.Due = 1000000000
		}
		want.Send.Items[place] = item
	}
	return want
}

func sackFaultElsewhere(k impl.Sack) int64 {
	if !isWordElsewhere(k.Cum) {
		return impl.ErrRange
	}
	if len(k.Gaps) > 20 {
		return impl.ErrMany
	}
	for i, g := range k.Gaps {
		if g.From < 2 || g.To < g.From || g.To > 65535 || i > 0 && g.From < k.Gaps[i-1].To+2 {
			return impl.ErrForm
		}
	}
	return impl.OK
}

// ackElsewhere lists every TSN that arrived.
func ackElsewhere(s impl.Send, k impl.Sack) impl.SendResult {
	for _, code := range []int64{sendFaultElsewhere(s), sackFaultElsewhere(k)} {
		if code != impl.OK {
			return impl.SendResult{Code: code}
		}
	}
	passed, end := gapElsewhere(s.Acked, k.Cum), gapElsewhere(s.Acked, s.Next)
	if passed >= half {
		return impl.SendResult{Send: s, Old: true}
	}
	last := passed
	for _, g := range k.Gaps {
		last = passed + g.To
	}
	if passed >= end || last >= end {
		return impl.SendResult{Code: impl.ErrState}
	}
	arrived := map[int64]bool{}
	for step := int64(1); step <= passed; step++ {
		arrived[stepsFrom(s.Acked, step)] = true
	}
	for _, g := range k.Gaps {
		for step := g.From; step <= g.To; step++ {
			arrived[stepsFrom(k.Cum, step)] = true
		}
	}
	want := impl.SendResult{Send: impl.Send{Next: s.Next, Acked: k.Cum, Seqs: s.Seqs}}
	for _, item := range s.Items {
		if arrived[item.Data.Tsn] {
			want.Datas = append(want.Datas, item.Data)
		} else {
			want.Send.Items = append(want.Send.Items, item)
		}
	}
	return want
}

// wantSent compares a result. A sender in it must be in order.
func wantSent(t *testing.T, s impl.Send, got impl.SendResult, want impl.SendResult, call string, args ...any) {
	t.Helper()
	if !equalSendResults(got, want) {
		t.Errorf("%s(%+v, %+v) = %+v, want %+v", call, s, args, got, want)
	}
	if want.Code != impl.OK {
		return
	}
	if code := impl.SendFault(got.Send); code != impl.OK {
		t.Errorf("%s(%+v, %+v) = %+v, whose fault is %d", call, s, args, got, code)
	}
	if left := impl.LeftIn(got.Send); left != (impl.IntResult{Value: int64(len(want.Send.Items))}) {
		t.Errorf("LeftIn(%+v) = %+v, want %d", got.Send, left, len(want.Send.Items))
	}
	if !impl.SameSends(got.Send, want.Send) {
		t.Errorf("SameSends(%+v, %+v) = false", got.Send, want.Send)
	}
}

// wantPushed returns the sender after the message.
func wantPushed(t *testing.T, s impl.Send, m impl.Message, size int64, want impl.SendResult) impl.Send {
	t.Helper()
	got := impl.PushMessage(s, m, size)
	wantSent(t, s, got, want, "PushMessage", m, size)
	return got.Send
}

func wantEmitted(t *testing.T, s impl.Send, now int64, rto int64, most int64, want impl.SendResult) impl.Send {
	t.Helper()
	got := impl.EmitDatas(s, now, rto, most)
	wantSent(t, s, got, want, "EmitDatas", now, rto, most)
	return got.Send
}

func wantAcked(t *testing.T, s impl.Send, k impl.Sack, want impl.SendResult) impl.Send {
	t.Helper()
	got := impl.TakeSack(s, k)
	wantSent(t, s, got, want, "TakeSack", k)
	return got.Send
}

// wantOld wants the acknowledgement to change nothing.
func wantOld(t *testing.T, s impl.Send, k impl.Sack) {
	t.Helper()
	wantAcked(t, s, k, impl.SendResult{Send: s, Old: true})
}

func wantNotAcked(t *testing.T, s impl.Send, k impl.Sack, code int64) {
	t.Helper()
	wantAcked(t, s, k, impl.SendResult{Code: code})
}

// wantSendFault also wants that nothing else is done with a faulty sender.
func wantSendFault(t *testing.T, s impl.Send, want int64) {
	t.Helper()
	if got := impl.SendFault(s); got != want {
		t.Errorf("SendFault(%+v) = %d, want %d", s, got, want)
	}
	if want == impl.OK {
		if left := impl.LeftIn(s); left != (impl.IntResult{Value: int64(len(s.Items))}) {
			t.Errorf("LeftIn(%+v) = %+v, want %d", s, left, len(s.Items))
		}
		return
	}
	if left := impl.LeftIn(s); left != (impl.IntResult{Code: want}) {
		t.Errorf("LeftIn(%+v) = %+v, want the code %d and the value 0", s, left, want)
	}
	refused := impl.SendResult{Code: want}
	wantPushed(t, s, messageOf(1, 5), 4, refused)
	wantPushed(t, s, impl.Message{Stream: 10}, 3, refused)
	wantEmitted(t, s, 5, 300, 40, refused)
	wantEmitted(t, s, -1, 0, 41, refused)
	wantAcked(t, s, impl.Sack{Cum: s.Acked}, refused)
	wantAcked(t, s, impl.Sack{Cum: stepsFrom(s.Acked, -1)}, refused)
	wantAcked(t, s, impl.Sack{Cum: -1, Gaps: []impl.Gap{{}}}, refused)
}

func newSend(tsn int64) impl.Send {
	return impl.Send{Next: tsn, Acked: stepsFrom(tsn, -1), Seqs: make([]int64, 10)}
}

// freshItem was never sent.
func freshItem(tsn int64) impl.SendItem {
	return impl.SendItem{Data: wholePiece(tsn, tsn%7)}
}

// spreadSend has items at some distances from Acked. Those between were acknowledged.
func spreadSend(acked int64, next int64, distances ...int64) impl.Send {
	s := newSend(stepsFrom(acked, next))
	s.Acked = acked
	for _, distance := range distances {
		s.Items = append(s.Items, freshItem(stepsFrom(acked, distance)))
	}
	return s
}

// oneTo are the distances of items that nothing is missing between.
func oneTo(last int64) []int64 {
	var list []int64
	for distance := int64(1); distance <= last; distance++ {
		list = append(list, distance)
	}
	return list
}

// datasOf are the pieces of the items at some places.
func datasOf(s impl.Send, places ...int) []impl.Data {
	var list []impl.Data
	for _, place := range places {
		list = append(list, s.Items[place].Data)
	}
	return list
}

// without is the sender after the items at some places arrived.
func without(s impl.Send, acked int64, places ...int) impl.Send {
	own := impl.Send{Next: s.Next, Acked: acked, Seqs: s.Seqs}
	for place, item := range s.Items {
		if !slices.Contains(places, place) {
			own.Items = append(own.Items, item)
		}
	}
	return own
}

func TestLimitsOfSenders(t *testing.T) {
	if impl.MaxItems != 40 || impl.MaxSpan != 1000 || impl.MaxTime != 1000000000 || impl.MaxTries != 99 {
		t.Errorf("the limits are %d, %d, %d and %d", impl.MaxItems, impl.MaxSpan, impl.MaxTime, impl.MaxTries)
	}
}

func TestNewSenders(t *testing.T) {
	for _, tsn := range someWords() {
		want := impl.Send{Next: tsn, Acked: tsn - 1, Seqs: []int64{0, 0, 0, 0, 0, 0, 0, 0, 0, 0}}
		if tsn == 0 {
			want.Acked = impl.MaxWord
		}
		if got := impl.NewSend(tsn); !equalSendResults(got, impl.SendResult{Send: want}) {
			t.Errorf("NewSend(%d) = %+v", tsn, got)
		}
		wantSendFault(t, want, impl.OK)
	}
	for _, tsn := range noWords() {
		if got := impl.NewSend(tsn); !equalSendResults(got, impl.SendResult{Code: impl.ErrRange}) {
			t.Errorf("NewSend(%d) = %+v, want ErrRange and nothing else", tsn, got)
		}
	}
}

func TestAKnownSender(t *testing.T) {
	eight, one := impl.Message{Bytes: []byte("abcdefgh")}, impl.Message{Bytes: []byte("z")}
	items := []impl.SendItem{
		{Data: impl.Data{Tsn: 0, First: true, Piece: []byte("abcd")}},
		{Data: impl.Data{Tsn: 1, Last: true, Piece: []byte("efgh")}},
		{Data: impl.Data{Tsn: 2, Seq: 1, First: true, Last: true, Piece: []byte("z")}},
	}
	datas := []impl.Data{items[0].Data, items[1].Data, items[2].Data}
	wantSend := func(acked int64, seq int64, next int64, list ...impl.SendItem) impl.Send {
		return impl.Send{Next: next, Acked: acked, Seqs: []int64{seq, 0, 0, 0, 0, 0, 0, 0, 0, 0}, Items: list}
	}
	s := impl.NewSend(0).Send
	s = wantPushed(t, s, eight, 4, impl.SendResult{Send: wantSend(impl.MaxWord, 1, 2, items[:2]...), Datas: datas[:2]})
	s = wantPushed(t, s, one, 4, impl.SendResult{Send: wantSend(impl.MaxWord, 2, 3, items...), Datas: datas[2:]})
	items[0].Sent, items[0].Due, items[1].Sent, items[1].Due = 1, 300, 1, 300
	s = wantEmitted(t, s, 0, 300, 2, impl.SendResult{Send: wantSend(impl.MaxWord, 2, 3, items...), Datas: datas[:2]})
	items[2].Sent, items[2].Due = 1, 400
	s = wantEmitted(t, s, 100, 300, 40, impl.SendResult{Send: wantSend(impl.MaxWord, 2, 3, items...), Datas: datas[2:]})
	s = wantEmitted(t, s, 299, 300, 40, impl.SendResult{Send: wantSend(impl.MaxWord, 2, 3, items...)})
	items[0].Sent, items[0].Due, items[1].Sent, items[1].Due = 2, 600, 2, 600
	s = wantEmitted(t, s, 300, 300, 40, impl.SendResult{Send: wantSend(impl.MaxWord, 2, 3, items...), Datas: datas[:2]})
	known := impl.Sack{Cum: 0, Gaps: []impl.Gap{{From: 2, To: 2}}}
	s = wantAcked(t, s, known, impl.SendResult{Send: wantSend(0, 2, 3, items[1]), Datas: []impl.Data{datas[0], datas[2]}})
	s = wantAcked(t, s, known, impl.SendResult{Send: wantSend(0, 2, 3, items[1])})
	wantOld(t, s, impl.Sack{Cum: impl.MaxWord})
	wantNotAcked(t, s, impl.Sack{Cum: 3}, impl.ErrState)
	wantAcked(t, s, impl.Sack{Cum: 2}, impl.SendResult{Send: wantSend(2, 2, 3), Datas: datas[1:2]})
}

func TestPushingMessagesOneBehindAnother(t *testing.T) {
	for i, tsn := range append(someWords(), impl.MaxWord-20) {
		s := newSend(tsn)
		seqs := make([]int64, 10)
		for j, m := range someMessages() {
			size := []int64{4, 100, 9, 50, 33}[(i+j)%5]
			want := pushElsewhere(s, m, size)
			if want.Code == impl.ErrFull {
				// All pieces arrive, so that there is room again.
				s = wantAcked(t, s, impl.Sack{Cum: stepsFrom(s.Next, -1)}, impl.SendResult{Send: without(s, stepsFrom(s.Next, -1), inOrder(len(s.Items))...), Datas: datasOf(s, inOrder(len(s.Items))...)})
				size = 100
				want = pushElsewhere(s, m, size)
			}
			before := s
			s = wantPushed(t, s, m, size, want)
			if !m.Unordered {
				seqs[m.Stream]++
			}
			if !slices.Equal(s.Seqs, seqs) || s.Acked != before.Acked {
				t.Errorf("after %+v, %+v has become %+v", m, before, s)
			}
			// The pieces make up the message, and they are the last items.
			wantJoined(t, want.Datas, m)
			for k, d := range want.Datas {
				item := s.Items[len(s.Items)-len(want.Datas)+k]
				if item.Sent != 0 || item.Due != 0 || !equalDatas(item.Data, d) || d.Tsn != stepsFrom(before.Next, int64(k)) {
					t.Errorf("%+v is piece %d of %+v, behind %+v", item, k, m, before)
				}
			}
			if s.Next != stepsFrom(before.Next, int64(len(want.Datas))) {
				t.Errorf("Next is %d after %d and %d pieces", s.Next, before.Next, len(want.Datas))
			}
		}
	}
}

func TestSeqsOfPushedMessages(t *testing.T) {
	for stream := range int64(10) {
		for _, seq := range []int64{0, 1, 255, 256, 32767, 32768, 65534, 65535} {
			s := spreadSend(70, 8, 2, 5)
			for i := range s.Seqs {
				s.Seqs[i] = 400 + int64(i)
			}
			s.Seqs[stream] = seq
			m := messageOf(stream, 9)
			want := copiedSend(s)
			want.Next = 81
			pieces := []impl.Data{
				{Tsn: 78, Stream: stream, Seq: seq, First: true, Piece: m.Bytes[:4]},
				{Tsn: 79, Stream: stream, Seq: seq, Piece: m.Bytes[4:8]},
				{Tsn: 80, Stream: stream, Seq: seq, Last: true, Piece: m.Bytes[8:]},
			}
			for _, d := range pieces {
				want.Items = append(want.Items, impl.SendItem{Data: d})
			}
			want.Seqs[stream] = seq + 1
			if seq == 65535 {
				want.Seqs[stream] = 0
			}
			wantPushed(t, s, m, 4, impl.SendResult{Send: want, Datas: pieces})
			// An unordered message has the Seq 0 and leaves those of the streams.
			m.Unordered = true
			want.Seqs[stream] = seq
			for i := range pieces {
				pieces[i].Seq, pieces[i].Unordered = 0, true
				want.Items[2+i].Data = pieces[i]
			}
			wantPushed(t, s, m, 4, impl.SendResult{Send: want, Datas: pieces})
		}
	}
}

func TestAllSeqsOfAStream(t *testing.T) {
	t.Parallel()
	s := newSend(impl.MaxWord - 100)
	m := impl.Message{Stream: 7, Bytes: []byte{1}}
	for i := range int64(65536 + 3) {
		got := impl.PushMessage(s, m, 4)
		if got.Code != impl.OK || got.Datas[0].Seq != i%65536 || got.Send.Seqs[7] != (i+1)%65536 || got.Send.Next != stepsFrom(impl.MaxWord-99, i) {
			t.Fatalf("message %d: %+v", i, got)
		}
		s = impl.TakeSack(got.Send, impl.Sack{Cum: got.Datas[0].Tsn}).Send
	}
}

func TestAsManyItemsAsASenderMayHave(t *testing.T) {
	for _, tsn := range []int64{0, 9, impl.MaxWord - 20, impl.MaxWord} {
		for there := int64(0); there <= 40; there++ {
			s := spreadSend(stepsFrom(tsn, -1), there+1, oneTo(there)...)
			room := int(40 - there)
			for _, unordered := range []bool{false, true} {
				for _, count := range []int{1, room - 1, room, room + 1, room + 2, 100} {
					if count < 1 || count > 100 {
						continue
					}
					m := impl.Message{Stream: 3, Unordered: unordered, Bytes: someData(4*count-3, 11)}
					want := pushElsewhere(s, m, 4)
					if full := want.Code == impl.ErrFull; full != (count > room) {
						t.Errorf("%d items and %d pieces are too many: %t", there, count, full)
					}
					wantPushed(t, s, m, 4, want)
				}
			}
		}
	}
}

func TestAsFarAsNextMayBe(t *testing.T) {
	for _, acked := range []int64{0, 40, impl.MaxWord - 999, impl.MaxWord - 500, half - 500} {
		for end := int64(960); end <= 1000; end++ {
			// Few pieces are missing, but the first of them holds Acked up.
			s := spreadSend(acked, end, 1, 17, end-1)
			wantSendFault(t, s, impl.OK)
			room := int(1000 - end)
			for _, count := range []int{1, room - 1, room, room + 1, room + 2} {
				if count < 1 || count > 37 {
					continue
				}
				m := impl.Message{Stream: 3, Bytes: someData(4*count, 12)}
				want := pushElsewhere(s, m, 4)
				if full := want.Code == impl.ErrFull; full != (count > room) {
					t.Errorf("Next at %d and %d pieces are too far: %t", end, count, full)
				}
				wantPushed(t, s, m, 4, want)
			}
		}
	}
}

func TestPushedTsnsThatPassTheLastWord(t *testing.T) {
	for back := range int64(12) {
		s := newSend(impl.MaxWord - back)
		m := messageOf(2, 40)
		got := wantPushed(t, s, m, 4, pushElsewhere(s, m, 4))
		for i, item := range got.Items {
			if want := (impl.MaxWord - back + int64(i)) % allNumbers; item.Data.Tsn != want {
				t.Errorf("piece %d has the Tsn %d, want %d", i, item.Data.Tsn, want)
			}
		}
		if got.Next != (impl.MaxWord-back+10)%allNumbers {
			t.Errorf("Next is %d, after 10 pieces from %d on", got.Next, s.Next)
		}
		now := wantEmitted(t, got, 7, 8, 40, emitElsewhere(got, 7, 8, 40))
		for cum := range int64(10) {
			k := impl.Sack{Cum: stepsFrom(s.Next, cum)}
			left := wantAcked(t, now, k, impl.SendResult{Send: without(now, k.Cum, inOrder(int(cum+1))...), Datas: datasOf(now, inOrder(int(cum+1))...)})
			if len(left.Items) != int(9-cum) {
				t.Errorf("%d items are left after the Tsn %d: %+v", len(left.Items), k.Cum, left)
			}
		}
	}
}

// sentItem was sent so often, and waits until some time.
func sentItem(tsn int64, sent int64, due int64) impl.SendItem {
	item := freshItem(tsn)
	item.Sent, item.Due = sent, due
	return item
}

func TestItemsWaitUntilTheyAreDue(t *testing.T) {
	for _, due := range []int64{0, 1, 2, 300, 65536, 999999999, 1000000000} {
		for _, sent := range []int64{0, 1, 2, 98, 99} {
			for _, now := range []int64{0, due - 300, due - 1, due, due + 1, due + 300, 1000000000} {
				if now < 0 || now > 1000000000 {
					continue
				}
				s := spreadSend(impl.MaxWord, 3)
				s.Items = []impl.SendItem{sentItem(1, sent, due)}
				want := impl.SendResult{Send: copiedSend(s)}
				if sent == 0 || now >= due {
					want.Send.Items[0] = sentItem(1, min(sent+1, 99), min(now+20, 1000000000))
					want.Datas = datasOf(s, 0)
				}
				wantEmitted(t, s, now, 20, 5, want)
			}
		}
	}
}

func TestWhatIsSentWaits(t *testing.T) {
	for _, now := range []int64{0, 1, 500, 65535, 1000000, 123456789} {
		for _, rto := range []int64{1, 2, 100, 1600, 65536, 999999, 1000000} {
			s := spreadSend(4, 6, 1, 2, 3, 5)
			all := datasOf(s, 0, 1, 2, 3)
			for sent := int64(1); sent <= 103; sent++ {
				want := copiedSend(s)
				for i := range want.Items {
					want.Items[i].Sent, want.Items[i].Due = min(sent, 99), now+rto
				}
				s = wantEmitted(t, s, now, rto, 40, impl.SendResult{Send: want, Datas: all})
				for _, early := range []int64{now, now + rto/2, now + rto - 1} {
					wantEmitted(t, s, early, rto, 40, impl.SendResult{Send: s})
				}
				now += rto
			}
		}
	}
}

func TestADueIsLimited(t *testing.T) {
	for _, rto := range []int64{1, 2, 300, 999999, 1000000} {
		for _, more := range []int64{-2, -1, 0, 1, 2, rto} {
			now := 1000000000 - rto + more
			if now > 1000000000 {
				continue
			}
			s := spreadSend(9, 2, 1)
			want := copiedSend(s)
			want.Items[0].Sent, want.Items[0].Due = 1, 1000000000+min(more, 0)
			s = wantEmitted(t, s, now, rto, 1, impl.SendResult{Send: want, Datas: datasOf(s, 0)})
			// At the end of time it is sent again and again.
			again := wantEmitted(t, s, 1000000000, rto, 1, emitElsewhere(s, 1000000000, rto, 1))
			if again.Items[0].Sent != 2 || again.Items[0].Due != 1000000000 {
				t.Errorf("sent at the end of time: %+v", again)
			}
			wantEmitted(t, again, 1000000000, rto, 1, emitElsewhere(again, 1000000000, rto, 1))
		}
	}
}

func TestOnlyTheWindowIsSent(t *testing.T) {
	for _, acked := range append(someWords(), impl.MaxWord-16) {
		for _, distance := range []int64{1, 2, 15, 16, 17, 18, 32, 33, 255, 256, 257, 272, 999} {
			for _, item := range []impl.SendItem{{}, {Sent: 1, Due: 50}, {Sent: 99, Due: 0}, {Due: 900}} {
				s := spreadSend(acked, 1000, distance)
				s.Items[0].Sent, s.Items[0].Due = item.Sent, item.Due
				want := impl.SendResult{Send: copiedSend(s)}
				if distance <= 16 {
					want.Send.Items[0].Sent, want.Send.Items[0].Due = min(item.Sent+1, 99), 80
					want.Datas = datasOf(s, 0)
				}
				wantEmitted(t, s, 50, 30, 40, want)
			}
		}
		// 40 items, of which the window shows 16 at first, and then one more each time.
		s := spreadSend(acked, 41, oneTo(40)...)
		s = wantEmitted(t, s, 0, 900, 40, emitElsewhere(s, 0, 900, 40))
		for moved := int64(0); moved < 40; moved++ {
			for i, item := range s.Items {
				if gap := gapElsewhere(acked, item.Data.Tsn); (item.Sent > 0) != (gap <= moved+16) {
					t.Errorf("at the distance %d item %d is %+v", gap, i, item)
				}
			}
			s = wantAcked(t, s, impl.Sack{Cum: stepsFrom(acked, moved+1)}, impl.SendResult{Send: without(s, stepsFrom(acked, moved+1), 0), Datas: datasOf(s, 0)})
			want := emitElsewhere(s, 1, 900, 40)
			if moved < 24 && (len(want.Datas) != 1 || want.Datas[0].Tsn != stepsFrom(acked, moved+17)) {
				t.Errorf("after %d arrived, %+v are sent", moved+1, want.Datas)
			}
			s = wantEmitted(t, s, 1, 900, 40, want)
		}
	}
}

func TestAGapDoesNotMoveTheWindow(t *testing.T) {
	// Pieces in the middle arrived, but the window counts from Acked on.
	for missing := int64(1); missing <= 16; missing++ {
		s := spreadSend(impl.MaxWord-5, 41, missing, 17, 18, 40)
		want := copiedSend(s)
		want.Items[0].Sent, want.Items[0].Due = 1, 30
		wantEmitted(t, s, 20, 10, 40, impl.SendResult{Send: want, Datas: datasOf(s, 0)})
	}
}

func TestHowManyAreSentAtMost(t *testing.T) {
	for count := int64(0); count <= 20; count++ {
		for choice := range 1 << 6 {
			// Some of the first items wait, and do not count.
			s := spreadSend(impl.MaxWord-3, count+1, oneTo(count)...)
			var due []int
			for i := range s.Items {
				if choice>>(i%6)&1 == 1 {
					s.Items[i].Sent, s.Items[i].Due = 3, 1000
				} else if i < 16 {
					due = append(due, i)
				}
			}
			for _, most := range []int64{0, 1, 2, 3, 5, 15, 16, 17, 39, 40} {
				want := impl.SendResult{Send: copiedSend(s)}
				for i, place := range due {
					if int64(i) < most {
						want.Send.Items[place].Sent, want.Send.Items[place].Due = 1, 1099
						want.Datas = append(want.Datas, s.Items[place].Data)
					}
				}
				wantEmitted(t, s, 999, 100, most, want)
			}
		}
	}
}

func TestSendingInParts(t *testing.T) {
	// What was not sent at once is sent next, because the rest then waits.
	s := spreadSend(5, 21, oneTo(20)...)
	whole := impl.EmitDatas(s, 10, 300, 40)
	for most := int64(1); most <= 16; most++ {
		own := s
		var sent []impl.Data
		for range 16 {
			part := impl.EmitDatas(own, 10, 300, most)
			own = part.Send
			sent = append(sent, part.Datas...)
		}
		if !equalSendResults(whole, impl.SendResult{Send: own, Datas: sent}) {
			t.Errorf("%d at a time: %+v are sent of %+v", most, sent, whole)
		}
	}
}

func TestNumbersOfAnEmissionOutOfRange(t *testing.T) {
	refused := impl.SendResult{Code: impl.ErrRange}
	for _, s := range []impl.Send{newSend(4), spreadSend(4, 3, 1, 2)} {
		for _, n := range append(notFrom(0, 1000000000), 1000000001, -1) {
			wantEmitted(t, s, n, 300, 40, refused)
			wantEmitted(t, s, n, 0, -1, refused)
		}
		for _, n := range append(notFrom(1, 1000000), 0, 1000001, 1000000000) {
			wantEmitted(t, s, 5, n, 40, refused)
			wantEmitted(t, s, 5, n, 0, refused)
		}
		for _, n := range append(notFrom(0, 40), 41, -1) {
			wantEmitted(t, s, 5, 300, n, refused)
			wantEmitted(t, s, 1000000000, 1000000, n, refused)
		}
		for _, now := range []int64{0, 1, 1000000000} {
			for _, rto := range []int64{1, 1000000} {
				for _, most := range []int64{0, 1, 40} {
					wantEmitted(t, s, now, rto, most, emitElsewhere(s, now, rto, most))
				}
			}
		}
	}
}

func TestKnownAcknowledgements(t *testing.T) {
	for _, acked := range append(someWords(), impl.MaxWord-7, impl.MaxWord-12) {
		// The items 3, 6 and 10 arrived before.
		s := spreadSend(acked, 13, 1, 2, 4, 5, 7, 8, 9, 11, 12)
		for _, c := range []struct {
			cum    int64
			gaps   []impl.Gap
			places []int
		}{
			{0, nil, nil},
			{1, nil, []int{0}},
			{2, nil, []int{0, 1}},
			{3, nil, []int{0, 1}},
			{4, nil, []int{0, 1, 2}},
			{11, nil, []int{0, 1, 2, 3, 4, 5, 6, 7}},
			{12, nil, []int{0, 1, 2, 3, 4, 5, 6, 7, 8}},
			{0, []impl.Gap{{From: 2, To: 2}}, []int{1}},
			{0, []impl.Gap{{From: 3, To: 3}}, nil},
			{0, []impl.Gap{{From: 2, To: 12}}, []int{1, 2, 3, 4, 5, 6, 7, 8}},
			{0, []impl.Gap{{From: 12, To: 12}}, []int{8}},
			{0, []impl.Gap{{From: 2, To: 3}, {From: 5, To: 6}, {From: 8, To: 10}, {From: 12, To: 12}}, []int{1, 3, 5, 6, 8}},
			{1, []impl.Gap{{From: 2, To: 2}}, []int{0}},
			{1, []impl.Gap{{From: 3, To: 4}, {From: 6, To: 6}}, []int{0, 2, 3, 4}},
			{6, []impl.Gap{{From: 2, To: 2}, {From: 6, To: 6}}, []int{0, 1, 2, 3, 5, 8}},
			{9, []impl.Gap{{From: 3, To: 3}}, []int{0, 1, 2, 3, 4, 5, 6, 8}},
			{10, []impl.Gap{{From: 2, To: 2}}, []int{0, 1, 2, 3, 4, 5, 6, 8}},
		} {
			k := impl.Sack{Cum: stepsFrom(acked, c.cum), Gaps: c.gaps}
			after := wantAcked(t, s, k, impl.SendResult{Send: without(s, k.Cum, c.places...), Datas: datasOf(s, c.places...)})
			// The same one again finds nothing more.
			wantAcked(t, after, k, impl.SendResult{Send: after})
			if c.cum > 0 {
				wantOld(t, after, impl.Sack{Cum: acked, Gaps: c.gaps})
			}
		}
	}
}

func TestAcknowledgementsLeaveWhatWaits(t *testing.T) {
	s := spreadSend(impl.MaxWord-1, 9, oneTo(8)...)
	for i := range s.Items {
		s.Items[i].Sent, s.Items[i].Due = int64(i*12), int64(i*100)
	}
	s.Seqs = []int64{5, 65535, 7, 0, 0, 1, 2, 3, 4, 6}
	k := impl.Sack{Cum: 0, Gaps: []impl.Gap{{From: 3, To: 4}}}
	want := copiedSend(s)
	want.Acked, want.Items = 0, []impl.SendItem{s.Items[2], s.Items[3], s.Items[6], s.Items[7]}
	wantAcked(t, s, k, impl.SendResult{Send: want, Datas: datasOf(s, 0, 1, 4, 5)})
}

func TestOldAcknowledgements(t *testing.T) {
	var gaps [][]impl.Gap
	for _, k := range someSacks() {
		gaps = append(gaps, k.Gaps)
	}
	for i, acked := range append(someWords(), impl.MaxWord-9) {
		for _, s := range []impl.Send{newSend(stepsFrom(acked, 1)), spreadSend(acked, 20, 1, 2, 4, 19), spreadSend(acked, 1000, 1, 999)} {
			for _, distance := range []int64{half, half + 1, half + 999, half + 65536, impl.MaxWord - 999, impl.MaxWord - 1, impl.MaxWord} {
				cum := stepsFrom(acked, distance)
				wantOld(t, s, impl.Sack{Cum: cum})
				// Its gaps may reach anywhere, and change nothing either.
				for j := i % 5; j < len(gaps); j += 5 {
					wantOld(t, s, impl.Sack{Cum: cum, Gaps: gaps[j]})
				}
				wantOld(t, s, impl.Sack{Cum: cum, Gaps: []impl.Gap{{From: 2, To: 3}}})
			}
			for _, distance := range []int64{half - 1, half - 2, half - 65535, 65536, 1001} {
				cum := stepsFrom(acked, distance)
				wantNotAcked(t, s, impl.Sack{Cum: cum}, impl.ErrState)
				wantNotAcked(t, s, impl.Sack{Cum: cum, Gaps: []impl.Gap{{From: 2, To: 3}}}, impl.ErrState)
				wantNotAcked(t, s, impl.Sack{Cum: cum, Gaps: []impl.Gap{{From: 2, To: 65535}}}, impl.ErrState)
			}
			wantAcked(t, s, impl.Sack{Cum: acked}, impl.SendResult{Send: s})
		}
	}
}

func TestAcknowledgementsOfWhatWasNeverSent(t *testing.T) {
	for _, acked := range append(someWords(), impl.MaxWord-2, impl.MaxWord-500) {
		for _, end := range []int64{1, 2, 3, 10, 17, 256, 1000} {
			s := spreadSend(acked, end)
			if end > 1 {
				s.Items = []impl.SendItem{freshItem(stepsFrom(acked, end-1))}
			}
			all := impl.SendResult{Send: without(s, stepsFrom(acked, end-1), 0), Datas: datasOf(s, inOrder(len(s.Items))...)}
			wantAcked(t, s, impl.Sack{Cum: stepsFrom(acked, end-1)}, all)
			for _, more := range []int64{0, 1, 2, 255, 65535, 65536} {
				wantNotAcked(t, s, impl.Sack{Cum: stepsFrom(acked, end+more)}, impl.ErrState)
			}
			// The last gap ends before Next, at it, or behind it.
			for cum := int64(0); cum <= min(12, end-1); cum++ {
				k := impl.Sack{Cum: stepsFrom(acked, cum)}
				for _, to := range []int64{end - cum - 1, end - cum, end - cum + 1, end - cum + 300, 65535} {
					for _, from := range []int64{2, to} {
						if to < 2 {
							continue
						}
						k.Gaps = []impl.Gap{{From: from, To: to}}
						want := impl.SendResult{Code: impl.ErrState}
						if to == end-cum-1 {
							want = impl.SendResult{Send: without(s, k.Cum, 0), Datas: datasOf(s, 0)}
						}
						wantAcked(t, s, k, want)
						// It is the last one that counts.
						if to > 4 {
							k.Gaps = []impl.Gap{{From: 2, To: 2}, {From: to, To: to}}
							wantAcked(t, s, k, want)
						}
					}
				}
			}
		}
	}
}

func TestAllSmallAcknowledgements(t *testing.T) {
	t.Parallel()
	const end = 7
	var sacks []impl.Sack
	for cum := int64(-2); cum <= end+1; cum++ {
		for choice := range 1 << end {
			k := impl.Sack{Cum: stepsFrom(impl.MaxWord-3, cum)}
			// A bit for each distance from 2 on; those that follow each other are one gap.
			for i := range int64(end) {
				last := len(k.Gaps) - 1
				if choice>>i&1 == 0 {
					continue
				} else if last >= 0 && k.Gaps[last].To == i+1 {
					k.Gaps[last].To++
				} else {
					k.Gaps = append(k.Gaps, impl.Gap{From: i + 2, To: i + 2})
				}
			}
			sacks = append(sacks, k)
		}
	}
	found := map[int64]int{}
	for choice := range 1 << (end - 1) {
		var distances []int64
		for i := range int64(end - 1) {
			if choice>>i&1 == 1 {
				distances = append(distances, i+1)
			}
		}
		s := spreadSend(impl.MaxWord-3, end, distances...)
		for _, k := range sacks {
			want := ackElsewhere(s, k)
			wantAcked(t, s, k, want)
			found[want.Code]++
		}
	}
	if found[impl.OK] < 1000 || found[impl.ErrState] < 1000 {
		t.Errorf("the codes are %v", found)
	}
}

func TestUnpackableAcknowledgements(t *testing.T) {
	s := spreadSend(impl.MaxWord-1, 20, oneTo(19)...)
	for _, cum := range []int64{impl.MaxWord - 1, 0, 17, 18, 19, stepsFrom(impl.MaxWord-1, half), stepsFrom(impl.MaxWord-1, -1)} {
		for _, gaps := range [][]impl.Gap{
			{{From: 1, To: 3}}, {{From: 0, To: 3}}, {{From: -2, To: 3}}, {{}}, {{From: 4, To: 3}}, {{From: 2, To: 65536}}, {{From: 65536, To: 65536}},
			{{From: 2, To: 3}, {From: 4, To: 5}}, {{From: 2, To: 3}, {From: 3, To: 5}}, {{From: 5, To: 6}, {From: 2, To: 3}}, {{From: 2, To: 2}, {From: 4, To: 3}},
		} {
			wantNotAcked(t, s, impl.Sack{Cum: cum, Gaps: gaps}, impl.ErrForm)
		}
		for _, count := range []int{21, 22, 256, 276} {
			wantNotAcked(t, s, impl.Sack{Cum: cum, Gaps: gapsFrom(2, 1, 1, count)}, impl.ErrMany)
			wantNotAcked(t, s, impl.Sack{Cum: cum, Gaps: make([]impl.Gap, count)}, impl.ErrMany)
		}
	}
	for _, cum := range noWords() {
		wantNotAcked(t, s, impl.Sack{Cum: cum}, impl.ErrRange)
		wantNotAcked(t, s, impl.Sack{Cum: cum, Gaps: make([]impl.Gap, 21)}, impl.ErrRange)
	}
	// So many gaps there may be.
	far := spreadSend(5, 42, 2, 4, 6, 20, 21, 39, 40, 41)
	k := impl.Sack{Cum: 5, Gaps: gapsFrom(2, 1, 1, 20)}
	wantAcked(t, far, k, impl.SendResult{Send: without(far, 5, 0, 1, 2, 3, 6), Datas: datasOf(far, 0, 1, 2, 3, 6)})
}

// post is what a sender was given, and what of it is known to have arrived. What the
// sender must have become is built anew from it.
type post struct {
	start  int64
	pieces []impl.Data
	known  []bool
	sent   []int64
	due    []int64
	passed int
	seqs   []int64
	send   impl.Send
}

func newPost(tsn int64, seq int64) *post {
	p := &post{start: tsn, seqs: slices.Repeat([]int64{seq}, 10), send: newSend(tsn)}
	p.send.Seqs = slices.Clone(p.seqs)
	return p
}

// left are the places of the pieces that are not known to have arrived.
func (p *post) left() []int {
	var list []int
	for place := p.passed; place < len(p.pieces); place++ {
		if !p.known[place] {
			list = append(list, place)
		}
	}
	return list
}

func (p *post) wanted() impl.Send {
	s := impl.Send{Next: stepsFrom(p.start, int64(len(p.pieces))), Acked: stepsFrom(p.start, int64(p.passed-1)), Seqs: slices.Clone(p.seqs)}
	for _, place := range p.left() {
		s.Items = append(s.Items, impl.SendItem{Data: p.pieces[place], Sent: p.sent[place], Due: p.due[place]})
	}
	return s
}

// push returns the code.
func (p *post) push(t *testing.T, m impl.Message, size int64) int64 {
	t.Helper()
	c := cutCase{message: m, size: size, tsn: stepsFrom(p.start, int64(len(p.pieces)))}
	if !m.Unordered {
		c.seq = p.seqs[m.Stream]
	}
	pieces := cutElsewhere(c)
	if len(p.left())+len(pieces) > 40 || len(p.pieces)-p.passed+1+len(pieces) > 1000 {
		wantPushed(t, p.send, m, size, impl.SendResult{Code: impl.ErrFull})
		return impl.ErrFull
	}
	p.pieces = append(p.pieces, pieces...)
	p.known = append(p.known, make([]bool, len(pieces))...)
	p.sent = append(p.sent, make([]int64, len(pieces))...)
	p.due = append(p.due, make([]int64, len(pieces))...)
	if !m.Unordered {
		p.seqs[m.Stream] = int64(uint16(c.seq + 1))
	}
	p.send = wantPushed(t, p.send, m, size, impl.SendResult{Send: p.wanted(), Datas: pieces})
	return impl.OK
}

// emit returns the places of the pieces that are sent.
func (p *post) emit(t *testing.T, now int64, rto int64, most int) []int {
	t.Helper()
	places := slices.DeleteFunc(p.left(), func(place int) bool {
		return place-p.passed >= 16 || p.sent[place] > 0 && p.due[place] > now
	})
	places = places[:min(most, len(places))]
	var datas []impl.Data
	for _, place := range places {
		datas = append(datas, p.pieces[place])
		p.sent[place] = min(99, p.sent[place]+1)
		p.due[place] = now + rto
	}
	p.send = wantEmitted(t, p.send, now, rto, int64(most), impl.SendResult{Send: p.wanted(), Datas: datas})
	return places
}

// ack lets an acknowledgement of the first pieces arrive, and of others behind them. The
// first piece behind them is not reported, since they would then be one more.
func (p *post) ack(t *testing.T, passed int, others []bool) {
	t.Helper()
	k := impl.Sack{Cum: stepsFrom(p.start, int64(passed-1))}
	for i, arrived := range others {
		last, distance := len(k.Gaps)-1, int64(i+2)
		if arrived && last >= 0 && k.Gaps[last].To == distance-1 {
			k.Gaps[last].To = distance
		} else if arrived && last < 19 {
			k.Gaps = append(k.Gaps, impl.Gap{From: distance, To: distance})
		}
	}
	if passed < p.passed {
		wantOld(t, p.send, k)
		return
	}
	before := p.left()
	for _, g := range k.Gaps {
		for distance := g.From; distance <= g.To; distance++ {
			p.known[passed-1+int(distance)] = true
		}
	}
	p.passed = passed
	var datas []impl.Data
	for _, place := range before {
		if place < passed || p.known[place] {
			datas = append(datas, p.pieces[place])
		}
	}
	p.send = wantAcked(t, p.send, k, impl.SendResult{Send: p.wanted(), Datas: datas})
}

func TestLongHistoriesOfSenders(t *testing.T) {
	t.Parallel()
	for round := range 40 {
		seed := rand.New(rand.NewSource(int64(round)))
		p := newPost(stepsFrom(0, int64(-round*9)), 65530)
		now, full, sent := int64(0), 0, 0
		for step := range 300 {
			switch seed.Intn(5) {
			case 0, 1:
				m := impl.Message{Stream: int64(seed.Intn(10)), Unordered: seed.Intn(3) == 0, Bytes: someData(1+seed.Intn(60), uint32(step))}
				if p.push(t, m, int64(4+seed.Intn(20))) == impl.ErrFull {
					full++
				}
			case 2, 3:
				now += int64(seed.Intn(120))
				sent += len(p.emit(t, now, int64(1+seed.Intn(400)), seed.Intn(41)))
			case 4:
				passed := min(max(0, p.passed-2+seed.Intn(9+round%4)), len(p.pieces))
				others := make([]bool, max(0, min(seed.Intn(60), len(p.pieces)-passed-1)))
				for i := range others {
					others[i] = seed.Intn(3) == 0
				}
				p.ack(t, passed, others)
			}
			if t.Failed() {
				t.Fatalf("round %d, step %d", round, step)
			}
		}
		if full < 3 || sent < 20 || p.passed < 80 {
			t.Errorf("round %d: %d times full, %d sent, %d arrived", round, full, sent, p.passed)
		}
	}
}

func TestASenderThatIsHeldUpForLong(t *testing.T) {
	// Its first piece does not arrive, but all others do, until Next is as far as it may.
	p := newPost(impl.MaxWord-300, 65000)
	m := impl.Message{Stream: 6, Bytes: []byte{1, 2, 3}}
	for count := 1; count <= 999; count++ {
		if code := p.push(t, m, 100); code != impl.OK {
			t.Fatalf("piece %d has the code %d", count, code)
		}
		if count%30 == 0 {
			p.ack(t, 0, slices.Repeat([]bool{true}, count-1))
		}
	}
	if code := p.push(t, m, 100); code != impl.ErrFull || p.send.Next != stepsFrom(p.send.Acked, 1000) {
		t.Errorf("the code is %d, with %+v", code, p.send)
	}
	p.ack(t, 0, slices.Repeat([]bool{true}, 998))
	if code := p.push(t, m, 100); code != impl.ErrFull || len(p.send.Items) != 1 {
		t.Errorf("the code is %d, with %+v", code, p.send)
	}
	if places := p.emit(t, 0, 1, 40); !slices.Equal(places, []int{0}) {
		t.Errorf("%v are sent", places)
	}
	p.ack(t, 1, nil)
	if code := p.push(t, m, 100); code != impl.OK {
		t.Errorf("the code is %d, with %+v", code, p.send)
	}
	p.ack(t, 1000, nil)
	if len(p.send.Items) != 0 || p.send.Next != stepsFrom(p.send.Acked, 1) {
		t.Errorf("the rest is %+v", p.send)
	}
}

func TestSendingUntilEverythingArrived(t *testing.T) {
	t.Parallel()
	for round := range 30 {
		seed := rand.New(rand.NewSource(int64(round)))
		s, r := impl.NewSend(stepsFrom(0, int64(-round*4))).Send, impl.NewRecv(stepsFrom(0, int64(-round*4-1))).Recv
		var pushed, got []impl.Message
		waits := someMessages()
		var late []impl.Sack
		for now := int64(0); len(waits) > 0 || impl.LeftIn(s).Value > 0; now += 50 {
			if now > 100000 {
				t.Fatalf("round %d: %+v is left", round, s)
			}
			if len(waits) > 0 {
				if push := impl.PushMessage(s, waits[0], 20); push.Code == impl.OK {
					s, pushed, waits = push.Send, append(pushed, waits[0]), waits[1:]
				}
			}
			emitted := impl.EmitDatas(s, now, 120, 6)
			s = emitted.Send
			// Pieces and acknowledgements are lost, repeated and late.
			for _, d := range append(emitted.Datas, emitted.Datas...) {
				if seed.Intn(3) == 0 {
					continue
				}
				taken := impl.TakeData(r, d)
				if taken.Code == impl.OK {
					r, got = taken.Recv, append(got, taken.Messages...)
				}
				late = append(late, impl.SackOf(r).Sack)
			}
			for i, k := range late {
				if seed.Intn(4) > 0 || i == len(late)-1 {
					acked := impl.TakeSack(s, k)
					if acked.Code != impl.OK {
						t.Fatalf("TakeSack(%+v, %+v) has the code %d", s, k, acked.Code)
					}
					s = acked.Send
				}
			}
			late = late[max(0, len(late)-5):]
		}
		if s.Acked != r.Cum || len(r.Beyond) != 0 || len(r.Pieces) != 0 || len(got) != len(pushed) {
			t.Errorf("round %d ends with %+v and %+v", round, s, r)
		}
		for stream := range int64(10) {
			for _, unordered := range []bool{false, true} {
				belongs := func(m impl.Message) bool { return m.Stream != stream || m.Unordered != unordered }
				a, b := slices.DeleteFunc(slices.Clone(pushed), belongs), slices.DeleteFunc(slices.Clone(got), belongs)
				if unordered {
					order := func(a impl.Message, b impl.Message) int { return slices.Compare(a.Bytes, b.Bytes) }
					slices.SortFunc(a, order)
					slices.SortFunc(b, order)
				}
				if !slices.EqualFunc(a, b, equalMessages) {
					t.Errorf("round %d, stream %d: %+v were sent, and %+v have arrived", round, stream, a, b)
				}
			}
		}
	}
}

// validSend has something in every field.
func validSend() impl.Send {
	s := spreadSend(impl.MaxWord-5, 30, 1, 3, 4, 16, 17, 29)
	for i := range s.Items {
		s.Items[i].Sent, s.Items[i].Due = int64(i*3), int64(i*200)
	}
	s.Seqs = []int64{1, 2, 3, 4, 5, 6, 65535, 0, 256, 9}
	return s
}

func TestSendersInOrder(t *testing.T) {
	wantSendFault(t, validSend(), impl.OK)
	for _, acked := range someWords() {
		for _, end := range []int64{1, 2, 16, 17, 999, 1000} {
			wantSendFault(t, spreadSend(acked, end), impl.OK)
			if end > 1 {
				wantSendFault(t, spreadSend(acked, end, 1), impl.OK)
				wantSendFault(t, spreadSend(acked, end, end-1), impl.OK)
			}
		}
		wantSendFault(t, spreadSend(acked, 1000, 1, 2, 16, 17, 255, 256, 257, 998, 999), impl.OK)
		wantSendFault(t, spreadSend(acked, 40, oneTo(39)...), impl.OK)
		wantSendFault(t, spreadSend(acked, 41, oneTo(40)...), impl.OK)
	}
	for stream := range 10 {
		for _, seq := range []int64{0, 1, 255, 256, 65534, 65535} {
			s := validSend()
			s.Seqs[stream] = seq
			wantSendFault(t, s, impl.OK)
		}
	}
	for _, d := range someDatas() {
		s := spreadSend(stepsFrom(d.Tsn, -2), 3)
		for _, sent := range []int64{0, 1, 98, 99} {
			for _, due := range []int64{0, 1, 999999999, 1000000000} {
				s.Items = []impl.SendItem{{Data: d, Sent: sent, Due: due}}
				wantSendFault(t, s, impl.OK)
			}
		}
	}
}

func TestSendersWithAFault(t *testing.T) {
	for _, n := range noWords() {
		for _, s := range []impl.Send{newSend(5), validSend(), {}} {
			other := s
			s.Next, other.Acked = n, n
			wantSendFault(t, s, impl.ErrRange)
			wantSendFault(t, other, impl.ErrRange)
			s.Acked = n
			wantSendFault(t, s, impl.ErrRange)
		}
	}
	for _, acked := range append(someWords(), impl.MaxWord-20) {
		for _, end := range []int64{0, 1001, 1002, 65536 + 5, 1024 + 1000, half - 1, half, half + 1, impl.MaxWord - 1, impl.MaxWord} {
			wantSendFault(t, spreadSend(acked, end), impl.ErrForm)
			wantSendFault(t, spreadSend(acked, end, 1), impl.ErrForm)
			wantSendFault(t, spreadSend(acked, end, -1), impl.ErrForm)
		}
		for _, end := range []int64{1, 2, 9, 1000} {
			for _, distance := range []int64{0, end, end + 1, end + 256, end + 65536, half, impl.MaxWord} {
				wantSendFault(t, spreadSend(acked, end, distance), impl.ErrForm)
				if end > 1 {
					wantSendFault(t, spreadSend(acked, end, 1, distance), impl.ErrForm)
					wantSendFault(t, spreadSend(acked, end, distance, end-1), impl.ErrForm)
				}
			}
		}
		for a := int64(1); a <= 8; a++ {
			for b := int64(1); b <= a; b++ {
				wantSendFault(t, spreadSend(acked, 10, a, b), impl.ErrForm)
				wantSendFault(t, spreadSend(acked, 10, a, 9, b), impl.ErrForm)
				wantSendFault(t, spreadSend(acked, 10, a, b, 9), impl.ErrForm)
			}
		}
	}
}

func TestCountsOfSenders(t *testing.T) {
	for _, count := range []int64{41, 42, 80, 256, 296} {
		wantSendFault(t, spreadSend(5, count+1, oneTo(count)...), impl.ErrMany)
		s := newSend(5)
		s.Items = make([]impl.SendItem, count)
		wantSendFault(t, s, impl.ErrMany)
	}
	for _, count := range []int{0, 1, 9, 11, 12, 20, 256, 266, 65546} {
		s := newSend(5)
		s.Seqs = make([]int64, count)
		wantSendFault(t, s, impl.ErrMany)
		// Numbers behind the list do not count.
		s.Seqs = make([]int64, count, count+10)
		wantSendFault(t, s, impl.ErrMany)
		s.Next = stepsFrom(s.Acked, 1001)
		wantSendFault(t, s, impl.ErrMany)
	}
	wantSendFault(t, impl.Send{}, impl.ErrMany)
	wantSendFault(t, impl.Send{Seqs: []int64{}}, impl.ErrMany)
}

func TestNumbersOfItems(t *testing.T) {
	for place := range validSend().Items {
		for _, n := range append(notFrom(0, 99), 100, -1) {
			s := validSend()
			s.Items[place].Sent = n
			wantSendFault(t, s, impl.ErrRange)
		}
		for _, n := range append(notFrom(0, 1000000000), 1000000001, -1) {
			s := validSend()
			s.Items[place].Due = n
			wantSendFault(t, s, impl.ErrRange)
		}
	}
	for stream := range 10 {
		for _, n := range notFrom(0, 65535) {
			s := validSend()
			s.Seqs[stream] = n
			wantSendFault(t, s, impl.ErrRange)
		}
	}
}

func TestAnItemIsCheckedWholeBeforeTheNextOne(t *testing.T) {
	codes := []int64{impl.ErrRange, impl.ErrMany, impl.ErrForm, impl.ErrRange, impl.ErrRange, impl.ErrForm}
	wrong := []impl.SendItem{freshItem(12), freshItem(12), freshItem(12), freshItem(12), freshItem(12), freshItem(10)}
	wrong[0].Data.Stream = 10
	wrong[1].Data.Piece = nil
	wrong[2].Data.Unordered, wrong[2].Data.Seq = true, 1
	wrong[3].Sent = 100
	wrong[4].Due = -1
	for first, code := range codes {
		for _, second := range wrong {
			s := spreadSend(10, 9, 1)
			s.Items = append(s.Items, wrong[first], second)
			s.Seqs[9] = -1
			wantSendFault(t, s, code)
		}
	}
	// The piece comes first, then the numbers, then the place.
	item := wrong[5]
	for i, code := range []int64{impl.ErrForm, impl.ErrRange, impl.ErrForm, impl.ErrMany} {
		switch i {
		case 1:
			item.Sent = -1
		case 2:
			item.Data.Unordered, item.Data.Seq = true, 2
		case 3:
			item.Data.Piece = make([]byte, 101)
		}
		s := spreadSend(10, 9, 1)
		s.Items = append(s.Items, item)
		wantSendFault(t, s, code)
	}
}

// itemAt is the item at a place, or one that belongs to no list.
func itemAt(s *impl.Send, place int) *impl.SendItem {
	if place < len(s.Items) {
		return &s.Items[place]
	}
	return &impl.SendItem{}
}

// itemBreaches make an item of the sender above faulty.
func itemBreaches[T any](rank int, at int, send func(v *T) *impl.Send) []breach[T] {
	item := func(v *T) *impl.SendItem { return itemAt(send(v), at) }
	all := dataBreaches(rank, func(v *T) *impl.Data { return &item(v).Data })
	all = append(all, numberBreaches(rank+5, impl.ErrRange, func(v *T) *int64 { return &item(v).Sent }, -1, 100, 256, 1<<40)...)
	all = append(all, numberBreaches(rank+6, impl.ErrRange, func(v *T) *int64 { return &item(v).Due }, -1, 1000000001, allNumbers, -1<<40)...)
	distances := []int64{0, 30, 31, half, impl.MaxWord}
	if at > 0 {
		// Those of the items before it.
		distances = append(distances, 1, 2, 3)
	}
	for _, distance := range distances {
		all = append(all, breach[T]{rank + 7, impl.ErrForm, func(v *T) {
			// Where the piece is faulty already, its TSN stays.
			if d := &item(v).Data; dataFaultElsewhere(*d) == impl.OK {
				d.Tsn = stepsFrom(impl.MaxWord-5, distance)
			}
		}})
	}
	return all
}

// sendBreaches make the sender above faulty.
func sendBreaches[T any](send func(v *T) *impl.Send) []breach[T] {
	change := func(rank int, code int64, make func(s *impl.Send)) breach[T] {
		return breach[T]{rank, code, func(v *T) { make(send(v)) }}
	}
	all := slices.Concat(
		numberBreaches(1, impl.ErrRange, func(v *T) *int64 { return &send(v).Next }, noWords()...),
		numberBreaches(2, impl.ErrRange, func(v *T) *int64 { return &send(v).Acked }, noWords()...),
		[]breach[T]{
			change(3, impl.ErrMany, func(s *impl.Send) { s.Items = append(s.Items, make([]impl.SendItem, 35)...) }),
			change(3, impl.ErrMany, func(s *impl.Send) { s.Items = append(s.Items, slices.Repeat(s.Items, 9)...) }),
			change(3, impl.ErrMany, func(s *impl.Send) { s.Seqs = append(s.Seqs, 0) }),
			change(3, impl.ErrMany, func(s *impl.Send) { s.Seqs = s.Seqs[:min(9, len(s.Seqs))] }),
			change(3, impl.ErrMany, func(s *impl.Send) { s.Seqs = nil }),
		},
		itemBreaches(10, 0, send), itemBreaches(20, 2, send), itemBreaches(30, 5, send))
	for _, end := range []int64{0, 1001, half, impl.MaxWord} {
		all = append(all, change(4, impl.ErrForm, func(s *impl.Send) {
			if isWordElsewhere(s.Next) {
				s.Next = stepsFrom(impl.MaxWord-5, end)
			}
		}))
	}
	for _, stream := range []int{0, 4, 9} {
		all = append(all, numberBreaches(200, impl.ErrRange, func(v *T) *int64 {
			if s := send(v); stream < len(s.Seqs) {
				return &s.Seqs[stream]
			}
			return new(int64)
		}, -1, 65536, 131072, -65536)...)
	}
	return all
}

func TestOfTwoFaultsOfASenderTheFirstCounts(t *testing.T) {
	t.Parallel()
	all := sendBreaches(func(v *impl.Send) *impl.Send { return v })
	eachBreach(validSend, all, func(s impl.Send, code int64) {
		t.Helper()
		if got := impl.SendFault(s); got != code || sendFaultElsewhere(s) != code {
			t.Errorf("SendFault(%+v) = %d, and elsewhere %d, want %d", s, got, sendFaultElsewhere(s), code)
		}
	})
	for _, b := range all {
		s := validSend()
		b.make(&s)
		wantSendFault(t, s, b.code)
	}
}

// pushCase are the arguments of a message that is pushed.
type pushCase struct {
	send    impl.Send
	message impl.Message
	size    int64
}

func TestOfTwoFaultsOfAPushTheFirstCounts(t *testing.T) {
	t.Parallel()
	valid := func() pushCase {
		return pushCase{validSend(), messageOf(6, 22), 6}
	}
	wantPushed(t, valid().send, valid().message, valid().size, pushElsewhere(valid().send, valid().message, valid().size))
	all := slices.Concat(
		[]breach[pushCase]{
			{1, impl.ErrRange, func(c *pushCase) { c.send.Next = -1 }},
			{2, impl.ErrMany, func(c *pushCase) { c.send.Seqs = nil }},
			{3, impl.ErrForm, func(c *pushCase) { itemAt(&c.send, 5).Data.Tsn = impl.MaxWord - 5 }},
			{4, impl.ErrRange, func(c *pushCase) { c.send.Seqs = slices.Repeat([]int64{-1}, len(c.send.Seqs)) }},
		},
		numberBreaches(5, impl.ErrRange, func(c *pushCase) *int64 { return &c.message.Stream }, notFrom(0, 9)...),
		numberBreaches(7, impl.ErrRange, func(c *pushCase) *int64 { return &c.size }, notFrom(4, 100)...))
	for _, size := range badMessageSizes() {
		all = append(all, breach[pushCase]{6, impl.ErrMany, func(c *pushCase) { c.message.Bytes = make([]byte, size) }})
	}
	all = append(all, breach[pushCase]{8, impl.ErrFull, func(c *pushCase) {
		// Here 35 pieces are too many.
		if cutFaultElsewhere(cutCase{message: c.message, size: c.size}) == impl.OK {
			c.message.Bytes, c.size = someData(35*4, 5), 4
		}
	}})
	eachBreach(valid, all, func(c pushCase, code int64) {
		t.Helper()
		wantPushed(t, c.send, c.message, c.size, impl.SendResult{Code: code})
	})
	// An unordered message has no stream to take a Seq of, but it needs one too.
	for _, stream := range append(notFrom(0, 9), 10, -1) {
		for _, unordered := range []bool{false, true} {
			wantPushed(t, validSend(), impl.Message{Stream: stream, Unordered: unordered, Bytes: []byte{1}}, 4, impl.SendResult{Code: impl.ErrRange})
			wantPushed(t, validSend(), impl.Message{Stream: stream, Unordered: unordered}, 3, impl.SendResult{Code: impl.ErrRange})
		}
	}
}

// emitCase are the arguments of an emission.
type emitCase struct {
	send impl.Send
	now  int64
	rto  int64
	most int64
}

func TestOfTwoFaultsOfAnEmissionTheFirstCounts(t *testing.T) {
	valid := func() emitCase {
		return emitCase{validSend(), 400, 300, 3}
	}
	all := slices.Concat(
		[]breach[emitCase]{
			{1, impl.ErrRange, func(c *emitCase) { c.send.Acked = allNumbers }},
			{2, impl.ErrMany, func(c *emitCase) { c.send.Items = append(c.send.Items, make([]impl.SendItem, 35)...) }},
			{3, impl.ErrForm, func(c *emitCase) { c.send.Items[5].Data.Tsn = impl.MaxWord - 5 }},
			{4, impl.ErrRange, func(c *emitCase) { c.send.Seqs[9] = 65536 }},
		},
		numberBreaches(5, impl.ErrRange, func(c *emitCase) *int64 { return &c.now }, notFrom(0, 1000000000)...),
		numberBreaches(6, impl.ErrRange, func(c *emitCase) *int64 { return &c.rto }, notFrom(1, 1000000)...),
		numberBreaches(7, impl.ErrRange, func(c *emitCase) *int64 { return &c.most }, notFrom(0, 40)...))
	eachBreach(valid, all, func(c emitCase, code int64) {
		t.Helper()
		wantEmitted(t, c.send, c.now, c.rto, c.most, impl.SendResult{Code: code})
	})
}

// sackCase are the arguments of an acknowledgement that arrives.
type sackCase struct {
	send impl.Send
	sack impl.Sack
}

func TestOfTwoFaultsOfAnAcknowledgementTheFirstCounts(t *testing.T) {
	valid := func() sackCase {
		return sackCase{validSend(), impl.Sack{Cum: impl.MaxWord - 3, Gaps: []impl.Gap{{From: 2, To: 3}, {From: 14, To: 27}}}}
	}
	wantAcked(t, valid().send, valid().sack, ackElsewhere(valid().send, valid().sack))
	all := slices.Concat(
		[]breach[sackCase]{
			{1, impl.ErrRange, func(c *sackCase) { c.send.Acked = -5 }},
			{2, impl.ErrMany, func(c *sackCase) { c.send.Seqs = append(c.send.Seqs, 5) }},
			{3, impl.ErrForm, func(c *sackCase) { c.send.Items[5].Data.Tsn = impl.MaxWord - 5 }},
			{4, impl.ErrRange, func(c *sackCase) { c.send.Seqs[3] = 65536 }},
		},
		numberBreaches(5, impl.ErrRange, func(c *sackCase) *int64 { return &c.sack.Cum }, noWords()...),
		[]breach[sackCase]{
			{6, impl.ErrMany, func(c *sackCase) { c.sack.Gaps = append(c.sack.Gaps, make([]impl.Gap, 19)...) }},
			{7, impl.ErrForm, func(c *sackCase) { c.sack.Gaps[0].From = 1 }},
			{7, impl.ErrForm, func(c *sackCase) { c.sack.Gaps[0].To = 13 }},
			{7, impl.ErrForm, func(c *sackCase) { c.sack.Gaps[1].From = 40 }},
			{8, impl.ErrState, func(c *sackCase) { c.sack.Gaps[1].To = 28 }},
			{8, impl.ErrState, func(c *sackCase) {
				if isWordElsewhere(c.sack.Cum) {
					c.sack.Cum = 24
				}
			}},
		})
	eachBreach(valid, all[:len(all)-2], func(c sackCase, code int64) {
		t.Helper()
		wantNotAcked(t, c.send, c.sack, code)
	})
	for _, last := range all[len(all)-2:] {
		for _, b := range all {
			c := valid()
			b.make(&c)
			last.make(&c)
			wantNotAcked(t, c.send, c.sack, ackElsewhere(c.send, c.sack).Code)
			if c := ackElsewhere(c.send, c.sack).Code; c != b.code {
				t.Errorf("the code is %d, want %d", c, b.code)
			}
		}
	}
	// An old acknowledgement that is out of order is refused like any other.
	for _, b := range all {
		if b.rank < 8 {
			c := valid()
			c.sack.Cum = stepsFrom(impl.MaxWord-5, -1)
			b.make(&c)
			wantNotAcked(t, c.send, c.sack, b.code)
		}
	}
}

func TestFaultsOfAllSmallSenders(t *testing.T) {
	t.Parallel()
	var items []impl.SendItem
	for _, steps := range []int64{-1, 0, 1, 2, 3} {
		items = append(items, freshItem(stepsFrom(impl.MaxWord, steps)))
	}
	items = append(items, impl.SendItem{Data: wholePiece(0, 0), Sent: 100}, impl.SendItem{Data: wholePiece(1, 0), Due: -1}, impl.SendItem{Data: impl.Data{Tsn: 1}})
	found := map[int64]int{}
	for count := range 4 {
		eachList(items, count, nil, func(list []impl.SendItem) {
			for _, next := range []int64{-1, impl.MaxWord, 0, 1, 2, 3, 1000} {
				for _, seq := range []int64{0, 65536} {
					for _, seqs := range []int{9, 10} {
						s := impl.Send{Next: next, Acked: impl.MaxWord, Seqs: slices.Repeat([]int64{seq}, seqs), Items: list}
						want := sendFaultElsewhere(s)
						if got := impl.SendFault(s); got != want {
							t.Errorf("SendFault(%+v) = %d, want %d", s, got, want)
						}
						found[want]++
					}
				}
			}
		})
	}
	for code, least := range map[int64]int{impl.OK: 15, impl.ErrRange: 100, impl.ErrMany: 100, impl.ErrForm: 100} {
		if found[code] < least {
			t.Errorf("only %d senders have the code %d", found[code], code)
		}
	}
}

// anySend need not be in order.
func anySend(seed *rand.Rand) impl.Send {
	acked := stepsFrom(0, int64(seed.Intn(40)-20))
	s := spreadSend(acked, int64(seed.Intn(30)))
	for i := range s.Seqs {
		s.Seqs[i] = []int64{0, 5, 65535}[seed.Intn(3)]
	}
	distance := int64(0)
	for range seed.Intn(12) {
		distance += int64(1 + seed.Intn(3))
		item := sentItem(stepsFrom(acked, distance), int64(seed.Intn(3)), int64(seed.Intn(5)*100))
		item.Data.Unordered = item.Data.Seq == 0
		s.Items = append(s.Items, item)
	}
	return s
}

func TestAnySenders(t *testing.T) {
	t.Parallel()
	seed := rand.New(rand.NewSource(3))
	found := map[string]int{}
	for range 20000 {
		s := anySend(seed)
		wantSendFault(t, s, sendFaultElsewhere(s))
		m := impl.Message{Stream: int64(seed.Intn(12) - 1), Unordered: seed.Intn(2) == 0, Bytes: make([]byte, seed.Intn(120))}
		size := int64(3 + seed.Intn(20))
		pushed := pushElsewhere(s, m, size)
		wantPushed(t, s, m, size, pushed)
		now, rto, most := int64(seed.Intn(6)*100-1), int64(seed.Intn(3)), int64(seed.Intn(42))
		emitted := emitElsewhere(s, now, rto, most)
		wantEmitted(t, s, now, rto, most, emitted)
		k := impl.Sack{Cum: stepsFrom(s.Acked, int64(seed.Intn(20)-4)), Gaps: gapsFrom(int64(1+seed.Intn(5)), int64(1+seed.Intn(3)), int64(1+seed.Intn(3)), seed.Intn(4))}
		acked := ackElsewhere(s, k)
		wantAcked(t, s, k, acked)
		for call, want := range map[string]impl.SendResult{"push": pushed, "emit": emitted, "sack": acked} {
			found[fmt.Sprintf("%s %d %t %t", call, want.Code, len(want.Datas) > 0, want.Old)]++
		}
	}
	for _, call := range []string{"push 0 true false", "push 3 false false", "emit 0 true false", "emit 0 false false", "emit 3 false false", "sack 0 true false", "sack 0 false false", "sack 0 false true", "sack 8 false false"} {
		if found[call] < 100 {
			t.Errorf("only %d calls are %s: %v", found[call], call, found)
		}
	}
}

// changedSends are a sender and others that differ from it in one field, a length or an
// order.
func changedSends(s impl.Send) []impl.Send {
	list := []impl.Send{copiedSend(s)}
	change := func(make func(own *impl.Send)) {
		own := copiedSend(s)
		make(&own)
		list = append(list, own)
	}
	change(func(own *impl.Send) { own.Next++ })
	change(func(own *impl.Send) { own.Next += allNumbers })
	change(func(own *impl.Send) { own.Acked++ })
	change(func(own *impl.Send) { own.Acked += allNumbers })
	change(func(own *impl.Send) { own.Next, own.Acked = own.Acked, own.Next })
	change(func(own *impl.Send) { own.Seqs = append(own.Seqs, 7) })
	change(func(own *impl.Send) { own.Items = append(own.Items, impl.SendItem{}) })
	for i := range s.Seqs {
		change(func(own *impl.Send) { own.Seqs[i] += 65536 })
		change(func(own *impl.Send) { own.Seqs = slices.Delete(own.Seqs, i, i+1) })
	}
	for i, item := range s.Items {
		for _, other := range changedFields(item.Data)[1:] {
			change(func(own *impl.Send) { own.Items[i].Data = other })
		}
		change(func(own *impl.Send) { own.Items[i].Sent++ })
		change(func(own *impl.Send) { own.Items[i].Sent += 256 })
		change(func(own *impl.Send) { own.Items[i].Due++ })
		change(func(own *impl.Send) { own.Items[i].Due += allNumbers })
		change(func(own *impl.Send) { own.Items = slices.Delete(own.Items, i, i+1) })
	}
	change(func(own *impl.Send) { slices.Reverse(own.Seqs) })
	change(func(own *impl.Send) { slices.Reverse(own.Items) })
	return list
}

func wantSameSends(t *testing.T, a impl.Send, b impl.Send, want bool) {
	t.Helper()
	if impl.SameSends(a, b) != want || impl.SameSends(b, a) != want {
		t.Errorf("SameSends(%+v, %+v) = %t, or in the other order %t, want %t", a, b, impl.SameSends(a, b), impl.SameSends(b, a), want)
	}
}

func TestComparingSenders(t *testing.T) {
	t.Parallel()
	faulty := impl.Send{Next: -1, Acked: allNumbers, Seqs: []int64{-5, 70000}}
	for i, d := range anyDatas() {
		faulty.Items = append(faulty.Items, impl.SendItem{Data: d, Sent: int64(-i), Due: -7})
	}
	for _, s := range []impl.Send{validSend(), newSend(7), faulty, {}} {
		for i, a := range changedSends(s) {
			for j, b := range changedSends(s) {
				wantSameSends(t, a, b, i == j || equalSends(a, b))
			}
			if i > 0 && len(s.Items) > 0 {
				wantSameSends(t, a, s, false)
			}
		}
		wantSameSends(t, s, copiedSend(s), true)
	}
	wantSameSends(t, impl.Send{}, impl.Send{Seqs: []int64{}, Items: []impl.SendItem{}}, true)
	wantSameSends(t, impl.Send{Items: []impl.SendItem{{}}}, impl.Send{Items: []impl.SendItem{{Data: impl.Data{Piece: []byte{}}}}}, true)
}
