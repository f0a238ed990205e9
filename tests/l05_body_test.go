package tests

import (
	"bytes"
	"encoding/binary"
	"fmt"
	"math"
	"slices"
	"testing"

	"loop.example/g00670/impl"
)

// Promise 6: the contents of chunks are decoded from them, and a decoded chunk is
// encoded identically.

// greeting is an Init with the kind of its chunk.
type greeting struct {
	impl.Init
	Kind int64
}

// codec is one kind of content. It is packed and read by the program and, in
// another way, here.
type codec[T any] struct {
	name          string
	pack          func(v T) impl.ChunkResult
	read          func(c impl.Chunk) (int64, T)
	packElsewhere func(v T) impl.Chunk
	readElsewhere func(c impl.Chunk) (T, bool)
}

func dataCodec() codec[impl.Data] {
	return codec[impl.Data]{"Data", impl.PackData, func(c impl.Chunk) (int64, impl.Data) {
		r := impl.ReadData(c)
		return r.Code, r.Data
	}, packDataElsewhere, readDataElsewhere}
}

func sackCodec() codec[impl.Sack] {
	return codec[impl.Sack]{"Sack", impl.PackSack, func(c impl.Chunk) (int64, impl.Sack) {
		r := impl.ReadSack(c)
		return r.Code, r.Sack
	}, packSackElsewhere, readSackElsewhere}
}

func initCodec() codec[greeting] {
	pack := func(g greeting) impl.ChunkResult {
		return impl.PackInit(g.Init, g.Kind)
	}
	return codec[greeting]{"Init", pack, func(c impl.Chunk) (int64, greeting) {
		r := impl.ReadInit(c)
		if r.Code != impl.OK {
			return r.Code, greeting{Init: r.Init}
		}
		return r.Code, greeting{r.Init, c.Kind}
	}, packInitElsewhere, readInitElsewhere}
}

func asconfCodec() codec[impl.Asconf] {
	return codec[impl.Asconf]{"Asconf", impl.PackAsconf, func(c impl.Chunk) (int64, impl.Asconf) {
		r := impl.ReadAsconf(c)
		return r.Code, r.Asconf
	}, packAsconfElsewhere, readAsconfElsewhere}
}

func answerCodec() codec[impl.Answer] {
	return codec[impl.Answer]{"Answer", impl.PackAnswer, func(c impl.Chunk) (int64, impl.Answer) {
		r := impl.ReadAnswer(c)
		return r.Code, r.Answer
	}, packAnswerElsewhere, readAnswerElsewhere}
}

func flagsElsewhere(d impl.Data) int64 {
	table := map[[3]bool]int64{
		{false, false, false}: 0, {true, false, false}: 1, {false, true, false}: 2, {true, true, false}: 3,
		{false, false, true}: 4, {true, false, true}: 5, {false, true, true}: 6, {true, true, true}: 7,
	}
	return table[[3]bool{d.Last, d.First, d.Unordered}]
}

func appendPair(packed []byte, n int64) []byte {
	return binary.BigEndian.AppendUint16(packed, uint16(n))
}

func appendWord(packed []byte, n int64) []byte {
	return binary.BigEndian.AppendUint32(packed, uint32(n))
}

func pairAt(data []byte, at int) int64 {
	return int64(binary.BigEndian.Uint16(data[at:]))
}

func wordAt(data []byte, at int) int64 {
	return int64(binary.BigEndian.Uint32(data[at:]))
}

func packDataElsewhere(d impl.Data) impl.Chunk {
	packed := appendPair(appendPair(appendWord(nil, d.Tsn), d.Stream), d.Seq)
	return impl.Chunk{Kind: impl.KindData, Flags: flagsElsewhere(d), Body: append(packed, d.Piece...)}
}

func readDataElsewhere(c impl.Chunk) (impl.Data, bool) {
	if c.Kind != impl.KindData || c.Flags < 0 || c.Flags > 7 || len(c.Body) < 9 || len(c.Body) > 108 {
		return impl.Data{}, false
	}
	d := impl.Data{
		Tsn: wordAt(c.Body, 0), Stream: pairAt(c.Body, 4), Seq: pairAt(c.Body, 6), Piece: c.Body[8:],
		Last: c.Flags%2 == 1, First: c.Flags/2%2 == 1, Unordered: c.Flags >= 4,
	}
	return d, d.Stream <= 9 && (d.Seq == 0 || !d.Unordered)
}

func packSackElsewhere(s impl.Sack) impl.Chunk {
	packed := append(appendWord(nil, s.Cum), byte(len(s.Gaps)))
	for _, g := range s.Gaps {
		packed = appendPair(appendPair(packed, g.From), g.To)
	}
	return impl.Chunk{Kind: impl.KindSack, Body: packed}
}

func readSackElsewhere(c impl.Chunk) (impl.Sack, bool) {
	if c.Kind != impl.KindSack || c.Flags != 0 || len(c.Body) < 5 {
		return impl.Sack{}, false
	}
	count := int(c.Body[4])
	if count > 20 || len(c.Body) != 5+4*count {
		return impl.Sack{}, false
	}
	s := impl.Sack{Cum: wordAt(c.Body, 0)}
	for i := range count {
		g := impl.Gap{From: pairAt(c.Body, 5+4*i), To: pairAt(c.Body, 7+4*i)}
		if g.From < 2 || g.To < g.From || i > 0 && g.From < s.Gaps[i-1].To+2 {
			return impl.Sack{}, false
		}
		s.Gaps = append(s.Gaps, g)
	}
	return s, true
}

func packInitElsewhere(g greeting) impl.Chunk {
	packed := append(appendWord(appendWord(nil, g.Tag), g.Tsn), g.Random...)
	packed = append(packed, byte(len(g.Addrs)))
	for _, addr := range g.Addrs {
		packed = append(packed, byte(addr))
	}
	packed = append(packed, byte(len(g.Cookie)))
	return impl.Chunk{Kind: g.Kind, Body: append(packed, g.Cookie...)}
}

func readInitElsewhere(c impl.Chunk) (greeting, bool) {
	if c.Kind != impl.KindInit && c.Kind != impl.KindInitAck || c.Flags != 0 || len(c.Body) < 25 {
		return greeting{}, false
	}
	count := int(c.Body[24])
	if count < 1 || count > 5 || len(c.Body) < 26+count {
		return greeting{}, false
	}
	cookie := c.Body[26+count:]
	if len(cookie) != int(c.Body[25+count]) || len(cookie) > 100 {
		return greeting{}, false
	}
	g := greeting{impl.Init{Tag: wordAt(c.Body, 0), Tsn: wordAt(c.Body, 4), Random: c.Body[8:24], Cookie: cookie}, c.Kind}
	seen := map[byte]bool{0: true}
	for _, b := range c.Body[25 : 25+count] {
		if seen[b] {
			return greeting{}, false
		}
		seen[b] = true
		g.Addrs = append(g.Addrs, int64(b))
	}
	return g, g.Tag > 0
}

func packAsconfElsewhere(a impl.Asconf) impl.Chunk {
	packed := append(appendWord(nil, a.Serial), byte(len(a.Ops)))
	for _, o := range a.Ops {
		packed = append(packed, byte(o.Kind), byte(o.Addr))
	}
	return impl.Chunk{Kind: impl.KindAsconf, Body: packed}
}

func readAsconfElsewhere(c impl.Chunk) (impl.Asconf, bool) {
	size := len(c.Body)
	if c.Kind != impl.KindAsconf || c.Flags != 0 || size < 7 || size > 13 || size != 5+2*int(c.Body[4]) {
		return impl.Asconf{}, false
	}
	a := impl.Asconf{Serial: wordAt(c.Body, 0)}
	for i := 5; i < size; i += 2 {
		if c.Body[i] < 1 || c.Body[i] > 3 || c.Body[i+1] == 0 {
			return impl.Asconf{}, false
		}
		a.Ops = append(a.Ops, impl.AddrOp{Kind: int64(c.Body[i]), Addr: int64(c.Body[i+1])})
	}
	return a, true
}

func packAnswerElsewhere(a impl.Answer) impl.Chunk {
	packed := append(appendWord(nil, a.Serial), byte(len(a.Codes)))
	for _, code := range a.Codes {
		packed = append(packed, byte(code))
	}
	return impl.Chunk{Kind: impl.KindAnswer, Body: packed}
}

func readAnswerElsewhere(c impl.Chunk) (impl.Answer, bool) {
	size := len(c.Body)
	if c.Kind != impl.KindAnswer || c.Flags != 0 || size < 6 || size > 9 || size != 5+int(c.Body[4]) {
		return impl.Answer{}, false
	}
	a := impl.Answer{Serial: wordAt(c.Body, 0)}
	for _, b := range c.Body[5:] {
		if b > 20 {
			return impl.Answer{}, false
		}
		a.Codes = append(a.Codes, int64(b))
	}
	return a, true
}

// told shows all fields of a value. An empty list and nil are shown alike.
func told(v any) string {
	return fmt.Sprintf("%+v", v)
}

func (k codec[T]) wantRead(t *testing.T, c impl.Chunk, want T) {
	t.Helper()
	if code, got := k.read(c); code != impl.OK || told(got) != told(want) {
		t.Errorf("Read%s(%+v) = %d, %+v, want %+v", k.name, c, code, got, want)
	}
}

func (k codec[T]) wantUnread(t *testing.T, c impl.Chunk, want int64) {
	t.Helper()
	var none T
	if code, got := k.read(c); code != want || told(got) != told(none) {
		t.Errorf("Read%s(%+v) = %d, %+v, want the code %d and nothing else", k.name, c, code, got, want)
	}
}

// wantPacked packs the value, reads the chunk, and packs what was read.
func (k codec[T]) wantPacked(t *testing.T, v T, want impl.Chunk) {
	t.Helper()
	packed := k.pack(v)
	if packed.Code != impl.OK || !equalChunks(packed.Chunk, want) {
		t.Errorf("Pack%s(%+v) = %+v, want %+v", k.name, v, packed, want)
	}
	k.wantRead(t, want, v)
	if _, read := k.read(want); !equalChunks(k.pack(read).Chunk, want) {
		t.Errorf("Pack%s(%+v) = %+v, but it was read from %+v", k.name, read, k.pack(read), want)
	}
}

func (k codec[T]) wantCode(t *testing.T, v T, want int64) {
	t.Helper()
	if got := k.pack(v); told(got) != told(impl.ChunkResult{Code: want}) {
		t.Errorf("Pack%s(%+v) = %+v, want the code %d and nothing else", k.name, v, got, want)
	}
}

// wantUnpackable also reads the chunk of the value with the numbers cut to their
// sizes. It may be one in order, of another value.
func (k codec[T]) wantUnpackable(t *testing.T, v T, want int64) {
	t.Helper()
	k.wantCode(t, v, want)
	k.wantAsElsewhere(t, k.packElsewhere(v))
}

// wantAsElsewhere reads a chunk in two ways.
func (k codec[T]) wantAsElsewhere(t *testing.T, c impl.Chunk) bool {
	t.Helper()
	want, readable := k.readElsewhere(c)
	switch {
	case c.Kind < 0 || c.Kind > 255 || c.Flags < 0 || c.Flags > 255:
		k.wantUnread(t, c, impl.ErrRange)
	case len(c.Body) > 160:
		k.wantUnread(t, c, impl.ErrMany)
	case !readable:
		k.wantUnread(t, c, impl.ErrText)
	default:
		k.wantPacked(t, want, c)
		return true
	}
	return false
}

func someDatas() []impl.Data {
	var list []impl.Data
	for i, tsn := range someWords() {
		list = append(list, impl.Data{Tsn: tsn, Stream: int64(i % 10), Seq: int64(i * 31), First: i%2 == 0, Last: i%3 == 0, Piece: someData(1+i, uint32(i))})
	}
	for size := 1; size <= impl.MaxPiece; size++ {
		list = append(list, impl.Data{Tsn: 7, Stream: 3, Seq: 4, Last: true, Piece: someData(size, 60)})
	}
	for stream := range int64(impl.MaxStreams) {
		for _, seq := range []int64{0, 1, 255, 256, 258, 32767, 32768, 65534, 65535} {
			list = append(list, impl.Data{Tsn: 258, Stream: stream, Seq: seq, First: true, Piece: []byte{0}})
		}
	}
	for flags := range 8 {
		for _, piece := range [][]byte{{0}, {255}, make([]byte, 100), bytes.Repeat([]byte{255}, 100)} {
			d := impl.Data{Tsn: impl.MaxWord, Stream: 9, Last: flags%2 > 0, First: flags/2%2 > 0, Unordered: flags/4 > 0, Piece: piece}
			list = append(list, d)
			if !d.Unordered {
				d.Seq = 65535
				list = append(list, d)
			}
		}
	}
	return list
}

// gapsFrom returns gaps of a size, with as many numbers between them.
func gapsFrom(from int64, size int64, between int64, count int) []impl.Gap {
	var gaps []impl.Gap
	for range count {
		gaps = append(gaps, impl.Gap{From: from, To: from + size - 1})
		from += size + between
	}
	return gaps
}

func someSacks() []impl.Sack {
	list := []impl.Sack{
		{Gaps: []impl.Gap{}},
		{Gaps: []impl.Gap{{From: 2, To: 2}}},
		{Gaps: []impl.Gap{{From: 2, To: 65535}}},
		{Gaps: []impl.Gap{{From: 65535, To: 65535}}},
		{Gaps: []impl.Gap{{From: 65534, To: 65535}}},
		{Gaps: []impl.Gap{{From: 2, To: 65533}, {From: 65535, To: 65535}}},
		{Gaps: []impl.Gap{{From: 2, To: 2}, {From: 4, To: 65535}}},
		{Gaps: []impl.Gap{{From: 2, To: 3}, {From: 5, To: 5}, {From: 7, To: 9}}},
		{Gaps: []impl.Gap{{From: 2, To: 300}, {From: 302, To: 302}, {From: 600, To: 40000}, {From: 65000, To: 65000}}},
		{Gaps: []impl.Gap{{From: 3, To: 255}, {From: 257, To: 511}, {From: 513, To: 32767}, {From: 32769, To: 65280}}},
		{Gaps: gapsFrom(65535-38, 1, 1, 20)},
	}
	for i, cum := range someWords() {
		list = append(list, impl.Sack{Cum: cum}, impl.Sack{Cum: cum, Gaps: gapsFrom(2+int64(i), 1+int64(i%3), 1, i%21)})
	}
	for count := range impl.MaxGaps + 1 {
		for _, size := range []int64{1, 2, 255, 3000} {
			list = append(list, impl.Sack{Cum: impl.MaxWord, Gaps: gapsFrom(2, size, 1, count)}, impl.Sack{Cum: 1, Gaps: gapsFrom(5, size, 200, count)})
		}
	}
	return list
}

func someInits() []greeting {
	var list []greeting
	add := func(i impl.Init) {
		list = append(list, greeting{i, impl.KindInit}, greeting{i, impl.KindInitAck})
	}
	addrs := [][]int64{{1}, {255}, {1, 255}, {255, 1}, {7, 8, 9}, {200, 100, 50, 25}, {1, 2, 3, 4, 5}, {255, 254, 253, 252, 251}}
	for n, w := range someWords() {
		i := impl.Init{Tag: w, Tsn: 4294967295 - w, Random: someData(16, uint32(n)), Addrs: addrs[n%len(addrs)], Cookie: someData(n*4, 61)}
		if w == 0 {
			i.Tag = 1
		}
		add(i)
		i.Tsn = w
		add(i)
	}
	for _, a := range addrs {
		for _, random := range [][]byte{make([]byte, 16), bytes.Repeat([]byte{255}, 16)} {
			add(impl.Init{Tag: 1, Random: random, Addrs: a})
			add(impl.Init{Tag: impl.MaxWord, Tsn: impl.MaxWord, Random: random, Addrs: a, Cookie: []byte{}})
			add(impl.Init{Tag: 1, Random: random, Addrs: a, Cookie: make([]byte, 100)})
		}
	}
	for size := range impl.MaxCookie + 1 {
		add(impl.Init{Tag: 9, Tsn: 8, Random: someData(16, 62), Addrs: addrs[size%len(addrs)], Cookie: someData(size, uint32(size))})
	}
	return list
}

func someAsconfs() []impl.Asconf {
	var list []impl.Asconf
	for i, serial := range someWords() {
		kind := int64(1 + i%3)
		for count := 1; count <= impl.MaxOps; count++ {
			list = append(list, impl.Asconf{Serial: serial, Ops: slices.Repeat([]impl.AddrOp{{Kind: kind, Addr: int64(1 + i*10)}}, count)})
		}
		list = append(list, impl.Asconf{Serial: serial, Ops: []impl.AddrOp{{Kind: 3, Addr: 1}, {Kind: 1, Addr: 255}, {Kind: 2, Addr: int64(1 + i)}, {Kind: kind, Addr: 128}}})
	}
	for kind := int64(1); kind <= 3; kind++ {
		for addr := int64(1); addr <= 255; addr++ {
			list = append(list, impl.Asconf{Serial: 9, Ops: []impl.AddrOp{{Kind: kind, Addr: addr}}})
		}
	}
	return list
}

func someAnswers() []impl.Answer {
	var list []impl.Answer
	for i, serial := range someWords() {
		for count := 1; count <= impl.MaxOps; count++ {
			list = append(list, impl.Answer{Serial: serial, Codes: []int64{int64(i % 21), 20, 0, int64(20 - i%21)}[:count]})
			list = append(list, impl.Answer{Serial: serial, Codes: make([]int64, count)})
			list = append(list, impl.Answer{Serial: serial, Codes: slices.Repeat([]int64{20}, count)})
		}
	}
	for code := range int64(21) {
		list = append(list, impl.Answer{Serial: 9, Codes: []int64{code}}, impl.Answer{Serial: 9, Codes: []int64{6, code, 7}})
	}
	return list
}

func TestLimitsOfContents(t *testing.T) {
	for _, c := range []struct{ got, want int64 }{
		{impl.MaxPiece, 100}, {impl.MaxStreams, 10}, {impl.MaxGaps, 20}, {impl.MaxAddrs, 5}, {impl.MaxOps, 4},
		{impl.RandomSize, 16}, {impl.MaxCookie, 100}, {impl.OpAdd, 1}, {impl.OpDel, 2}, {impl.OpFirst, 3},
	} {
		if c.got != c.want {
			t.Errorf("a constant is %d, want %d", c.got, c.want)
		}
	}
}

func TestKnownData(t *testing.T) {
	for _, c := range []struct {
		data impl.Data
		want impl.Chunk
	}{
		{
			impl.Data{Tsn: 258, Stream: 3, Seq: 4, First: true, Piece: []byte{9}},
			impl.Chunk{Flags: 2, Body: []byte{0, 0, 1, 2, 0, 3, 0, 4, 9}},
		},
		{
			impl.Data{Tsn: impl.MaxWord, Stream: 9, Seq: 65535, Last: true, Piece: []byte("abc")},
			impl.Chunk{Flags: 1, Body: []byte{255, 255, 255, 255, 0, 9, 255, 255, 97, 98, 99}},
		},
		{
			impl.Data{Tsn: 16909060, Stream: 5, Seq: 258, Piece: []byte{0, 0}},
			impl.Chunk{Body: []byte{1, 2, 3, 4, 0, 5, 1, 2, 0, 0}},
		},
		{impl.Data{Piece: []byte{0}}, impl.Chunk{Body: make([]byte, 9)}},
		{impl.Data{Unordered: true, Piece: []byte{1}}, impl.Chunk{Flags: 4, Body: []byte{0, 0, 0, 0, 0, 0, 0, 0, 1}}},
		{impl.Data{First: true, Last: true, Unordered: true, Piece: []byte{1}}, impl.Chunk{Flags: 7, Body: []byte{0, 0, 0, 0, 0, 0, 0, 0, 1}}},
	} {
		dataCodec().wantPacked(t, c.data, c.want)
	}
}

func TestKnownSacks(t *testing.T) {
	for _, c := range []struct {
		sack impl.Sack
		body []byte
	}{
		{impl.Sack{Cum: 5, Gaps: []impl.Gap{{From: 2, To: 3}, {From: 5, To: 5}}}, []byte{0, 0, 0, 5, 2, 0, 2, 0, 3, 0, 5, 0, 5}},
		{impl.Sack{}, []byte{0, 0, 0, 0, 0}},
		{impl.Sack{Cum: 16909060, Gaps: []impl.Gap{}}, []byte{1, 2, 3, 4, 0}},
		{impl.Sack{Cum: impl.MaxWord, Gaps: []impl.Gap{{From: 258, To: 65535}}}, []byte{255, 255, 255, 255, 1, 1, 2, 255, 255}},
	} {
		sackCodec().wantPacked(t, c.sack, impl.Chunk{Kind: impl.KindSack, Body: c.body})
	}
}

func TestKnownInits(t *testing.T) {
	random := []byte{10, 11, 12, 13, 14, 15, 16, 17, 18, 19, 20, 21, 22, 23, 24, 25}
	for _, c := range []struct {
		init impl.Init
		body []byte
	}{
		{
			impl.Init{Tag: 1, Tsn: 2, Random: random, Addrs: []int64{7, 8}, Cookie: []byte{5}},
			slices.Concat([]byte{0, 0, 0, 1, 0, 0, 0, 2}, random, []byte{2, 7, 8, 1, 5}),
		},
		{
			impl.Init{Tag: impl.MaxWord, Tsn: 16909060, Random: random, Addrs: []int64{255}},
			slices.Concat([]byte{255, 255, 255, 255, 1, 2, 3, 4}, random, []byte{1, 255, 0}),
		},
		{
			impl.Init{Tag: 258, Random: random, Addrs: []int64{5, 4, 3, 2, 1}, Cookie: []byte("abcd")},
			slices.Concat([]byte{0, 0, 1, 2, 0, 0, 0, 0}, random, []byte{5, 5, 4, 3, 2, 1, 4, 97, 98, 99, 100}),
		},
	} {
		for _, kind := range []int64{1, 2} {
			initCodec().wantPacked(t, greeting{c.init, kind}, impl.Chunk{Kind: kind, Body: c.body})
		}
	}
}

func TestKnownRequestsAndAnswers(t *testing.T) {
	asconfCodec().wantPacked(t,
		impl.Asconf{Serial: 9, Ops: []impl.AddrOp{{Kind: impl.OpAdd, Addr: 4}}},
		impl.Chunk{Kind: 193, Body: []byte{0, 0, 0, 9, 1, 1, 4}})
	asconfCodec().wantPacked(t,
		impl.Asconf{Serial: 16909060, Ops: []impl.AddrOp{{Kind: impl.OpFirst, Addr: 255}, {Kind: impl.OpDel, Addr: 1}}},
		impl.Chunk{Kind: 193, Body: []byte{1, 2, 3, 4, 2, 3, 255, 2, 1}})
	answerCodec().wantPacked(t,
		impl.Answer{Serial: 9, Codes: []int64{0, 6}},
		impl.Chunk{Kind: 128, Body: []byte{0, 0, 0, 9, 2, 0, 6}})
	answerCodec().wantPacked(t,
		impl.Answer{Serial: impl.MaxWord, Codes: []int64{20}},
		impl.Chunk{Kind: 128, Body: []byte{255, 255, 255, 255, 1, 20}})
}

func (k codec[T]) wantAllPacked(t *testing.T, list []T) {
	t.Helper()
	for _, v := range list {
		c := k.packElsewhere(v)
		k.wantPacked(t, v, c)
		if !k.wantAsElsewhere(t, c) || impl.ChunkFault(c) != impl.OK {
			t.Errorf("%+v is no example", v)
		}
	}
}

func TestContentsAreDecodedFromTheirChunks(t *testing.T) {
	dataCodec().wantAllPacked(t, someDatas())
	sackCodec().wantAllPacked(t, someSacks())
	initCodec().wantAllPacked(t, someInits())
	asconfCodec().wantAllPacked(t, someAsconfs())
	answerCodec().wantAllPacked(t, someAnswers())
}

func TestContentsInPackets(t *testing.T) {
	d, s, g, q, a := someDatas()[20], someSacks()[7], someInits()[30], someAsconfs()[4], someAnswers()[9]
	want := []impl.Chunk{
		impl.PackData(d).Chunk, impl.PackSack(s).Chunk, impl.PackInit(g.Init, g.Kind).Chunk, impl.PackAsconf(q).Chunk, impl.PackAnswer(a).Chunk,
	}
	got := impl.ReadPacket(impl.PackPacket(impl.Packet{Tag: 7, Chunks: want}).Bytes).Packet.Chunks
	if !slices.EqualFunc(got, want, equalChunks) {
		t.Fatalf("the chunks %+v arrive as %+v", want, got)
	}
	dataCodec().wantRead(t, got[0], d)
	sackCodec().wantRead(t, got[1], s)
	initCodec().wantRead(t, got[2], g)
	asconfCodec().wantRead(t, got[3], q)
	answerCodec().wantRead(t, got[4], a)
}

// breach is a change that makes a value faulty. Of two breaches the one with the
// lower rank counts; those of the same rank change the same thing.
type breach[T any] struct {
	rank int
	code int64
	make func(v *T)
}

// numberBreaches give a number of the value wrong values.
func numberBreaches[T any](rank int, code int64, field func(v *T) *int64, wrong ...int64) []breach[T] {
	var list []breach[T]
	for _, n := range wrong {
		list = append(list, breach[T]{rank, code, func(v *T) { *field(v) = n }})
	}
	return list
}

// eachPair makes every two of the breaches in values that are in order, in both
// orders.
func eachPair[T any](valid func() T, all []breach[T], check func(v T, code int64)) {
	for _, first := range all {
		for _, second := range all {
			if first.rank >= second.rank {
				continue
			}
			v, w := valid(), valid()
			first.make(&v)
			second.make(&v)
			second.make(&w)
			first.make(&w)
			check(v, first.code)
			check(w, first.code)
		}
	}
}

// eachBreach makes the breaches in values that are in order, and then every two of
// them.
func eachBreach[T any](valid func() T, all []breach[T], check func(v T, code int64)) {
	for _, b := range all {
		v := valid()
		b.make(&v)
		check(v, b.code)
	}
	eachPair(valid, all, check)
}

// wantBreaches makes the breaches in values that are in order, and then every two
// of them.
func (k codec[T]) wantBreaches(t *testing.T, valid func() T, breaches ...[]breach[T]) {
	t.Helper()
	all := slices.Concat(breaches...)
	k.wantPacked(t, valid(), k.packElsewhere(valid()))
	for _, b := range all {
		v := valid()
		b.make(&v)
		k.wantUnpackable(t, v, b.code)
	}
	eachPair(valid, all, func(v T, code int64) {
		t.Helper()
		k.wantCode(t, v, code)
	})
}

// notFrom returns numbers outside of a range, some of which have low bits that are
// in it.
func notFrom(from int64, to int64) []int64 {
	list := []int64{from - 1, to + 1, math.MinInt64, math.MaxInt64, -1, -impl.MaxWord, -65536, -256}
	for _, more := range []int64{256, 65536, impl.MaxWord + 1, 1 << 40, -256, -65536, -impl.MaxWord - 1} {
		list = append(list, from+more, to+more)
	}
	return slices.DeleteFunc(list, func(n int64) bool { return n >= from && n <= to })
}

// dataBreaches make a Data faulty.
func dataBreaches[T any](rank int, data func(v *T) *impl.Data) []breach[T] {
	all := slices.Concat(
		numberBreaches(rank, impl.ErrRange, func(v *T) *int64 { return &data(v).Tsn }, noWords()...),
		numberBreaches(rank+1, impl.ErrRange, func(v *T) *int64 { return &data(v).Stream }, notFrom(0, 9)...),
		numberBreaches(rank+2, impl.ErrRange, func(v *T) *int64 { return &data(v).Seq }, notFrom(0, 65535)...))
	for _, piece := range append(longPieces(), nil, []byte{}) {
		all = append(all, breach[T]{rank + 3, impl.ErrMany, func(v *T) { data(v).Piece = piece }})
	}
	for _, seq := range []int64{1, 2, 256, 65535} {
		all = append(all, breach[T]{rank + 4, impl.ErrForm, func(v *T) {
			d := data(v)
			d.Unordered = true
			// A Seq that is no pair is another breach, and stays.
			if d.Seq >= 0 && d.Seq <= 65535 {
				d.Seq = seq
			}
		}})
	}
	return all
}

// longPieces have more bytes than a piece may.
func longPieces() [][]byte {
	var list [][]byte
	for _, size := range []int{101, 102, 152, 153, 256, 257, 356, 1000, 65537} {
		list = append(list, make([]byte, size))
	}
	return list
}

func TestDataWithFaults(t *testing.T) {
	valid := func() impl.Data {
		return impl.Data{Tsn: 1, Stream: 2, First: true, Piece: []byte{3}}
	}
	dataCodec().wantBreaches(t, valid, dataBreaches(1, func(v *impl.Data) *impl.Data { return v }))
}

func TestUnorderedData(t *testing.T) {
	for flags := range 4 {
		d := impl.Data{Tsn: 3, Stream: 4, Last: flags%2 > 0, First: flags/2 > 0, Unordered: true, Piece: []byte("loose")}
		dataCodec().wantPacked(t, d, packDataElsewhere(d))
		for seq := int64(1); seq <= 65535; seq += 1 + seq/16 {
			d.Seq, d.Unordered = seq, true
			dataCodec().wantUnpackable(t, d, impl.ErrForm)
			d.Unordered = false
			dataCodec().wantPacked(t, d, packDataElsewhere(d))
		}
	}
}

// gapBreaches replace the gap at a place by others, after which the gap that
// follows it is as wrong as it was before.
func gapBreaches(place int, wrong ...impl.Gap) []breach[impl.Sack] {
	var list []breach[impl.Sack]
	for _, g := range wrong {
		list = append(list, breach[impl.Sack]{3, impl.ErrForm, func(v *impl.Sack) {
			if place < len(v.Gaps) {
				v.Gaps[place] = g
			}
		}})
	}
	return list
}

func TestSacksWithFaults(t *testing.T) {
	valid := func() impl.Sack {
		return impl.Sack{Cum: 4, Gaps: []impl.Gap{{From: 10, To: 12}, {From: 20, To: 20}, {From: 30, To: 65535}}}
	}
	var counts []breach[impl.Sack]
	for _, count := range []int{21, 22, 38, 39, 100, 256, 257, 276} {
		counts = append(counts, breach[impl.Sack]{2, impl.ErrMany, func(v *impl.Sack) { v.Gaps = gapsFrom(2, 1, 1, count) }})
	}
	sackCodec().wantBreaches(t, valid,
		numberBreaches(1, impl.ErrRange, func(v *impl.Sack) *int64 { return &v.Cum }, noWords()...),
		counts,
		gapBreaches(0, impl.Gap{From: 1, To: 3}, impl.Gap{From: 0, To: 3}, impl.Gap{From: -1, To: 3}, impl.Gap{From: -65534, To: 3}, impl.Gap{},
			impl.Gap{From: 5, To: 4}, impl.Gap{From: 5, To: 0}, impl.Gap{From: 5, To: -1}, impl.Gap{From: 10, To: 19}, impl.Gap{From: 10, To: 20},
			impl.Gap{From: math.MinInt64, To: 12}, impl.Gap{From: math.MaxInt64, To: 12}, impl.Gap{From: 10, To: math.MinInt64}),
		gapBreaches(1, impl.Gap{From: 13, To: 20}, impl.Gap{From: 12, To: 20}, impl.Gap{From: 11, To: 11}, impl.Gap{From: 2, To: 3}, impl.Gap{From: 1, To: 1},
			impl.Gap{From: 20, To: 19}, impl.Gap{From: 20, To: 29}, impl.Gap{From: 20, To: 30}, impl.Gap{From: 20, To: 65535}, impl.Gap{}),
		gapBreaches(2, impl.Gap{From: 30, To: 65536}, impl.Gap{From: 30, To: 65566}, impl.Gap{From: 65536, To: 65536}, impl.Gap{From: 65536 + 30, To: 65536 + 31},
			impl.Gap{From: 65537, To: 65535}, impl.Gap{From: 30, To: math.MaxInt64}, impl.Gap{From: math.MaxInt64, To: math.MaxInt64}, impl.Gap{From: 21, To: 21}))
}

func TestGapsThatTouch(t *testing.T) {
	k := sackCodec()
	for _, to := range []int64{2, 3, 254, 255, 256, 32767, 40000, 65532} {
		for _, size := range []int64{1, 2} {
			for between := int64(-3); between < 3; between++ {
				from := to + 1 + between
				s := impl.Sack{Cum: 7, Gaps: []impl.Gap{{From: 2, To: to}, {From: from, To: from + size - 1}}}
				switch {
				case from+size-1 > 65535 || between <= 0:
					k.wantUnpackable(t, s, impl.ErrForm)
				default:
					k.wantPacked(t, s, packSackElsewhere(s))
				}
			}
		}
	}
	for place := range impl.MaxGaps {
		s := impl.Sack{Cum: 7, Gaps: gapsFrom(2, 2, 1, 20)}
		k.wantPacked(t, s, packSackElsewhere(s))
		// The gap now touches the one before it, and Cum if it is the first.
		s.Gaps[place].From--
		k.wantUnpackable(t, s, impl.ErrForm)
		s.Gaps[place] = impl.Gap{From: 5, To: 4}
		k.wantUnpackable(t, s, impl.ErrForm)
	}
	// After the last number, no gap can follow.
	k.wantUnpackable(t, impl.Sack{Gaps: []impl.Gap{{From: 2, To: 65535}, {From: 65537, To: 65537}}}, impl.ErrForm)
	k.wantUnpackable(t, impl.Sack{Gaps: []impl.Gap{{From: 2, To: 65535}, {From: 2, To: 2}}}, impl.ErrForm)
}

// initBreaches are those of the Init of a greeting with five Addrs.
func initBreaches() []breach[greeting] {
	many := func(rank int, make func(v *greeting)) []breach[greeting] {
		return []breach[greeting]{{rank, impl.ErrMany, make}}
	}
	var sizes [][]breach[greeting]
	for _, size := range []int{0, 1, 15, 17, 32, 272} {
		sizes = append(sizes, many(4, func(v *greeting) { v.Random = make([]byte, size) }))
	}
	for _, count := range []int{0, 6, 7, 10, 256, 257, 261} {
		sizes = append(sizes, many(5, func(v *greeting) { v.Addrs = gapsAsAddrs(count) }))
	}
	for _, size := range []int{101, 102, 160, 256, 257, 356} {
		sizes = append(sizes, many(20, func(v *greeting) { v.Cookie = make([]byte, size) }))
	}
	sizes = append(sizes, many(5, func(v *greeting) { v.Addrs = nil }), many(4, func(v *greeting) { v.Random = nil }))
	for place := range impl.MaxAddrs {
		sizes = append(sizes, addrBreaches(place))
	}
	return slices.Concat(append(sizes,
		numberBreaches(2, impl.ErrRange, func(v *greeting) *int64 { return &v.Tag }, append(noWords(), 0)...),
		numberBreaches(3, impl.ErrRange, func(v *greeting) *int64 { return &v.Tsn }, noWords()...),
	)...)
}

func TestInitsWithFaults(t *testing.T) {
	for _, kind := range []int64{impl.KindInit, impl.KindInitAck} {
		valid := func() greeting {
			i := impl.Init{Tag: 1, Tsn: 2, Random: someData(16, 63), Addrs: []int64{7, 255, 1, 8, 9}, Cookie: []byte{4}}
			return greeting{i, kind}
		}
		initCodec().wantBreaches(t, valid, initBreaches(),
			numberBreaches(1, impl.ErrRange, func(v *greeting) *int64 { return &v.Kind }, notFrom(1, 2)...),
			numberBreaches(1, impl.ErrRange, func(v *greeting) *int64 { return &v.Kind }, someKinds()[3:]...))
	}
}

// gapsAsAddrs returns addresses without a repetition, as long as there are enough.
func gapsAsAddrs(count int) []int64 {
	var addrs []int64
	for _, g := range gapsFrom(1, 1, 0, count) {
		addrs = append(addrs, g.From)
	}
	return addrs
}

// addrBreaches make the address at a place wrong, or one that occurred before.
func addrBreaches(place int) []breach[greeting] {
	at := func(n func(addrs []int64) int64) func(v *greeting) {
		return func(v *greeting) {
			if place < len(v.Addrs) {
				v.Addrs[place] = n(v.Addrs)
			}
		}
	}
	var list []breach[greeting]
	for _, n := range notFrom(1, 255) {
		list = append(list, breach[greeting]{10 + place, impl.ErrRange, at(func([]int64) int64 { return n })})
	}
	for before := range place {
		list = append(list, breach[greeting]{10 + place, impl.ErrTaken, at(func(addrs []int64) int64 { return addrs[before] })})
	}
	return list
}

func TestAFaultOfAnEarlierAddressCounts(t *testing.T) {
	for _, c := range []struct {
		addrs []int64
		want  int64
	}{
		{[]int64{7, 7}, impl.ErrTaken}, {[]int64{7, 7, 0}, impl.ErrTaken}, {[]int64{0, 7, 7}, impl.ErrRange},
		{[]int64{7, 256, 7}, impl.ErrRange}, {[]int64{7, 8, 7, 256}, impl.ErrTaken}, {[]int64{0, 0}, impl.ErrRange},
		{[]int64{256, 256}, impl.ErrRange}, {[]int64{7, -1, 7, 7}, impl.ErrRange}, {[]int64{1, 2, 3, 4, 1}, impl.ErrTaken},
		{[]int64{1, 2, 3, 4, 0}, impl.ErrRange}, {[]int64{1, 2, 3, 3, 0}, impl.ErrTaken}, {[]int64{1, 2, 3, 4, 5, 0}, impl.ErrMany},
		{[]int64{1, 1, 1, 1, 1, 1}, impl.ErrMany}, {[]int64{0, 0, 0, 0, 0, 0}, impl.ErrMany}, {[]int64{1, 257}, impl.ErrRange},
	} {
		for _, kind := range []int64{1, 2} {
			i := impl.Init{Tag: 1, Random: make([]byte, 16), Addrs: c.addrs}
			initCodec().wantUnpackable(t, greeting{i, kind}, c.want)
			i.Cookie = make([]byte, 101)
			initCodec().wantUnpackable(t, greeting{i, kind}, c.want)
			i.Random = make([]byte, 17)
			initCodec().wantUnpackable(t, greeting{i, kind}, impl.ErrMany)
			i.Tsn = -1
			initCodec().wantUnpackable(t, greeting{i, kind}, impl.ErrRange)
		}
	}
}

func TestRequestsWithFaults(t *testing.T) {
	valid := func() impl.Asconf {
		return impl.Asconf{Serial: 5, Ops: []impl.AddrOp{{Kind: 1, Addr: 1}, {Kind: 2, Addr: 255}, {Kind: 3, Addr: 7}, {Kind: 1, Addr: 1}}}
	}
	counts := []breach[impl.Asconf]{{2, impl.ErrMany, func(v *impl.Asconf) { v.Ops = nil }}}
	for _, count := range []int{0, 5, 6, 8, 77, 78, 256, 257, 260} {
		counts = append(counts, breach[impl.Asconf]{2, impl.ErrMany, func(v *impl.Asconf) { v.Ops = slices.Repeat([]impl.AddrOp{{Kind: 1, Addr: 2}}, count) }})
	}
	var ops [][]breach[impl.Asconf]
	for place := range impl.MaxOps {
		op := func(v *impl.Asconf) *impl.AddrOp {
			// Where the list is cut, the change has nothing to act on.
			if place >= len(v.Ops) {
				return &impl.AddrOp{}
			}
			return &v.Ops[place]
		}
		ops = append(ops,
			numberBreaches(3, impl.ErrRange, func(v *impl.Asconf) *int64 { return &op(v).Kind }, notFrom(1, 3)...),
			numberBreaches(3, impl.ErrRange, func(v *impl.Asconf) *int64 { return &op(v).Addr }, notFrom(1, 255)...))
	}
	asconfCodec().wantBreaches(t, valid, append(ops, counts,
		numberBreaches(1, impl.ErrRange, func(v *impl.Asconf) *int64 { return &v.Serial }, noWords()...))...)
}

func TestAnswersWithFaults(t *testing.T) {
	valid := func() impl.Answer {
		return impl.Answer{Serial: 5, Codes: []int64{0, 20, 6, 0}}
	}
	counts := []breach[impl.Answer]{{2, impl.ErrMany, func(v *impl.Answer) { v.Codes = nil }}}
	for _, count := range []int{0, 5, 6, 8, 155, 156, 256, 257, 260} {
		counts = append(counts, breach[impl.Answer]{2, impl.ErrMany, func(v *impl.Answer) { v.Codes = make([]int64, count) }})
	}
	var codes [][]breach[impl.Answer]
	for place := range impl.MaxOps {
		codes = append(codes, numberBreaches(3, impl.ErrRange, func(v *impl.Answer) *int64 {
			if place >= len(v.Codes) {
				return new(int64)
			}
			return &v.Codes[place]
		}, notFrom(0, 20)...))
	}
	answerCodec().wantBreaches(t, valid, append(codes, counts,
		numberBreaches(1, impl.ErrRange, func(v *impl.Answer) *int64 { return &v.Serial }, noWords()...))...)
}

// wantVariants reads chunks that differ from that of a value in their kind, their
// flags, the end of their body, or one byte of it.
func (k codec[T]) wantVariants(t *testing.T, v T) (readable int, unreadable int) {
	t.Helper()
	count := func(c impl.Chunk) {
		if k.wantAsElsewhere(t, c) {
			readable++
		} else {
			unreadable++
		}
	}
	c := k.packElsewhere(v)
	for n := range int64(256) {
		count(impl.Chunk{Kind: n, Flags: c.Flags, Body: c.Body})
		count(impl.Chunk{Kind: c.Kind, Flags: n, Body: c.Body})
	}
	for size := range c.Body {
		count(impl.Chunk{Kind: c.Kind, Flags: c.Flags, Body: c.Body[:size]})
	}
	for _, more := range [][]byte{{0}, {1}, {255}, {0, 0}, {0, 0, 0, 0}, {255, 255, 255, 255}, make([]byte, 30), make([]byte, 200)} {
		count(impl.Chunk{Kind: c.Kind, Flags: c.Flags, Body: slices.Concat(c.Body, more)})
	}
	for place := range c.Body {
		for b := range 256 {
			changed := bytes.Clone(c.Body)
			changed[place] = byte(b)
			count(impl.Chunk{Kind: c.Kind, Flags: c.Flags, Body: changed})
		}
	}
	return readable, unreadable
}

func (k codec[T]) wantAllVariants(t *testing.T, list ...T) {
	t.Helper()
	for _, v := range list {
		readable, unreadable := k.wantVariants(t, v)
		if readable < 256 || unreadable < 256 {
			t.Errorf("%d variants of %+v are readable and %d are not", readable, v, unreadable)
		}
	}
}

func TestVariantsOfChunks(t *testing.T) {
	t.Parallel()
	random := someData(16, 64)
	dataCodec().wantAllVariants(t,
		impl.Data{Tsn: 258, Stream: 3, Seq: 4, First: true, Piece: []byte{9}},
		impl.Data{Stream: 9, Unordered: true, Last: true, Piece: []byte{0, 0}},
		impl.Data{Tsn: impl.MaxWord, Seq: 65535, Piece: someData(100, 65)})
	sackCodec().wantAllVariants(t,
		impl.Sack{Cum: 7},
		impl.Sack{Cum: 5, Gaps: []impl.Gap{{From: 2, To: 3}, {From: 5, To: 5}}},
		impl.Sack{Gaps: gapsFrom(200, 60, 1, 20)})
	for _, kind := range []int64{impl.KindInit, impl.KindInitAck} {
		initCodec().wantAllVariants(t,
			greeting{impl.Init{Tag: 1, Random: random, Addrs: []int64{7}}, kind},
			greeting{impl.Init{Tag: 1 << 24, Tsn: 2, Random: random, Addrs: []int64{2, 1}, Cookie: []byte{5, 3, 1, 0}}, kind},
			greeting{impl.Init{Tag: 9, Tsn: 2, Random: random, Addrs: []int64{1, 2, 3, 4, 5}, Cookie: someData(100, 66)}, kind})
	}
	asconfCodec().wantAllVariants(t,
		impl.Asconf{Serial: 9, Ops: []impl.AddrOp{{Kind: 1, Addr: 4}}},
		impl.Asconf{Serial: 8, Ops: []impl.AddrOp{{Kind: 1, Addr: 1}, {Kind: 2, Addr: 2}, {Kind: 3, Addr: 3}}},
		impl.Asconf{Serial: 7, Ops: slices.Repeat([]impl.AddrOp{{Kind: 3, Addr: 255}}, 4)})
	answerCodec().wantAllVariants(t,
		impl.Answer{Serial: 9, Codes: []int64{0}},
		impl.Answer{Serial: 8, Codes: []int64{2, 1, 0}},
		impl.Answer{Serial: 7, Codes: []int64{20, 20, 20, 20}})
}

func TestCountsThatDoNotMatch(t *testing.T) {
	t.Parallel()
	word := []byte{0, 0, 0, 9}
	for count := range 256 {
		for behind := range 60 {
			zero, ones := make([]byte, behind), bytes.Repeat([]byte{1}, behind)
			rising := []byte{}
			for i := range behind {
				rising = append(rising, byte(i%2*(2+i)))
			}
			for _, rest := range [][]byte{zero, ones, rising} {
				body := slices.Concat(word, []byte{byte(count)}, rest)
				sackCodec().wantAsElsewhere(t, impl.Chunk{Kind: impl.KindSack, Body: body})
				asconfCodec().wantAsElsewhere(t, impl.Chunk{Kind: impl.KindAsconf, Body: body})
				answerCodec().wantAsElsewhere(t, impl.Chunk{Kind: impl.KindAnswer, Body: body})
				// The same bytes behind a random, and behind one address.
				body = slices.Concat(word, word, make([]byte, 16), body[4:])
				initCodec().wantAsElsewhere(t, impl.Chunk{Kind: impl.KindInit, Body: body})
				body = slices.Concat(word, word, make([]byte, 16), []byte{1, 1, byte(count)}, rest)
				initCodec().wantAsElsewhere(t, impl.Chunk{Kind: impl.KindInitAck, Body: body})
			}
		}
	}
}

// readers are the codes of all Read functions, and whether they return nothing else.
func readers(c impl.Chunk) map[string]impl.IntResult {
	d, s, i, q, a := impl.ReadData(c), impl.ReadSack(c), impl.ReadInit(c), impl.ReadAsconf(c), impl.ReadAnswer(c)
	rest := func(v any, none any) int64 {
		if told(v) == told(none) {
			return 0
		}
		return 1
	}
	return map[string]impl.IntResult{
		"ReadData": {Code: d.Code, Value: rest(d.Data, impl.Data{})}, "ReadSack": {Code: s.Code, Value: rest(s.Sack, impl.Sack{})},
		"ReadInit": {Code: i.Code, Value: rest(i.Init, impl.Init{})}, "ReadAsconf": {Code: q.Code, Value: rest(q.Asconf, impl.Asconf{})},
		"ReadAnswer": {Code: a.Code, Value: rest(a.Answer, impl.Answer{})},
	}
}

// wantReader wants that only one of the functions reads the chunk, and that the
// others return the code.
func wantReader(t *testing.T, c impl.Chunk, only string, code int64) {
	t.Helper()
	for name, got := range readers(c) {
		if name == only {
			if got.Code != impl.OK {
				t.Errorf("%s(%+v) has the code %d", name, c, got.Code)
			}
		} else if got != (impl.IntResult{Code: code}) {
			t.Errorf("%s(%+v) has the code %d, want %d and nothing else", name, c, got.Code, code)
		}
	}
}

// wantChunkFaults changes a readable chunk so that it has a ChunkFault.
func wantChunkFaults(t *testing.T, c impl.Chunk) {
	t.Helper()
	for _, n := range badBytes() {
		for _, bad := range []impl.Chunk{{Kind: n, Flags: c.Flags}, {Kind: c.Kind, Flags: n}, {Kind: c.Kind + n, Flags: c.Flags}, {Kind: c.Kind, Flags: c.Flags + n}} {
			if impl.ChunkFault(bad) == impl.OK {
				continue
			}
			for _, body := range [][]byte{nil, c.Body, make([]byte, 160), make([]byte, 161), make([]byte, 500)} {
				bad.Body = body
				wantReader(t, bad, "", impl.ErrRange)
			}
		}
	}
	for _, size := range []int{161, 162, 256, 257, 1000} {
		body := append(bytes.Clone(c.Body), make([]byte, size)...)[:size]
		wantReader(t, impl.Chunk{Kind: c.Kind, Flags: c.Flags, Body: body}, "", impl.ErrMany)
		wantReader(t, impl.Chunk{Kind: c.Kind, Flags: 255, Body: body}, "", impl.ErrMany)
	}
	wantReader(t, impl.Chunk{Kind: c.Kind, Flags: c.Flags}, "", impl.ErrText)
	wantReader(t, impl.Chunk{Kind: c.Kind, Flags: c.Flags, Body: []byte{}}, "", impl.ErrText)
	wantReader(t, impl.Chunk{Kind: c.Kind, Flags: 8, Body: c.Body}, "", impl.ErrText)
}

func TestOnlyOneFunctionReadsAChunk(t *testing.T) {
	for i, d := range someDatas() {
		wantReader(t, packDataElsewhere(d), "ReadData", impl.ErrText)
		if i%20 == 0 {
			wantChunkFaults(t, packDataElsewhere(d))
		}
	}
	for i, s := range someSacks() {
		wantReader(t, packSackElsewhere(s), "ReadSack", impl.ErrText)
		if i%20 == 0 {
			wantChunkFaults(t, packSackElsewhere(s))
		}
	}
	for i, g := range someInits() {
		wantReader(t, packInitElsewhere(g), "ReadInit", impl.ErrText)
		if i%35 == 0 {
			wantChunkFaults(t, packInitElsewhere(g))
		}
	}
	for i, q := range someAsconfs() {
		wantReader(t, packAsconfElsewhere(q), "ReadAsconf", impl.ErrText)
		if i%100 == 0 {
			wantChunkFaults(t, packAsconfElsewhere(q))
		}
	}
	for i, a := range someAnswers() {
		wantReader(t, packAnswerElsewhere(a), "ReadAnswer", impl.ErrText)
		if i%30 == 0 {
			wantChunkFaults(t, packAnswerElsewhere(a))
		}
	}
}

func TestChunksWithoutContents(t *testing.T) {
	bodies := [][]byte{nil, {}, {0}, make([]byte, 9), make([]byte, 27), make([]byte, 160), someData(160, 67)}
	for _, c := range []impl.Chunk{
		packDataElsewhere(someDatas()[20]), packSackElsewhere(someSacks()[7]), packInitElsewhere(someInits()[30]),
		packAsconfElsewhere(someAsconfs()[4]), packAnswerElsewhere(someAnswers()[9]),
	} {
		bodies = append(bodies, c.Body)
	}
	named := []int64{impl.KindData, impl.KindSack, impl.KindInit, impl.KindInitAck, impl.KindAsconf, impl.KindAnswer}
	for kind := range int64(256) {
		if slices.Contains(named, kind) {
			continue
		}
		for _, body := range bodies {
			for _, flags := range []int64{0, 1, 7, 8, 255} {
				wantReader(t, impl.Chunk{Kind: kind, Flags: flags, Body: body}, "", impl.ErrText)
			}
		}
	}
}

// wantShuffled reads bodies with several changes at once.
func (k codec[T]) wantShuffled(t *testing.T, list []T) {
	t.Helper()
	readable, unreadable := 0, 0
	for seed := range uint32(20000) {
		c := k.packElsewhere(list[int(seed)%len(list)])
		steps := someData(8, seed)
		for i := 0; i < 1+int(steps[6]%3); i++ {
			c.Body[int(steps[2*i])*len(c.Body)/256] += steps[2*i+1]%5 - 2
		}
		switch steps[7] % 8 {
		case 0:
			c.Body = c.Body[:len(c.Body)-1]
		case 1:
			c.Body = append(c.Body, steps[6])
		case 2:
			c.Flags ^= int64(steps[6] % 9)
		}
		if k.wantAsElsewhere(t, c) {
			readable++
		} else {
			unreadable++
		}
	}
	if readable < 1000 || unreadable < 1000 {
		t.Errorf("%s: %d chunks are readable and %d are not", k.name, readable, unreadable)
	}
}

func TestReadingWhateverIsNearAChunk(t *testing.T) {
	t.Parallel()
	dataCodec().wantShuffled(t, someDatas())
	sackCodec().wantShuffled(t, someSacks())
	initCodec().wantShuffled(t, someInits())
	asconfCodec().wantShuffled(t, someAsconfs())
	answerCodec().wantShuffled(t, someAnswers())
}

// Bytes behind a list or a body, in its spare capacity, are not part of it.
func TestContentsWithSpareCapacity(t *testing.T) {
	spare := bytes.Repeat([]byte{1}, 300)
	d := impl.Data{Tsn: 1, Piece: spare[:1]}
	dataCodec().wantPacked(t, d, packDataElsewhere(d))
	s := impl.Sack{Cum: 1, Gaps: gapsFrom(2, 1, 1, 30)[:2]}
	sackCodec().wantPacked(t, s, packSackElsewhere(s))
	g := greeting{impl.Init{Tag: 1, Random: spare[:16], Addrs: gapsAsAddrs(9)[:3], Cookie: spare[20:22]}, impl.KindInit}
	initCodec().wantPacked(t, g, packInitElsewhere(g))
	for _, c := range []impl.Chunk{packDataElsewhere(d), packSackElsewhere(s), packInitElsewhere(g)} {
		for size := range c.Body {
			wantReader(t, impl.Chunk{Kind: c.Kind, Body: append(bytes.Clone(c.Body), spare...)[:size]}, "", impl.ErrText)
		}
	}
}
