package tests

import (
	"bytes"
	"math"
	"math/rand"
	"reflect"
	"slices"
	"testing"

	"loop.example/g00670/impl"
)

// Promise 1: every function terminates and returns for all arguments without
// modifying them; results are newly allocated and depend on the arguments only.

// wordCalls returns the results of all functions of chapter 1 for two numbers.
func wordCalls(a int64, b int64) []impl.IntResult {
	less := impl.IntResult{}
	if impl.SerialLess(a, b) {
		less.Value = 1
	}
	return []impl.IntResult{
		impl.AddWords(a, b), impl.RotateWord(a, b), impl.SerialGap(a, b), less,
		impl.WordAt([]byte{1, 2, 3, 4, 5}, a),
	}
}

func TestWordsReturnForAllArguments(t *testing.T) {
	numbers := append(anyNumbers(), 3, 4, 31, 32, 33, 63, 64, math.MaxInt64-3)
	for _, a := range numbers {
		for _, b := range numbers {
			for _, r := range wordCalls(a, b) {
				if r.Value < 0 || r.Value > impl.MaxWord || r.Code != impl.OK && r.Value != 0 {
					t.Errorf("numbers %d and %d: %+v", a, b, r)
				}
			}
		}
		for size := range 9 {
			impl.WordAt(make([]byte, size), a)
		}
		impl.WordAt(nil, a)
		impl.PackWord(a)
	}
}

func TestWordsDependOnTheArgumentsOnly(t *testing.T) {
	var first [][]impl.IntResult
	for _, a := range anyNumbers() {
		for _, b := range anyNumbers() {
			first = append(first, wordCalls(a, b))
		}
	}
	n := 0
	for _, a := range anyNumbers() {
		for _, b := range anyNumbers() {
			for i, r := range wordCalls(a, b) {
				if r != first[n][i] {
					t.Errorf("numbers %d and %d: %+v, and then %+v", a, b, first[n][i], r)
				}
			}
			n++
		}
	}
}

func TestWordAtLeavesItsArgument(t *testing.T) {
	whole := []byte{1, 2, 3, 4, 5, 6, 7, 8, 9, 10}
	before := bytes.Clone(whole)
	for size := range len(whole) + 1 {
		for at := int64(-1); at < 12; at++ {
			impl.WordAt(whole[:size], at)
		}
	}
	if !bytes.Equal(whole, before) {
		t.Errorf("WordAt changed its data to %v", whole)
	}
	first := impl.WordAt(whole, 2)
	clear(whole)
	if first.Value != 50595078 {
		t.Errorf("WordAt(.., 2) = %+v", first)
	}
}

func TestPackWordReturnsNewMemory(t *testing.T) {
	for _, w := range someWords() {
		want := bytes.Clone(impl.PackWord(w).Bytes)
		first, second := impl.PackWord(w).Bytes, impl.PackWord(w).Bytes
		for i := range first {
			first[i] ^= 255
		}
		// What is appended, too, must not be seen elsewhere.
		_ = append(first, 1, 2, 3, 4)
		if !bytes.Equal(second, want) {
			t.Errorf("PackWord(%d) shares memory with an earlier result", w)
		}
		if got := impl.PackWord(w).Bytes; !bytes.Equal(got, want) {
			t.Errorf("PackWord(%d) = %v after a result was changed, want %v", w, got, want)
		}
		if !bytes.Equal(second, want) {
			t.Errorf("PackWord(%d) is changed by a later call", w)
		}
	}
}

// shaCalls returns the results of all functions of chapter 2, numbers as words.
func shaCalls(i int64, data []byte, state []int64, block []byte) ([]impl.BytesResult, []impl.WordsResult) {
	round := impl.RoundWord(i)
	return []impl.BytesResult{impl.PadMessage(data), impl.Sha256(data)},
		[]impl.WordsResult{
			{Code: round.Code, Words: []int64{round.Value}},
			impl.ScheduleOf(block), impl.CompressBlock(state, block),
		}
}

func TestShaReturnsForAllArguments(t *testing.T) {
	numbers := append(anyNumbers(), 62, 63, 64, 65)
	for _, n := range numbers {
		impl.RoundWord(n)
		for count := range 18 {
			for _, size := range []int{0, 1, 63, 64, 65, 128} {
				impl.CompressBlock(slices.Repeat([]int64{n}, count), make([]byte, size))
			}
		}
	}
	for size := range 1500 {
		shaCalls(int64(size), make([]byte, size), make([]int64, size), make([]byte, size))
	}
	shaCalls(0, nil, nil, nil)
}

func TestShaDependsOnTheArgumentsOnly(t *testing.T) {
	var allBytes [][]impl.BytesResult
	var allWords [][]impl.WordsResult
	for range 2 {
		for i, size := range edgeSizes() {
			b, w := shaCalls(int64(i), someData(size, 5), someState(uint32(i)), someData(64, uint32(i)))
			allBytes, allWords = append(allBytes, b), append(allWords, w)
		}
	}
	half := len(allBytes) / 2
	for i := range half {
		if !reflect.DeepEqual(allBytes[i], allBytes[half+i]) {
			t.Errorf("first %v, and then %v", allBytes[i], allBytes[half+i])
		}
		if !reflect.DeepEqual(allWords[i], allWords[half+i]) {
			t.Errorf("first %v, and then %v", allWords[i], allWords[half+i])
		}
	}
}

func TestShaLeavesItsArguments(t *testing.T) {
	for _, size := range append(edgeSizes(), 701, 768) {
		// Room behind the data, in which it could be padded, is not the callee's.
		whole := someData(size+200, 9)
		before := bytes.Clone(whole)
		shaCalls(1, whole[:size], startWords(), whole[:64])
		if !bytes.Equal(whole, before) {
			t.Errorf("data of %d bytes is changed", size)
		}
	}
	for _, block := range someBlocks() {
		for _, state := range append(someStates(), slices.Repeat([]int64{-1}, 8)) {
			room := append(bytes.Clone(block), someData(64, 2)...)
			roomBefore, stateBefore := bytes.Clone(room), slices.Clone(state)
			impl.ScheduleOf(room[:64])
			impl.CompressBlock(state, room[:64])
			if !bytes.Equal(room, roomBefore) || !slices.Equal(state, stateBefore) {
				t.Errorf("the state %v or the block %v is changed", stateBefore, block)
			}
		}
	}
}

func TestShaReturnsNewMemory(t *testing.T) {
	for _, size := range edgeSizes() {
		data := make([]byte, size, size+200)
		copy(data, someData(size, 4))
		state, block := someState(4), someData(64, 4)
		wantedBytes, wantedWords := shaCalls(5, bytes.Clone(data), slices.Clone(state), bytes.Clone(block))
		firstBytes, firstWords := shaCalls(5, data, state, block)
		secondBytes, secondWords := shaCalls(5, data, state, block)
		for _, b := range firstBytes {
			clear(b.Bytes[:cap(b.Bytes)])
		}
		for _, w := range firstWords {
			clear(w.Words[:cap(w.Words)])
		}
		thirdBytes, thirdWords := shaCalls(5, data, state, block)
		clear(data[:cap(data)])
		clear(state)
		clear(block)
		if !reflect.DeepEqual(secondBytes, wantedBytes) || !reflect.DeepEqual(thirdBytes, wantedBytes) {
			t.Errorf("%d bytes: a result shares memory: %v, %v, want %v", size, secondBytes, thirdBytes, wantedBytes)
		}
		if !reflect.DeepEqual(secondWords, wantedWords) || !reflect.DeepEqual(thirdWords, wantedWords) {
			t.Errorf("a result shares memory: %v, %v, want %v", secondWords, thirdWords, wantedWords)
		}
	}
}

// macCalls returns the results of all functions of chapter 3, in bytes and in numbers.
func macCalls(key []byte, data []byte) ([]impl.BytesResult, []impl.IntResult) {
	same := impl.IntResult{}
	if impl.SameMac(key, data) {
		same.Value = 1
	}
	return []impl.BytesResult{impl.HmacSha(key, data)},
		[]impl.IntResult{same, impl.Crc32c(key), impl.Crc32c(data)}
}

func TestMacReturnsForAllArguments(t *testing.T) {
	for size := range 300 {
		for _, count := range []int{0, 1, 31, 32, 33, 64, 500, 599, 600, 601, 700, 701, 5000} {
			macCalls(make([]byte, size), make([]byte, count))
		}
		macCalls(make([]byte, size), nil)
		macCalls(nil, make([]byte, size))
	}
	macCalls(nil, nil)
	for size := range 1500 {
		data := someData(size, 40)
		macCalls(data, data)
	}
}

func TestMacDependsOnTheArgumentsOnly(t *testing.T) {
	var allBytes [][]impl.BytesResult
	var allInts [][]impl.IntResult
	for range 2 {
		for _, size := range append(keySizes(), 201) {
			for _, count := range append(dataSizes(), 32, 601, 700, 701) {
				b, n := macCalls(someData(size, 41), someData(count, 41))
				allBytes, allInts = append(allBytes, b), append(allInts, n)
			}
		}
	}
	half := len(allBytes) / 2
	for i := range half {
		if !reflect.DeepEqual(allBytes[i], allBytes[half+i]) {
			t.Errorf("first %v, and then %v", allBytes[i], allBytes[half+i])
		}
		if !slices.Equal(allInts[i], allInts[half+i]) {
			t.Errorf("first %v, and then %v", allInts[i], allInts[half+i])
		}
	}
}

func TestMacLeavesItsArguments(t *testing.T) {
	for _, size := range append(keySizes(), 201, 300) {
		for _, count := range append(dataSizes(), 32, 601, 700, 701) {
			// The data lie behind the key, where a key could be padded, and there
			// is room behind the data.
			whole := someData(size+count+100, 42)
			before := bytes.Clone(whole)
			macCalls(whole[:size], whole[size:size+count])
			macCalls(whole[count:count+size], whole[:count])
			macCalls(whole[:size], whole[:count])
			if !bytes.Equal(whole, before) {
				t.Errorf("a key of %d bytes or data of %d bytes are changed", size, count)
			}
		}
	}
}

func TestMacOfArgumentsThatShareMemory(t *testing.T) {
	whole := someData(700, 43)
	for _, size := range keySizes() {
		for _, count := range dataSizes() {
			apart := impl.HmacSha(bytes.Clone(whole[:size]), bytes.Clone(whole[:count]))
			wantBytes(t, impl.HmacSha(whole[:size], whole[:count]), apart.Bytes, "HmacSha", size, count)
		}
	}
	if !impl.SameMac(whole[:32], whole[:32]) || impl.SameMac(whole[:32], whole[1:33]) {
		t.Error("SameMac of bytes that share memory")
	}
}

func TestMacReturnsNewMemory(t *testing.T) {
	for _, size := range keySizes() {
		for _, count := range dataSizes() {
			key, data := make([]byte, size, 300), make([]byte, count, 800)
			copy(key, someData(size, 44))
			copy(data, someData(count, 45))
			want := bytes.Clone(impl.HmacSha(key, data).Bytes)
			first, second := impl.HmacSha(key, data).Bytes, impl.HmacSha(key, data).Bytes
			clear(first[:cap(first)])
			third := impl.HmacSha(key, data).Bytes
			clear(key[:cap(key)])
			clear(data[:cap(data)])
			if !bytes.Equal(second, want) || !bytes.Equal(third, want) {
				t.Errorf("%d and %d bytes: a result shares memory: %v, %v, want %v", size, count, second, third, want)
			}
		}
	}
}

// packetResults are the results of all functions of chapter 4.
type packetResults struct {
	chunkFault  int64
	chunk       impl.BytesResult
	packetFault int64
	packet      impl.BytesResult
	read        impl.PacketResult
	action      impl.IntResult
	same        bool
}

func packetCalls(c impl.Chunk, p impl.Packet, data []byte) packetResults {
	return packetResults{
		impl.ChunkFault(c), impl.PackChunk(c), impl.PacketFault(p), impl.PackPacket(p),
		impl.ReadPacket(data), impl.ActionOf(c.Kind), impl.SamePackets(p, impl.Packet{Chunks: []impl.Chunk{c}}),
	}
}

// spoil changes all memory that the results hold, the spare capacity too.
func (r packetResults) spoil() {
	clear(r.chunk.Bytes[:cap(r.chunk.Bytes)])
	clear(r.packet.Bytes[:cap(r.packet.Bytes)])
	chunks := r.read.Packet.Chunks
	for _, c := range chunks {
		clear(c.Body[:cap(c.Body)])
	}
	clear(chunks[:cap(chunks)])
}

func TestPacketsReturnForAllArguments(t *testing.T) {
	t.Parallel()
	numbers := append(anyNumbers(), badBytes()...)
	for _, kind := range numbers {
		for _, flags := range numbers {
			for _, size := range []int{0, 1, 4, 160, 161, 1000} {
				c := impl.Chunk{Kind: kind, Flags: flags, Body: make([]byte, size)}
				packetCalls(c, impl.Packet{Tag: kind, Chunks: []impl.Chunk{c, c}}, c.Body)
			}
		}
		for count := range 20 {
			packetCalls(impl.Chunk{}, impl.Packet{Tag: kind, Chunks: make([]impl.Chunk, count)}, nil)
		}
	}
	packetCalls(impl.Chunk{}, impl.Packet{}, nil)
	for size := range 1500 {
		data := someData(size, 50)
		impl.ReadPacket(data)
		impl.ReadPacket(make([]byte, size))
		if size >= 8 && size <= impl.MaxText {
			impl.ReadPacket(sealed(data))
			impl.ReadPacket(sealed(make([]byte, size)))
		}
	}
	// Every length of a chunk, with every number of bytes behind it.
	for size := range 65536 {
		behind := size%37 + size%8*16
		impl.ReadPacket(sealed(head(), []byte{0, 0, byte(size >> 8), byte(size)}, make([]byte, behind)))
	}
	for size := range 300 {
		for behind := range 300 {
			impl.ReadPacket(sealed(head(), []byte{0, 0, byte(size >> 8), byte(size)}, make([]byte, behind)))
		}
	}
}

func TestPacketsDependOnTheArgumentsOnly(t *testing.T) {
	var results []packetResults
	packets := append(somePackets(), tooLargePackets()...)
	for range 2 {
		for _, p := range packets {
			results = append(results, packetCalls(p.Chunks[0], p, packetElsewhere(p)))
			results = append(results, packetCalls(impl.Chunk{Kind: -1}, impl.Packet{}, sealed(head(), []byte{1})))
		}
	}
	half := len(results) / 2
	for i := range half {
		if !reflect.DeepEqual(results[i], results[half+i]) {
			t.Errorf("first %+v, and then %+v", results[i], results[half+i])
		}
	}
}

func TestPacketsLeaveTheirArguments(t *testing.T) {
	for _, p := range append(somePackets(), tooLargePackets()...) {
		// The bodies lie one behind the other in the same memory, and there is
		// room behind them and behind the chunks.
		var whole []byte
		for _, c := range p.Chunks {
			whole = append(whole, c.Body...)
		}
		whole = append(whole, someData(200, 51)...)
		chunks, rest := make([]impl.Chunk, len(p.Chunks), 20), whole
		for i, c := range p.Chunks {
			chunks[i] = impl.Chunk{Kind: c.Kind, Flags: c.Flags, Body: rest[:len(c.Body)]}
			rest = rest[len(c.Body):]
		}
		data := append(packetElsewhere(p), someData(200, 52)...)
		size := len(data) - 200
		wholeBefore, dataBefore := bytes.Clone(whole), bytes.Clone(data)
		for _, c := range chunks {
			packetCalls(c, impl.Packet{Tag: p.Tag, Chunks: chunks}, data[:size])
			packetCalls(c, impl.Packet{Tag: -1, Chunks: chunks}, data[:size-1])
		}
		if !slices.EqualFunc(chunks, p.Chunks, equalChunks) || !reflect.DeepEqual(chunks[len(chunks):20], make([]impl.Chunk, 20-len(chunks))) {
			t.Errorf("the chunks %+v are changed to %+v", p.Chunks, chunks[:20])
		}
		if !bytes.Equal(whole, wholeBefore) || !bytes.Equal(data, dataBefore) {
			t.Errorf("the bodies or the bytes of %+v are changed", p)
		}
	}
}

func TestUnreadableDataAreLeft(t *testing.T) {
	for _, p := range somePackets() {
		data := packetElsewhere(p)
		for _, bad := range [][]byte{sealed(data[:len(data)-1]), sealed(data, []byte{1, 2, 3, 4}), append(bytes.Clone(data), 0)} {
			before := bytes.Clone(bad)
			if got := impl.ReadPacket(bad); got.Code == impl.OK || !bytes.Equal(bad, before) {
				t.Errorf("ReadPacket(%v) = %+v, and leaves %v", before, got, bad)
			}
		}
	}
}

func TestPacketsReturnNewMemory(t *testing.T) {
	for _, p := range somePackets() {
		own, data := copied(p), packetElsewhere(p)
		want := packetCalls(copied(p).Chunks[0], copied(p), bytes.Clone(data))
		first := packetCalls(own.Chunks[0], own, data)
		second := packetCalls(own.Chunks[0], own, data)
		first.spoil()
		third := packetCalls(own.Chunks[0], own, data)
		clear(data)
		for _, c := range own.Chunks {
			clear(c.Body)
		}
		clear(own.Chunks)
		if !reflect.DeepEqual(second, want) || !reflect.DeepEqual(third, want) {
			t.Errorf("%+v: a result shares memory: %+v, %+v, want %+v", p, second, third, want)
		}
	}
}

func TestBodiesOfAReadPacketShareNoMemory(t *testing.T) {
	for _, p := range somePackets() {
		for place := range p.Chunks {
			read := impl.ReadPacket(packetElsewhere(p)).Packet
			// What lies behind a body must not be the next one.
			body := read.Chunks[place].Body
			for _, b := range [][]byte{body[:cap(body)], append(body, someData(200, 53)...)} {
				for i := range b {
					b[i] ^= 255
				}
			}
			for other, c := range read.Chunks {
				if other != place && !bytes.Equal(c.Body, p.Chunks[other].Body) {
					t.Errorf("%+v: body %d shares memory with body %d", p, other, place)
				}
			}
		}
	}
}

// span is the memory of a slice, the spare capacity too.
type span struct{ from, to uintptr }

// spansOf returns the memory of all slices in a value.
func spansOf(v reflect.Value) []span {
	var list []span
	switch v.Kind() {
	case reflect.Slice:
		if size := uintptr(v.Cap()) * v.Type().Elem().Size(); size > 0 {
			list = append(list, span{v.Pointer(), v.Pointer() + size})
		}
		for i := range v.Len() {
			list = append(list, spansOf(v.Index(i))...)
		}
	case reflect.Struct:
		for i := range v.NumField() {
			list = append(list, spansOf(v.Field(i))...)
		}
	}
	return list
}

// wantNoShare wants that no two slices share memory within the results of two calls,
// nor one of them with the arguments.
func wantNoShare(t *testing.T, arguments any, first any, second any) {
	t.Helper()
	given := spansOf(reflect.ValueOf(arguments))
	results := append(spansOf(reflect.ValueOf(first)), spansOf(reflect.ValueOf(second))...)
	for i, r := range results {
		for _, other := range append(results[:i:i], given...) {
			if r.from < other.to && other.from < r.to {
				t.Errorf("arguments %+v, results %+v and %+v: two slices share memory", arguments, first, second)
				return
			}
		}
	}
}

// roomyValue copies a value so that all lists in it have spare capacity. It sets the
// fields of structs, so they must be exported.
func roomyValue(v reflect.Value) reflect.Value {
	own := reflect.New(v.Type()).Elem()
	own.Set(v)
	switch v.Kind() {
	case reflect.Slice:
		if v.Len() == 0 {
			return own
		}
		list := reflect.MakeSlice(v.Type(), 0, 2*v.Len()+3)
		for i := range list.Cap() {
			list = reflect.Append(list, roomyValue(v.Index(i%v.Len())))
		}
		own.Set(list.Slice(0, v.Len()))
	case reflect.Struct:
		for i := range v.NumField() {
			own.Field(i).Set(roomyValue(v.Field(i)))
		}
	}
	return own
}

// wholeValue is a copy of a value in which all lists reach to their capacity.
func wholeValue(v reflect.Value) reflect.Value {
	own := reflect.New(v.Type()).Elem()
	own.Set(v)
	switch v.Kind() {
	case reflect.Slice:
		list := reflect.MakeSlice(v.Type(), 0, v.Cap())
		for i := range v.Cap() {
			list = reflect.Append(list, wholeValue(v.Slice(0, v.Cap()).Index(i)))
		}
		own.Set(list)
	case reflect.Struct:
		for i := range v.NumField() {
			own.Field(i).Set(wholeValue(v.Field(i)))
		}
	}
	return own
}

// wantPure makes the calls with all arguments, and then with copies of them in the
// opposite order. It wants the same results, in new memory, and the arguments as they
// were.
func wantPure[A any, R any](t *testing.T, all []A, calls func(a A) R) {
	t.Helper()
	var first []string
	for _, a := range all {
		first = append(first, told(calls(a)))
	}
	for i, a := range slices.Backward(all) {
		own := roomyValue(reflect.ValueOf(a)).Interface().(A)
		before := told(wholeValue(reflect.ValueOf(own)).Interface())
		one, two := calls(own), calls(own)
		if told(one) != first[i] || told(two) != first[i] {
			t.Errorf("first %s, then %+v and %+v", first[i], one, two)
		}
		if after := told(wholeValue(reflect.ValueOf(own)).Interface()); after != before {
			t.Errorf("the arguments %s are changed to %s", before, after)
		}
		wantNoShare(t, own, one, two)
	}
}

// contents are arguments of all functions of chapter 5.
type contents struct {
	data   impl.Data
	sack   impl.Sack
	init   impl.Init
	kind   int64
	asconf impl.Asconf
	answer impl.Answer
	chunk  impl.Chunk
}

// contentResults are the results of all functions of chapter 5.
type contentResults struct {
	packedData, packedSack, packedInit, packedAsconf, packedAnswer impl.ChunkResult

	data   impl.DataResult
	sack   impl.SackResult
	init   impl.InitResult
	asconf impl.AsconfResult
	answer impl.AnswerResult
}

func contentCalls(a contents) contentResults {
	return contentResults{
		impl.PackData(a.data), impl.PackSack(a.sack), impl.PackInit(a.init, a.kind), impl.PackAsconf(a.asconf), impl.PackAnswer(a.answer),
		impl.ReadData(a.chunk), impl.ReadSack(a.chunk), impl.ReadInit(a.chunk), impl.ReadAsconf(a.chunk), impl.ReadAnswer(a.chunk),
	}
}

// someContents include ones with a fault, and chunks that cannot be read.
func someContents() []contents {
	datas, sacks, inits, asconfs, answers := someDatas(), someSacks(), someInits(), someAsconfs(), someAnswers()
	var list []contents
	for i := range 400 {
		g := inits[i%len(inits)]
		a := contents{datas[i%len(datas)], sacks[i%len(sacks)], g.Init, g.Kind, asconfs[i%len(asconfs)], answers[i%len(answers)], impl.Chunk{}}
		for _, c := range []impl.Chunk{
			packDataElsewhere(a.data), packSackElsewhere(a.sack), packInitElsewhere(g), packAsconfElsewhere(a.asconf), packAnswerElsewhere(a.answer),
		} {
			a.chunk = c
			list = append(list, a)
			a.chunk.Body = c.Body[:len(c.Body)-1]
			list = append(list, a)
		}
		a.data.Seq, a.data.Unordered = 9, true
		a.sack.Gaps = append(slices.Clone(a.sack.Gaps), impl.Gap{From: 1})
		a.init.Addrs = append(slices.Clone(a.init.Addrs), a.init.Addrs[0])
		a.asconf.Ops = append(slices.Clone(a.asconf.Ops), impl.AddrOp{})
		a.answer.Codes = append(slices.Clone(a.answer.Codes), -1)
		a.chunk.Body = someData(160+i%2, uint32(i))
		list = append(list, a)
	}
	return append(list, contents{}, contents{kind: 1, chunk: impl.Chunk{Kind: -1}})
}

// roomy returns a copy with spare capacity, in which the elements are repeated.
func roomy[T any](list []T) []T {
	return append(slices.Clone(list), slices.Repeat(list, 20)...)[:len(list)]
}

// roomyContents returns a copy of the arguments with spare capacity behind each list.
func roomyContents(a contents) contents {
	a.data.Piece, a.sack.Gaps, a.init.Addrs = roomy(a.data.Piece), roomy(a.sack.Gaps), roomy(a.init.Addrs)
	a.init.Random, a.init.Cookie = roomy(a.init.Random), roomy(a.init.Cookie)
	a.asconf.Ops, a.answer.Codes, a.chunk.Body = roomy(a.asconf.Ops), roomy(a.answer.Codes), roomy(a.chunk.Body)
	return a
}

// extended shows the spare capacity too.
func (a contents) extended() string {
	a.data.Piece, a.sack.Gaps, a.init.Addrs = a.data.Piece[:cap(a.data.Piece)], a.sack.Gaps[:cap(a.sack.Gaps)], a.init.Addrs[:cap(a.init.Addrs)]
	a.init.Random, a.init.Cookie = a.init.Random[:cap(a.init.Random)], a.init.Cookie[:cap(a.init.Cookie)]
	a.asconf.Ops, a.answer.Codes, a.chunk.Body = a.asconf.Ops[:cap(a.asconf.Ops)], a.answer.Codes[:cap(a.answer.Codes)], a.chunk.Body[:cap(a.chunk.Body)]
	return told(a)
}

func TestContentsReturnForAllArguments(t *testing.T) {
	numbers := append(anyNumbers(), badBytes()...)
	for i, n := range numbers {
		m := numbers[(i*7+3)%len(numbers)]
		for _, size := range []int{0, 1, 4, 5, 16, 20, 21, 100, 101, 1000} {
			data := make([]byte, size)
			contentCalls(contents{
				data: impl.Data{Tsn: n, Stream: m, Seq: n, Unordered: true, Piece: data},
				sack: impl.Sack{Cum: n, Gaps: slices.Repeat([]impl.Gap{{From: n, To: m}, {From: m, To: n}}, size)},
				init: impl.Init{Tag: n, Tsn: m, Random: data, Addrs: slices.Repeat([]int64{n, m}, size), Cookie: data},
				kind: m, asconf: impl.Asconf{Serial: n, Ops: slices.Repeat([]impl.AddrOp{{Kind: n, Addr: m}}, size)},
				answer: impl.Answer{Serial: n, Codes: slices.Repeat([]int64{m}, size)},
				chunk:  impl.Chunk{Kind: n, Flags: m, Body: data},
			})
			contentCalls(contents{
				data: impl.Data{Tsn: 1, Piece: data}, sack: impl.Sack{Gaps: []impl.Gap{{From: 2, To: n}, {From: m, To: 9}}},
				init: impl.Init{Tag: 1, Random: make([]byte, 16), Addrs: []int64{n, m}, Cookie: data},
				kind: 1, asconf: impl.Asconf{Ops: []impl.AddrOp{{Kind: 1, Addr: n}}}, answer: impl.Answer{Codes: []int64{n}},
				chunk: impl.Chunk{Kind: n, Body: data},
			})
		}
	}
	contentCalls(contents{})
	for kind := range int64(256) {
		for size := range 180 {
			contentCalls(contents{chunk: impl.Chunk{Kind: kind, Flags: int64(size % 9), Body: someData(size, uint32(kind))}})
			contentCalls(contents{chunk: impl.Chunk{Kind: kind, Body: bytes.Repeat([]byte{255}, size)}})
		}
	}
}

func TestContentsDependOnTheArgumentsOnly(t *testing.T) {
	list := someContents()
	first := make([]contentResults, len(list))
	for i, a := range list {
		first[i] = contentCalls(a)
	}
	for i, a := range slices.Backward(list) {
		if got := contentCalls(a); !reflect.DeepEqual(got, first[i]) {
			t.Errorf("first %+v, and then %+v", first[i], got)
		}
		if got := contentCalls(roomyContents(a)); told(got) != told(first[i]) {
			t.Errorf("%+v, and with spare capacity %+v", first[i], got)
		}
	}
}

func TestContentsLeaveTheirArguments(t *testing.T) {
	t.Parallel()
	for _, a := range someContents() {
		own := roomyContents(a)
		before := own.extended()
		contentCalls(own)
		if own.extended() != before {
			t.Errorf("the arguments %+v are changed to %+v", before, own)
		}
	}
}

func TestContentsReturnNewMemory(t *testing.T) {
	for _, a := range someContents() {
		own := roomyContents(a)
		wantNoShare(t, own, contentCalls(own), contentCalls(own))
	}
}

func TestContentsOfArgumentsThatShareMemory(t *testing.T) {
	whole := someData(100, 70)
	i := impl.Init{Tag: 3, Tsn: 4, Random: whole[:16], Addrs: []int64{5}, Cookie: whole}
	want := packInitElsewhere(greeting{impl.Init{Tag: 3, Tsn: 4, Random: bytes.Clone(whole[:16]), Addrs: []int64{5}, Cookie: bytes.Clone(whole)}, 1})
	if got := impl.PackInit(i, 1); got.Code != impl.OK || !equalChunks(got.Chunk, want) {
		t.Errorf("PackInit of bytes that share memory = %+v, want %+v", got, want)
	}
	read := impl.ReadInit(want).Init
	clear(read.Random)
	if !bytes.Equal(read.Cookie, whole) {
		t.Errorf("the cookie %v shares memory with the random", read.Cookie)
	}
}

// keyArguments are arguments of all functions of chapter 6.
type keyArguments struct {
	list  []impl.Secret
	other []impl.Secret
	put   impl.Secret
	init  impl.Init
	id    int64
	bytes []byte
	a, b  []byte
}

// keyResults are the results of all functions of chapter 6.
type keyResults struct {
	fault     int64
	vector    impl.BytesResult
	joined    impl.BytesResult
	key       impl.BytesResult
	list      impl.SecretsResult
	same      bool
	sameOther bool
}

func keyCalls(k keyArguments) keyResults {
	return keyResults{
		impl.SecretsFault(k.list), impl.VectorOf(k.init), impl.JoinKey(k.bytes, k.a, k.b), impl.KeyOf(k.list, k.id, k.a, k.b),
		impl.PutSecret(k.list, k.put), impl.SameSecrets(k.list, k.list), impl.SameSecrets(k.list, k.other),
	}
}

// someKeyArguments include ones with a fault.
func someKeyArguments() []keyArguments {
	lists, pairs, inits := someSecrets(), vectorPairs(), someInits()
	for text := range faultyLists() {
		lists = append(lists, listOf(text))
	}
	var all []keyArguments
	for i, list := range lists {
		pair := pairs[i%len(pairs)]
		k := keyArguments{list: list, other: lists[(i+1)%len(lists)], init: inits[i%len(inits)].Init, a: pair[0], b: pair[1]}
		k.bytes = someData(i%41, 90)
		for _, id := range []int64{0, 1, 2, 51, 98, 99, 100} {
			for _, size := range []int{0, 7, 40, 41} {
				k.id, k.put = id, secretOf(id, size)
				all = append(all, k)
			}
		}
		k.a, k.bytes = k.a[:19], someData(41, 91)
		k.init.Random = k.init.Random[:15]
		all = append(all, k)
	}
	return append(all, keyArguments{})
}

// roomySecrets returns a copy with spare capacity behind the list and all bytes.
func roomySecrets(list []impl.Secret) []impl.Secret {
	own := copiedSecrets(list)
	for i, s := range own {
		own[i].Bytes = roomy(s.Bytes)
	}
	return slices.Repeat(own, 2)[:len(own)]
}

// extendedSecrets shows the spare capacity too.
func extendedSecrets(list []impl.Secret) []impl.Secret {
	own := slices.Clone(list[:cap(list)])
	for i, s := range own {
		own[i].Bytes = s.Bytes[:cap(s.Bytes)]
	}
	return own
}

func roomyKeyArguments(k keyArguments) keyArguments {
	k.list, k.other = roomySecrets(k.list), roomySecrets(k.other)
	k.put.Bytes, k.bytes, k.a, k.b = roomy(k.put.Bytes), roomy(k.bytes), roomy(k.a), roomy(k.b)
	k.init.Random, k.init.Addrs, k.init.Cookie = roomy(k.init.Random), roomy(k.init.Addrs), roomy(k.init.Cookie)
	return k
}

// extended shows the spare capacity too.
func (k keyArguments) extended() string {
	k.list, k.other = extendedSecrets(k.list), extendedSecrets(k.other)
	k.put.Bytes, k.bytes, k.a, k.b = k.put.Bytes[:cap(k.put.Bytes)], k.bytes[:cap(k.bytes)], k.a[:cap(k.a)], k.b[:cap(k.b)]
	k.init.Random, k.init.Addrs, k.init.Cookie = k.init.Random[:cap(k.init.Random)], k.init.Addrs[:cap(k.init.Addrs)], k.init.Cookie[:cap(k.init.Cookie)]
	return told(k)
}

func TestKeysReturnForAllArguments(t *testing.T) {
	numbers := append(anyNumbers(), badIds()...)
	for i, n := range numbers {
		m := numbers[(i*7+3)%len(numbers)]
		for _, size := range []int{0, 1, 4, 5, 16, 20, 21, 40, 41, 1000} {
			data := make([]byte, size)
			list := slices.Repeat([]impl.Secret{{Id: n, Bytes: data}, {Id: m}}, size)
			keyCalls(keyArguments{
				list: list, other: list[:size], put: impl.Secret{Id: m, Bytes: data}, id: n, bytes: data, a: data, b: data,
				init: impl.Init{Tag: n, Tsn: m, Random: data, Addrs: slices.Repeat([]int64{n, m}, size), Cookie: data},
			})
			keyCalls(keyArguments{
				list: []impl.Secret{{Id: n, Bytes: data}}, put: impl.Secret{Id: n, Bytes: data}, id: n, bytes: data, a: make([]byte, 20), b: data,
				init: impl.Init{Tag: 1, Random: make([]byte, 16), Addrs: []int64{n}, Cookie: data},
			})
			keyCalls(keyArguments{list: []impl.Secret{{Id: 0}, {Id: n}, {Id: m, Bytes: data}}, id: m, a: make([]byte, 20), b: make([]byte, 20)})
		}
	}
	keyCalls(keyArguments{})
	keyCalls(keyArguments{list: []impl.Secret{}, other: []impl.Secret{{}}, bytes: []byte{}, a: []byte{}, b: []byte{}})
}

func TestKeysDependOnTheArgumentsOnly(t *testing.T) {
	list := someKeyArguments()
	first := make([]keyResults, len(list))
	for i, k := range list {
		first[i] = keyCalls(k)
	}
	for i, k := range slices.Backward(list) {
		// A map that is ranged over in another order must not be seen.
		for range 3 {
			if got := keyCalls(k); told(got) != told(first[i]) {
				t.Errorf("first %+v, and then %+v", first[i], got)
			}
		}
		if got := keyCalls(roomyKeyArguments(k)); told(got) != told(first[i]) {
			t.Errorf("%+v, and with spare capacity %+v", first[i], got)
		}
	}
}

func TestKeysLeaveTheirArguments(t *testing.T) {
	t.Parallel()
	for _, k := range someKeyArguments() {
		own := roomyKeyArguments(k)
		before := own.extended()
		keyCalls(own)
		if own.extended() != before {
			t.Errorf("the arguments %+v are changed to %+v", before, own)
		}
	}
}

func TestKeysReturnNewMemory(t *testing.T) {
	for _, k := range someKeyArguments() {
		own := roomyKeyArguments(k)
		wantNoShare(t, own, keyCalls(own), keyCalls(own))
	}
}

func TestKeysOfArgumentsThatShareMemory(t *testing.T) {
	whole := someData(100, 92)
	for from := range 80 {
		for size := range 41 {
			secret, a, b := whole[:size], whole[from:from+20], whole[10:30]
			want := keyElsewhere(bytes.Clone(secret), bytes.Clone(a), bytes.Clone(b))
			wantBytes(t, impl.JoinKey(secret, a, b), want, "JoinKey", secret, a, b)
			wantBytes(t, impl.KeyOf([]impl.Secret{{Id: 5, Bytes: secret}}, 5, a, b), want, "KeyOf", secret, a, b)
		}
	}
	// All secrets have the same bytes in the same memory, and the one put has them too.
	list := []impl.Secret{{Id: 1, Bytes: whole[:9]}, {Id: 2, Bytes: whole[:9]}, {Id: 3, Bytes: whole[:9]}}
	for id := range int64(5) {
		s := impl.Secret{Id: id, Bytes: whole[:9]}
		first, second := impl.PutSecret(list, s), impl.PutSecret(list, s)
		wantNoShare(t, list, first, second)
		wantSecrets(t, first, putElsewhere(list, s).List, list, s)
	}
	i := impl.Init{Tag: 3, Random: whole[:16], Addrs: []int64{5}, Cookie: whole}
	wantBytes(t, impl.VectorOf(i), vectorElsewhere(i), "VectorOf", i)
}

// authArguments are arguments of all functions of chapter 7. The digests of the tagged
// chunks may be wrong.
type authArguments struct {
	id     int64
	key    []byte
	chunks []impl.Chunk
	tagged []impl.Chunk
}

// authResults are the results of all functions of chapter 7.
type authResults struct {
	needs     bool
	text      impl.BytesResult
	protected impl.ChunksResult
	found     impl.AuthResult
	checked   impl.AuthResult
}

func authCalls(a authArguments) authResults {
	return authResults{
		impl.NeedsAuth(a.id), impl.MacText(a.id, a.chunks), impl.ProtectChunks(a.id, a.key, a.chunks),
		impl.FindAuth(a.tagged), impl.CheckAuth(a.key, a.tagged),
	}
}

// someAuthArguments include ones with a fault.
func someAuthArguments() []authArguments {
	lists := slices.Concat(someChunkLists(), tooLargeTexts(), [][]impl.Chunk{make([]impl.Chunk, 8), {{Kind: 256}}, {{}, {Body: make([]byte, 161)}}})
	keys := append(authKeys(), longKeys()[0])
	var all []authArguments
	for i, list := range lists {
		key := keys[i%len(keys)]
		for _, id := range []int64{0, 3, 99, 100} {
			protected := protectElsewhere(id, key, list)
			a := authArguments{id: id, key: key, chunks: list, tagged: protected}
			all = append(all, a)
			a.tagged = slices.Concat(chunksOf(3, 0), protected)
			all = append(all, a)
			a.tagged = changedChunks(protected, 0, func(c *impl.Chunk) { c.Body[20] ^= 1 })
			all = append(all, a)
			a.tagged = list
			all = append(all, a)
		}
	}
	return append(all, authArguments{})
}

// roomyChunks returns a copy with spare capacity behind the list and all bodies.
func roomyChunks(list []impl.Chunk) []impl.Chunk {
	own := copiedChunks(list)
	for i, c := range own {
		own[i].Body = roomy(c.Body)
	}
	return slices.Repeat(own, 2)[:len(own)]
}

// extendedChunks shows the spare capacity too.
func extendedChunks(list []impl.Chunk) []impl.Chunk {
	own := slices.Clone(list[:cap(list)])
	for i, c := range own {
		own[i].Body = c.Body[:cap(c.Body)]
	}
	return own
}

func roomyAuthArguments(a authArguments) authArguments {
	return authArguments{a.id, roomy(a.key), roomyChunks(a.chunks), roomyChunks(a.tagged)}
}

// extended shows the spare capacity too.
func (a authArguments) extended() string {
	return told(authArguments{a.id, a.key[:cap(a.key)], extendedChunks(a.chunks), extendedChunks(a.tagged)})
}

func TestAuthReturnsForAllArguments(t *testing.T) {
	numbers := slices.Concat(anyNumbers(), badBytes(), badIds(), []int64{impl.KindAuth})
	for i, n := range numbers {
		m := numbers[(i*7+3)%len(numbers)]
		for _, size := range []int{0, 1, 2, 32, 33, 34, 35, 160, 161, 200, 201, 1000} {
			data := make([]byte, size)
			for _, c := range []impl.Chunk{{Kind: n, Flags: m, Body: data}, {Kind: impl.KindAuth, Flags: n, Body: data}, {Kind: impl.KindAuth, Body: data}} {
				for _, count := range []int{0, 1, 2, 7, 8, 9, 300} {
					chunks := slices.Repeat([]impl.Chunk{c}, count)
					authCalls(authArguments{n, data, chunks, chunks})
					authCalls(authArguments{3, nil, append([]impl.Chunk{{}}, chunks...), append(chunks, impl.Chunk{Kind: impl.KindAuth, Body: data})})
				}
			}
		}
	}
	authCalls(authArguments{})
	authCalls(authArguments{key: []byte{}, chunks: []impl.Chunk{}, tagged: []impl.Chunk{}})
}

func TestAuthDependsOnTheArgumentsOnly(t *testing.T) {
	list := someAuthArguments()
	first := make([]authResults, len(list))
	for i, a := range list {
		first[i] = authCalls(a)
	}
	for i, a := range slices.Backward(list) {
		if got := authCalls(a); told(got) != told(first[i]) {
			t.Errorf("first %+v, and then %+v", first[i], got)
		}
		if got := authCalls(roomyAuthArguments(a)); told(got) != told(first[i]) {
			t.Errorf("%+v, and with spare capacity %+v", first[i], got)
		}
	}
}

func TestAuthLeavesItsArguments(t *testing.T) {
	t.Parallel()
	for _, a := range someAuthArguments() {
		own := roomyAuthArguments(a)
		before := own.extended()
		authCalls(own)
		if own.extended() != before {
			t.Errorf("the arguments %+v are changed to %+v", before, own)
		}
	}
}

func TestAuthReturnsNewMemory(t *testing.T) {
	for _, a := range someAuthArguments() {
		own := roomyAuthArguments(a)
		wantNoShare(t, own, authCalls(own), authCalls(own))
	}
}

func TestAuthOfArgumentsThatShareMemory(t *testing.T) {
	whole := someData(200, 93)
	for size := range 150 {
		// All bodies and the key lie in the same memory.
		chunks := []impl.Chunk{{Kind: 193, Body: whole[:size]}, {Kind: 128, Body: whole[:size]}, {Kind: 15, Body: whole[size/2 : size]}}
		first, second := impl.ProtectChunks(9, whole, chunks), impl.ProtectChunks(9, whole, chunks)
		wantNoShare(t, authArguments{9, whole, chunks, nil}, first, second)
		wantProtected(t, 9, whole, chunks)
	}
	// What is protected twice shares no memory with what is protected once.
	once := impl.ProtectChunks(1, whole, chunksOf(4, 5))
	twice := impl.ProtectChunks(2, whole, once.Chunks)
	wantNoShare(t, whole, once, twice)
	wantPass(t, whole, twice.Chunks, 2, 1)
	wantPass(t, whole, twice.Chunks[1:], 1, 1)
	// The tag chunk's digest and the chunk behind it lie in the same memory.
	digest := macElsewhere(nil, textElsewhere(5, []impl.Chunk{{Body: whole[:9]}}))
	joined := slices.Concat([]byte{0, 5}, digest, whole[:9])
	wantPass(t, nil, []impl.Chunk{{Kind: 15, Body: joined[:34]}, {Body: joined[34:]}}, 5, 1)
}

// pieceArguments are arguments of all functions of chapter 8.
type pieceArguments struct {
	Message       impl.Message
	Size          int64
	Tsn           int64
	Seq           int64
	List          []impl.Data
	OtherList     []impl.Data
	Messages      []impl.Message
	OtherMessages []impl.Message
}

// pieceResults are the results of all functions of chapter 8.
type pieceResults struct {
	fault        int64
	cut          impl.DatasResult
	joined       impl.MessageResult
	sameMessages bool
	sameDatas    bool
}

func pieceCalls(a pieceArguments) pieceResults {
	return pieceResults{
		impl.MessageFault(a.Message), impl.CutMessage(a.Message, a.Size, a.Tsn, a.Seq), impl.JoinPieces(a.List),
		impl.SameMessages(a.Messages, a.OtherMessages), impl.SameDatas(a.List, a.OtherList),
	}
}

// somePieceArguments include ones with a fault.
func somePieceArguments() []pieceArguments {
	var all []pieceArguments
	messages := append(someMessages(), impl.Message{}, messageOf(10, 9), messageOf(3, 401))
	for i, m := range messages {
		others := []impl.Message{m, messages[(i+1)%len(messages)]}
		for _, size := range []int64{3, 4, 33, 100, 101} {
			a := pieceArguments{Message: m, Size: size, Tsn: impl.MaxWord - 2, Messages: others, OtherMessages: slices.Clone(others)}
			a.List = piecesOfSizes(int64(i), slices.Repeat([]int{i%9 + 1}, int(size))...)
			a.OtherList = copiedDatas(a.List)
			all = append(all, a)
			a.Seq, a.List, a.OtherMessages = size, append(a.List[1:], a.List[0]), nil
			all = append(all, a)
			a.List, a.Tsn = anyDatas(), -1
			all = append(all, a)
			a.List = piecesOfSizes(int64(i), i*3+1)
			all = append(all, a)
		}
	}
	return append(all, pieceArguments{})
}

func TestPiecesReturnForAllArguments(t *testing.T) {
	numbers := append(anyNumbers(), badBytes()...)
	for i, n := range numbers {
		m := numbers[(i*7+3)%len(numbers)]
		for _, size := range []int{0, 1, 4, 100, 101, 400, 401, 1000} {
			data := make([]byte, size)
			for _, loose := range []bool{false, true} {
				message := impl.Message{Stream: n, Unordered: loose, Bytes: data}
				list := slices.Repeat([]impl.Data{{Tsn: n, Stream: m, Seq: n, First: loose, Unordered: loose, Piece: data}, {Tsn: m, Last: true}}, size)
				pieceCalls(pieceArguments{message, n, m, n, list, list, []impl.Message{message}, []impl.Message{message}})
				message.Stream = 3
				for _, k := range numbers {
					pieceCalls(pieceArguments{Message: message, Size: k, List: list[:min(1, size)]})
					pieceCalls(pieceArguments{Message: message, Size: 4, Tsn: n, Seq: k, List: []impl.Data{{Tsn: k, Stream: 1, Piece: data}}})
				}
			}
		}
	}
	pieceCalls(pieceArguments{})
	pieceCalls(pieceArguments{Message: impl.Message{Bytes: []byte{}}, List: []impl.Data{}, Messages: []impl.Message{}})
}

func TestPiecesAreThoseOfTheArgumentsOnly(t *testing.T) {
	t.Parallel()
	wantPure(t, somePieceArguments(), pieceCalls)
}

func TestWhatLiesBehindAPieceIsNotTheNextOne(t *testing.T) {
	m := messageOf(2, 30)
	for place := range 8 {
		list := impl.CutMessage(m, 4, 5, 6).Datas
		piece := list[place].Piece
		for _, b := range [][]byte{piece[:cap(piece)], append(piece, someData(200, 94)...)} {
			for i := range b {
				b[i] ^= 255
			}
		}
		for other, d := range cutElsewhere(cutCase{m, 4, 5, 6}) {
			if other != place && !bytes.Equal(list[other].Piece, d.Piece) {
				t.Errorf("piece %d shares memory with piece %d", other, place)
			}
		}
	}
}

func TestPiecesOfArgumentsThatShareMemory(t *testing.T) {
	whole := someData(100, 95)
	// All pieces lie in the same memory, and the message has them one by one.
	for size := 1; size <= 100; size++ {
		list := piecesOfSizes(7, 1, 1, 1, 1)
		for i := range list {
			list[i].Piece = whole[:size]
		}
		first, second := impl.JoinPieces(list), impl.JoinPieces(list)
		wantNoShare(t, list, first, second)
		wantJoined(t, list, impl.Message{Stream: 6, Bytes: bytes.Repeat(bytes.Clone(whole[:size]), 4)})
	}
	list := impl.CutMessage(impl.Message{Bytes: whole}, 40, 1, 2).Datas
	wantNoShare(t, whole, list, impl.JoinPieces(list))
}

// recvArguments are arguments of all functions of chapter 9.
type recvArguments struct {
	Cum       int64
	Recv      impl.Recv
	OtherRecv impl.Recv
	Data      impl.Data
}

// recvResults are the results of all functions of chapter 9.
type recvResults struct {
	fault int64
	fresh impl.RecvResult
	taken impl.RecvResult
	sack  impl.SackResult
	same  bool
}

func recvCalls(a recvArguments) recvResults {
	return recvResults{
		impl.RecvFault(a.Recv), impl.NewRecv(a.Cum), impl.TakeData(a.Recv, a.Data), impl.SackOf(a.Recv), impl.SameRecvs(a.Recv, a.OtherRecv),
	}
}

// someRecvArguments include ones with a fault.
func someRecvArguments() []recvArguments {
	var all []recvArguments
	for i, cum := range someWords() {
		full := newRecv(cum)
		full.Pieces = behind(cum, 64)
		done := newRecv(cum)
		done.Pieces = []impl.Data{wholePiece(stepsFrom(cum, -1), 1), wholePiece(cum, 0), wholePiece(stepsFrom(cum, 2), 2)}
		done.Beyond = stepsOf(cum, 2, 3, 5)
		for _, r := range []impl.Recv{newRecv(cum), waiting(cum, 2, 3, 9, 16), waiting(cum, 2), full, done, validRecv(), {Cum: cum}} {
			a := recvArguments{Cum: cum, Recv: r, OtherRecv: copiedRecv(r)}
			for _, distance := range []int64{1, 2, 3, 16, 0, 17, half, int64(i)} {
				for _, d := range []impl.Data{wholePiece(stepsFrom(r.Cum, distance), 0), loosePiece(stepsFrom(r.Cum, distance)), middlePiece(stepsFrom(r.Cum, distance))} {
					a.Data = d
					all = append(all, a)
				}
			}
			a.Cum, a.OtherRecv, a.Data.Stream = -1, impl.Recv{}, 10
			all = append(all, a)
			a.Recv = copiedRecv(r)
			a.Recv.Pieces = append(a.Recv.Pieces, impl.Data{Tsn: -1, Piece: []byte{1}})
			all = append(all, a)
		}
	}
	return append(all, recvArguments{})
}

func TestReceiversReturnForAllArguments(t *testing.T) {
	numbers := append(anyNumbers(), badBytes()...)
	for i, n := range numbers {
		for j, m := range numbers {
			d := impl.Data{Tsn: m, Stream: n, Seq: m, First: i%2 == 0, Last: j%2 == 0, Unordered: i%3 == 0, Piece: make([]byte, i)}
			e := d
			e.Stream, e.Seq, e.Piece = int64(i%10), 0, []byte{1}
			for _, count := range []int{0, 1, 2, 10, 17, 65} {
				r := impl.Recv{Cum: n, Beyond: slices.Repeat([]int64{m}, count), Pieces: slices.Repeat([]impl.Data{d, e}, count), Next: slices.Repeat([]int64{m}, count)}
				recvCalls(recvArguments{n, r, r, d})
				r.Next = make([]int64, 10)
				recvCalls(recvArguments{m, r, r, e})
				r.Beyond = nil
				recvCalls(recvArguments{m, r, r, e})
				r.Pieces = r.Pieces[:min(1, count)]
				recvCalls(recvArguments{m, r, impl.Recv{}, e})
			}
		}
	}
	recvCalls(recvArguments{})
	recvCalls(recvArguments{Recv: impl.Recv{Beyond: []int64{}, Pieces: []impl.Data{}, Next: []int64{}}})
}

func TestReceiversDependOnTheArgumentsOnly(t *testing.T) {
	t.Parallel()
	wantPure(t, someRecvArguments(), recvCalls)
}

func TestReceiversOfArgumentsThatShareMemory(t *testing.T) {
	whole := someData(9, 96)
	for size := 1; size <= 9; size++ {
		// The pieces that wait, the one that arrives and the messages have the same bytes.
		r := waiting(6, 2, 3, 4)
		for i := range r.Pieces {
			r.Pieces[i].Piece = whole[:size]
			r.Pieces[i].First, r.Pieces[i].Last, r.Pieces[i].Unordered, r.Pieces[i].Seq = i < 2, i < 2, i < 2, 0
		}
		d := loosePiece(7)
		d.Piece = whole[:size]
		want := takeElsewhere(copiedRecv(r), d)
		first, second := impl.TakeData(r, d), impl.TakeData(r, d)
		wantNoShare(t, recvArguments{Recv: r, Data: d}, first, second)
		if len(want.Messages) != 3 || len(want.Recv.Pieces) != 1 || !equalTakes(first, want) {
			t.Errorf("TakeData(%+v, %+v) = %+v, want %+v", r, d, first, want)
		}
	}
	// Beyond and Next lie in the same memory.
	numbers := []int64{3, 4, 6, 8, 9, 10, 12, 13, 15, 16}
	for count := range numbers {
		r := impl.Recv{Beyond: numbers[:count], Next: numbers}
		for _, d := range []impl.Data{loosePiece(1), loosePiece(2), {Tsn: 5, Stream: 4, Seq: 9, First: true, Last: true, Piece: whole}} {
			want := takeElsewhere(copiedRecv(r), d)
			got := impl.TakeData(r, d)
			wantNoShare(t, recvArguments{Recv: r, Data: d}, got, impl.SackOf(r))
			if want.Code != impl.OK || !equalTakes(got, want) {
				t.Errorf("TakeData(%+v, %+v) = %+v, want %+v", r, d, got, want)
			}
		}
	}
}

func TestAReceiverStaysAsItWas(t *testing.T) {
	// A receiver is used after others were made of it.
	r := waiting(impl.MaxWord-3, 2, 3, 4, 6)
	before := copiedRecv(r)
	var later []impl.Recv
	for distance := int64(1); distance <= 16; distance++ {
		later = append(later, impl.TakeData(r, loosePiece(stepsFrom(r.Cum, distance))).Recv)
	}
	for _, own := range later {
		for _, list := range [][]int64{own.Beyond[:cap(own.Beyond)], own.Next[:cap(own.Next)]} {
			clear(list)
		}
		for _, d := range own.Pieces[:cap(own.Pieces)] {
			clear(d.Piece[:cap(d.Piece)])
		}
		clear(own.Pieces[:cap(own.Pieces)])
	}
	if !equalRecvs(r, before) {
		t.Errorf("the receiver %+v is changed to %+v", before, r)
	}
}

// sendArguments are arguments of all functions of chapter 10.
type sendArguments struct {
	Tsn       int64
	Send      impl.Send
	OtherSend impl.Send
	Message   impl.Message
	Size      int64
	Now       int64
	Rto       int64
	Most      int64
	Sack      impl.Sack
}

// sendResults are the results of all functions of chapter 10.
type sendResults struct {
	fault   int64
	fresh   impl.SendResult
	pushed  impl.SendResult
	emitted impl.SendResult
	acked   impl.SendResult
	left    impl.IntResult
	same    bool
}

func sendCalls(a sendArguments) sendResults {
	return sendResults{
		impl.SendFault(a.Send), impl.NewSend(a.Tsn), impl.PushMessage(a.Send, a.Message, a.Size), impl.EmitDatas(a.Send, a.Now, a.Rto, a.Most),
		impl.TakeSack(a.Send, a.Sack), impl.LeftIn(a.Send), impl.SameSends(a.Send, a.OtherSend),
	}
}

// someSendArguments include ones with a fault.
func someSendArguments() []sendArguments {
	var all []sendArguments
	for i, acked := range someWords() {
		waiting := spreadSend(acked, 30, 1, 2, 5, 16, 17, 29)
		waiting.Items[1].Sent, waiting.Items[1].Due = 1, 500
		for _, s := range []impl.Send{newSend(stepsFrom(acked, 1)), waiting, spreadSend(acked, 41, oneTo(40)...), spreadSend(acked, 1000, 4, 999), validSend(), {Next: acked}} {
			a := sendArguments{Tsn: acked, Send: s, OtherSend: copiedSend(s), Message: messageOf(int64(i%10), 1+i*16), Size: int64(4 + i), Now: int64(i * 30), Rto: 300, Most: int64(i * 2 % 41)}
			for _, distance := range []int64{0, 1, 3, 28, -1, half} {
				for _, gaps := range [][]impl.Gap{nil, {{From: 2, To: 2}}, {{From: 2, To: 3}, {From: 15, To: 16}}} {
					a.Sack = impl.Sack{Cum: stepsFrom(s.Acked, distance), Gaps: gaps}
					a.Message.Unordered = distance%2 == 0
					all = append(all, a)
				}
			}
			a.Tsn, a.OtherSend, a.Message.Stream, a.Size, a.Rto, a.Sack.Cum = -1, impl.Send{}, 10, 3, 0, -1
			all = append(all, a)
			a.Send = copiedSend(s)
			a.Send.Items = append(a.Send.Items, impl.SendItem{Data: impl.Data{Piece: []byte{1}}, Due: -1})
			all = append(all, a)
		}
	}
	return append(all, sendArguments{})
}

func TestSendersReturnForAllArguments(t *testing.T) {
	t.Parallel()
	numbers := append(anyNumbers(), badBytes()...)
	for i, n := range numbers {
		for j, m := range numbers {
			d := impl.Data{Tsn: m, Stream: n, Seq: m, First: i%2 == 0, Last: j%2 == 0, Unordered: i%3 == 0, Piece: make([]byte, i)}
			k := impl.Sack{Cum: m, Gaps: []impl.Gap{{From: 2, To: 65535}, {From: n, To: m}}}
			a := sendArguments{Tsn: n, Message: impl.Message{Stream: m, Unordered: j%2 == 0, Bytes: make([]byte, j)}, Size: n, Now: m, Rto: n, Most: m, Sack: k}
			for _, count := range []int{0, 1, 2, 10, 41} {
				a.Send = impl.Send{Next: n, Acked: m, Seqs: slices.Repeat([]int64{m}, count), Items: slices.Repeat([]impl.SendItem{{Data: d, Sent: n, Due: m}}, count)}
				sendCalls(a)
				a.OtherSend = a.Send
				a.Send.Seqs = make([]int64, 10)
				sendCalls(a)
				// This sender is in order, and the other arguments are as they are.
				a.Send = validSend()
				sendCalls(a)
				a.Sack.Gaps = a.Sack.Gaps[:min(count, 1)]
				a.Message.Stream, a.Size = int64(i%10), 4
				sendCalls(a)
			}
		}
	}
	sendCalls(sendArguments{})
	sendCalls(sendArguments{Send: impl.Send{Seqs: []int64{}, Items: []impl.SendItem{}}, Message: impl.Message{Bytes: []byte{}}, Sack: impl.Sack{Gaps: []impl.Gap{}}})
}

func TestSendersDependOnTheArgumentsOnly(t *testing.T) {
	t.Parallel()
	wantPure(t, someSendArguments(), sendCalls)
}

func TestSendersOfArgumentsThatShareMemory(t *testing.T) {
	whole := someData(90, 97)
	for size := 1; size <= 90; size++ {
		// The items and the message have the same bytes.
		s := spreadSend(impl.MaxWord-3, 12, 1, 2, 5, 11)
		for i := range s.Items {
			s.Items[i].Data.Piece = whole[:size]
		}
		a := sendArguments{Send: s, Message: impl.Message{Stream: 2, Bytes: whole[:size]}, Size: 10, Now: 5, Rto: 6, Most: 3, Sack: impl.Sack{Cum: impl.MaxWord - 1, Gaps: []impl.Gap{{From: 3, To: 3}}}}
		wantPushed(t, s, a.Message, a.Size, pushElsewhere(copiedSend(s), a.Message, a.Size))
		wantEmitted(t, s, a.Now, a.Rto, a.Most, emitElsewhere(copiedSend(s), a.Now, a.Rto, a.Most))
		wantAcked(t, s, a.Sack, ackElsewhere(copiedSend(s), a.Sack))
		wantNoShare(t, a, sendCalls(a), sendCalls(a))
	}
	// Two senders have the same lists, but not the same Acked.
	s := spreadSend(20, 9, 2, 3)
	other := s
	other.Acked = 19
	first, second := impl.EmitDatas(s, 0, 100, 40), impl.EmitDatas(other, 50, 100, 40)
	if first.Send.Items[0].Due != 100 || second.Send.Items[0].Due != 150 || s.Items[0].Due != 0 {
		t.Errorf("%+v and %+v are sent from %+v", first, second, s)
	}
	wantNoShare(t, s, first, second)
}

func TestASenderStaysAsItWas(t *testing.T) {
	// A sender is used after others were made of it.
	s := validSend()
	before := copiedSend(s)
	m := messageOf(3, 50)
	later := []impl.SendResult{
		impl.PushMessage(s, m, 7), impl.EmitDatas(s, 900, 300, 40), impl.TakeSack(s, impl.Sack{Cum: s.Acked}),
		impl.TakeSack(s, impl.Sack{Cum: 3, Gaps: []impl.Gap{{From: 3, To: 9}}}), impl.TakeSack(s, impl.Sack{Cum: stepsFrom(s.Acked, -1)}),
	}
	for _, got := range later {
		if got.Code != impl.OK {
			t.Errorf("the code is %d", got.Code)
		}
		clear(got.Send.Seqs[:cap(got.Send.Seqs)])
		for _, item := range got.Send.Items[:cap(got.Send.Items)] {
			clear(item.Data.Piece[:cap(item.Data.Piece)])
		}
		clear(got.Send.Items[:cap(got.Send.Items)])
		for _, d := range got.Datas[:cap(got.Datas)] {
			clear(d.Piece[:cap(d.Piece)])
		}
		clear(got.Datas[:cap(got.Datas)])
	}
	if !equalSends(s, before) || !equalMessages(m, messageOf(3, 50)) {
		t.Errorf("the sender %+v is changed to %+v, or the message to %+v", before, s, m)
	}
}

// pathArguments are arguments of all functions of chapter 11.
type pathArguments struct {
	Addrs      []int64
	Paths      impl.Paths
	OtherPaths impl.Paths
	Addr       int64
	Good       bool
	Op         impl.AddrOp
	Ops        []impl.AddrOp
}

// pathResults are the results of all functions of chapter 11.
type pathResults struct {
	fault   int64
	fresh   impl.PathsResult
	picked  impl.IntResult
	noted   impl.PathsResult
	applied impl.PathsResult
	folded  impl.PathsResult
	addrs   impl.IntsResult
	same    bool
}

func pathCalls(a pathArguments) pathResults {
	return pathResults{
		impl.PathsFault(a.Paths), impl.NewPaths(a.Addrs), impl.PickPath(a.Paths), impl.NotePath(a.Paths, a.Addr, a.Good),
		impl.ApplyOp(a.Paths, a.Op), impl.FoldOps(a.Paths, a.Ops), impl.AddrsOf(a.Paths), impl.SamePaths(a.Paths, a.OtherPaths),
	}
}

// somePathArguments include ones with a fault.
func somePathArguments() []pathArguments {
	var all []pathArguments
	seed := rand.New(rand.NewSource(7))
	for i, p := range append(somePaths(), validPaths(), impl.Paths{First: 3}) {
		a := pathArguments{Paths: p, OtherPaths: copiedPaths(p), Good: i%2 == 0, Addrs: addrsElsewhere(p)}
		for _, addr := range append(addrsElsewhere(p), 77, 0) {
			for kind := range int64(4) {
				a.Addr, a.Op, a.Ops = addr, impl.AddrOp{Kind: kind, Addr: addr}, someOps(seed, seed.Intn(8))
				all = append(all, a)
				a.Ops = append(a.Ops, opDel(p.First), opAdd(addr), opFirst(addr), opDel(p.First), opDel(addr))
				a.Good = !a.Good
				all = append(all, a)
			}
		}
		a.Addrs, a.Ops, a.OtherPaths.First = append(a.Addrs, 5, 5), slices.Repeat([]impl.AddrOp{opAdd(9)}, 40+i%2), 0
		all = append(all, a)
		a.Paths.First = 256
		all = append(all, a)
	}
	return append(all, pathArguments{})
}

func TestPathsReturnForAllArguments(t *testing.T) {
	t.Parallel()
	numbers := append(anyNumbers(), badBytes()...)
	for i, n := range numbers {
		for j, m := range numbers {
			path := impl.Path{Addr: n, Errors: m, Rto: n, Down: i%2 == 0}
			a := pathArguments{Addr: n, Good: j%2 == 0, Op: impl.AddrOp{Kind: m, Addr: n}, Ops: []impl.AddrOp{{Kind: n, Addr: m}, {Kind: 1, Addr: n}, {Kind: 2, Addr: m}, {Kind: 3, Addr: n}}}
			for _, count := range []int{0, 1, 2, 5, 6} {
				a.Paths = impl.Paths{List: slices.Repeat([]impl.Path{path}, count), First: m}
				a.OtherPaths = a.Paths
				a.Addrs = slices.Repeat([]int64{n, m}, count)
				pathCalls(a)
				// Only one field is what it is.
				for k, own := range []impl.Path{{Addr: n, Rto: 100}, {Addr: 7, Errors: n, Rto: 100}, {Addr: 7, Rto: n}} {
					a.Paths = newPaths([]int64{1, 2, 3, 4, 5}[:max(1, min(count, 5))]...)
					a.Paths.List[len(a.Paths.List)-1] = own
					a.Paths.First = []int64{1, n, m}[k]
					pathCalls(a)
				}
				// These paths are in order, and the other arguments are as they are.
				a.Paths = validPaths()
				pathCalls(a)
				a.Op.Kind = int64(1 + count%3)
				a.Ops = slices.Repeat(a.Ops, 1+count*2)
				pathCalls(a)
			}
		}
	}
	pathCalls(pathArguments{})
	pathCalls(pathArguments{Addrs: []int64{}, Paths: impl.Paths{List: []impl.Path{}}, Ops: []impl.AddrOp{}})
	for count := range 100 {
		pathCalls(pathArguments{Addrs: make([]int64, count), Paths: impl.Paths{List: make([]impl.Path, count)}, Ops: make([]impl.AddrOp, count)})
		pathCalls(pathArguments{Paths: validPaths(), Ops: make([]impl.AddrOp, count)})
	}
}

func TestPathsDependOnTheArgumentsOnly(t *testing.T) {
	t.Parallel()
	wantPure(t, somePathArguments(), pathCalls)
}

func TestPathsOfArgumentsThatShareMemory(t *testing.T) {
	whole := newPaths(1, 2, 3, 4, 5)
	ops := []impl.AddrOp{opDel(1), opAdd(9), opFirst(2), opDel(1), opAdd(9), opDel(9)}
	for from := range 5 {
		for to := from + 1; to <= 5; to++ {
			// There are more paths behind the list, where one could be added, and the other
			// paths begin within it.
			p := impl.Paths{List: whole.List[from:to], First: int64(from + 1)}
			a := pathArguments{Addrs: oneTo(5)[from:to], Paths: p, OtherPaths: impl.Paths{List: whole.List[from:], First: p.First}, Addr: int64(to), Op: opAdd(9), Ops: ops[from:]}
			one, two := pathCalls(a), pathCalls(a)
			wantFolded(t, p, a.Ops, foldElsewhere(copiedPaths(p), a.Ops))
			wantNoted(t, p, a.Addr, false, noteElsewhere(copiedPaths(p), a.Addr, false))
			wantApplied(t, p, a.Op, applyElsewhere(copiedPaths(p), a.Op))
			wantApplied(t, p, opDel(a.Addr), applyElsewhere(copiedPaths(p), opDel(a.Addr)))
			if one.same != (to == 5) || !equalPaths(whole, newPaths(1, 2, 3, 4, 5)) {
				t.Errorf("from %d to %d: the same: %t, and the paths are now %+v", from, to, one.same, whole)
			}
			wantNoShare(t, a, one, two)
		}
	}
}

func TestPathsStayAsTheyWere(t *testing.T) {
	// Paths are used after others were made of them.
	for _, p := range []impl.Paths{validPaths(), newPaths(7, 8), downPaths(newPaths(200), 0)} {
		before := copiedPaths(p)
		last := p.List[len(p.List)-1].Addr
		later := []impl.PathsResult{
			impl.NotePath(p, last, false), impl.NotePath(p, p.First, true), impl.ApplyOp(p, opFirst(last)),
			impl.FoldOps(p, nil), impl.FoldOps(p, []impl.AddrOp{opDel(7), opDel(8), opAdd(8), opFirst(last), opDel(p.First)}),
		}
		for _, o := range []impl.AddrOp{opAdd(99), opDel(8), opDel(255)} {
			if after := impl.ApplyOp(p, o); after.Code == impl.OK {
				later = append(later, after)
			}
		}
		for _, got := range later {
			if got.Code != impl.OK {
				t.Errorf("the code is %d", got.Code)
			}
			clear(got.Paths.List[:cap(got.Paths.List)])
			clear(got.Codes[:cap(got.Codes)])
		}
		addrs := impl.AddrsOf(p).List
		clear(addrs[:cap(addrs)])
		if !equalPaths(p, before) {
			t.Errorf("the paths %+v are changed to %+v", before, p)
		}
	}
	addrs := []int64{7, 8, 9}
	p := impl.NewPaths(addrs).Paths
	clear(addrs)
	if !equalPaths(p, newPaths(7, 8, 9)) {
		t.Errorf("the paths are changed to %+v with the addresses they were made of", p)
	}
}
