package tests

import (
	"bytes"
	"math"
	"reflect"
	"slices"
	"testing"

	"loop.example/g00670/impl"
)

// Promise 1: every function terminates and returns for all arguments without
// modifying them; results are newly allocated and depend on the arguments only.

// wordCalls returns the results of all functions of chapter 1 for two numbers.
func wordCalls(a int64, b int64) []impl.IntResult {
	less := impl.IntResult{}
	if impl.SerialLess(a, b) {
		less.Value = 1
	}
	return []impl.IntResult{
		impl.AddWords(a, b), impl.RotateWord(a, b), impl.SerialGap(a, b), less,
		impl.WordAt([]byte{1, 2, 3, 4, 5}, a),
	}
}

func TestWordsReturnForAllArguments(t *testing.T) {
	numbers := append(anyNumbers(), 3, 4, 31, 32, 33, 63, 64, math.MaxInt64-3)
	for _, a := range numbers {
		for _, b := range numbers {
			for _, r := range wordCalls(a, b) {
				if r.Value < 0 || r.Value > impl.MaxWord || r.Code != impl.OK && r.Value != 0 {
					t.Errorf("numbers %d and %d: %+v", a, b, r)
				}
			}
		}
		for size := range 9 {
			impl.WordAt(make([]byte, size), a)
		}
		impl.WordAt(nil, a)
		impl.PackWord(a)
	}
}

func TestWordsDependOnTheArgumentsOnly(t *testing.T) {
	var first [][]impl.IntResult
	for _, a := range anyNumbers() {
		for _, b := range anyNumbers() {
			first = append(first, wordCalls(a, b))
		}
	}
	n := 0
	for _, a := range anyNumbers() {
		for _, b := range anyNumbers() {
			for i, r := range wordCalls(a, b) {
				if r != first[n][i] {
					t.Errorf("numbers %d and %d: %+v, and then %+v", a, b, first[n][i], r)
				}
			}
			n++
		}
	}
}

func TestWordAtLeavesItsArgument(t *testing.T) {
	whole := []byte{1, 2, 3, 4, 5, 6, 7, 8, 9, 10}
	before := bytes.Clone(whole)
	for size := range len(whole) + 1 {
		for at := int64(-1); at < 12; at++ {
			impl.WordAt(whole[:size], at)
		}
	}
	if !bytes.Equal(whole, before) {
		t.Errorf("WordAt changed its data to %v", whole)
	}
	first := impl.WordAt(whole, 2)
	clear(whole)
	if first.Value != 50595078 {
		t.Errorf("WordAt(.., 2) = %+v", first)
	}
}

func TestPackWordReturnsNewMemory(t *testing.T) {
	for _, w := range someWords() {
		want := bytes.Clone(impl.PackWord(w).Bytes)
		first, second := impl.PackWord(w).Bytes, impl.PackWord(w).Bytes
		for i := range first {
			first[i] ^= 255
		}
		// What is appended, too, must not be seen elsewhere.
		_ = append(first, 1, 2, 3, 4)
		if !bytes.Equal(second, want) {
			t.Errorf("PackWord(%d) shares memory with an earlier result", w)
		}
		if got := impl.PackWord(w).Bytes; !bytes.Equal(got, want) {
			t.Errorf("PackWord(%d) = %v after a result was changed, want %v", w, got, want)
		}
		if !bytes.Equal(second, want) {
			t.Errorf("PackWord(%d) is changed by a later call", w)
		}
	}
}

// shaCalls returns the results of all functions of chapter 2, numbers as words.
func shaCalls(i int64, data []byte, state []int64, block []byte) ([]impl.BytesResult, []impl.WordsResult) {
	round := impl.RoundWord(i)
	return []impl.BytesResult{impl.PadMessage(data), impl.Sha256(data)},
		[]impl.WordsResult{
			{Code: round.Code, Words: []int64{round.Value}},
			impl.ScheduleOf(block), impl.CompressBlock(state, block),
		}
}

func TestShaReturnsForAllArguments(t *testing.T) {
	numbers := append(anyNumbers(), 62, 63, 64, 65)
	for _, n := range numbers {
		impl.RoundWord(n)
		for count := range 18 {
			for _, size := range []int{0, 1, 63, 64, 65, 128} {
				impl.CompressBlock(slices.Repeat([]int64{n}, count), make([]byte, size))
			}
		}
	}
	for size := range 1500 {
		shaCalls(int64(size), make([]byte, size), make([]int64, size), make([]byte, size))
	}
	shaCalls(0, nil, nil, nil)
}

func TestShaDependsOnTheArgumentsOnly(t *testing.T) {
	var allBytes [][]impl.BytesResult
	var allWords [][]impl.WordsResult
	for range 2 {
		for i, size := range edgeSizes() {
			b, w := shaCalls(int64(i), someData(size, 5), someState(uint32(i)), someData(64, uint32(i)))
			allBytes, allWords = append(allBytes, b), append(allWords, w)
		}
	}
	half := len(allBytes) / 2
	for i := range half {
		if !reflect.DeepEqual(allBytes[i], allBytes[half+i]) {
			t.Errorf("first %v, and then %v", allBytes[i], allBytes[half+i])
		}
		if !reflect.DeepEqual(allWords[i], allWords[half+i]) {
			t.Errorf("first %v, and then %v", allWords[i], allWords[half+i])
		}
	}
}

func TestShaLeavesItsArguments(t *testing.T) {
	for _, size := range append(edgeSizes(), 701, 768) {
		// Room behind the data, in which it could be padded, is not the callee's.
		whole := someData(size+200, 9)
		before := bytes.Clone(whole)
		shaCalls(1, whole[:size], startWords(), whole[:64])
		if !bytes.Equal(whole, before) {
			t.Errorf("data of %d bytes is changed", size)
		}
	}
	for _, block := range someBlocks() {
		for _, state := range append(someStates(), slices.Repeat([]int64{-1}, 8)) {
			room := append(bytes.Clone(block), someData(64, 2)...)
			roomBefore, stateBefore := bytes.Clone(room), slices.Clone(state)
			impl.ScheduleOf(room[:64])
			impl.CompressBlock(state, room[:64])
			if !bytes.Equal(room, roomBefore) || !slices.Equal(state, stateBefore) {
				t.Errorf("the state %v or the block %v is changed", stateBefore, block)
			}
		}
	}
}

func TestShaReturnsNewMemory(t *testing.T) {
	for _, size := range edgeSizes() {
		data := make([]byte, size, size+200)
		copy(data, someData(size, 4))
		state, block := someState(4), someData(64, 4)
		wantedBytes, wantedWords := shaCalls(5, bytes.Clone(data), slices.Clone(state), bytes.Clone(block))
		firstBytes, firstWords := shaCalls(5, data, state, block)
		secondBytes, secondWords := shaCalls(5, data, state, block)
		for _, b := range firstBytes {
			clear(b.Bytes[:cap(b.Bytes)])
		}
		for _, w := range firstWords {
			clear(w.Words[:cap(w.Words)])
		}
		thirdBytes, thirdWords := shaCalls(5, data, state, block)
		clear(data[:cap(data)])
		clear(state)
		clear(block)
		if !reflect.DeepEqual(secondBytes, wantedBytes) || !reflect.DeepEqual(thirdBytes, wantedBytes) {
			t.Errorf("%d bytes: a result shares memory: %v, %v, want %v", size, secondBytes, thirdBytes, wantedBytes)
		}
		if !reflect.DeepEqual(secondWords, wantedWords) || !reflect.DeepEqual(thirdWords, wantedWords) {
			t.Errorf("a result shares memory: %v, %v, want %v", secondWords, thirdWords, wantedWords)
		}
	}
}

// macCalls returns the results of all functions of chapter 3, in bytes and in numbers.
func macCalls(key []byte, data []byte) ([]impl.BytesResult, []impl.IntResult) {
	same := impl.IntResult{}
	if impl.SameMac(key, data) {
		same.Value = 1
	}
	return []impl.BytesResult{impl.HmacSha(key, data)},
		[]impl.IntResult{same, impl.Crc32c(key), impl.Crc32c(data)}
}

func TestMacReturnsForAllArguments(t *testing.T) {
	for size := range 300 {
		for _, count := range []int{0, 1, 31, 32, 33, 64, 500, 599, 600, 601, 700, 701, 5000} {
			macCalls(make([]byte, size), make([]byte, count))
		}
		macCalls(make([]byte, size), nil)
		macCalls(nil, make([]byte, size))
	}
	macCalls(nil, nil)
	for size := range 1500 {
		data := someData(size, 40)
		macCalls(data, data)
	}
}

func TestMacDependsOnTheArgumentsOnly(t *testing.T) {
	var allBytes [][]impl.BytesResult
	var allInts [][]impl.IntResult
	for range 2 {
		for _, size := range append(keySizes(), 201) {
			for _, count := range append(dataSizes(), 32, 601, 700, 701) {
				b, n := macCalls(someData(size, 41), someData(count, 41))
				allBytes, allInts = append(allBytes, b), append(allInts, n)
			}
		}
	}
	half := len(allBytes) / 2
	for i := range half {
		if !reflect.DeepEqual(allBytes[i], allBytes[half+i]) {
			t.Errorf("first %v, and then %v", allBytes[i], allBytes[half+i])
		}
		if !slices.Equal(allInts[i], allInts[half+i]) {
			t.Errorf("first %v, and then %v", allInts[i], allInts[half+i])
		}
	}
}

func TestMacLeavesItsArguments(t *testing.T) {
	for _, size := range append(keySizes(), 201, 300) {
		for _, count := range append(dataSizes(), 32, 601, 700, 701) {
			// The data lie behind the key, where a key could be padded, and there
			// is room behind the data.
			whole := someData(size+count+100, 42)
			before := bytes.Clone(whole)
			macCalls(whole[:size], whole[size:size+count])
			macCalls(whole[count:count+size], whole[:count])
			macCalls(whole[:size], whole[:count])
			if !bytes.Equal(whole, before) {
				t.Errorf("a key of %d bytes or data of %d bytes are changed", size, count)
			}
		}
	}
}

func TestMacOfArgumentsThatShareMemory(t *testing.T) {
	whole := someData(700, 43)
	for _, size := range keySizes() {
		for _, count := range dataSizes() {
			apart := impl.HmacSha(bytes.Clone(whole[:size]), bytes.Clone(whole[:count]))
			wantBytes(t, impl.HmacSha(whole[:size], whole[:count]), apart.Bytes, "HmacSha", size, count)
		}
	}
	if !impl.SameMac(whole[:32], whole[:32]) || impl.SameMac(whole[:32], whole[1:33]) {
		t.Error("SameMac of bytes that share memory")
	}
}

func TestMacReturnsNewMemory(t *testing.T) {
	for _, size := range keySizes() {
		for _, count := range dataSizes() {
			key, data := make([]byte, size, 300), make([]byte, count, 800)
			copy(key, someData(size, 44))
			copy(data, someData(count, 45))
			want := bytes.Clone(impl.HmacSha(key, data).Bytes)
			first, second := impl.HmacSha(key, data).Bytes, impl.HmacSha(key, data).Bytes
			clear(first[:cap(first)])
			third := impl.HmacSha(key, data).Bytes
			clear(key[:cap(key)])
			clear(data[:cap(data)])
			if !bytes.Equal(second, want) || !bytes.Equal(third, want) {
				t.Errorf("%d and %d bytes: a result shares memory: %v, %v, want %v", size, count, second, third, want)
			}
		}
	}
}

// packetResults are the results of all functions of chapter 4.
type packetResults struct {
	chunkFault  int64
	chunk       impl.BytesResult
	packetFault int64
	packet      impl.BytesResult
	read        impl.PacketResult
	action      impl.IntResult
	same        bool
}

func packetCalls(c impl.Chunk, p impl.Packet, data []byte) packetResults {
	return packetResults{
		impl.ChunkFault(c), impl.PackChunk(c), impl.PacketFault(p), impl.PackPacket(p),
		impl.ReadPacket(data), impl.ActionOf(c.Kind), impl.SamePackets(p, impl.Packet{Chunks: []impl.Chunk{c}}),
	}
}

// spoil changes all memory that the results hold, the spare capacity too.
func (r packetResults) spoil() {
	clear(r.chunk.Bytes[:cap(r.chunk.Bytes)])
	clear(r.packet.Bytes[:cap(r.packet.Bytes)])
	chunks := r.read.Packet.Chunks
	for _, c := range chunks {
		clear(c.Body[:cap(c.Body)])
	}
	clear(chunks[:cap(chunks)])
}

func TestPacketsReturnForAllArguments(t *testing.T) {
	numbers := append(anyNumbers(), badBytes()...)
	for _, kind := range numbers {
		for _, flags := range numbers {
			for _, size := range []int{0, 1, 4, 160, 161, 1000} {
				c := impl.Chunk{Kind: kind, Flags: flags, Body: make([]byte, size)}
				packetCalls(c, impl.Packet{Tag: kind, Chunks: []impl.Chunk{c, c}}, c.Body)
			}
		}
		for count := range 20 {
			packetCalls(impl.Chunk{}, impl.Packet{Tag: kind, Chunks: make([]impl.Chunk, count)}, nil)
		}
	}
	packetCalls(impl.Chunk{}, impl.Packet{}, nil)
	for size := range 1500 {
		data := someData(size, 50)
		impl.ReadPacket(data)
		impl.ReadPacket(make([]byte, size))
		if size >= 8 && size <= impl.MaxText {
			impl.ReadPacket(sealed(data))
			impl.ReadPacket(sealed(make([]byte, size)))
		}
	}
	// Every length of a chunk, with every number of bytes behind it.
	for size := range 65536 {
		behind := size%37 + size%8*16
		impl.ReadPacket(sealed(head(), []byte{0, 0, byte(size >> 8), byte(size)}, make([]byte, behind)))
	}
	for size := range 300 {
		for behind := range 300 {
			impl.ReadPacket(sealed(head(), []byte{0, 0, byte(size >> 8), byte(size)}, make([]byte, behind)))
		}
	}
}

func TestPacketsDependOnTheArgumentsOnly(t *testing.T) {
	var results []packetResults
	packets := append(somePackets(), tooLargePackets()...)
	for range 2 {
		for _, p := range packets {
			results = append(results, packetCalls(p.Chunks[0], p, packetElsewhere(p)))
			results = append(results, packetCalls(impl.Chunk{Kind: -1}, impl.Packet{}, sealed(head(), []byte{1})))
		}
	}
	half := len(results) / 2
	for i := range half {
		if !reflect.DeepEqual(results[i], results[half+i]) {
			t.Errorf("first %+v, and then %+v", results[i], results[half+i])
		}
	}
}

func TestPacketsLeaveTheirArguments(t *testing.T) {
	for _, p := range append(somePackets(), tooLargePackets()...) {
		// The bodies lie one behind the other in the same memory, and there is
		// room behind them and behind the chunks.
		var whole []byte
		for _, c := range p.Chunks {
			whole = append(whole, c.Body...)
		}
		whole = append(whole, someData(200, 51)...)
		chunks, rest := make([]impl.Chunk, len(p.Chunks), 20), whole
		for i, c := range p.Chunks {
			chunks[i] = impl.Chunk{Kind: c.Kind, Flags: c.Flags, Body: rest[:len(c.Body)]}
			rest = rest[len(c.Body):]
		}
		data := append(packetElsewhere(p), someData(200, 52)...)
		size := len(data) - 200
		wholeBefore, dataBefore := bytes.Clone(whole), bytes.Clone(data)
		for _, c := range chunks {
			packetCalls(c, impl.Packet{Tag: p.Tag, Chunks: chunks}, data[:size])
			packetCalls(c, impl.Packet{Tag: -1, Chunks: chunks}, data[:size-1])
		}
		if !slices.EqualFunc(chunks, p.Chunks, equalChunks) || !reflect.DeepEqual(chunks[len(chunks):20], make([]impl.Chunk, 20-len(chunks))) {
			t.Errorf("the chunks %+v are changed to %+v", p.Chunks, chunks[:20])
		}
		if !bytes.Equal(whole, wholeBefore) || !bytes.Equal(data, dataBefore) {
			t.Errorf("the bodies or the bytes of %+v are changed", p)
		}
	}
}

func TestUnreadableDataAreLeft(t *testing.T) {
	for _, p := range somePackets() {
		data := packetElsewhere(p)
		for _, bad := range [][]byte{sealed(data[:len(data)-1]), sealed(data, []byte{1, 2, 3, 4}), append(bytes.Clone(data), 0)} {
			before := bytes.Clone(bad)
			if got := impl.ReadPacket(bad); got.Code == impl.OK || !bytes.Equal(bad, before) {
				t.Errorf("ReadPacket(%v) = %+v, and leaves %v", before, got, bad)
			}
		}
	}
}

func TestPacketsReturnNewMemory(t *testing.T) {
	for _, p := range somePackets() {
		own, data := copied(p), packetElsewhere(p)
		want := packetCalls(copied(p).Chunks[0], copied(p), bytes.Clone(data))
		first := packetCalls(own.Chunks[0], own, data)
		second := packetCalls(own.Chunks[0], own, data)
		first.spoil()
		third := packetCalls(own.Chunks[0], own, data)
		clear(data)
		for _, c := range own.Chunks {
			clear(c.Body)
		}
		clear(own.Chunks)
		if !reflect.DeepEqual(second, want) || !reflect.DeepEqual(third, want) {
			t.Errorf("%+v: a result shares memory: %+v, %+v, want %+v", p, second, third, want)
		}
	}
}

func TestBodiesOfAReadPacketShareNoMemory(t *testing.T) {
	for _, p := range somePackets() {
		for place := range p.Chunks {
			read := impl.ReadPacket(packetElsewhere(p)).Packet
			// What lies behind a body must not be the next one.
			body := read.Chunks[place].Body
			for _, b := range [][]byte{body[:cap(body)], append(body, someData(200, 53)...)} {
				for i := range b {
					b[i] ^= 255
				}
			}
			for other, c := range read.Chunks {
				if other != place && !bytes.Equal(c.Body, p.Chunks[other].Body) {
					t.Errorf("%+v: body %d shares memory with body %d", p, other, place)
				}
			}
		}
	}
}
