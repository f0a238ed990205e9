package tests

import (
	"bytes"
	"encoding/binary"
	"hash/crc32"
	"math"
	"slices"
	"testing"

	"loop.example/g00670/impl"
)

// Promise 5: a packet is decoded from its bytes, and the change of one byte is
// detected.

// bodySizes lie where the padding has each of its sizes, and where a body may not
// be longer.
func bodySizes() []int {
	return []int{0, 1, 2, 3, 4, 5, 6, 7, 8, 63, 64, 65, 127, 128, 129, 156, 157, 158, 159, 160}
}

// someKinds are all kinds that have a name, and others.
func someKinds() []int64 {
	return []int64{
		impl.KindData, impl.KindInit, impl.KindInitAck, impl.KindSack, impl.KindBeat, impl.KindBeatAck,
		impl.KindAbort, impl.KindCookie, impl.KindCookieAck, impl.KindAuth, impl.KindAnswer, impl.KindAsconf,
		7, 63, 64, 127, 129, 191, 192, 254, 255,
	}
}

func badBytes() []int64 {
	return []int64{-1, 256, -256, -255, 257, 511, 512, 65536, impl.MaxWord, impl.MaxWord + 1, math.MinInt64, math.MaxInt64}
}

func badTags() []int64 {
	return []int64{-1, impl.MaxWord + 1, -impl.MaxWord, impl.MaxWord + 256, math.MinInt64, math.MaxInt64}
}

func someChunk(kind int64, size int, seed uint32) impl.Chunk {
	return impl.Chunk{Kind: kind, Flags: int64(seed*37) % 256, Body: someData(size, seed)}
}

// packetOf returns a packet of chunks with bodies of the sizes.
func packetOf(tag int64, sizes ...int) impl.Packet {
	p := impl.Packet{Tag: tag}
	for i, size := range sizes {
		kinds := someKinds()
		p.Chunks = append(p.Chunks, someChunk(kinds[(i*5+len(sizes))%len(kinds)], size, uint32(i+size)))
	}
	return p
}

// largestPackets have 500 bytes.
func largestPackets() []impl.Packet {
	return []impl.Packet{
		packetOf(1, 160, 160, 160),
		packetOf(2, 157, 158, 159),
		packetOf(3, 160, 160, 156, 0),
		packetOf(4, 56, 56, 56, 56, 56, 56, 56, 68),
		packetOf(5, 0, 0, 0, 0, 0, 160, 152, 148),
		packetOf(6, 53, 54, 55, 56, 53, 54, 55, 65),
		packetOf(impl.MaxWord, 148, 149, 13, 157),
	}
}

// tooLargePackets have 504 bytes or more, though nothing else is wrong with them.
func tooLargePackets() []impl.Packet {
	return []impl.Packet{
		packetOf(1, 160, 160, 160, 0),
		packetOf(2, 160, 160, 157, 0),
		packetOf(3, 160, 160, 156, 1),
		packetOf(4, 56, 56, 56, 56, 56, 56, 56, 69),
		packetOf(5, 57, 56, 56, 56, 56, 56, 56, 68),
		packetOf(6, 160, 160, 160, 160),
		packetOf(7, 160, 160, 160, 160, 160, 160, 160, 160),
		// These have fewer than 500 bytes without the padding.
		packetOf(8, 157, 157, 157, 0),
		packetOf(9, 53, 53, 53, 53, 53, 53, 53, 69),
	}
}

// somePackets have from one to eight chunks.
func somePackets() []impl.Packet {
	packets := largestPackets()
	for _, tag := range []int64{0, 1, 255, 256, 65536, 16909060, 2147483648, impl.MaxWord} {
		packets = append(packets,
			packetOf(tag, 0), packetOf(tag, 1, 0), packetOf(tag, 2, 3, 4), packetOf(tag, 0, 0, 0, 0),
			packetOf(tag, 5, 6, 7, 8, 9), packetOf(tag, 160, 1, 2, 3, 4, 5), packetOf(tag, 0, 1, 0, 2, 0, 3, 0),
			packetOf(tag, 0, 0, 0, 0, 0, 0, 0, 0), packetOf(tag, 8, 7, 6, 5, 4, 3, 2, 1))
	}
	for _, size := range bodySizes() {
		packets = append(packets, packetOf(9, size), packetOf(9, size, 3), packetOf(9, 3, size, size))
	}
	return packets
}

// sealed returns the data with the checksum that is right for them.
func sealed(data ...[]byte) []byte {
	whole := slices.Concat(data...)
	copy(whole[4:], make([]byte, 4))
	sum := crc32.Checksum(whole, crc32.MakeTable(crc32.Castagnoli))
	binary.BigEndian.PutUint32(whole[4:], sum)
	return whole
}

// head is a tag and room for a checksum.
func head() []byte {
	return []byte{1, 2, 3, 4, 0, 0, 0, 0}
}

func chunkElsewhere(c impl.Chunk) []byte {
	packed := binary.BigEndian.AppendUint16([]byte{byte(c.Kind), byte(c.Flags)}, uint16(4+len(c.Body)))
	packed = append(packed, c.Body...)
	for len(packed)%4 > 0 {
		packed = append(packed, 0)
	}
	return packed
}

func packetElsewhere(p impl.Packet) []byte {
	packed := binary.BigEndian.AppendUint64(nil, uint64(p.Tag)<<32)
	for _, c := range p.Chunks {
		packed = append(packed, chunkElsewhere(c)...)
	}
	return sealed(packed)
}

// readElsewhere returns the packet of data with the right checksum, if there is one.
func readElsewhere(data []byte) (impl.Packet, bool) {
	p := impl.Packet{Tag: int64(binary.BigEndian.Uint32(data))}
	at := 8
	for at < len(data) {
		if at+4 > len(data) {
			return impl.Packet{}, false
		}
		end := at + int(binary.BigEndian.Uint16(data[at+2:]))
		next := (end + 3) / 4 * 4
		if end < at+4 || end > at+164 || next > len(data) || bytes.Count(data[end:next], []byte{0}) < next-end {
			return impl.Packet{}, false
		}
		p.Chunks = append(p.Chunks, impl.Chunk{Kind: int64(data[at]), Flags: int64(data[at+1]), Body: data[at+4 : end]})
		at = next
	}
	return p, len(p.Chunks) >= 1 && len(p.Chunks) <= 8
}

func equalChunks(a impl.Chunk, b impl.Chunk) bool {
	return a.Kind == b.Kind && a.Flags == b.Flags && bytes.Equal(a.Body, b.Body)
}

func wantPacket(t *testing.T, data []byte, want impl.Packet) {
	t.Helper()
	got := impl.ReadPacket(data)
	if got.Code != impl.OK || got.Packet.Tag != want.Tag || !slices.EqualFunc(got.Packet.Chunks, want.Chunks, equalChunks) {
		t.Errorf("ReadPacket(%v) = %+v, want %+v", data, got, want)
	}
}

func wantNoPacket(t *testing.T, data []byte, code int64) {
	t.Helper()
	got := impl.ReadPacket(data)
	if got.Code != code || got.Packet.Tag != 0 || len(got.Packet.Chunks) != 0 {
		t.Errorf("ReadPacket(%v) = %+v, want the code %d and no packet", data, got, code)
	}
}

// wantPacketFault also looks at the packing of the packet.
func wantPacketFault(t *testing.T, p impl.Packet, want int64) {
	t.Helper()
	if got := impl.PacketFault(p); got != want {
		t.Errorf("PacketFault(%+v) = %d, want %d", p, got, want)
	}
	if want != impl.OK {
		wantNoBytes(t, impl.PackPacket(p), want, "PackPacket", p)
	}
}

// wantChunkFault also looks at the packing of the chunk, alone and in a packet.
func wantChunkFault(t *testing.T, c impl.Chunk, want int64) {
	t.Helper()
	if got := impl.ChunkFault(c); got != want {
		t.Errorf("ChunkFault(%+v) = %d, want %d", c, got, want)
	}
	if want != impl.OK {
		wantNoBytes(t, impl.PackChunk(c), want, "PackChunk", c)
	}
	wantPacketFault(t, impl.Packet{Chunks: []impl.Chunk{c}}, want)
	wantPacketFault(t, impl.Packet{Tag: 1, Chunks: []impl.Chunk{{}, c, {}}}, want)
}

func TestKindsAndActions(t *testing.T) {
	for _, c := range []struct{ got, want int64 }{
		{impl.MaxPacket, 500}, {impl.MaxChunks, 8}, {impl.MaxBody, 160},
		{impl.KindData, 0}, {impl.KindInit, 1}, {impl.KindInitAck, 2}, {impl.KindSack, 3},
		{impl.KindBeat, 4}, {impl.KindBeatAck, 5}, {impl.KindAbort, 6},
		{impl.KindCookie, 10}, {impl.KindCookieAck, 11}, {impl.KindAuth, 15},
		{impl.KindAnswer, 128}, {impl.KindAsconf, 193},
		{impl.ActionDrop, 0}, {impl.ActionReport, 1}, {impl.ActionSkip, 2}, {impl.ActionTell, 3},
	} {
		if c.got != c.want {
			t.Errorf("a constant is %d, want %d", c.got, c.want)
		}
	}
}

func TestKnownChunks(t *testing.T) {
	for _, c := range []struct {
		chunk impl.Chunk
		want  []byte
	}{
		{impl.Chunk{Kind: impl.KindAbort}, []byte{6, 0, 0, 4}},
		{impl.Chunk{}, []byte{0, 0, 0, 4}},
		{impl.Chunk{Body: []byte{}}, []byte{0, 0, 0, 4}},
		{impl.Chunk{Kind: 255, Flags: 255}, []byte{255, 255, 0, 4}},
		{impl.Chunk{Kind: 4, Flags: 1, Body: []byte{9}}, []byte{4, 1, 0, 5, 9, 0, 0, 0}},
		{impl.Chunk{Kind: 1, Flags: 4, Body: []byte{9, 8}}, []byte{1, 4, 0, 6, 9, 8, 0, 0}},
		{impl.Chunk{Kind: impl.KindAsconf, Body: []byte{9, 8, 7}}, []byte{193, 0, 0, 7, 9, 8, 7, 0}},
		{impl.Chunk{Kind: impl.KindAnswer, Body: []byte{9, 8, 7, 6}}, []byte{128, 0, 0, 8, 9, 8, 7, 6}},
		{impl.Chunk{Kind: 15, Body: []byte{0, 0, 0, 0, 0}}, []byte{15, 0, 0, 9, 0, 0, 0, 0, 0, 0, 0, 0}},
		{impl.Chunk{Kind: 3, Body: []byte{255, 0}}, []byte{3, 0, 0, 6, 255, 0, 0, 0}},
		{impl.Chunk{Body: make([]byte, 159)}, append([]byte{0, 0, 0, 163}, make([]byte, 160)...)},
		{impl.Chunk{Body: make([]byte, 160)}, append([]byte{0, 0, 0, 164}, make([]byte, 160)...)},
	} {
		wantBytes(t, impl.PackChunk(c.chunk), c.want, "PackChunk", c.chunk)
	}
}

func TestChunksOfAllKindsAndSizes(t *testing.T) {
	for _, kind := range someKinds() {
		for size := range impl.MaxBody + 1 {
			c := someChunk(kind, size, uint32(size)+uint32(kind))
			wantChunkFault(t, c, impl.OK)
			wantBytes(t, impl.PackChunk(c), chunkElsewhere(c), "PackChunk", c)
		}
	}
	for n := range int64(256) {
		wantBytes(t, impl.PackChunk(impl.Chunk{Kind: n, Flags: 255 - n}), []byte{byte(n), byte(255 - n), 0, 4}, "PackChunk", n)
	}
}

func TestABodyWithSpareCapacity(t *testing.T) {
	c := impl.Chunk{Kind: 4, Body: bytes.Repeat([]byte{255}, 200)[:2]}
	wantBytes(t, impl.PackChunk(c), []byte{4, 0, 0, 6, 255, 255, 0, 0}, "PackChunk", c)
}

func TestChunksWithFaults(t *testing.T) {
	long := []int{161, 162, 163, 164, 252, 256, 416, 500, 65536, 65692}
	for _, n := range badBytes() {
		for _, good := range []int64{0, 255} {
			wantChunkFault(t, impl.Chunk{Kind: n, Flags: good}, impl.ErrRange)
			wantChunkFault(t, impl.Chunk{Kind: good, Flags: n}, impl.ErrRange)
			wantChunkFault(t, impl.Chunk{Kind: good, Flags: n, Body: make([]byte, 160)}, impl.ErrRange)
			// The range comes before the length.
			for _, size := range long {
				wantChunkFault(t, impl.Chunk{Kind: n, Flags: good, Body: make([]byte, size)}, impl.ErrRange)
				wantChunkFault(t, impl.Chunk{Kind: good, Flags: n, Body: make([]byte, size)}, impl.ErrRange)
			}
		}
		wantChunkFault(t, impl.Chunk{Kind: n, Flags: n}, impl.ErrRange)
	}
	for _, size := range long {
		wantChunkFault(t, impl.Chunk{Body: make([]byte, size)}, impl.ErrMany)
		wantChunkFault(t, someChunk(impl.KindAsconf, size, 3), impl.ErrMany)
	}
}

func TestKnownPackets(t *testing.T) {
	for _, c := range []struct {
		packet impl.Packet
		want   []byte
	}{
		{
			impl.Packet{Tag: 7, Chunks: []impl.Chunk{{Kind: impl.KindAbort}}},
			[]byte{0, 0, 0, 7, 239, 223, 254, 42, 6, 0, 0, 4},
		},
		{
			impl.Packet{Chunks: []impl.Chunk{{}}},
			[]byte{0, 0, 0, 0, 236, 250, 34, 66, 0, 0, 0, 4},
		},
		{
			impl.Packet{Tag: impl.MaxWord, Chunks: []impl.Chunk{{Kind: 255, Flags: 255, Body: []byte{255}}}},
			[]byte{255, 255, 255, 255, 109, 172, 203, 75, 255, 255, 0, 5, 255, 0, 0, 0},
		},
		{
			impl.Packet{Tag: 16909060, Chunks: []impl.Chunk{{Kind: 4, Flags: 1, Body: []byte{9}}, {Kind: 5, Flags: 2, Body: []byte{1, 2, 3, 4}}}},
			[]byte{1, 2, 3, 4, 244, 16, 235, 90, 4, 1, 0, 5, 9, 0, 0, 0, 5, 2, 0, 8, 1, 2, 3, 4},
		},
		{
			impl.Packet{Tag: 7, Chunks: []impl.Chunk{{Kind: impl.KindAbort}, {Kind: 4, Body: []byte{9}}}},
			[]byte{0, 0, 0, 7, 141, 52, 149, 238, 6, 0, 0, 4, 4, 0, 0, 5, 9, 0, 0, 0},
		},
		{
			impl.Packet{Tag: 1, Chunks: []impl.Chunk{{Kind: impl.KindAsconf, Body: make([]byte, 5)}}},
			[]byte{0, 0, 0, 1, 51, 244, 218, 90, 193, 0, 0, 9, 0, 0, 0, 0, 0, 0, 0, 0},
		},
		{
			impl.Packet{Tag: 3, Chunks: []impl.Chunk{
				{Kind: impl.KindCookie, Flags: 5, Body: []byte("abc")}, {Kind: impl.KindCookieAck}, {Kind: impl.KindAuth, Flags: 9, Body: []byte{1, 2}},
			}},
			[]byte{0, 0, 0, 3, 5, 170, 214, 172, 10, 5, 0, 7, 97, 98, 99, 0, 11, 0, 0, 4, 15, 9, 0, 6, 1, 2, 0, 0},
		},
	} {
		wantBytes(t, impl.PackPacket(c.packet), c.want, "PackPacket", c.packet)
		wantPacket(t, c.want, c.packet)
	}
}

func TestAPacketIsDecodedFromItsBytes(t *testing.T) {
	counts := map[int]bool{}
	for _, p := range somePackets() {
		counts[len(p.Chunks)] = true
		wantPacketFault(t, p, impl.OK)
		packed := impl.PackPacket(p)
		wantBytes(t, packed, packetElsewhere(p), "PackPacket", p)
		wantPacket(t, packed.Bytes, p)
		read := impl.ReadPacket(packed.Bytes).Packet
		if !impl.SamePackets(read, p) || !impl.SamePackets(p, read) {
			t.Errorf("%+v is read as %+v, which is not the same", p, read)
		}
		wantBytes(t, impl.PackPacket(read), packed.Bytes, "PackPacket of what was read", p)
	}
	if len(counts) != 8 {
		t.Errorf("there are packets of %v chunks only", counts)
	}
}

func TestPacketsOfAllKinds(t *testing.T) {
	for _, kind := range someKinds() {
		for _, size := range bodySizes() {
			p := impl.Packet{Tag: kind, Chunks: []impl.Chunk{someChunk(kind, size, 7), someChunk(kind, 160-size, 8)}}
			packed := impl.PackPacket(p)
			wantBytes(t, packed, packetElsewhere(p), "PackPacket", p)
			wantPacket(t, packed.Bytes, p)
		}
	}
	for n := range int64(256) {
		p := impl.Packet{Tag: n << 24, Chunks: []impl.Chunk{{Kind: n, Flags: 255 - n, Body: []byte{byte(n)}}}}
		wantPacket(t, impl.PackPacket(p).Bytes, p)
	}
}

func TestTheChecksumIsTakenWithZeroBytesInItsPlace(t *testing.T) {
	table := crc32.MakeTable(crc32.Castagnoli)
	for _, p := range somePackets() {
		packed := impl.PackPacket(p).Bytes
		blank := slices.Concat(packed[:4], make([]byte, 4), packed[8:])
		right := impl.Crc32c(blank)
		wantInt(t, impl.WordAt(packed, 4), right.Value, "the checksum", p.Tag)
		// These sums are taken of other bytes, or the sum is stored otherwise.
		for _, sum := range []uint32{
			crc32.Checksum(packed, table), crc32.Checksum(slices.Concat(packed[:4], packed[8:]), table),
			crc32.Checksum(packed[8:], table), crc32.ChecksumIEEE(blank), binary.LittleEndian.Uint32(packed[4:]), 0,
		} {
			// With the largest tag, zero bytes behind it do not change the sum.
			if int64(sum) != right.Value {
				wantNoPacket(t, slices.Concat(packed[:4], binary.BigEndian.AppendUint32(nil, sum), packed[8:]), impl.ErrSum)
			}
		}
	}
}

func TestTheChangeOfOneByteIsDetected(t *testing.T) {
	t.Parallel()
	for _, p := range append(largestPackets(), packetOf(0, 0), packetOf(7, 1, 2, 3), packetOf(9, 0, 0, 0, 0, 0, 0, 0, 0)) {
		data := packetElsewhere(p)
		for place := range data {
			for _, change := range []byte{1, 2, 4, 8, 16, 32, 64, 128, 3, 192, 255, data[place]} {
				if change == 0 {
					continue
				}
				data[place] ^= change
				wantNoPacket(t, data, impl.ErrSum)
				data[place] ^= change
			}
		}
		wantPacket(t, data, p)
	}
}

func TestAllChangesOfASmallPacket(t *testing.T) {
	data := packetElsewhere(packetOf(16909060, 1, 4))
	for place := range data {
		for change := 1; change < 256; change++ {
			data[place] ^= byte(change)
			wantNoPacket(t, data, impl.ErrSum)
			data[place] ^= byte(change)
		}
	}
}

func TestPacketsWithFaults(t *testing.T) {
	for _, tag := range badTags() {
		wantPacketFault(t, impl.Packet{Tag: tag, Chunks: []impl.Chunk{{}}}, impl.ErrRange)
	}
	for _, tag := range []int64{0, 1, impl.MaxWord} {
		wantPacketFault(t, impl.Packet{Tag: tag}, impl.ErrMany)
		wantPacketFault(t, impl.Packet{Tag: tag, Chunks: []impl.Chunk{}}, impl.ErrMany)
		for _, count := range []int{9, 10, 16, 24, 100, 264} {
			wantPacketFault(t, impl.Packet{Tag: tag, Chunks: make([]impl.Chunk, count)}, impl.ErrMany)
		}
		for count := 1; count <= 8; count++ {
			wantPacketFault(t, impl.Packet{Tag: tag, Chunks: make([]impl.Chunk, count)}, impl.OK)
		}
	}
	for place := range 8 {
		for _, n := range badBytes() {
			p := packetOf(1, 1, 2, 3, 4, 5, 6, 7, 8)
			p.Chunks[place].Flags = n
			wantPacketFault(t, p, impl.ErrRange)
			p.Chunks[place] = impl.Chunk{Kind: n}
			wantPacketFault(t, p, impl.ErrRange)
		}
		p := packetOf(1, 0, 0, 0, 0, 0, 0, 0, 0)
		p.Chunks[place].Body = make([]byte, 161)
		wantPacketFault(t, p, impl.ErrMany)
	}
}

func TestPacketsOfTooManyBytes(t *testing.T) {
	for _, p := range largestPackets() {
		if size := len(packetElsewhere(p)); size != 500 {
			t.Errorf("a largest packet has %d bytes", size)
		}
		wantPacketFault(t, p, impl.OK)
		if got := impl.PackPacket(p); got.Code != impl.OK || len(got.Bytes) != 500 {
			t.Errorf("PackPacket(%+v) = %+v, want 500 bytes", p, got)
		}
	}
	for _, p := range tooLargePackets() {
		if size := len(packetElsewhere(p)); size < 504 {
			t.Errorf("a packet that is too large has %d bytes", size)
		}
		wantPacketFault(t, p, impl.ErrMany)
		wantNoPacket(t, packetElsewhere(p), impl.ErrMany)
	}
}

func TestOfTwoFaultsOfAPacketTheFirstCounts(t *testing.T) {
	wide, long := impl.Chunk{Kind: 256}, impl.Chunk{Body: make([]byte, 161)}
	nine := make([]impl.Chunk, 9)
	for _, c := range []struct {
		packet impl.Packet
		want   int64
	}{
		{impl.Packet{Tag: -1}, impl.ErrRange},
		{impl.Packet{Tag: impl.MaxWord + 1, Chunks: nine}, impl.ErrRange},
		{impl.Packet{Tag: -1, Chunks: []impl.Chunk{long}}, impl.ErrRange},
		{impl.Packet{Tag: -1, Chunks: tooLargePackets()[0].Chunks}, impl.ErrRange},
		{impl.Packet{Chunks: append([]impl.Chunk{wide}, nine...)}, impl.ErrMany},
		{impl.Packet{Chunks: append(nine, wide)}, impl.ErrMany},
		{impl.Packet{Chunks: []impl.Chunk{long, wide}}, impl.ErrMany},
		{impl.Packet{Chunks: []impl.Chunk{wide, long}}, impl.ErrRange},
		{impl.Packet{Chunks: []impl.Chunk{{}, long, {Flags: -1}}}, impl.ErrMany},
		{impl.Packet{Chunks: []impl.Chunk{{}, {Flags: -1}, long}}, impl.ErrRange},
		// The bytes are counted last.
		{impl.Packet{Chunks: append(tooLargePackets()[0].Chunks, wide)}, impl.ErrRange},
		{impl.Packet{Chunks: append(tooLargePackets()[5].Chunks, impl.Chunk{}, wide)}, impl.ErrRange},
		{impl.Packet{Chunks: append(tooLargePackets()[5].Chunks, impl.Chunk{Flags: 256})}, impl.ErrRange},
	} {
		wantPacketFault(t, c.packet, c.want)
	}
}

func TestDataOfAWrongSize(t *testing.T) {
	wantNoPacket(t, nil, impl.ErrMany)
	for size := range 8 {
		wantNoPacket(t, make([]byte, size), impl.ErrMany)
		wantNoPacket(t, packetElsewhere(packetOf(7, 0))[:size], impl.ErrMany)
	}
	for _, size := range []int{501, 502, 503, 504, 508, 512, 699, 700, 701, 1000, 65536} {
		wantNoPacket(t, make([]byte, size), impl.ErrMany)
		if size <= 700 {
			wantNoPacket(t, sealed(head(), make([]byte, size-8)), impl.ErrMany)
		}
	}
	// Eight bytes are enough for a checksum, but not for a chunk.
	wantNoPacket(t, make([]byte, 8), impl.ErrSum)
	wantNoPacket(t, sealed(make([]byte, 8)), impl.ErrText)
	wantNoPacket(t, sealed(head()), impl.ErrText)
	// Bytes behind the data are not part of them.
	data := packetElsewhere(packetOf(7, 1, 2))
	wantPacket(t, append(data, 1, 2, 3, 4)[:len(data)], packetOf(7, 1, 2))
	wantNoPacket(t, data[:len(data)-1], impl.ErrSum)
}

func TestPaddingThatIsNotZero(t *testing.T) {
	for size := range 12 {
		p := packetOf(5, size, size)
		data := packetElsewhere(p)
		chunk := (len(data) - 8) / 2
		for _, start := range []int{8, 8 + chunk} {
			for place := start + 4 + size; place < start+chunk; place++ {
				for b := 1; b < 256; b++ {
					bad := bytes.Clone(data)
					bad[place] = byte(b)
					wantNoPacket(t, sealed(bad), impl.ErrText)
				}
			}
		}
		wantPacket(t, sealed(data), p)
	}
}

func TestUnreadableChunks(t *testing.T) {
	good := []byte{6, 0, 0, 4}
	for _, chunks := range [][]byte{
		// Fewer than four bytes are left.
		{6}, {6, 0}, {6, 0, 0}, {6, 0, 0, 4, 6}, {6, 0, 0, 4, 6, 0}, {6, 0, 0, 4, 6, 0, 0}, {0, 0, 0, 4, 0, 0, 0}, {0, 0, 0},
		// The length is less than four.
		{6, 0, 0, 0}, {6, 0, 0, 1}, {6, 0, 0, 2}, {6, 0, 0, 3}, {0, 0, 0, 0}, {6, 0, 0, 3, 0, 0, 0, 0}, {6, 0, 0, 0, 6, 0, 0, 4},
		// The length ends behind the data's end.
		{6, 0, 0, 5}, {6, 0, 0, 8}, {6, 0, 0, 9, 1, 2, 3, 4}, {6, 0, 0, 9, 1, 2, 3, 4, 5}, {6, 0, 0, 164}, {6, 0, 0, 255},
		{6, 0, 1, 4}, {6, 0, 4, 0}, {6, 0, 255, 255}, {6, 0, 128, 4}, {6, 0, 127, 255},
		// Only the padding ends behind it.
		{6, 0, 0, 5, 9}, {6, 0, 0, 5, 9, 0}, {6, 0, 0, 5, 9, 0, 0}, {6, 0, 0, 6, 9, 9}, {6, 0, 0, 6, 9, 9, 0}, {6, 0, 0, 7, 9, 9, 9},
		// The length ends before the data's end, and what follows is no chunk.
		{6, 0, 0, 4, 0, 0, 0, 0}, {6, 0, 0, 4, 1, 2, 3, 4}, {6, 0, 0, 5, 9, 0, 0, 0, 0, 0, 0, 0}, {6, 0, 0, 8, 0, 0, 0, 4, 0, 0, 0, 1},
		// The two bytes of the length are in the wrong order.
		{6, 0, 4, 0}, {6, 0, 5, 0, 9, 0, 0, 0},
		make([]byte, 4), make([]byte, 100), make([]byte, 492), bytes.Repeat([]byte{255}, 492), bytes.Repeat([]byte{4}, 492),
	} {
		wantNoPacket(t, sealed(head(), chunks), impl.ErrText)
		if len(chunks) < 400 {
			wantNoPacket(t, sealed(head(), good, chunks), impl.ErrText)
			wantNoPacket(t, sealed(head(), good, good, good, chunks), impl.ErrText)
		}
		// A wrong checksum is found first.
		bad := sealed(head(), chunks)
		bad[5] ^= 8
		wantNoPacket(t, bad, impl.ErrSum)
	}
}

func TestChunksThatNoPacketHas(t *testing.T) {
	empty := []byte{6, 0, 0, 4}
	for count := range 124 {
		data := sealed(head(), bytes.Repeat(empty, count))
		if count == 0 || count > 8 {
			wantNoPacket(t, data, impl.ErrText)
		} else {
			wantPacket(t, data, impl.Packet{Tag: 16909060, Chunks: slices.Repeat([]impl.Chunk{{Kind: 6}}, count)})
		}
	}
	for _, size := range []int{161, 162, 163, 164, 252, 256, 257, 416, 484, 488} {
		c := impl.Chunk{Kind: 4, Body: someData(size, 9)}
		wantNoPacket(t, sealed(head(), chunkElsewhere(c)), impl.ErrText)
		c.Body = make([]byte, size)
		wantNoPacket(t, sealed(head(), chunkElsewhere(c)), impl.ErrText)
	}
}

// wantAsElsewhere reads data with the right checksum in two ways.
func wantAsElsewhere(t *testing.T, data []byte) bool {
	t.Helper()
	want, readable := readElsewhere(data)
	if !readable {
		wantNoPacket(t, data, impl.ErrText)
		return false
	}
	wantPacket(t, data, want)
	wantBytes(t, impl.PackPacket(impl.ReadPacket(data).Packet), data, "PackPacket of what was read", data)
	return true
}

func TestReadingWhateverHasTheRightChecksum(t *testing.T) {
	readable, unreadable := 0, 0
	count := func(data []byte) {
		if wantAsElsewhere(t, data) {
			readable++
		} else {
			unreadable++
		}
	}
	for _, p := range []impl.Packet{packetOf(7, 1, 2, 3), packetOf(8, 0, 5, 0), packetOf(9, 40)} {
		data := packetElsewhere(p)
		for size := 8; size <= len(data); size++ {
			count(sealed(data[:size]))
			count(sealed(data[:size], make([]byte, 4)))
		}
		for place := range data {
			for b := range 256 {
				changed := bytes.Clone(data)
				changed[place] = byte(b)
				count(sealed(changed))
			}
		}
	}
	for seed := range uint32(20000) {
		data := someData(8+int(seed%40), seed)
		// Small numbers are lengths more often.
		for i := 8; i < len(data); i++ {
			data[i] %= 1 + data[i]/16
		}
		for i := 10; i < len(data); i += 4 {
			data[i] = 0
		}
		count(sealed(data))
	}
	if readable < 1000 || unreadable < 1000 {
		t.Errorf("%d texts are readable and %d are not", readable, unreadable)
	}
}

func TestActionOf(t *testing.T) {
	for _, c := range []struct{ kind, want int64 }{
		{0, impl.ActionDrop}, {1, impl.ActionDrop}, {63, impl.ActionDrop},
		{64, impl.ActionReport}, {65, impl.ActionReport}, {127, impl.ActionReport},
		{128, impl.ActionSkip}, {129, impl.ActionSkip}, {191, impl.ActionSkip},
		{192, impl.ActionTell}, {193, impl.ActionTell}, {255, impl.ActionTell},
	} {
		wantInt(t, impl.ActionOf(c.kind), c.want, "ActionOf", c.kind)
	}
	for kind := range int64(256) {
		wantInt(t, impl.ActionOf(kind), kind/64, "ActionOf", kind)
	}
	for _, kind := range badBytes() {
		wantRange(t, impl.ActionOf(kind), "ActionOf", kind)
	}
}

// wantSame also compares the packets the other way round.
func wantSame(t *testing.T, a impl.Packet, b impl.Packet, want bool) {
	t.Helper()
	if impl.SamePackets(a, b) != want || impl.SamePackets(b, a) != want {
		t.Errorf("SamePackets of %+v and %+v is not %v both times", a, b, want)
	}
}

// copiedChunks returns equal chunks in memory of their own.
func copiedChunks(chunks []impl.Chunk) []impl.Chunk {
	own := slices.Clone(chunks)
	for i, c := range own {
		own[i].Body = bytes.Clone(c.Body)
	}
	return own
}

// copied returns an equal packet in memory of its own.
func copied(p impl.Packet) impl.Packet {
	return impl.Packet{Tag: p.Tag, Chunks: copiedChunks(p.Chunks)}
}

func TestSamePackets(t *testing.T) {
	packets := append(somePackets(), tooLargePackets()...)
	for _, p := range packets {
		wantSame(t, p, p, true)
		wantSame(t, p, copied(p), true)
	}
	for i, p := range packets {
		for _, q := range packets[:i] {
			wantSame(t, p, q, bytes.Equal(packetElsewhere(p), packetElsewhere(q)))
		}
	}
}

func TestPacketsThatDifferInOneField(t *testing.T) {
	p := packetOf(7, 3, 0, 8)
	for _, tag := range append(badTags(), 0, 6, 8, 7+256, impl.MaxWord) {
		q := copied(p)
		q.Tag = tag
		wantSame(t, p, q, false)
	}
	for place, c := range p.Chunks {
		for _, n := range append(badBytes(), c.Kind+1, c.Kind+256) {
			q := copied(p)
			q.Chunks[place].Kind = n
			wantSame(t, p, q, false)
		}
		for _, n := range append(badBytes(), c.Flags+1, c.Flags+256) {
			q := copied(p)
			q.Chunks[place].Flags = n
			wantSame(t, p, q, false)
		}
		for i := range c.Body {
			q := copied(p)
			q.Chunks[place].Body[i] ^= 1
			wantSame(t, p, q, false)
			q = copied(p)
			q.Chunks[place].Body = q.Chunks[place].Body[:i]
			wantSame(t, p, q, false)
		}
		q := copied(p)
		q.Chunks[place].Body = append(q.Chunks[place].Body, 0)
		wantSame(t, p, q, false)
		q = copied(p)
		q.Chunks = slices.Delete(q.Chunks, place, place+1)
		wantSame(t, p, q, false)
	}
	q := copied(p)
	q.Chunks = append(q.Chunks, impl.Chunk{})
	wantSame(t, p, q, false)
	q = copied(p)
	slices.Reverse(q.Chunks)
	wantSame(t, p, q, false)
}

func TestSamePacketsOfAnyValues(t *testing.T) {
	wantSame(t, impl.Packet{}, impl.Packet{}, true)
	wantSame(t, impl.Packet{}, impl.Packet{Chunks: []impl.Chunk{}}, true)
	wantSame(t, impl.Packet{}, impl.Packet{Chunks: []impl.Chunk{{}}}, false)
	wantSame(t, impl.Packet{Chunks: []impl.Chunk{{}}}, impl.Packet{Chunks: []impl.Chunk{{Body: []byte{}}}}, true)
	wantSame(t, impl.Packet{Chunks: []impl.Chunk{{}}}, impl.Packet{Chunks: []impl.Chunk{{Body: []byte{0}}}}, false)
	for _, n := range append(badTags(), badBytes()...) {
		p := impl.Packet{Tag: n, Chunks: slices.Repeat([]impl.Chunk{{Kind: n, Flags: n, Body: make([]byte, 1000)}}, 20)}
		wantSame(t, p, copied(p), true)
		q := copied(p)
		q.Chunks[19].Body[999] = 1
		wantSame(t, p, q, false)
	}
}
