package tests

import (
	"bytes"
	"crypto/sha256"
	"encoding"
	"encoding/binary"
	"encoding/hex"
	"math"
	"math/big"
	"slices"
	"strings"
	"testing"

	"loop.example/g00670/impl"
)

// Promise 3: the digest is computed block by block from the padded message, and
// a schedule begins with the words of its block.

// startWords are the eight words that a digest starts with.
func startWords() []int64 {
	return []int64{
		0x6a09e667, 0xbb67ae85, 0x3c6ef372, 0xa54ff53a,
		0x510e527f, 0x9b05688c, 0x1f83d9ab, 0x5be0cd19,
	}
}

// edgeSizes lie where the padding takes one more block, and where the data may
// not be longer.
func edgeSizes() []int {
	return []int{
		0, 1, 2, 3, 31, 32, 33, 54, 55, 56, 57, 62, 63, 64, 65, 118, 119, 120, 121, 127, 128,
		129, 183, 184, 192, 247, 248, 511, 512, 567, 568, 631, 632, 695, 696, 699, 700,
	}
}

// someData returns bytes that follow no simple pattern, other ones for each seed.
func someData(size int, seed uint32) []byte {
	data := make([]byte, size)
	for i := range data {
		seed = seed*1664525 + 1013904223
		data[i] = byte(seed >> 24)
	}
	return data
}

// someState returns eight words that follow no simple pattern.
func someState(seed uint32) []int64 {
	packed := someData(32, seed)
	state := make([]int64, 8)
	for i := range state {
		state[i] = int64(binary.BigEndian.Uint32(packed[4*i:]))
	}
	return state
}

// someStates include those in which every sum wraps around, or none does.
func someStates() [][]int64 {
	states := [][]int64{
		startWords(),
		slices.Repeat([]int64{0}, 8),
		slices.Repeat([]int64{1}, 8),
		slices.Repeat([]int64{2147483648}, 8),
		slices.Repeat([]int64{impl.MaxWord}, 8),
		slices.Repeat([]int64{0, impl.MaxWord}, 4),
		slices.Repeat([]int64{impl.MaxWord, 0}, 4),
	}
	for place := range 8 {
		for _, n := range []int64{0, impl.MaxWord} {
			state := startWords()
			state[place] = n
			states = append(states, state)
		}
	}
	for seed := range uint32(8) {
		states = append(states, someState(seed))
	}
	return states
}

// countingBlock is the block of the bytes 0 to 63.
func countingBlock() []byte {
	block := make([]byte, 64)
	for i := range block {
		block[i] = byte(i)
	}
	return block
}

// someBlocks include those of a single bit.
func someBlocks() [][]byte {
	blocks := [][]byte{make([]byte, 64), bytes.Repeat([]byte{255}, 64), countingBlock(), abcBlock()}
	for i := range 64 {
		block := make([]byte, 64)
		block[i] = 1 << (i % 8)
		blocks = append(blocks, block)
	}
	for seed := range uint32(8) {
		blocks = append(blocks, someData(64, seed))
	}
	return blocks
}

// abcBlock is the only block of the padded message abc.
func abcBlock() []byte {
	block := make([]byte, 64)
	copy(block, "abc\x80")
	block[63] = 24
	return block
}

func wantBytes(t *testing.T, got impl.BytesResult, want []byte, call string, args ...any) {
	t.Helper()
	if got.Code != impl.OK || !bytes.Equal(got.Bytes, want) {
		t.Errorf("%s %v = %+v, want %v", call, args, got, want)
	}
}

func wantNoBytes(t *testing.T, got impl.BytesResult, code int64, call string, args ...any) {
	t.Helper()
	if got.Code != code || len(got.Bytes) != 0 {
		t.Errorf("%s %v = %+v, want the code %d and no bytes", call, args, got, code)
	}
}

func wantWords(t *testing.T, got impl.WordsResult, want []int64, call string, args ...any) {
	t.Helper()
	if got.Code != impl.OK || !slices.Equal(got.Words, want) {
		t.Errorf("%s %v = %+v, want %v", call, args, got, want)
	}
}

func wantNoWords(t *testing.T, got impl.WordsResult, code int64, call string, args ...any) {
	t.Helper()
	if got.Code != code || len(got.Words) != 0 {
		t.Errorf("%s %v = %+v, want the code %d and no words", call, args, got, code)
	}
}

func TestRoundWord(t *testing.T) {
	for _, c := range []struct{ i, want int64 }{
		{0, 0x428a2f98}, {1, 0x71374491}, {7, 0xab1c5ed5}, {8, 0xd807aa98}, {15, 0xc19bf174},
		{16, 0xe49b69c1}, {18, 0x0fc19dc6}, {30, 0x06ca6351}, {31, 0x14292967},
		{32, 0x27b70a85}, {47, 0x106aa070}, {48, 0x19a4c116}, {62, 0xbef9a3f7}, {63, 0xc67178f2},
	} {
		wantInt(t, impl.RoundWord(c.i), c.want, "RoundWord", c.i)
	}
	for _, i := range []int64{
		-1, -2, -63, -64, 64, 65, 127, 128, 256, 4294967296, 4294967297, -4294967296,
		math.MinInt64, math.MinInt64 + 1, math.MaxInt64 - 1, math.MaxInt64,
	} {
		wantRange(t, impl.RoundWord(i), "RoundWord", i)
	}
}

// The constants are the first 32 bits after the point of the cube roots of the
// first 64 primes. Deriving them checks each without copying the table.
func TestRoundWordsAreThoseOfThePrimes(t *testing.T) {
	prime := int64(1)
	for i := range int64(64) {
		for prime++; !big.NewInt(prime).ProbablyPrime(0); prime++ {
		}
		scaled := new(big.Int).Lsh(big.NewInt(prime), 96)
		root := new(big.Int)
		for bit := 36; bit >= 0; bit-- {
			larger := new(big.Int).SetBit(root, bit, 1)
			if new(big.Int).Exp(larger, big.NewInt(3), nil).Cmp(scaled) <= 0 {
				root = larger
			}
		}
		wantInt(t, impl.RoundWord(i), root.Int64()%allNumbers, "RoundWord", i)
	}
}

func TestPaddedSizes(t *testing.T) {
	for _, c := range []struct{ size, want int }{
		{0, 64}, {1, 64}, {54, 64}, {55, 64}, {56, 128}, {57, 128}, {63, 128}, {64, 128},
		{65, 128}, {118, 128}, {119, 128}, {120, 192}, {127, 192}, {128, 192}, {129, 192},
		{183, 192}, {184, 256}, {695, 704}, {696, 768}, {699, 768}, {700, 768},
	} {
		got := impl.PadMessage(make([]byte, c.size))
		if got.Code != impl.OK || len(got.Bytes) != c.want {
			t.Errorf("%d bytes: code %d, %d padded bytes, want %d", c.size, got.Code, len(got.Bytes), c.want)
		}
	}
}

func TestPadMessage(t *testing.T) {
	wantBytes(t, impl.PadMessage(nil), append([]byte{128}, make([]byte, 63)...), "PadMessage of nil")
	wantBytes(t, impl.PadMessage([]byte{}), append([]byte{128}, make([]byte, 63)...), "PadMessage of no bytes")
	wantBytes(t, impl.PadMessage([]byte("abc")), abcBlock(), "PadMessage of abc")
	for size := range impl.MaxText + 1 {
		// Data that itself ends in the mark or in zeros is kept as it is.
		for _, data := range [][]byte{
			someData(size, 1), make([]byte, size), bytes.Repeat([]byte{128}, size), bytes.Repeat([]byte{255}, size),
		} {
			want := append(bytes.Clone(data), 128)
			for len(want)%64 != 56 {
				want = append(want, 0)
			}
			want = append(want, 0, 0, 0, 0, 0, 0, byte(size*8/256), byte(size*8%256))
			wantBytes(t, impl.PadMessage(data), want, "PadMessage", size)
		}
	}
}

func TestScheduleOf(t *testing.T) {
	for _, c := range []struct {
		block []byte
		words map[int]int64
	}{
		{make([]byte, 64), map[int]int64{0: 0, 15: 0, 16: 0, 63: 0}},
		{abcBlock(), map[int]int64{
			0: 1633837952, 1: 0, 14: 0, 15: 24, 16: 1633837952, 17: 983040, 18: 2108187653,
			31: 3552024379, 32: 2482346367, 62: 4004225740, 63: 313650667,
		}},
		// Every sum behind the block wraps around.
		{bytes.Repeat([]byte{255}, 64), map[int]int64{
			0: 4294967295, 15: 4294967295, 16: 541065212, 17: 541065212, 18: 537500644, 63: 1271836425,
		}},
		{countingBlock(), map[int]int64{
			0: 66051, 15: 1010646591, 16: 763660620, 17: 3130628191, 63: 615085845,
		}},
	} {
		got := impl.ScheduleOf(c.block)
		if got.Code != impl.OK || len(got.Words) != 64 {
			t.Fatalf("ScheduleOf(%v) = %+v", c.block, got)
		}
		for i, want := range c.words {
			if got.Words[i] != want {
				t.Errorf("ScheduleOf(%v): word %d is %d, want %d", c.block, i, got.Words[i], want)
			}
		}
	}
}

func TestAScheduleBeginsWithTheWordsOfItsBlock(t *testing.T) {
	for _, block := range someBlocks() {
		got := impl.ScheduleOf(block)
		if got.Code != impl.OK || len(got.Words) != 64 {
			t.Fatalf("ScheduleOf(%v) = %+v", block, got)
		}
		for i := range int64(16) {
			wantInt(t, impl.WordAt(block, 4*i), got.Words[i], "WordAt, for the schedule's word", i)
		}
	}
}

func TestFurtherWordsOfASchedule(t *testing.T) {
	turned := func(w int64, n int64) int64 { return impl.RotateWord(w, n).Value }
	for _, block := range someBlocks() {
		w := impl.ScheduleOf(block).Words
		if len(w) != 64 {
			t.Fatalf("ScheduleOf(%v) has %d words", block, len(w))
		}
		for i := 16; i < 64; i++ {
			x, y := w[i-15], w[i-2]
			s0 := turned(x, 7) ^ turned(x, 18) ^ x/8
			s1 := turned(y, 17) ^ turned(y, 19) ^ y/1024
			if want := (w[i-16] + w[i-7] + s0 + s1) % allNumbers; w[i] != want {
				t.Errorf("ScheduleOf(%v): word %d is %d, want %d", block, i, w[i], want)
			}
		}
	}
}

func TestCompressBlock(t *testing.T) {
	zero, most := int64(0), int64(impl.MaxWord)
	for _, c := range []struct {
		state []int64
		block []byte
		want  []int64
	}{
		{startWords(), abcBlock(), []int64{
			3128432319, 2399260650, 1094795486, 1571693091, 2953011619, 2518121116, 3021012833, 4060091821,
		}},
		{slices.Repeat([]int64{zero}, 8), make([]byte, 64), []int64{
			2091193876, 1113340840, 3461668143, 3254913767, 3068490961, 2551409935, 2927503052, 3205228454,
		}},
		{slices.Repeat([]int64{most}, 8), bytes.Repeat([]byte{255}, 64), []int64{
			93852282, 2937155694, 2000691199, 3610297673, 193251431, 2844552355, 3623076089, 111643513,
		}},
		{slices.Repeat([]int64{zero, most}, 4), countingBlock(), []int64{
			1957661542, 1754019234, 185399342, 1154319089, 2237588778, 2563908699, 2962933045, 634484486,
		}},
		{slices.Repeat([]int64{most, zero}, 4), countingBlock(), []int64{
			3914937414, 789180385, 1937751238, 675017728, 3125549552, 627528380, 3572045120, 1393146571,
		}},
	} {
		wantWords(t, impl.CompressBlock(c.state, c.block), c.want, "CompressBlock", c.state, c.block)
	}
}

// compressedElsewhere has the standard library digest the block, after a saved
// state was loaded into it.
func compressedElsewhere(t *testing.T, state []int64, block []byte) []int64 {
	t.Helper()
	saved := []byte("sha\x03")
	for _, w := range state {
		saved = binary.BigEndian.AppendUint32(saved, uint32(w))
	}
	saved = append(saved, make([]byte, 64+8)...)
	digest := sha256.New()
	if err := digest.(encoding.BinaryUnmarshaler).UnmarshalBinary(saved); err != nil {
		t.Fatal(err)
	}
	digest.Write(block)
	saved, err := digest.(encoding.BinaryMarshaler).MarshalBinary()
	if err != nil {
		t.Fatal(err)
	}
	next := make([]int64, 8)
	for i := range next {
		next[i] = int64(binary.BigEndian.Uint32(saved[4+4*i:]))
	}
	return next
}

func TestCompressBlockForManyStatesAndBlocks(t *testing.T) {
	for _, state := range someStates() {
		for _, block := range someBlocks() {
			want := compressedElsewhere(t, state, block)
			wantWords(t, impl.CompressBlock(state, block), want, "CompressBlock", state, block)
		}
	}
}

func TestKnownDigests(t *testing.T) {
	for _, c := range []struct{ text, want string }{
		{"", "e3b0c44298fc1c149afbf4c8996fb92427ae41e4649b934ca495991b7852b855"},
		{"abc", "ba7816bf8f01cfea414140de5dae2223b00361a396177a9cb410ff61f20015ad"},
		{
			"abcdbcdecdefdefgefghfghighijhijkijkljklmklmnlmnomnopnopq",
			"248d6a61d20638b8e5c026930c3e6039a33ce45964ff2167f6ecedd419db06c1",
		},
		{
			"abcdefghbcdefghicdefghijdefghijkefghijklfghijklmghijklmn" +
				"hijklmnoijklmnopjklmnopqklmnopqrlmnopqrsmnopqrstnopqrstu",
			"cf5b16a778af8380036ce59e7b0492370b249b11e8f07a51afac45037afee9d1",
		},
		{strings.Repeat("a", 55), "9f4390f8d30c2dd92ec9f095b65e2b9ae9b0a925a5258e241c9f1e910f734318"},
		{strings.Repeat("a", 56), "b35439a4ac6f0948b6d6f9e3c6af0f5f590ce20f1bde7090ef7970686ec6738a"},
		{strings.Repeat("a", 64), "ffe054fe7ae0cb6dc65c3af9b61d5209f439851db43d0ba5997337df154668eb"},
		{strings.Repeat("a", 700), "dcdfca8ca3c00b9576f50524178ff4efb8e5548b3bb2d6b8bb85a021d042b518"},
	} {
		want, err := hex.DecodeString(c.want)
		if err != nil {
			t.Fatal(err)
		}
		wantBytes(t, impl.Sha256([]byte(c.text)), want, "Sha256", c.text)
	}
	wantBytes(t, impl.Sha256(nil), impl.Sha256([]byte{}).Bytes, "Sha256 of nil")
	if got := impl.Sha256(nil); !bytes.HasPrefix(got.Bytes, []byte{227, 176, 196, 66}) {
		t.Errorf("Sha256(nil) = %v", got)
	}
}

func TestDigestsOfAllSizes(t *testing.T) {
	for size := range impl.MaxText + 1 {
		for _, data := range [][]byte{
			someData(size, 7), make([]byte, size), bytes.Repeat([]byte{128}, size), bytes.Repeat([]byte{255}, size),
		} {
			want := sha256.Sum256(data)
			wantBytes(t, impl.Sha256(data), want[:], "Sha256", size)
		}
	}
}

func TestTheDigestIsComputedBlockByBlock(t *testing.T) {
	for _, size := range edgeSizes() {
		data := someData(size, 3)
		padded := impl.PadMessage(data).Bytes
		if len(padded) < 64 || len(padded)%64 != 0 {
			t.Fatalf("PadMessage of %d bytes has %d", size, len(padded))
		}
		state := startWords()
		for block := range slices.Chunk(padded, 64) {
			state = impl.CompressBlock(state, block).Words
		}
		var want []byte
		for _, w := range state {
			want = append(want, impl.PackWord(w).Bytes...)
		}
		wantBytes(t, impl.Sha256(data), want, "Sha256", size)
	}
}

func TestTooMuchData(t *testing.T) {
	if impl.MaxText != 700 {
		t.Errorf("MaxText is %d", int64(impl.MaxText))
	}
	for _, size := range []int{701, 702, 703, 704, 728, 767, 768, 769, 1400, 65536} {
		wantNoBytes(t, impl.PadMessage(someData(size, 1)), impl.ErrMany, "PadMessage", size)
		wantNoBytes(t, impl.Sha256(someData(size, 1)), impl.ErrMany, "Sha256", size)
	}
	// The spare capacity does not belong to the data.
	roomy := make([]byte, 700, 2000)
	if got := impl.PadMessage(roomy); got.Code != impl.OK {
		t.Errorf("PadMessage of 700 bytes with spare capacity: code %d", got.Code)
	}
	if got := impl.Sha256(roomy); got.Code != impl.OK {
		t.Errorf("Sha256 of 700 bytes with spare capacity: code %d", got.Code)
	}
}

// badSizes are numbers of bytes that are not those of a block.
func badSizes() []int {
	return []int{0, 1, 8, 15, 16, 32, 60, 62, 63, 65, 66, 68, 127, 128, 700, 701}
}

func TestBlocksOfAWrongSize(t *testing.T) {
	wantNoWords(t, impl.ScheduleOf(nil), impl.ErrMany, "ScheduleOf of nil")
	wantNoWords(t, impl.CompressBlock(startWords(), nil), impl.ErrMany, "CompressBlock with nil")
	for _, size := range badSizes() {
		for _, block := range [][]byte{make([]byte, size), make([]byte, size, size+64)} {
			wantNoWords(t, impl.ScheduleOf(block), impl.ErrMany, "ScheduleOf", size)
			wantNoWords(t, impl.CompressBlock(startWords(), block), impl.ErrMany, "CompressBlock", size)
		}
	}
}

func TestStatesOfAWrongSize(t *testing.T) {
	wantNoWords(t, impl.CompressBlock(nil, abcBlock()), impl.ErrMany, "CompressBlock of nil")
	for _, count := range []int{0, 1, 6, 7, 9, 10, 16, 64} {
		for _, state := range [][]int64{make([]int64, count), make([]int64, count, count+8)} {
			wantNoWords(t, impl.CompressBlock(state, abcBlock()), impl.ErrMany, "CompressBlock", count)
		}
	}
}

func TestStatesWithNumbersThatAreNoWords(t *testing.T) {
	for place := range 8 {
		for _, bad := range noWords() {
			state := startWords()
			state[place] = bad
			wantNoWords(t, impl.CompressBlock(state, abcBlock()), impl.ErrRange, "CompressBlock", state)
		}
	}
	for _, bad := range noWords() {
		state := slices.Repeat([]int64{bad}, 8)
		wantNoWords(t, impl.CompressBlock(state, abcBlock()), impl.ErrRange, "CompressBlock", state)
	}
}

func TestTheWrongNumberComesBeforeTheWrongWord(t *testing.T) {
	for _, bad := range noWords() {
		for place := range 8 {
			state := startWords()
			state[place] = bad
			for _, size := range badSizes() {
				got := impl.CompressBlock(state, make([]byte, size))
				wantNoWords(t, got, impl.ErrMany, "CompressBlock", state, size)
			}
		}
		for _, count := range []int{1, 7, 9} {
			state := slices.Repeat([]int64{bad}, count)
			wantNoWords(t, impl.CompressBlock(state, abcBlock()), impl.ErrMany, "CompressBlock", state)
			wantNoWords(t, impl.CompressBlock(state, make([]byte, 63)), impl.ErrMany, "CompressBlock", state)
		}
		// Here the number that is no word is behind those that a state has.
		behind := append(startWords(), bad)
		wantNoWords(t, impl.CompressBlock(behind, abcBlock()), impl.ErrMany, "CompressBlock", behind)
	}
}
