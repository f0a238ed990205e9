package tests

import (
	"bytes"
	"encoding/hex"
	"math"
	"slices"
	"strings"
	"testing"

	"loop.example/g00670/impl"
)

// Promise 8: chunks protected by a key pass the check with it, and fail it if the
// digest is changed.

// tagElsewhere returns the tag chunk, also for an id that no tag chunk may have.
func tagElsewhere(id int64, digest []byte) impl.Chunk {
	return impl.Chunk{Kind: 15, Body: append(appendPair(nil, id), digest...)}
}

func textElsewhere(id int64, chunks []impl.Chunk) []byte {
	text := chunkElsewhere(tagElsewhere(id, make([]byte, 32)))
	for _, c := range chunks {
		text = append(text, chunkElsewhere(c)...)
	}
	return text
}

func protectElsewhere(id int64, key []byte, chunks []impl.Chunk) []impl.Chunk {
	digest := macElsewhere(key, textElsewhere(id, chunks))
	return append([]impl.Chunk{tagElsewhere(id, digest)}, copiedChunks(chunks)...)
}

// chunksFaultElsewhere returns a fault of the chunks.
func chunksFaultElsewhere(chunks []impl.Chunk, limit int) int64 {
	if len(chunks) > limit {
		return impl.ErrMany
	}
	for _, c := range chunks {
		if c.Kind != int64(byte(c.Kind)) || c.Flags != int64(byte(c.Flags)) {
			return impl.ErrRange
		}
		if len(c.Body) > 160 {
			return impl.ErrMany
		}
	}
	return impl.OK
}

// findElsewhere compares the tag chunk with those of all ids.
func findElsewhere(chunks []impl.Chunk) impl.AuthResult {
	if code := chunksFaultElsewhere(chunks, 8); code != impl.OK {
		return impl.AuthResult{Code: code}
	}
	at := slices.IndexFunc(chunks, func(c impl.Chunk) bool { return c.Kind == 15 })
	if at < 0 {
		return impl.AuthResult{Code: impl.ErrNone}
	}
	tag := chunks[at]
	for id := range int64(100) {
		if len(tag.Body) == 34 && equalChunks(tag, tagElsewhere(id, tag.Body[2:])) {
			return impl.AuthResult{KeyId: id, From: int64(at) + 1}
		}
	}
	return impl.AuthResult{Code: impl.ErrText}
}

// checkElsewhere protects the chunks once more.
func checkElsewhere(key []byte, chunks []impl.Chunk) impl.AuthResult {
	if len(key) > 200 {
		return impl.AuthResult{Code: impl.ErrMany}
	}
	found := findElsewhere(chunks)
	if found.Code != impl.OK {
		return found
	}
	if len(textElsewhere(found.KeyId, chunks[found.From:])) > 500 {
		return impl.AuthResult{Code: impl.ErrMany}
	}
	own := protectElsewhere(found.KeyId, key, chunks[found.From:])
	if !equalChunks(own[0], chunks[found.From-1]) {
		return impl.AuthResult{Code: impl.ErrAuth}
	}
	return found
}

// chunksOf returns chunks with bodies of the sizes.
func chunksOf(sizes ...int) []impl.Chunk {
	return packetOf(0, sizes...).Chunks
}

// largestTexts are chunks whose text has 500 bytes.
func largestTexts() [][]impl.Chunk {
	return [][]impl.Chunk{
		chunksOf(160, 160, 128), chunksOf(160, 160, 127), chunksOf(157, 158, 126), chunksOf(159, 125, 160),
		chunksOf(56, 56, 56, 56, 56, 56, 96), chunksOf(53, 54, 55, 56, 53, 54, 95), chunksOf(0, 160, 0, 160, 0, 0, 112),
		chunksOf(148, 148, 152), chunksOf(108, 108, 108, 120),
	}
}

// tooLargeTexts are chunks whose text has 504 bytes or more, though nothing else is
// wrong with them.
func tooLargeTexts() [][]impl.Chunk {
	return [][]impl.Chunk{
		chunksOf(160, 160, 129), chunksOf(160, 160, 132), chunksOf(160, 160, 128, 0), chunksOf(160, 160, 160),
		chunksOf(56, 56, 56, 56, 56, 56, 97), chunksOf(57, 56, 56, 56, 56, 56, 96), chunksOf(160, 160, 160, 160, 160, 160, 160),
		// These have fewer than 500 bytes without the padding.
		chunksOf(157, 157, 125, 0), chunksOf(53, 53, 53, 53, 53, 53, 97),
		// Without the tag chunk, or with only its digest, the text would not be too large.
		chunksOf(160, 160, 160, 4), chunksOf(160, 160, 136),
	}
}

// someChunkLists are from no to seven chunks that a tag chunk may protect.
func someChunkLists() [][]impl.Chunk {
	lists := append(largestTexts(), nil, []impl.Chunk{}, []impl.Chunk{{}}, make([]impl.Chunk, 7),
		chunksOf(0), chunksOf(1, 0), chunksOf(2, 3, 4), chunksOf(0, 0, 0, 0), chunksOf(5, 6, 7, 8, 9), chunksOf(40, 1, 2, 3, 4, 5),
		chunksOf(0, 1, 0, 2, 0, 3, 0), chunksOf(7, 6, 5, 4, 3, 2, 1),
		[]impl.Chunk{packAsconfElsewhere(impl.Asconf{Serial: 7, Ops: []impl.AddrOp{{Kind: impl.OpAdd, Addr: 3}}})},
		[]impl.Chunk{packAnswerElsewhere(impl.Answer{Serial: 7, Codes: []int64{0}})})
	for _, size := range bodySizes() {
		lists = append(lists, chunksOf(size), chunksOf(size, 3), chunksOf(3, size, size))
	}
	for _, kind := range someKinds() {
		lists = append(lists, []impl.Chunk{someChunk(kind, int(kind)%9, 3)})
	}
	return lists
}

// authKeys are an empty key, one of MaxKey bytes, and others.
func authKeys() [][]byte {
	return [][]byte{nil, {}, {0}, []byte("key"), someData(40, 61), someData(64, 62), someData(65, 63), someData(199, 64), someData(200, 65)}
}

// longKeys have more bytes than a key may.
func longKeys() [][]byte {
	var keys [][]byte
	for _, size := range []int{201, 202, 256, 264, 456, 65536} {
		keys = append(keys, make([]byte, size), someData(size, 66))
	}
	return keys
}

// wantText also looks at what is protected with the text, and checks it.
func wantText(t *testing.T, id int64, chunks []impl.Chunk) {
	t.Helper()
	wantBytes(t, impl.MacText(id, chunks), textElsewhere(id, chunks), "MacText", id, chunks)
	keys := authKeys()
	wantProtected(t, id, keys[(len(chunks)+int(id))%len(keys)], chunks)
}

// wantNoText wants the same code of the text and of the protection with it.
func wantNoText(t *testing.T, id int64, chunks []impl.Chunk, code int64) {
	t.Helper()
	wantNoBytes(t, impl.MacText(id, chunks), code, "MacText", id, chunks)
	for _, key := range [][]byte{nil, []byte("key"), make([]byte, 200)} {
		wantNoChunks(t, id, key, chunks, code)
	}
	// A key that is too long comes first.
	wantNoChunks(t, id, make([]byte, 201), chunks, impl.ErrMany)
}

// wantProtected also checks the chunks.
func wantProtected(t *testing.T, id int64, key []byte, chunks []impl.Chunk) {
	t.Helper()
	got, want := impl.ProtectChunks(id, key, chunks), protectElsewhere(id, key, chunks)
	if got.Code != impl.OK || !slices.EqualFunc(got.Chunks, want, equalChunks) {
		t.Errorf("ProtectChunks(%d, %v, %v) = %+v, want %+v", id, key, chunks, got, want)
	}
	wantPass(t, key, got.Chunks, id, 1)
}

func wantNoChunks(t *testing.T, id int64, key []byte, chunks []impl.Chunk, code int64) {
	t.Helper()
	if got := impl.ProtectChunks(id, key, chunks); got.Code != code || len(got.Chunks) != 0 {
		t.Errorf("ProtectChunks(%d, %v, %v) = %+v, want the code %d and no chunks", id, key, chunks, got, code)
	}
}

func wantFound(t *testing.T, chunks []impl.Chunk, id int64, from int64) {
	t.Helper()
	if got := impl.FindAuth(chunks); got != (impl.AuthResult{KeyId: id, From: from}) {
		t.Errorf("FindAuth(%+v) = %+v, want the id %d and the index %d", chunks, got, id, from)
	}
}

// wantUnfound also wants this code if the chunks are checked, with whatever key.
func wantUnfound(t *testing.T, chunks []impl.Chunk, code int64) {
	t.Helper()
	if got := impl.FindAuth(chunks); got != (impl.AuthResult{Code: code}) {
		t.Errorf("FindAuth(%+v) = %+v, want the code %d and nothing else", chunks, got, code)
	}
	for _, key := range [][]byte{nil, []byte("key"), make([]byte, 200)} {
		wantFail(t, key, chunks, code)
	}
	wantFail(t, make([]byte, 201), chunks, impl.ErrMany)
}

func wantPass(t *testing.T, key []byte, chunks []impl.Chunk, id int64, from int64) {
	t.Helper()
	wantFound(t, chunks, id, from)
	if got := impl.CheckAuth(key, chunks); got != (impl.AuthResult{KeyId: id, From: from}) {
		t.Errorf("CheckAuth(%v, %+v) = %+v, want the id %d and the index %d", key, chunks, got, id, from)
	}
}

func wantFail(t *testing.T, key []byte, chunks []impl.Chunk, code int64) {
	t.Helper()
	if got := impl.CheckAuth(key, chunks); got != (impl.AuthResult{Code: code}) {
		t.Errorf("CheckAuth(%v, %+v) = %+v, want the code %d and nothing else", key, chunks, got, code)
	}
}

// wantCheckAsElsewhere finds and checks in two ways, and returns the code.
func wantCheckAsElsewhere(t *testing.T, key []byte, chunks []impl.Chunk) int64 {
	t.Helper()
	if got, want := impl.FindAuth(chunks), findElsewhere(chunks); got != want {
		t.Errorf("FindAuth(%+v) = %+v, want %+v", chunks, got, want)
	}
	want := checkElsewhere(key, chunks)
	if got := impl.CheckAuth(key, chunks); got != want {
		t.Errorf("CheckAuth(%v, %+v) = %+v, want %+v", key, chunks, got, want)
	}
	return want.Code
}

// changedChunks returns the chunks with one of them changed.
func changedChunks(chunks []impl.Chunk, place int, change func(c *impl.Chunk)) []impl.Chunk {
	own := copiedChunks(chunks)
	change(&own[place])
	return own
}

func TestKindsThatNeedAuthentication(t *testing.T) {
	for kind := int64(-300); kind < 1000; kind++ {
		if got, want := impl.NeedsAuth(kind), kind == 193 || kind == 128; got != want {
			t.Errorf("NeedsAuth(%d) = %t", kind, got)
		}
	}
	for _, needed := range []int64{impl.KindAsconf, impl.KindAnswer} {
		if !impl.NeedsAuth(needed) {
			t.Errorf("the kind %d needs no authentication", needed)
		}
		for _, n := range []int64{needed + 256, needed - 256, needed + 65536, needed + impl.MaxWord + 1, needed + math.MinInt64, -needed, ^needed} {
			if impl.NeedsAuth(n) {
				t.Errorf("NeedsAuth(%d) is true", n)
			}
		}
	}
	for _, kind := range append(anyNumbers(), badBytes()...) {
		if kind != 128 && kind != 193 && impl.NeedsAuth(kind) {
			t.Errorf("NeedsAuth(%d) is true", kind)
		}
	}
}

func TestKnownTexts(t *testing.T) {
	blank := make([]byte, 34)
	for _, c := range []struct {
		id     int64
		chunks []impl.Chunk
		want   []byte
	}{
		{0, nil, slices.Concat([]byte{15, 0, 0, 38, 0, 0}, blank)},
		{99, []impl.Chunk{}, slices.Concat([]byte{15, 0, 0, 38, 0, 99}, blank)},
		{3, []impl.Chunk{{Kind: impl.KindAsconf, Body: []byte{1, 2, 3}}}, slices.Concat([]byte{15, 0, 0, 38, 0, 3}, blank, []byte{193, 0, 0, 7, 1, 2, 3, 0})},
		{1, []impl.Chunk{{}}, slices.Concat([]byte{15, 0, 0, 38, 0, 1}, blank, []byte{0, 0, 0, 4})},
		{
			10, []impl.Chunk{{Kind: 128, Flags: 7, Body: []byte{5, 6, 7, 8}}, {Kind: 255, Flags: 255, Body: []byte{9}}},
			slices.Concat([]byte{15, 0, 0, 38, 0, 10}, blank, []byte{128, 7, 0, 8, 5, 6, 7, 8, 255, 255, 0, 5, 9, 0, 0, 0}),
		},
		{
			5, []impl.Chunk{{Kind: 15, Flags: 1, Body: []byte{2, 3}}, {Kind: 6}},
			slices.Concat([]byte{15, 0, 0, 38, 0, 5}, blank, []byte{15, 1, 0, 6, 2, 3, 0, 0, 6, 0, 0, 4}),
		},
	} {
		wantBytes(t, impl.MacText(c.id, c.chunks), c.want, "MacText", c.id, c.chunks)
	}
}

func TestKnownProtection(t *testing.T) {
	letters := func(letter string, count int) []byte { return []byte(strings.Repeat(letter, count)) }
	for _, c := range []struct {
		id     int64
		key    []byte
		chunks []impl.Chunk
		digest string
	}{
		{3, []byte("key"), []impl.Chunk{{Kind: 193, Body: []byte{1, 2, 3}}}, "422cca4b3b00a6953da861e4775ab8681b60e43f1798145e4a7bb2726cda2de3"},
		{3, []byte("key"), nil, "e2e81a82457255941f7fb982445f816454e6d32fdb99265d03abcc7308d2fc03"},
		{0, nil, nil, "9c1183ba21d9b75c8606df79d5fe687c8bb1fc937b2ebfcb191cd9c44454d1e6"},
		{0, []byte{}, []impl.Chunk{}, "9c1183ba21d9b75c8606df79d5fe687c8bb1fc937b2ebfcb191cd9c44454d1e6"},
		{99, letters("k", 200), []impl.Chunk{{Kind: 128, Flags: 7, Body: []byte("abcd")}, {Kind: 6}}, "c1a96688b01dd3f7a0c4b7180759067df6e0628d7b326bd4b0e1ca31842d1538"},
		{1, letters("k", 64), slices.Repeat([]impl.Chunk{{Flags: 255, Body: []byte{255}}}, 7), "99bd716c43ae505a1eb56e74dc3d06c64cb9a931e836fd3e2b39d8a5bc444fd6"},
		{
			50, []byte("key"), []impl.Chunk{{Kind: 4, Body: letters("d", 160)}, {Kind: 5, Body: letters("d", 160)}, {Body: letters("d", 128)}},
			"7dfb16ba71c3f64cea47110623b8da2f4e9a66c04a2169699d96b92eda1116e5",
		},
	} {
		digest, err := hex.DecodeString(c.digest)
		if err != nil {
			t.Fatal(err)
		}
		want := append([]impl.Chunk{{Kind: 15, Body: slices.Concat([]byte{0, byte(c.id)}, digest)}}, c.chunks...)
		if got := impl.ProtectChunks(c.id, c.key, c.chunks); got.Code != impl.OK || !slices.EqualFunc(got.Chunks, want, equalChunks) {
			t.Errorf("ProtectChunks(%d, %v, %v) = %+v, want %+v", c.id, c.key, c.chunks, got, want)
		}
		wantPass(t, c.key, want, c.id, 1)
	}
}

func TestTheExampleOfProtection(t *testing.T) {
	for _, chunks := range someChunkLists() {
		protected := impl.ProtectChunks(3, []byte("key"), chunks).Chunks
		wantPass(t, []byte("key"), protected, 3, 1)
		for _, key := range []string{"", "k", "ke", "kez", "Key", "keys", "yek"} {
			wantFail(t, []byte(key), protected, impl.ErrAuth)
		}
	}
}

func TestProtectedChunksPassTheCheck(t *testing.T) {
	t.Parallel()
	for i, chunks := range someChunkLists() {
		for j, key := range authKeys() {
			for _, id := range []int64{0, 1, 98, 99, int64(i*9+j) % 100} {
				wantText(t, id, chunks)
				wantProtected(t, id, key, chunks)
			}
		}
	}
	for id := range int64(100) {
		for size := range impl.MaxKey + 1 {
			wantProtected(t, id, someData(size, uint32(id)), chunksOf(size%5))
		}
	}
	for size := range impl.MaxBody + 1 {
		for _, chunks := range [][]impl.Chunk{chunksOf(size), chunksOf(size, 0), chunksOf(2, size), chunksOf(160-size, size, 120)} {
			wantText(t, int64(size)%100, chunks)
		}
	}
}

func TestTheNumberOfProtectedChunks(t *testing.T) {
	for count := range 30 {
		chunks := make([]impl.Chunk, count)
		for i := range chunks {
			chunks[i] = impl.Chunk{Kind: int64(i), Flags: int64(count), Body: someData(i%5, uint32(i))}
		}
		if count < impl.MaxChunks {
			wantText(t, 4, chunks)
			wantPass(t, nil, protectElsewhere(4, nil, chunks), 4, 1)
			continue
		}
		wantNoText(t, 4, chunks, impl.ErrMany)
		wantUnfound(t, protectElsewhere(4, nil, chunks), impl.ErrMany)
	}
	for _, count := range []int{255, 256, 257, 263, 1000, 65536 + 3} {
		wantNoText(t, 4, make([]impl.Chunk, count), impl.ErrMany)
		wantUnfound(t, protectElsewhere(4, nil, make([]impl.Chunk, count-1)), impl.ErrMany)
		wantUnfound(t, make([]impl.Chunk, count), impl.ErrMany)
	}
}

func TestTextsOfTooManyBytes(t *testing.T) {
	for _, chunks := range largestTexts() {
		if size := len(textElsewhere(0, chunks)); size != impl.MaxPacket {
			t.Errorf("a largest text has %d bytes", size)
		}
		wantText(t, 7, chunks)
		for _, key := range authKeys() {
			wantProtected(t, 99, key, chunks)
		}
	}
	for _, chunks := range tooLargeTexts() {
		if size := len(textElsewhere(0, chunks)); size < 504 {
			t.Errorf("a text that is too large has %d bytes", size)
		}
		for _, id := range []int64{0, 7, 99} {
			wantNoText(t, id, chunks, impl.ErrMany)
			// The tag chunk is found, but the chunks fail with the right digest and with others.
			protected := protectElsewhere(id, []byte("key"), chunks)
			wantFound(t, protected, id, 1)
			wantFail(t, []byte("key"), protected, impl.ErrMany)
			wantFail(t, nil, protected, impl.ErrMany)
		}
	}
}

func TestIdsOfTexts(t *testing.T) {
	for _, chunks := range [][]impl.Chunk{nil, chunksOf(3), largestTexts()[0]} {
		for id := range int64(100) {
			wantText(t, id, chunks)
		}
		for _, id := range append(badIds(), 100, 101, -1, -2, 200, 255) {
			wantNoText(t, id, chunks, impl.ErrRange)
		}
	}
}

func TestKeysThatAreTooLong(t *testing.T) {
	for _, chunks := range someChunkLists() {
		for _, key := range longKeys() {
			wantNoChunks(t, 3, key, chunks, impl.ErrMany)
			wantFail(t, key, protectElsewhere(3, key, chunks), impl.ErrMany)
			wantFail(t, key, chunks, impl.ErrMany)
		}
		wantProtected(t, 3, make([]byte, 200, 300), chunks)
	}
}

// textCase is what a text is made of, and the key for it.
type textCase struct {
	id     int64
	key    []byte
	chunks []impl.Chunk
}

// chunkBreaches make a chunk faulty. Of two chunks the one with the lower place has
// the lower rank.
func chunkBreaches[T any](rank int, place int, chunk func(v *T) *impl.Chunk) []breach[T] {
	rank += 3 * place
	kinds := numberBreaches(rank, impl.ErrRange, func(v *T) *int64 { return &chunk(v).Kind }, badBytes()...)
	flags := numberBreaches(rank+1, impl.ErrRange, func(v *T) *int64 { return &chunk(v).Flags }, badBytes()...)
	all := append(kinds, flags...)
	for _, size := range []int{161, 162, 164, 256, 290, 416, 65536} {
		all = append(all, breach[T]{rank + 2, impl.ErrMany, func(v *T) { chunk(v).Body = make([]byte, size) }})
	}
	return all
}

func TestOfTwoFaultsOfATextTheFirstCounts(t *testing.T) {
	valid := func() textCase {
		return textCase{99, someData(200, 67), chunksOf(3, 0, 40, 17, 160)}
	}
	wantText(t, valid().id, valid().chunks)
	all := numberBreaches(2, impl.ErrRange, func(v *textCase) *int64 { return &v.id }, badIds()...)
	for _, key := range longKeys() {
		all = append(all, breach[textCase]{1, impl.ErrMany, func(v *textCase) { v.key = key }})
	}
	for _, more := range []int{3, 4, 11, 251, 259} {
		all = append(all, breach[textCase]{3, impl.ErrMany, func(v *textCase) { v.chunks = append(v.chunks, make([]impl.Chunk, more)...) }})
	}
	for place := range len(valid().chunks) {
		all = append(all, chunkBreaches(10, place, func(v *textCase) *impl.Chunk { return &v.chunks[place] })...)
	}
	all = append(all, breach[textCase]{50, impl.ErrMany, func(v *textCase) { v.chunks = append(v.chunks, chunksOf(160, 160)...) }})
	check := func(v textCase, code int64) {
		wantNoChunks(t, v.id, v.key, v.chunks, code)
		if len(v.key) <= impl.MaxKey {
			wantNoBytes(t, impl.MacText(v.id, v.chunks), code, "MacText", v.id, v.chunks)
		}
	}
	eachBreach(valid, all, check)
}

// faultyChunks are chunks with one fault or two, with the code that counts.
func faultyChunks() map[int64][]impl.Chunk {
	faulty := map[int64][]impl.Chunk{}
	for _, n := range badBytes() {
		for _, size := range []int{0, 34, 160, 161} {
			faulty[impl.ErrRange] = append(faulty[impl.ErrRange],
				impl.Chunk{Kind: n, Body: make([]byte, size)}, impl.Chunk{Kind: 15, Flags: n, Body: make([]byte, size)})
		}
	}
	for _, size := range []int{161, 162, 256, 290, 416, 65536} {
		for _, kind := range []int64{0, 15, 128, 193, 255} {
			faulty[impl.ErrMany] = append(faulty[impl.ErrMany], impl.Chunk{Kind: kind, Body: make([]byte, size)})
		}
	}
	return faulty
}

func TestChunksWithFaultsAreNotProtected(t *testing.T) {
	for code, list := range faultyChunks() {
		for _, bad := range list {
			for count := range impl.MaxChunks - 1 {
				for place := range count + 1 {
					wantNoText(t, 5, slices.Insert(chunksOf(make([]int, count)...), place, bad), code)
				}
			}
		}
	}
}

func TestChunksWithFaultsAreNotChecked(t *testing.T) {
	key, chunks := []byte("key"), chunksOf(1, 5)
	protected := append(chunksOf(3, 0), protectElsewhere(8, key, chunks)...)
	wantPass(t, key, protected, 8, 3)
	for code, list := range faultyChunks() {
		for _, bad := range list {
			// A place in front of the tag chunk, at it and behind it.
			for place := range len(protected) + 1 {
				wantUnfound(t, slices.Insert(copiedChunks(protected), place, bad), code)
			}
			for place := range protected {
				wantUnfound(t, changedChunks(protected, place, func(c *impl.Chunk) { *c = bad }), code)
			}
			wantUnfound(t, []impl.Chunk{bad}, code)
			// A fault comes before the search, and also behind a chunk that is no tag chunk.
			wantUnfound(t, append(chunksOf(2), bad), code)
			wantUnfound(t, []impl.Chunk{{Kind: 15}, bad}, code)
			wantUnfound(t, []impl.Chunk{bad, {Kind: 15}}, code)
			wantUnfound(t, slices.Concat(protected, []impl.Chunk{bad, {}, {}, {}}), impl.ErrMany)
		}
	}
	// The first of two chunks with faults counts.
	wide, long := impl.Chunk{Kind: 256}, impl.Chunk{Body: make([]byte, 161)}
	wantUnfound(t, append(copiedChunks(protected), wide, long), impl.ErrRange)
	wantUnfound(t, append(copiedChunks(protected), long, wide), impl.ErrMany)
	wantUnfound(t, slices.Concat([]impl.Chunk{wide}, protected, []impl.Chunk{long}), impl.ErrRange)
	wantUnfound(t, slices.Concat([]impl.Chunk{long}, protected, []impl.Chunk{wide}), impl.ErrMany)
}

func TestAnotherKey(t *testing.T) {
	for _, chunks := range someChunkLists() {
		for _, key := range authKeys() {
			protected := protectElsewhere(8, key, chunks)
			for _, other := range authKeys() {
				// A key with fewer than 64 bytes is the same as with zero bytes behind it.
				if bytes.Equal(macElsewhere(key, nil), macElsewhere(other, nil)) {
					wantPass(t, other, protected, 8, 1)
				} else {
					wantFail(t, other, protected, impl.ErrAuth)
				}
			}
		}
	}
	for _, size := range keySizes() {
		key := someData(size, 68)
		protected := protectElsewhere(8, key, chunksOf(6))
		for place := range key {
			other := bytes.Clone(key)
			other[place] ^= 1
			wantFail(t, other, protected, impl.ErrAuth)
			// Leaving out zero bytes at the end might change no digest.
			if key[place] != 0 {
				wantFail(t, key[:place], protected, impl.ErrAuth)
			}
		}
		if size < impl.MaxKey {
			wantFail(t, append(bytes.Clone(key), 1), protected, impl.ErrAuth)
		}
	}
}

func TestADigestThatIsChanged(t *testing.T) {
	key := []byte("key")
	for i, chunks := range someChunkLists() {
		protected := protectElsewhere(8, key, chunks)
		for place := 2; place < 34; place++ {
			for _, change := range []byte{1, 128, 255, byte(1 + i + place)} {
				wantFail(t, key, changedChunks(protected, 0, func(c *impl.Chunk) { c.Body[place] ^= change }), impl.ErrAuth)
			}
		}
	}
	protected := protectElsewhere(8, key, chunksOf(3, 4))
	for place := 2; place < 34; place++ {
		for change := 1; change < 256; change++ {
			wantFail(t, key, changedChunks(protected, 0, func(c *impl.Chunk) { c.Body[place] ^= byte(change) }), impl.ErrAuth)
		}
		for other := 2; other < place; other++ {
			swapped := changedChunks(protected, 0, func(c *impl.Chunk) { c.Body[place], c.Body[other] = c.Body[other], c.Body[place] })
			if !bytes.Equal(swapped[0].Body, protected[0].Body) {
				wantFail(t, key, swapped, impl.ErrAuth)
			}
		}
	}
	for _, digest := range [][]byte{
		make([]byte, 32), bytes.Repeat([]byte{255}, 32), macElsewhere(key, nil), impl.Sha256(textElsewhere(8, chunksOf(3, 4))).Bytes,
		// The text is taken with the digest in its place, without the tag chunk, or without the chunks.
		macElsewhere(key, slices.Concat(chunkElsewhere(protected[0]), chunkElsewhere(protected[1]), chunkElsewhere(protected[2]))),
		macElsewhere(key, textElsewhere(8, chunksOf(3, 4))[40:]), macElsewhere(key, textElsewhere(8, nil)),
		macElsewhere(key, textElsewhere(8, chunksOf(3, 4))[4:]), macElsewhere(textElsewhere(8, chunksOf(3, 4)), key),
	} {
		wantFail(t, key, append([]impl.Chunk{tagElsewhere(8, digest)}, chunksOf(3, 4)...), impl.ErrAuth)
	}
}

func TestAnIdThatIsChanged(t *testing.T) {
	t.Parallel()
	key := []byte("key")
	for _, chunks := range [][]impl.Chunk{nil, chunksOf(7), largestTexts()[4]} {
		for _, id := range []int64{0, 1, 8, 50, 98, 99} {
			protected := protectElsewhere(id, key, chunks)
			for other := range int64(65536) {
				changed := changedChunks(protected, 0, func(c *impl.Chunk) { copy(c.Body, appendPair(nil, other)) })
				switch {
				case other == id:
					wantPass(t, key, changed, id, 1)
				case other < 100:
					wantFound(t, changed, other, 1)
					wantFail(t, key, changed, impl.ErrAuth)
				case other < 1000 || other%251 == 0 || other%256 < 100 && other%7 == 0 || other > 65500:
					wantUnfound(t, changed, impl.ErrText)
				}
			}
		}
	}
}

// variantsOf returns chunks that differ from a chunk in one field, as far as a chunk
// may have it.
func variantsOf(c impl.Chunk) []impl.Chunk {
	var list []impl.Chunk
	for bit := range 8 {
		list = append(list, impl.Chunk{Kind: c.Kind ^ 1<<bit, Flags: c.Flags, Body: c.Body})
		list = append(list, impl.Chunk{Kind: c.Kind, Flags: c.Flags ^ 1<<bit, Body: c.Body})
	}
	for place := range c.Body {
		for _, change := range []byte{1, 128} {
			other := bytes.Clone(c.Body)
			other[place] ^= change
			list = append(list, impl.Chunk{Kind: c.Kind, Flags: c.Flags, Body: other})
		}
	}
	if len(c.Body) > 0 {
		list = append(list, impl.Chunk{Kind: c.Kind, Flags: c.Flags}, impl.Chunk{Kind: c.Kind, Flags: c.Flags, Body: c.Body[1:]})
		list = append(list, impl.Chunk{Kind: c.Kind, Flags: c.Flags, Body: c.Body[:len(c.Body)-1]})
	}
	// A zero byte more may take the place of the padding: only the length tells it.
	for more := 1; more <= 4; more++ {
		if len(c.Body)+more <= impl.MaxBody {
			list = append(list, impl.Chunk{Kind: c.Kind, Flags: c.Flags, Body: append(bytes.Clone(c.Body), make([]byte, more)...)})
		}
	}
	return list
}

// changedLists returns the chunks with one of them changed, left out, added or
// exchanged with another one.
func changedLists(chunks []impl.Chunk) [][]impl.Chunk {
	var lists [][]impl.Chunk
	for place, c := range chunks {
		for _, other := range variantsOf(c) {
			lists = append(lists, changedChunks(chunks, place, func(c *impl.Chunk) { *c = other }))
		}
		lists = append(lists, slices.Delete(copiedChunks(chunks), place, place+1))
		lists = append(lists, changedChunks(chunks, place, func(c *impl.Chunk) { *c = someChunk(77, 5, 69) }))
		for other := range place {
			own := copiedChunks(chunks)
			own[place], own[other] = own[other], own[place]
			if !equalChunks(own[place], own[other]) {
				lists = append(lists, own)
			}
		}
	}
	for place := range len(chunks) + 1 {
		for _, c := range []impl.Chunk{{}, {Kind: impl.KindAbort}, someChunk(193, 6, 70), {Kind: 15, Body: make([]byte, 34)}} {
			lists = append(lists, slices.Insert(copiedChunks(chunks), place, c))
		}
	}
	if len(chunks) > 0 {
		lists = append(lists, nil, chunks[:len(chunks)-1], chunks[1:])
	}
	return lists
}

func TestEveryChunkBehindTheTagChunkCounts(t *testing.T) {
	t.Parallel()
	key := []byte("key")
	for _, chunks := range someChunkLists() {
		tag := protectElsewhere(8, key, chunks)[0]
		for _, changed := range changedLists(chunks) {
			protected := append([]impl.Chunk{tag}, changed...)
			want := int64(impl.ErrAuth)
			if len(protected) > impl.MaxChunks || len(textElsewhere(8, changed)) > impl.MaxPacket {
				want = impl.ErrMany
			}
			wantFail(t, key, protected, want)
		}
		wantPass(t, key, append([]impl.Chunk{tag}, chunks...), 8, 1)
	}
}

// aheadLists are chunks that may stand in front of a tag chunk. Some have so many
// bytes that no text could have them.
func aheadLists() [][]impl.Chunk {
	lists := [][]impl.Chunk{
		nil, {{}}, chunksOf(9), {{Kind: impl.KindAsconf, Body: []byte{1, 2, 3}}}, {{Kind: impl.KindAbort}, {Kind: 14}, {Kind: 16}},
		{{Kind: impl.KindCookie, Flags: 255, Body: someData(34, 71)}}, {{Kind: impl.KindData, Body: make([]byte, 34)}},
	}
	for count := range impl.MaxChunks {
		lists = append(lists, make([]impl.Chunk, count), slices.Repeat([]impl.Chunk{{Kind: 193, Body: make([]byte, 160)}}, count))
	}
	return lists
}

func TestChunksInFrontOfTheTagChunkDoNotCount(t *testing.T) {
	key := []byte("key")
	for _, chunks := range someChunkLists() {
		protected := protectElsewhere(99, key, chunks)
		for _, ahead := range aheadLists() {
			whole := slices.Concat(ahead, protected)
			if len(whole) > impl.MaxChunks {
				wantUnfound(t, whole, impl.ErrMany)
				continue
			}
			wantPass(t, key, whole, 99, int64(len(ahead))+1)
			wantFail(t, []byte("kez"), whole, impl.ErrAuth)
			place := len(ahead)
			wantFail(t, key, changedChunks(whole, place, func(c *impl.Chunk) { c.Body[33] ^= 1 }), impl.ErrAuth)
			wantFail(t, key, changedChunks(whole, place, func(c *impl.Chunk) { c.Body[1] = 98 }), impl.ErrAuth)
		}
	}
}

func TestChangingChunksInFrontOfTheTagChunk(t *testing.T) {
	key, chunks := []byte("key"), chunksOf(5, 40)
	protected := protectElsewhere(8, key, chunks)
	for _, ahead := range [][]impl.Chunk{chunksOf(3), chunksOf(0, 9), chunksOf(1, 2, 3)} {
		wantPass(t, key, slices.Concat(ahead, protected), 8, int64(len(ahead))+1)
		for _, changed := range changedLists(ahead) {
			if slices.ContainsFunc(changed, func(c impl.Chunk) bool { return c.Kind == 15 }) {
				continue
			}
			wantPass(t, key, slices.Concat(changed, protected), 8, int64(len(changed))+1)
		}
	}
	// What stands in front of the tag chunk is not exchanged with what stands behind it.
	wantFail(t, key, []impl.Chunk{chunks[0], protected[0], chunks[1]}, impl.ErrAuth)
	wantFail(t, key, []impl.Chunk{chunks[0], chunks[1], protected[0]}, impl.ErrAuth)
	wantFail(t, key, append(chunksOf(5, 40), protected[0]), impl.ErrAuth)
}

func TestATagChunkWithoutChunksBehindIt(t *testing.T) {
	for _, key := range authKeys() {
		for _, id := range []int64{0, 5, 99} {
			tag := protectElsewhere(id, key, nil)
			wantProtected(t, id, key, nil)
			wantProtected(t, id, key, []impl.Chunk{})
			for _, ahead := range aheadLists() {
				wantPass(t, key, append(copiedChunks(ahead), tag...), id, int64(len(ahead))+1)
				wantFail(t, []byte("another"), append(copiedChunks(ahead), tag...), impl.ErrAuth)
			}
			wantFail(t, key, append(tag, impl.Chunk{}), impl.ErrAuth)
		}
	}
}

func TestOfTwoTagChunksTheFirstCounts(t *testing.T) {
	outer, inner := []byte("outer"), []byte("inner")
	for _, chunks := range someChunkLists() {
		once := protectElsewhere(7, inner, chunks)
		if len(once) >= impl.MaxChunks || len(textElsewhere(8, once)) > impl.MaxPacket {
			continue
		}
		twice := impl.ProtectChunks(8, outer, once).Chunks
		wantPass(t, outer, twice, 8, 1)
		wantFail(t, inner, twice, impl.ErrAuth)
		wantPass(t, inner, twice[1:], 7, 1)
		// The second one is protected like any other chunk.
		for _, other := range append(variantsOf(twice[1]), tagElsewhere(7, make([]byte, 32)), impl.Chunk{Kind: 15}) {
			wantFail(t, outer, changedChunks(twice, 1, func(c *impl.Chunk) { *c = other }), impl.ErrAuth)
		}
		// The first one hides the second one, whatever it is.
		for _, first := range []impl.Chunk{tagElsewhere(7, make([]byte, 32)), tagElsewhere(8, someData(32, 72)), once[0]} {
			wantFail(t, inner, append([]impl.Chunk{first}, once...), impl.ErrAuth)
		}
		for _, first := range badTagChunks() {
			wantUnfound(t, append([]impl.Chunk{first}, once...), impl.ErrText)
		}
	}
	// A KindAuth that is not a tag chunk does not matter behind one.
	for _, second := range badTagChunks() {
		wantProtected(t, 3, outer, []impl.Chunk{{Kind: 193}, second})
		wantPass(t, outer, slices.Concat(chunksOf(4), protectElsewhere(3, outer, []impl.Chunk{second})), 3, 2)
	}
}

// badTagChunks are of the kind of a tag chunk, but are none.
func badTagChunks() []impl.Chunk {
	var list []impl.Chunk
	for size := range impl.MaxBody + 1 {
		if size != 34 {
			list = append(list, impl.Chunk{Kind: 15, Body: make([]byte, size)})
		}
	}
	for flags := int64(1); flags < 256; flags++ {
		list = append(list, impl.Chunk{Kind: 15, Flags: flags, Body: make([]byte, 34)})
	}
	for _, id := range []int64{100, 101, 127, 128, 255, 256, 259, 355, 768, 25344, 32768, 65280, 65535} {
		list = append(list, tagElsewhere(id, make([]byte, 32)))
	}
	return append(list, impl.Chunk{Kind: 15, Flags: 1}, impl.Chunk{Kind: 15, Flags: 1, Body: []byte{0, 100}})
}

func TestChunksThatAreNoTagChunks(t *testing.T) {
	for _, bad := range badTagChunks() {
		wantUnfound(t, []impl.Chunk{bad}, impl.ErrText)
		wantUnfound(t, append([]impl.Chunk{bad}, chunksOf(3, 0)...), impl.ErrText)
		wantUnfound(t, append(chunksOf(3, 0), bad), impl.ErrText)
		wantUnfound(t, slices.Concat(chunksOf(3), []impl.Chunk{bad}, chunksOf(160, 160, 160, 160)), impl.ErrText)
	}
	// Each of these has the digest that would be right for what it looks like.
	key := []byte("key")
	for _, chunks := range [][]impl.Chunk{nil, chunksOf(4)} {
		protected := protectElsewhere(3, key, chunks)
		for _, change := range []func(c *impl.Chunk){
			func(c *impl.Chunk) { c.Flags = 1 }, func(c *impl.Chunk) { c.Flags = 255 }, func(c *impl.Chunk) { c.Body[0] = 1 },
			func(c *impl.Chunk) { c.Body = c.Body[:33] }, func(c *impl.Chunk) { c.Body = append(c.Body, 0) },
			func(c *impl.Chunk) { c.Body = c.Body[1:] }, func(c *impl.Chunk) { c.Body = c.Body[2:] }, func(c *impl.Chunk) { c.Body = nil },
		} {
			wantUnfound(t, changedChunks(protected, 0, change), impl.ErrText)
		}
		wantUnfound(t, protectElsewhere(100, key, chunks), impl.ErrText)
		wantUnfound(t, protectElsewhere(256+3, key, chunks), impl.ErrText)
		wantUnfound(t, protectElsewhere(3*256, key, chunks), impl.ErrText)
		// A body in memory that goes on behind it is still too short.
		wantUnfound(t, []impl.Chunk{{Kind: 15, Body: make([]byte, 33, 34)}}, impl.ErrText)
	}
}

func TestChunksWithoutATagChunk(t *testing.T) {
	wantUnfound(t, nil, impl.ErrNone)
	wantUnfound(t, []impl.Chunk{}, impl.ErrNone)
	for count := 1; count <= impl.MaxChunks; count++ {
		wantUnfound(t, make([]impl.Chunk, count), impl.ErrNone)
		wantUnfound(t, slices.Repeat([]impl.Chunk{{Kind: 193, Body: make([]byte, 160)}}, count), impl.ErrNone)
	}
	wantUnfound(t, make([]impl.Chunk, 9), impl.ErrMany)
	key := []byte("key")
	protected := protectElsewhere(3, key, chunksOf(4))
	for kind := range int64(256) {
		// All but the kind is right.
		if kind != 15 {
			wantUnfound(t, changedChunks(protected, 0, func(c *impl.Chunk) { c.Kind = kind }), impl.ErrNone)
		}
	}
	wantUnfound(t, protected[1:], impl.ErrNone)
}

// checkCase are chunks to be checked, and the key for it.
type checkCase struct {
	key    []byte
	chunks []impl.Chunk
}

// tagBreaches spoil the tag chunk of a case, the third of its chunks. A fault of a
// chunk is another breach, and stays.
func tagBreaches() []breach[checkCase] {
	var all []breach[checkCase]
	for _, kind := range []int64{0, 14, 16, 128, 193, 255} {
		all = append(all, breach[checkCase]{40, impl.ErrNone, func(v *checkCase) {
			if v.chunks[2].Kind == 15 {
				v.chunks[2].Kind = kind
			}
		}})
	}
	for _, flags := range []int64{1, 128, 255} {
		all = append(all, breach[checkCase]{41, impl.ErrText, func(v *checkCase) {
			if v.chunks[2].Flags == 0 {
				v.chunks[2].Flags = flags
			}
		}})
	}
	for _, bad := range []impl.Chunk{{Body: make([]byte, 33)}, {Body: make([]byte, 35)}, {}, {Body: make([]byte, 160)}, tagElsewhere(100, make([]byte, 32))} {
		all = append(all, breach[checkCase]{42, impl.ErrText, func(v *checkCase) {
			if len(v.chunks[2].Body) <= 160 {
				v.chunks[2].Body = bad.Body
			}
		}})
	}
	return all
}

func TestOfTwoFaultsOfACheckTheFirstCounts(t *testing.T) {
	valid := func() checkCase {
		key := someData(200, 73)
		behind := []impl.Chunk{someChunk(193, 60, 74), someChunk(128, 60, 75), someChunk(6, 7, 76)}
		return checkCase{key, append([]impl.Chunk{someChunk(0, 3, 77), someChunk(3, 160, 78)}, protectElsewhere(99, key, behind)...)}
	}
	wantPass(t, valid().key, valid().chunks, 99, 3)
	all := tagBreaches()
	for _, key := range longKeys() {
		all = append(all, breach[checkCase]{1, impl.ErrMany, func(v *checkCase) { v.key = key }})
	}
	for _, more := range []int{3, 4, 10, 250, 258} {
		all = append(all, breach[checkCase]{2, impl.ErrMany, func(v *checkCase) { v.chunks = append(v.chunks, make([]impl.Chunk, more)...) }})
	}
	for place := range len(valid().chunks) {
		all = append(all, chunkBreaches(10, place, func(v *checkCase) *impl.Chunk { return &v.chunks[place] })...)
	}
	all = append(all, breach[checkCase]{50, impl.ErrMany, func(v *checkCase) { v.chunks = append(v.chunks, chunksOf(160, 160)...) }})
	all = append(all, breach[checkCase]{51, impl.ErrAuth, func(v *checkCase) {
		if len(v.key) <= 200 {
			v.key = []byte("another")
		}
	}})
	check := func(v checkCase, code int64) {
		wantFail(t, v.key, v.chunks, code)
		wantCheckAsElsewhere(t, v.key, v.chunks)
	}
	eachBreach(valid, all, check)
}

func TestChecksOfAllSmallLists(t *testing.T) {
	key, a, b := []byte("key"), someChunk(193, 5, 79), someChunk(0, 148, 80)
	tag := func(chunks ...impl.Chunk) impl.Chunk { return protectElsewhere(6, key, chunks)[0] }
	from := []impl.Chunk{a, b, tag(), tag(a), tag(b), tag(a, b), tag(b, a), tag(tag(a), a), {Kind: 15, Flags: 1}, {Kind: 256}, {Body: make([]byte, 161)}}
	found := map[int64]int{}
	for count := range 5 {
		eachList(from, count, nil, func(list []impl.Chunk) { found[wantCheckAsElsewhere(t, key, list)]++ })
	}
	eachList([]impl.Chunk{b, tag(), tag(b, b, b)}, 5, nil, func(list []impl.Chunk) { found[wantCheckAsElsewhere(t, key, list)]++ })
	for _, code := range []int64{impl.OK, impl.ErrMany, impl.ErrRange, impl.ErrNone, impl.ErrText, impl.ErrAuth} {
		if found[code] < 10 {
			t.Errorf("only %d lists have the code %d", found[code], code)
		}
	}
}

func TestProtectedChunksInAPacket(t *testing.T) {
	key, sent := []byte("key"), 0
	for _, chunks := range someChunkLists() {
		for _, ahead := range [][]impl.Chunk{nil, chunksOf(2), chunksOf(0, 7)} {
			p := impl.Packet{Tag: 7, Chunks: slices.Concat(ahead, impl.ProtectChunks(4, key, chunks).Chunks)}
			packed := impl.PackPacket(p)
			// The text may have as many bytes as a packet, which has a tag and a checksum, too.
			if packed.Code != impl.OK {
				continue
			}
			sent++
			wantPass(t, key, impl.ReadPacket(packed.Bytes).Packet.Chunks, 4, int64(len(ahead))+1)
		}
	}
	if sent < 100 {
		t.Errorf("only %d packets are sent", sent)
	}
}

func TestAForgerWhoKnowsTheChecksum(t *testing.T) {
	key, readable := []byte("key"), 0
	data := impl.PackPacket(impl.Packet{Tag: 7, Chunks: protectElsewhere(4, key, chunksOf(5, 0, 8))}).Bytes
	wantPass(t, key, impl.ReadPacket(data).Packet.Chunks, 4, 1)
	for place := 8; place < len(data); place++ {
		for change := 1; change < 256; change++ {
			forged := bytes.Clone(data)
			forged[place] ^= byte(change)
			read := impl.ReadPacket(sealed(forged))
			if read.Code != impl.OK {
				continue
			}
			readable++
			if wantCheckAsElsewhere(t, key, read.Packet.Chunks) == impl.OK {
				t.Errorf("byte %d changed by %d passes the check", place, change)
			}
		}
	}
	if readable < 5000 {
		t.Errorf("only %d forged packets can be read", readable)
	}
}

func TestBothSidesCheckWithTheSameKey(t *testing.T) {
	inits := someInits()
	for i, own := range inits {
		peer, list := inits[(i*7+3)%len(inits)], []impl.Secret{{Id: 0}, {Id: 5, Bytes: []byte("five")}, {Id: 99, Bytes: make([]byte, 40)}}
		a, b := impl.VectorOf(own.Init).Bytes, impl.VectorOf(peer.Init).Bytes
		for _, s := range list {
			chunks := chunksOf(i%9, 3)
			protected := impl.ProtectChunks(s.Id, impl.KeyOf(list, s.Id, a, b).Bytes, chunks).Chunks
			found := impl.FindAuth(protected)
			wantPass(t, impl.KeyOf(list, found.KeyId, b, a).Bytes, protected, s.Id, 1)
			for _, other := range list {
				if other.Id != s.Id {
					wantFail(t, impl.KeyOf(list, other.Id, b, a).Bytes, protected, impl.ErrAuth)
				}
			}
		}
	}
}
