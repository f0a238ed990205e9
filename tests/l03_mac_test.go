package tests

import (
	"bytes"
	"crypto/hmac"
	"crypto/sha256"
	"encoding/hex"
	"hash/crc32"
	"slices"
	"strings"
	"testing"

	"loop.example/g00670/impl"
)

// Promise 4: a key padded with zero bytes, or replaced by its digest if it is
// too long, yields the same HMAC; changing one byte always changes the CRC.

// keySizes lie where a key is as long as a block, and as long as it may be.
func keySizes() []int {
	return []int{0, 1, 2, 31, 32, 33, 62, 63, 64, 65, 66, 127, 128, 129, 199, 200}
}

// dataSizes lie where the data of an inner digest take one more block.
func dataSizes() []int {
	return []int{0, 1, 28, 54, 55, 56, 63, 64, 65, 119, 120, 128, 503, 504, 567, 568, 599, 600}
}

// someKeys returns keys of the size: one that follows no simple pattern, one that
// ends in zero bytes, and those whose blocks a mask or both leave without bits.
func someKeys(size int) [][]byte {
	ending := someData(size, 21)
	clear(ending[size/2:])
	return [][]byte{
		someData(size, 20), ending, make([]byte, size), bytes.Repeat([]byte{255}, size),
		bytes.Repeat([]byte{54}, size), bytes.Repeat([]byte{92}, size), bytes.Repeat([]byte{106}, size),
	}
}

func wantNoInt(t *testing.T, got impl.IntResult, code int64, call string, args ...any) {
	t.Helper()
	if got != (impl.IntResult{Code: code}) {
		t.Errorf("%s %v = %+v, want the code %d and the value 0", call, args, got, code)
	}
}

func macElsewhere(key []byte, data []byte) []byte {
	mac := hmac.New(sha256.New, key)
	mac.Write(data)
	return mac.Sum(nil)
}

func TestMacLimits(t *testing.T) {
	if impl.MaxKey != 200 || impl.MaxData != 600 || impl.MacSize != 32 {
		t.Errorf("limits %d, %d and %d", int64(impl.MaxKey), int64(impl.MaxData), int64(impl.MacSize))
	}
}

func TestKnownHmacs(t *testing.T) {
	counting := make([]byte, 25)
	for i := range counting {
		counting[i] = byte(i + 1)
	}
	for _, c := range []struct{ key, data, want string }{
		// The tests of RFC 4231, but for the one that keeps only half of the result.
		{
			strings.Repeat("\x0b", 20), "Hi There",
			"b0344c61d8db38535ca8afceaf0bf12b881dc200c9833da726e9376c2e32cff7",
		},
		{
			"Jefe", "what do ya want for nothing?",
			"5bdcc146bf60754e6a042426089575c75a003f089d2739839dec58b964ec3843",
		},
		{
			strings.Repeat("\xaa", 20), strings.Repeat("\xdd", 50),
			"773ea91e36800e46854db8ebd09181a72959098b3ef8c122d9635514ced565fe",
		},
		{
			string(counting), strings.Repeat("\xcd", 50),
			"82558a389a443c0ea4cc819899f2083a85f0faa3e578f8077a2e3ff46729665b",
		},
		{
			strings.Repeat("\xaa", 131), "Test Using Larger Than Block-Size Key - Hash Key First",
			"60e431591ee0b67f0d8a26aacbf5b77f8e0bc6213728c5140546040f0ee37f54",
		},
		{
			strings.Repeat("\xaa", 131), "This is a test using a larger than block-size key and a larger " +
				"than block-size data. The key needs to be hashed before being used by the HMAC algorithm.",
			"9b09ffa71b942fcb27635fbcd5b0e944bfdc63644f0713938a7f51535c3a35e2",
		},
		{"", "", "b613679a0814d9ec772f95d778c35fc5ff1697c493715653c6c712144292c5ad"},
		{"k", "", "8bb990c40a7d61cb97597a942125025be50ac8beb74436e3735b98893a7f6620"},
		{"", strings.Repeat("d", 600), "4be5ba199dc46213ff5274fc92db79351b04ce2c40fe1cc39d8a014b7f6be8e8"},
		{strings.Repeat("k", 63), "data", "ac606b54f050fbdd53bb5848b99dd0bb6f1222bd375ea2aaf66f1af02fcf73e7"},
		{strings.Repeat("k", 64), "data", "93244b031118b8060c6619e5900fcf916faefb2d8d020fecb22ae0f62275db08"},
		{strings.Repeat("k", 65), "data", "a79b53d0bf1cb4bb00c301979e6e60ef792a435cafabd76ab9e8989bbdef2dff"},
		{strings.Repeat("k", 200), "data", "0163658d479ec73f2b801df07141db1426aaae2c6b5e8e6d9e6789f92f5e2b4f"},
		{
			strings.Repeat("k", 200), strings.Repeat("d", 600),
			"81abe1a172b26c647408b18670fdeafb34d90091fe076a7f1d3af5c7c286e785",
		},
	} {
		want, err := hex.DecodeString(c.want)
		if err != nil {
			t.Fatal(err)
		}
		wantBytes(t, impl.HmacSha([]byte(c.key), []byte(c.data)), want, "HmacSha", c.key, c.data)
	}
}

func TestHmacsOfNothing(t *testing.T) {
	want := macElsewhere(nil, nil)
	for _, key := range [][]byte{nil, {}, {0}, make([]byte, 64)} {
		for _, data := range [][]byte{nil, {}} {
			wantBytes(t, impl.HmacSha(key, data), want, "HmacSha", key, data)
		}
	}
}

func TestHmacsOfAllSizes(t *testing.T) {
	t.Parallel()
	for size := range impl.MaxKey + 1 {
		for _, key := range someKeys(size) {
			for _, count := range dataSizes() {
				data := someData(count, 22)
				wantBytes(t, impl.HmacSha(key, data), macElsewhere(key, data), "HmacSha", key, data)
			}
		}
	}
	for count := range impl.MaxData + 1 {
		for _, size := range keySizes() {
			key, data := someData(size, 23), someData(count, 24)
			wantBytes(t, impl.HmacSha(key, data), macElsewhere(key, data), "HmacSha", key, data)
		}
	}
}

// maskedBlock is the block of a key that is not too long, with its bytes masked.
func maskedBlock(key []byte, mask byte) []byte {
	block := make([]byte, 64)
	copy(block, key)
	for i := range block {
		block[i] ^= mask
	}
	return block
}

func TestAnHmacIsADigestOfADigest(t *testing.T) {
	for _, size := range keySizes() {
		for _, key := range someKeys(size) {
			short := key
			if size > 64 {
				short = impl.Sha256(key).Bytes
			}
			for _, count := range dataSizes() {
				data := someData(count, 25)
				inner := impl.Sha256(append(maskedBlock(short, 54), data...)).Bytes
				outer := impl.Sha256(append(maskedBlock(short, 92), inner...)).Bytes
				wantBytes(t, impl.HmacSha(key, data), outer, "HmacSha", key, data)
			}
		}
	}
}

func TestAKeyPaddedWithZeroBytes(t *testing.T) {
	for size := range 65 {
		for _, key := range someKeys(size) {
			data := someData(size*9, 26)
			want := impl.HmacSha(key, data)
			if want.Code != impl.OK || len(want.Bytes) != impl.MacSize {
				t.Fatalf("HmacSha(%v, %v) = %+v", key, data, want)
			}
			for padding := range 64 - size + 1 {
				padded := append(bytes.Clone(key), make([]byte, padding)...)
				wantBytes(t, impl.HmacSha(padded, data), want.Bytes, "HmacSha", padded, data)
			}
			// One zero byte more, and it is a key of 65 bytes: its digest counts.
			padded := append(bytes.Clone(key), make([]byte, 65-size)...)
			if got := impl.HmacSha(padded, data); bytes.Equal(got.Bytes, want.Bytes) {
				t.Errorf("HmacSha(%v, %v) is that of the key of 64 bytes", padded, data)
			}
		}
	}
}

func TestAKeyThatIsReplacedByItsDigest(t *testing.T) {
	for size := 65; size <= impl.MaxKey; size++ {
		for _, key := range someKeys(size) {
			data := someData(3*size, 27)
			want := impl.HmacSha(key, data)
			if want.Code != impl.OK || len(want.Bytes) != impl.MacSize {
				t.Fatalf("HmacSha(%v, %v) = %+v", key, data, want)
			}
			digest := impl.Sha256(key).Bytes
			wantBytes(t, impl.HmacSha(digest, data), want.Bytes, "HmacSha of the digest", key, data)
			padded := append(bytes.Clone(digest), make([]byte, 32)...)
			wantBytes(t, impl.HmacSha(padded, data), want.Bytes, "HmacSha of the padded digest", key, data)
		}
	}
	// A key that fits into a block is not too long: its digest is another key.
	for size := range 65 {
		key := someData(size, 28)
		got, other := impl.HmacSha(key, key), impl.HmacSha(impl.Sha256(key).Bytes, key)
		if got.Code != impl.OK || bytes.Equal(got.Bytes, other.Bytes) {
			t.Errorf("HmacSha of %d bytes is that of their digest", size)
		}
	}
}

func TestEveryByteOfKeyAndDataCounts(t *testing.T) {
	t.Parallel()
	for _, size := range keySizes() {
		for _, count := range dataSizes() {
			key, data := someData(size, 29), someData(count, 30)
			want := impl.HmacSha(key, data).Bytes
			for i := range key {
				key[i] ^= 1
				if bytes.Equal(impl.HmacSha(key, data).Bytes, want) {
					t.Errorf("byte %d of a key of %d bytes does not count", i, size)
				}
				key[i] ^= 1
			}
			for i := range data {
				data[i] ^= 128
				if bytes.Equal(impl.HmacSha(key, data).Bytes, want) {
					t.Errorf("byte %d of %d bytes does not count", i, count)
				}
				data[i] ^= 128
			}
		}
	}
}

func TestKeysAndDataThatAreTooLong(t *testing.T) {
	keys, texts := []int{201, 202, 256, 264, 700, 701, 65536}, []int{601, 602, 636, 637, 700, 701, 65536}
	for _, size := range keys {
		for _, count := range append(texts, dataSizes()...) {
			got := impl.HmacSha(someData(size, 31), someData(count, 32))
			wantNoBytes(t, got, impl.ErrMany, "HmacSha", size, count)
		}
		wantNoBytes(t, impl.HmacSha(make([]byte, size), nil), impl.ErrMany, "HmacSha", size)
	}
	for _, count := range texts {
		for _, size := range keySizes() {
			got := impl.HmacSha(someData(size, 31), someData(count, 32))
			wantNoBytes(t, got, impl.ErrMany, "HmacSha", size, count)
		}
		wantNoBytes(t, impl.HmacSha(nil, make([]byte, count)), impl.ErrMany, "HmacSha", 0, count)
	}
	// The spare capacity belongs neither to a key nor to the data.
	key, data := make([]byte, 200, 1000), make([]byte, 600, 1000)
	wantBytes(t, impl.HmacSha(key, data), macElsewhere(key, data), "HmacSha with spare capacity")
}

func TestSameMac(t *testing.T) {
	digests := [][]byte{
		make([]byte, 32), bytes.Repeat([]byte{255}, 32), impl.Sha256(nil).Bytes,
		impl.HmacSha([]byte("Jefe"), nil).Bytes, impl.HmacSha([]byte("Jefe"), []byte{0}).Bytes,
	}
	for i, a := range digests {
		for j, b := range digests {
			if got := impl.SameMac(a, bytes.Clone(b)); got != (i == j) {
				t.Errorf("SameMac(%v, %v) = %t", a, b, got)
			}
		}
		if !impl.SameMac(a, a) {
			t.Errorf("%v is not the same as itself", a)
		}
	}
}

func TestDigestsThatDifferInOneByte(t *testing.T) {
	for _, a := range [][]byte{make([]byte, 32), bytes.Repeat([]byte{255}, 32), someData(32, 33)} {
		for place := range 32 {
			for change := 1; change < 256; change++ {
				b := bytes.Clone(a)
				b[place] ^= byte(change)
				if impl.SameMac(a, b) || impl.SameMac(b, a) {
					t.Errorf("%v and %v are the same", a, b)
				}
			}
		}
	}
}

func TestDigestsThatDifferInTwoBytes(t *testing.T) {
	a := someData(32, 34)
	for first := range 32 {
		for second := range first {
			// Neither the sum nor the xor of all bytes tells the two apart.
			same, swapped := bytes.Clone(a), bytes.Clone(a)
			same[first] ^= 64
			same[second] ^= 64
			swapped[first], swapped[second] = a[second], a[first]
			if impl.SameMac(a, same) || impl.SameMac(same, a) {
				t.Errorf("%v and %v are the same", a, same)
			}
			if a[first] != a[second] && impl.SameMac(a, swapped) {
				t.Errorf("%v and %v are the same", a, swapped)
			}
		}
	}
}

func TestTextsThatAreNoDigests(t *testing.T) {
	sizes := []int{0, 1, 16, 28, 30, 31, 32, 33, 34, 48, 63, 64, 65, 288, 544, 65568}
	for _, size := range sizes {
		for _, other := range sizes {
			// The longer text begins with the shorter one.
			a, b := bytes.Repeat([]byte{7}, size), bytes.Repeat([]byte{7}, other)
			if got, want := impl.SameMac(a, b), size == 32 && other == 32; got != want {
				t.Errorf("SameMac of %d and %d bytes is %t", size, other, got)
			}
		}
		if impl.SameMac(make([]byte, size), nil) || impl.SameMac(nil, make([]byte, size)) {
			t.Errorf("SameMac of %d bytes and nil is true", size)
		}
	}
	if impl.SameMac(nil, nil) || impl.SameMac([]byte{}, nil) {
		t.Error("SameMac of no bytes is true")
	}
	whole := make([]byte, 64)
	for _, size := range []int{0, 1, 31} {
		if impl.SameMac(whole[:size], whole[:size]) || impl.SameMac(whole[:size], whole[:32]) {
			t.Errorf("SameMac of %d bytes with spare capacity is true", size)
		}
	}
}

func TestKnownSums(t *testing.T) {
	up, down := make([]byte, 32), make([]byte, 32)
	for i := range 32 {
		up[i], down[31-i] = byte(i), byte(i)
	}
	for _, c := range []struct {
		data []byte
		want int64
	}{
		{nil, 0},
		{[]byte{}, 0},
		{[]byte{0}, 1383945041},
		{[]byte{255}, 4278190080},
		{[]byte("a"), 3251651376},
		{[]byte("abc"), 910901175},
		{[]byte("123456789"), 3808858755},
		{[]byte("The quick brown fox jumps over the lazy dog"), 576848900},
		// The four tests of RFC 3720.
		{make([]byte, 32), 2324772522},
		{bytes.Repeat([]byte{255}, 32), 1655221059},
		{up, 1188919630},
		{down, 289397596},
		{make([]byte, 700), 2596554113},
		{bytes.Repeat([]byte{255}, 700), 1592792969},
	} {
		if got := impl.Crc32c(c.data); got != (impl.IntResult{Value: c.want}) {
			t.Errorf("Crc32c(%v) = %+v, want %d", c.data, got, c.want)
		}
	}
}

func TestSumsOfAllSizes(t *testing.T) {
	table := crc32.MakeTable(crc32.Castagnoli)
	for size := range impl.MaxText + 1 {
		for _, data := range [][]byte{
			someData(size, 35), make([]byte, size), bytes.Repeat([]byte{255}, size), bytes.Repeat([]byte{128}, size),
		} {
			wantInt(t, impl.Crc32c(data), int64(crc32.Checksum(data, table)), "Crc32c", int64(size))
		}
	}
	for b := range 256 {
		data := []byte{byte(b)}
		wantInt(t, impl.Crc32c(data), int64(crc32.Checksum(data, table)), "Crc32c", int64(b))
	}
}

func TestChangingOneByteChangesTheSum(t *testing.T) {
	t.Parallel()
	changes := []byte{1, 2, 4, 8, 16, 32, 64, 128, 3, 24, 129, 54, 92, 127, 254, 255}
	for _, size := range []int{1, 2, 4, 5, 9, 64, 500, 699, 700} {
		for _, data := range [][]byte{make([]byte, size), someData(size, 36)} {
			want := impl.Crc32c(data)
			if want.Code != impl.OK {
				t.Fatalf("Crc32c of %d bytes = %+v", size, want)
			}
			for place := range data {
				for _, change := range changes {
					data[place] ^= change
					got := impl.Crc32c(data)
					if got.Code != impl.OK || got.Value == want.Value {
						t.Errorf("%d bytes, byte %d changed by %d: %+v", size, place, change, got)
					}
					data[place] ^= change
				}
			}
		}
	}
}

func TestAllValuesOfOneByteHaveOtherSums(t *testing.T) {
	for _, size := range []int{1, 2, 3, 4, 12, 700} {
		for _, place := range []int{0, size / 2, size - 1} {
			data := someData(size, 37)
			var sums []int64
			for b := range 256 {
				data[place] = byte(b)
				sums = append(sums, impl.Crc32c(data).Value)
			}
			slices.Sort(sums)
			if len(slices.Compact(sums)) != 256 {
				t.Errorf("%d bytes: two values of byte %d have the same sum", size, place)
			}
		}
	}
}

func TestTooMuchDataForASum(t *testing.T) {
	for _, size := range []int{701, 702, 704, 768, 956, 957, 1400, 65536, 66236} {
		wantNoInt(t, impl.Crc32c(make([]byte, size)), impl.ErrMany, "Crc32c", size)
		wantNoInt(t, impl.Crc32c(someData(size, 38)), impl.ErrMany, "Crc32c", size)
	}
	wantInt(t, impl.Crc32c(make([]byte, 700, 2000)), 2596554113, "Crc32c with spare capacity")
}
