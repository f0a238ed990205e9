package tests

import (
	"bytes"
	"math"
	"slices"
	"strings"
	"testing"

	"loop.example/g00670/impl"
)

// Promise 7: both sides derive the same key, in either order; a stored secret is
// found again.

// secretSizes lie where a secret has no bytes, and where it has as many as it may.
func secretSizes() []int {
	return []int{0, 1, 2, 19, 20, 21, 38, 39, 40}
}

// longSecrets are numbers of bytes that a secret may not have. The low bits of some
// would be in order.
func longSecrets() []int {
	return []int{41, 42, 80, 256, 257, 296, 1000, 65536, 65576}
}

// wrongVectors are numbers of bytes that a vector may not have.
func wrongVectors() []int {
	return []int{0, 1, 10, 18, 19, 21, 22, 39, 40, 60, 256, 276, 65556}
}

// badIds are no Ids, and the low bits of some would be one.
func badIds() []int64 {
	return append(notFrom(0, 99), 50+256, 50-256, 50+impl.MaxWord+1)
}

func secretOf(id int64, size int) impl.Secret {
	return impl.Secret{Id: id, Bytes: someData(size, 80+uint32(id))}
}

// secretsOf returns secrets with these Ids, each with another number of bytes.
func secretsOf(ids ...int64) []impl.Secret {
	sizes := secretSizes()
	var list []impl.Secret
	for i, id := range ids {
		list = append(list, secretOf(id, sizes[(int(id)+4*i)%len(sizes)]))
	}
	return list
}

// copiedSecrets returns an equal list in memory of its own.
func copiedSecrets(list []impl.Secret) []impl.Secret {
	own := slices.Clone(list)
	for i, s := range list {
		own[i].Bytes = bytes.Clone(s.Bytes)
	}
	return own
}

// someSecrets are lists in order: of all choices from six Ids that are not too many.
func someSecrets() [][]impl.Secret {
	ids := []int64{0, 1, 2, 50, 98, 99}
	var lists [][]impl.Secret
	for choice := range 1 << len(ids) {
		var chosen []int64
		for i, id := range ids {
			if choice>>i%2 == 1 {
				chosen = append(chosen, id)
			}
		}
		if len(chosen) <= impl.MaxSecrets {
			lists = append(lists, secretsOf(chosen...))
		}
	}
	return append(lists, []impl.Secret{}, secretsOf(3, 30, 60, 90), secretsOf(96, 97, 98, 99), secretsOf(0, 1, 2, 3))
}

// faultyLists are one list for each fault that a list may have, and for some of two
// faults, with the code that counts.
func faultyLists() map[string]int64 {
	return map[string]int64{
		"0 1 2 3 4": impl.ErrMany, "0 0 0 0 0": impl.ErrMany, "4 3 2 1 0": impl.ErrMany, "-1 0 1 2 100": impl.ErrMany,
		"0 1 2 3 4x": impl.ErrMany, "1 2 3 4 5 6 7 8": impl.ErrMany,
		"-1": impl.ErrRange, "100": impl.ErrRange, "0 100": impl.ErrRange, "-1 0": impl.ErrRange, "1 2 3 100": impl.ErrRange,
		"0x": impl.ErrMany, "99x": impl.ErrMany, "1 2x": impl.ErrMany, "1x 2": impl.ErrMany, "1 2 3 4x": impl.ErrMany,
		"1 1": impl.ErrForm, "2 1": impl.ErrForm, "0 0": impl.ErrForm, "99 0": impl.ErrForm, "1 2 2": impl.ErrForm,
		"1 3 2": impl.ErrForm, "1 2 3 3": impl.ErrForm, "1 2 4 3": impl.ErrForm, "2 1 3 4": impl.ErrForm, "4 3 2 1": impl.ErrForm,
		"1 2 3 1": impl.ErrForm, "5 1 6": impl.ErrForm,
		// An element has both faults, or two elements have one each.
		"-1x": impl.ErrRange, "100x": impl.ErrRange, "0x 100": impl.ErrMany, "-1 0x": impl.ErrRange, "1 2x 3 100": impl.ErrMany,
		"1 -1 3 4x": impl.ErrRange, "1x 2 100x": impl.ErrMany, "1 100x 2": impl.ErrRange, "1x -1": impl.ErrMany,
		// The order comes last, also where an earlier element is out of it.
		"2 1 100": impl.ErrRange, "5 -1": impl.ErrRange, "100 99": impl.ErrRange, "100 100": impl.ErrRange, "-1 -1": impl.ErrRange,
		"2 1 3x": impl.ErrMany, "2 1x": impl.ErrMany, "1x 1x": impl.ErrMany, "3 3 3 3x": impl.ErrMany, "1 1 100x": impl.ErrRange,
		"1 1 2x 100": impl.ErrMany,
	}
}

// listOf returns the secrets with the Ids of a text. Those with an x have one byte
// more than a secret may have.
func listOf(text string) []impl.Secret {
	var list []impl.Secret
	for _, item := range strings.Fields(text) {
		number, long := strings.CutSuffix(item, "x")
		id := int64(0)
		for _, digit := range strings.TrimPrefix(number, "-") {
			id = 10*id + int64(digit-'0')
		}
		if strings.HasPrefix(number, "-") {
			id = -id
		}
		size := len(list) * 7
		if long {
			size = impl.MaxSecret + 1
		}
		list = append(list, secretOf(id, size))
	}
	return list
}

// secretsFaultElsewhere looks at the faults and at the order of the secrets at once.
func secretsFaultElsewhere(list []impl.Secret) int64 {
	if len(list) > 4 {
		return impl.ErrMany
	}
	last, code := int64(-1), int64(impl.OK)
	for _, s := range list {
		switch {
		case s.Id < 0 || s.Id > 99:
			return impl.ErrRange
		case len(s.Bytes) > 40:
			return impl.ErrMany
		case s.Id <= last:
			code = impl.ErrForm
		}
		last = s.Id
	}
	return code
}

// putElsewhere sorts the secret in, without those of its Id.
func putElsewhere(list []impl.Secret, s impl.Secret) impl.SecretsResult {
	if code := secretsFaultElsewhere(list); code != impl.OK {
		return impl.SecretsResult{Code: code}
	}
	if code := secretsFaultElsewhere([]impl.Secret{s}); code != impl.OK {
		return impl.SecretsResult{Code: code}
	}
	own := slices.DeleteFunc(copiedSecrets(list), func(other impl.Secret) bool { return other.Id == s.Id })
	own = append(own, copiedSecrets([]impl.Secret{s})...)
	if len(own) > 4 {
		return impl.SecretsResult{Code: impl.ErrFull}
	}
	slices.SortFunc(own, func(a impl.Secret, b impl.Secret) int { return int(a.Id - b.Id) })
	return impl.SecretsResult{List: own}
}

// keyElsewhere sorts the vectors as texts.
func keyElsewhere(secret []byte, a []byte, b []byte) []byte {
	vectors := []string{string(a), string(b)}
	slices.Sort(vectors)
	return []byte(string(secret) + vectors[0] + vectors[1])
}

func vectorElsewhere(i impl.Init) []byte {
	return append(appendWord(nil, i.Tag), i.Random...)
}

// vectorPairs are two vectors each: equal ones, and those that differ in the first
// byte alone, in the last byte alone, in any one byte, and in several.
func vectorPairs() [][2][]byte {
	zero, ones, base := make([]byte, 20), bytes.Repeat([]byte{255}, 20), someData(20, 71)
	pairs := [][2][]byte{{zero, zero}, {ones, ones}, {base, bytes.Clone(base)}, {zero, ones}, {zero, base}, {ones, base}}
	for place := range impl.VectorSize {
		for _, change := range []byte{1, 2, 64, 128, 255} {
			for _, v := range [][]byte{zero, ones, base} {
				other := bytes.Clone(v)
				other[place] ^= change
				pairs = append(pairs, [2][]byte{v, other})
			}
		}
		for later := place + 1; later < impl.VectorSize; later++ {
			// The later byte alone would decide the other way.
			v, other := someData(20, 72), someData(20, 72)
			v[place], v[later], other[place], other[later] = 1, 255, 128, 0
			pairs = append(pairs, [2][]byte{v, other})
		}
	}
	for seed := range uint32(30) {
		pairs = append(pairs, [2][]byte{someData(20, 100+seed), someData(20, 200+seed)})
	}
	return pairs
}

func wantSecretsFault(t *testing.T, list []impl.Secret, want int64) {
	t.Helper()
	if got := impl.SecretsFault(list); got != want {
		t.Errorf("SecretsFault(%v) = %d, want %d", list, got, want)
	}
}

// wantSecrets wants the list, also by the other functions that take it.
func wantSecrets(t *testing.T, got impl.SecretsResult, want []impl.Secret, args ...any) {
	t.Helper()
	if got.Code != impl.OK || told(got.List) != told(want) {
		t.Errorf("PutSecret %v = %+v, want %v", args, got, want)
	}
	wantSecretsFault(t, got.List, impl.OK)
	wantSameSecrets(t, got.List, want, true)
}

func wantNoSecrets(t *testing.T, got impl.SecretsResult, code int64, args ...any) {
	t.Helper()
	if got.Code != code || len(got.List) != 0 {
		t.Errorf("PutSecret %v = %+v, want the code %d and no list", args, got, code)
	}
}

// wantKey joins the vectors in both orders.
func wantKey(t *testing.T, secret []byte, a []byte, b []byte, want []byte) {
	t.Helper()
	wantBytes(t, impl.JoinKey(secret, a, b), want, "JoinKey", secret, a, b)
	wantBytes(t, impl.JoinKey(secret, b, a), want, "JoinKey", secret, b, a)
}

func wantNoKey(t *testing.T, secret []byte, a []byte, b []byte, code int64) {
	t.Helper()
	wantNoBytes(t, impl.JoinKey(secret, a, b), code, "JoinKey", secret, a, b)
	wantNoBytes(t, impl.JoinKey(secret, b, a), code, "JoinKey", secret, b, a)
}

// wantSameSecrets also compares the lists the other way round.
func wantSameSecrets(t *testing.T, a []impl.Secret, b []impl.Secret, want bool) {
	t.Helper()
	if impl.SameSecrets(a, b) != want || impl.SameSecrets(b, a) != want {
		t.Errorf("SameSecrets of %v and %v is not %v both times", a, b, want)
	}
}

func TestLimitsOfKeys(t *testing.T) {
	if impl.MaxSecrets != 4 || impl.MaxSecret != 40 || impl.VectorSize != 20 {
		t.Errorf("the limits are %d, %d and %d, want 4, 40 and 20", impl.MaxSecrets, impl.MaxSecret, impl.VectorSize)
	}
}

func TestSecretsInOrder(t *testing.T) {
	wantSecretsFault(t, nil, impl.OK)
	wantSecretsFault(t, []impl.Secret{}, impl.OK)
	wantSecretsFault(t, []impl.Secret{{}}, impl.OK)
	wantSecretsFault(t, []impl.Secret{{Id: 0, Bytes: make([]byte, 40)}, {Id: 99, Bytes: []byte{}}}, impl.OK)
	for _, list := range someSecrets() {
		wantSecretsFault(t, list, impl.OK)
	}
	for id := range int64(100) {
		for size := range impl.MaxSecret + 1 {
			wantSecretsFault(t, []impl.Secret{secretOf(id, size)}, impl.OK)
		}
		for other := range int64(100) {
			want := int64(impl.OK)
			if id >= other {
				want = impl.ErrForm
			}
			wantSecretsFault(t, []impl.Secret{{Id: id}, {Id: other}}, want)
		}
	}
}

func TestSecretsWithFaults(t *testing.T) {
	for text, want := range faultyLists() {
		wantSecretsFault(t, listOf(text), want)
	}
	for _, id := range badIds() {
		wantSecretsFault(t, []impl.Secret{{Id: id}}, impl.ErrRange)
		wantSecretsFault(t, []impl.Secret{{Id: id, Bytes: make([]byte, 41)}}, impl.ErrRange)
	}
	for _, size := range longSecrets() {
		wantSecretsFault(t, []impl.Secret{secretOf(0, size)}, impl.ErrMany)
		wantSecretsFault(t, []impl.Secret{secretOf(99, size)}, impl.ErrMany)
	}
}

// orderBreaches make the Id at a place no greater than one before it. An Id that is
// out of range is another breach, and stays.
func orderBreaches(place int) []breach[[]impl.Secret] {
	var list []breach[[]impl.Secret]
	for before := range place {
		for less := range int64(2) {
			list = append(list, breach[[]impl.Secret]{50, impl.ErrForm, func(v *[]impl.Secret) {
				id := (*v)[before].Id - less
				if now := (*v)[place].Id; now >= 0 && now <= 99 && id >= 0 && id <= 99 {
					(*v)[place].Id = id
				}
			}})
		}
	}
	return list
}

func TestOfTwoFaultsOfSecretsTheFirstCounts(t *testing.T) {
	valid := func() []impl.Secret {
		return []impl.Secret{secretOf(1, 40), secretOf(11, 0), secretOf(50, 40), secretOf(99, 3)}
	}
	wantSecretsFault(t, valid(), impl.OK)
	var all []breach[[]impl.Secret]
	for _, count := range []int{5, 6, 8, 100, 256, 257, 260} {
		all = append(all, breach[[]impl.Secret]{1, impl.ErrMany, func(v *[]impl.Secret) {
			*v = make([]impl.Secret, count)
			for i := range *v {
				(*v)[i].Id = int64(i)
			}
		}})
	}
	for place := range impl.MaxSecrets {
		all = append(all, numberBreaches(10+place*2, impl.ErrRange, func(v *[]impl.Secret) *int64 { return &(*v)[place].Id }, badIds()...)...)
		for _, size := range longSecrets() {
			all = append(all, breach[[]impl.Secret]{11 + place*2, impl.ErrMany, func(v *[]impl.Secret) { (*v)[place].Bytes = make([]byte, size) }})
		}
		all = append(all, orderBreaches(place)...)
	}
	check := func(list []impl.Secret, code int64) {
		wantSecretsFault(t, list, code)
		wantNoBytes(t, impl.KeyOf(list, 11, make([]byte, 20), make([]byte, 20)), code, "KeyOf", list)
		wantNoSecrets(t, impl.PutSecret(list, impl.Secret{Id: 11}), code, list)
	}
	eachBreach(valid, all, check)
}

// eachList gives all lists of so many of the elements.
func eachList[T any](from []T, count int, list []T, give func(list []T)) {
	if count == 0 {
		give(list)
		return
	}
	for _, v := range from {
		eachList(from, count-1, append(list, v), give)
	}
}

func TestFaultsOfAllSmallLists(t *testing.T) {
	var from []impl.Secret
	for _, id := range []int64{-1, 0, 1, 2, 99, 100} {
		from = append(from, impl.Secret{Id: id, Bytes: make([]byte, 40)}, impl.Secret{Id: id, Bytes: make([]byte, 41)})
	}
	found := map[int64]int{}
	for count := range impl.MaxSecrets + 2 {
		eachList(from, count, nil, func(list []impl.Secret) {
			want := secretsFaultElsewhere(list)
			found[want]++
			wantSecretsFault(t, list, want)
		})
	}
	for _, code := range []int64{impl.OK, impl.ErrMany, impl.ErrRange, impl.ErrForm} {
		if found[code] < 10 {
			t.Errorf("only %d lists have the code %d", found[code], code)
		}
	}
}

func TestKnownVectors(t *testing.T) {
	random := []byte{10, 11, 12, 13, 14, 15, 16, 17, 18, 19, 20, 21, 22, 23, 24, 25}
	for _, c := range []struct {
		init impl.Init
		want []byte
	}{
		{
			impl.Init{Tag: 258, Tsn: 7, Random: random, Addrs: []int64{1}},
			[]byte{0, 0, 1, 2, 10, 11, 12, 13, 14, 15, 16, 17, 18, 19, 20, 21, 22, 23, 24, 25},
		},
		{
			impl.Init{Tag: 16909060, Random: make([]byte, 16), Addrs: []int64{5, 4, 3, 2, 1}, Cookie: []byte{9}},
			[]byte{1, 2, 3, 4, 0, 0, 0, 0, 0, 0, 0, 0, 0, 0, 0, 0, 0, 0, 0, 0},
		},
		{
			impl.Init{Tag: impl.MaxWord, Tsn: impl.MaxWord, Random: random, Addrs: []int64{255}, Cookie: make([]byte, 100)},
			[]byte{255, 255, 255, 255, 10, 11, 12, 13, 14, 15, 16, 17, 18, 19, 20, 21, 22, 23, 24, 25},
		},
	} {
		wantBytes(t, impl.VectorOf(c.init), c.want, "VectorOf", c.init)
	}
}

func TestVectorsOfGreetings(t *testing.T) {
	for _, g := range someInits() {
		want := vectorElsewhere(g.Init)
		wantBytes(t, impl.VectorOf(g.Init), want, "VectorOf", g.Init)
		// Nothing but the tag and the random is part of it.
		other := impl.Init{Tag: g.Tag, Tsn: 77, Random: g.Random, Addrs: []int64{44}, Cookie: []byte("cookie")}
		wantBytes(t, impl.VectorOf(other), want, "VectorOf", other)
		if len(want) != impl.VectorSize {
			t.Errorf("the vector of %+v has %d bytes", g.Init, len(want))
		}
	}
	for place := range impl.RandomSize {
		i := impl.Init{Tag: 1, Random: make([]byte, 16), Addrs: []int64{1}}
		i.Random[place] = byte(1 + place)
		wantBytes(t, impl.VectorOf(i), vectorElsewhere(i), "VectorOf", i)
	}
}

func TestVectorsOfGreetingsWithFaults(t *testing.T) {
	valid := func() greeting {
		i := impl.Init{Tag: 1, Tsn: 2, Random: someData(16, 73), Addrs: []int64{7, 255, 1, 8, 9}, Cookie: []byte{4}}
		return greeting{i, impl.KindInit}
	}
	check := func(g greeting, code int64) {
		wantNoBytes(t, impl.VectorOf(g.Init), code, "VectorOf", g.Init)
	}
	all := initBreaches()
	eachBreach(valid, all, check)
	wantNoBytes(t, impl.VectorOf(impl.Init{}), impl.ErrRange, "VectorOf nothing")
}

func TestKnownKeys(t *testing.T) {
	counting := []byte{1, 2, 3, 4, 5, 6, 7, 8, 9, 10, 11, 12, 13, 14, 15, 16, 17, 18, 19, 20}
	zero, first, last := make([]byte, 20), make([]byte, 20), make([]byte, 20)
	first[0], last[19] = 1, 1
	for _, c := range []struct {
		secret string
		a, b   []byte
		want   []byte
	}{
		{"s", first, zero, slices.Concat([]byte{115}, zero, first)},
		{"s", last, zero, slices.Concat([]byte{115}, zero, last)},
		{"ab", first, last, slices.Concat([]byte{97, 98}, last, first)},
		{"", counting, zero, slices.Concat(zero, counting)},
		{"", counting, first, slices.Concat(first, counting)},
		{"key", counting, counting, slices.Concat([]byte{107, 101, 121}, counting, counting)},
		{"", zero, zero, make([]byte, 40)},
	} {
		wantKey(t, []byte(c.secret), c.a, c.b, c.want)
	}
}

func TestKeysAreTheSameInEitherOrder(t *testing.T) {
	for i, pair := range vectorPairs() {
		for _, size := range secretSizes() {
			secret := someData(size, uint32(i))
			wantKey(t, secret, pair[0], pair[1], keyElsewhere(secret, pair[0], pair[1]))
		}
	}
	for size := range impl.MaxSecret + 1 {
		// The vectors are also ordered where the secret would decide otherwise.
		for _, secret := range [][]byte{someData(size, 74), make([]byte, size), bytes.Repeat([]byte{255}, size)} {
			wantKey(t, secret, someData(20, 75), someData(20, 76), keyElsewhere(secret, someData(20, 75), someData(20, 76)))
		}
	}
	wantKey(t, nil, make([]byte, 20), make([]byte, 20), make([]byte, 40))
}

func TestEveryByteOfAKeyCounts(t *testing.T) {
	secret, a, b := someData(10, 77), someData(20, 78), someData(20, 79)
	keys := map[string]bool{string(impl.JoinKey(secret, a, b).Bytes): true}
	whole := [][]byte{secret, a, b}
	count := 1
	for _, part := range whole {
		for place := range part {
			part[place] ^= 1
			keys[string(impl.JoinKey(secret, a, b).Bytes)] = true
			part[place] ^= 1
			count++
		}
	}
	if len(keys) != count {
		t.Errorf("%d different secrets and vectors have %d keys", count, len(keys))
	}
}

func TestKeysOfAWrongSize(t *testing.T) {
	good := someData(20, 81)
	for _, size := range longSecrets() {
		wantNoKey(t, make([]byte, size), good, make([]byte, 20), impl.ErrMany)
		wantNoKey(t, make([]byte, size), good, nil, impl.ErrMany)
	}
	for _, size := range wrongVectors() {
		for _, secret := range [][]byte{nil, {1}, make([]byte, 40), make([]byte, 41)} {
			// Each of the two vectors, and both.
			wantNoKey(t, secret, make([]byte, size), good, impl.ErrMany)
			wantNoKey(t, secret, good, someData(size, 82), impl.ErrMany)
			wantNoKey(t, secret, make([]byte, size), make([]byte, size), impl.ErrMany)
		}
	}
	wantNoKey(t, []byte("s"), nil, good, impl.ErrMany)
	wantNoKey(t, []byte("s"), nil, nil, impl.ErrMany)
	// The three together have as many bytes as they might.
	wantNoKey(t, []byte("s"), good[:19], make([]byte, 21), impl.ErrMany)
	wantNoKey(t, make([]byte, 20), nil, make([]byte, 40), impl.ErrMany)
	wantNoKey(t, make([]byte, 41), good[:19], good, impl.ErrMany)
}

func TestKeysByTheIdOfASecret(t *testing.T) {
	pairs := vectorPairs()
	for i, list := range someSecrets() {
		pair := pairs[i%len(pairs)]
		left := slices.Concat(badIds(), []int64{100, -1})
		for id := range int64(100) {
			at := slices.IndexFunc(list, func(s impl.Secret) bool { return s.Id == id })
			if at < 0 {
				left = append(left, id)
				continue
			}
			want := keyElsewhere(list[at].Bytes, pair[0], pair[1])
			wantBytes(t, impl.KeyOf(list, id, pair[0], pair[1]), want, "KeyOf", list, id, pair)
			wantBytes(t, impl.KeyOf(list, id, pair[1], pair[0]), want, "KeyOf", list, id, pair)
		}
		for _, id := range left {
			wantNoBytes(t, impl.KeyOf(list, id, pair[0], pair[1]), impl.ErrNone, "KeyOf", list, id)
		}
	}
}

func TestKeysOfTheFirstAMiddleAndTheLastSecret(t *testing.T) {
	list := []impl.Secret{{Id: 0, Bytes: []byte("first")}, {Id: 7, Bytes: nil}, {Id: 8, Bytes: bytes.Repeat([]byte{9}, 40)}, {Id: 99, Bytes: []byte("last")}}
	a, b := bytes.Repeat([]byte{2}, 20), bytes.Repeat([]byte{1}, 20)
	for _, s := range list {
		want := slices.Concat(s.Bytes, b, a)
		wantBytes(t, impl.KeyOf(list, s.Id, a, b), want, "KeyOf", s.Id)
		wantBytes(t, impl.KeyOf(list, s.Id, b, a), want, "KeyOf", s.Id)
	}
	for _, id := range []int64{1, 6, 9, 98, 100, -1, 7 + 256, 7 + impl.MaxWord + 1, math.MinInt64, math.MaxInt64} {
		wantNoBytes(t, impl.KeyOf(list, id, a, b), impl.ErrNone, "KeyOf", id)
		wantNoBytes(t, impl.KeyOf(nil, id, a, b), impl.ErrNone, "KeyOf", id)
	}
	// No secret is taken for one with the Id 0 and no bytes.
	wantNoBytes(t, impl.KeyOf(list[1:], 0, a, b), impl.ErrNone, "KeyOf", list[1:], 0)
	wantNoBytes(t, impl.KeyOf(nil, 0, a, b), impl.ErrNone, "KeyOf", nil, 0)
}

func TestOfTwoFaultsOfAKeyTheFirstCounts(t *testing.T) {
	good := someData(20, 83)
	ids := append(badIds(), 0, 1, 2, 3, 99)
	for text, code := range faultyLists() {
		list := listOf(text)
		for _, s := range list {
			ids = append(ids, s.Id)
		}
		for _, id := range ids {
			wantNoBytes(t, impl.KeyOf(list, id, good, good), code, "KeyOf", text, id)
			wantNoBytes(t, impl.KeyOf(list, id, good, good[1:]), code, "KeyOf", text, id)
			wantNoBytes(t, impl.KeyOf(list, id, nil, good), code, "KeyOf", text, id)
		}
	}
	list := secretsOf(1, 2, 99)
	for _, size := range wrongVectors() {
		bad := make([]byte, size)
		for _, pair := range [][2][]byte{{bad, good}, {good, bad}, {bad, bad}} {
			for _, s := range list {
				wantNoBytes(t, impl.KeyOf(list, s.Id, pair[0], pair[1]), impl.ErrMany, "KeyOf", s.Id, pair)
			}
			for _, id := range append(badIds(), 0, 3, 98) {
				wantNoBytes(t, impl.KeyOf(list, id, pair[0], pair[1]), impl.ErrNone, "KeyOf", id, pair)
			}
		}
	}
}

func TestBothSidesDeriveTheSameKey(t *testing.T) {
	inits := someInits()
	lists := someSecrets()
	for i, own := range inits {
		peer, list := inits[(i*7+3)%len(inits)], lists[i%len(lists)]
		a, b := impl.VectorOf(own.Init).Bytes, impl.VectorOf(peer.Init).Bytes
		for _, s := range list {
			here, there := impl.KeyOf(list, s.Id, a, b), impl.KeyOf(copiedSecrets(list), s.Id, b, a)
			want := keyElsewhere(s.Bytes, vectorElsewhere(own.Init), vectorElsewhere(peer.Init))
			wantBytes(t, here, want, "KeyOf", list, s.Id, a, b)
			wantBytes(t, there, want, "KeyOf", list, s.Id, b, a)
		}
	}
}

func TestKnownListsWithASecret(t *testing.T) {
	a, b, c, d := impl.Secret{Id: 0, Bytes: []byte("a")}, impl.Secret{Id: 3, Bytes: []byte("b")}, impl.Secret{Id: 7, Bytes: []byte("c")}, impl.Secret{Id: 99, Bytes: []byte("d")}
	other := impl.Secret{Id: 7, Bytes: []byte("other")}
	none := impl.Secret{Id: 3}
	for _, e := range []struct {
		list   []impl.Secret
		secret impl.Secret
		want   []impl.Secret
	}{
		{nil, b, []impl.Secret{b}},
		{[]impl.Secret{}, none, []impl.Secret{none}},
		{[]impl.Secret{b, c}, a, []impl.Secret{a, b, c}},
		{[]impl.Secret{a, c}, b, []impl.Secret{a, b, c}},
		{[]impl.Secret{a, b, d}, c, []impl.Secret{a, b, c, d}},
		{[]impl.Secret{a, b}, d, []impl.Secret{a, b, d}},
		{[]impl.Secret{c}, other, []impl.Secret{other}},
		{[]impl.Secret{c, d}, other, []impl.Secret{other, d}},
		{[]impl.Secret{a, c}, other, []impl.Secret{a, other}},
		{[]impl.Secret{a, b, c, d}, other, []impl.Secret{a, b, other, d}},
		{[]impl.Secret{a, b, c, d}, none, []impl.Secret{a, none, c, d}},
		{[]impl.Secret{a, b, c, d}, impl.Secret{}, []impl.Secret{{}, b, c, d}},
		{[]impl.Secret{a, b, c, d}, impl.Secret{Id: 99, Bytes: make([]byte, 40)}, []impl.Secret{a, b, c, {Id: 99, Bytes: make([]byte, 40)}}},
		{[]impl.Secret{a, b, c, d}, d, []impl.Secret{a, b, c, d}},
	} {
		wantSecrets(t, impl.PutSecret(e.list, e.secret), e.want, e.list, e.secret)
	}
}

func TestAStoredSecretIsFoundAgain(t *testing.T) {
	a, b := someData(20, 84), someData(20, 85)
	for i, list := range someSecrets() {
		for id := range int64(100) {
			sizes := secretSizes()
			s := impl.Secret{Id: id, Bytes: someData(sizes[(i+int(id))%len(sizes)], 86)}
			want := putElsewhere(list, s)
			got := impl.PutSecret(list, s)
			if want.Code != impl.OK {
				wantNoSecrets(t, got, want.Code, list, s)
				continue
			}
			wantSecrets(t, got, want.List, list, s)
			wantBytes(t, impl.KeyOf(got.List, id, a, b), keyElsewhere(s.Bytes, a, b), "KeyOf", got.List, id)
			for _, other := range list {
				if other.Id != id {
					wantBytes(t, impl.KeyOf(got.List, other.Id, a, b), keyElsewhere(other.Bytes, a, b), "KeyOf", got.List, other.Id)
				}
			}
			// A second time changes nothing.
			wantSecrets(t, impl.PutSecret(got.List, s), want.List, got.List, s)
		}
	}
}

func TestSecretsPutOneAfterTheOther(t *testing.T) {
	ids := []int64{7, 0, 99, 8}
	for _, order := range [][]int{{0, 1, 2, 3}, {3, 2, 1, 0}, {1, 0, 3, 2}, {2, 3, 0, 1}, {1, 3, 0, 2}} {
		var list []impl.Secret
		for _, i := range order {
			list = impl.PutSecret(list, secretOf(ids[i], 10*(i+1))).List
		}
		want := []impl.Secret{secretOf(0, 20), secretOf(7, 10), secretOf(8, 40), secretOf(99, 30)}
		if told(list) != told(want) {
			t.Errorf("the secrets put in the order %v are %v, want %v", order, list, want)
		}
	}
}

func TestAFullListOfSecrets(t *testing.T) {
	for _, list := range someSecrets() {
		if len(list) != impl.MaxSecrets {
			continue
		}
		for id := range int64(100) {
			s := impl.Secret{Id: id, Bytes: []byte("another")}
			at := slices.IndexFunc(list, func(s impl.Secret) bool { return s.Id == id })
			if at < 0 {
				wantNoSecrets(t, impl.PutSecret(list, s), impl.ErrFull, list, s)
				// A fault of the secret comes first.
				s.Bytes = make([]byte, 41)
				wantNoSecrets(t, impl.PutSecret(list, s), impl.ErrMany, list, s)
				continue
			}
			want := copiedSecrets(list)
			want[at] = s
			wantSecrets(t, impl.PutSecret(list, s), want, list, s)
		}
		for _, id := range badIds() {
			wantNoSecrets(t, impl.PutSecret(list, impl.Secret{Id: id}), impl.ErrRange, list, id)
		}
	}
}

func TestPuttingSecretsWithFaults(t *testing.T) {
	for _, list := range append(someSecrets(), nil) {
		for _, id := range badIds() {
			for _, size := range []int{0, 1, 40, 41, 1000} {
				s := impl.Secret{Id: id, Bytes: make([]byte, size)}
				wantNoSecrets(t, impl.PutSecret(list, s), impl.ErrRange, list, s)
			}
		}
		for _, size := range longSecrets() {
			for _, id := range []int64{0, 1, 50, 51, 99} {
				s := impl.Secret{Id: id, Bytes: make([]byte, size)}
				wantNoSecrets(t, impl.PutSecret(list, s), impl.ErrMany, list, id, size)
			}
		}
	}
	for text, code := range faultyLists() {
		list := listOf(text)
		for _, s := range append(copiedSecrets(list), listOf("-1 0 1 2 50 99 100 -1x 0x 1x 50x 99x 100x")...) {
			wantNoSecrets(t, impl.PutSecret(list, s), code, text, s)
		}
	}
}

func TestPuttingIntoAllSmallLists(t *testing.T) {
	var from []impl.Secret
	for _, id := range []int64{-1, 0, 1, 99, 100} {
		from = append(from, impl.Secret{Id: id, Bytes: someData(40, 87)}, impl.Secret{Id: id, Bytes: someData(41, 87)})
	}
	for count := range 4 {
		eachList(from, count, nil, func(list []impl.Secret) {
			for i, s := range from {
				want := putElsewhere(list, s)
				if want.Code != impl.OK {
					wantNoSecrets(t, impl.PutSecret(list, s), want.Code, list, i)
				} else {
					wantSecrets(t, impl.PutSecret(list, s), want.List, list, i)
				}
			}
		})
	}
}

// listsToCompare include those that SecretsFault refuses.
func listsToCompare() [][]impl.Secret {
	lists := slices.DeleteFunc(someSecrets(), func(list []impl.Secret) bool { return len(list) == 0 })
	for text := range faultyLists() {
		lists = append(lists, listOf(text))
	}
	for i, id := range badIds() {
		lists = append(lists, []impl.Secret{{Id: id, Bytes: make([]byte, i)}})
	}
	return lists
}

func TestSameSecrets(t *testing.T) {
	lists := listsToCompare()
	for i, list := range lists {
		wantSameSecrets(t, list, list, true)
		wantSameSecrets(t, list, copiedSecrets(list), true)
		wantSameSecrets(t, list, nil, false)
		wantSameSecrets(t, list, []impl.Secret{}, false)
		for _, other := range lists[:i] {
			wantSameSecrets(t, list, other, told(list) == told(other))
		}
	}
}

func TestSecretsThatDifferInOneField(t *testing.T) {
	for _, list := range listsToCompare() {
		for place, s := range list {
			differing := func(change func(own []impl.Secret) []impl.Secret) {
				t.Helper()
				wantSameSecrets(t, list, change(copiedSecrets(list)), false)
			}
			for _, n := range []int64{s.Id + 1, s.Id ^ 256, s.Id ^ (impl.MaxWord + 1), s.Id ^ math.MinInt64, ^s.Id} {
				differing(func(own []impl.Secret) []impl.Secret { own[place].Id = n; return own })
			}
			for i := range s.Bytes {
				differing(func(own []impl.Secret) []impl.Secret { own[place].Bytes[i] ^= 1; return own })
			}
			if len(s.Bytes) > 0 {
				differing(func(own []impl.Secret) []impl.Secret { own[place].Bytes = nil; return own })
				differing(func(own []impl.Secret) []impl.Secret { own[place].Bytes = s.Bytes[1:]; return own })
				differing(func(own []impl.Secret) []impl.Secret { own[place].Bytes = s.Bytes[:len(s.Bytes)-1]; return own })
			}
			differing(func(own []impl.Secret) []impl.Secret { own[place].Bytes = append(own[place].Bytes, 0); return own })
			differing(func(own []impl.Secret) []impl.Secret { return slices.Delete(own, place, place+1) })
		}
		wantSameSecrets(t, list, append(copiedSecrets(list), impl.Secret{}), false)
		wantSameSecrets(t, list, append([]impl.Secret{{}}, list...), false)
	}
}

func TestSameSecretsOfAnyValues(t *testing.T) {
	wantSameSecrets(t, nil, nil, true)
	wantSameSecrets(t, nil, []impl.Secret{}, true)
	wantSameSecrets(t, []impl.Secret{}, []impl.Secret{}, true)
	wantSameSecrets(t, nil, []impl.Secret{{}}, false)
	wantSameSecrets(t, []impl.Secret{}, []impl.Secret{{}}, false)
	wantSameSecrets(t, []impl.Secret{{}}, []impl.Secret{{Bytes: []byte{}}}, true)
	wantSameSecrets(t, []impl.Secret{{}}, []impl.Secret{{Bytes: []byte{0}}}, false)
	wantSameSecrets(t, []impl.Secret{{}}, []impl.Secret{{}, {}}, false)
	// The same Ids and the same bytes, but in another order or divided otherwise.
	x, y := impl.Secret{Id: 1, Bytes: []byte("x")}, impl.Secret{Id: 2, Bytes: []byte("y")}
	wantSameSecrets(t, []impl.Secret{x, y}, []impl.Secret{y, x}, false)
	wantSameSecrets(t, []impl.Secret{x, x}, []impl.Secret{x, y}, false)
	wantSameSecrets(t, []impl.Secret{x, x, y}, []impl.Secret{x, y, y}, false)
	wantSameSecrets(t, []impl.Secret{{Bytes: []byte("xy")}, {}}, []impl.Secret{{Bytes: []byte("x")}, {Bytes: []byte("y")}}, false)
	for _, n := range badIds() {
		list := slices.Repeat([]impl.Secret{{Id: n, Bytes: make([]byte, 1000)}}, 20)
		wantSameSecrets(t, list, copiedSecrets(list), true)
		other := copiedSecrets(list)
		other[19].Bytes[999] = 1
		wantSameSecrets(t, list, other, false)
	}
}
