package tests

import (
	"bytes"
	"math"
	"testing"

	"loop.example/g00670/impl"
)

// Promise 1: every function terminates and returns for all arguments without
// modifying them; results are newly allocated and depend on the arguments only.

// wordCalls returns the results of all functions of chapter 1 for two numbers.
func wordCalls(a int64, b int64) []impl.IntResult {
	less := impl.IntResult{}
	if impl.SerialLess(a, b) {
		less.Value = 1
	}
	return []impl.IntResult{
		impl.AddWords(a, b), impl.RotateWord(a, b), impl.SerialGap(a, b), less,
		impl.WordAt([]byte{1, 2, 3, 4, 5}, a),
	}
}

func TestWordsReturnForAllArguments(t *testing.T) {
	numbers := append(anyNumbers(), 3, 4, 31, 32, 33, 63, 64, math.MaxInt64-3)
	for _, a := range numbers {
		for _, b := range numbers {
			for _, r := range wordCalls(a, b) {
				if r.Value < 0 || r.Value > impl.MaxWord || r.Code != impl.OK && r.Value != 0 {
					t.Errorf("numbers %d and %d: %+v", a, b, r)
				}
			}
		}
		for size := range 9 {
			impl.WordAt(make([]byte, size), a)
		}
		impl.WordAt(nil, a)
		impl.PackWord(a)
	}
}

func TestWordsDependOnTheArgumentsOnly(t *testing.T) {
	var first [][]impl.IntResult
	for _, a := range anyNumbers() {
		for _, b := range anyNumbers() {
			first = append(first, wordCalls(a, b))
		}
	}
	n := 0
	for _, a := range anyNumbers() {
		for _, b := range anyNumbers() {
			for i, r := range wordCalls(a, b) {
				if r != first[n][i] {
					t.Errorf("numbers %d and %d: %+v, and then %+v", a, b, first[n][i], r)
				}
			}
			n++
		}
	}
}

func TestWordAtLeavesItsArgument(t *testing.T) {
	whole := []byte{1, 2, 3, 4, 5, 6, 7, 8, 9, 10}
	before := bytes.Clone(whole)
	for size := range len(whole) + 1 {
		for at := int64(-1); at < 12; at++ {
			impl.WordAt(whole[:size], at)
		}
	}
	if !bytes.Equal(whole, before) {
		t.Errorf("WordAt changed its data to %v", whole)
	}
	first := impl.WordAt(whole, 2)
	clear(whole)
	if first.Value != 50595078 {
		t.Errorf("WordAt(.., 2) = %+v", first)
	}
}

func TestPackWordReturnsNewMemory(t *testing.T) {
	for _, w := range someWords() {
		want := bytes.Clone(impl.PackWord(w).Bytes)
		first, second := impl.PackWord(w).Bytes, impl.PackWord(w).Bytes
		for i := range first {
			first[i] ^= 255
		}
		// What is appended, too, must not be seen elsewhere.
		_ = append(first, 1, 2, 3, 4)
		if !bytes.Equal(second, want) {
			t.Errorf("PackWord(%d) shares memory with an earlier result", w)
		}
		if got := impl.PackWord(w).Bytes; !bytes.Equal(got, want) {
			t.Errorf("PackWord(%d) = %v after a result was changed, want %v", w, got, want)
		}
		if !bytes.Equal(second, want) {
			t.Errorf("PackWord(%d) is changed by a later call", w)
		}
	}
}
