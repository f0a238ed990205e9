package impl

import "math/bits"

const OK = 0
const ErrForm = 1
const ErrMany = 2
const ErrRange = 3
const ErrNone = 4
const ErrText = 5
const ErrTaken = 6
const ErrFull = 7
const ErrState = 8
const ErrSum = 9
const ErrAuth = 10
const MaxWord = 4294967295

// wordSize is the number of bytes of an encoded word.
const wordSize = 4

// lessSpan is the largest gap at which one serial number precedes another. It
// is one less than half of all numbers, so that of two numbers half of all
// numbers apart neither precedes the other.
const lessSpan = 2147483647

type IntResult struct {
	Code  int64
	Value int64
}
type IntsResult struct {
	Code int64
	List []int64
}
type BytesResult struct {
	Code  int64
	Bytes []byte
}

// word wraps around by itself, so sums and gaps need no remainder.
type word uint32

// wordBytes is an array because assigning it copies the bytes: no encoded word
// shares memory with another one or with the data it was read from.
type wordBytes [wordSize]byte

func isWord(n int64) bool {
	return n >= 0 && n <= MaxWord
}

// wordAfter is the next serial number. The one after the last is 0.
func wordAfter(n int64) int64 {
	return int64(word(n) + 1)
}

// rotate turns the word right by n bits.
func (w word) rotate(n int) word {
	return word(bits.RotateLeft32(uint32(w), -n))
}

func (w word) encode() wordBytes {
	return wordBytes{byte(w >> 24), byte(w >> 16), byte(w >> 8), byte(w)}
}

func (b wordBytes) decode() word {
	return word(b[0])<<24 | word(b[1])<<16 | word(b[2])<<8 | word(b[3])
}

func AddWords(a int64, b int64) IntResult {
	if !isWord(a) || !isWord(b) {
		return IntResult{Code: ErrRange}
	}
	return IntResult{Value: int64(word(a) + word(b))}
}

func RotateWord(w int64, n int64) IntResult {
	if !isWord(w) || n < 0 || n > 31 {
		return IntResult{Code: ErrRange}
	}
	return IntResult{Value: int64(word(w).rotate(int(n)))}
}

func PackWord(w int64) BytesResult {
	if !isWord(w) {
		return BytesResult{Code: ErrRange}
	}
	encoded := word(w).encode()
	return BytesResult{Bytes: encoded[:]}
}

func WordAt(data []byte, at int64) IntResult {
	// The length is reduced rather than at increased: at may be the largest
	// int64, and a slice up to at + 4 could reach into the spare capacity.
	if at < 0 || at > int64(len(data))-wordSize {
		return IntResult{Code: ErrRange}
	}
	encoded := wordBytes(data[at : at+wordSize])
	return IntResult{Value: int64(encoded.decode())}
}

func SerialGap(a int64, b int64) IntResult {
	if !isWord(a) || !isWord(b) {
		return IntResult{Code: ErrRange}
	}
	return IntResult{Value: int64(word(b) - word(a))}
}

func SerialLess(a int64, b int64) bool {
	gap := SerialGap(a, b)
	return gap.Code == OK && gap.Value >= 1 && gap.Value <= lessSpan
}
