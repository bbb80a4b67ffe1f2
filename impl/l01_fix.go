package impl

import (
	"errors"
	"strconv"
)

const OK = 0
const ErrForm = 1
const ErrMany = 2
const ErrRange = 3
const ErrNone = 4
const ErrText = 5
const ErrFlat = 6
const ErrLarge = 7
const ErrState = 8
const MaxLevel = 65535
const FixOne = 65536
const MaxFix = 16777216

const maxDividend = 1000000000000000
const maxDivisor = 1000000000
const maxCube = 1000000000000000
const maxCubeRoot = 100000
const fixBytes = 4

// levelOne is how many numbers make a level where they are levels themselves,
// as FineOne is where they are fine numbers: what does the same with both is told
// one of these, and how it is called there is one.
const levelOne = 1

type IntResult struct {
	Code  int64
	Value int64
}
type BytesResult struct {
	Code  int64
	Bytes []byte
}
type TextResult struct {
	Code int64
	Text string
}
type IntsResult struct {
	Code int64
	List []int64
}

// misfit is the error of a number that does not fit; it carries the code that the caller is told.
type misfit struct {
	code int64
}

func (m misfit) Error() string {
	return "does not fit: code " + strconv.FormatInt(m.code, 10)
}

func codeOf(err error) int64 {
	var m misfit
	if errors.As(err, &m) {
		return m.code
	}
	return OK
}

func intAnswer(v int64, err error) IntResult {
	if code := codeOf(err); code != OK {
		return IntResult{Code: code}
	}
	return IntResult{Value: v}
}

func bytesAnswer(b []byte, err error) BytesResult {
	if code := codeOf(err); code != OK {
		return BytesResult{Code: code}
	}
	return BytesResult{Bytes: b}
}

func RoundDiv(a int64, b int64) IntResult {
	return intAnswer(roundDiv(a, b))
}

func roundDiv(a int64, b int64) (int64, error) {
	if a < -maxDividend || a > maxDividend || b < 1 || b > maxDivisor {
		return 0, misfit{ErrRange}
	}
	return nearest(a, b), nil
}

// nearest asks for a b above 0. Go cuts a quotient towards 0, so below 0 it is
// brought down first: a half then goes up on both sides of 0.
func nearest(a int64, b int64) int64 {
	whole, rest := a/b, a%b
	if rest < 0 {
		whole--
		rest += b
	}
	if rest >= (b+1)>>1 {
		whole++
	}
	return whole
}

func isLevel(v int64) bool {
	return v >= 0 && v <= MaxLevel
}

func isFix(v int64) bool {
	return v >= -MaxFix && v <= MaxFix
}

func fitFix(v int64) (int64, error) {
	if !isFix(v) {
		return 0, misfit{ErrLarge}
	}
	return v, nil
}

func MulFix(a int64, b int64) IntResult {
	return intAnswer(mulFix(a, b))
}

func mulFix(a int64, b int64) (int64, error) {
	if !isFix(a) || !isFix(b) {
		return 0, misfit{ErrRange}
	}
	return fitFix(nearest(a*b, FixOne))
}

func DivFix(a int64, b int64) IntResult {
	return intAnswer(divFix(a, b))
}

func divFix(a int64, b int64) (int64, error) {
	if !isFix(a) || !isFix(b) || b < 1 {
		return 0, misfit{ErrRange}
	}
	return fitFix(nearest(a*FixOne, b))
}

func ClampLevel(v int64) int64 {
	return clamp(v, levelOne)
}

func clamp(v int64, one int64) int64 {
	return min(max(v, 0), MaxLevel*one)
}

func CubeRoot(v int64) IntResult {
	return intAnswer(cubeRoot(v))
}

// cubeRoot halves the span from low to high: the third pow of low is never
// above v, that of high + 1 always is.
func cubeRoot(v int64) (int64, error) {
	if v < 0 || v > maxCube {
		return 0, misfit{ErrRange}
	}
	low, high := int64(0), int64(maxCubeRoot)
	for low < high {
		middle := (low + high + 1) >> 1
		if middle*middle*middle <= v {
			low = middle
		} else {
			high = middle - 1
		}
	}
	return low, nil
}

func PutFix(v int64) BytesResult {
	return bytesAnswer(putFix(v))
}

// putFix relies on the conversion to uint32: it adds 4294967296 to what is below 0.
func putFix(v int64) ([]byte, error) {
	if !isFix(v) {
		return nil, misfit{ErrRange}
	}
	u := uint32(v)
	return []byte{byte(u >> 24), byte(u >> 16), byte(u >> 8), byte(u)}, nil
}

func GetFix(data []byte, at int64) IntResult {
	return intAnswer(getFix(data, at))
}

// getFix compares at with what is left, as at + 4 could overflow.
func getFix(data []byte, at int64) (int64, error) {
	if at < 0 || at > int64(len(data))-fixBytes {
		return 0, misfit{ErrRange}
	}
	var u uint32
	for _, b := range data[at : at+fixBytes] {
		u = u<<8 | uint32(b)
	}
	return fitFix(int64(int32(u)))
}
