package tests

import (
	"bytes"
	"math"
	"math/big"
	"reflect"
	"slices"
	"testing"

	"loop.example/g00639/impl"
)

const (
	maxDividend = 1000000000000000
	maxDivisor  = 1000000000
	maxCube     = 1000000000000000
)

// edges are the bounds that chapter 1 names, with both neighbours and both signs, and the ends of int64.
func edges() []int64 {
	var list []int64
	for _, v := range []int64{0, impl.MaxLevel, impl.FixOne, impl.FixOne / 2, impl.MaxFix, maxDivisor, maxDividend, math.MaxUint32, math.MaxInt32} {
		for _, d := range []int64{-1, 0, 1} {
			list = append(list, v+d, -(v + d))
		}
	}
	list = append(list, 2, 3, 7, 255, 256, 32769, 100000, 16776960)
	list = append(list, math.MinInt64, math.MinInt64+1, math.MaxInt64-1, math.MaxInt64)
	slices.Sort(list)
	return slices.Compact(list)
}

// spread answers n numbers from low to high that are the same in every run.
func spread(n int, low int64, high int64) []int64 {
	state := uint64(88172645463325252)
	list := make([]int64, n)
	for i := range list {
		state ^= state << 13
		state ^= state >> 7
		state ^= state << 17
		list[i] = low + int64(state%uint64(high-low+1))
	}
	return list
}

func within(v int64, low int64, high int64) bool {
	return low <= v && v <= high
}

func fix(v int64) bool {
	return within(v, -impl.MaxFix, impl.MaxFix)
}

// roundHalfUp is exact: the greatest n of which 2 b n is not above 2 a + b.
func roundHalfUp(a *big.Int, b *big.Int) *big.Int {
	num := new(big.Int).Lsh(a, 1)
	num.Add(num, b)
	// big's Div is rounded down for a divisor above 0.
	return num.Div(num, new(big.Int).Lsh(b, 1))
}

func fitsFix(v *big.Int) bool {
	return v.IsInt64() && fix(v.Int64())
}

func wantRoundDiv(a int64, b int64) impl.IntResult {
	if !within(a, -maxDividend, maxDividend) || !within(b, 1, maxDivisor) {
		return impl.IntResult{Code: impl.ErrRange}
	}
	return impl.IntResult{Value: roundHalfUp(big.NewInt(a), big.NewInt(b)).Int64()}
}

func wantMulFix(a int64, b int64) impl.IntResult {
	if !fix(a) || !fix(b) {
		return impl.IntResult{Code: impl.ErrRange}
	}
	return wantFix(new(big.Int).Mul(big.NewInt(a), big.NewInt(b)), impl.FixOne)
}

func wantDivFix(a int64, b int64) impl.IntResult {
	if !fix(a) || !fix(b) || b < 1 {
		return impl.IntResult{Code: impl.ErrRange}
	}
	return wantFix(new(big.Int).Mul(big.NewInt(a), big.NewInt(impl.FixOne)), b)
}

func wantFix(num *big.Int, den int64) impl.IntResult {
	v := roundHalfUp(num, big.NewInt(den))
	if !fitsFix(v) {
		return impl.IntResult{Code: impl.ErrLarge}
	}
	return impl.IntResult{Value: v.Int64()}
}

type twoCase struct {
	a, b, code, value int64
}

func checkTwo(t *testing.T, name string, f func(int64, int64) impl.IntResult, cases []twoCase) {
	t.Helper()
	for _, c := range cases {
		if got, want := f(c.a, c.b), (impl.IntResult{Code: c.code, Value: c.value}); got != want {
			t.Errorf("%s(%d, %d) = %+v, want %+v", name, c.a, c.b, got, want)
		}
	}
}

func checkPairs(t *testing.T, name string, f, want func(int64, int64) impl.IntResult, as, bs []int64) {
	t.Helper()
	for _, a := range as {
		for _, b := range bs {
			if got, want := f(a, b), want(a, b); got != want {
				t.Fatalf("%s(%d, %d) = %+v, want %+v", name, a, b, got, want)
			}
		}
	}
}

func TestCodesAndConstants(t *testing.T) {
	codes := []int64{impl.OK, impl.ErrForm, impl.ErrMany, impl.ErrRange, impl.ErrNone, impl.ErrText, impl.ErrFlat, impl.ErrLarge, impl.ErrState}
	if !slices.Equal(codes, []int64{0, 1, 2, 3, 4, 5, 6, 7, 8}) {
		t.Errorf("codes are %v", codes)
	}
	sizes := []int64{impl.MaxLevel, impl.FixOne, impl.MaxFix}
	if !slices.Equal(sizes, []int64{65535, 65536, 16777216}) {
		t.Errorf("MaxLevel, FixOne, MaxFix are %v", sizes)
	}
}

// Promise 2: what is rounded is no more than a half away, and a half goes up on both sides of 0.
func TestRoundDivCases(t *testing.T) {
	checkTwo(t, "RoundDiv", impl.RoundDiv, []twoCase{
		{5, 2, 0, 3}, {-5, 2, 0, -2},
		{1, 2, 0, 1}, {-1, 2, 0, 0}, {3, 2, 0, 2}, {-3, 2, 0, -1},
		{0, 1, 0, 0}, {0, 7, 0, 0}, {7, 1, 0, 7}, {-7, 1, 0, -7},
		{1, 3, 0, 0}, {2, 3, 0, 1}, {-1, 3, 0, 0}, {-2, 3, 0, -1}, {-3, 3, 0, -1}, {-4, 3, 0, -1}, {-5, 3, 0, -2},
		{1, 4, 0, 0}, {2, 4, 0, 1}, {-2, 4, 0, 0}, {-3, 4, 0, -1}, {-6, 4, 0, -1}, {-7, 4, 0, -2},
		{499999999, 1000000000, 0, 0}, {500000000, 1000000000, 0, 1},
		{-500000000, 1000000000, 0, 0}, {-500000001, 1000000000, 0, -1},
	})
}

func TestRoundDivBounds(t *testing.T) {
	const a, b = maxDividend, maxDivisor
	checkTwo(t, "RoundDiv", impl.RoundDiv, []twoCase{
		{a, 1, 0, a}, {-a, 1, 0, -a}, {a, b, 0, 1000000}, {-a, b, 0, -1000000},
		{a, 3, 0, 333333333333333}, {-a, 3, 0, -333333333333333},
		{a - 1, 2, 0, 500000000000000}, {1 - a, 2, 0, -499999999999999},
		{a + 1, 1, impl.ErrRange, 0}, {-a - 1, 1, impl.ErrRange, 0},
		{1, 0, impl.ErrRange, 0}, {1, -1, impl.ErrRange, 0}, {0, 0, impl.ErrRange, 0},
		{1, b + 1, impl.ErrRange, 0}, {a, b - 1, 0, 1000000},
		{math.MinInt64, 1, impl.ErrRange, 0}, {math.MaxInt64, 1, impl.ErrRange, 0},
		{1, math.MinInt64, impl.ErrRange, 0}, {1, math.MaxInt64, impl.ErrRange, 0},
		{math.MinInt64, -1, impl.ErrRange, 0}, {math.MinInt64, math.MinInt64, impl.ErrRange, 0},
	})
}

func TestRoundDivIsExact(t *testing.T) {
	checkPairs(t, "RoundDiv", impl.RoundDiv, wantRoundDiv, edges(), edges())
	checkPairs(t, "RoundDiv", impl.RoundDiv, wantRoundDiv, spread(300, -maxDividend, maxDividend), spread(300, 1, maxDivisor))
	checkPairs(t, "RoundDiv", impl.RoundDiv, wantRoundDiv, spread(50, -400, 400), spread(50, 1, 40))
}

func TestRoundDivIsNoMoreThanAHalfAway(t *testing.T) {
	for a := int64(-200); a <= 200; a++ {
		for b := int64(1); b <= 40; b++ {
			away := 2 * (impl.RoundDiv(a, b).Value*b - a)
			if away > b || away <= -b {
				t.Fatalf("RoundDiv(%d, %d) is %d half parts of %d away", a, b, away, b)
			}
		}
	}
}

func TestMulFixCases(t *testing.T) {
	const m = impl.MaxFix
	checkTwo(t, "MulFix", impl.MulFix, []twoCase{
		{98304, 32768, 0, 49152}, {65536, 65536, 0, 65536}, {-65536, 65536, 0, -65536}, {-65536, -65536, 0, 65536},
		{0, m, 0, 0}, {1, 32767, 0, 0}, {1, 32768, 0, 1}, {-1, 32768, 0, 0}, {-1, 32769, 0, -1}, {3, -32768, 0, -1},
		{m, 65536, 0, m}, {-m, 65536, 0, -m}, {m, -65536, 0, -m},
		{m, 65537, impl.ErrLarge, 0}, {-m, 65537, impl.ErrLarge, 0}, {m, m, impl.ErrLarge, 0}, {-m, m, impl.ErrLarge, 0}, {-m, -m, impl.ErrLarge, 0},
		{m + 1, 0, impl.ErrRange, 0}, {-m - 1, 0, impl.ErrRange, 0}, {0, m + 1, impl.ErrRange, 0}, {0, -m - 1, impl.ErrRange, 0},
		{math.MinInt64, math.MinInt64, impl.ErrRange, 0}, {math.MaxInt64, 1, impl.ErrRange, 0}, {1, math.MinInt64, impl.ErrRange, 0},
	})
}

func TestMulFixIsExact(t *testing.T) {
	checkPairs(t, "MulFix", impl.MulFix, wantMulFix, edges(), edges())
	checkPairs(t, "MulFix", impl.MulFix, wantMulFix, spread(200, -impl.MaxFix, impl.MaxFix), spread(200, -200000, 200000))
}

func TestDivFixCases(t *testing.T) {
	const m = impl.MaxFix
	checkTwo(t, "DivFix", impl.DivFix, []twoCase{
		{65536, 131072, 0, 32768}, {65536, 65536, 0, 65536}, {-65536, 131072, 0, -32768}, {0, 1, 0, 0},
		{1, 131072, 0, 1}, {-1, 131072, 0, 0}, {-3, 131072, 0, -1}, {1, 131073, 0, 0}, {-1, 131071, 0, -1},
		{256, 1, 0, m}, {-256, 1, 0, -m}, {257, 1, impl.ErrLarge, 0}, {-257, 1, impl.ErrLarge, 0}, {m, 1, impl.ErrLarge, 0}, {-m, 1, impl.ErrLarge, 0},
		{m, m, 0, 65536}, {-m, m, 0, -65536}, {m, 65536, 0, m}, {m, 65535, impl.ErrLarge, 0},
		{1, 0, impl.ErrRange, 0}, {0, 0, impl.ErrRange, 0}, {1, -1, impl.ErrRange, 0}, {1, -m, impl.ErrRange, 0},
		{m + 1, 65536, impl.ErrRange, 0}, {-m - 1, 65536, impl.ErrRange, 0}, {1, m + 1, impl.ErrRange, 0},
		{math.MaxInt64, 1, impl.ErrRange, 0}, {math.MinInt64, 1, impl.ErrRange, 0}, {1, math.MaxInt64, impl.ErrRange, 0}, {1, math.MinInt64, impl.ErrRange, 0},
	})
}

func TestDivFixIsExact(t *testing.T) {
	checkPairs(t, "DivFix", impl.DivFix, wantDivFix, edges(), edges())
	checkPairs(t, "DivFix", impl.DivFix, wantDivFix, spread(200, -impl.MaxFix, impl.MaxFix), spread(200, 1, impl.MaxFix))
}

func TestClampLevel(t *testing.T) {
	cases := map[int64]int64{
		math.MinInt64: 0, -65536: 0, -5: 0, -1: 0, 0: 0, 1: 1, 32768: 32768,
		65534: 65534, 65535: 65535, 65536: 65535, 70000: 65535, math.MaxInt64: 65535,
	}
	for v, want := range cases {
		if got := impl.ClampLevel(v); got != want {
			t.Errorf("ClampLevel(%d) = %d, want %d", v, got, want)
		}
	}
}

func checkRoot(t *testing.T, v int64, code int64, value int64) {
	t.Helper()
	if got, want := impl.CubeRoot(v), (impl.IntResult{Code: code, Value: value}); got != want {
		t.Errorf("CubeRoot(%d) = %+v, want %+v", v, got, want)
	}
}

// Promise 2: a root is the greatest number whose third pow is not above.
func TestCubeRootOfThirdPowsAndNeighbours(t *testing.T) {
	for n := int64(1); n <= 100000; n++ {
		pow := n * n * n
		checkRoot(t, pow-1, 0, n-1)
		checkRoot(t, pow, 0, n)
		if n < 100000 {
			checkRoot(t, pow+1, 0, n)
		}
		if t.Failed() {
			return
		}
	}
}

func TestCubeRootBounds(t *testing.T) {
	checkRoot(t, 0, 0, 0)
	checkRoot(t, 1, 0, 1)
	checkRoot(t, 26, 0, 2)
	checkRoot(t, 27, 0, 3)
	checkRoot(t, maxCube-1, 0, 99999)
	checkRoot(t, maxCube, 0, 100000)
	for _, v := range []int64{-1, -27, maxCube + 1, math.MinInt64, math.MaxInt64} {
		checkRoot(t, v, impl.ErrRange, 0)
	}
}

func TestCubeRootIsTheGreatest(t *testing.T) {
	for _, v := range spread(20000, 0, maxCube) {
		got := impl.CubeRoot(v)
		n := got.Value
		if got.Code != impl.OK || n*n*n > v || (n+1)*(n+1)*(n+1) <= v {
			t.Fatalf("CubeRoot(%d) = %+v", v, got)
		}
	}
}

func TestPutFixCases(t *testing.T) {
	cases := map[int64][]byte{
		0: {0, 0, 0, 0}, 1: {0, 0, 0, 1}, -1: {255, 255, 255, 255}, 255: {0, 0, 0, 255}, 256: {0, 0, 1, 0},
		65536: {0, 1, 0, 0}, -65536: {255, 255, 0, 0}, 66051: {0, 1, 2, 3}, -2: {255, 255, 255, 254},
		16777215: {0, 255, 255, 255}, 16777216: {1, 0, 0, 0}, -16777215: {255, 0, 0, 1}, -16777216: {255, 0, 0, 0},
	}
	for v, want := range cases {
		if got := impl.PutFix(v); got.Code != impl.OK || !bytes.Equal(got.Bytes, want) {
			t.Errorf("PutFix(%d) = %+v, want %v", v, got, want)
		}
	}
	for _, v := range []int64{16777217, -16777217, 1 << 32, -1 << 32, math.MinInt64, math.MaxInt64} {
		if got := impl.PutFix(v); got.Code != impl.ErrRange || len(got.Bytes) != 0 {
			t.Errorf("PutFix(%d) = %+v, want ErrRange alone", v, got)
		}
	}
}

// Promise 2: a fix is read back from its bytes.
func TestFixIsReadBack(t *testing.T) {
	list := append(spread(20000, -impl.MaxFix, impl.MaxFix), edges()...)
	for _, v := range list {
		if !fix(v) {
			continue
		}
		b := impl.PutFix(v).Bytes
		if len(b) != 4 {
			t.Fatalf("PutFix(%d) has %d bytes", v, len(b))
		}
		for at, data := range [][]byte{b, append([]byte{9}, b...), append([]byte{9, 8}, append(b, 7, 6)...)} {
			if got, want := impl.GetFix(data, int64(at)), (impl.IntResult{Value: v}); got != want {
				t.Fatalf("GetFix(%v, %d) = %+v, want %+v", data, at, got, want)
			}
		}
	}
}

func checkGet(t *testing.T, data []byte, at int64, code int64, value int64) {
	t.Helper()
	if got, want := impl.GetFix(data, at), (impl.IntResult{Code: code, Value: value}); got != want {
		t.Errorf("GetFix(%v, %d) = %+v, want %+v", data, at, got, want)
	}
}

func TestGetFixOfBytesThatAreNoFix(t *testing.T) {
	checkGet(t, []byte{1, 0, 0, 0}, 0, 0, 16777216)
	checkGet(t, []byte{1, 0, 0, 1}, 0, impl.ErrLarge, 0)
	checkGet(t, []byte{2, 0, 0, 0}, 0, impl.ErrLarge, 0)
	checkGet(t, []byte{127, 255, 255, 255}, 0, impl.ErrLarge, 0)
	checkGet(t, []byte{128, 0, 0, 0}, 0, impl.ErrLarge, 0)
	checkGet(t, []byte{254, 255, 255, 255}, 0, impl.ErrLarge, 0)
	checkGet(t, []byte{255, 0, 0, 0}, 0, 0, -16777216)
	checkGet(t, []byte{9, 1, 0, 0, 1, 0}, 1, impl.ErrLarge, 0)
}

func TestGetFixOfPlacesThatLeaveTheData(t *testing.T) {
	data := []byte{0, 0, 0, 1, 0, 2}
	checkGet(t, data, 0, 0, 1)
	checkGet(t, data, 1, 0, 256)
	checkGet(t, data, 2, 0, 65538)
	for _, at := range []int64{-1, -4, 3, 4, 5, 6, 7, math.MinInt64, math.MaxInt64, math.MaxInt64 - 3} {
		checkGet(t, data, at, impl.ErrRange, 0)
	}
	for n := range 4 {
		checkGet(t, make([]byte, n), 0, impl.ErrRange, 0)
		checkGet(t, make([]byte, n), int64(n)-4, impl.ErrRange, 0)
	}
	checkGet(t, nil, 0, impl.ErrRange, 0)
	checkGet(t, nil, -1, impl.ErrRange, 0)
	// What lies behind the data in the same memory is not of the data.
	checkGet(t, data[:3], 0, impl.ErrRange, 0)
	// The place is asked ahead of the bytes.
	checkGet(t, []byte{2, 0, 0, 0}, 1, impl.ErrRange, 0)
}

// Promise 1: every function answers at every argument, with a code all else is zero, and the same arguments have the same answer.
func TestFixAnswersAtEveryArgument(t *testing.T) {
	twos := []func(int64, int64) impl.IntResult{impl.RoundDiv, impl.MulFix, impl.DivFix}
	for _, a := range edges() {
		for _, b := range edges() {
			for i, f := range twos {
				got := f(a, b)
				if got.Code != impl.OK && got.Value != 0 || got != f(a, b) {
					t.Fatalf("function %d of %d and %d: %+v", i, a, b, got)
				}
			}
		}
		root := impl.CubeRoot(a)
		if (root.Code == impl.OK) != within(a, 0, maxCube) || root.Code != impl.OK && root.Value != 0 || root != impl.CubeRoot(a) {
			t.Fatalf("CubeRoot(%d) = %+v", a, root)
		}
		put := impl.PutFix(a)
		if (put.Code == impl.OK) != fix(a) || (len(put.Bytes) == 4) != fix(a) || put.Code != impl.OK && len(put.Bytes) != 0 || !reflect.DeepEqual(put, impl.PutFix(a)) {
			t.Fatalf("PutFix(%d) = %+v", a, put)
		}
		if v := impl.ClampLevel(a); !within(v, 0, impl.MaxLevel) || within(a, 0, impl.MaxLevel) && v != a {
			t.Fatalf("ClampLevel(%d) = %d", a, v)
		}
	}
}

// Promise 1: no argument is changed.
func TestGetFixChangesNothing(t *testing.T) {
	data := []byte{1, 2, 3, 4, 255, 255, 255, 254, 9}
	kept := slices.Clone(data)
	for _, at := range edges() {
		first := impl.GetFix(data, at)
		if second := impl.GetFix(data, at); first != second {
			t.Fatalf("GetFix at %d: %+v, then %+v", at, first, second)
		}
	}
	for at := range int64(len(data)) {
		impl.GetFix(data, at)
	}
	if !bytes.Equal(data, kept) {
		t.Errorf("data is %v, was %v", data, kept)
	}
}

// Promise 1: what is answered is new memory.
func TestPutFixIsNewMemory(t *testing.T) {
	first := impl.PutFix(66051)
	second := impl.PutFix(66051)
	for i := range first.Bytes {
		first.Bytes[i] = 200
	}
	if want := []byte{0, 1, 2, 3}; !bytes.Equal(second.Bytes, want) || !bytes.Equal(impl.PutFix(66051).Bytes, want) {
		t.Errorf("PutFix shares memory: %v", second.Bytes)
	}
}
