package tests

import (
	"math"
	"math/big"
	"reflect"
	"slices"
	"testing"

	"loop.example/g00639/impl"
)

const (
	one     = impl.FixOne
	half    = impl.FixOne / 2
	maxCell = 262144
)

func matrix(a, b, c, d, e, f, g, h, i int64) impl.Matrix {
	return impl.Matrix{Rows: [][]int64{{a, b, c}, {d, e, f}, {g, h, i}}}
}

func diagonal(a, b, c int64) impl.Matrix {
	return matrix(a, 0, 0, 0, b, 0, 0, 0, c)
}

func likeMatrix(v int64) impl.Matrix {
	return matrix(v, v, v, v, v, v, v, v, v)
}

func cloneLists(lists [][]int64) [][]int64 {
	var own [][]int64
	for _, list := range lists {
		own = append(own, slices.Clone(list))
	}
	return own
}

func cloneMatrix(m impl.Matrix) impl.Matrix {
	return impl.Matrix{Rows: cloneLists(m.Rows)}
}

// with answers m with v at one place.
func with(m impl.Matrix, i int, k int, v int64) impl.Matrix {
	own := cloneMatrix(m)
	own.Rows[i][k] = v
	return own
}

// times answers m with every number times v.
func times(m impl.Matrix, v int64) impl.Matrix {
	own := cloneMatrix(m)
	for _, r := range own.Rows {
		for k := range r {
			r[k] *= v
		}
	}
	return own
}

// order is where each of three comes from, and whether it takes an odd number of changes of two.
type order struct {
	from [3]int
	odd  bool
}

func orders() []order {
	return []order{
		{[3]int{0, 1, 2}, false}, {[3]int{1, 2, 0}, false}, {[3]int{2, 0, 1}, false},
		{[3]int{1, 0, 2}, true}, {[3]int{0, 2, 1}, true}, {[3]int{2, 1, 0}, true},
	}
}

func ordered(list []int64, o order) []int64 {
	return []int64{list[o.from[0]], list[o.from[1]], list[o.from[2]]}
}

func rowsOrdered(m impl.Matrix, o order) impl.Matrix {
	own := cloneMatrix(m)
	return impl.Matrix{Rows: [][]int64{own.Rows[o.from[0]], own.Rows[o.from[1]], own.Rows[o.from[2]]}}
}

func placesOrdered(m impl.Matrix, o order) impl.Matrix {
	own := impl.Matrix{}
	for _, r := range m.Rows {
		own.Rows = append(own.Rows, ordered(r, o))
	}
	return own
}

// spreadMatrices are n matrices of numbers from -most to most; every seed has others.
func spreadMatrices(n int, seed int, most int64) []impl.Matrix {
	v := spread(9*(n+seed), -most, most)[9*seed:]
	var list []impl.Matrix
	for ; len(v) >= 9; v = v[9:] {
		list = append(list, matrix(v[0], v[1], v[2], v[3], v[4], v[5], v[6], v[7], v[8]))
	}
	return list
}

// steep has the greatest determinant that there is of numbers that are 1 or -1: 4.
func steep() impl.Matrix {
	return matrix(1, 1, 1, 1, -1, 1, 1, 1, -1)
}

// halvesAtTheBound have inverses of which one number, at row 0 and place 1, is
// 262144 and a half, and that only by the small determinant: the determinant
// itself is a bit more, or a bit less, than FixOne times that, on both sides of 0.
func halvesAtTheBound() []impl.Matrix {
	return []impl.Matrix{
		matrix(16623, -16899, 0, 0, 16656, 0, 0, 0, 174763), matrix(16623, -16899, 0, 0, 16656, 0, 0, 0, -174763),
		matrix(16534, -17853, 0, 0, 17691, 0, 0, 0, 174763), matrix(16534, -17853, 0, 0, 17691, 0, 0, 0, -174763),
	}
}

// knownMatrices have numbers that were chosen: at the bounds, flat ones, nearly flat ones, with signs of all kinds.
func knownMatrices() []impl.Matrix {
	list := []impl.Matrix{
		diagonal(one, one, one), diagonal(-one, one, one), diagonal(0, 0, 0), likeMatrix(1), likeMatrix(one), likeMatrix(maxCell), likeMatrix(-maxCell),
		matrix(0, one, 0, one, 0, 0, 0, 0, half), matrix(0, one, 0, 0, 0, one, one, 0, 0), matrix(1, 2, 3, 4, 5, 6, 7, 8, 9), matrix(1, 2, 3, 4, 5, 6, 7, 8, 10),
		matrix(27030, 23436, 11827, 13938, 46869, 4729, 1267, 7811, 62293), matrix(2*one, -half, -half, -half, 2*one, -half, -half, -half, 2*one),
		times(steep(), maxCell), times(steep(), -maxCell), times(steep(), 65537), times(steep(), -1),
		matrix(maxCell, 0, -maxCell, 0, maxCell, maxCell, -maxCell, maxCell, 0), matrix(16384, 1, 0, -1, 16384, 0, 1, 0, 16385),
	}
	list = append(list, halvesAtTheBound()...)
	for _, det := range []int64{1, 2, 32767, 32768, 32769, 65535, 65536, 65537, 98303, 98304, 98305, maxCell} {
		list = append(list, diagonal(1, 1, det), diagonal(-1, det, 1), diagonal(det, -1, -1))
	}
	return list
}

func matrices() []impl.Matrix {
	list := knownMatrices()
	for i, most := range []int64{1, 5, 300, half, 3 * half, maxCell} {
		list = append(list, spreadMatrices(30, 30*i, most)...)
	}
	return list
}

func colours() [][]int64 {
	list := [][]int64{{0, 0, 0}, {top, top, top}, {1, 0, 0}, {0, 1, 0}, {0, 0, 1}, {10, 20, 31}, {top, 0, 1}, {0, top, top - 1}, {1, 2, top}, {32767, 32768, 32769}}
	for v := spread(60, 0, top); len(v) >= 3; v = v[3:] {
		list = append(list, []int64{v[0], v[1], v[2]})
	}
	return list
}

type matrixCase struct {
	what string
	m    impl.Matrix
	code int64
}

// faultyRows have another number of rows, or of numbers in one of them.
func faultyRows() []matrixCase {
	good := []int64{one, 0, -one}
	list := []matrixCase{
		{"no rows", impl.Matrix{}, impl.ErrMany},
		{"an empty list", impl.Matrix{Rows: [][]int64{}}, impl.ErrMany},
		{"one row", impl.Matrix{Rows: [][]int64{good}}, impl.ErrMany},
		{"two rows", impl.Matrix{Rows: [][]int64{good, good}}, impl.ErrMany},
		{"four rows", impl.Matrix{Rows: [][]int64{good, good, good, good}}, impl.ErrMany},
		{"nine numbers in one row", impl.Matrix{Rows: [][]int64{{1, 2, 3, 4, 5, 6, 7, 8, 9}}}, impl.ErrMany},
		{"nine rows of one number", impl.Matrix{Rows: slices.Repeat([][]int64{{1}}, 9)}, impl.ErrMany},
		{"very many rows", impl.Matrix{Rows: slices.Repeat([][]int64{good}, 70000)}, impl.ErrMany},
		{"three rows of nothing", impl.Matrix{Rows: [][]int64{nil, nil, nil}}, impl.ErrMany},
		{"three empty rows", impl.Matrix{Rows: [][]int64{{}, {}, {}}}, impl.ErrMany},
	}
	for i := range 3 {
		for _, r := range [][]int64{nil, {}, {1}, {1, 2}, {1, 2, 3, 4}, slices.Repeat(good, 2), slices.Repeat(good, 3000)} {
			m := diagonal(one, one, one)
			m.Rows[i] = r
			list = append(list, matrixCase{"a row of another length", m, impl.ErrMany})
		}
	}
	return list
}

// faultyNumbers have a number just outside of the bounds, or far outside, at every place.
func faultyNumbers() []matrixCase {
	var list []matrixCase
	for _, bad := range []int64{maxCell + 1, -maxCell - 1, impl.MaxFix, -impl.MaxFix, 1 << 32, 1<<32 + 5, -1 << 32, math.MaxInt64, math.MinInt64, math.MinInt64 + 1} {
		for i := range 3 {
			for k := range 3 {
				list = append(list, matrixCase{"a number outside", with(diagonal(one, one, one), i, k, bad), impl.ErrRange})
			}
		}
		list = append(list, matrixCase{"all numbers outside", likeMatrix(bad), impl.ErrRange})
	}
	return list
}

// faultyOrder have two faults: how many rows comes first, and then each row is asked both codes ahead of the next one.
func faultyOrder() []matrixCase {
	const bad = maxCell + 1
	return []matrixCase{
		{"rows ahead of a number", impl.Matrix{Rows: [][]int64{{bad, 0, 0}, {0, 0, 0}}}, impl.ErrMany},
		{"rows ahead of a number", impl.Matrix{Rows: [][]int64{{bad, 0, 0}, {0, 0, 0}, {0, 0, 0}, {0, 0, 0}}}, impl.ErrMany},
		{"numbers of a row ahead of one of them", impl.Matrix{Rows: [][]int64{{bad, bad}, {0, 0, 0}, {0, 0, 0}}}, impl.ErrMany},
		{"numbers of a row ahead of one of them", impl.Matrix{Rows: [][]int64{{0, 0, 0}, {0, 0, 0}, {bad, 0, 0, 0}}}, impl.ErrMany},
		{"a row that is short ahead of a number behind it", impl.Matrix{Rows: [][]int64{{0, 0}, {bad, 0, 0}, {0, 0, 0}}}, impl.ErrMany},
		{"a row that is long ahead of a number behind it", impl.Matrix{Rows: [][]int64{{0, 0, 0}, {0, 0, 0, 0}, {bad, 0, 0}}}, impl.ErrMany},
		{"a number ahead of a row behind it that is short", impl.Matrix{Rows: [][]int64{{0, 0, bad}, {0, 0}, {0, 0, 0}}}, impl.ErrRange},
		{"a number ahead of a row behind it that is long", impl.Matrix{Rows: [][]int64{{0, 0, 0}, {0, -bad, 0}, {0, 0, 0, 0}}}, impl.ErrRange},
		{"a number ahead of rows behind it that are empty", impl.Matrix{Rows: [][]int64{{bad, 0, 0}, nil, nil}}, impl.ErrRange},
	}
}

func faultyMatrices() []matrixCase {
	return slices.Concat(faultyRows(), faultyNumbers(), faultyOrder())
}

// isMatrix compares the lists themselves, as SameMatrices is what is tested, too.
func isMatrix(t *testing.T, what string, got impl.MatrixResult, want impl.Matrix) {
	t.Helper()
	if got.Code != impl.OK || !reflect.DeepEqual(got.Matrix, want) {
		t.Errorf("%s = %+v, want %v", what, got, want)
	}
}

func isNoMatrix(t *testing.T, what string, got impl.MatrixResult, code int64) {
	t.Helper()
	if got.Code != code || len(got.Matrix.Rows) != 0 {
		t.Errorf("%s = %+v, want the code %d alone", what, got, code)
	}
}

func isMatrixResult(t *testing.T, what string, got impl.MatrixResult, want impl.MatrixResult) {
	t.Helper()
	if want.Code != impl.OK {
		isNoMatrix(t, what, got, want.Code)
		return
	}
	isMatrix(t, what, got, want.Matrix)
}

func isList(t *testing.T, what string, got impl.IntsResult, want ...int64) {
	t.Helper()
	if got.Code != impl.OK || !slices.Equal(got.List, want) {
		t.Errorf("%s = %+v, want %v", what, got, want)
	}
}

func isNoList(t *testing.T, what string, got impl.IntsResult, code int64) {
	t.Helper()
	if got.Code != code || len(got.List) != 0 {
		t.Errorf("%s = %+v, want the code %d alone", what, got, code)
	}
}

// product is exact.
func product(list ...int64) *big.Int {
	p := big.NewInt(1)
	for _, v := range list {
		p.Mul(p, big.NewInt(v))
	}
	return p
}

// sumOf is exact: the sum of each number of a times that of b, divided by FixOne and rounded.
func sumOf(a []int64, b []int64) *big.Int {
	sum := new(big.Int)
	for i := range a {
		sum.Add(sum, product(a[i], b[i]))
	}
	return roundHalfUp(sum, big.NewInt(one))
}

func wantApply(m impl.Matrix, v []int64) []int64 {
	var list []int64
	for _, r := range m.Rows {
		list = append(list, max(0, min(top, sumOf(r, v).Int64())))
	}
	return list
}

// wantCells answers ErrLarge where one of the numbers is out of bounds.
func wantCells(number func(i int, k int) *big.Int) impl.MatrixResult {
	m := diagonal(0, 0, 0)
	for i := range 3 {
		for k := range 3 {
			v := number(i, k)
			if v.CmpAbs(big.NewInt(maxCell)) > 0 {
				return impl.MatrixResult{Code: impl.ErrLarge}
			}
			m.Rows[i][k] = v.Int64()
		}
	}
	return impl.MatrixResult{Matrix: m}
}

func wantMul(a impl.Matrix, b impl.Matrix) impl.MatrixResult {
	return wantCells(func(i int, k int) *big.Int {
		return sumOf(a.Rows[i], []int64{b.Rows[0][k], b.Rows[1][k], b.Rows[2][k]})
	})
}

func wantDet(m impl.Matrix) *big.Int {
	r := m.Rows
	sum := new(big.Int)
	for _, p := range []*big.Int{product(r[0][0], r[1][1], r[2][2]), product(r[0][1], r[1][2], r[2][0]), product(r[0][2], r[1][0], r[2][1])} {
		sum.Add(sum, p)
	}
	for _, p := range []*big.Int{product(r[0][2], r[1][1], r[2][0]), product(r[0][1], r[1][0], r[2][2]), product(r[0][0], r[1][2], r[2][1])} {
		sum.Sub(sum, p)
	}
	return sum
}

// fourLeft are the numbers that are left without a row and a place, in their order.
func fourLeft(m impl.Matrix, row int, place int) []int64 {
	var four []int64
	for i, r := range m.Rows {
		for k, v := range r {
			if i != row && k != place {
				four = append(four, v)
			}
		}
	}
	return four
}

func wantInvert(m impl.Matrix) impl.MatrixResult {
	small := roundHalfUp(wantDet(m), big.NewInt(one))
	if small.Sign() == 0 {
		return impl.MatrixResult{Code: impl.ErrFlat}
	}
	return wantCells(func(i int, k int) *big.Int {
		four := fourLeft(m, k, i)
		num := new(big.Int).Sub(product(four[0], four[3]), product(four[1], four[2]))
		if (i+k)%2 == 1 {
			num.Neg(num)
		}
		if small.Sign() < 0 {
			num.Neg(num)
		}
		return roundHalfUp(num.Mul(num, big.NewInt(one)), new(big.Int).Abs(small))
	})
}

func TestMatrixFaultOfMatrices(t *testing.T) {
	for _, m := range matrices() {
		if code := impl.MatrixFault(m); code != impl.OK {
			t.Errorf("MatrixFault(%v) = %d", m, code)
		}
	}
	for i := range 3 {
		for k := range 3 {
			for _, v := range []int64{maxCell, maxCell - 1, -maxCell, 1 - maxCell, 0, 1, -1} {
				if code := impl.MatrixFault(with(diagonal(one, one, one), i, k, v)); code != impl.OK {
					t.Errorf("MatrixFault with %d at %d, %d = %d", v, i, k, code)
				}
			}
		}
	}
}

func TestMatrixFault(t *testing.T) {
	for _, c := range faultyMatrices() {
		if code := impl.MatrixFault(c.m); code != c.code {
			t.Errorf("%s: MatrixFault = %d, want %d", c.what, code, c.code)
		}
	}
}

// Rule 6: the fault of a matrix comes ahead of all other codes, and nothing is told beside it.
func TestMatrixFaultIsAskedFirst(t *testing.T) {
	unit := impl.UnitMatrix().Matrix
	for _, c := range faultyMatrices() {
		for _, v := range [][]int64{{1, 2, 3}, {1, 2}, {1, 2, -1}, nil} {
			isNoList(t, "ApplyMatrix, "+c.what, impl.ApplyMatrix(c.m, v), c.code)
		}
		for _, m := range []impl.Matrix{unit, likeMatrix(maxCell), diagonal(0, 0, 0)} {
			isNoMatrix(t, "MulMatrix on the left, "+c.what, impl.MulMatrix(c.m, m), c.code)
			isNoMatrix(t, "MulMatrix on the right, "+c.what, impl.MulMatrix(m, c.m), c.code)
		}
		isNoMatrix(t, "MulMatrix on both sides, "+c.what, impl.MulMatrix(c.m, c.m), c.code)
		isInt(t, "DetOf, "+c.what, impl.DetOf(c.m), c.code, 0)
		isNoMatrix(t, "InvertMatrix, "+c.what, impl.InvertMatrix(c.m), c.code)
		for _, i := range []int64{0, 1, 2, -1, 3, math.MinInt64, math.MaxInt64} {
			isInt(t, "SumOfRow, "+c.what, impl.SumOfRow(c.m, i), c.code, 0)
		}
	}
}

// Rule 6: the fault of a comes ahead of that of b, whichever they are.
func TestMulMatrixAsksTheLeftOneFirst(t *testing.T) {
	for _, a := range faultyMatrices() {
		for _, b := range faultyOrder() {
			isNoMatrix(t, a.what+", then "+b.what, impl.MulMatrix(a.m, b.m), a.code)
			isNoMatrix(t, b.what+", then "+a.what, impl.MulMatrix(b.m, a.m), b.code)
		}
	}
}

func TestUnitMatrix(t *testing.T) {
	isMatrix(t, "UnitMatrix", impl.UnitMatrix(), matrix(65536, 0, 0, 0, 65536, 0, 0, 0, 65536))
	unit := impl.UnitMatrix().Matrix
	if code := impl.MatrixFault(unit); code != impl.OK {
		t.Errorf("the unit matrix has the fault %d", code)
	}
	isInt(t, "DetOf the unit matrix", impl.DetOf(unit), impl.OK, 1<<48)
	for i := range int64(3) {
		isInt(t, "SumOfRow of the unit matrix", impl.SumOfRow(unit, i), impl.OK, one)
	}
}

// Promise 5: by the unit matrix all is as it was: every level at every place, and every matrix on both sides.
func TestByTheUnitMatrixAllIsAsItWas(t *testing.T) {
	unit := impl.UnitMatrix().Matrix
	for v := range int64(top + 1) {
		colour := []int64{v, top - v, (v + 21845) % (top + 1)}
		isList(t, "ApplyMatrix of the unit matrix", impl.ApplyMatrix(unit, colour), colour...)
		if t.Failed() {
			return
		}
	}
	for _, v := range colours() {
		isList(t, "ApplyMatrix of the unit matrix", impl.ApplyMatrix(unit, v), v...)
	}
	for _, m := range matrices() {
		isMatrix(t, "MulMatrix by the unit matrix", impl.MulMatrix(m, unit), m)
		isMatrix(t, "MulMatrix of the unit matrix", impl.MulMatrix(unit, m), m)
	}
}

// Promise 5: the unit matrix is its own inverse.
func TestUnitMatrixIsItsOwnInverse(t *testing.T) {
	unit := impl.UnitMatrix().Matrix
	isMatrix(t, "InvertMatrix of the unit matrix", impl.InvertMatrix(unit), diagonal(one, one, one))
	if !impl.SameMatrices(impl.InvertMatrix(unit).Matrix, unit) {
		t.Error("the unit matrix is not its own inverse")
	}
}

// Promise 5: rows that change their places change the places of what comes out, and the sign of the determinant.
func TestRowsThatChangeTheirPlaces(t *testing.T) {
	for _, m := range matrices() {
		det := impl.DetOf(m).Value
		for _, o := range orders() {
			moved := rowsOrdered(m, o)
			want := det
			if o.odd {
				want = -det
			}
			isInt(t, "DetOf of other rows", impl.DetOf(moved), impl.OK, want)
			isInt(t, "DetOf of other places", impl.DetOf(placesOrdered(m, o)), impl.OK, want)
			for _, v := range colours() {
				isList(t, "ApplyMatrix of other rows", impl.ApplyMatrix(moved, v), ordered(impl.ApplyMatrix(m, v).List, o)...)
				isList(t, "ApplyMatrix of other places", impl.ApplyMatrix(placesOrdered(m, o), ordered(v, o)), impl.ApplyMatrix(m, v).List...)
			}
			for i := range int64(3) {
				isInt(t, "SumOfRow of other rows", impl.SumOfRow(moved, i), impl.OK, impl.SumOfRow(m, int64(o.from[i])).Value)
			}
		}
	}
}

func TestApplyMatrixCases(t *testing.T) {
	cases := []struct {
		m       impl.Matrix
		v, want []int64
	}{
		{matrix(0, one, 0, one, 0, 0, 0, 0, half), []int64{10, 20, 31}, []int64{20, 10, 16}},
		{matrix(1, 2, 3, 4, 5, 6, 7, 8, 9), []int64{one / 2, one / 4, one / 8}, []int64{1, 4, 7}},
		{matrix(one, 2*one, 3*one, -one, 4*one, one, one, one, -2*one), []int64{100, 20, 3}, []int64{149, 0, 114}},
		// Below 0, by much and by little, and above MaxLevel.
		{diagonal(-one, -1, -maxCell), []int64{top, top, top}, []int64{0, 0, 0}},
		{diagonal(-one, -one, -one), []int64{1, 0, 2}, []int64{0, 0, 0}},
		{diagonal(maxCell, 2*one, one+1), []int64{top, top, top}, []int64{top, top, top}},
		{diagonal(maxCell, maxCell, maxCell), []int64{16383, 16384, 16385}, []int64{65532, top, top}},
		{likeMatrix(maxCell), []int64{top, top, top}, []int64{top, top, top}},
		{likeMatrix(-maxCell), []int64{top, top, top}, []int64{0, 0, 0}},
		// What is left of two that are out of bounds is within.
		{matrix(maxCell, -maxCell, 0, -maxCell, maxCell, one, maxCell, maxCell, -maxCell), []int64{top, top - 1, 5}, []int64{4, 1, top}},
		// A half goes up on both sides of 0, a bit less than that does not.
		{diagonal(half, half, half), []int64{1, 3, top}, []int64{1, 2, 32768}},
		{diagonal(half-1, half-1, half+1), []int64{1, 3, 1}, []int64{0, 1, 1}},
		{diagonal(-half, -half, -half-1), []int64{1, 3, 1}, []int64{0, 0, 0}},
		{matrix(one, -half, 0, one, -half-1, 0, one, -half+1, 0), []int64{7, 1, 0}, []int64{7, 6, 7}},
		{matrix(one, half, 0, one, half-1, 0, 0, -half, one), []int64{top - 1, 1, 1}, []int64{top, top - 1, 1}},
		{matrix(one, half, 0, one, half-1, 0, one, one, 0), []int64{top, 1, 1}, []int64{top, top, top}},
		// Three that are rounded once: each by itself would be 1 or 0.
		{matrix(half, half, half, half-1, half-1, half-1, -half, -half, one), []int64{1, 1, 1}, []int64{2, 1, 0}},
	}
	for _, c := range cases {
		isList(t, "ApplyMatrix", impl.ApplyMatrix(c.m, c.v), c.want...)
	}
}

func TestApplyMatrixIsExact(t *testing.T) {
	for _, m := range matrices() {
		for _, v := range colours() {
			isList(t, "ApplyMatrix", impl.ApplyMatrix(m, v), wantApply(m, v)...)
		}
	}
}

// Every number of a matrix is used where it stands, and no other one.
func TestApplyMatrixOfOneNumber(t *testing.T) {
	for i := range 3 {
		for k := range 3 {
			want := []int64{0, 0, 0}
			want[i] = []int64{50, 600, 7000}[k]
			isList(t, "ApplyMatrix of one number", impl.ApplyMatrix(with(diagonal(0, 0, 0), i, k, one), []int64{50, 600, 7000}), want...)
		}
	}
}

func TestApplyMatrixOfNoColour(t *testing.T) {
	for _, m := range []impl.Matrix{impl.UnitMatrix().Matrix, likeMatrix(maxCell), diagonal(0, 0, 0)} {
		for _, v := range [][]int64{nil, {}, {1}, {1, 2}, {1, 2, 3, 4}, slices.Repeat([]int64{5}, 9), slices.Repeat([]int64{5}, 70000)} {
			isNoList(t, "ApplyMatrix of another length", impl.ApplyMatrix(m, v), impl.ErrMany)
		}
		for _, bad := range edges() {
			if within(bad, 0, top) {
				continue
			}
			for i := range 3 {
				v := []int64{0, 32768, top}
				v[i] = bad
				isNoList(t, "ApplyMatrix of no level", impl.ApplyMatrix(m, v), impl.ErrRange)
			}
			for _, v := range [][]int64{{bad}, {bad, bad}, {0, bad, 0, 0}} {
				isNoList(t, "how many ahead of no level", impl.ApplyMatrix(m, v), impl.ErrMany)
			}
		}
	}
}

func TestMulMatrixCases(t *testing.T) {
	swap := matrix(0, one, 0, one, 0, 0, 0, 0, half)
	isMatrix(t, "MulMatrix", impl.MulMatrix(swap, swap), diagonal(one, one, 16384))
	a, b := matrix(1, 2, 3, 4, 5, 6, 7, 8, 9), matrix(9, 8, 7, 6, 5, 4, 3, 2, 1)
	isMatrix(t, "MulMatrix", impl.MulMatrix(a, times(b, one/4)), matrix(8, 6, 5, 21, 17, 14, 35, 29, 23))
	isMatrix(t, "MulMatrix turned", impl.MulMatrix(times(b, one/4), a), matrix(23, 29, 35, 14, 17, 21, 5, 6, 8))
	// A half goes up on both sides of 0, and the sum is rounded once.
	isMatrix(t, "halves", impl.MulMatrix(diagonal(1, 1, 1), matrix(half, half-1, half+1, -half, -half-1, 1-half, 3*half, -3*half, -3*half-1)), matrix(1, 0, 1, 0, -1, 0, 2, -1, -2))
	isMatrix(t, "three halves", impl.MulMatrix(likeMatrix(1), diagonal(half, -half, 0)), matrix(1, 0, 0, 1, 0, 0, 1, 0, 0))
	isMatrix(t, "three halves together", impl.MulMatrix(likeMatrix(half), likeMatrix(1)), likeMatrix(2))
	isMatrix(t, "three halves together below 0", impl.MulMatrix(likeMatrix(half), likeMatrix(-1)), likeMatrix(-1))
}

func TestMulMatrixIsExact(t *testing.T) {
	list := matrices()
	codes := map[int64]int{}
	for i, a := range list {
		for j := i % 5; j < len(list); j += 5 {
			want := wantMul(a, list[j])
			codes[want.Code]++
			isMatrixResult(t, "MulMatrix", impl.MulMatrix(a, list[j]), want)
		}
	}
	if codes[impl.OK] < 500 || codes[impl.ErrLarge] < 500 {
		t.Errorf("the cases are lopsided: %v", codes)
	}
}

// A product that is just inside, or just outside, at every row and place, on both sides of 0.
func TestMulMatrixBounds(t *testing.T) {
	cases := []struct {
		first, second, rest, code, want int64
	}{
		{maxCell, 0, 0, 0, maxCell}, {-maxCell, 0, 0, 0, -maxCell},
		{maxCell, 1, half - 1, 0, maxCell}, {maxCell, 1, half, impl.ErrLarge, 0}, {maxCell, 1, one, impl.ErrLarge, 0},
		{-maxCell, -1, half, 0, -maxCell}, {-maxCell, -1, half + 1, impl.ErrLarge, 0}, {-maxCell, -1, one, impl.ErrLarge, 0},
		{maxCell, -1, one, 0, maxCell - 1}, {-maxCell, 1, one, 0, 1 - maxCell},
		{maxCell, maxCell, maxCell, impl.ErrLarge, 0}, {-maxCell, -maxCell, maxCell, impl.ErrLarge, 0},
		{maxCell, -maxCell, one, 0, 0}, {maxCell, -maxCell, 2 * one, 0, -maxCell}, {maxCell, -maxCell, 2*one + 1, impl.ErrLarge, 0},
	}
	for _, c := range cases {
		for i := range 3 {
			for k := range 3 {
				a, b := diagonal(0, 0, 0), diagonal(0, 0, 0)
				a.Rows[i][i], a.Rows[i][(i+1)%3] = c.first, c.second
				b.Rows[i][k], b.Rows[(i+1)%3][k] = one, c.rest
				want := impl.MatrixResult{Code: c.code}
				if c.code == impl.OK {
					want.Matrix = with(diagonal(0, 0, 0), i, k, c.want)
				}
				isMatrixResult(t, "MulMatrix at the bounds", impl.MulMatrix(a, b), want)
			}
		}
	}
	isNoMatrix(t, "the greatest product", impl.MulMatrix(likeMatrix(maxCell), likeMatrix(maxCell)), impl.ErrLarge)
	isNoMatrix(t, "the least product", impl.MulMatrix(likeMatrix(-maxCell), likeMatrix(maxCell)), impl.ErrLarge)
}

func TestDetOfCases(t *testing.T) {
	cases := []struct {
		m    impl.Matrix
		want int64
	}{
		{matrix(0, one, 0, one, 0, 0, 0, 0, half), -140737488355328},
		{diagonal(2, 3, 5), 30}, {diagonal(-2, 3, 5), -30}, {diagonal(0, 3, 5), 0}, {diagonal(1, 1, 1), 1},
		{matrix(0, 2, 0, 0, 0, 3, 5, 0, 0), 30}, {matrix(0, 0, 2, 3, 0, 0, 0, 5, 0), 30},
		{matrix(0, 0, 2, 0, 3, 0, 5, 0, 0), -30}, {matrix(0, 2, 0, 3, 0, 0, 0, 0, 5), -30}, {matrix(2, 0, 0, 0, 0, 3, 0, 5, 0), -30},
		{matrix(1, 2, 3, 4, 5, 6, 7, 8, 9), 0}, {matrix(1, 2, 3, 4, 5, 6, 7, 8, 10), -3}, {matrix(2, 7, 1, 8, 2, 8, 1, 8, 2), -114},
		{likeMatrix(maxCell), 0}, {likeMatrix(-maxCell), 0}, {diagonal(0, 0, 0), 0},
		// The greatest determinants that there are, and the greatest of one product.
		{times(steep(), maxCell), 1 << 56}, {times(steep(), -maxCell), -1 << 56},
		{diagonal(maxCell, maxCell, maxCell), 1 << 54}, {diagonal(-maxCell, -maxCell, -maxCell), -1 << 54},
		{matrix(maxCell, maxCell, 0, 0, maxCell, maxCell, maxCell, 0, maxCell), 1 << 55},
		{matrix(0, maxCell, maxCell, maxCell, maxCell, 0, maxCell, 0, maxCell), -1 << 55},
	}
	for _, c := range cases {
		isInt(t, "DetOf", impl.DetOf(c.m), impl.OK, c.want)
	}
}

func TestDetOfIsExact(t *testing.T) {
	for _, m := range matrices() {
		isInt(t, "DetOf", impl.DetOf(m), impl.OK, wantDet(m).Int64())
	}
	// All matrices of the greatest numbers, on both sides of 0, and of 0.
	for code := range 19683 {
		m := diagonal(0, 0, 0)
		for i, rest := 0, code; i < 9; i, rest = i+1, rest/3 {
			m.Rows[i/3][i%3] = int64(rest%3-1) * maxCell
		}
		isInt(t, "DetOf of the greatest numbers", impl.DetOf(m), impl.OK, wantDet(m).Int64())
	}
}

func TestInvertMatrixCases(t *testing.T) {
	cases := []struct {
		what    string
		m, want impl.Matrix
	}{
		{"swapped", matrix(0, one, 0, one, 0, 0, 0, 0, half), matrix(0, one, 0, one, 0, 0, 0, 0, 2*one)},
		{"taken round", matrix(0, one, 0, 0, 0, 2*one, 4*one, 0, 0), matrix(0, 0, 16384, one, 0, 0, 0, half, 0)},
		{"whole numbers", times(matrix(2, -1, 3, 0, 4, 1, -3, 2, 1), one), matrix(3048, 10669, -19813, -4572, 16765, -3048, 18289, -1524, 12193)},
		{"that, with two rows changed", times(matrix(0, 4, 1, 2, -1, 3, -3, 2, 1), one), matrix(10669, 3048, -19813, 16765, -4572, -3048, -1524, 18289, 12193)},
		{"below 0", diagonal(-one, 2*one, half), diagonal(-one, half, 2*one)},
		{"all below 0", diagonal(-one, -2*one, -half), diagonal(-one, -half, -2*one)},
		{"the least that is not too large", diagonal(16384, 16384, 16384), diagonal(maxCell, maxCell, maxCell)},
		{"that, below 0", diagonal(-16384, -16384, -16384), diagonal(-maxCell, -maxCell, -maxCell)},
		{"the greatest there are", diagonal(maxCell, maxCell, maxCell), diagonal(16384, 16384, 16384)},
		{"the greatest determinant", times(steep(), maxCell), matrix(0, 8192, 8192, 8192, -8192, 0, 8192, 0, -8192)},
		{"that, below 0", times(steep(), -maxCell), matrix(0, -8192, -8192, -8192, 8192, 0, -8192, 0, 8192)},
		{"the least determinant", matrix(0, 8192, 8192, 8192, -8192, 0, 8192, 0, -8192), times(steep(), maxCell)},
		{"that, below 0", matrix(0, -8192, -8192, -8192, 8192, 0, -8192, 0, 8192), times(steep(), -maxCell)},
	}
	for _, c := range cases {
		isMatrix(t, "InvertMatrix, "+c.what, impl.InvertMatrix(c.m), c.want)
	}
}

// A half goes up on both sides of 0, whether the small determinant is below 0 or not.
func TestInvertMatrixRoundsHalvesUp(t *testing.T) {
	for _, last := range []int64{one, -one} {
		for odd := int64(-9); odd <= 9; odd += 2 {
			m := matrix(2*one, -odd, 0, 0, one, 0, 0, 0, last)
			isMatrix(t, "InvertMatrix of halves", impl.InvertMatrix(m), matrix(half, (odd+1)>>1, 0, 0, one, 0, 0, 0, last))
		}
	}
}

// What is left without a row and a place has its sign turned, where row and place together are odd: at each row and place.
func TestInvertMatrixTurnsSigns(t *testing.T) {
	for i := range 3 {
		for k := range 3 {
			// The unit matrix, and one number more: the inverse has that one the other way round, where it is not on the diagonal.
			m, want := diagonal(one, one, one), diagonal(one, one, one)
			m.Rows[i][k] += 2 * one
			want.Rows[i][k] = -2 * one
			if i == k {
				want.Rows[i][k] = 21845
			}
			isMatrix(t, "InvertMatrix with one number more", impl.InvertMatrix(m), want)
			// A sign that is turned at one number alone tells which four numbers are left without it.
			full := matrix(3*one, one, -one, -one, 3*one, one, one, -one, 3*one)
			full.Rows[i][k] = -full.Rows[i][k]
			isMatrixResult(t, "InvertMatrix with one sign turned", impl.InvertMatrix(full), wantInvert(full))
		}
	}
	// A matrix of one number in each row and place has an inverse of the same kind: row i and place k of it are of row k and place i.
	for _, o := range orders() {
		for _, sign := range []int64{1, -1} {
			m, want := diagonal(0, 0, 0), diagonal(0, 0, 0)
			for i, k := range o.from {
				m.Rows[i][k] = sign * (half << i)
				want.Rows[k][i] = sign * (2 * one >> i)
			}
			isMatrix(t, "InvertMatrix of one number in each row", impl.InvertMatrix(m), want)
		}
	}
}

func TestInvertMatrixIsExact(t *testing.T) {
	codes := map[int64]int{}
	below := 0
	for i, most := range []int64{3, 90, 2000, 16384, half, one, 2 * one, maxCell} {
		for _, m := range append(spreadMatrices(200, 200*i, most), knownMatrices()...) {
			for _, o := range orders() {
				moved := rowsOrdered(m, o)
				want := wantInvert(moved)
				codes[want.Code]++
				if want.Code == impl.OK && wantDet(moved).Sign() < 0 {
					below++
				}
				isMatrixResult(t, "InvertMatrix", impl.InvertMatrix(moved), want)
			}
		}
	}
	if codes[impl.OK] < 1000 || codes[impl.ErrLarge] < 1000 || codes[impl.ErrFlat] < 1000 || below < 500 {
		t.Errorf("the cases are lopsided: %v, %d below 0", codes, below)
	}
}

// A small determinant of 0 is flat, also where the determinant itself is not 0; one of 1 or -1 is not, but no inverse of it fits.
func TestInvertMatrixOfSmallDeterminants(t *testing.T) {
	cases := []struct {
		det, code int64
	}{
		{0, impl.ErrFlat}, {1, impl.ErrFlat}, {-1, impl.ErrFlat}, {1000, impl.ErrFlat}, {-1000, impl.ErrFlat},
		{half - 1, impl.ErrFlat}, {half, impl.ErrLarge}, {half + 1, impl.ErrLarge},
		{1 - half, impl.ErrFlat}, {-half, impl.ErrFlat}, {-half - 1, impl.ErrLarge},
		{one, impl.ErrLarge}, {-one, impl.ErrLarge}, {3*half - 1, impl.ErrLarge}, {3 * half, impl.ErrLarge}, {-3 * half, impl.ErrLarge}, {-3*half - 1, impl.ErrLarge},
		{maxCell, impl.ErrLarge}, {-maxCell, impl.ErrLarge},
	}
	for _, c := range cases {
		for i := range 3 {
			for _, o := range orders() {
				// The sign of the determinant stays as it is: where rows change it, a number changes it back.
				m := diagonal(1, 1, 1)
				m.Rows[i][i] = c.det
				if o.odd {
					m.Rows[(i+1)%3][(i+1)%3] = -1
				}
				m = rowsOrdered(m, o)
				isInt(t, "DetOf", impl.DetOf(m), impl.OK, c.det)
				isNoMatrix(t, "InvertMatrix of a small determinant", impl.InvertMatrix(m), c.code)
			}
		}
	}
	for _, m := range []impl.Matrix{diagonal(0, 0, 0), likeMatrix(1), likeMatrix(maxCell), likeMatrix(-maxCell), matrix(1, 2, 3, 4, 5, 6, 7, 8, 9), diagonal(maxCell, maxCell, 0)} {
		isInt(t, "DetOf", impl.DetOf(m), impl.OK, 0)
		isNoMatrix(t, "InvertMatrix of no determinant", impl.InvertMatrix(m), impl.ErrFlat)
	}
	// Flat comes ahead of too large: what is left of these is far from 0.
	isNoMatrix(t, "flat ahead of too large", impl.InvertMatrix(matrix(maxCell, maxCell-1, 0, maxCell, maxCell-1, 0, 0, 0, maxCell)), impl.ErrFlat)
	near := matrix(maxCell, maxCell-1, 0, maxCell-1, maxCell-2, 0, 0, 0, 32768)
	isInt(t, "DetOf", impl.DetOf(near), impl.OK, -32768)
	isNoMatrix(t, "nearly flat ahead of too large", impl.InvertMatrix(near), impl.ErrFlat)
	near.Rows[2][2] = 32769
	isNoMatrix(t, "too large", impl.InvertMatrix(near), impl.ErrLarge)
}

// Of the least determinant that has an inverse all numbers are at the bounds; beside it some are out of them.
func TestInvertMatrixBesideTheLeastDeterminant(t *testing.T) {
	m := matrix(0, 8192, 8192, 8192, -8192, 0, 8192, 0, -8192)
	isInt(t, "DetOf", impl.DetOf(m), impl.OK, 16777216*one)
	for i := range 3 {
		for k := range 3 {
			for _, d := range []int64{-3, -2, -1, 1, 2, 3} {
				other := with(m, i, k, m.Rows[i][k]+d)
				isMatrixResult(t, "InvertMatrix beside the least determinant", impl.InvertMatrix(other), wantInvert(other))
			}
		}
	}
}

// An inverse that is just inside, or just outside, at every row and place, on both sides of 0.
func TestInvertMatrixBounds(t *testing.T) {
	type boundCase struct {
		what       string
		m          impl.Matrix
		code, most int64
	}
	cases := []boundCase{
		{"262144", matrix(one, -maxCell, 0, 0, one, 0, 0, 0, one), 0, maxCell},
		{"-262144", matrix(one, maxCell, 0, 0, one, 0, 0, 0, one), 0, -maxCell},
		{"262144 and a bit", matrix(65535, -maxCell, 0, 0, one, 0, 0, 0, one), impl.ErrLarge, 0},
		{"-262144 and a bit", matrix(65535, maxCell, 0, 0, one, 0, 0, 0, one), impl.ErrLarge, 0},
	}
	for _, m := range halvesAtTheBound() {
		cases = append(cases, boundCase{"262144 and a half", m, impl.ErrLarge, 0}, boundCase{"-262144 and a half", with(m, 0, 1, -m.Rows[0][1]), 0, -maxCell})
	}
	for _, c := range cases {
		for _, rows := range orders() {
			for _, places := range orders() {
				m := placesOrdered(rowsOrdered(c.m, rows), places)
				got := impl.InvertMatrix(m)
				if c.code != impl.OK {
					isNoMatrix(t, c.what, got, c.code)
					continue
				}
				isMatrixResult(t, c.what, got, wantInvert(m))
				i, k := slices.Index(places.from[:], 0), slices.Index(rows.from[:], 1)
				if got.Code != impl.OK || got.Matrix.Rows[i][k] != c.most {
					t.Errorf("%s: InvertMatrix(%v) = %+v, not %d at %d, %d", c.what, m, got, c.most, i, k)
				}
			}
		}
	}
	for i := range 3 {
		m := diagonal(one, one, one)
		m.Rows[i][i] = 16384
		isMatrix(t, "on the diagonal, just inside", impl.InvertMatrix(m), with(diagonal(one, one, one), i, i, maxCell))
		m.Rows[i][i] = 16383
		isNoMatrix(t, "on the diagonal, just outside", impl.InvertMatrix(m), impl.ErrLarge)
		m.Rows[i][i] = -16383
		isNoMatrix(t, "on the diagonal, just outside below 0", impl.InvertMatrix(m), impl.ErrLarge)
	}
}

func TestSumOfRow(t *testing.T) {
	m := matrix(1, 20, 300, -4, 50, -600, -7, -80, -900)
	for i, want := range []int64{321, 654, 987} {
		isInt(t, "SumOfRow", impl.SumOfRow(m, int64(i)), impl.OK, want)
	}
	for i := range int64(3) {
		isInt(t, "SumOfRow of the greatest", impl.SumOfRow(likeMatrix(maxCell), i), impl.OK, 3*maxCell)
		isInt(t, "SumOfRow of the least", impl.SumOfRow(likeMatrix(-maxCell), i), impl.OK, 3*maxCell)
		isInt(t, "SumOfRow of nothing", impl.SumOfRow(diagonal(0, 0, 0), i), impl.OK, 0)
		isInt(t, "SumOfRow of both signs", impl.SumOfRow(matrix(5, -5, 0, -5, 0, 5, 0, 5, -5), i), impl.OK, 10)
	}
	for _, i := range append(edges(), 3, -2, -3, 1<<32, 1<<32+1, math.MinInt64+1) {
		if !within(i, 0, 2) {
			isInt(t, "SumOfRow of no row", impl.SumOfRow(m, i), impl.ErrRange, 0)
		}
	}
	for i := range 3 {
		for k := range 3 {
			for _, v := range []int64{77, -77} {
				isInt(t, "SumOfRow of one number", impl.SumOfRow(with(diagonal(0, 0, 0), i, k, v), int64(i)), impl.OK, 77)
				isInt(t, "SumOfRow of another row", impl.SumOfRow(with(diagonal(0, 0, 0), i, k, v), int64((i+1)%3)), impl.OK, 0)
			}
		}
	}
}

func matricesAndFaulty() []impl.Matrix {
	list := matrices()
	for _, f := range faultyMatrices() {
		list = append(list, f.m)
	}
	return list
}

func sameRows(a impl.Matrix, b impl.Matrix) bool {
	return slices.EqualFunc(a.Rows, b.Rows, slices.Equal[[]int64])
}

func TestSameMatrices(t *testing.T) {
	for _, m := range matricesAndFaulty() {
		if !impl.SameMatrices(m, m) || !impl.SameMatrices(m, cloneMatrix(m)) {
			t.Errorf("%v is not the same as itself", m)
		}
		for i := range min(len(m.Rows), 4) {
			for k := range min(len(m.Rows[i]), 4) {
				other := cloneMatrix(m)
				other.Rows[i][k] ^= 1
				if impl.SameMatrices(m, other) || impl.SameMatrices(other, m) {
					t.Errorf("%v is the same as %v", m, other)
				}
			}
		}
	}
	list := append(slices.Clone(knownMatrices()), diagonal(0, 0, 0))
	for _, f := range slices.Concat(faultyRows(), faultyOrder()) {
		list = append(list, f.m)
	}
	for _, a := range list {
		for _, b := range list {
			if impl.SameMatrices(a, b) != sameRows(a, b) {
				t.Errorf("SameMatrices(%v, %v) = %v", a, b, !sameRows(a, b))
			}
		}
	}
}

// Rule 2: an empty list and nil are the same value; but they are neither the same as zeros, nor is a list that goes on.
func TestSameMatricesOfEmptyLists(t *testing.T) {
	alikes := [][2]impl.Matrix{
		{{}, {Rows: [][]int64{}}},
		{{Rows: [][]int64{nil}}, {Rows: [][]int64{{}}}},
		{{Rows: [][]int64{nil, {}, {1}}}, {Rows: [][]int64{{}, nil, {1}}}},
	}
	for _, p := range alikes {
		if !impl.SameMatrices(p[0], p[1]) || !impl.SameMatrices(p[1], p[0]) {
			t.Errorf("%v and %v are not the same", p[0], p[1])
		}
	}
	zero := diagonal(0, 0, 0)
	others := []impl.Matrix{
		{}, {Rows: [][]int64{nil}}, {Rows: [][]int64{nil, nil, nil}}, {Rows: [][]int64{{0, 0, 0}, {0, 0, 0}}}, {Rows: [][]int64{{0, 0, 0}, {0, 0, 0}, {0, 0}}},
		{Rows: [][]int64{{0, 0, 0}, {0, 0, 0}, {0, 0, 0, 0}}}, {Rows: slices.Repeat([][]int64{{0, 0, 0}}, 4)}, likeMatrix(maxCell + 1), likeMatrix(-maxCell - 1),
	}
	for i, m := range others {
		for _, other := range append([]impl.Matrix{zero}, others[:i]...) {
			if impl.SameMatrices(m, other) || impl.SameMatrices(other, m) {
				t.Errorf("%v and %v are the same", m, other)
			}
		}
	}
}

// roomyLists answers lists in memory that has room behind them and behind their numbers, and whether all of that is still as it was.
func roomyLists(lists [][]int64) ([][]int64, func() bool) {
	own := make([][]int64, 0, len(lists)+2)
	for _, list := range lists {
		own = append(own, append(make([]int64, 0, len(list)+5), list...))
	}
	whole := func() [][]int64 {
		var all [][]int64
		for _, list := range own[:cap(own)] {
			all = append(all, slices.Clone(list[:cap(list)]))
		}
		return all
	}
	kept := whole()
	return own, func() bool { return reflect.DeepEqual(whole(), kept) }
}

func roomyMatrix(m impl.Matrix) (impl.Matrix, func() bool) {
	rows, unchanged := roomyLists(m.Rows)
	return impl.Matrix{Rows: rows}, unchanged
}

// Promise 1: no argument is changed, whether there is a code or not, nor what lies behind it in its memory.
func TestMatricesChangeNoArgument(t *testing.T) {
	colour := append(make([]int64, 0, 8), 5, 600, 70000, 9)
	kept := slices.Clone(colour[:cap(colour)])
	for _, m := range matricesAndFaulty() {
		own, unchanged := roomyMatrix(m)
		impl.MatrixFault(own)
		for n := range 5 {
			impl.ApplyMatrix(own, colour[:n])
		}
		colour[2], kept[2] = 7000, 7000
		impl.ApplyMatrix(own, colour[:3])
		colour[2], kept[2] = 70000, 70000
		impl.MulMatrix(own, own)
		impl.MulMatrix(own, diagonal(one, half, -one))
		impl.MulMatrix(diagonal(one, half, -one), own)
		impl.DetOf(own)
		impl.InvertMatrix(own)
		for i := range int64(5) {
			impl.SumOfRow(own, i-1)
		}
		impl.SameMatrices(own, m)
		impl.SameMatrices(m, own)
		if !unchanged() || !slices.Equal(colour[:cap(colour)], kept) {
			t.Fatalf("%v or a colour was changed", m)
		}
	}
}

// checkNewLists changes one list of an answer after the other: no other list of it may change by that, nor the answer that was asked again.
func checkNewLists(t *testing.T, what string, ask func() [][]int64) {
	t.Helper()
	first, second := ask(), ask()
	want := cloneLists(first)
	for i, list := range first {
		fillInts(list)
		for k, other := range first[i+1:] {
			if !slices.Equal(other, want[i+1+k]) {
				t.Fatalf("%s: list %d shares memory with list %d", what, i, i+1+k)
			}
		}
	}
	for i := range first[:cap(first)] {
		first[:cap(first)][i] = nil
	}
	if !reflect.DeepEqual(second, want) || !reflect.DeepEqual(ask(), want) {
		t.Fatalf("%s: shares memory with another answer, or with an argument", what)
	}
}

func checkNewRows(t *testing.T, what string, ask func() impl.MatrixResult) {
	t.Helper()
	checkNewLists(t, what, func() [][]int64 { return ask().Matrix.Rows })
}

// Promise 1: what is answered is new memory, each row for itself.
func TestMatricesAnswerNewMemory(t *testing.T) {
	checkNewRows(t, "UnitMatrix", impl.UnitMatrix)
	unit, unitUnchanged := roomyMatrix(diagonal(one, one, one))
	for _, m := range matrices() {
		own, unchanged := roomyMatrix(m)
		checkNewRows(t, "MulMatrix by the unit matrix", func() impl.MatrixResult { return impl.MulMatrix(own, unit) })
		checkNewRows(t, "MulMatrix of the unit matrix", func() impl.MatrixResult { return impl.MulMatrix(unit, own) })
		checkNewRows(t, "InvertMatrix", func() impl.MatrixResult { return impl.InvertMatrix(own) })
		colour := append(make([]int64, 0, 8), 5, 600, 7000)
		first, second := impl.ApplyMatrix(own, colour), impl.ApplyMatrix(own, colour)
		fillInts(first.List)
		isList(t, "ApplyMatrix again", second, wantApply(m, colour)...)
		if !unchanged() || !unitUnchanged() || !slices.Equal(colour[:cap(colour)], []int64{5, 600, 7000, 0, 0, 0, 0, 0}) {
			t.Fatalf("%v: an answer shares memory with an argument", m)
		}
	}
}

// Rows of an argument may share memory: what is told hangs on their numbers alone.
func TestMatricesOfRowsThatShareMemory(t *testing.T) {
	shared := []int64{half, 2, 3, 60000, 5}
	m := impl.Matrix{Rows: [][]int64{shared[:3], shared[1:4], shared[2:]}}
	apart := matrix(half, 2, 3, 2, 3, 60000, 3, 60000, 5)
	isMatrixResult(t, "InvertMatrix", impl.InvertMatrix(m), wantInvert(apart))
	isMatrixResult(t, "MulMatrix", impl.MulMatrix(m, m), wantMul(apart, apart))
	isInt(t, "DetOf", impl.DetOf(m), impl.OK, wantDet(apart).Int64())
	isList(t, "ApplyMatrix", impl.ApplyMatrix(m, shared[1:4]), wantApply(apart, []int64{2, 3, 60000})...)
	if !impl.SameMatrices(m, apart) || !slices.Equal(shared, []int64{half, 2, 3, 60000, 5}) {
		t.Errorf("%v is not the same as %v", m, apart)
	}
}

// Promise 1: the same arguments have the same answer, whatever was asked between.
func TestMatricesAnswerTheSameAgain(t *testing.T) {
	type answers struct {
		fault          int64
		applied        []impl.IntsResult
		by, of         impl.MatrixResult
		det            impl.IntResult
		inverse, unit  impl.MatrixResult
		sums           []impl.IntResult
		sameAsTheFirst bool
	}
	list := matricesAndFaulty()
	ask := func(m impl.Matrix) answers {
		a := answers{fault: impl.MatrixFault(m), by: impl.MulMatrix(m, list[9]), of: impl.MulMatrix(list[9], m), det: impl.DetOf(m), inverse: impl.InvertMatrix(m), unit: impl.UnitMatrix()}
		a.sameAsTheFirst = impl.SameMatrices(m, list[0])
		for _, v := range [][]int64{{1, 2, 3}, {top, 0, 30000}, {1, 2}, {1, -2, 3}} {
			a.applied = append(a.applied, impl.ApplyMatrix(m, v))
		}
		for i := range int64(5) {
			a.sums = append(a.sums, impl.SumOfRow(m, i-1))
		}
		return a
	}
	var first []answers
	for _, m := range list {
		first = append(first, ask(m))
	}
	for i, m := range slices.Backward(list) {
		own, _ := roomyMatrix(m)
		if second := ask(own); !reflect.DeepEqual(first[i], second) {
			t.Fatalf("%v: %+v, then %+v", m, first[i], second)
		}
	}
}
