package tests

import (
	"bytes"
	"math"
	"reflect"
	"slices"
	"testing"

	"loop.example/g00639/impl"
)

const top = impl.MaxLevel

func curve(points ...int64) impl.Curve {
	return impl.Curve{Points: points}
}

// likeCurve has n points that are all the same.
func likeCurve(n int, point int64) impl.Curve {
	return impl.Curve{Points: slices.Repeat([]int64{point}, n)}
}

// risingCurve has n points that do not fall; every seed has others.
func risingCurve(n int, seed int) impl.Curve {
	c := spreadCurve(n, seed)
	slices.Sort(c.Points)
	return c
}

func spreadCurve(n int, seed int) impl.Curve {
	return impl.Curve{Points: slices.Clone(spread(n+31*seed, 0, top)[31*seed:])}
}

func turned(c impl.Curve) impl.Curve {
	points := slices.Clone(c.Points)
	slices.Reverse(points)
	return impl.Curve{Points: points}
}

// risingCurves do not fall: few and the most points, steep and flat ones, points that are alike everywhere, ahead, in the middle and behind.
func risingCurves() []impl.Curve {
	list := []impl.Curve{
		curve(0, top), curve(0, 0), curve(top, top), curve(0, 1), curve(top-1, top), curve(0, 9), curve(7, 60000), curve(32767, 32768),
		curve(0, 100, top), curve(0, 0, top), curve(0, top, top), curve(5, 5, 5), curve(0, 32768, top), curve(0, 32767, top),
		curve(0, 0, 0, top), curve(0, 40000, 40000, top), curve(3, 40000, 40000, 40000), curve(0, 0, top, top),
		curve(0, 1, 1, 2, 2, 2), curve(0, 0, 0, 0, 0, 1), curve(0, 1, 2, 3, 4, 5, 6),
		curve(9, 9, 9, 700, 700, 700, 700, 800, 801, 801, 60000, 60000, 60000, 60000, 60001, 60002, 60002),
	}
	for n := 2; n <= impl.MaxPoints; n++ {
		list = append(list, impl.LineCurve(int64(n)).Curve, likeCurve(n, int64(1000*n)), risingCurve(n, n))
	}
	return list
}

// fallingCurves fall somewhere: everywhere, by one level, at the first line alone, at the last one alone.
func fallingCurves() []impl.Curve {
	list := []impl.Curve{
		curve(top, 0), curve(1, 0), curve(top, top-1), curve(5, 4), curve(9, 0), curve(0, top, 0), curve(top, 0, top), curve(1, 0, top),
		curve(0, 9, 8), curve(0, 5, 4, 9), curve(0, 0, 1, 0), curve(40000, 40000, 39999, 39999),
	}
	for n := 2; n <= impl.MaxPoints; n++ {
		first, last := impl.LineCurve(int64(n)).Curve, impl.LineCurve(int64(n)).Curve
		first.Points[0] = first.Points[1] + 1
		if first.Points[0] > top {
			first.Points[0], first.Points[1] = top, top-1
		}
		last.Points[n-1] = last.Points[n-2]
		last.Points[n-2]++
		list = append(list, first, last, turned(impl.LineCurve(int64(n)).Curve), turned(risingCurve(n, n)))
	}
	return list
}

func curves() []impl.Curve {
	list := append(risingCurves(), fallingCurves()...)
	for n := 2; n <= impl.MaxPoints; n++ {
		list = append(list, spreadCurve(n, 40+n))
	}
	return list
}

type curveCase struct {
	what string
	c    impl.Curve
	code int64
}

// faultyCurves have too few points or too many, or a point that is no level, at every place.
func faultyCurves() []curveCase {
	list := []curveCase{
		{"no points", impl.Curve{}, impl.ErrMany},
		{"an empty list", curve([]int64{}...), impl.ErrMany},
		{"one point", curve(5), impl.ErrMany},
		{"18 points", likeCurve(18, 5), impl.ErrMany},
		{"19 points that fall", turned(risingCurve(19, 1)), impl.ErrMany},
		{"258 points, 2 in a byte", likeCurve(258, 5), impl.ErrMany},
		{"very many points", likeCurve(70000, 0), impl.ErrMany},
		{"how many ahead of one point that is no level", curve(-1), impl.ErrMany},
		{"how many ahead of 18 points that are no levels", likeCurve(18, top+1), impl.ErrMany},
	}
	for _, bad := range []int64{-1, top + 1, -top, 1 << 32, 1<<32 + 5, math.MinInt64, math.MaxInt64} {
		for _, n := range []int{2, 3, 4, 16, 17} {
			for i := range n {
				c := impl.LineCurve(int64(n)).Curve
				c.Points[i] = bad
				list = append(list, curveCase{"a point that is no level", c, impl.ErrRange})
			}
			list = append(list, curveCase{"no point is a level", likeCurve(n, bad), impl.ErrRange})
		}
	}
	return list
}

func isInt(t *testing.T, what string, got impl.IntResult, code int64, value int64) {
	t.Helper()
	if want := (impl.IntResult{Code: code, Value: value}); got != want {
		t.Errorf("%s = %+v, want %+v", what, got, want)
	}
}

func isCurve(t *testing.T, what string, got impl.CurveResult, points ...int64) {
	t.Helper()
	if got.Code != impl.OK || !slices.Equal(got.Curve.Points, points) {
		t.Errorf("%s = %+v, want %v", what, got, points)
	}
}

func isNoCurve(t *testing.T, what string, got impl.CurveResult, code int64) {
	t.Helper()
	if got.Code != code || len(got.Curve.Points) != 0 {
		t.Errorf("%s = %+v, want code %d alone", what, got, code)
	}
}

// lineOf tells which line v is on: point i is at level i MaxLevel / (n - 1), which need be no whole number.
func lineOf(c impl.Curve, v int64) int {
	lines := len(c.Points) - 1
	for i := range lines {
		if v*int64(lines) <= int64(i+1)*top {
			return i
		}
	}
	return lines - 1
}

// wantEval goes from the point ahead on, by the part of the line that v has gone; a half goes up.
func wantEval(c impl.Curve, v int64) int64 {
	i := lineOf(c, v)
	from, to := c.Points[i], c.Points[i+1]
	gone := v*int64(len(c.Points)-1) - int64(i)*top
	return (2*(from*top+(to-from)*gone) + top) / (2 * top)
}

func TestCurveConstant(t *testing.T) {
	if impl.MaxPoints != 17 {
		t.Errorf("MaxPoints is %d", impl.MaxPoints)
	}
}

func TestCurveFault(t *testing.T) {
	for _, c := range curves() {
		if got := impl.CurveFault(c); got != impl.OK {
			t.Errorf("CurveFault(%v) = %d", c, got)
		}
	}
	for _, f := range faultyCurves() {
		if got := impl.CurveFault(f.c); got != f.code {
			t.Errorf("%s: CurveFault(%v) = %d, want %d", f.what, f.c.Points[:min(20, len(f.c.Points))], got, f.code)
		}
	}
}

// All that have a curve for an argument ask its fault ahead of all else, and answer nothing beside it.
func TestCurveFaultIsAskedFirst(t *testing.T) {
	for _, f := range faultyCurves() {
		for _, v := range []int64{0, 1, top, -1, top + 1, math.MinInt64, math.MaxInt64} {
			isInt(t, f.what+": EvalCurve", impl.EvalCurve(f.c, v), f.code, 0)
			isInt(t, f.what+": SolveCurve", impl.SolveCurve(f.c, v), f.code, 0)
		}
		isInt(t, f.what+": SlopeOf", impl.SlopeOf(f.c), f.code, 0)
		if impl.IsMonotone(f.c) {
			t.Errorf("%s: IsMonotone", f.what)
		}
		if got := impl.PackCurve(f.c); got.Code != f.code || len(got.Bytes) != 0 {
			t.Errorf("%s: PackCurve = %+v, want code %d alone", f.what, got, f.code)
		}
	}
}

func TestEvalCurveCases(t *testing.T) {
	cases := []struct {
		c       impl.Curve
		v, want int64
	}{
		{curve(0, 100, top), 32767, 100}, {curve(0, 100, top), 32768, 101}, {curve(0, 100, top), 0, 0}, {curve(0, 100, top), top, top},
		{curve(0, top), 12345, 12345}, {curve(top, 0), 12345, top - 12345},
		{curve(0, 1), 32767, 0}, {curve(0, 1), 32768, 1}, {curve(1, 0), 32767, 1}, {curve(1, 0), 32768, 0},
		{curve(0, 3), 10922, 0}, {curve(0, 3), 10923, 1}, {curve(3, 0), 10922, 3}, {curve(3, 0), 10923, 2},
		{curve(7, 500, 2, 9), 21845, 500}, {curve(7, 500, 2, 9), 43690, 2}, {curve(7, 500, 2, 9), 43691, 2}, {curve(7, 500, 2, 9), 21844, 500},
		{curve(0, 0, 0, top), 43690, 0}, {curve(0, 0, 0, top), 43691, 3}, {curve(0, 0, 0, top), top - 1, top - 3},
		{curve(8, 8), 0, 8}, {curve(8, 8), 1, 8}, {curve(8, 8), top, 8}, {curve(0, 9, 3), 1, 0}, {curve(0, 9, 3), top - 1, 3},
		{curve(2, 4, 6, 8, 10, 12), 26214, 6}, {curve(2, 4, 6, 8, 10, 12), 26215, 6}, {curve(2, 4, 6, 8, 10, 12), 32767, 7}, {curve(2, 4, 6, 8, 10, 12), 32768, 7},
	}
	for _, c := range cases {
		isInt(t, "EvalCurve", impl.EvalCurve(c.c, c.v), impl.OK, c.want)
	}
}

func TestEvalCurveOfNoLevel(t *testing.T) {
	for _, c := range curves() {
		for _, v := range edges() {
			if got := impl.EvalCurve(c, v); within(v, 0, top) != (got.Code == impl.OK) {
				t.Errorf("EvalCurve(%v, %d) = %+v", c, v, got)
			} else if !within(v, 0, top) {
				isInt(t, "EvalCurve of no level", got, impl.ErrRange, 0)
			}
		}
	}
}

// Promise 4: at its points a curve is these, the first one at the first level, the last one at the last.
func TestCurveIsItsPoints(t *testing.T) {
	for _, c := range curves() {
		lines := int64(len(c.Points) - 1)
		isInt(t, "EvalCurve of the first level", impl.EvalCurve(c, 0), impl.OK, c.Points[0])
		isInt(t, "EvalCurve of the last level", impl.EvalCurve(c, top), impl.OK, c.Points[lines])
		for i, point := range c.Points {
			// Not every point is at a whole number.
			if v := int64(i) * top; v%lines == 0 {
				isInt(t, "EvalCurve at a point", impl.EvalCurve(c, v/lines), impl.OK, point)
			}
		}
	}
}

// Promise 4: between two of its points a curve is between these; and it is just what the chapter says.
func TestCurveIsBetweenItsPoints(t *testing.T) {
	for _, c := range curves() {
		for v := range int64(top + 1) {
			got := impl.EvalCurve(c, v)
			i := lineOf(c, v)
			from, to := c.Points[i], c.Points[i+1]
			if got.Code != impl.OK || !within(got.Value, min(from, to), max(from, to)) {
				t.Fatalf("EvalCurve(%v, %d) = %+v, not between %d and %d", c, v, got, from, to)
			}
			if want := wantEval(c, v); got.Value != want {
				t.Fatalf("EvalCurve(%v, %d) = %d, want %d", c, v, got.Value, want)
			}
		}
	}
}

// Promise 4: of a curve that does not fall more is never less.
func TestMoreIsNeverLess(t *testing.T) {
	for _, c := range risingCurves() {
		last := int64(0)
		for v := range int64(top + 1) {
			got := impl.EvalCurve(c, v).Value
			if got < last {
				t.Fatalf("EvalCurve(%v, %d) = %d, less than %d", c, v, got, last)
			}
			last = got
		}
	}
}

func TestCurveOfLikePointsIsThatPoint(t *testing.T) {
	for n := 2; n <= impl.MaxPoints; n++ {
		for _, point := range []int64{0, 1, 32767, 32768, top - 1, top} {
			c := likeCurve(n, point)
			for _, v := range append(spread(100, 0, top), 0, 1, top-1, top) {
				isInt(t, "EvalCurve of like points", impl.EvalCurve(c, v), impl.OK, point)
			}
			isInt(t, "SlopeOf of like points", impl.SlopeOf(c), impl.OK, 0)
			isInt(t, "SolveCurve of like points", impl.SolveCurve(c, point), impl.OK, 0)
			isInt(t, "SolveCurve of the least", impl.SolveCurve(c, 0), impl.OK, 0)
			if point < top {
				isInt(t, "SolveCurve above like points", impl.SolveCurve(c, point+1), impl.ErrNone, 0)
			}
		}
	}
}

func TestIsMonotone(t *testing.T) {
	for _, c := range risingCurves() {
		if !impl.IsMonotone(c) {
			t.Errorf("%v does not fall", c)
		}
	}
	for _, c := range fallingCurves() {
		if impl.IsMonotone(c) {
			t.Errorf("%v falls", c)
		}
	}
	// A fault is asked, too, of points that do not fall.
	for _, c := range []impl.Curve{{}, curve(5), likeCurve(18, 5), curve(-1, 5), curve(5, top+1), curve(-2, -1), curve(math.MinInt64, math.MaxInt64)} {
		if impl.IsMonotone(c) {
			t.Errorf("%v has a fault", c)
		}
	}
}

// One point that falls is seen at every place.
func TestIsMonotoneAtEveryPlace(t *testing.T) {
	for n := 2; n <= impl.MaxPoints; n++ {
		for i := 1; i < n; i++ {
			c := likeCurve(n, 300)
			for j := i; j < n; j++ {
				c.Points[j]--
			}
			if impl.IsMonotone(c) {
				t.Errorf("%v falls", c)
			}
			isInt(t, "SolveCurve of a curve that falls", impl.SolveCurve(c, 0), impl.ErrState, 0)
		}
	}
}

func TestSolveCurveCases(t *testing.T) {
	cases := []struct {
		c             impl.Curve
		y, code, want int64
	}{
		{curve(0, 100, top), 101, 0, 32768}, {curve(0, 100, top), 100, 0, 32604}, {curve(0, 100, top), 0, 0, 0}, {curve(0, 100, top), top, 0, top},
		{curve(0, top), 12345, 0, 12345}, {curve(0, top), 0, 0, 0}, {curve(0, top), top, 0, top},
		{curve(0, 1), 0, 0, 0}, {curve(0, 1), 1, 0, 32768}, {curve(0, 1), 2, impl.ErrNone, 0}, {curve(0, 9), 10, impl.ErrNone, 0}, {curve(0, 9), 9, 0, 61895},
		{curve(50, 60), 0, 0, 0}, {curve(50, 60), 49, 0, 0}, {curve(50, 60), 50, 0, 0}, {curve(50, 60), 51, 0, 3277},
		{curve(0, 0, 0, top), 0, 0, 0}, {curve(0, 0, 0, top), 1, 0, 43691}, {curve(0, 0, 0, top), 3, 0, 43691}, {curve(0, 0, 0, top), 4, 0, 43692},
		{curve(0, 600, 600, 900), 600, 0, 21827}, {curve(0, 600, 600, 900), 601, 0, 43727}, {curve(0, 600, 600, 900), 599, 0, 21791},
		{curve(5, 5), 5, 0, 0}, {curve(5, 5), 6, impl.ErrNone, 0}, {curve(0, 0), 1, impl.ErrNone, 0}, {curve(0, 0), 0, 0, 0}, {curve(top, top), top, 0, 0},
	}
	for _, c := range cases {
		isInt(t, "SolveCurve", impl.SolveCurve(c.c, c.y), c.code, c.want)
	}
}

// Promise 4: what is solved is the least level whose EvalCurve is not less than y, at every y.
func TestSolveCurveIsTheLeastLevel(t *testing.T) {
	for _, c := range risingCurves() {
		least := int64(0)
		for y := range int64(top + 1) {
			want := impl.IntResult{Code: impl.ErrNone}
			if y <= c.Points[len(c.Points)-1] {
				for impl.EvalCurve(c, least).Value < y {
					least++
				}
				want = impl.IntResult{Value: least}
			}
			if got := impl.SolveCurve(c, y); got != want {
				t.Fatalf("SolveCurve(%v, %d) = %+v, want %+v", c, y, got, want)
			}
		}
	}
}

// Rule 6: a curve that falls is asked ahead of y, and y ahead of the last point.
func TestSolveCurveOrder(t *testing.T) {
	for _, c := range fallingCurves() {
		for _, y := range append(edges(), c.Points...) {
			isInt(t, "SolveCurve of a curve that falls", impl.SolveCurve(c, y), impl.ErrState, 0)
		}
	}
	for _, c := range risingCurves() {
		for _, y := range edges() {
			if !within(y, 0, top) {
				isInt(t, "SolveCurve of no level", impl.SolveCurve(c, y), impl.ErrRange, 0)
			}
		}
	}
	isInt(t, "how many ahead of falling", impl.SolveCurve(turned(risingCurve(18, 2)), -1), impl.ErrMany, 0)
	isInt(t, "a point ahead of falling", impl.SolveCurve(curve(5, -1), 0), impl.ErrRange, 0)
	isInt(t, "a point ahead of falling", impl.SolveCurve(curve(top+1, 5), 9), impl.ErrRange, 0)
	isInt(t, "falling ahead of y", impl.SolveCurve(curve(5, 4), top+1), impl.ErrState, 0)
	isInt(t, "falling ahead of the last point", impl.SolveCurve(curve(9, 0), 1), impl.ErrState, 0)
	isInt(t, "y ahead of the last point", impl.SolveCurve(curve(0, 9), top+1), impl.ErrRange, 0)
}

func TestSlopeOfCases(t *testing.T) {
	cases := []struct {
		c    impl.Curve
		want int64
	}{
		{curve(0, 100, top), 130870}, {curve(top, 100, 0), 130870}, {curve(0, top), top}, {curve(top, 0), top}, {curve(7, 7), 0}, {curve(7, 8), 1}, {curve(8, 7), 1},
		{curve(0, 5, 7, 7), 15}, {curve(7, 7, 5, 0), 15}, {curve(0, 5, 1, 4), 15}, {curve(0, 4, 10, 7), 18}, {curve(9, 1, 3, 5), 24}, {curve(5, 3, 1, 9), 24},
		{curve(0, top, 0, top), 3 * top}, {curve(10, 10, 10, 4), 18}, {curve(10, 10, 4, 4), 18}, {curve(4, 10, 10, 10), 18},
	}
	for _, c := range cases {
		isInt(t, "SlopeOf", impl.SlopeOf(c.c), impl.OK, c.want)
	}
	steep := likeCurve(impl.MaxPoints, 0)
	steep.Points[16] = top
	isInt(t, "SlopeOf of the most", impl.SlopeOf(steep), impl.OK, 16*top)
	isInt(t, "SlopeOf of the most, falling", impl.SlopeOf(turned(steep)), impl.OK, 16*top)
}

func TestSlopeOfIsTheGreatestStep(t *testing.T) {
	for _, c := range curves() {
		most := int64(0)
		for i, point := range c.Points[1:] {
			most = max(most, max(point, c.Points[i])-min(point, c.Points[i]))
		}
		isInt(t, "SlopeOf", impl.SlopeOf(c), impl.OK, most*int64(len(c.Points)-1))
		isInt(t, "SlopeOf turned round", impl.SlopeOf(turned(c)), impl.OK, most*int64(len(c.Points)-1))
	}
}

// No two levels turn further apart than the slope tells, but for the half that each is rounded by.
func TestNoLevelTurnsMoreThanTheSlope(t *testing.T) {
	for _, c := range curves() {
		slope := impl.SlopeOf(c).Value
		for v := range int64(top) {
			apart := impl.EvalCurve(c, v+1).Value - impl.EvalCurve(c, v).Value
			if max(apart, -apart)*top > slope+top {
				t.Fatalf("%v turns by %d from %d on, its slope is %d", c, apart, v, slope)
			}
		}
	}
}

func TestLineCurve(t *testing.T) {
	isCurve(t, "LineCurve(2)", impl.LineCurve(2), 0, top)
	isCurve(t, "LineCurve(3)", impl.LineCurve(3), 0, 32768, top)
	isCurve(t, "LineCurve(4)", impl.LineCurve(4), 0, 21845, 43690, top)
	isCurve(t, "LineCurve(5)", impl.LineCurve(5), 0, 16384, 32768, 49151, top)
	isCurve(t, "LineCurve(17)", impl.LineCurve(17), 0, 4096, 8192, 12288, 16384, 20480, 24576, 28672, 32768, 36863, 40959, 45055, 49151, 53247, 57343, 61439, top)
	for n := int64(2); n <= 17; n++ {
		want := make([]int64, n)
		for i := range n {
			want[i] = (2*i*top + n - 1) / (2 * (n - 1))
		}
		isCurve(t, "LineCurve", impl.LineCurve(n), want...)
	}
	for _, n := range append(edges(), 1, 18, -2, -17, 256+2, 1<<32+2, math.MinInt64+2) {
		if !within(n, 2, 17) {
			isNoCurve(t, "LineCurve of no count", impl.LineCurve(n), impl.ErrRange)
		}
	}
}

func TestPackCurveCases(t *testing.T) {
	cases := []struct {
		c    impl.Curve
		want []byte
	}{
		{curve(0, 258), []byte{2, 0, 0, 1, 2}},
		{curve(top, 0), []byte{2, 255, 255, 0, 0}},
		{curve(255, 256, 32768, 65280), []byte{4, 0, 255, 1, 0, 128, 0, 255, 0}},
		{likeCurve(17, 772), append([]byte{17}, bytes.Repeat([]byte{3, 4}, 17)...)},
	}
	for _, c := range cases {
		if got := impl.PackCurve(c.c); got.Code != impl.OK || !bytes.Equal(got.Bytes, c.want) {
			t.Errorf("PackCurve(%v) = %+v, want %v", c.c, got, c.want)
		}
		isCurve(t, "ReadCurve", impl.ReadCurve(c.want), c.c.Points...)
	}
}

func TestCurveIsReadBack(t *testing.T) {
	for _, c := range curves() {
		packed := impl.PackCurve(c)
		if packed.Code != impl.OK || len(packed.Bytes) != 1+2*len(c.Points) {
			t.Fatalf("PackCurve(%v) = %+v", c, packed)
		}
		isCurve(t, "ReadCurve", impl.ReadCurve(packed.Bytes), c.Points...)
		for n := range packed.Bytes {
			isNoCurve(t, "ReadCurve of too few bytes", impl.ReadCurve(packed.Bytes[:n]), impl.ErrText)
		}
		for _, more := range [][]byte{{0}, {0, 0}, {1, 2, 3}, packed.Bytes} {
			isNoCurve(t, "ReadCurve of too many bytes", impl.ReadCurve(append(bytes.Clone(packed.Bytes), more...)), impl.ErrText)
		}
	}
}

// Every count, with every number of bytes: a curve is read of just those that PackCurve answers.
func TestReadCurveOfEveryCount(t *testing.T) {
	isNoCurve(t, "ReadCurve of nil", impl.ReadCurve(nil), impl.ErrText)
	isNoCurve(t, "ReadCurve of no bytes", impl.ReadCurve([]byte{}), impl.ErrText)
	isNoCurve(t, "ReadCurve of one point", impl.ReadCurve([]byte{1, 0, 0}), impl.ErrText)
	isNoCurve(t, "ReadCurve of no points", impl.ReadCurve([]byte{0}), impl.ErrText)
	for count := range 256 {
		for size := 1; size <= 1+2*256; size++ {
			data := run(size, 90)
			data[0] = byte(count)
			got := impl.ReadCurve(data)
			if count < 2 || count > 17 || size != 1+2*count {
				isNoCurve(t, "ReadCurve", got, impl.ErrText)
				continue
			}
			if again := impl.PackCurve(got.Curve); got.Code != impl.OK || len(got.Curve.Points) != count || !bytes.Equal(again.Bytes, data) {
				t.Errorf("ReadCurve(%v) = %+v, whose PackCurve is %v", data, got, again)
			}
		}
	}
}

func TestSameCurves(t *testing.T) {
	list := append(curves(), impl.Curve{}, curve(5), likeCurve(18, 5), curve(-1, top+1), curve(math.MinInt64, math.MaxInt64))
	for _, c := range list {
		if !impl.SameCurves(c, c) || !impl.SameCurves(c, curve(slices.Clone(c.Points)...)) {
			t.Errorf("%v is not the same as itself", c)
		}
		for i := range c.Points {
			other := curve(slices.Clone(c.Points)...)
			other.Points[i]++
			for _, o := range []impl.Curve{other, curve(c.Points[:i]...), curve(append(slices.Clone(c.Points), c.Points[i])...)} {
				if impl.SameCurves(c, o) || impl.SameCurves(o, c) {
					t.Errorf("%v is the same as %v", c, o)
				}
			}
		}
	}
	if !impl.SameCurves(impl.Curve{}, curve([]int64{}...)) || !impl.SameCurves(curve([]int64{}...), impl.Curve{}) {
		t.Error("nil and empty are not the same")
	}
	if impl.SameCurves(curve(0, 9), curve(9, 0)) || impl.SameCurves(curve(0, 0), impl.Curve{}) || impl.SameCurves(curve(0, 0), curve(0, 0, 0)) {
		t.Error("other points are the same")
	}
}

// roomyCurve answers c in memory that has room behind its points, and whether all of that is still as it was.
func roomyCurve(c impl.Curve) (impl.Curve, func() bool) {
	points := append(make([]int64, 0, len(c.Points)+5), c.Points...)
	kept := slices.Clone(points[:cap(points)])
	return impl.Curve{Points: points}, func() bool { return slices.Equal(points[:cap(points)], kept) }
}

func curvesAndFaulty() []impl.Curve {
	list := curves()
	for _, f := range faultyCurves() {
		list = append(list, f.c)
	}
	return list
}

// Promise 1: no argument is changed, whether there is a code or not, nor what lies behind it in its memory.
func TestCurvesChangeNoArgument(t *testing.T) {
	for _, c := range curvesAndFaulty() {
		own, unchanged := roomyCurve(c)
		impl.CurveFault(own)
		impl.IsMonotone(own)
		impl.SlopeOf(own)
		impl.PackCurve(own)
		impl.SameCurves(own, c)
		impl.SameCurves(c, own)
		for _, v := range []int64{-1, 0, 1, 30000, top, top + 1} {
			impl.EvalCurve(own, v)
			impl.SolveCurve(own, v)
		}
		if !unchanged() {
			t.Fatalf("%v was changed", c)
		}
	}
	data := append(impl.PackCurve(impl.LineCurve(17).Curve).Bytes, 1, 2, 3)
	kept := bytes.Clone(data)
	for count := range 256 {
		data[0], kept[0] = byte(count), byte(count)
		for n := range len(data) + 1 {
			impl.ReadCurve(data[:n])
		}
		if !bytes.Equal(data, kept) {
			t.Fatalf("%v was changed", kept)
		}
	}
}

// fillInts changes all of list, and what it has room for behind that.
func fillInts(list []int64) {
	list = list[:cap(list)]
	for i := range list {
		list[i] = -7
	}
}

// Promise 1: what is answered is new memory.
func TestCurvesAnswerNewMemory(t *testing.T) {
	for _, c := range curves() {
		own, unchanged := roomyCurve(c)
		first, second := impl.PackCurve(own), impl.PackCurve(own)
		data := bytes.Clone(first.Bytes)
		spoil(first.Bytes)
		if !unchanged() || !bytes.Equal(second.Bytes, data) || !bytes.Equal(impl.PackCurve(own).Bytes, data) {
			t.Fatalf("PackCurve(%v) shares memory", c)
		}
		read, again := impl.ReadCurve(data), impl.ReadCurve(data)
		fillInts(read.Curve.Points)
		if !bytes.Equal(data, second.Bytes) {
			t.Fatalf("ReadCurve(%v) shares memory with its argument", data)
		}
		spoil(data)
		isCurve(t, "ReadCurve again", again, c.Points...)
	}
	for n := int64(2); n <= impl.MaxPoints; n++ {
		first, second := impl.LineCurve(n), impl.LineCurve(n)
		points := slices.Clone(first.Curve.Points)
		fillInts(first.Curve.Points)
		isCurve(t, "LineCurve ahead", second, points...)
		isCurve(t, "LineCurve behind", impl.LineCurve(n), points...)
	}
}

// Promise 1: the same arguments have the same answer, whatever was asked between.
func TestCurvesAnswerTheSameAgain(t *testing.T) {
	type answers struct {
		fault          int64
		rises          bool
		slope          impl.IntResult
		evals, solves  []impl.IntResult
		packed         impl.BytesResult
		read, line     impl.CurveResult
		sameAsTheFirst bool
	}
	list := curvesAndFaulty()
	ask := func(c impl.Curve) answers {
		a := answers{fault: impl.CurveFault(c), rises: impl.IsMonotone(c), slope: impl.SlopeOf(c), packed: impl.PackCurve(c), line: impl.LineCurve(int64(len(c.Points)))}
		a.read = impl.ReadCurve(a.packed.Bytes)
		a.sameAsTheFirst = impl.SameCurves(c, list[0])
		for _, v := range []int64{-1, 0, 1, 30000, top, top + 1} {
			a.evals = append(a.evals, impl.EvalCurve(c, v))
			a.solves = append(a.solves, impl.SolveCurve(c, v))
		}
		return a
	}
	var first []answers
	for _, c := range list {
		first = append(first, ask(c))
	}
	for i, c := range slices.Backward(list) {
		own, _ := roomyCurve(c)
		if second := ask(own); !reflect.DeepEqual(first[i], second) {
			t.Fatalf("%v: %+v, then %+v", c, first[i], second)
		}
	}
}
