package tests

import (
	"fmt"
	"math"
	"math/big"
	"slices"
	"testing"

	"loop.example/g00639/impl"
)

const fineOne = impl.FineOne
const fineTop = impl.MaxFine

// exact is a colour that is not rounded: three numbers, each one a level or something between.
type exact [3]*big.Rat

func rat(a int64, b int64) *big.Rat {
	return big.NewRat(a, b)
}

// exactOf tells what fine numbers stand for.
func exactOf(w []int64) exact {
	return exact{rat(w[0], fineOne), rat(w[1], fineOne), rat(w[2], fineOne)}
}

// roundedBy answers x, of which parts make a level, as whole numbers; a half goes up.
func roundedBy(x exact, parts int64) []int64 {
	var list []int64
	for _, v := range x {
		number := new(big.Rat).Mul(v, rat(parts, 1))
		list = append(list, roundHalfUp(number.Num(), number.Denom()).Int64())
	}
	return list
}

// cut answers which one of so many lines from 0 to MaxLevel v is on, and which part of it v has gone.
func cut(v *big.Rat, lines int64) (int64, *big.Rat) {
	way := new(big.Rat).Mul(v, rat(lines, top))
	place := min(new(big.Int).Div(way.Num(), way.Denom()).Int64(), lines-1)
	return place, way.Sub(way, rat(place, 1))
}

func exactCurve(c impl.Curve, v *big.Rat) *big.Rat {
	place, gone := cut(v, int64(len(c.Points)-1))
	rise := new(big.Rat).Mul(gone, rat(c.Points[place+1]-c.Points[place], 1))
	return rise.Add(rise, rat(c.Points[place], 1))
}

func exactMatrix(m impl.Matrix, v exact) exact {
	var x exact
	for i, row := range m.Rows {
		x[i] = new(big.Rat)
		for k, number := range row {
			x[i].Add(x[i], new(big.Rat).Mul(v[k], rat(number, one)))
		}
		switch {
		case x[i].Sign() < 0:
			x[i] = rat(0, 1)
		case x[i].Cmp(rat(top, 1)) > 0:
			x[i] = rat(top, 1)
		}
	}
	return x
}

// exactGrid asks of each part of the way through a cell which corner it goes to, as wantGrid does.
func exactGrid(g impl.Grid, v exact) exact {
	cells := make([]int64, 3)
	var rests exact
	for axis := range v {
		cells[axis], rests[axis] = cut(v[axis], g.Side-1)
	}
	parts := append([]*big.Rat{rat(0, 1), rat(1, 1)}, rests[:]...)
	slices.SortFunc(parts, (*big.Rat).Cmp)
	x := exact{new(big.Rat), new(big.Rat), new(big.Rat)}
	for i, part := range parts[:len(parts)-1] {
		long := new(big.Rat).Sub(parts[i+1], part)
		if long.Sign() == 0 {
			continue
		}
		corner := slices.Clone(cells)
		for axis := range corner {
			if rests[axis].Cmp(part) > 0 {
				corner[axis]++
			}
		}
		for k, level := range g.Nodes[numberAt(g.Side, corner)] {
			x[k].Add(x[k], new(big.Rat).Mul(long, rat(level, 1)))
		}
	}
	return x
}

// exactStage is what a stage does where nothing at all is rounded.
func exactStage(s impl.Stage, v exact) exact {
	switch s.Kind {
	case impl.StageCurves:
		return exact{exactCurve(s.Curves[0], v[0]), exactCurve(s.Curves[1], v[1]), exactCurve(s.Curves[2], v[2])}
	case impl.StageMatrix:
		return exactMatrix(s.Matrix, v)
	default:
		return exactGrid(s.Grid, v)
	}
}

func wantFine(s impl.Stage, w []int64) []int64 {
	return roundedBy(exactStage(s, exactOf(w)), fineOne)
}

func inFine(v []int64) []int64 {
	return []int64{v[0] * fineOne, v[1] * fineOne, v[2] * fineOne}
}

func wantFineChain(c impl.Chain, v []int64) []int64 {
	w := inFine(v)
	for _, s := range c.Stages {
		w = wantFine(s, w)
	}
	return w
}

// apart tells by how much one number of a and that of b differ at most.
func apart(a []int64, b []int64) int64 {
	most := int64(0)
	for i := range a {
		most = max(most, a[i]-b[i], b[i]-a[i])
	}
	return most
}

func wantOff(c impl.Chain, v []int64) int64 {
	steps := wantSteps(c, v)
	return apart(inFine(steps[len(steps)-1]), wantFineChain(c, v))
}

// wantSlope compares every two points that are neighbours, and every two nodes that are one step apart.
func wantSlope(s impl.Stage) impl.RatioResult {
	most := int64(0)
	switch s.Kind {
	case impl.StageCurves:
		for _, c := range s.Curves {
			for i := range c.Points[1:] {
				most = max(most, int64(len(c.Points)-1)*apart(c.Points[i:i+1], c.Points[i+1:i+2]))
			}
		}
		return impl.RatioResult{Num: most, Den: 65535}
	case impl.StageMatrix:
		for _, row := range s.Matrix.Rows {
			most = max(most, apart(row[:1], []int64{0})+apart(row[1:2], []int64{0})+apart(row[2:], []int64{0}))
		}
		return impl.RatioResult{Num: most, Den: 65536}
	default:
		return impl.RatioResult{Num: 3 * wantSpan(s.Grid) * (s.Grid.Side - 1), Den: 65535}
	}
}

// leastAbove answers the least whole number that is not below v times a slope.
func leastAbove(v int64, slope impl.RatioResult) int64 {
	up := new(big.Int).Neg(product(v, slope.Num))
	// big's Div is rounded down for a divisor above 0, so with the sign turned it is rounded up.
	return up.Div(up, big.NewInt(slope.Den)).Neg(up).Int64()
}

func wantBudget(c impl.Chain) impl.BudgetResult {
	var b impl.BudgetResult
	for _, s := range c.Stages {
		slope := wantSlope(s)
		b.Coarse = leastAbove(b.Coarse, slope) + 128
		b.Fine = leastAbove(b.Fine, slope) + 1
	}
	return b
}

func isRatio(t *testing.T, what string, got impl.RatioResult, num int64, den int64) {
	t.Helper()
	if want := (impl.RatioResult{Num: num, Den: den}); got != want {
		t.Errorf("%s = %+v, want %+v", what, got, want)
	}
}

func isBudget(t *testing.T, what string, got impl.BudgetResult, coarse int64, fine int64) {
	t.Helper()
	if want := (impl.BudgetResult{Coarse: coarse, Fine: fine}); got != want {
		t.Errorf("%s = %+v, want %+v", what, got, want)
	}
}

// steepest turns one number as much as there can be: 16 times.
func steepest() impl.Stage {
	c := impl.Curve{}
	for i := range int64(impl.MaxPoints) {
		c.Points = append(c.Points, top*(i%2))
	}
	return curvesStage(curve(7, 7), c, curve(top, 0))
}

// allThree is a grid that turns along its three axes at once, as much as is told of it.
func allThree() impl.Grid {
	return gridOf(2, func(p []int64) []int64 {
		n := p[0] + p[1] + p[2]
		return []int64{21845 * n, top - 21845*n, 21845 * n}
	})
}

// fineNumbers are the ends, levels times FineOne, halves between, and all sorts between.
func fineNumbers() []int64 {
	list := []int64{0, 1, 2, 127, 128, 129, 255, 256, 257, fineTop, fineTop - 1, fineTop - 128, fineTop - 255, fineTop - 256, fineTop - 257, top, top + 1, 2 * top}
	for n := int64(2); n < impl.MaxPoints; n++ {
		for d := int64(-1); d <= 1; d++ {
			list = append(list, fineTop/n+d, fineTop/n*(n-1)+d)
		}
	}
	for _, v := range spread(12, 0, top) {
		list = append(list, v*fineOne)
	}
	return append(list, spread(30, 0, fineTop)...)
}

// fineColours have each number of fineNumbers at each place, beside others, and three that are like.
func fineColours() [][]int64 {
	numbers := fineNumbers()
	n := len(numbers)
	var list [][]int64
	for i, w := range numbers {
		list = append(list, []int64{w, numbers[(5*i+1)%n], numbers[(11*i+3)%n]}, []int64{w, w, w})
	}
	return append(list, inFine([]int64{top, 0, top}), inFine([]int64{0, top, 0}))
}

// manyStages are few enough to be asked much: of each kind, flat, steep and clamped ones.
func manyStages() []impl.Stage {
	list := append(fewStages(), steepest(), gridStage(allThree()), matrixStage(likeMatrix(maxCell)), matrixStage(likeMatrix(-maxCell)), matrixStage(diagonal(-one, 4*one, 1)))
	all := stages()
	for i := 7; i < len(all); i += 5 {
		list = append(list, all[i])
	}
	return list
}

// budgetChains are some of each number of stages, with the steepest ones among them.
func budgetChains() []impl.Chain {
	list := append(someChains(), chains()[60:160]...)
	for n := range impl.MaxStages + 1 {
		list = append(list, chain(slices.Repeat([]impl.Stage{steepest()}, n)...), chain(slices.Repeat([]impl.Stage{mix()}, n)...))
	}
	big := matrixStage(matrix(maxCell, -maxCell, maxCell, 3, 70001, -one, -1, half, 12345))
	return append(list, chain(big), chain(big, big, curved()), chain(gridStage(allThree()), big, steepest(), bent(), big), chain(steepest(), big, steepest(), big, shift()))
}

func TestFineConstants(t *testing.T) {
	if got := []int64{impl.FineOne, impl.MaxFine, impl.MaxLevel * impl.FineOne}; !slices.Equal(got, []int64{256, 16776960, 16776960}) {
		t.Errorf("FineOne, MaxFine, MaxLevel times FineOne are %v", got)
	}
}

func TestSlopeStageCases(t *testing.T) {
	isRatio(t, "SlopeStage of a swap", impl.SlopeStage(swap()), 65536, 65536)
	isRatio(t, "SlopeStage of a mix", impl.SlopeStage(mix()), 71371, 65536)
	isRatio(t, "SlopeStage of numbers below 0", impl.SlopeStage(matrixStage(matrix(1, -2, 3, -40, -50, -60, 7, 8, -9))), 150, 65536)
	isRatio(t, "SlopeStage of the greatest numbers", impl.SlopeStage(matrixStage(likeMatrix(-maxCell))), 786432, 65536)
	isRatio(t, "SlopeStage of no numbers", impl.SlopeStage(matrixStage(likeMatrix(0))), 0, 65536)
	isRatio(t, "SlopeStage of curves that fall", impl.SlopeStage(down()), 65535, 65535)
	isRatio(t, "SlopeStage of a curve that falls more than it rises", impl.SlopeStage(curvesStage(curve(9, 10, 5, 6), curve(1, 2), curve(3, 3))), 15, 65535)
	isRatio(t, "SlopeStage of the steepest curve", impl.SlopeStage(steepest()), 1048560, 65535)
	isRatio(t, "SlopeStage of curves that are level", impl.SlopeStage(curvesStage(curve(5, 5), likeCurve(17, 0), likeCurve(9, top))), 0, 65535)
	isRatio(t, "SlopeStage of a line of 2", impl.SlopeStage(gridStage(lineGrid(2))), 196605, 65535)
	isRatio(t, "SlopeStage of a line of 3", impl.SlopeStage(gridStage(lineGrid(3))), 196608, 65535)
	isRatio(t, "SlopeStage of a line of 4", impl.SlopeStage(gridStage(lineGrid(4))), 196605, 65535)
	for _, side := range sides() {
		isRatio(t, "SlopeStage of numbers", impl.SlopeStage(gridStage(numberedGrid(side))), 300*(side-1), 65535)
		isRatio(t, "SlopeStage of like nodes", impl.SlopeStage(gridStage(likeGrid(side, 1, top, 5))), 0, 65535)
	}
}

func TestSlopeStageIsExact(t *testing.T) {
	for _, s := range append(stages(), manyStages()...) {
		want := wantSlope(s)
		isRatio(t, fmt.Sprintf("SlopeStage(%v)", s), impl.SlopeStage(s), want.Num, want.Den)
	}
}

// The greatest of three is told, at whichever place it is.
func TestSlopeStageAtEachPlace(t *testing.T) {
	for place := range 3 {
		s, m := curvesStage(curve(0, 5), curve(9, 2), curve(4, 4, 7)), matrix(1, 2, 3, -3, 2, -1, 2, 2, -2)
		s.Curves[place] = curve(4, 20, 5, 6)
		isRatio(t, "SlopeStage of three curves", impl.SlopeStage(s), 48, 65535)
		m.Rows[place] = []int64{3, -4, 0}
		isRatio(t, "SlopeStage of three rows", impl.SlopeStage(matrixStage(m)), 7, 65536)
	}
}

// checkNear tells whether what comes out of two colours is as near as the slope tells: each of both is no more than a half away.
func checkNear(t *testing.T, s impl.Stage, from []int64, to []int64, ask func(impl.Stage, []int64) impl.IntsResult) {
	t.Helper()
	slope, a, b := impl.SlopeStage(s), ask(s, from), ask(s, to)
	if a.Code != impl.OK || b.Code != impl.OK || (apart(a.List, b.List)-1)*slope.Den > apart(from, to)*slope.Num {
		t.Fatalf("%v: %v and %v become %+v and %+v, with a slope of %+v", s, from, to, a, b, slope)
	}
}

// Promise 8: what is near comes out near, by the slope that is told.
func TestWhatIsNearComesOutNear(t *testing.T) {
	levels, fines := manyColours(), fineColours()
	for i, s := range manyStages() {
		for k := i % 4; k+1 < len(levels); k += 4 {
			checkNear(t, s, levels[k], levels[k+1], impl.EvalStage)
		}
		for k := i % 3; k+1 < len(fines); k += 3 {
			checkNear(t, s, fines[k], fines[k+1], impl.FineStage)
		}
	}
}

// Promise 8: also of colours that are one number, or a few, away from each other, along each axis and all of them.
func TestWhatIsNextComesOutNear(t *testing.T) {
	for i, s := range manyStages() {
		for k, v := range colours() {
			d := []int64{1, 2, 7, 300}[(i+k)%4]
			for axes := 1; axes < 8; axes++ {
				far := slices.Clone(v)
				for axis := range far {
					if axes>>axis&1 == 1 {
						far[axis] = min(top, far[axis]+d)
					}
				}
				checkNear(t, s, v, far, impl.EvalStage)
				checkNear(t, s, v, far, impl.FineStage)
				checkNear(t, s, inFine(v), inFine(far), impl.FineStage)
			}
		}
	}
}

// A slope is no more than it has to be: there are two colours that come out as far apart as it tells.
func TestSlopesAreMet(t *testing.T) {
	isMet := func(s impl.Stage, from []int64, to []int64) bool {
		slope, got := impl.SlopeStage(s), apart(impl.FineStage(s, from).List, impl.FineStage(s, to).List)
		return got*slope.Den == apart(from, to)*slope.Num
	}
	for n := int64(2); n <= impl.MaxPoints; n++ {
		if fineTop%(n-1) != 0 {
			continue // such points stand at no whole fine number
		}
		s, met, step := curvesStage(spreadCurve(int(n), 3), likeCurve(2, 0), likeCurve(2, 0)), false, fineTop/(n-1)
		for i := range n - 1 {
			met = met || isMet(s, []int64{i * step, 0, 0}, []int64{(i + 1) * step, 0, 0})
		}
		if !met {
			t.Errorf("the slope of %v is not met", s)
		}
	}
	if !isMet(gridStage(allThree()), []int64{0, 0, 0}, []int64{fineTop, fineTop, fineTop}) || !isMet(matrixStage(matrix(20000, -10000, 5536, 0, 0, 0, 0, 0, 0)), []int64{fineOne * 256, fineOne * 256, 0}, []int64{fineOne * 512, 0, fineOne * 256}) {
		t.Error("a slope is not met")
	}
}

func TestBudgetOfCases(t *testing.T) {
	flat, halved := curvesStage(curve(5, 5), curve(6, 6), curve(7, 7)), matrixStage(diagonal(half, half, half))
	isBudget(t, "BudgetOf no stage", impl.BudgetOf(impl.Chain{}), 0, 0)
	isBudget(t, "BudgetOf an empty list", impl.BudgetOf(impl.Chain{Stages: []impl.Stage{}}), 0, 0)
	for _, s := range fewStages() {
		isBudget(t, "BudgetOf one stage", impl.BudgetOf(chain(s)), 128, 1)
	}
	isBudget(t, "BudgetOf two swaps", impl.BudgetOf(chain(swap(), swap())), 256, 2)
	isBudget(t, "BudgetOf five that fall", impl.BudgetOf(chain(down(), down(), down(), down(), down())), 640, 5)
	isBudget(t, "BudgetOf two mixes", impl.BudgetOf(chain(mix(), mix())), 268, 3)
	isBudget(t, "BudgetOf a half behind", impl.BudgetOf(chain(swap(), halved)), 192, 2)
	isBudget(t, "BudgetOf halves", impl.BudgetOf(chain(halved, halved, halved)), 224, 2)
	isBudget(t, "BudgetOf a half ahead", impl.BudgetOf(chain(halved, mix())), 268, 3)
	isBudget(t, "BudgetOf a half behind a mix", impl.BudgetOf(chain(mix(), halved)), 192, 2)
	isBudget(t, "BudgetOf what is level behind", impl.BudgetOf(chain(steepest(), flat)), 128, 1)
	isBudget(t, "BudgetOf what is level ahead", impl.BudgetOf(chain(flat, steepest())), 2176, 17)
	isBudget(t, "BudgetOf lines", impl.BudgetOf(chain(gridStage(lineGrid(2)), gridStage(lineGrid(2)))), 512, 4)
	isBudget(t, "BudgetOf lines of 3", impl.BudgetOf(chain(gridStage(lineGrid(3)), gridStage(lineGrid(3)))), 513, 5)
	isBudget(t, "BudgetOf the steepest stages", impl.BudgetOf(chain(slices.Repeat([]impl.Stage{steepest()}, 5)...)), 8947840, 69905)
}

// One more than a whole quotient is rounded up to the next one, one less up to it.
func TestBudgetIsRoundedUp(t *testing.T) {
	for n, want := range map[int64][2]int64{
		one: {256, 2}, one + 1: {257, 3}, one - 1: {256, 2}, one + 512: {257, 3}, one + 513: {258, 3}, one - 512: {255, 2}, one - 511: {256, 2},
		0: {128, 1}, 1: {129, 2}, 512: {129, 2}, 513: {130, 2}, 3 * one: {512, 4}, 3*one + 1: {513, 5},
	} {
		isBudget(t, fmt.Sprintf("BudgetOf a swap and %d", n), impl.BudgetOf(chain(swap(), matrixStage(diagonal(n, 0, -n)))), want[0], want[1])
	}
}

func TestBudgetOfIsExact(t *testing.T) {
	for _, c := range append(chains(), budgetChains()...) {
		want := wantBudget(c)
		isBudget(t, fmt.Sprintf("BudgetOf(%v)", c), impl.BudgetOf(c), want.Coarse, want.Fine)
	}
}

func TestFineStageCases(t *testing.T) {
	isList(t, "FineStage of a matrix", impl.FineStage(swap(), []int64{256, 512, 7}), 512, 256, 4)
	isList(t, "FineStage of a matrix, halves", impl.FineStage(swap(), []int64{1, 3, fineTop - 1}), 3, 1, 8388480)
	isList(t, "FineStage of curves that fall", impl.FineStage(down(), []int64{1, 256, fineTop - 1}), fineTop-1, fineTop-256, 1)
	three := curvesStage(curve(0, 100, top), curve(7, 7), curve(100, 0, top))
	isList(t, "FineStage at a point", impl.FineStage(three, []int64{8388480, 5, 8388480}), 25600, 1792, 0)
	isList(t, "FineStage ahead of a point", impl.FineStage(three, []int64{8388479, 5, 8388479}), 25600, 1792, 0)
	isList(t, "FineStage behind a point", impl.FineStage(three, []int64{8388481, 5, 8388481}), 25602, 1792, 2)
	isList(t, "FineStage of a line", impl.FineStage(gridStage(lineGrid(4)), []int64{15360001, 25599, 7}), 15360001, 25599, 7)
	isList(t, "FineStage of like nodes", impl.FineStage(gridStage(likeGrid(3, 1, 2, top)), []int64{5, 600, 70000}), 256, 512, fineTop)
	isList(t, "FineStage of a grid, all axes", impl.FineStage(gridStage(allThree()), []int64{3, 7, 2}), 4, fineTop-4, 4)
	for _, end := range []int64{0, fineTop} {
		isList(t, "curves at an end", impl.FineStage(down(), []int64{end, end, end}), fineTop-end, fineTop-end, fineTop-end)
		isList(t, "a matrix at an end", impl.FineStage(matrixStage(diagonal(one, half, -one)), []int64{end, end, end}), end, end/2, 0)
		isList(t, "a grid at an end", impl.FineStage(gridStage(numberedGrid(4)), []int64{end, end, end}), 256*(333*end/fineTop), 256*(1000+333*end/fineTop), 256*(60000-333*end/fineTop))
	}
}

// What a matrix tells of fine numbers is clamped to 0 and MaxFine, not to levels: at these bounds, and just outside.
func TestFineStageClamps(t *testing.T) {
	sum, less := matrixStage(matrix(one, one, 0, 0, one, one, one, 0, one)), matrixStage(matrix(one, -one, 0, 0, one, -one, -one, 0, one))
	isList(t, "nearly MaxFine", impl.FineStage(sum, []int64{fineTop - 1, 0, 5}), fineTop-1, 5, fineTop)
	isList(t, "just MaxFine", impl.FineStage(sum, []int64{fineTop - 1, 1, 0}), fineTop, 1, fineTop-1)
	isList(t, "above MaxFine", impl.FineStage(sum, []int64{fineTop - 1, 2, fineTop}), fineTop, fineTop, fineTop)
	isList(t, "all of it", impl.FineStage(matrixStage(likeMatrix(maxCell)), []int64{fineTop, fineTop, fineTop}), fineTop, fineTop, fineTop)
	isList(t, "nothing of it", impl.FineStage(matrixStage(likeMatrix(-maxCell)), []int64{fineTop, fineTop, fineTop}), 0, 0, 0)
	isList(t, "just 0", impl.FineStage(less, []int64{5, 5, 5}), 0, 0, 0)
	isList(t, "below 0, and 1", impl.FineStage(less, []int64{6, 7, 6}), 0, 1, 0)
	isList(t, "above levels", impl.FineStage(matrixStage(diagonal(2*one, one, one)), []int64{top, top + 1, 2 * top}), 2*top, top+1, 2*top)
	isList(t, "a half below 0 goes up", impl.FineStage(matrixStage(diagonal(-half, -half-1, half)), []int64{1, 1, 1}), 0, 0, 1)
}

func TestFineStageIsExact(t *testing.T) {
	list := fineColours()
	for i, s := range stages() {
		for k := i % 9; k < len(list); k += 9 {
			isList(t, fmt.Sprintf("FineStage(%v, %v)", s, list[k]), impl.FineStage(s, list[k]), wantFine(s, list[k])...)
		}
		for _, w := range [][]int64{{0, 0, 0}, {fineTop, fineTop, fineTop}} {
			isList(t, fmt.Sprintf("FineStage(%v, %v)", s, w), impl.FineStage(s, w), wantFine(s, w)...)
		}
	}
	for _, s := range append(fewStages(), steepest(), gridStage(allThree())) {
		for _, w := range list {
			isList(t, fmt.Sprintf("FineStage(%v, %v)", s, w), impl.FineStage(s, w), wantFine(s, w)...)
		}
	}
}

// At its points and at its nodes a stage tells of fine numbers just these, times FineOne.
func TestFineStageAtPointsAndNodes(t *testing.T) {
	for _, c := range curves() {
		lines := int64(len(c.Points) - 1)
		if fineTop%lines != 0 {
			continue // such points stand at no whole fine number
		}
		for i, point := range c.Points {
			w, other := int64(i)*fineTop/lines, int64(len(c.Points)-1-i)*fineTop/lines
			isList(t, "FineStage at a point", impl.FineStage(curvesStage(c, c, c), []int64{w, other, w}), fineOne*point, fineOne*c.Points[len(c.Points)-1-i], fineOne*point)
		}
	}
	for _, g := range grids() {
		for n, node := range g.Nodes {
			p := placeAt(g.Side, n)
			w := []int64{p[0] * fineTop / (g.Side - 1), p[1] * fineTop / (g.Side - 1), p[2] * fineTop / (g.Side - 1)}
			isList(t, "FineStage at a node", impl.FineStage(gridStage(g), w), inFine(node)...)
		}
	}
}

// A stage that does nothing leaves each fine number as it is.
func TestFineStageOfNothing(t *testing.T) {
	for _, s := range idleStages() {
		for _, w := range fineColours() {
			isList(t, "FineStage of what does nothing", impl.FineStage(s, w), w...)
		}
	}
}

// Of levels, FineStage and EvalStage are no more than half a level away from each other.
func TestFineStageIsNearEvalStage(t *testing.T) {
	for _, s := range manyStages() {
		for _, v := range colours() {
			if off := apart(impl.FineStage(s, inFine(v)).List, inFine(impl.EvalStage(s, v).List)); off > 128 {
				t.Errorf("%v at %v: %d away", s, v, off)
			}
		}
	}
}

// noFines are numbers just outside of 0 to MaxFine, far outside, and such as are fine numbers in fewer bits.
func noFines() []int64 {
	list := []int64{-1, -2, -fineOne, fineTop + 1, fineTop + 2, fineTop + fineOne, -fineTop, 1 << 24, 1<<32 + 5, -1<<32 + 5}
	for _, v := range edges() {
		if !within(v, 0, fineTop) {
			list = append(list, v)
		}
	}
	return list
}

func TestFineStageOfNoFineNumbers(t *testing.T) {
	for code, lists := range casesOf(noFines(), fineTop) {
		for _, w := range lists {
			for _, s := range fewStages() {
				isNoList(t, fmt.Sprintf("FineStage at %v", w[:min(len(w), 9)]), impl.FineStage(s, w), code)
			}
		}
	}
}

func TestSlopesAndFineStagesOfFaults(t *testing.T) {
	lists := [][]int64{{0, 0, 0}, {fineTop, fineTop, fineTop}, {1, 2, 3}, {0, 0, -1}, {0, fineTop + 1, 0}, {1, 1}, {0, 0, 0, 0}, {-1}, nil}
	for _, f := range faultyStages() {
		if got := impl.SlopeStage(f.s); got != (impl.RatioResult{Code: f.code}) {
			t.Errorf("%s: SlopeStage = %+v, want the code %d alone", f.what, got, f.code)
		}
		for _, w := range lists {
			isNoList(t, "FineStage, "+f.what, impl.FineStage(f.s, w), f.code)
		}
	}
}

func isNoBudget(t *testing.T, what string, c impl.Chain, code int64) {
	t.Helper()
	if got := impl.BudgetOf(c); got != (impl.BudgetResult{Code: code}) {
		t.Errorf("%s: BudgetOf = %+v, want the code %d alone", what, got, code)
	}
}

// isNoChainAt asks all that the chapter has of a chain and a colour, where EvalChain has that code.
func isNoChainAt(t *testing.T, what string, c impl.Chain, v []int64, code int64) {
	t.Helper()
	isNoList(t, "FineChain, "+what, impl.FineChain(c, v), code)
	isInt(t, "OffBy, "+what, impl.OffBy(c, v), code, 0)
	if impl.WithinBudget(c, v) {
		t.Errorf("WithinBudget, %s", what)
	}
}

// Rule 6: the fault of a chain comes ahead of the codes of v, and nothing is told beside it.
func TestBudgetsOfFaultyChains(t *testing.T) {
	lists := [][]int64{{0, 0, 0}, {top, top, top}, {1, 2, 3}, {0, 0, -1}, {0, top + 1, 0}, {1, 1}, {0, 0, 0, 0}, {-1}, nil}
	for _, f := range faultyChains() {
		isNoBudget(t, f.what, f.c, f.code)
		for _, v := range lists {
			isNoChainAt(t, f.what, f.c, v, f.code)
		}
	}
	for _, f := range faultyStages() {
		isNoChainAt(t, f.what+" alone", chain(f.s), []int64{1, 2, 3}, f.code)
		isNoChainAt(t, f.what+" behind", chain(down(), f.s), nil, f.code)
		isNoBudget(t, f.what+" alone", chain(f.s), f.code)
		isNoBudget(t, f.what+" behind", chain(down(), f.s), f.code)
	}
}

// A chain asks for levels: a fine number above them is none. The codes of v are asked with no stage, too.
func TestFineChainsOfNoColour(t *testing.T) {
	for code, lists := range colourCases() {
		for _, v := range lists {
			for _, c := range someChains() {
				isNoChainAt(t, fmt.Sprintf("at %v", v[:min(len(v), 9)]), c, v, code)
			}
		}
	}
	for _, c := range someChains() {
		for _, v := range [][]int64{{fineTop, 0, 0}, {0, top + 1, 0}, {0, 0, 65536}, {0, 0, -1}} {
			isNoChainAt(t, "no level", c, v, impl.ErrRange)
		}
	}
}

func TestFineChainCases(t *testing.T) {
	v, halved, doubled := []int64{10, 20, 31}, matrixStage(diagonal(half, half, half)), matrixStage(diagonal(2*one, 2*one, 2*one))
	isList(t, "FineChain", impl.FineChain(chain(swap(), down()), v), 256*(top-20), 256*(top-10), 256*top-3968)
	isList(t, "FineChain of what is halved and doubled", impl.FineChain(chain(halved, doubled), v), 2560, 5120, 7936)
	isInt(t, "OffBy of what is halved and doubled", impl.OffBy(chain(halved, doubled), v), impl.OK, 256)
	isInt(t, "OffBy of what is halved", impl.OffBy(chain(halved), v), impl.OK, 128)
	isInt(t, "OffBy of a swap", impl.OffBy(chain(swap()), v), impl.OK, 128)
	isInt(t, "OffBy of a swap of what is even", impl.OffBy(chain(swap()), []int64{10, 20, 30}), impl.OK, 0)
	isInt(t, "OffBy below", impl.OffBy(chain(halved, down()), v), impl.OK, 128)
	isInt(t, "OffBy of a quarter", impl.OffBy(chain(matrixStage(diagonal(half/2, one, one))), []int64{5, 20, 30}), impl.OK, 64)
	isInt(t, "OffBy of three quarters", impl.OffBy(chain(matrixStage(diagonal(one, one, half/2))), []int64{5, 20, 31}), impl.OK, 64)
}

// Of no stage at all nothing is rounded: v times FineOne, at every level.
func TestFineChainOfNoStage(t *testing.T) {
	for _, c := range []impl.Chain{{}, {Stages: []impl.Stage{}}} {
		for v := range int64(top + 1) {
			colour := []int64{v, top - v, (v + 32768) % (top + 1)}
			isList(t, "FineChain of no stage", impl.FineChain(c, colour), inFine(colour)...)
			isInt(t, "OffBy of no stage", impl.OffBy(c, colour), impl.OK, 0)
			if !impl.WithinBudget(c, colour) {
				t.Error("no stage is not within its budget")
			}
			if t.Failed() {
				return
			}
		}
	}
}

func TestFineChainsAreExact(t *testing.T) {
	list := append([][]int64{{0, 0, 0}, {top, top, top}, {0, top, 0}}, colours()[5:10]...)
	for i, c := range append(chains(), budgetChains()...) {
		for k := i % 2; k < len(list); k += 2 {
			v := list[k]
			isList(t, fmt.Sprintf("FineChain(%v, %v)", c, v), impl.FineChain(c, v), wantFineChain(c, v)...)
			isInt(t, fmt.Sprintf("OffBy(%v, %v)", c, v), impl.OffBy(c, v), impl.OK, wantOff(c, v))
		}
	}
}

// FineChain is FineStage of each stage, in order; OffBy holds it against EvalChain.
func TestFineChainsAreStages(t *testing.T) {
	for _, c := range budgetChains() {
		for _, v := range colours()[:14] {
			w := inFine(v)
			for i, s := range c.Stages {
				isList(t, "FineChain of the stages so far", impl.FineChain(chain(c.Stages[:i]...), v), w...)
				w = impl.FineStage(s, w).List
			}
			isList(t, "FineChain", impl.FineChain(c, v), w...)
			isInt(t, "OffBy", impl.OffBy(c, v), impl.OK, apart(w, inFine(impl.EvalChain(c, v).List)))
		}
	}
}

// OffBy is that of the number that is furthest off, at whichever place it is, above and below.
func TestOffByAtEachPlace(t *testing.T) {
	for place := range 3 {
		for d, part := range map[int64]int64{64: half / 2, 1: 256, 128: half, 127: 32512, 100: one - 25600} {
			numbers := []int64{one, one, one}
			numbers[place] = part
			c := chain(matrixStage(diagonal(numbers[0], numbers[1], numbers[2])))
			isInt(t, fmt.Sprintf("OffBy at place %d by %d", place, part), impl.OffBy(c, []int64{1, 1, 1}), impl.OK, d)
		}
	}
}

// Promise 8: a chain is nowhere further off than it is told.
func TestAChainIsWithinItsBudget(t *testing.T) {
	list, lengths := manyColours(), map[int]int{}
	for i, c := range append(chains(), budgetChains()...) {
		budget := impl.BudgetOf(c)
		lengths[len(c.Stages)]++
		for k := i % 7; k < len(list); k += 7 {
			off := impl.OffBy(c, list[k])
			if off.Code != impl.OK || off.Value < 0 || off.Value > budget.Coarse+budget.Fine || !impl.WithinBudget(c, list[k]) {
				t.Fatalf("%v at %v: OffBy %+v, BudgetOf %+v, WithinBudget %v", c, list[k], off, budget, impl.WithinBudget(c, list[k]))
			}
		}
	}
	if len(lengths) != impl.MaxStages+1 {
		t.Errorf("chains of %v stages", lengths)
	}
}

// isWithin tells whether no number of got, of which parts make a level, is further than most fine numbers away from x.
func isWithin(got []int64, parts int64, x exact, most int64) bool {
	for i, v := range got {
		off := new(big.Rat).Sub(rat(v, parts), x[i])
		if off.Abs(off).Cmp(rat(most, fineOne)) > 0 {
			return false
		}
	}
	return true
}

// Promise 8: whatever was rounded, what would be told without any rounding is no
// further away than Coarse from levels, and than Fine from fine numbers.
func TestAChainIsNearWhatIsNotRounded(t *testing.T) {
	list := append(colours()[:12], []int64{top, 0, top})
	for i, c := range budgetChains() {
		budget := impl.BudgetOf(c)
		for k := i % 2; k < len(list); k += 2 {
			x := exactOf(inFine(list[k]))
			for _, s := range c.Stages {
				x = exactStage(s, x)
			}
			level, fine := impl.EvalChain(c, list[k]).List, impl.FineChain(c, list[k]).List
			if !isWithin(level, 1, x, budget.Coarse) || !isWithin(fine, fineOne, x, budget.Fine) {
				t.Fatalf("%v at %v: %v and %v, BudgetOf %+v, but exactly it is %v", c, list[k], level, fine, budget, x)
			}
		}
	}
}

// Promise 8: a budget is no more than it has to be: half a level ahead of each of the steepest lines is nearly used up.
func TestABudgetIsNearlyUsedUp(t *testing.T) {
	c := chain(matrixStage(diagonal(half, half, half)), matrixStage(diagonal(4*one, 4*one, 4*one)))
	isBudget(t, "BudgetOf what is halved and quadrupled", impl.BudgetOf(c), 640, 5)
	isInt(t, "OffBy of what is halved and quadrupled", impl.OffBy(c, []int64{3, 5, 7}), impl.OK, 512)
	steep := chain(matrixStage(diagonal(half, half, half)), steepest())
	isInt(t, "OffBy ahead of the steepest curve", impl.OffBy(steep, []int64{0, 3, 0}), impl.OK, 128*16)
	if !impl.WithinBudget(c, []int64{3, 5, 7}) || !impl.WithinBudget(steep, []int64{0, 3, 0}) {
		t.Error("not within the budget")
	}
}

// Promise 1: no argument is changed, whether there is a code or not, nor what lies behind it in its memory.
func TestBudgetsChangeNoArgument(t *testing.T) {
	lists, listsUnchanged := roomyLists([][]int64{{0, 0, 0}, {5, 600, 7000}, {top, top, top}, {top + 1, 5, fineTop}, {1, 2}, {1, 2, 3, 4}, {1, -1, 0}, {0, 0, fineTop + 1}, nil})
	for _, c := range chainsAndFaulty() {
		own, unchanged := roomyChain(c)
		impl.BudgetOf(own)
		for _, v := range lists {
			impl.FineChain(own, v)
			impl.OffBy(own, v)
			impl.WithinBudget(own, v)
		}
		for _, s := range own.Stages[:min(len(own.Stages), impl.MaxStages)] {
			impl.SlopeStage(s)
			for _, w := range lists {
				impl.FineStage(s, w)
			}
		}
		if !unchanged() || !listsUnchanged() {
			t.Fatalf("%v or a list was changed", c)
		}
	}
}

// Promise 1: what is answered is new memory, that of no stage, too.
func TestBudgetsAnswerNewMemory(t *testing.T) {
	v := append(make([]int64, 0, 8), 5, 600, 7000)
	for _, c := range chainsAndFaulty() {
		own, unchanged := roomyChain(c)
		checkNewLists(t, "FineChain", func() [][]int64 { return [][]int64{impl.FineChain(own, v).List} })
		isNewMemory(t, "FineChain", impl.FineChain(own, v), own, v)
		for _, s := range own.Stages[:min(len(own.Stages), impl.MaxStages)] {
			checkNewLists(t, "FineStage", func() [][]int64 { return [][]int64{impl.FineStage(s, v).List} })
			isNewMemory(t, "FineStage", impl.FineStage(s, v), s, v)
		}
		if !unchanged() || !slices.Equal(v[:cap(v)], []int64{5, 600, 7000, 0, 0, 0, 0, 0}) {
			t.Fatalf("%v: an answer shares memory with an argument", c)
		}
	}
}

// chainIn answers a stage of each kind, all lists of which lie in the five numbers.
func chainIn(numbers []int64) impl.Chain {
	same := curve(numbers[:3]...)
	return chain(
		curvesStage(same, same, curve(numbers[1:]...)), matrixStage(impl.Matrix{Rows: [][]int64{numbers[:3], numbers[:3], numbers[1:4]}}),
		gridStage(impl.Grid{Side: 2, Nodes: slices.Repeat([][]int64{numbers[2:]}, 8)}))
}

// Lists of an argument may share memory, with each other and with the colour: what is told hangs on the numbers alone.
func TestBudgetsOfListsThatShareMemory(t *testing.T) {
	numbers := []int64{0, 30000, 40000, 2, 60000}
	shared := chainIn(numbers)
	own := cloneChain(shared)
	for i := range 3 {
		v := numbers[i : i+3]
		isList(t, "FineChain", impl.FineChain(shared, v), wantFineChain(own, slices.Clone(v))...)
		isInt(t, "OffBy", impl.OffBy(shared, v), impl.OK, wantOff(own, slices.Clone(v)))
		for _, s := range shared.Stages {
			isList(t, "FineStage", impl.FineStage(s, v), wantFine(s, slices.Clone(v))...)
			isNewMemory(t, "FineStage", impl.FineStage(s, v), s, v)
		}
	}
	want := wantBudget(own)
	isBudget(t, "BudgetOf", impl.BudgetOf(shared), want.Coarse, want.Fine)
	if !slices.Equal(numbers, []int64{0, 30000, 40000, 2, 60000}) {
		t.Errorf("an argument was changed: %v", numbers)
	}
}

// Promise 1: the same arguments have the same answer, whatever was asked between.
func TestBudgetsAnswerTheSameAgain(t *testing.T) {
	type answers struct {
		budget impl.BudgetResult
		slopes []impl.RatioResult
		values []impl.IntsResult
		offs   []impl.IntResult
		within []bool
	}
	ask := func(c impl.Chain) answers {
		a := answers{budget: impl.BudgetOf(c)}
		for _, v := range [][]int64{{1, 2, 3}, {top, 0, 30000}, {500, 500, 70}, {1, 2}, {1, -2, 3}, {1, 2, math.MaxInt64}} {
			a.values = append(a.values, impl.FineChain(c, v))
			a.offs = append(a.offs, impl.OffBy(c, v))
			a.within = append(a.within, impl.WithinBudget(c, v))
			for _, s := range c.Stages[:min(len(c.Stages), impl.MaxStages)] {
				a.slopes = append(a.slopes, impl.SlopeStage(s))
				a.values = append(a.values, impl.FineStage(s, v))
			}
		}
		return a
	}
	isToldAgain(t, chainsAndFaulty(), roomyChain, ask)
}
