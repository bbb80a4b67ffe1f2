package tests

import (
	"fmt"
	"math"
	"reflect"
	"slices"
	"testing"

	"loop.example/g00639/impl"
)

func curvesStage(list ...impl.Curve) impl.Stage {
	return impl.Stage{Kind: impl.StageCurves, Curves: list}
}

func matrixStage(m impl.Matrix) impl.Stage {
	return impl.Stage{Kind: impl.StageMatrix, Matrix: m}
}

func gridStage(g impl.Grid) impl.Stage {
	return impl.Stage{Kind: impl.StageGrid, Grid: g}
}

func chain(stages ...impl.Stage) impl.Chain {
	return impl.Chain{Stages: stages}
}

func cloneCurves(list []impl.Curve) []impl.Curve {
	var own []impl.Curve
	for _, c := range list {
		own = append(own, curve(slices.Clone(c.Points)...))
	}
	return own
}

func cloneStage(s impl.Stage) impl.Stage {
	return impl.Stage{Kind: s.Kind, Curves: cloneCurves(s.Curves), Matrix: cloneMatrix(s.Matrix), Grid: cloneGrid(s.Grid)}
}

func cloneChain(c impl.Chain) impl.Chain {
	var own impl.Chain
	for _, s := range c.Stages {
		own.Stages = append(own.Stages, cloneStage(s))
	}
	return own
}

// withStage answers c with another stage at that place.
func withStage(c impl.Chain, place int, s impl.Stage) impl.Chain {
	own := cloneChain(c)
	own.Stages[place] = s
	return own
}

// swap, down, curved, mix, shift and bent do something else with every number, and it matters which one is ahead.
func swap() impl.Stage {
	return matrixStage(matrix(0, one, 0, one, 0, 0, 0, 0, half))
}

func down() impl.Stage {
	return curvesStage(curve(top, 0), curve(top, 0), curve(top, 0))
}

func curved() impl.Stage {
	return curvesStage(curve(0, 100, top), curve(60000, 20, 30000, 7), risingCurve(17, 3))
}

func mix() impl.Stage {
	return matrixStage(matrix(27030, 23436, 11827, 13938, 46869, 4729, 1267, 7811, 62293))
}

func shift() impl.Stage {
	return gridStage(gridOf(3, func(p []int64) []int64 { return []int64{20000*p[2] + 5, 30000 * p[0], top - 32000*p[1]} }))
}

func bent() impl.Stage {
	return gridStage(spreadGrid(4, 2, top))
}

func fewStages() []impl.Stage {
	return []impl.Stage{swap(), down(), curved(), mix(), shift(), bent(), gridStage(spreadGrid(2, 5, 40000))}
}

// someStages are n stages, no two neighbours of which are the same.
func someStages(n int) []impl.Stage {
	few := fewStages()
	var list []impl.Stage
	for i := range n {
		list = append(list, cloneStage(few[i%len(few)]))
	}
	return list
}

func curveStages() []impl.Stage {
	var list []impl.Stage
	all := curves()
	for i := range all {
		list = append(list, curvesStage(all[i], all[(i+1)%len(all)], all[(i+40)%len(all)]))
	}
	for i := 0; i < len(all); i += 9 {
		list = append(list, curvesStage(all[i], all[i], all[i]))
	}
	return list
}

func stages() []impl.Stage {
	list := append(fewStages(), curveStages()...)
	for _, m := range matrices() {
		list = append(list, matrixStage(m))
	}
	for _, g := range grids() {
		list = append(list, gridStage(g))
	}
	return list
}

// chains are of no stage, of each one, of each two that there are of a few, and of up to MaxStages of all of them.
func chains() []impl.Chain {
	list := []impl.Chain{{}, {Stages: []impl.Stage{}}}
	few, all := fewStages(), stages()
	for _, a := range few {
		list = append(list, chain(a))
		for _, b := range few {
			list = append(list, chain(a, b))
		}
	}
	for i, at := range spread(200, 0, int64(len(all)-1)) {
		c := impl.Chain{}
		for k := range 1 + i%impl.MaxStages {
			c.Stages = append(c.Stages, all[(int(at)+37*k*(i+1))%len(all)])
		}
		list = append(list, c)
	}
	return append(list, chain(swap(), swap()), chain(down(), down(), down(), down(), down()), chain(someStages(impl.MaxStages)...))
}

// someChains are few enough to be asked two by two: of each number of stages, some.
func someChains() []impl.Chain {
	list := []impl.Chain{{}}
	for n := 1; n <= impl.MaxStages; n++ {
		list = append(list, chain(someStages(n)...), chain(someStages(n + 2)[2:]...), chain(slices.Repeat([]impl.Stage{swap()}, n)...))
	}
	return append(list, chain(bent(), down(), shift()), chain(curved()), chain(mix(), curved()))
}

// wantStage is by the other formulas that the tests of curves, matrices and grids have.
func wantStage(s impl.Stage, v []int64) []int64 {
	switch s.Kind {
	case impl.StageCurves:
		return []int64{wantEval(s.Curves[0], v[0]), wantEval(s.Curves[1], v[1]), wantEval(s.Curves[2], v[2])}
	case impl.StageMatrix:
		return wantApply(s.Matrix, v)
	default:
		return wantGrid(s.Grid, v)
	}
}

func wantSteps(c impl.Chain, v []int64) [][]int64 {
	steps := [][]int64{v}
	for i, s := range c.Stages {
		steps = append(steps, wantStage(s, steps[i]))
	}
	return steps
}

func isSteps(t *testing.T, what string, got impl.StepsResult, want [][]int64) {
	t.Helper()
	if got.Code != impl.OK || !slices.EqualFunc(got.Steps, want, slices.Equal[[]int64]) {
		t.Errorf("%s = %+v, want %v", what, got, want)
	}
}

func isNoSteps(t *testing.T, what string, got impl.StepsResult, code int64) {
	t.Helper()
	if got.Code != code || len(got.Steps) != 0 {
		t.Errorf("%s = %+v, want the code %d alone", what, got, code)
	}
}

// told is the same of two chains only if all of them is the same: an empty list is told as nil is.
func told(c impl.Chain) string {
	return fmt.Sprint(c)
}

// isChain compares what is told of both, as SameChains is what is tested, too.
func isChain(t *testing.T, what string, got impl.ChainResult, want impl.Chain) {
	t.Helper()
	if got.Code != impl.OK || told(got.Chain) != told(want) {
		t.Errorf("%s = %+v, want %v", what, got, want)
	}
}

func isNoChain(t *testing.T, what string, got impl.ChainResult, code int64) {
	t.Helper()
	if got.Code != code || len(got.Chain.Stages) != 0 {
		t.Errorf("%s = %+v, want the code %d alone", what, got, code)
	}
}

type stageCase struct {
	what string
	s    impl.Stage
	code int64
}

// noKinds are just outside of the kinds, 0, below 0, far away, and such as are kinds in fewer bits.
func noKinds() []int64 {
	return []int64{0, 4, -1, -2, -3, -4, 5, 256 + 1, 1<<16 + 2, 1<<32 + 1, 1<<32 + 2, 1<<32 + 3, -1<<32 + 1, math.MaxInt64, math.MinInt64, math.MinInt64 + 1}
}

func kinds() []int64 {
	return []int64{impl.StageCurves, impl.StageMatrix, impl.StageGrid}
}

// thingsOf are what a stage of that kind has beside it: without fault, with one, and as little of it as there can be.
func thingsOf(kind int64) []impl.Stage {
	good, short, long := curve(0, top), curve(5), likeCurve(18, 5)
	return map[int64][]impl.Stage{
		impl.StageCurves: {
			{Curves: []impl.Curve{good, good, good}}, {Curves: []impl.Curve{{}}}, {Curves: []impl.Curve{good}}, {Curves: make([]impl.Curve, 3)},
			{Curves: []impl.Curve{good, good, good, good}}, {Curves: []impl.Curve{short, good, good}}, {Curves: []impl.Curve{good, long}}, {Curves: []impl.Curve{good, good, curve(-1, 0)}},
		},
		impl.StageMatrix: {
			{Matrix: diagonal(one, one, one)}, {Matrix: diagonal(0, 0, 0)}, {Matrix: impl.Matrix{Rows: [][]int64{nil}}}, {Matrix: impl.Matrix{Rows: [][]int64{{}, {}, {}}}},
			{Matrix: likeMatrix(maxCell + 1)}, {Matrix: impl.Matrix{Rows: [][]int64{{1, 2, 3}, {4, 5, 6}}}},
		},
		impl.StageGrid: {
			{Grid: lineGrid(2)}, {Grid: likeGrid(3, 0, 0, 0)}, {Grid: impl.Grid{Side: 2}}, {Grid: impl.Grid{Side: 1}}, {Grid: impl.Grid{Side: -1}}, {Grid: impl.Grid{Side: 1 << 32}},
			{Grid: impl.Grid{Side: math.MinInt64}}, {Grid: impl.Grid{Nodes: [][]int64{nil}}}, {Grid: impl.Grid{Nodes: [][]int64{{0, 0, 0}}}}, {Grid: impl.Grid{Nodes: lineGrid(2).Nodes}},
			{Grid: impl.Grid{Side: 2, Nodes: lineGrid(3).Nodes}}, {Grid: likeGrid(2, -1, 0, top+1)},
		},
	}[kind]
}

// faultyKinds have a kind that is none, whatever they have else.
func faultyKinds() []stageCase {
	var list []stageCase
	for _, kind := range noKinds() {
		list = append(list, stageCase{fmt.Sprintf("kind %d and nothing else", kind), impl.Stage{Kind: kind}, impl.ErrForm})
		for _, of := range kinds() {
			for _, s := range thingsOf(of) {
				s.Kind = kind
				list = append(list, stageCase{fmt.Sprintf("kind %d with what %d has", kind, of), s, impl.ErrForm})
			}
		}
		list = append(list, stageCase{"all that there is", impl.Stage{Kind: kind, Curves: down().Curves, Matrix: swap().Matrix, Grid: lineGrid(2)}, impl.ErrForm})
	}
	return list
}

// besides answers s with what other has of another kind.
func besides(s impl.Stage, kind int64, other impl.Stage) impl.Stage {
	switch kind {
	case impl.StageCurves:
		s.Curves = other.Curves
	case impl.StageMatrix:
		s.Matrix = other.Matrix
	default:
		s.Grid = other.Grid
	}
	return s
}

// faultyForms have what their kind has not, beside what it has, beside a fault in that, and instead of it.
func faultyForms() []stageCase {
	var list []stageCase
	for _, kind := range kinds() {
		for _, s := range append(thingsOf(kind), impl.Stage{}) {
			s.Kind = kind
			for _, other := range kinds() {
				if other == kind {
					continue
				}
				for _, o := range thingsOf(other) {
					list = append(list, stageCase{fmt.Sprintf("kind %d with what %d has", kind, other), besides(s, other, o), impl.ErrForm})
				}
			}
		}
		list = append(list, stageCase{"all that there is", impl.Stage{Kind: kind, Curves: down().Curves, Matrix: swap().Matrix, Grid: lineGrid(2)}, impl.ErrForm})
	}
	return list
}

// faultyThrees have too few curves, or too many, or none at all, whatever these are.
func faultyThrees() []stageCase {
	var list []stageCase
	for _, n := range []int{0, 1, 2, 4, 5, 6, 9, 256 + 3, 70000} {
		for _, c := range []impl.Curve{curve(0, top), {}, curve(5), likeCurve(18, 1), curve(-1, 0), curve(0, top+1)} {
			list = append(list, stageCase{fmt.Sprintf("%d curves", n), curvesStage(slices.Repeat([]impl.Curve{c}, n)...), impl.ErrMany})
		}
	}
	return append(list, stageCase{"no curves", impl.Stage{Kind: impl.StageCurves}, impl.ErrMany}, stageCase{"an empty list", curvesStage([]impl.Curve{}...), impl.ErrMany})
}

// faultyCurveStages have the fault of a curve in each of the three places, and faults in two of them: the first one is told.
func faultyCurveStages() []stageCase {
	var list []stageCase
	for _, f := range faultyCurves() {
		for i := range 3 {
			s := curved()
			s.Curves[i] = f.c
			list = append(list, stageCase{fmt.Sprintf("%s, curve %d", f.what, i), s, f.code})
			for k := i + 1; k < 3; k++ {
				for _, other := range []impl.Curve{curve(1), curve(0, -1)} {
					two := cloneStage(s)
					two.Curves[k] = other
					list = append(list, stageCase{fmt.Sprintf("%s, curve %d, ahead of curve %d", f.what, i, k), two, f.code})
				}
			}
		}
		list = append(list, stageCase{f.what + ", each curve", curvesStage(f.c, f.c, f.c), f.code})
	}
	return list
}

func faultyMatrixStages() []stageCase {
	list := []stageCase{{"no matrix", impl.Stage{Kind: impl.StageMatrix}, impl.ErrMany}}
	for _, f := range faultyMatrices() {
		list = append(list, stageCase{f.what, matrixStage(f.m), f.code})
	}
	return list
}

// faultyGridStages have the fault of a grid; nodes without a side are one as well, and no other thing of the stage.
func faultyGridStages() []stageCase {
	list := []stageCase{{"no grid", impl.Stage{Kind: impl.StageGrid}, impl.ErrRange}, {"nodes without a side", gridStage(impl.Grid{Nodes: lineGrid(2).Nodes}), impl.ErrRange}}
	for _, f := range faultyGrids() {
		list = append(list, stageCase{f.what, gridStage(f.g), f.code})
	}
	return list
}

func faultyStages() []stageCase {
	return slices.Concat(faultyKinds(), faultyForms(), faultyThrees(), faultyCurveStages(), faultyMatrixStages(), faultyGridStages())
}

// fewFaultyStages are two of each code, of different kinds.
func fewFaultyStages() []stageCase {
	withSide := swap()
	withSide.Grid.Side = 2
	return []stageCase{
		{"no kind", impl.Stage{}, impl.ErrForm},
		{"a side beside a matrix", withSide, impl.ErrForm},
		{"two curves", curvesStage(curve(0, top), curve(0, top)), impl.ErrMany},
		{"two rows", matrixStage(impl.Matrix{Rows: [][]int64{{1, 2, 3}, {4, 5, 6}}}), impl.ErrMany},
		{"no level in a curve", curvesStage(curve(0, top), curve(0, top), curve(0, top+1)), impl.ErrRange},
		{"no side", gridStage(impl.Grid{Side: 5}), impl.ErrRange},
	}
}

// someFaultyStages are few enough to be asked much.
func someFaultyStages() []stageCase {
	list := fewFaultyStages()
	all := faultyStages()
	for i := 0; i < len(all); i += 41 {
		list = append(list, all[i])
	}
	return list
}

type chainCase struct {
	what string
	c    impl.Chain
	code int64
}

// faultyPlaces have one stage with a fault, at each place of chains of each length.
func faultyPlaces() []chainCase {
	var list []chainCase
	for n := 1; n <= impl.MaxStages; n++ {
		good := chain(someStages(n)...)
		for place := range n {
			for _, f := range fewFaultyStages() {
				list = append(list, chainCase{fmt.Sprintf("%s, stage %d of %d", f.what, place, n), withStage(good, place, f.s), f.code})
			}
		}
	}
	return list
}

// faultyPairs have two stages with a fault: that of the first one is told.
func faultyPairs() []chainCase {
	var list []chainCase
	for n := 2; n <= impl.MaxStages; n++ {
		good := chain(someStages(n)...)
		for second := range n {
			for first := range second {
				for _, a := range fewFaultyStages() {
					for _, b := range fewFaultyStages() {
						list = append(list, chainCase{fmt.Sprintf("%s, stage %d, ahead of %s, stage %d", a.what, first, b.what, second), withStage(withStage(good, first, a.s), second, b.s), a.code})
					}
				}
			}
		}
	}
	return list
}

// faultyLengths have too many stages, without fault or with one, at both ends.
func faultyLengths() []chainCase {
	list := []chainCase{{"very many", chain(make([]impl.Stage, 70000)...), impl.ErrMany}}
	for _, n := range []int{impl.MaxStages + 1, impl.MaxStages + 2, 2 * impl.MaxStages, 256 + 1, 256 + impl.MaxStages} {
		good := chain(someStages(n)...)
		list = append(list, chainCase{fmt.Sprintf("%d stages", n), good, impl.ErrMany})
		for _, f := range fewFaultyStages() {
			list = append(list,
				chainCase{fmt.Sprintf("%d stages ahead of %s, the first one", n, f.what), withStage(good, 0, f.s), impl.ErrMany},
				chainCase{fmt.Sprintf("%d stages ahead of %s, the last one", n, f.what), withStage(good, n-1, f.s), impl.ErrMany},
				chainCase{fmt.Sprintf("%d stages ahead of %s, each one", n, f.what), chain(slices.Repeat([]impl.Stage{f.s}, n)...), impl.ErrMany})
		}
	}
	return list
}

func faultyChains() []chainCase {
	return slices.Concat(faultyPlaces(), faultyPairs(), faultyLengths())
}

// fewFaultyChains are of each code, with the fault in the first stage and in the last one, and too long.
func fewFaultyChains() []chainCase {
	var list []chainCase
	for _, f := range fewFaultyStages() {
		list = append(list,
			chainCase{f.what + " alone", chain(f.s), f.code},
			chainCase{f.what + " ahead", chain(f.s, swap()), f.code},
			chainCase{f.what + " behind", chain(swap(), down(), mix(), bent(), f.s), f.code})
	}
	return append(list, faultyLengths()[1:6]...)
}

// colourCases are lists of which each one tells a code, the number of numbers ahead of any one of them.
func colourCases() map[int64][][]int64 {
	return casesOf(noLevels(), top)
}

// casesOf has each of the numbers that are none at each place, beside such as go from 0 to most.
func casesOf(none []int64, most int64) map[int64][][]int64 {
	cases := map[int64][][]int64{impl.ErrMany: notThree()}
	for _, bad := range none {
		cases[impl.ErrMany] = append(cases[impl.ErrMany], []int64{bad}, []int64{bad, bad}, []int64{0, 0, 0, bad}, []int64{bad, 0, 0, 0})
		cases[impl.ErrRange] = append(cases[impl.ErrRange], []int64{bad, 0, most}, []int64{0, bad, 32768}, []int64{most, 0, bad}, []int64{bad, bad, bad})
	}
	return cases
}

func TestChainConstants(t *testing.T) {
	if got := []int64{impl.StageCurves, impl.StageMatrix, impl.StageGrid, impl.MaxStages}; !slices.Equal(got, []int64{1, 2, 3, 5}) {
		t.Errorf("StageCurves, StageMatrix, StageGrid, MaxStages are %v", got)
	}
}

func TestStageFaultOfStages(t *testing.T) {
	for _, s := range stages() {
		if code := impl.StageFault(s); code != impl.OK {
			t.Errorf("StageFault(%v) = %d", s, code)
		}
	}
	bounds := []impl.Stage{
		curvesStage(likeCurve(2, 0), likeCurve(17, top), curve(0, top, 0)), matrixStage(likeMatrix(maxCell)), matrixStage(likeMatrix(-maxCell)),
		gridStage(likeGrid(2, 0, 0, top)), gridStage(likeGrid(4, top, top, top)),
	}
	for _, s := range bounds {
		if code := impl.StageFault(s); code != impl.OK {
			t.Errorf("StageFault(%v) = %d", s, code)
		}
	}
}

// Rule 2: an empty list and nil are the same value, so what a kind has not may be an empty list.
func TestStageFaultOfEmptyLists(t *testing.T) {
	for _, s := range fewStages() {
		if s.Kind != impl.StageCurves {
			s.Curves = []impl.Curve{}
		}
		if s.Kind != impl.StageMatrix {
			s.Matrix.Rows = [][]int64{}
		}
		if s.Kind != impl.StageGrid {
			s.Grid.Nodes = [][]int64{}
		}
		if code := impl.StageFault(s); code != impl.OK {
			t.Errorf("StageFault(%v) = %d", s, code)
		}
		if code := impl.ChainFault(chain(s)); code != impl.OK {
			t.Errorf("ChainFault of %v = %d", s, code)
		}
		v := []int64{10, 20000, 60000}
		isList(t, "EvalStage with empty lists", impl.EvalStage(s, v), wantStage(s, v)...)
		isChain(t, "JoinChains with empty lists", impl.JoinChains(chain(s), chain(s)), chain(s, s))
	}
}

func TestStageFault(t *testing.T) {
	for _, f := range faultyStages() {
		if code := impl.StageFault(f.s); code != f.code {
			t.Errorf("%s: StageFault = %d, want %d", f.what, code, f.code)
		}
	}
	if code := impl.StageFault(impl.Stage{}); code != impl.ErrForm {
		t.Errorf("StageFault of the zero value = %d", code)
	}
}

// A thing that one kind has is a fault of the two others, and only of those: Kind alone says what a stage is.
func TestStageFaultOfEachKindWithEachThing(t *testing.T) {
	for _, s := range stages() {
		for _, kind := range kinds() {
			want := int64(impl.ErrForm)
			if kind == s.Kind {
				want = impl.OK
			}
			other := s
			other.Kind = kind
			if code := impl.StageFault(other); code != want {
				t.Fatalf("StageFault of kind %d as kind %d = %d", s.Kind, kind, code)
			}
		}
	}
}

func TestChainFaultOfChains(t *testing.T) {
	for _, c := range append(chains(), someChains()...) {
		if code := impl.ChainFault(c); code != impl.OK {
			t.Errorf("ChainFault(%v) = %d", c, code)
		}
	}
	for n := range impl.MaxStages + 1 {
		if code := impl.ChainFault(chain(someStages(n)...)); code != impl.OK {
			t.Errorf("ChainFault of %d stages = %d", n, code)
		}
	}
}

func TestChainFault(t *testing.T) {
	for _, f := range faultyChains() {
		if code := impl.ChainFault(f.c); code != f.code {
			t.Errorf("%s: ChainFault = %d, want %d", f.what, code, f.code)
		}
	}
	for _, f := range faultyStages() {
		if code := impl.ChainFault(chain(f.s)); code != f.code {
			t.Errorf("%s alone: ChainFault = %d, want %d", f.what, code, f.code)
		}
		if code := impl.ChainFault(chain(down(), f.s)); code != f.code {
			t.Errorf("%s behind: ChainFault = %d, want %d", f.what, code, f.code)
		}
	}
}

// Rule 6: the fault comes ahead of the codes of v, and nothing is told beside it.
func TestFaultsAreAskedAheadOfTheColour(t *testing.T) {
	lists := [][]int64{{0, 0, 0}, {top, top, top}, {1, 2, 3}, {0, 0, -1}, {0, top + 1, 0}, {1, 1}, {0, 0, 0, 0}, {-1}, nil}
	for _, f := range faultyStages() {
		for _, v := range lists {
			isNoList(t, "EvalStage, "+f.what, impl.EvalStage(f.s, v), f.code)
		}
	}
	for _, f := range faultyChains() {
		for _, v := range lists {
			isNoList(t, "EvalChain, "+f.what, impl.EvalChain(f.c, v), f.code)
			isNoSteps(t, "StepsOf, "+f.what, impl.StepsOf(f.c, v), f.code)
		}
	}
}

// The codes of v are asked with each kind of stage, and of no stage, too.
func TestChainsOfNoColour(t *testing.T) {
	for code, lists := range colourCases() {
		for _, v := range lists {
			for _, s := range fewStages() {
				isNoList(t, "EvalStage", impl.EvalStage(s, v), code)
			}
			for _, c := range someChains() {
				isNoList(t, "EvalChain", impl.EvalChain(c, v), code)
				isNoSteps(t, "StepsOf", impl.StepsOf(c, v), code)
			}
		}
	}
}

func TestEvalStageCases(t *testing.T) {
	v := []int64{10, 20, 31}
	isList(t, "EvalStage of a matrix", impl.EvalStage(swap(), v), 20, 10, 16)
	isList(t, "EvalStage of curves", impl.EvalStage(down(), v), 65525, 65515, 65504)
	isList(t, "EvalStage of three curves", impl.EvalStage(curvesStage(curve(0, 100, top), curve(7, 7), curve(top, 0)), []int64{32768, 5, 1}), 101, 7, 65534)
	isList(t, "EvalStage of a line", impl.EvalStage(gridStage(lineGrid(3)), []int64{60000, 100, 7}), 60000, 100, 7)
	isList(t, "EvalStage of like nodes", impl.EvalStage(gridStage(likeGrid(4, 1, 2, 3)), v), 1, 2, 3)
	for _, end := range []int64{0, top} {
		isList(t, "curves at an end", impl.EvalStage(down(), []int64{end, end, end}), top-end, top-end, top-end)
		isList(t, "a matrix at an end", impl.EvalStage(matrixStage(diagonal(one, half, -one)), []int64{end, end, end}), end, (end+1)/2, 0)
		isList(t, "a grid at an end", impl.EvalStage(gridStage(numberedGrid(4)), []int64{end, end, end}), 333*end/top, 1000+333*end/top, 60000-333*end/top)
	}
}

func TestEvalStageIsExact(t *testing.T) {
	list := append(colours(), []int64{0, top, 0}, []int64{top, 0, top})
	for i, s := range stages() {
		for k := i % 3; k < len(list); k += 3 {
			isList(t, fmt.Sprintf("EvalStage(%v, %v)", s, list[k]), impl.EvalStage(s, list[k]), wantStage(s, list[k])...)
		}
		for _, v := range [][]int64{{0, 0, 0}, {top, top, top}} {
			isList(t, fmt.Sprintf("EvalStage(%v, %v)", s, v), impl.EvalStage(s, v), wantStage(s, v)...)
		}
	}
}

// What a stage tells is what the function of its kind tells, at many colours.
func TestEvalStageIsThatOfItsKind(t *testing.T) {
	for _, s := range fewStages() {
		for _, v := range manyColours() {
			want := impl.IntsResult{}
			switch s.Kind {
			case impl.StageCurves:
				for i, c := range s.Curves {
					want.List = append(want.List, impl.EvalCurve(c, v[i]).Value)
				}
			case impl.StageMatrix:
				want = impl.ApplyMatrix(s.Matrix, v)
			case impl.StageGrid:
				want = impl.EvalGrid(s.Grid, v)
			}
			isList(t, "EvalStage", impl.EvalStage(s, v), want.List...)
		}
	}
}

// Promise 7: curves do with each number what each one does alone, at every level.
func TestCurvesDoWhatEachOneDoesAlone(t *testing.T) {
	for _, s := range []impl.Stage{curved(), curvesStage(curve(top, 0), spreadCurve(9, 4), curve(0, top))} {
		for v := range int64(top + 1) {
			colour := []int64{v, top - v, (v + 21845) % (top + 1)}
			got := impl.EvalStage(s, colour)
			for i, c := range s.Curves {
				if got.Code != impl.OK || len(got.List) != 3 || got.List[i] != impl.EvalCurve(c, colour[i]).Value {
					t.Fatalf("EvalStage(%v, %v) = %+v, but curve %d alone tells %+v", s, colour, got, i, impl.EvalCurve(c, colour[i]))
				}
			}
		}
	}
}

// Promise 7: another number, or another curve, at one place turns what comes out at that place, and no other.
func TestCurvesDoNothingWithTheOthers(t *testing.T) {
	all := curves()
	for n, s := range curveStages() {
		for i := range 3 {
			v := []int64{40000, 21845, 9}
			before := impl.EvalStage(s, v).List
			v[i] = top - v[i]
			want := slices.Clone(before)
			want[i] = wantEval(s.Curves[i], v[i])
			isList(t, "EvalStage with another number", impl.EvalStage(s, v), want...)
			other := cloneStage(s)
			other.Curves[i] = all[(7*n+i)%len(all)]
			want[i] = wantEval(other.Curves[i], v[i])
			isList(t, "EvalStage with another curve", impl.EvalStage(other, v), want...)
		}
	}
}

// Promise 7: curves and numbers in another order tell the same in that order.
func TestCurvesInAnotherOrder(t *testing.T) {
	for _, s := range curveStages() {
		for _, o := range orders() {
			other := curvesStage(s.Curves[o.from[0]], s.Curves[o.from[1]], s.Curves[o.from[2]])
			for _, v := range colours()[5:10] {
				isList(t, "EvalStage in another order", impl.EvalStage(other, ordered(v, o)), ordered(impl.EvalStage(s, v).List, o)...)
			}
		}
	}
}

func TestChainCases(t *testing.T) {
	c, v := chain(swap(), down()), []int64{10, 20, 31}
	isList(t, "EvalChain", impl.EvalChain(c, v), 65515, 65525, 65519)
	isSteps(t, "StepsOf", impl.StepsOf(c, v), [][]int64{{10, 20, 31}, {20, 10, 16}, {65515, 65525, 65519}})
	isList(t, "EvalChain the other way round", impl.EvalChain(chain(down(), swap()), v), 65515, 65525, 32752)
	isSteps(t, "StepsOf the other way round", impl.StepsOf(chain(down(), swap()), v), [][]int64{{10, 20, 31}, {65525, 65515, 65504}, {65515, 65525, 32752}})
	isList(t, "EvalChain of a grid behind", impl.EvalChain(chain(swap(), gridStage(lineGrid(2)), down()), v), 65515, 65525, 65519)
	isList(t, "each step is rounded", impl.EvalChain(chain(matrixStage(diagonal(half, half, half)), matrixStage(diagonal(2*one, 2*one, 2*one))), []int64{1, 2, 3}), 2, 2, 4)
	isList(t, "each step is a level", impl.EvalChain(chain(matrixStage(diagonal(-one, 4*one, one)), down()), []int64{7, 60000, 9}), top, 0, top-9)
}

// A chain of no stage at all does nothing: v alone is its only step, at every level.
func TestChainOfNoStage(t *testing.T) {
	for _, c := range []impl.Chain{{}, {Stages: []impl.Stage{}}} {
		for v := range int64(top + 1) {
			colour := []int64{v, top - v, (v + 32768) % (top + 1)}
			isList(t, "EvalChain of no stage", impl.EvalChain(c, colour), colour...)
			isSteps(t, "StepsOf of no stage", impl.StepsOf(c, colour), [][]int64{colour})
			if t.Failed() {
				return
			}
		}
		for _, v := range append(manyColours(), []int64{0, 0, 0}, []int64{top, top, top}) {
			isList(t, "EvalChain of no stage", impl.EvalChain(c, v), v...)
			isSteps(t, "StepsOf of no stage", impl.StepsOf(c, v), [][]int64{v})
		}
	}
}

func TestChainsAreExact(t *testing.T) {
	list := append([][]int64{{0, 0, 0}, {top, top, top}, {0, top, 0}}, colours()[5:16]...)
	for _, c := range append(chains(), someChains()...) {
		for _, v := range list {
			want := wantSteps(c, v)
			isSteps(t, fmt.Sprintf("StepsOf(%v, %v)", c, v), impl.StepsOf(c, v), want)
			isList(t, fmt.Sprintf("EvalChain(%v, %v)", c, v), impl.EvalChain(c, v), want[len(want)-1]...)
		}
	}
}

// A chain of one stage does what the stage does; every step is that stage behind the step ahead of it.
func TestStepsAreStages(t *testing.T) {
	for _, c := range chains() {
		for _, v := range colours()[4:12] {
			got := impl.StepsOf(c, v)
			if got.Code != impl.OK || len(got.Steps) != len(c.Stages)+1 || !slices.Equal(got.Steps[0], v) {
				t.Fatalf("StepsOf(%v, %v) = %+v", c, v, got)
			}
			for i, s := range c.Stages {
				isList(t, "EvalStage of a step", impl.EvalStage(s, got.Steps[i]), got.Steps[i+1]...)
				isList(t, "EvalChain of the stages so far", impl.EvalChain(chain(c.Stages[:i]...), v), got.Steps[i]...)
			}
			isList(t, "EvalChain", impl.EvalChain(c, v), got.Steps[len(c.Stages)]...)
		}
	}
}

func TestJoinChains(t *testing.T) {
	for _, a := range someChains() {
		for _, b := range someChains() {
			got := impl.JoinChains(a, b)
			if len(a.Stages)+len(b.Stages) > impl.MaxStages {
				isNoChain(t, "JoinChains of too many", got, impl.ErrMany)
				continue
			}
			isChain(t, "JoinChains", got, chain(slices.Concat(a.Stages, b.Stages)...))
			if code := impl.ChainFault(got.Chain); code != impl.OK {
				t.Errorf("what is joined has the fault %d", code)
			}
		}
	}
}

// An empty chain on a side leaves the other one as it was, and two of them are an empty one; nil and empty are the same.
func TestJoinChainsWithAnEmptyOne(t *testing.T) {
	for _, none := range []impl.Chain{{}, {Stages: []impl.Stage{}}} {
		for _, c := range chains() {
			isChain(t, "JoinChains with none behind", impl.JoinChains(c, none), c)
			isChain(t, "JoinChains with none ahead", impl.JoinChains(none, c), c)
		}
		isChain(t, "JoinChains of none and none", impl.JoinChains(none, impl.Chain{}), impl.Chain{})
		isChain(t, "JoinChains of none and an empty one", impl.JoinChains(none, impl.Chain{Stages: []impl.Stage{}}), impl.Chain{})
	}
}

// Every two lengths: up to MaxStages together are joined, one more is too many.
func TestJoinChainsOfEachLength(t *testing.T) {
	for n := range impl.MaxStages + 1 {
		for m := range impl.MaxStages + 1 {
			list := someStages(n + m)
			got := impl.JoinChains(chain(list[:n]...), chain(list[n:]...))
			if n+m > impl.MaxStages {
				isNoChain(t, fmt.Sprintf("JoinChains of %d and %d", n, m), got, impl.ErrMany)
			} else {
				isChain(t, fmt.Sprintf("JoinChains of %d and %d", n, m), got, chain(list...))
			}
		}
	}
}

// Rule 6: the fault of a, then that of b, and only then how many there are together.
func TestJoinChainsAsksInOrder(t *testing.T) {
	for _, a := range append(faultyPlaces(), faultyLengths()...) {
		for _, c := range []impl.Chain{{}, chain(swap()), chain(someStages(impl.MaxStages)...)} {
			isNoChain(t, "JoinChains ahead, "+a.what, impl.JoinChains(a.c, c), a.code)
			isNoChain(t, "JoinChains behind, "+a.what, impl.JoinChains(c, a.c), a.code)
		}
		for _, b := range fewFaultyChains() {
			isNoChain(t, a.what+", then "+b.what, impl.JoinChains(a.c, b.c), a.code)
			isNoChain(t, b.what+", then "+a.what, impl.JoinChains(b.c, a.c), b.code)
		}
	}
	for _, f := range someFaultyStages() {
		isNoChain(t, "JoinChains ahead, "+f.what, impl.JoinChains(chain(f.s), chain(swap())), f.code)
		isNoChain(t, "JoinChains behind, "+f.what, impl.JoinChains(chain(swap()), chain(f.s)), f.code)
	}
}

// Promise 7: a chain that is joined of two does the one behind the other, step by step.
func TestAJoinedChainDoesTheOneBehindTheOther(t *testing.T) {
	joined := 0
	for _, a := range someChains() {
		for _, b := range someChains() {
			both := impl.JoinChains(a, b)
			if both.Code != impl.OK {
				continue
			}
			joined++
			for _, v := range append(colours()[:12], []int64{top, 0, top}) {
				ahead := impl.StepsOf(a, v).Steps
				middle := impl.EvalChain(a, v).List
				behind := impl.StepsOf(b, middle).Steps
				isSteps(t, "StepsOf what is joined", impl.StepsOf(both.Chain, v), slices.Concat(ahead, behind[1:]))
				isList(t, "EvalChain of what is joined", impl.EvalChain(both.Chain, v), impl.EvalChain(b, middle).List...)
			}
		}
	}
	if joined < 80 {
		t.Errorf("only %d pairs were joined", joined)
	}
}

// Promise 7: wherever a chain is cut, its two parts joined are the chain again; of three it is the same which two are joined first.
func TestJoinedWhereverItIsCut(t *testing.T) {
	for _, c := range chains() {
		for cut := range len(c.Stages) + 1 {
			a, b := chain(c.Stages[:cut]...), chain(c.Stages[cut:]...)
			isChain(t, "JoinChains of what was cut", impl.JoinChains(a, b), c)
			for second := cut; second <= len(c.Stages); second++ {
				x, y := chain(c.Stages[cut:second]...), chain(c.Stages[second:]...)
				isChain(t, "the first two first", impl.JoinChains(impl.JoinChains(a, x).Chain, y), c)
				isChain(t, "the last two first", impl.JoinChains(a, impl.JoinChains(x, y).Chain), c)
			}
		}
	}
}

// oneOther answers chains that differ from c in one thing alone, each one in another.
func oneOther(c impl.Chain) []impl.Chain {
	list := []impl.Chain{chain(append(cloneChain(c).Stages, impl.Stage{})...)}
	for i, s := range c.Stages {
		add := func(change func(own *impl.Stage)) {
			own := cloneStage(s)
			change(&own)
			list = append(list, withStage(c, i, own))
		}
		for _, kind := range []int64{s.Kind + 1, s.Kind - 1, -s.Kind - 9, s.Kind + 1<<32} {
			add(func(own *impl.Stage) { own.Kind = kind })
		}
		add(func(own *impl.Stage) { own.Grid.Side++ })
		add(func(own *impl.Stage) { own.Curves = append(own.Curves, impl.Curve{}) })
		add(func(own *impl.Stage) { own.Matrix.Rows = append(own.Matrix.Rows, nil) })
		add(func(own *impl.Stage) { own.Grid.Nodes = append(own.Grid.Nodes, nil) })
		for k, of := range s.Curves {
			add(func(own *impl.Stage) { own.Curves[k].Points = append(own.Curves[k].Points, 0) })
			for n := range of.Points {
				add(func(own *impl.Stage) { own.Curves[k].Points[n] ^= 1 })
			}
		}
		addLists(add, s.Matrix.Rows, func(own *impl.Stage) [][]int64 { return own.Matrix.Rows })
		addLists(add, s.Grid.Nodes, func(own *impl.Stage) [][]int64 { return own.Grid.Nodes })
		list = append(list, chain(slices.Delete(cloneChain(c).Stages, i, i+1)...))
	}
	return list
}

// addLists adds of each list one more number, and another one at each place.
func addLists(add func(func(*impl.Stage)), lists [][]int64, of func(*impl.Stage) [][]int64) {
	for i := range lists {
		add(func(own *impl.Stage) { of(own)[i] = append(of(own)[i], 0) })
		for k := range lists[i] {
			add(func(own *impl.Stage) { of(own)[i][k] ^= 1 })
		}
	}
}

func isSame(t *testing.T, a impl.Chain, b impl.Chain, want bool) {
	t.Helper()
	if impl.SameChains(a, b) != want || impl.SameChains(b, a) != want {
		t.Errorf("SameChains(%v, %v) is not %v", a, b, want)
	}
}

func TestSameChains(t *testing.T) {
	list := append(someChains(), chain(impl.Stage{}), chain(curved(), impl.Stage{Kind: 2, Curves: down().Curves, Matrix: likeMatrix(maxCell + 1), Grid: impl.Grid{Side: 9, Nodes: [][]int64{{1}, nil}}}))
	for _, f := range fewFaultyChains() {
		list = append(list, f.c)
	}
	for _, c := range list {
		isSame(t, c, c, true)
		isSame(t, c, cloneChain(c), true)
		for _, other := range oneOther(chain(c.Stages[:min(len(c.Stages), impl.MaxStages+1)]...)) {
			isSame(t, c, other, told(c) == told(other))
		}
	}
	for _, a := range list {
		for _, b := range list {
			isSame(t, a, b, told(a) == told(b))
		}
	}
}

// One thing alone that is other, at each place of a chain of MaxStages, with a fault and without one.
func TestSameChainsOfOneOtherThing(t *testing.T) {
	whole := chain(down(), swap(), gridStage(numberedGrid(3)), curved(), bent())
	broken := chain(impl.Stage{}, impl.Stage{Kind: 3, Curves: []impl.Curve{curve(-1), {}}}, impl.Stage{Kind: -7, Matrix: matrix(1, 2, 3, 4, maxCell+1, 6, 7, 8, 9), Grid: impl.Grid{Side: 99, Nodes: [][]int64{{-1, 5}, {7}}}})
	for _, c := range []impl.Chain{whole, broken} {
		others := oneOther(c)
		if len(others) < 30 {
			t.Fatalf("only %d others", len(others))
		}
		for i, other := range others {
			isSame(t, c, other, false)
			isSame(t, other, cloneChain(other), true)
			for k := (i % 17) + 1; i+k < len(others); k += 17 {
				isSame(t, other, others[i+k], told(other) == told(others[i+k]))
			}
		}
	}
	isSame(t, chain(swap(), down()), chain(down(), swap()), false)
	isSame(t, chain(swap(), swap()), chain(swap()), false)
	isSame(t, chain(down(), swap(), mix()), chain(down(), mix(), swap()), false)
}

// Rule 2: an empty list and nil are the same value, in each place; but a list of nothing is not.
func TestSameChainsOfEmptyLists(t *testing.T) {
	empty := impl.Stage{Curves: []impl.Curve{}, Matrix: impl.Matrix{Rows: [][]int64{}}, Grid: impl.Grid{Nodes: [][]int64{}}}
	inner := impl.Stage{Curves: []impl.Curve{{}}, Matrix: impl.Matrix{Rows: [][]int64{nil}}, Grid: impl.Grid{Nodes: [][]int64{nil}}}
	innerEmpty := impl.Stage{Curves: []impl.Curve{curve([]int64{}...)}, Matrix: impl.Matrix{Rows: [][]int64{{}}}, Grid: impl.Grid{Nodes: [][]int64{{}}}}
	isSame(t, impl.Chain{}, impl.Chain{Stages: []impl.Stage{}}, true)
	isSame(t, chain(impl.Stage{}), chain(empty), true)
	isSame(t, chain(inner, empty), chain(innerEmpty, impl.Stage{}), true)
	others := []impl.Chain{{}, chain(empty), chain(empty, empty), chain(inner), chain(impl.Stage{Curves: inner.Curves}), chain(impl.Stage{Matrix: inner.Matrix}), chain(impl.Stage{Grid: inner.Grid})}
	for i, a := range others {
		for k, b := range others {
			isSame(t, a, b, i == k)
		}
	}
}

// roomyChain answers c in memory that has room behind each of its lists, and whether all of that is still as it was.
func roomyChain(c impl.Chain) (impl.Chain, func() bool) {
	own := impl.Chain{Stages: make([]impl.Stage, 0, len(c.Stages)+2)}
	var checks []func() bool
	for _, s := range c.Stages {
		mine := impl.Stage{Kind: s.Kind, Curves: make([]impl.Curve, 0, len(s.Curves)+2)}
		for _, of := range s.Curves {
			roomy, unchanged := roomyCurve(of)
			mine.Curves, checks = append(mine.Curves, roomy), append(checks, unchanged)
		}
		var rows, nodes func() bool
		mine.Matrix, rows = roomyMatrix(s.Matrix)
		mine.Grid, nodes = roomyGrid(s.Grid)
		own.Stages, checks = append(own.Stages, mine), append(checks, rows, nodes)
	}
	whole := func() string {
		text := fmt.Sprint(own.Stages[:cap(own.Stages)])
		for _, s := range own.Stages {
			text += fmt.Sprint(s.Curves[:cap(s.Curves)])
		}
		return text
	}
	kept := whole()
	return own, func() bool {
		return whole() == kept && !slices.ContainsFunc(checks, func(unchanged func() bool) bool { return !unchanged() })
	}
}

func chainsAndFaulty() []impl.Chain {
	list := append(someChains(), chains()[60:110]...)
	for _, f := range fewFaultyChains() {
		list = append(list, f.c)
	}
	for _, f := range someFaultyStages() {
		list = append(list, chain(f.s), chain(swap(), f.s))
	}
	return list
}

// Promise 1: no argument is changed, whether there is a code or not, nor what lies behind it in its memory.
func TestChainsChangeNoArgument(t *testing.T) {
	lists, listsUnchanged := roomyLists([][]int64{{0, 0, 0}, {5, 600, 7000}, {top, top, top}, {top, 5, 600}, {1, 2}, {1, 2, 3, 4}, {1, -1, 0}, {0, 0, top + 1}, nil})
	other, otherUnchanged := roomyChain(chain(curved(), swap(), bent()))
	for _, c := range chainsAndFaulty() {
		own, unchanged := roomyChain(c)
		impl.ChainFault(own)
		impl.SameChains(own, c)
		impl.SameChains(c, own)
		impl.JoinChains(own, own)
		impl.JoinChains(own, other)
		impl.JoinChains(other, own)
		for _, v := range lists {
			impl.EvalChain(own, v)
			impl.StepsOf(own, v)
		}
		for _, s := range own.Stages[:min(len(own.Stages), impl.MaxStages)] {
			impl.StageFault(s)
			for _, v := range lists {
				impl.EvalStage(s, v)
			}
		}
		if !unchanged() || !listsUnchanged() || !otherUnchanged() {
			t.Fatalf("%v or a list was changed", c)
		}
	}
}

// memory is where a list lies, with all that it has room for.
type memory struct {
	from, to uintptr
}

// memoriesOf tells where each list lies that can be reached from v, each one as often as it is met.
func memoriesOf(v reflect.Value) []memory {
	var list []memory
	switch v.Kind() {
	case reflect.Struct:
		for i := range v.NumField() {
			list = append(list, memoriesOf(v.Field(i))...)
		}
	case reflect.Slice:
		if size := uintptr(v.Cap()) * v.Type().Elem().Size(); size > 0 {
			list = append(list, memory{v.Pointer(), v.Pointer() + size})
		}
		for i := range v.Len() {
			list = append(list, memoriesOf(v.Index(i))...)
		}
	}
	return list
}

// isNewMemory tells whether no two lists of the answer share any memory, and none does with an argument.
func isNewMemory(t *testing.T, what string, answer any, arguments ...any) {
	t.Helper()
	own := memoriesOf(reflect.ValueOf(answer))
	var others []memory
	for _, a := range arguments {
		others = append(others, memoriesOf(reflect.ValueOf(a))...)
	}
	for i, m := range own {
		for _, o := range slices.Concat(own[:i], others) {
			if m.from < o.to && o.from < m.to {
				t.Fatalf("%s: lists share memory: %+v", what, answer)
			}
		}
	}
}

// The check of new memory is worth something: it finds a list that is there twice, and a part of one.
func TestMemoriesAreTold(t *testing.T) {
	whole := []int64{1, 2, 3, 4}
	if n := len(memoriesOf(reflect.ValueOf(chain(curved(), swap(), gridStage(lineGrid(2)))))); n != 1+1+3+1+3+1+8 {
		t.Errorf("%d lists", n)
	}
	list := memoriesOf(reflect.ValueOf([][]int64{whole, whole[1:2]}))
	if len(list) != 3 || list[1].from+8 != list[2].from || list[1].to != list[2].to {
		t.Errorf("%v", list)
	}
}

// Promise 1: what is answered is new memory, each list for itself; v of no stage, too.
func TestChainsAnswerNewMemory(t *testing.T) {
	v := append(make([]int64, 0, 8), 5, 600, 7000)
	for _, c := range chainsAndFaulty() {
		own, unchanged := roomyChain(c)
		checkNewLists(t, "StepsOf", func() [][]int64 { return impl.StepsOf(own, v).Steps })
		checkNewLists(t, "EvalChain", func() [][]int64 { return [][]int64{impl.EvalChain(own, v).List} })
		isNewMemory(t, "StepsOf", impl.StepsOf(own, v), own, v)
		isNewMemory(t, "EvalChain", impl.EvalChain(own, v), own, v)
		for _, s := range own.Stages[:min(len(own.Stages), impl.MaxStages)] {
			checkNewLists(t, "EvalStage", func() [][]int64 { return [][]int64{impl.EvalStage(s, v).List} })
			isNewMemory(t, "EvalStage", impl.EvalStage(s, v), s, v)
		}
		isNewMemory(t, "JoinChains with itself", impl.JoinChains(own, own), own)
		isNewMemory(t, "JoinChains with none behind", impl.JoinChains(own, impl.Chain{}), own)
		isNewMemory(t, "JoinChains with none ahead", impl.JoinChains(impl.Chain{Stages: own.Stages[:0]}, own), own)
		if !unchanged() || !slices.Equal(v[:cap(v)], []int64{5, 600, 7000, 0, 0, 0, 0, 0}) {
			t.Fatalf("%v: an answer shares memory with an argument", c)
		}
	}
}

// Lists of an argument may share memory: those of the answer do not, and what is told hangs on the numbers alone.
func TestChainsOfListsThatShareMemory(t *testing.T) {
	points := []int64{0, 30000, 40000, 2, 60000}
	same := curve(points[:3]...)
	rows := [][]int64{points[:3], points[:3], points[1:4]}
	nodes := slices.Repeat([][]int64{points[2:]}, 8)
	shared := []impl.Stage{curvesStage(same, same, curve(points[1:]...)), matrixStage(impl.Matrix{Rows: rows}), gridStage(impl.Grid{Side: 2, Nodes: nodes})}
	a, b := chain(shared[0], shared[0], shared[1]), chain(shared[1:]...)
	apart := chain(slices.Concat(cloneChain(a).Stages, cloneChain(b).Stages)...)
	got := impl.JoinChains(a, b)
	isChain(t, "JoinChains", got, apart)
	isNewMemory(t, "JoinChains", got, a, b)
	for i := range 3 {
		v := points[i : i+3]
		want := wantSteps(apart, slices.Clone(v))
		isSteps(t, "StepsOf", impl.StepsOf(got.Chain, v), want)
		isSteps(t, "StepsOf of lists that share memory", impl.StepsOf(a, v), want[:4])
		isNewMemory(t, "StepsOf", impl.StepsOf(a, v), a, v)
	}
	isSame(t, a, chain(apart.Stages[:3]...), true)
	fillInts(got.Chain.Stages[0].Curves[0].Points)
	if !slices.Equal(points, []int64{0, 30000, 40000, 2, 60000}) || told(chain(a.Stages[1:]...)) != told(chain(apart.Stages[1:3]...)) {
		t.Errorf("an answer shares memory with an argument: %v", points)
	}
}

// Promise 1: what is joined stays as it is when the two that it was joined of turn, and the other way round.
func TestJoinedChainsStayAsTheyAre(t *testing.T) {
	for _, c := range someChains() {
		first, second := cloneChain(c), chain()
		got, again := impl.JoinChains(first, second), impl.JoinChains(second, first)
		spoilChain(first)
		isChain(t, "JoinChains behind a change", got, c)
		spoilChain(got.Chain)
		isChain(t, "the other answer", again, c)
	}
}

// spoilChain changes all that can be reached from c.
func spoilChain(c impl.Chain) {
	for i, s := range c.Stages {
		for k := range s.Curves {
			fillInts(s.Curves[k].Points)
			s.Curves[k] = impl.Curve{}
		}
		for _, lists := range [][][]int64{s.Matrix.Rows, s.Grid.Nodes} {
			for k := range lists {
				fillInts(lists[k])
				lists[k] = nil
			}
		}
		c.Stages[i] = impl.Stage{Kind: -5}
	}
}

// isToldAgain asks of each one what ask asks, and again from the last one on, of the same in other memory.
func isToldAgain[A any, T any](t *testing.T, list []A, roomy func(A) (A, func() bool), ask func(A) T) {
	t.Helper()
	var first []T
	for _, c := range list {
		first = append(first, ask(c))
	}
	for i, c := range slices.Backward(list) {
		own, _ := roomy(c)
		if second := ask(own); !reflect.DeepEqual(first[i], second) {
			t.Fatalf("%v: %+v, then %+v", c, first[i], second)
		}
	}
}

// Promise 1: the same arguments have the same answer, whatever was asked between.
func TestChainsAnswerTheSameAgain(t *testing.T) {
	type answers struct {
		fault        int64
		stageFaults  []int64
		values       []impl.IntsResult
		steps        []impl.StepsResult
		joined       []string
		sameAsOthers []bool
	}
	list := chainsAndFaulty()
	ask := func(c impl.Chain) answers {
		a := answers{fault: impl.ChainFault(c)}
		for _, other := range list[:8] {
			behind, ahead := impl.JoinChains(c, other), impl.JoinChains(other, c)
			a.joined = append(a.joined, fmt.Sprint(behind), fmt.Sprint(ahead))
			a.sameAsOthers = append(a.sameAsOthers, impl.SameChains(c, other))
		}
		for _, v := range [][]int64{{1, 2, 3}, {top, 0, 30000}, {500, 500, 70}, {1, 2}, {1, -2, 3}} {
			a.values = append(a.values, impl.EvalChain(c, v))
			a.steps = append(a.steps, impl.StepsOf(c, v))
			for _, s := range c.Stages[:min(len(c.Stages), impl.MaxStages)] {
				a.stageFaults = append(a.stageFaults, impl.StageFault(s))
				a.values = append(a.values, impl.EvalStage(s, v))
			}
		}
		return a
	}
	isToldAgain(t, list, roomyChain, ask)
}
