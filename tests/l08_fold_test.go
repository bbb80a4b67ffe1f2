package tests

import (
	"fmt"
	"slices"
	"testing"

	"loop.example/g00639/impl"
)

func threeCurves(c impl.Curve) impl.Stage {
	return curvesStage(cloneCurves([]impl.Curve{c, c, c})...)
}

// idleStages are all stages that do nothing.
func idleStages() []impl.Stage {
	return []impl.Stage{threeCurves(curve(0, top)), matrixStage(diagonal(one, one, one)), gridStage(lineGrid(2)), gridStage(lineGrid(4))}
}

// linesOfMorePoints are all curves of more than two points that lie just on the line from 0 to MaxLevel.
func linesOfMorePoints() []impl.Curve {
	var list []impl.Curve
	for _, lines := range []int64{3, 5, 15} {
		c := impl.Curve{}
		for i := range lines + 1 {
			c.Points = append(c.Points, i*(top/lines))
		}
		list = append(list, c)
	}
	return list
}

// otherCurves are not the two points 0 and MaxLevel, some of them by one part or by a point alone.
func otherCurves() []impl.Curve {
	list := []impl.Curve{
		curve(0, top-1), curve(1, top), curve(0, 0), curve(top, top), curve(top, 0), curve(1, top-1),
		curve(0, top, top), curve(0, 0, top), curve(0, 32767, top), curve(0, 32768, top), curve(0, top, 0), curve(0, 65534, 1, top),
	}
	for n := int64(3); n <= impl.MaxPoints; n++ {
		list = append(list, impl.LineCurve(n).Curve)
	}
	return append(list, linesOfMorePoints()...)
}

// busyCurves have another curve at one place, at two, or at all three.
func busyCurves() []impl.Stage {
	var list []impl.Stage
	for _, other := range otherCurves() {
		for which := 1; which < 8; which++ {
			s := threeCurves(curve(0, top))
			for place := range s.Curves {
				if which>>place&1 == 1 {
					s.Curves[place] = curve(slices.Clone(other.Points)...)
				}
			}
			list = append(list, s)
		}
	}
	return list
}

// busyMatrices differ from the unit matrix by one part at each place, by the order of the rows, or by more.
func busyMatrices() []impl.Stage {
	unit := diagonal(one, one, one)
	list := []impl.Matrix{diagonal(0, 0, 0), diagonal(-one, -one, -one), diagonal(one, one, -one), diagonal(one, one, 0), likeMatrix(one), diagonal(1, 1, 1), diagonal(top, top, top)}
	for n := range 9 {
		i, k := n/3, n%3
		list = append(list, with(unit, i, k, unit.Rows[i][k]+1), with(unit, i, k, unit.Rows[i][k]-1))
	}
	for _, o := range orders()[1:] {
		list = append(list, rowsOrdered(unit, o))
	}
	var stages []impl.Stage
	for _, m := range list {
		stages = append(stages, matrixStage(m))
	}
	return stages
}

// busyGrids are the line of 3, and what differs from a line in one number of one node, or by the order of the axes, or in each node.
func busyGrids() []impl.Stage {
	list := []impl.Stage{gridStage(lineGrid(3))}
	for _, side := range sides() {
		line := lineGrid(side)
		for n, node := range line.Nodes {
			for k, level := range node {
				for _, v := range []int64{level - 1, level + 1, top - level} {
					if within(v, 0, top) && v != level {
						list = append(list, gridStage(withLevel(line, n, k, v)))
					}
				}
			}
		}
		for _, o := range orders()[1:] {
			list = append(list, gridStage(axesOrdered(line, o)))
		}
		list = append(list, gridStage(likeGrid(side, 0, 0, 0)), gridStage(numberedGrid(side)))
	}
	return list
}

// busyStages do something, or are at least not told to do nothing.
func busyStages() []impl.Stage {
	return slices.Concat(fewStages(), busyCurves(), busyMatrices(), busyGrids())
}

// fewBusyStages are all others than each other, and some of them nearly do nothing.
func fewBusyStages() []impl.Stage {
	return append(fewStages()[:5],
		gridStage(lineGrid(3)), threeCurves(linesOfMorePoints()[0]), matrixStage(with(diagonal(one, one, one), 1, 2, 1)),
		curvesStage(curve(0, top), curve(0, top), curve(0, top-1)), gridStage(withLevel(lineGrid(4), 21, 1, 21846)), gridStage(withLevel(lineGrid(2), 7, 2, top-1)))
}

// emptied answers s with an empty list for each one that it has not.
func emptied(s impl.Stage) impl.Stage {
	own := cloneStage(s)
	if len(own.Curves) == 0 {
		own.Curves = []impl.Curve{}
	}
	if len(own.Matrix.Rows) == 0 {
		own.Matrix.Rows = [][]int64{}
	}
	if len(own.Grid.Nodes) == 0 {
		own.Grid.Nodes = [][]int64{}
	}
	return own
}

func isIdle(t *testing.T, what string, s impl.Stage, want bool) {
	t.Helper()
	if impl.IsNothing(s) != want {
		t.Errorf("%s: IsNothing(%v) is not %v", what, s, want)
	}
}

func TestIsNothing(t *testing.T) {
	for _, s := range idleStages() {
		isIdle(t, "what does nothing", s, true)
		isIdle(t, "what does nothing, beside empty lists", emptied(s), true)
	}
	for _, s := range busyStages() {
		if code := impl.StageFault(s); code != impl.OK {
			t.Fatalf("%v has the fault %d", s, code)
		}
		isIdle(t, "what does something", s, false)
	}
	for _, side := range []int64{2, 3, 4} {
		isIdle(t, "LineGrid", gridStage(impl.LineGrid(side).Grid), side != 3)
	}
	isIdle(t, "UnitMatrix", matrixStage(impl.UnitMatrix().Matrix), true)
	for n := int64(2); n <= impl.MaxPoints; n++ {
		isIdle(t, "LineCurve", threeCurves(impl.LineCurve(n).Curve), n == 2)
	}
}

// Of all sorts of stages, just those that are told as one of the idle ones do nothing.
func TestIsNothingOfAllSorts(t *testing.T) {
	found := 0
	for _, s := range stages() {
		want := slices.ContainsFunc(idleStages(), func(idle impl.Stage) bool { return told(chain(idle)) == told(chain(s)) })
		if want {
			found++
		}
		isIdle(t, "a stage", s, want)
	}
	if found < 3 {
		t.Errorf("only %d of them do nothing", found)
	}
}

// A curve of more points on the same line leaves all as it is, but it is not the two points.
func TestIsNothingOfLinesOfMorePoints(t *testing.T) {
	for _, c := range linesOfMorePoints() {
		s := threeCurves(c)
		for _, w := range fineColours() {
			isList(t, "FineStage of a line of more points", impl.FineStage(s, w), w...)
		}
		isIdle(t, "a line of more points", s, false)
		isChain(t, "FoldChain of a line of more points", impl.FoldChain(chain(s)), chain(s))
		isInt(t, "NothingsIn of a line of more points", impl.NothingsIn(chain(s)), impl.OK, 0)
	}
}

// nearlyIdleFaults would do nothing but for their fault.
func nearlyIdleFaults() []stageCase {
	var list []stageCase
	line, unit, two, four := curve(0, top), diagonal(one, one, one), lineGrid(2), lineGrid(4)
	for _, idle := range idleStages() {
		for _, kind := range append(noKinds(), kinds()...) {
			if kind != idle.Kind {
				other := cloneStage(idle)
				other.Kind = kind
				list = append(list, stageCase{fmt.Sprintf("idle, but of kind %d", kind), other, impl.ErrForm})
			}
		}
		for _, kind := range kinds() {
			for _, o := range thingsOf(kind) {
				if kind != idle.Kind {
					list = append(list, stageCase{"idle, beside what its kind has not", besides(idle, kind, o), impl.ErrForm})
				}
			}
		}
	}
	for _, n := range []int{0, 1, 2, 4, 6} {
		list = append(list, stageCase{fmt.Sprintf("%d lines", n), curvesStage(slices.Repeat([]impl.Curve{line}, n)...), impl.ErrMany})
	}
	for _, bad := range []impl.Curve{{}, curve(0), curve(top), likeCurve(18, 0)} {
		list = append(list, stageCase{"lines and no curve", curvesStage(line, line, bad), impl.ErrMany}, stageCase{"no curve and lines", curvesStage(bad, line, line), impl.ErrMany})
	}
	return append(list,
		stageCase{"a line below 0", curvesStage(line, curve(-1, top), line), impl.ErrRange}, stageCase{"a line above", curvesStage(line, line, curve(0, top+1)), impl.ErrRange},
		stageCase{"a row more", matrixStage(impl.Matrix{Rows: append(cloneLists(unit.Rows), []int64{0, 0, one})}), impl.ErrMany}, stageCase{"a row less", matrixStage(impl.Matrix{Rows: unit.Rows[:2]}), impl.ErrMany},
		stageCase{"a number more", matrixStage(impl.Matrix{Rows: [][]int64{{one, 0, 0}, {0, one, 0}, {0, 0, one, 0}}}), impl.ErrMany}, stageCase{"a number less", matrixStage(impl.Matrix{Rows: [][]int64{{one, 0}, {0, one, 0}, {0, 0, one}}}), impl.ErrMany},
		stageCase{"a node more", gridStage(impl.Grid{Side: 2, Nodes: append(cloneLists(two.Nodes), []int64{top, top, top})}), impl.ErrMany}, stageCase{"a node less", gridStage(impl.Grid{Side: 4, Nodes: four.Nodes[:63]}), impl.ErrMany},
		stageCase{"a level more", gridStage(withNode(two, 7, top, top, top, top)), impl.ErrMany}, stageCase{"a level less", gridStage(withNode(four, 0, 0, 0)), impl.ErrMany},
		stageCase{"a side of 4 and nodes of 2", gridStage(impl.Grid{Side: 4, Nodes: two.Nodes}), impl.ErrMany}, stageCase{"a side of 2 and nodes of 4", gridStage(impl.Grid{Side: 2, Nodes: four.Nodes}), impl.ErrMany},
		stageCase{"a side of 5", gridStage(impl.Grid{Side: 5, Nodes: four.Nodes}), impl.ErrRange}, stageCase{"a side of 1", gridStage(impl.Grid{Side: 1, Nodes: two.Nodes[:1]}), impl.ErrRange}, stageCase{"no side", gridStage(impl.Grid{Nodes: two.Nodes}), impl.ErrRange},
		stageCase{"a level above", gridStage(withLevel(two, 7, 0, top+1)), impl.ErrRange}, stageCase{"a level below 0", gridStage(withLevel(four, 0, 2, -1)), impl.ErrRange})
}

// What has a fault does something, whatever it is else.
func TestIsNothingOfFaults(t *testing.T) {
	for _, f := range append(nearlyIdleFaults(), faultyStages()...) {
		if code := impl.StageFault(f.s); code != f.code {
			t.Fatalf("%s: StageFault = %d, want %d", f.what, code, f.code)
		}
		isIdle(t, f.what, f.s, false)
	}
	isIdle(t, "the zero value", impl.Stage{}, false)
}

// What does nothing leaves each level as it is.
func TestIdleStagesLeaveAllAsItIs(t *testing.T) {
	for _, s := range idleStages() {
		for v := range int64(top + 1) {
			colour := []int64{v, top - v, (v + 32768) % (top + 1)}
			isList(t, "EvalStage of what does nothing", impl.EvalStage(s, colour), colour...)
			if t.Failed() {
				return
			}
		}
	}
}

func isStage(t *testing.T, what string, got impl.StageResult, want impl.Stage) {
	t.Helper()
	if got.Code != impl.OK || told(chain(got.Stage)) != told(chain(want)) {
		t.Errorf("%s = %+v, want %v", what, got, want)
	}
}

func TestUnitStage(t *testing.T) {
	for i, kind := range []int64{1, 2, 3} {
		got := impl.UnitStage(kind)
		isStage(t, fmt.Sprintf("UnitStage(%d)", kind), got, idleStages()[i])
		isIdle(t, "UnitStage", got.Stage, true)
	}
	if got := impl.UnitStage(impl.StageGrid).Stage.Grid.Side; got != 2 {
		t.Errorf("UnitStage of a grid has the side %d", got)
	}
}

func TestUnitStageOfNoKind(t *testing.T) {
	for _, kind := range append(noKinds(), edges()...) {
		if got := impl.UnitStage(kind); !within(kind, 1, 3) && (got.Code != impl.ErrRange || told(chain(got.Stage)) != told(chain(impl.Stage{}))) {
			t.Errorf("UnitStage(%d) = %+v, want the code %d alone", kind, got, impl.ErrRange)
		}
	}
}

// Promise 1: what UnitStage answers is new memory: no two of its lists share any, nor do two answers.
func TestUnitStageAnswersNewMemory(t *testing.T) {
	for i, kind := range kinds() {
		first, second := impl.UnitStage(kind), impl.UnitStage(kind)
		isNewMemory(t, "UnitStage", first, second)
		spoilChain(chain(first.Stage))
		isStage(t, "UnitStage behind a change", second, idleStages()[i])
		isStage(t, "UnitStage asked again", impl.UnitStage(kind), idleStages()[i])
	}
}

// foldCase is a chain, and what is left of it.
type foldCase struct {
	c    impl.Chain
	left impl.Chain
}

// foldCases have what does nothing at each choice of places, of each number of stages from 0 to MaxStages, beside others in many orders.
func foldCases() []foldCase {
	var list []foldCase
	idle, busy := idleStages(), fewBusyStages()
	for n := range impl.MaxStages + 1 {
		for which := range 1 << n {
			for turn := range len(busy) {
				var f foldCase
				for place := range n {
					s := cloneStage(idle[(place+turn)%len(idle)])
					if which>>place&1 == 0 {
						s = cloneStage(busy[(4*place+turn)%len(busy)])
						f.left.Stages = append(f.left.Stages, s)
					}
					f.c.Stages = append(f.c.Stages, s)
				}
				list = append(list, f)
			}
		}
	}
	return list
}

// someFoldCases are few enough to be asked much.
func someFoldCases() []foldCase {
	var list []foldCase
	for i, f := range foldCases() {
		if i%5 == 0 {
			list = append(list, f)
		}
	}
	return list
}

// Promise 9: what does nothing is left out, the others stay in their order.
func TestFoldChain(t *testing.T) {
	for _, f := range foldCases() {
		got, gone := impl.FoldChain(f.c), int64(len(f.c.Stages)-len(f.left.Stages))
		isChain(t, fmt.Sprintf("FoldChain(%v)", f.c), got, f.left)
		isInt(t, fmt.Sprintf("NothingsIn(%v)", f.c), impl.NothingsIn(f.c), impl.OK, gone)
		isChain(t, "FoldChain of what is left", impl.FoldChain(got.Chain), f.left)
		isInt(t, "NothingsIn what is left", impl.NothingsIn(got.Chain), impl.OK, 0)
	}
}

// Promise 9: nothing turns by that, of levels and of fine numbers.
func TestNothingTurnsByFolding(t *testing.T) {
	list := append(colours()[:14], []int64{top, 0, top}, []int64{32767, 21845, 43691})
	for i, f := range foldCases() {
		got := impl.FoldChain(f.c).Chain
		for k := i % 3; k < len(list); k += 3 {
			v := list[k]
			if !impl.SameEverywhere(f.c, got, v) || !impl.SameEverywhere(got, f.c, v) {
				t.Fatalf("SameEverywhere(%v, %v, %v) is not so", f.c, got, v)
			}
			isList(t, "EvalChain of what is left", impl.EvalChain(got, v), impl.EvalChain(f.c, v).List...)
			isList(t, "FineChain of what is left", impl.FineChain(got, v), impl.FineChain(f.c, v).List...)
		}
	}
}

// What is left tells what the whole chain tells by the other formulas, too.
func TestWhatIsLeftIsExact(t *testing.T) {
	for i, f := range someFoldCases() {
		got, v := impl.FoldChain(f.c).Chain, colours()[5+i%12]
		isList(t, "EvalChain of what is left", impl.EvalChain(got, v), wantSteps(f.c, v)[len(f.c.Stages)]...)
		isList(t, "FineChain of what is left", impl.FineChain(got, v), wantFineChain(f.c, v)...)
	}
}

// Chains of all sorts: of no stage, of like stages, and of such as do nothing in all orders.
func TestFoldChainCases(t *testing.T) {
	idle := idleStages()
	lines, unit, two, four := idle[0], idle[1], idle[2], idle[3]
	for _, none := range []impl.Chain{{}, {Stages: []impl.Stage{}}} {
		isChain(t, "FoldChain of no stage", impl.FoldChain(none), impl.Chain{})
		isInt(t, "NothingsIn no stage", impl.NothingsIn(none), impl.OK, 0)
	}
	for n := 1; n <= impl.MaxStages; n++ {
		for _, s := range idle {
			same := chain(slices.Repeat([]impl.Stage{s}, n)...)
			isChain(t, "FoldChain of what does nothing", impl.FoldChain(same), impl.Chain{})
			isInt(t, "NothingsIn what does nothing", impl.NothingsIn(same), impl.OK, int64(n))
		}
		for _, s := range []impl.Stage{swap(), down(), gridStage(lineGrid(3))} {
			same := chain(slices.Repeat([]impl.Stage{s}, n)...)
			isChain(t, "FoldChain of what does something", impl.FoldChain(same), same)
			isInt(t, "NothingsIn what does something", impl.NothingsIn(same), impl.OK, 0)
		}
	}
	isChain(t, "FoldChain of all that does nothing", impl.FoldChain(chain(four, unit, lines, two, unit)), impl.Chain{})
	isChain(t, "two that undo each other stay", impl.FoldChain(chain(down(), unit, down())), chain(down(), down()))
	isChain(t, "FoldChain of like ones", impl.FoldChain(chain(swap(), two, swap(), four, swap())), chain(swap(), swap(), swap()))
	isChain(t, "FoldChain of lines of 2, 3 and 4", impl.FoldChain(chain(two, gridStage(lineGrid(3)), four)), chain(gridStage(lineGrid(3))))
	isInt(t, "NothingsIn lines of 2, 3 and 4", impl.NothingsIn(chain(two, gridStage(lineGrid(3)), four)), impl.OK, 2)
}

// Each stage is left out, or left, on each place between others, as IsNothing tells it.
func TestFoldChainOfEachStage(t *testing.T) {
	for _, s := range idleStages() {
		isChain(t, "FoldChain of one", impl.FoldChain(chain(emptied(s))), impl.Chain{})
		isChain(t, "FoldChain with it ahead", impl.FoldChain(chain(emptied(s), emptied(swap()))), chain(swap()))
	}
	for _, s := range busyStages() {
		isChain(t, "FoldChain of one", impl.FoldChain(chain(s)), chain(s))
		isChain(t, "FoldChain with it between", impl.FoldChain(chain(idleStages()[1], s, idleStages()[2])), chain(s))
		isInt(t, "NothingsIn with it ahead", impl.NothingsIn(chain(s, idleStages()[0])), impl.OK, 1)
	}
}

// The order of what is left does not hang on that of a map: asked often, it is always the same.
func TestFoldChainKeepsTheOrder(t *testing.T) {
	busy := fewBusyStages()
	for i := range 60 {
		var c impl.Chain
		for k := range impl.MaxStages {
			c.Stages = append(c.Stages, busy[(i+3*k)%len(busy)])
		}
		isChain(t, "FoldChain of stages that all do something", impl.FoldChain(c), c)
	}
}

// faultyFolds have a fault beside what does nothing, at each place, or too many stages that do nothing.
func faultyFolds() []chainCase {
	var list []chainCase
	idle := idleStages()
	some := fewFaultyStages()
	for i, f := range nearlyIdleFaults() {
		if i%9 == 0 {
			some = append(some, f)
		}
	}
	for n := 1; n <= impl.MaxStages; n++ {
		for place := range n {
			for i, f := range some {
				good := chain(slices.Repeat([]impl.Stage{idle[i%len(idle)]}, n)...)
				list = append(list, chainCase{fmt.Sprintf("%s, stage %d of %d that do nothing", f.what, place, n), withStage(good, place, f.s), f.code})
			}
		}
	}
	for _, n := range []int{impl.MaxStages + 1, impl.MaxStages + 2, 256 + 1} {
		for i, f := range fewFaultyStages() {
			good := chain(slices.Repeat([]impl.Stage{idle[i%len(idle)]}, n)...)
			list = append(list, chainCase{fmt.Sprintf("%d that do nothing", n), good, impl.ErrMany},
				chainCase{fmt.Sprintf("%d that do nothing, ahead of %s", n, f.what), withStage(good, 0, f.s), impl.ErrMany},
				chainCase{fmt.Sprintf("%d that do nothing, ahead of %s, the last one", n, f.what), withStage(good, n-1, f.s), impl.ErrMany})
		}
	}
	return list
}

func isNoFold(t *testing.T, what string, c impl.Chain, code int64) {
	t.Helper()
	isNoChain(t, "FoldChain, "+what, impl.FoldChain(c), code)
	isInt(t, "NothingsIn, "+what, impl.NothingsIn(c), code, 0)
}

// Rule 6: the codes of ChainFault, in their order, and nothing is told beside one.
func TestFoldsOfFaultyChains(t *testing.T) {
	for _, f := range append(faultyFolds(), faultyChains()...) {
		if code := impl.ChainFault(f.c); code != f.code {
			t.Fatalf("%s: ChainFault = %d, want %d", f.what, code, f.code)
		}
		isNoFold(t, f.what, f.c, f.code)
	}
	for _, f := range append(nearlyIdleFaults(), faultyStages()...) {
		isNoFold(t, f.what+" alone", chain(f.s), f.code)
		isNoFold(t, f.what+" behind", chain(idleStages()[1], f.s), f.code)
	}
}

// Of two faults the first one is told, also with what does nothing between.
func TestFoldsOfTwoFaults(t *testing.T) {
	for _, idle := range idleStages() {
		for _, a := range fewFaultyStages() {
			for _, b := range fewFaultyStages() {
				isNoFold(t, a.what+", then "+b.what, chain(idle, a.s, idle, b.s), a.code)
			}
		}
	}
}

func isSameAt(t *testing.T, what string, a impl.Chain, b impl.Chain, v []int64, want bool) {
	t.Helper()
	if impl.SameEverywhere(a, b, v) != want || impl.SameEverywhere(b, a, v) != want {
		t.Errorf("%s: SameEverywhere(%v, %v, %v) is not %v", what, a, b, v, want)
	}
}

func halved() impl.Stage {
	return matrixStage(diagonal(half, half, half))
}

func doubled() impl.Stage {
	return matrixStage(diagonal(2*one, 2*one, 2*one))
}

func TestSameEverywhereCases(t *testing.T) {
	none, v := impl.Chain{}, []int64{10, 20, 31}
	isSameAt(t, "none and none", none, impl.Chain{Stages: []impl.Stage{}}, v, true)
	isSameAt(t, "two swaps of rows", chain(matrixStage(matrix(0, one, 0, one, 0, 0, 0, 0, one)), matrixStage(matrix(0, one, 0, one, 0, 0, 0, 0, one))), none, v, true)
	isSameAt(t, "two that fall", chain(down(), down()), none, v, true)
	isSameAt(t, "one that falls", chain(down()), none, v, false)
	isSameAt(t, "another order", chain(swap(), down()), chain(down(), swap()), v, false)
	isSameAt(t, "like nodes and level curves", chain(gridStage(likeGrid(2, 5, 6, 7))), chain(curvesStage(curve(5, 5), curve(6, 6), curve(7, 7))), v, true)
	isSameAt(t, "like lights", chain(swap()), chain(matrixStage(diagonal(one, one, half))), []int64{9, 9, 9}, true)
	isSameAt(t, "other lights", chain(swap()), chain(matrixStage(diagonal(one, one, half))), []int64{9, 8, 9}, false)
	isSameAt(t, "the same for this colour alone", chain(threeCurves(curve(0, top, top))), chain(threeCurves(curve(0, top, 0))), []int64{0, 5, 32767}, true)
	isSameAt(t, "another for this colour", chain(threeCurves(curve(0, top, top))), chain(threeCurves(curve(0, top, 0))), []int64{0, 5, 40000}, false)
}

// Two chains that tell the same levels, but not the same fine numbers.
func TestSameEverywhereOfOtherFineNumbers(t *testing.T) {
	line, unit := chain(gridStage(lineGrid(3))), chain(matrixStage(diagonal(one, one, one)))
	for place := range 3 {
		v := []int64{0, 0, 0}
		isSameAt(t, "a line of 3 at its nodes", line, unit, v, true)
		v[place] = 32767
		isList(t, "EvalChain of a line of 3", impl.EvalChain(line, v), v...)
		isSameAt(t, "a line of 3", line, unit, v, false)
		isSameAt(t, "a line of 3 and no stage", line, impl.Chain{}, v, false)
		numbers := []int64{half, half, half}
		numbers[place] += 3
		more, w := chain(matrixStage(diagonal(numbers[0], numbers[1], numbers[2]))), []int64{200, 400, 600}
		isList(t, "EvalChain of a little more than a half", impl.EvalChain(more, w), 100, 200, 300)
		isSameAt(t, "a half and a little more", chain(halved()), more, w, false)
		isSameAt(t, "a half and a little more of 0", chain(halved()), more, []int64{0, 0, 0}, true)
	}
}

// Two chains that tell the same fine numbers, but not the same levels.
func TestSameEverywhereOfOtherLevels(t *testing.T) {
	there := chain(halved(), doubled())
	for place := range 3 {
		v := []int64{10, 20, 30}
		isSameAt(t, "even numbers, halved and doubled", there, impl.Chain{}, v, true)
		v[place]++
		isList(t, "FineChain of what is halved and doubled", impl.FineChain(there, v), inFine(v)...)
		isSameAt(t, "an odd number, halved and doubled", there, impl.Chain{}, v, false)
	}
}

// wholeAnswer is the same of two chains only if they tell the same levels and the same fine numbers.
func wholeAnswer(c impl.Chain, v []int64) string {
	steps := wantSteps(c, v)
	return fmt.Sprint(steps[len(steps)-1], wantFineChain(c, v))
}

func TestSameEverywhereIsExact(t *testing.T) {
	list := append(someChains(), chain(halved(), doubled()), chain(down(), down()), chain(gridStage(lineGrid(3))), chain(mix(), idleStages()[3], curved()), chain(threeCurves(linesOfMorePoints()[2])))
	for _, s := range idleStages() {
		list = append(list, chain(s), chain(swap(), s, down()))
	}
	found := map[bool]int{}
	for _, v := range append(colours()[:13], []int64{32767, 2, 4}, []int64{300, 4, top}) {
		var answers []string
		for _, c := range list {
			answers = append(answers, wholeAnswer(c, v))
		}
		for i, a := range list {
			for k, b := range list {
				want := answers[i] == answers[k]
				found[want]++
				if impl.SameEverywhere(a, b, v) != want {
					t.Fatalf("SameEverywhere(%v, %v, %v) is not %v", a, b, v, want)
				}
			}
		}
	}
	if found[true] < 1000 || found[false] < 1000 {
		t.Errorf("%v", found)
	}
}

// A chain with a fault is not the same as any, not even as itself.
func TestSameEverywhereOfFaultyChains(t *testing.T) {
	v := []int64{10, 20, 30}
	for _, f := range append(faultyFolds(), faultyChains()...) {
		isSameAt(t, f.what, f.c, f.c, v, false)
		isSameAt(t, f.what, f.c, impl.Chain{}, v, false)
		isSameAt(t, f.what, f.c, chain(swap()), nil, false)
	}
	for _, f := range append(nearlyIdleFaults(), faultyStages()...) {
		isSameAt(t, f.what, chain(f.s), chain(f.s), v, false)
		isSameAt(t, f.what, chain(f.s), chain(idleStages()[1]), v, false)
	}
}

// Of no colour nothing is the same, whatever the chains are.
func TestSameEverywhereOfNoColour(t *testing.T) {
	lists := [][]int64{{fineTop, 0, 0}, {0, top + 1, 0}, {0, 0, 65536}, {0, 0, -1}}
	for _, cases := range colourCases() {
		lists = append(lists, cases...)
	}
	for _, v := range lists {
		for _, c := range append(someChains(), chain(idleStages()...)) {
			isSameAt(t, "no colour", c, c, v, false)
			isSameAt(t, "no colour", c, impl.Chain{}, v, false)
		}
	}
}

// foldsAndFaulty are chains with what does nothing among others, such as have none of it, and such as have a fault.
func foldsAndFaulty() []impl.Chain {
	list := chainsAndFaulty()
	for _, f := range someFoldCases() {
		list = append(list, f.c)
	}
	for i, f := range faultyFolds() {
		if i%7 == 0 {
			list = append(list, f.c)
		}
	}
	return list
}

// Promise 1: no argument is changed, whether there is a code or not, nor what lies behind it in its memory.
func TestFoldsChangeNoArgument(t *testing.T) {
	lists, listsUnchanged := roomyLists([][]int64{{0, 0, 0}, {5, 600, 7000}, {top, top, top}, {top + 1, 5, 600}, {1, 2}, {1, 2, 3, 4}, {1, -1, 0}, nil})
	other, otherUnchanged := roomyChain(chain(curved(), idleStages()[2], swap(), bent()))
	for _, c := range foldsAndFaulty() {
		own, unchanged := roomyChain(c)
		impl.FoldChain(own)
		impl.NothingsIn(own)
		for _, s := range own.Stages[:min(len(own.Stages), impl.MaxStages)] {
			impl.IsNothing(s)
		}
		for _, v := range lists {
			impl.SameEverywhere(own, own, v)
			impl.SameEverywhere(own, other, v)
			impl.SameEverywhere(other, own, v)
		}
		if !unchanged() || !listsUnchanged() || !otherUnchanged() {
			t.Fatalf("%v or a list was changed", c)
		}
	}
}

// Promise 1: what is left is new memory, each list for itself, whether anything was left out or not.
func TestFoldsAnswerNewMemory(t *testing.T) {
	for _, c := range foldsAndFaulty() {
		own, unchanged := roomyChain(c)
		first, second := impl.FoldChain(own), impl.FoldChain(own)
		isNewMemory(t, "FoldChain", first, second, own)
		want := told(second.Chain)
		spoilChain(first.Chain)
		if !unchanged() || told(second.Chain) != want || told(impl.FoldChain(own).Chain) != want {
			t.Fatalf("%v: an answer shares memory with another one, or with an argument", c)
		}
	}
}

// What is left stays as it is when the chain that it was left of turns.
func TestFoldsStayAsTheyAre(t *testing.T) {
	for _, f := range someFoldCases() {
		own := cloneChain(f.c)
		got := impl.FoldChain(own)
		spoilChain(own)
		isChain(t, "FoldChain behind a change", got, f.left)
	}
}

// Lists of an argument may share memory: those of the answer do not, and what is told hangs on the numbers alone.
func TestFoldsOfListsThatShareMemory(t *testing.T) {
	numbers := []int64{0, top, 0, one, 0, 0, one, 0}
	line := curve(numbers[:2]...)
	lines := curvesStage(line, line, line)
	unit := matrixStage(impl.Matrix{Rows: [][]int64{numbers[3:6], numbers[5:8], numbers[4:7]}})
	rows := matrixStage(impl.Matrix{Rows: [][]int64{numbers[3:6], numbers[3:6], numbers[4:7]}})
	curves := curvesStage(line, line, curve(numbers[:3]...))
	nodes := gridStage(impl.Grid{Side: 2, Nodes: slices.Repeat([][]int64{numbers[:3]}, 8)})
	isIdle(t, "lines that share memory", lines, true)
	isIdle(t, "rows that share memory", unit, true)
	shared := chain(rows, unit, curves, lines, nodes)
	got := impl.FoldChain(shared)
	isChain(t, "FoldChain", got, cloneChain(chain(rows, curves, nodes)))
	isNewMemory(t, "FoldChain", got, shared)
	isInt(t, "NothingsIn", impl.NothingsIn(shared), impl.OK, 2)
	isSameAt(t, "lists that share memory", shared, got.Chain, numbers[:3], true)
	spoilChain(got.Chain)
	if !slices.Equal(numbers, []int64{0, top, 0, one, 0, 0, one, 0}) {
		t.Errorf("an argument was changed: %v", numbers)
	}
}

// Promise 1: the same arguments have the same answer, whatever was asked between.
func TestFoldsAnswerTheSameAgain(t *testing.T) {
	type answers struct {
		left     string
		nothings impl.IntResult
		idle     []bool
		units    []string
		same     []bool
	}
	list := foldsAndFaulty()
	ask := func(c impl.Chain) answers {
		a := answers{left: fmt.Sprint(impl.FoldChain(c)), nothings: impl.NothingsIn(c)}
		for _, s := range c.Stages[:min(len(c.Stages), impl.MaxStages)] {
			a.idle = append(a.idle, impl.IsNothing(s))
			a.units = append(a.units, fmt.Sprint(impl.UnitStage(s.Kind)))
		}
		for i, v := range [][]int64{{1, 2, 3}, {top, 0, 30000}, {500, 500, 70}, {1, 2}, {1, -2, 3}} {
			a.same = append(a.same, impl.SameEverywhere(c, list[i], v), impl.SameEverywhere(c, impl.FoldChain(c).Chain, v))
		}
		return a
	}
	isToldAgain(t, list, roomyChain, ask)
}
