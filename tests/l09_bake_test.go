package tests

import (
	"fmt"
	"math"
	"slices"
	"testing"

	"loop.example/g00639/impl"
)

// levelsAt are the levels at which the node of a place is baked.
func levelsAt(side int64, place []int64) []int64 {
	points := linePoints(side)
	return []int64{points[place[0]], points[place[1]], points[place[2]]}
}

// wantValue is what a chain tells by the other formulas that the tests of its stages have.
func wantValue(c impl.Chain, v []int64) []int64 {
	steps := wantSteps(c, v)
	return steps[len(steps)-1]
}

func wantBake(c impl.Chain, side int64) impl.Grid {
	return gridOf(side, func(p []int64) []int64 { return wantValue(c, levelsAt(side, p)) })
}

func wantBakeOff(c impl.Chain, baked impl.Grid, v []int64) int64 {
	return 256 * apart(wantGrid(baked, v), wantValue(c, v))
}

func wantBakeBudget(c impl.Chain, side int64) int64 {
	way := map[int64]int64{2: 16776960 + 128, 3: 8388480 + 128, 4: 5592320 + 128}[side]
	for _, s := range c.Stages {
		way = leastAbove(way, wantSlope(s))
	}
	return way + 2*wantBudget(c).Coarse + 128
}

func isGrid(t *testing.T, what string, got impl.GridResult, want impl.Grid) {
	t.Helper()
	if got.Code != impl.OK || !sameNodes(got.Grid, want) {
		t.Errorf("%s = %+v, want %v", what, got, want)
	}
}

// bump is level but for one peak in the middle: what was baked of it with two nodes is as far off as there can be.
func bump() impl.Stage {
	return threeCurves(curve(0, top, 0))
}

func level() impl.Stage {
	return curvesStage(curve(5, 5), curve(600, 600), curve(top, top))
}

// bakeChains are of no stage, of one stage of each kind, of what does nothing, of the steepest stages, and of up to MaxStages.
func bakeChains() []impl.Chain {
	list := append(budgetChains(), chain(bump()), chain(level()), chain(level(), bump()), chain(bump(), level()), chain(halved(), bump(), doubled()))
	for _, s := range append(idleStages(), manyStages()...) {
		list = append(list, chain(s))
	}
	for _, s := range idleStages() {
		list = append(list, chain(s, curved(), s, bent(), s))
	}
	return list
}

// fewBakeChains are few enough to be asked much: of no stage, of each kind, of each number of stages.
func fewBakeChains() []impl.Chain {
	return []impl.Chain{
		{}, chain(curved()), chain(mix()), chain(shift()), chain(bump()), chain(steepest(), bent()), chain(swap(), curved(), mix()),
		chain(down(), bent(), swap(), curved()), chain(someStages(impl.MaxStages)...), chain(steepest(), shift(), mix(), bent(), down()),
	}
}

// coloursAtNodes are those at which a grid of that side is baked.
func coloursAtNodes(side int64) [][]int64 {
	return gridOf(side, func(p []int64) []int64 { return levelsAt(side, p) }).Nodes
}

// coloursOnEdges have one number, or two of them, or all three at an end.
func coloursOnEdges() [][]int64 {
	var list [][]int64
	for i, v := range spread(14, 0, top) {
		for which := 1; which < 8; which++ {
			for ends := range 8 {
				colour := []int64{v, (v*3 + 77) % (top + 1), top - v}
				for axis := range colour {
					if which>>axis&1 == 1 {
						colour[axis] = top * int64(ends>>axis&1)
					}
				}
				if (i+which+ends)%5 == 0 {
					list = append(list, colour)
				}
			}
		}
	}
	return list
}

// coloursBetween have each order of rests in each cell, in the middle of it and near to its sides.
func coloursBetween(side int64) [][]int64 {
	list := coloursIn(side, 32768, 32768, 32768)
	for _, o := range orders() {
		for _, rests := range [][]int64{{60000, 33000, 5000}, {65000, 64000, 60000}, {6000, 300, 3}} {
			r := ordered(rests, o)
			list = append(list, coloursIn(side, r[0], r[1], r[2])...)
		}
	}
	return list
}

// bakeColours are at the nodes, on the edges, between, beside the nodes, and all sorts.
func bakeColours(side int64) [][]int64 {
	list := slices.Concat(coloursAtNodes(side), coloursOnEdges(), coloursBetween(side), manyColours())
	beside := coloursBeside(side)
	for i := 0; i < len(beside); i += 1 + len(beside)/150 {
		list = append(list, beside[i])
	}
	return list
}

func TestNodeLevel(t *testing.T) {
	for _, side := range sides() {
		for i, want := range linePoints(side) {
			isInt(t, fmt.Sprintf("NodeLevel(%d, %d)", side, i), impl.NodeLevel(side, int64(i)), impl.OK, want)
			isInt(t, "RoundDiv", impl.RoundDiv(int64(i)*top, side-1), impl.OK, want)
		}
	}
	isInt(t, "the middle of three is rounded up", impl.NodeLevel(3, 1), impl.OK, 32768)
}

// An i just outside, far outside, and such as is inside in fewer bits.
func TestNodeLevelOfNoNode(t *testing.T) {
	for _, side := range sides() {
		for _, i := range append(edges(), side, side+1, 2*side, -1, -2, -side, 256, 1<<16+1, 1<<32, 1<<32+1, -1<<32, -1<<32+1, math.MinInt64+1) {
			if !within(i, 0, side-1) {
				isInt(t, fmt.Sprintf("NodeLevel(%d, %d)", side, i), impl.NodeLevel(side, i), impl.ErrRange, 0)
			}
		}
	}
	for _, side := range append(noSides(), edges()...) {
		for _, i := range []int64{0, 1, 2, 3, 4, side - 1, side, -1, math.MinInt64, math.MaxInt64} {
			if !within(side, 2, 4) {
				isInt(t, fmt.Sprintf("NodeLevel(%d, %d)", side, i), impl.NodeLevel(side, i), impl.ErrRange, 0)
			}
		}
	}
}

func TestBakeChainCases(t *testing.T) {
	for _, side := range sides() {
		for _, none := range []impl.Chain{{}, {Stages: []impl.Stage{}}} {
			isGrid(t, "BakeChain of no stage", impl.BakeChain(none, side), lineGrid(side))
		}
		for _, s := range idleStages() {
			isGrid(t, "BakeChain of what does nothing", impl.BakeChain(chain(s, s), side), lineGrid(side))
		}
		isGrid(t, "BakeChain of what is level", impl.BakeChain(chain(curved(), level()), side), likeGrid(side, 5, 600, top))
		isGrid(t, "BakeChain of a grid of that side", impl.BakeChain(chain(gridStage(numberedGrid(4))), 4), numberedGrid(4))
	}
	isGrid(t, "BakeChain of a swap", impl.BakeChain(chain(swap()), 2), gridOf(2, func(p []int64) []int64 { return []int64{top * p[1], top * p[0], 32768 * p[2]} }))
	isGrid(t, "BakeChain of what falls", impl.BakeChain(chain(down()), 3), gridOf(3, func(p []int64) []int64 {
		points := []int64{top, 32767, 0}
		return []int64{points[p[0]], points[p[1]], points[p[2]]}
	}))
	isGrid(t, "BakeChain of a peak, three nodes", impl.BakeChain(chain(bump()), 3), gridOf(3, func(p []int64) []int64 {
		points := []int64{0, 65534, 0}
		return []int64{points[p[0]], points[p[1]], points[p[2]]}
	}))
	isGrid(t, "each step is rounded", impl.BakeChain(chain(halved(), doubled()), 4), gridOf(4, func(p []int64) []int64 {
		points := []int64{0, 21846, 43690, top}
		return []int64{points[p[0]], points[p[1]], points[p[2]]}
	}))
}

func TestBakeChainIsExact(t *testing.T) {
	for _, side := range sides() {
		for _, c := range append(chains(), bakeChains()...) {
			isGrid(t, fmt.Sprintf("BakeChain(%v, %d)", c, side), impl.BakeChain(c, side), wantBake(c, side))
		}
	}
}

// BakedChain is a chain of one stage, with the grid of BakeChain and nothing else.
func TestBakedChainIsOneGrid(t *testing.T) {
	for _, side := range sides() {
		for _, c := range bakeChains() {
			got := impl.BakedChain(c, side)
			isChain(t, "BakedChain", got, chain(impl.Stage{Kind: 3, Grid: impl.BakeChain(c, side).Grid}))
			if code := impl.ChainFault(got.Chain); code != impl.OK || len(got.Chain.Stages) != 1 {
				t.Errorf("BakedChain(%v, %d) has the fault %d, or not one stage", c, side, code)
			}
		}
		isChain(t, "BakedChain of no stage", impl.BakedChain(impl.Chain{}, side), chain(gridStage(lineGrid(side))))
	}
}

// What was baked is baked again as it is, where its nodes stand at whole levels.
func TestBakedAgain(t *testing.T) {
	for _, side := range []int64{2, 4} {
		for _, c := range bakeChains() {
			once := impl.BakedChain(c, side)
			isChain(t, "BakedChain of what was baked", impl.BakedChain(once.Chain, side), once.Chain)
		}
	}
}

// The way to a node, for every side: of no stage nothing is done with it.
func TestBakeBudgetOfNoStage(t *testing.T) {
	for _, none := range []impl.Chain{{}, {Stages: []impl.Stage{}}} {
		for side, want := range map[int64]int64{2: 16777216, 3: 8388736, 4: 5592576} {
			isInt(t, fmt.Sprintf("BakeBudget of no stage, side %d", side), impl.BakeBudget(none, side), impl.OK, want)
			up := (impl.MaxFine + side - 2) / (side - 1)
			isInt(t, "the way, rounded up", impl.BakeBudget(none, side), impl.OK, up+128+128)
		}
	}
}

// Each value was reckoned apart; slopes that do not divide are rounded up stage by stage.
func TestBakeBudgetCases(t *testing.T) {
	small, great := matrixStage(diagonal(257, 0, 0)), matrixStage(likeMatrix(maxCell))
	large := matrixStage(diagonal(4*one, one, -one))
	hundred := threeCurves(curve(0, 100, top))
	cases := []struct {
		what string
		c    impl.Chain
		want [3]int64
	}{
		{"a swap", chain(swap()), [3]int64{16777472, 8388992, 5592832}},
		{"five that fall", chain(down(), down(), down(), down(), down()), [3]int64{16778496, 8390016, 5593856}},
		{"a mix", chain(mix()), [3]int64{18271221, 9135872, 6090756}},
		{"two mixes", chain(mix(), mix()), [3]int64{19898246, 9949531, 6633293}},
		{"curves", chain(hundred), [3]int64{33503360, 16752000, 11168213}},
		{"a line of 2", chain(gridStage(lineGrid(2))), [3]int64{50331648, 25166208, 16777728}},
		{"a line of 3", chain(gridStage(lineGrid(3))), [3]int64{50332417, 25166593, 16777985}},
		{"two lines of 3", chain(gridStage(lineGrid(3)), gridStage(lineGrid(3))), [3]int64{150999558, 75500934, 50334726}},
		{"a small slope", chain(small), [3]int64{66176, 33280, 22315}},
		{"a small slope, then a large one", chain(small, large), [3]int64{264576, 132992, 89132}},
		{"a large slope, then a small one", chain(large, small), [3]int64{263552, 131970, 88110}},
		{"the least slope", chain(matrixStage(diagonal(0, -1, 0))), [3]int64{640, 512, 470}},
		{"the least slope, then the steepest", chain(matrixStage(diagonal(0, -1, 0)), steepest(), steepest(), steepest()), [3]int64{2167168, 1642880, 1470848}},
		{"what is level", chain(level()), [3]int64{384, 384, 384}},
		{"what is level behind", chain(steepest(), level()), [3]int64{384, 384, 384}},
		{"what is level ahead", chain(level(), steepest()), [3]int64{4480, 4480, 4480}},
		{"five of each sort", chain(mix(), hundred, gridStage(lineGrid(3)), small, large), [3]int64{1718444, 859956, 573796}},
		{"the steepest stage", chain(steepest()), [3]int64{268433792, 134218112, 89479552}},
		{"the steepest stages", chain(steepest(), steepest(), steepest(), steepest(), steepest()), [3]int64{17592069722496, 8796110918016, 5864124649856}},
		{"the greatest matrices", chain(great, great, great, great, great), [3]int64{4174682152320, 2087359896960, 1391585811840}},
	}
	for _, b := range cases {
		for i, side := range sides() {
			isInt(t, fmt.Sprintf("BakeBudget of %s, side %d", b.what, side), impl.BakeBudget(b.c, side), impl.OK, b.want[i])
		}
	}
}

func TestBakeBudgetIsExact(t *testing.T) {
	for _, side := range sides() {
		for _, c := range append(chains(), bakeChains()...) {
			isInt(t, fmt.Sprintf("BakeBudget(%v, %d)", c, side), impl.BakeBudget(c, side), impl.OK, wantBakeBudget(c, side))
		}
	}
}

func TestBakeOffCases(t *testing.T) {
	rise := chain(threeCurves(curve(0, top, top)))
	isInt(t, "BakeOff of no stage", impl.BakeOff(impl.Chain{}, 2, []int64{5, 6, 7}), impl.OK, 0)
	isInt(t, "BakeOff of what rises", impl.BakeOff(rise, 2, []int64{32768, 0, 0}), impl.OK, 8388352)
	isInt(t, "BakeOff of what rises, ahead of the middle", impl.BakeOff(rise, 2, []int64{32767, 0, 0}), impl.OK, 256*32767)
	isInt(t, "BakeOff of what rises, a quarter", impl.BakeOff(rise, 2, []int64{16384, 0, 0}), impl.OK, 256*16384)
	isInt(t, "BakeOff of what rises, three nodes", impl.BakeOff(rise, 3, []int64{32768, 0, 0}), impl.OK, 0)
	isInt(t, "BakeOff of what rises, four nodes", impl.BakeOff(rise, 4, []int64{32768, 0, 0}), impl.OK, 256*10922)
	isInt(t, "BakeOff of a peak", impl.BakeOff(chain(bump()), 2, []int64{32768, 0, 0}), impl.OK, 256*65534)
	isInt(t, "BakeOff of a peak, four nodes", impl.BakeOff(chain(bump()), 4, []int64{0, 0, 32768}), impl.OK, 256*21844)
	isInt(t, "BakeOff by one", impl.BakeOff(chain(halved(), doubled()), 2, []int64{5, 6, 8}), impl.OK, 256)
	isInt(t, "BakeOff of what is even", impl.BakeOff(chain(halved(), doubled()), 2, []int64{4, 6, 8}), impl.OK, 0)
}

// The one that is furthest off is told, at whichever place it is, above and below.
func TestBakeOffAtEachPlace(t *testing.T) {
	for place := range 3 {
		for _, other := range []impl.Curve{curve(0, top, top), curve(top, 0, 0), curve(0, 0, top), curve(top, top, 0)} {
			s, v := threeCurves(curve(0, top)), []int64{40000, 300, 65000}
			s.Curves[place], v[place] = other, 32768
			isInt(t, fmt.Sprintf("BakeOff of %v at place %d", other, place), impl.BakeOff(chain(s), 2, v), impl.OK, 8388352)
			s.Curves[(place+1)%3], v[(place+1)%3] = curve(0, 40000, top), 16384
			isInt(t, fmt.Sprintf("BakeOff of %v at place %d, beside a nearer one", other, place), impl.BakeOff(chain(s), 2, v), impl.OK, 8388352)
		}
	}
}

// Of no stage at all what was baked is a line, and not off at any level.
func TestBakeOffOfNoStage(t *testing.T) {
	for _, side := range sides() {
		for v := int64(0); v <= top; v += 331 {
			isInt(t, "BakeOff of no stage", impl.BakeOff(impl.Chain{}, side, []int64{v, top - v, (v + 21845) % (top + 1)}), impl.OK, 0)
		}
		for _, v := range append(coloursAtNodes(side), []int64{32767, 32768, 32769}, []int64{top, 32767, 0}, []int64{top - 1, 1, 32767}) {
			isInt(t, "BakeOff of no stage", impl.BakeOff(impl.Chain{}, side, v), impl.OK, 0)
		}
	}
}

func TestBakeOffIsExact(t *testing.T) {
	for i, c := range append(chains()[2:], bakeChains()...) {
		for k, side := range sides() {
			list, baked := bakeColours(side), wantBake(c, side)
			for n := (7*i + k) % 97; n < len(list); n += 97 {
				isInt(t, fmt.Sprintf("BakeOff(%v, %d, %v)", c, side, list[n]), impl.BakeOff(c, side, list[n]), impl.OK, wantBakeOff(c, baked, list[n]))
			}
		}
	}
}

// BakeOff holds the grid of BakeChain, and BakedChain, against the chain.
func TestBakeOffIsThatOfTheGrid(t *testing.T) {
	for _, side := range sides() {
		list := bakeColours(side)
		for i, c := range fewBakeChains() {
			for k := i % 5; k < len(list); k += 5 {
				grid, baked, value := impl.EvalGrid(impl.BakeChain(c, side).Grid, list[k]), impl.EvalChain(impl.BakedChain(c, side).Chain, list[k]), impl.EvalChain(c, list[k])
				isList(t, "EvalChain of BakedChain", baked, grid.List...)
				isInt(t, "BakeOff", impl.BakeOff(c, side, list[k]), impl.OK, apart(inFine(grid.List), inFine(value.List)))
			}
		}
	}
}

// Promise 10: what was baked is nowhere further off than it is told: at the nodes, on the edges and between.
func TestWhatWasBakedIsWithinItsBudget(t *testing.T) {
	lengths := map[int]int{}
	most := 0.0
	check := func(c impl.Chain, side int64, v []int64, budget impl.IntResult) {
		off := impl.BakeOff(c, side, v)
		if off.Code != impl.OK || budget.Code != impl.OK || off.Value < 0 || off.Value > budget.Value {
			t.Fatalf("%v, side %d, at %v: BakeOff %+v, BakeBudget %+v", c, side, v, off, budget)
		}
		most = max(most, float64(off.Value)/float64(budget.Value))
	}
	for k, side := range sides() {
		list := bakeColours(side)
		for i, c := range bakeChains() {
			lengths[len(c.Stages)]++
			budget := impl.BakeBudget(c, side)
			for n := (i + k) % 41; n < len(list); n += 41 {
				check(c, side, list[n], budget)
			}
		}
		for _, c := range fewBakeChains() {
			budget := impl.BakeBudget(c, side)
			for _, v := range list {
				check(c, side, v, budget)
			}
		}
	}
	if len(lengths) != impl.MaxStages+1 || most < 0.49 {
		t.Errorf("chains of %v stages, at most %v of a budget was used", lengths, most)
	}
}

// wantAtNode is what a grid tells at the levels of a node. These are the node's own, but in the
// middle of three, which stands half a level ahead of them: there one part of MaxLevel
// is that of the node one step on, which is told where that part is more than half a level.
func wantAtNode(g impl.Grid, place []int64) []int64 {
	want := slices.Clone(g.Nodes[numberAt(g.Side, place)])
	if g.Side != 3 {
		return want
	}
	on := stepped(place, [3]bool{place[0] == 1, place[1] == 1, place[2] == 1})
	for k, level := range g.Nodes[numberAt(g.Side, on)] {
		switch rise := level - want[k]; {
		case rise > 32767:
			want[k]++
		case rise < -32767:
			want[k]--
		}
	}
	return want
}

// Promise 10: at its nodes what was baked is the chain; by its levels as near as the middle of three can be.
func TestAtItsNodesWhatWasBakedIsTheChain(t *testing.T) {
	found := map[int64]int{}
	for _, side := range sides() {
		for _, c := range bakeChains() {
			baked := impl.BakeChain(c, side).Grid
			for n := range nodeCount(side) {
				place := placeAt(side, n)
				v := []int64{impl.NodeLevel(side, place[0]).Value, impl.NodeLevel(side, place[1]).Value, impl.NodeLevel(side, place[2]).Value}
				value := impl.EvalChain(c, v)
				isList(t, "NodeOf what was baked", impl.NodeOf(baked, place), value.List...)
				want := wantAtNode(baked, place)
				isList(t, fmt.Sprintf("EvalGrid of %v, side %d, baked, at %v", c, side, v), impl.EvalGrid(baked, v), want...)
				off := 256 * apart(want, value.List)
				if n%4 == 0 || off != 0 {
					isInt(t, "BakeOff at a node", impl.BakeOff(c, side, v), impl.OK, off)
				}
				if off > 256 || side != 3 && off != 0 || !slices.Contains(place, 1) && off != 0 {
					t.Fatalf("%v, side %d: %d off at %v", c, side, off, v)
				}
				found[off]++
			}
		}
	}
	if found[0] < 1000 || found[256] < 10 {
		t.Errorf("so far off, so often: %v", found)
	}
}

// A chain that turns by no more than half of the levels from node to node is met in the middle of three, too.
func TestInTheMiddleOfThree(t *testing.T) {
	for _, c := range []impl.Chain{{}, chain(swap()), chain(down()), chain(mix(), down()), chain(halved(), curved()), chain(level())} {
		baked := impl.BakeChain(c, 3).Grid
		for _, v := range coloursAtNodes(3) {
			isList(t, "EvalGrid of what was baked", impl.EvalGrid(baked, v), impl.EvalChain(c, v).List...)
			isInt(t, "BakeOff in the middle of three", impl.BakeOff(c, 3, v), impl.OK, 0)
		}
	}
	steep := chain(threeCurves(curve(0, 0, top)))
	isList(t, "a steep chain", impl.EvalChain(steep, []int64{32768, 0, top}), 1, 0, top)
	isList(t, "a steep chain, baked", impl.EvalGrid(impl.BakeChain(steep, 3).Grid, []int64{32768, 0, top}), 2, 0, top)
	isInt(t, "BakeOff of a steep chain", impl.BakeOff(steep, 3, []int64{32768, 0, top}), impl.OK, 256)
	isInt(t, "BakeOff of a steep chain, half a level ahead of the node", impl.BakeOff(steep, 3, []int64{32767, 0, top}), impl.OK, 256)
}

func isNoBake(t *testing.T, what string, c impl.Chain, side int64, code int64) {
	t.Helper()
	isNoGrid(t, "BakeChain, "+what, impl.BakeChain(c, side), code)
	isNoChain(t, "BakedChain, "+what, impl.BakedChain(c, side), code)
	isInt(t, "BakeBudget, "+what, impl.BakeBudget(c, side), code, 0)
}

// badColours have each code of a colour, and none of them.
func badColours() [][]int64 {
	return [][]int64{{1, 2, 3}, {0, 0, -1}, {0, top + 1, 0}, {1, 1}, {0, 0, 0, 0}, {-1}, nil, {top, top, top}, {fineTop, 0, 0}}
}

// Rule 6: the fault of a chain comes ahead of the side, and of the codes of v; nothing is told beside it.
func TestBakesOfFaultyChains(t *testing.T) {
	all, lists := append(noSides(), sides()...), badColours()
	for i, f := range append(faultyChains(), faultyFolds()...) {
		side := all[i%len(all)]
		isNoBake(t, f.what, f.c, side, f.code)
		isInt(t, "BakeOff, "+f.what, impl.BakeOff(f.c, side, lists[i%len(lists)]), f.code, 0)
	}
	for _, f := range fewFaultyChains() {
		for _, side := range all {
			isNoBake(t, f.what, f.c, side, f.code)
			for _, v := range lists {
				isInt(t, "BakeOff, "+f.what, impl.BakeOff(f.c, side, v), f.code, 0)
			}
		}
	}
	for i, f := range faultyStages() {
		side := all[i%len(all)]
		isNoBake(t, f.what+" alone", chain(f.s), side, f.code)
		isInt(t, "BakeOff, "+f.what, impl.BakeOff(chain(down(), f.s), side, lists[i%len(lists)]), f.code, 0)
	}
}

// The side comes ahead of the codes of v: just outside, below 0, very great, and a side in fewer bits.
func TestBakesOfNoSide(t *testing.T) {
	for _, side := range append(noSides(), edges()...) {
		if within(side, 2, 4) {
			continue
		}
		for _, c := range append(fewBakeChains(), chain(idleStages()[3])) {
			isNoBake(t, fmt.Sprintf("side %d", side), c, side, impl.ErrRange)
			for _, v := range badColours() {
				isInt(t, fmt.Sprintf("BakeOff, side %d, at %v", side, v), impl.BakeOff(c, side, v), impl.ErrRange, 0)
			}
		}
	}
}

// Last the codes of v: how many numbers there are, then each one of them; those of no stage, too.
func TestBakeOffOfNoColour(t *testing.T) {
	for code, lists := range colourCases() {
		for i, v := range lists {
			for _, side := range sides() {
				for k, c := range fewBakeChains() {
					if (i+k)%3 == 0 {
						isInt(t, fmt.Sprintf("BakeOff at %v", v[:min(len(v), 9)]), impl.BakeOff(c, side, v), code, 0)
					}
				}
			}
		}
	}
	for _, v := range [][]int64{{fineTop, 0, 0}, {0, top + 1, 0}, {0, 0, 65536}, {0, 0, -1}} {
		isInt(t, "BakeOff of no level", impl.BakeOff(impl.Chain{}, 2, v), impl.ErrRange, 0)
	}
}

// bakesAndFaulty are chains of all sorts, such as are what is baked of them already, and such as have a fault.
func bakesAndFaulty() []impl.Chain {
	list := append(chainsAndFaulty(), fewBakeChains()...)
	for _, side := range sides() {
		list = append(list, chain(gridStage(lineGrid(side))), chain(gridStage(numberedGrid(side))), chain(gridStage(lineGrid(side)), gridStage(lineGrid(side))))
	}
	return list
}

// Promise 1: no argument is changed, whether there is a code or not, nor what lies behind it in its memory.
func TestBakesChangeNoArgument(t *testing.T) {
	lists, listsUnchanged := roomyLists(append(badColours(), []int64{5, 600, 7000}, []int64{32768, 21845, 0}))
	for i, c := range bakesAndFaulty() {
		own, unchanged := roomyChain(c)
		for _, side := range append(sides(), noSides()[i%len(noSides())]) {
			impl.BakeChain(own, side)
			impl.BakedChain(own, side)
			impl.BakeBudget(own, side)
			for _, v := range lists {
				impl.BakeOff(own, side, v)
			}
		}
		if !unchanged() || !listsUnchanged() {
			t.Fatalf("%v or a list was changed", c)
		}
	}
}

// Promise 1: what is answered is new memory, each list for itself, that of no stage, too.
func TestBakesAnswerNewMemory(t *testing.T) {
	for _, c := range bakesAndFaulty() {
		own, unchanged := roomyChain(c)
		for _, side := range sides() {
			grid, again, baked := impl.BakeChain(own, side), impl.BakeChain(own, side), impl.BakedChain(own, side)
			isNewMemory(t, "BakeChain", grid, own, again, baked)
			isNewMemory(t, "BakedChain", baked, own, again, impl.BakedChain(own, side))
			want := fmt.Sprint(again)
			spoilChain(chain(gridStage(grid.Grid)))
			spoilChain(baked.Chain)
			if !unchanged() || fmt.Sprint(again) != want || fmt.Sprint(impl.BakeChain(own, side)) != want {
				t.Fatalf("%v: an answer shares memory with another one, or with an argument", c)
			}
		}
	}
}

// What was baked stays as it is when the chain that it was baked of turns.
func TestBakesStayAsTheyAre(t *testing.T) {
	for _, c := range someChains() {
		for _, side := range sides() {
			own := cloneChain(c)
			grid, baked := impl.BakeChain(own, side), impl.BakedChain(own, side)
			spoilChain(own)
			isGrid(t, "BakeChain behind a change", grid, wantBake(c, side))
			isChain(t, "BakedChain behind a change", baked, chain(gridStage(wantBake(c, side))))
		}
	}
}

// Lists of an argument may share memory, with each other and with the colour: what is told hangs on the numbers alone.
func TestBakesOfListsThatShareMemory(t *testing.T) {
	numbers := []int64{0, 30000, 40000, 2, 60000}
	shared := chainIn(numbers)
	for n := range len(shared.Stages) {
		part := chain(shared.Stages[:n+1]...)
		own := cloneChain(part)
		for _, side := range sides() {
			grid := impl.BakeChain(part, side)
			baked := wantBake(own, side)
			isGrid(t, "BakeChain", grid, baked)
			isNewMemory(t, "BakeChain", grid, part)
			isInt(t, "BakeBudget", impl.BakeBudget(part, side), impl.OK, wantBakeBudget(own, side))
			for i := range 3 {
				isInt(t, "BakeOff", impl.BakeOff(part, side, numbers[i:i+3]), impl.OK, wantBakeOff(own, baked, slices.Clone(numbers[i:i+3])))
			}
		}
	}
	if !slices.Equal(numbers, []int64{0, 30000, 40000, 2, 60000}) {
		t.Errorf("an argument was changed: %v", numbers)
	}
}

// Promise 1: the same arguments have the same answer, whatever was asked between.
func TestBakesAnswerTheSameAgain(t *testing.T) {
	type answers struct {
		levels  []impl.IntResult
		grids   []impl.GridResult
		chains  []string
		budgets []impl.IntResult
		offs    []impl.IntResult
	}
	ask := func(c impl.Chain) answers {
		var a answers
		for side := int64(1); side <= impl.MaxSide+1; side++ {
			a.levels = append(a.levels, impl.NodeLevel(side, int64(len(c.Stages))))
			a.grids = append(a.grids, impl.BakeChain(c, side))
			a.chains = append(a.chains, fmt.Sprint(impl.BakedChain(c, side)))
			a.budgets = append(a.budgets, impl.BakeBudget(c, side))
			for _, v := range [][]int64{{1, 2, 3}, {top, 0, 30000}, {500, 500, 70}, {1, 2}, {1, -2, 3}} {
				a.offs = append(a.offs, impl.BakeOff(c, side, v))
			}
		}
		return a
	}
	isToldAgain(t, bakesAndFaulty(), roomyChain, ask)
}
