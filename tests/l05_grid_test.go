package tests

import (
	"fmt"
	"math"
	"math/big"
	"reflect"
	"slices"
	"testing"

	"loop.example/g00639/impl"
)

// nodeCount tells how many nodes a grid of that side has.
func nodeCount(side int64) int {
	return int(side * side * side)
}

// placeAt is the place of a node, by its number: the last number goes round fastest.
func placeAt(side int64, number int) []int64 {
	n := int64(number)
	return []int64{n / (side * side), n / side % side, n % side}
}

// numberAt is the number of the node at a place.
func numberAt(side int64, place []int64) int {
	return int((place[0]*side+place[1])*side + place[2])
}

func gridOf(side int64, node func(place []int64) []int64) impl.Grid {
	g := impl.Grid{Side: side}
	for n := range nodeCount(side) {
		g.Nodes = append(g.Nodes, node(placeAt(side, n)))
	}
	return g
}

func likeGrid(side int64, a, b, c int64) impl.Grid {
	return gridOf(side, func([]int64) []int64 { return []int64{a, b, c} })
}

// numberedGrid has no two levels that are the same.
func numberedGrid(side int64) impl.Grid {
	return gridOf(side, func(p []int64) []int64 {
		n := 100*p[0] + 10*p[1] + p[2]
		return []int64{n, 1000 + n, 60000 - n}
	})
}

// linePoints are written out, not told by a division.
func linePoints(side int64) []int64 {
	return map[int64][]int64{2: {0, 65535}, 3: {0, 32768, 65535}, 4: {0, 21845, 43690, 65535}}[side]
}

func lineGrid(side int64) impl.Grid {
	points := linePoints(side)
	return gridOf(side, func(p []int64) []int64 { return []int64{points[p[0]], points[p[1]], points[p[2]]} })
}

// spreadGrid has levels of up to most; every seed has others.
func spreadGrid(side int64, seed int, most int64) impl.Grid {
	n := 3 * nodeCount(side)
	v := spread(n*(seed+1), 0, most)[n*seed:]
	return gridOf(side, func(p []int64) []int64 { return slices.Clone(v[3*numberAt(side, p):][:3]) })
}

func cloneGrid(g impl.Grid) impl.Grid {
	return impl.Grid{Side: g.Side, Nodes: cloneLists(g.Nodes)}
}

// withNode answers g with another node with that number.
func withNode(g impl.Grid, number int, node ...int64) impl.Grid {
	own := cloneGrid(g)
	own.Nodes[number] = node
	return own
}

// withLevel answers g with v for one level of one node.
func withLevel(g impl.Grid, number int, k int, v int64) impl.Grid {
	own := cloneGrid(g)
	own.Nodes[number][k] = v
	return own
}

// axesOrdered answers g with its axes in another order.
func axesOrdered(g impl.Grid, o order) impl.Grid {
	own := cloneGrid(g)
	for n := range own.Nodes {
		p := placeAt(g.Side, n)
		own.Nodes[numberAt(g.Side, ordered(p, o))] = slices.Clone(g.Nodes[n])
	}
	return own
}

// gridsOf are grids of one side: lines, like nodes, steep and flat ones, levels at the ends, and spread ones.
func gridsOf(side int64) []impl.Grid {
	last := nodeCount(side) - 1
	list := []impl.Grid{
		lineGrid(side), numberedGrid(side), likeGrid(side, 0, 0, 0), likeGrid(side, top, top, top), likeGrid(side, 1, 32768, 65534),
		withNode(likeGrid(side, 0, 0, 0), 0, top, 1, 2), withNode(likeGrid(side, top, top, top), last, 0, top-1, 5),
		gridOf(side, func(p []int64) []int64 { return []int64{top - 16000*p[2], 20000 * p[0], 7} }),
		gridOf(side, func(p []int64) []int64 { return []int64{top * ((p[0] + p[1] + p[2]) % 2), p[1] % 2, p[2]} }),
	}
	for seed, most := range []int64{1, 2, 300, top, top, top} {
		list = append(list, spreadGrid(side, seed, most))
	}
	return list
}

func sides() []int64 {
	return []int64{2, 3, impl.MaxSide}
}

func grids() []impl.Grid {
	var list []impl.Grid
	for _, side := range sides() {
		list = append(list, gridsOf(side)...)
	}
	return list
}

// noSides are just outside of the sides, 0, below 0, far away, and such as are sides in fewer bits.
func noSides() []int64 {
	return []int64{1, 5, 0, -1, -2, -4, 6, 17, 256 + 2, 1<<32 + 2, 1<<32 + 4, 1 << 62, -1<<32 + 3, math.MaxInt64, math.MinInt64, math.MinInt64 + 2}
}

func noLevels() []int64 {
	var list []int64
	for _, v := range append(edges(), 1<<32+5, -1<<32+5, 1<<16+5) {
		if !within(v, 0, top) {
			list = append(list, v)
		}
	}
	return list
}

// notThree are lists that have not three numbers, all of which are levels.
func notThree() [][]int64 {
	return [][]int64{nil, {}, {1}, {1, 1}, {1, 1, 1, 1}, slices.Repeat([]int64{1}, 6), slices.Repeat([]int64{0}, 70000)}
}

// nodeLevels are the levels at which a place of a grid is: of three nodes along an axis the middle one is at no whole level.
func nodeLevels(side int64) map[int64]int64 {
	return map[int64]map[int64]int64{2: {0: 0, top: 1}, 3: {0: 0, top: 2}, 4: {0: 0, 21845: 1, 43690: 2, top: 3}}[side]
}

// levelsBeside are the levels at each node, or nearest to it, and some ahead and behind.
func levelsBeside(side int64) []int64 {
	var list []int64
	for i := range side {
		for d := int64(-2); d <= 2; d++ {
			if v := i*top/(side-1) + d; within(v, 0, top) {
				list = append(list, v)
			}
		}
	}
	return list
}

func coloursBeside(side int64) [][]int64 {
	var list [][]int64
	for _, a := range levelsBeside(side) {
		for _, b := range levelsBeside(side) {
			for _, c := range levelsBeside(side) {
				list = append(list, []int64{a, b, c})
			}
		}
	}
	return list
}

// manyColours go through each third of the levels and meet in all orders.
func manyColours() [][]int64 {
	list := colours()
	for v := spread(900, 0, top); len(v) >= 3; v = v[3:] {
		list = append(list, []int64{v[0], v[1], v[2]})
	}
	for i := range int64(40) {
		list = append(list, []int64{1638 * i, top - 1638*i, 819 * i}, []int64{i, 3 * i, 2 * i}, []int64{top - 2*i, top - i, top})
	}
	return list
}

type gridCase struct {
	what string
	g    impl.Grid
	code int64
}

// faultySides have a side that is none, with nodes of every number that could go with it.
func faultySides() []gridCase {
	var list []gridCase
	for _, side := range noSides() {
		for _, n := range []int{0, 1, 8, 27, 64, 125} {
			list = append(list, gridCase{fmt.Sprintf("side %d, %d nodes", side, n), impl.Grid{Side: side, Nodes: slices.Repeat([][]int64{{1, 2, 3}}, n)}, impl.ErrRange})
		}
		list = append(list,
			gridCase{"side ahead of nodes that are none", impl.Grid{Side: side, Nodes: [][]int64{nil, {1}, {-1, 0, 0}}}, impl.ErrRange},
			gridCase{"side ahead of short nodes", impl.Grid{Side: side, Nodes: slices.Repeat([][]int64{{1, 2}}, 8)}, impl.ErrRange})
	}
	return list
}

// faultyCounts have too few nodes, or too many, none at all, or as many as another side has.
func faultyCounts() []gridCase {
	var list []gridCase
	for _, side := range sides() {
		want := nodeCount(side)
		list = append(list, gridCase{"an empty list", impl.Grid{Side: side, Nodes: [][]int64{}}, impl.ErrMany})
		for _, n := range []int{0, 1, 2, int(side), int(side * side), want - 1, want + 1, want - int(side), want + int(side), 8, 27, 64, 125, 2 * want, 256 + want, 1000} {
			if n == want {
				continue
			}
			list = append(list, gridCase{fmt.Sprintf("side %d, %d nodes", side, n), impl.Grid{Side: side, Nodes: slices.Repeat([][]int64{{1, 2, 3}}, n)}, impl.ErrMany})
		}
	}
	return list
}

// faultyNodes have not three numbers at one node, or all of them in one list.
func faultyNodes() []gridCase {
	var list []gridCase
	for _, side := range sides() {
		for n := range nodeCount(side) {
			for _, node := range [][]int64{nil, {}, {1}, {1, 2}, {1, 2, 3, 4}, {1, 2, 3, 4, 5, 6}} {
				list = append(list, gridCase{fmt.Sprintf("side %d, node %d is %v", side, n, node), withNode(likeGrid(side, 1, 2, 3), n, node...), impl.ErrMany})
			}
		}
		list = append(list,
			gridCase{"nodes of nothing", impl.Grid{Side: side, Nodes: make([][]int64, nodeCount(side))}, impl.ErrMany},
			gridCase{"all levels in one node", impl.Grid{Side: side, Nodes: [][]int64{make([]int64, 3*nodeCount(side))}}, impl.ErrMany},
			gridCase{"one level in each node", impl.Grid{Side: side, Nodes: slices.Repeat([][]int64{{1}}, 3*nodeCount(side))}, impl.ErrMany})
	}
	return list
}

// faultyLevels have a number that is no level, at every place of every node.
func faultyLevels() []gridCase {
	var list []gridCase
	for _, side := range sides() {
		for n := range nodeCount(side) {
			for k := range 3 {
				for _, bad := range []int64{-1, top + 1, math.MinInt64, math.MaxInt64, 1<<32 + 5} {
					list = append(list, gridCase{fmt.Sprintf("side %d, %d at node %d, %d", side, bad, n, k), withLevel(lineGrid(side), n, k, bad), impl.ErrRange})
				}
			}
		}
	}
	for _, bad := range noLevels() {
		list = append(list, gridCase{fmt.Sprintf("%d everywhere", bad), likeGrid(2, bad, bad, bad), impl.ErrRange})
	}
	return list
}

// faultyTwice have two faults: how many nodes comes first, and then each node is asked both codes ahead of the next one.
func faultyTwice() []gridCase {
	var list []gridCase
	for _, side := range sides() {
		last := nodeCount(side) - 1
		good := lineGrid(side)
		few, many := cloneGrid(good), cloneGrid(good)
		few.Nodes[0], many.Nodes[0] = []int64{-1, 0, 0}, []int64{0, top + 1, 0}
		few.Nodes, many.Nodes = few.Nodes[:last], append(many.Nodes, []int64{0, 0, 0})
		list = append(list,
			gridCase{"how many ahead of no level, too few", few, impl.ErrMany},
			gridCase{"how many ahead of no level, too many", many, impl.ErrMany})
		for _, bad := range []int64{-1, top + 1} {
			list = append(list,
				gridCase{"numbers of a node ahead of one of them, too few", withNode(good, 0, bad, bad), impl.ErrMany},
				gridCase{"numbers of a node ahead of one of them, too many", withNode(good, last, bad, 0, 0, 0), impl.ErrMany},
				gridCase{"a short node ahead of no level behind it", withLevel(withNode(good, 0, 1, 2), last, 2, bad), impl.ErrMany},
				gridCase{"a long node ahead of no level behind it", withLevel(withNode(good, last-1, 1, 2, 3, 4), last, 0, bad), impl.ErrMany},
				gridCase{"no level ahead of a short node behind it", withNode(withLevel(good, 0, 2, bad), last, 1, 2), impl.ErrRange},
				gridCase{"no level ahead of a long node behind it", withNode(withLevel(good, last-1, 0, bad), last, 1, 2, 3, 4), impl.ErrRange},
				gridCase{"no level ahead of an empty node behind it", withNode(withLevel(good, 1, 1, bad), 2), impl.ErrRange})
		}
	}
	return list
}

func faultyGrids() []gridCase {
	return slices.Concat(faultySides(), faultyCounts(), faultyNodes(), faultyLevels(), faultyTwice())
}

// someFaultyGrids are few enough to be asked much.
func someFaultyGrids() []gridCase {
	list := slices.Concat(faultyTwice(), faultyCounts())
	all := faultyGrids()
	for i := 0; i < len(all); i += 13 {
		list = append(list, all[i])
	}
	return list
}

func isNoGrid(t *testing.T, what string, got impl.GridResult, code int64) {
	t.Helper()
	if got.Code != code || got.Grid.Side != 0 || len(got.Grid.Nodes) != 0 {
		t.Errorf("%s = %+v, want the code %d alone", what, got, code)
	}
}

func isCell(t *testing.T, what string, got impl.CellResult, cells []int64, rests []int64) {
	t.Helper()
	if got.Code != impl.OK || !slices.Equal(got.Cells, cells) || !slices.Equal(got.Rests, rests) {
		t.Errorf("%s = %+v, want %v and %v", what, got, cells, rests)
	}
}

func isNoCell(t *testing.T, what string, got impl.CellResult, code int64) {
	t.Helper()
	if got.Code != code || len(got.Cells) != 0 || len(got.Rests) != 0 {
		t.Errorf("%s = %+v, want the code %d alone", what, got, code)
	}
}

// wantCell takes the last cell that does not begin behind the level: so the last level is the end of the last cell.
func wantCell(side int64, level int64) (int64, int64) {
	cell := side - 2
	for cell*top > level*(side-1) {
		cell--
	}
	return cell, level*(side-1) - cell*top
}

func wantCellOf(side int64, v []int64) ([]int64, []int64) {
	cells, rests := make([]int64, 3), make([]int64, 3)
	for i := range v {
		cells[i], rests[i] = wantCell(side, v[i])
	}
	return cells, rests
}

// wantGrid asks of each part of MaxLevel for itself which corner of the cell it
// goes to: one on along each axis whose rest is above that part. So it needs
// neither an order of the axes nor a way along them; parts between two rests are
// taken together.
func wantGrid(g impl.Grid, v []int64) []int64 {
	cells, rests := wantCellOf(g.Side, v)
	parts := append([]int64{0, top}, rests...)
	slices.Sort(parts)
	sums := []*big.Int{new(big.Int), new(big.Int), new(big.Int)}
	for i, part := range parts[:len(parts)-1] {
		corner := slices.Clone(cells)
		for axis := range corner {
			if rests[axis] > part {
				corner[axis]++
			}
		}
		if part == parts[i+1] {
			continue
		}
		for k, level := range g.Nodes[numberAt(g.Side, corner)] {
			sums[k].Add(sums[k], product(level, parts[i+1]-part))
		}
	}
	list := make([]int64, 3)
	for k, sum := range sums {
		list[k] = roundHalfUp(sum, big.NewInt(top)).Int64()
	}
	return list
}

func TestGridConstant(t *testing.T) {
	if impl.MaxSide != 4 {
		t.Errorf("MaxSide = %d", impl.MaxSide)
	}
}

func TestGridFaultOfGrids(t *testing.T) {
	for _, g := range grids() {
		if code := impl.GridFault(g); code != impl.OK {
			t.Errorf("GridFault(%v) = %d", g, code)
		}
	}
	for _, side := range sides() {
		for n := range nodeCount(side) {
			for k := range 3 {
				for _, v := range []int64{0, 1, top - 1, top} {
					if code := impl.GridFault(withLevel(lineGrid(side), n, k, v)); code != impl.OK {
						t.Errorf("GridFault with %d at node %d, %d = %d", v, n, k, code)
					}
				}
			}
		}
	}
}

func TestGridFault(t *testing.T) {
	for _, c := range faultyGrids() {
		if code := impl.GridFault(c.g); code != c.code {
			t.Errorf("%s: GridFault = %d, want %d", c.what, code, c.code)
		}
	}
	if code := impl.GridFault(impl.Grid{}); code != impl.ErrRange {
		t.Errorf("GridFault of the zero value = %d", code)
	}
}

// Rule 6: the fault of a grid comes ahead of all other codes, and nothing is told beside it.
func TestGridFaultIsAskedFirst(t *testing.T) {
	lists := [][]int64{{0, 0, 0}, {1, 1, 1}, {top, top, top}, {0, 0, -1}, {0, top + 1, 0}, {1, 1}, {0, 0, 0, 0}, {-1}, nil}
	for _, c := range faultyGrids() {
		for _, v := range lists {
			isNoList(t, "EvalGrid, "+c.what, impl.EvalGrid(c.g, v), c.code)
			isNoList(t, "NodeOf, "+c.what, impl.NodeOf(c.g, v), c.code)
		}
		isInt(t, "SpanOf, "+c.what, impl.SpanOf(c.g), c.code, 0)
	}
}

func TestCellOfCases(t *testing.T) {
	cases := []struct {
		side            int64
		v, cells, rests []int64
	}{
		{2, []int64{0, 1, 65535}, []int64{0, 0, 0}, []int64{0, 1, 65535}},
		{2, []int64{65534, 32767, 32768}, []int64{0, 0, 0}, []int64{65534, 32767, 32768}},
		{3, []int64{0, 1, 65535}, []int64{0, 0, 1}, []int64{0, 2, 65535}},
		{3, []int64{32767, 32768, 65534}, []int64{0, 1, 1}, []int64{65534, 1, 65533}},
		{4, []int64{0, 1, 65535}, []int64{0, 0, 2}, []int64{0, 3, 65535}},
		{4, []int64{21844, 21845, 21846}, []int64{0, 1, 1}, []int64{65532, 0, 3}},
		{4, []int64{43689, 43690, 43691}, []int64{1, 2, 2}, []int64{65532, 0, 3}},
		{4, []int64{65534, 65535, 65533}, []int64{2, 2, 2}, []int64{65532, 65535, 65529}},
		{4, []int64{21845, 65535, 1}, []int64{1, 2, 0}, []int64{0, 65535, 3}},
	}
	for _, c := range cases {
		for _, o := range orders() {
			isCell(t, fmt.Sprintf("CellOf(%d, %v)", c.side, ordered(c.v, o)), impl.CellOf(c.side, ordered(c.v, o)), ordered(c.cells, o), ordered(c.rests, o))
		}
	}
}

// Promise 6: a level is its cell and its rest, at every level and with each side.
func TestALevelIsItsCellAndItsRest(t *testing.T) {
	for _, side := range sides() {
		for v := range int64(top + 1) {
			colour := []int64{v, top - v, (v + 21845) % (top + 1)}
			got := impl.CellOf(side, colour)
			cells, rests := wantCellOf(side, colour)
			isCell(t, fmt.Sprintf("CellOf(%d, %v)", side, colour), got, cells, rests)
			if t.Failed() {
				return
			}
			for i, level := range colour {
				cell, rest := got.Cells[i], got.Rests[i]
				if cell*top+rest != level*(side-1) || !within(cell, 0, side-2) || !within(rest, 0, top) || (rest == top) != (level == top) {
					t.Fatalf("%d with side %d is cell %d and rest %d", level, side, cell, rest)
				}
			}
		}
	}
}

func TestCellOfNothing(t *testing.T) {
	for _, side := range sides() {
		for _, v := range notThree() {
			isNoCell(t, "CellOf of another length", impl.CellOf(side, v), impl.ErrMany)
		}
		for _, bad := range noLevels() {
			for i := range 3 {
				v := []int64{0, 32768, top}
				v[i] = bad
				isNoCell(t, "CellOf of no level", impl.CellOf(side, v), impl.ErrRange)
			}
			for _, v := range [][]int64{{bad}, {bad, bad}, {0, 0, 0, bad}} {
				isNoCell(t, "how many ahead of no level", impl.CellOf(side, v), impl.ErrMany)
			}
		}
	}
	for _, side := range noSides() {
		for _, v := range append(notThree(), []int64{0, 0, 0}, []int64{1, 2, 3}, []int64{top, top, top}, []int64{0, -1, 0}, []int64{-1}) {
			isNoCell(t, "CellOf of no side", impl.CellOf(side, v), impl.ErrRange)
		}
	}
}

func TestNodeOf(t *testing.T) {
	for _, g := range grids() {
		for n, node := range g.Nodes {
			isList(t, "NodeOf", impl.NodeOf(g, placeAt(g.Side, n)), node...)
		}
	}
	isList(t, "NodeOf of a line", impl.NodeOf(lineGrid(2), []int64{1, 0, 1}), top, 0, top)
	isList(t, "the last number goes round fastest", impl.NodeOf(impl.Grid{Side: 2, Nodes: [][]int64{{0, 0, 0}, {1, 0, 0}, {2, 0, 0}, {3, 0, 0}, {4, 0, 0}, {5, 0, 0}, {6, 0, 0}, {7, 0, 0}}}, []int64{1, 0, 0}), 4, 0, 0)
	isList(t, "NodeOf", impl.NodeOf(numberedGrid(4), []int64{3, 1, 2}), 312, 1312, 59688)
}

// A place that is not there is none, though the number of a node might be reckoned of it.
func TestNodeOfNoPlace(t *testing.T) {
	for _, side := range sides() {
		g := numberedGrid(side)
		for _, bad := range append(noLevels(), side, side+1, -2, -side, side*side, 1<<32, 1<<62, 1<<63-1-side) {
			for n := range nodeCount(side) {
				for axis := range 3 {
					place := placeAt(side, n)
					place[axis] = bad
					isNoList(t, fmt.Sprintf("NodeOf at %v", place), impl.NodeOf(g, place), impl.ErrRange)
				}
			}
			isNoList(t, "NodeOf at no place at all", impl.NodeOf(g, []int64{bad, bad, bad}), impl.ErrRange)
			for _, place := range [][]int64{{bad}, {bad, bad}, {0, 0, 0, bad}} {
				isNoList(t, "how many ahead of no place", impl.NodeOf(g, place), impl.ErrMany)
			}
		}
		for _, place := range notThree() {
			isNoList(t, "NodeOf of another length", impl.NodeOf(g, place), impl.ErrMany)
		}
	}
}

func TestLineGrid(t *testing.T) {
	for _, side := range sides() {
		got := impl.LineGrid(side)
		if got.Code != impl.OK || !reflect.DeepEqual(got.Grid, lineGrid(side)) {
			t.Errorf("LineGrid(%d) = %+v", side, got)
		}
		if code := impl.GridFault(got.Grid); code != impl.OK {
			t.Errorf("LineGrid(%d) has the fault %d", side, code)
		}
	}
	for _, side := range append(noSides(), edges()...) {
		if !within(side, 2, 4) {
			isNoGrid(t, fmt.Sprintf("LineGrid(%d)", side), impl.LineGrid(side), impl.ErrRange)
		}
	}
}

// By a line of 2 or of 4 all is as it was; of 3 the half that was rounded up shows.
func TestEvalGridOfLines(t *testing.T) {
	two, three, four := lineGrid(2), lineGrid(3), lineGrid(4)
	for v := range int64(top + 1) {
		colour := []int64{v, top - v, (v + 21845) % (top + 1)}
		isList(t, "EvalGrid of a line of 2", impl.EvalGrid(two, colour), colour...)
		if v%5 == 0 {
			isList(t, "EvalGrid of a line of 4", impl.EvalGrid(four, colour), colour...)
		}
		if t.Failed() {
			return
		}
	}
	isList(t, "EvalGrid of a line of 3", impl.EvalGrid(three, []int64{65535, 0, 32768}), 65535, 0, 32768)
	isList(t, "EvalGrid of a line of 3", impl.EvalGrid(three, []int64{32767, 16384, 1}), 32767, 16384, 1)
	isList(t, "EvalGrid of a line of 3", impl.EvalGrid(three, []int64{49151, 49152, 65534}), 49151, 49152, 65534)
	for v := int64(0); v <= top; v += 3 {
		got := impl.EvalGrid(three, []int64{v, top - v, v / 2})
		for i, level := range []int64{v, top - v, v / 2} {
			if len(got.List) != 3 || max(got.List[i]-level, level-got.List[i]) > 1 {
				t.Fatalf("EvalGrid of a line of 3 at %d = %+v", v, got)
			}
		}
	}
}

// Promise 6: at its nodes a grid is these.
func TestAtItsNodesAGridIsThese(t *testing.T) {
	for _, g := range grids() {
		levels := nodeLevels(g.Side)
		for a, i := range levels {
			for b, j := range levels {
				for c, k := range levels {
					want := g.Nodes[numberAt(g.Side, []int64{i, j, k})]
					isList(t, fmt.Sprintf("EvalGrid of side %d at %d, %d, %d", g.Side, a, b, c), impl.EvalGrid(g, []int64{a, b, c}), want...)
				}
			}
		}
	}
}

// checkBetween asks that a value is not outside of what the nodes tell, one level for itself each.
func checkBetween(t *testing.T, what string, list []int64, nodes [][]int64) {
	t.Helper()
	for k := range 3 {
		low, high := nodes[0][k], nodes[0][k]
		for _, node := range nodes {
			low, high = min(low, node[k]), max(high, node[k])
		}
		if len(list) != 3 || !within(list[k], low, high) {
			t.Fatalf("%s = %v, not between %d and %d", what, list, low, high)
		}
	}
}

func cornersOfCell(g impl.Grid, v []int64) [][]int64 {
	cells, _ := wantCellOf(g.Side, v)
	var list [][]int64
	for n := range nodeCount(2) {
		step := placeAt(2, n)
		list = append(list, g.Nodes[numberAt(g.Side, []int64{cells[0] + step[0], cells[1] + step[1], cells[2] + step[2]})])
	}
	return list
}

// Promise 6: elsewhere a grid is between the least and the greatest of its nodes, and even of those around.
func TestElsewhereAGridIsBetweenItsNodes(t *testing.T) {
	for _, g := range grids() {
		for _, v := range manyColours() {
			list := impl.EvalGrid(g, v).List
			what := fmt.Sprintf("EvalGrid of side %d at %v", g.Side, v)
			checkBetween(t, what, list, g.Nodes)
			checkBetween(t, what, list, cornersOfCell(g, v))
		}
	}
}

// Promise 6: a grid of like nodes tells that node everywhere.
func TestAGridOfLikeNodesTellsThatNode(t *testing.T) {
	for _, side := range sides() {
		for _, node := range [][]int64{{0, 0, 0}, {top, top, top}, {0, top, 1}, {1, 32767, 32768}, {top - 1, 12345, 54321}} {
			g := likeGrid(side, node[0], node[1], node[2])
			for _, v := range append(manyColours(), coloursBeside(side)...) {
				isList(t, fmt.Sprintf("EvalGrid of like nodes, side %d, at %v", side, v), impl.EvalGrid(g, v), node...)
			}
		}
	}
}

func TestEvalGridIsExact(t *testing.T) {
	for _, side := range sides() {
		beside := coloursBeside(side)
		for i, g := range gridsOf(side) {
			for _, v := range manyColours() {
				isList(t, fmt.Sprintf("EvalGrid of side %d at %v", side, v), impl.EvalGrid(g, v), wantGrid(g, v)...)
			}
			for j := i % 4; j < len(beside); j += 4 {
				isList(t, fmt.Sprintf("EvalGrid of side %d beside a node at %v", side, beside[j]), impl.EvalGrid(g, beside[j]), wantGrid(g, beside[j])...)
			}
		}
	}
}

func TestEvalGridCases(t *testing.T) {
	// Each way across the cell tells another value.
	g := impl.Grid{Side: 2, Nodes: [][]int64{{0, 0, 1}, {0, 0, 65535}, {0, 65535, 0}, {0, 65535, 65535}, {65535, 0, 0}, {0, 0, 0}, {65535, 65535, 0}, {65535, 65535, 65535}}}
	cases := []struct {
		v, want []int64
	}{
		{[]int64{300, 200, 100}, []int64{300, 200, 101}},
		{[]int64{300, 100, 200}, []int64{200, 100, 101}},
		{[]int64{200, 300, 100}, []int64{200, 300, 101}},
		{[]int64{100, 300, 200}, []int64{100, 300, 201}},
		{[]int64{200, 100, 300}, []int64{100, 100, 201}},
		{[]int64{100, 200, 300}, []int64{100, 200, 301}},
		{[]int64{0, 0, 0}, []int64{0, 0, 1}},
		{[]int64{65535, 65535, 65535}, []int64{65535, 65535, 65535}},
		{[]int64{65535, 0, 65535}, []int64{0, 0, 0}},
		{[]int64{65535, 0, 65534}, []int64{1, 0, 0}},
	}
	for _, c := range cases {
		isList(t, fmt.Sprintf("EvalGrid at %v", c.v), impl.EvalGrid(g, c.v), c.want...)
	}
}

// alongAxes is the chapter's sum, with the axes in an order that is told.
func alongAxes(g impl.Grid, v []int64, axes [3]int) []int64 {
	cells, rests := wantCellOf(g.Side, v)
	weights := []int64{top - rests[axes[0]], rests[axes[0]] - rests[axes[1]], rests[axes[1]] - rests[axes[2]], rests[axes[2]]}
	list := make([]int64, 3)
	for step, weight := range weights {
		if step > 0 {
			cells[axes[step-1]]++
		}
		for k, level := range g.Nodes[numberAt(g.Side, cells)] {
			list[k] += weight * level
		}
	}
	for k, sum := range list {
		list[k] = (2*sum + top) / (2 * top)
	}
	return list
}

// levelIn is the level of a cell that has a rest, or the nearest one ahead of that: of three nodes along an axis, and of a rest of 0, this may be in the cell ahead.
func levelIn(side int64, cell int64, rest int64) int64 {
	return (cell*top + rest) / (side - 1)
}

// coloursIn have in every cell the levels that are nearest to three rests, in that order.
func coloursIn(side int64, a, b, c int64) [][]int64 {
	var list [][]int64
	for i := range side - 1 {
		for j := range side - 1 {
			for k := range side - 1 {
				list = append(list, []int64{levelIn(side, i, a), levelIn(side, j, b), levelIn(side, k, c)})
			}
		}
	}
	return list
}

// Every order of the three rests, in every cell: the way goes along the greatest one first.
func TestEvalGridInEveryOrderOfRests(t *testing.T) {
	for _, g := range grids() {
		for _, falling := range [][]int64{{60000, 30000, 9000}, {65534, 65520, 65500}, {64, 32, 16}, {65530, 32768, 5}, {40000, 39990, 39980}, {50000, 100, 3}} {
			for _, o := range orders() {
				// The axis o.from[i] has the rest i of those that fall.
				rests := make([]int64, 3)
				for i, axis := range o.from {
					rests[axis] = falling[i]
				}
				for _, v := range coloursIn(g.Side, rests[0], rests[1], rests[2]) {
					isList(t, fmt.Sprintf("EvalGrid of side %d at %v", g.Side, v), impl.EvalGrid(g, v), alongAxes(g, v, o.from)...)
				}
			}
		}
	}
}

// Axes that change their places change nothing but where the levels stand, like ones among them.
func TestEvalGridOfOtherAxes(t *testing.T) {
	for _, side := range sides() {
		for _, g := range gridsOf(side) {
			for _, o := range orders() {
				turned := axesOrdered(g, o)
				for _, v := range append(colours(), coloursIn(side, 3000, 3000, 900)...) {
					isList(t, "EvalGrid of other axes", impl.EvalGrid(turned, ordered(v, o)), impl.EvalGrid(g, v).List...)
				}
			}
		}
	}
}

// likeRests are colours with two rests that are alike, or three, as CellOf tells them; by places of the like ones.
func likeRests(t *testing.T, side int64) map[[3]bool][][]int64 {
	t.Helper()
	found := map[[3]bool][][]int64{}
	for _, rest := range []int64{6, 12, 30000, 32766, 32772, 65526, 65532} {
		for _, other := range []int64{0, 6, 24, 29994, 60000, 65532, 65535} {
			for _, like := range [][3]bool{{true, true, false}, {true, false, true}, {false, true, true}, {true, true, true}} {
				rests := []int64{other, other, other}
				for axis := range rests {
					if like[axis] {
						rests[axis] = rest
					}
				}
				for _, v := range coloursIn(side, rests[0], rests[1], rests[2]) {
					if _, r := wantCellOf(side, v); areLike(r, like) {
						found[like] = append(found[like], v)
					}
				}
			}
		}
	}
	for level := range nodeLevels(side) {
		found[[3]bool{true, true, true}] = append(found[[3]bool{true, true, true}], []int64{level, level, level})
	}
	if len(found) != 4 {
		t.Fatalf("rests that are alike are missing: %v", found)
	}
	return found
}

// areLike tells whether just those rests are the same.
func areLike(rests []int64, like [3]bool) bool {
	for a := range rests {
		for b := range a {
			if (rests[a] == rests[b]) != (like[a] && like[b]) {
				return false
			}
		}
	}
	return true
}

// stepped goes from a place one on along some axes at once.
func stepped(place []int64, axes [3]bool) []int64 {
	own := slices.Clone(place)
	for axis, on := range axes {
		if on {
			own[axis]++
		}
	}
	return own
}

// wantLike is of three nodes, or of two where all rests are alike: what lies between like axes weighs nothing.
func wantLike(g impl.Grid, v []int64, like [3]bool) []int64 {
	cells, rests := wantCellOf(g.Side, v)
	first, all := g.Nodes[numberAt(g.Side, cells)], g.Nodes[numberAt(g.Side, stepped(cells, [3]bool{true, true, true}))]
	rest, other, middle := int64(-1), int64(-1), all
	unlike := [3]bool{!like[0], !like[1], !like[2]}
	for axis := range like {
		if like[axis] {
			rest = rests[axis]
		} else {
			other = rests[axis]
		}
	}
	if other < 0 {
		other = rest
	} else if other < rest {
		middle = g.Nodes[numberAt(g.Side, stepped(cells, like))]
	} else {
		middle = g.Nodes[numberAt(g.Side, stepped(cells, unlike))]
	}
	high, low := max(rest, other), min(rest, other)
	list := make([]int64, 3)
	for k := range list {
		list[k] = roundHalfUp(big.NewInt(first[k]*(top-high)+middle[k]*(high-low)+all[k]*low), big.NewInt(top)).Int64()
	}
	return list
}

// Rests that are alike, two of them in each place, and all three: the least, the greatest, in every cell that has them.
func TestEvalGridOfLikeRests(t *testing.T) {
	for _, side := range sides() {
		for like, list := range likeRests(t, side) {
			for _, g := range gridsOf(side) {
				for _, v := range list {
					isList(t, fmt.Sprintf("EvalGrid of side %d with like rests at %v", side, v), impl.EvalGrid(g, v), wantLike(g, v, like)...)
				}
			}
		}
	}
}

// The last level has no cell of its own: it is the end of the last one, along each axis and along all.
func TestEvalGridAtTheLastLevel(t *testing.T) {
	for _, g := range grids() {
		for _, v := range [][]int64{{top, 5, 9}, {5, top, 9}, {9, 5, top}, {top, top, 40000}, {top, 40000, top}, {40000, top, top}, {top, top - 1, top - 1}, {top, 0, 21845}, {top, 43690, top}, {top, top, top}, {top - 1, top - 1, top - 1}} {
			isList(t, fmt.Sprintf("EvalGrid of side %d at %v", g.Side, v), impl.EvalGrid(g, v), wantGrid(g, v)...)
		}
		isList(t, "EvalGrid at the last levels", impl.EvalGrid(g, []int64{top, top, top}), g.Nodes[nodeCount(g.Side)-1]...)
		isList(t, "EvalGrid at the first levels", impl.EvalGrid(g, []int64{0, 0, 0}), g.Nodes[0]...)
	}
}

// MaxLevel is odd, so no value is just a half; the ones nearest to it go down and up, along each axis, in every cell.
func TestEvalGridNearestToHalves(t *testing.T) {
	for _, side := range sides() {
		for axis := range 3 {
			for cell := range side - 1 {
				rising := gridOf(side, func(p []int64) []int64 { return []int64{p[axis], 7 + 3*p[axis], top - 5*p[axis]} })
				for _, rest := range []int64{32766, 32767, 32768, 32769} {
					v := []int64{0, 0, 0}
					v[axis] = levelIn(side, cell, rest)
					_, r := wantCell(side, v[axis])
					one, three, five := cell, 7+3*cell+1, top-5*cell-2
					if 2*r > top {
						one, three, five = cell+1, 7+3*cell+2, top-5*cell-3
					}
					isList(t, fmt.Sprintf("EvalGrid of side %d nearest to halves at %v", side, v), impl.EvalGrid(rising, v), one, three, five)
				}
			}
		}
	}
}

// A value is rounded once: three parts of a quarter each are three quarters, which go up.
func TestEvalGridRoundsOnce(t *testing.T) {
	g := likeGrid(2, 1, 0, 3)
	g.Nodes[0] = []int64{0, 1, 0}
	for _, o := range orders() {
		v := ordered([]int64{49152, 32768, 16384}, o)
		isList(t, "EvalGrid of three quarters", impl.EvalGrid(g, v), 1, 0, 2)
		v = ordered([]int64{32767, 21845, 10922}, o)
		isList(t, "EvalGrid of nearly a half", impl.EvalGrid(g, v), 0, 1, 1)
		v = ordered([]int64{32768, 21845, 10922}, o)
		isList(t, "EvalGrid of a bit more than a half", impl.EvalGrid(g, v), 1, 0, 2)
	}
}

// A node tells on the values in the cells around it, and on no others.
func TestEvalGridOfOneNode(t *testing.T) {
	for _, side := range sides() {
		for n := range nodeCount(side) {
			for k := range 3 {
				g := withLevel(likeGrid(side, 0, 0, 0), n, k, top)
				place := placeAt(side, n)
				for _, v := range coloursIn(side, 40000, 30000, 20000) {
					want := wantGrid(g, v)
					cells, _ := wantCellOf(side, v)
					for axis := range place {
						if !within(place[axis]-cells[axis], 0, 1) {
							want = []int64{0, 0, 0}
						}
					}
					isList(t, fmt.Sprintf("EvalGrid of node %d alone at %v", n, v), impl.EvalGrid(g, v), want...)
				}
			}
		}
	}
}

func TestEvalGridOfNoColour(t *testing.T) {
	for _, side := range sides() {
		for _, g := range []impl.Grid{lineGrid(side), likeGrid(side, 5, 5, 5)} {
			for _, v := range notThree() {
				isNoList(t, "EvalGrid of another length", impl.EvalGrid(g, v), impl.ErrMany)
			}
			for _, bad := range noLevels() {
				for i := range 3 {
					v := []int64{0, 32768, top}
					v[i] = bad
					isNoList(t, "EvalGrid of no level", impl.EvalGrid(g, v), impl.ErrRange)
				}
				for _, v := range [][]int64{{bad}, {bad, bad}, {0, 0, 0, bad}} {
					isNoList(t, "how many ahead of no level", impl.EvalGrid(g, v), impl.ErrMany)
				}
			}
		}
	}
}

func TestSpanOfCases(t *testing.T) {
	isInt(t, "SpanOf a line of 2", impl.SpanOf(lineGrid(2)), impl.OK, 65535)
	isInt(t, "SpanOf a line of 3", impl.SpanOf(lineGrid(3)), impl.OK, 32768)
	isInt(t, "SpanOf a line of 4", impl.SpanOf(lineGrid(4)), impl.OK, 21845)
	for _, side := range sides() {
		isInt(t, "SpanOf numbers", impl.SpanOf(numberedGrid(side)), impl.OK, 100)
		for _, v := range []int64{0, 1, 32768, top} {
			isInt(t, "SpanOf like nodes", impl.SpanOf(likeGrid(side, v, v, v)), impl.OK, 0)
			isInt(t, "SpanOf like nodes of unlike levels", impl.SpanOf(likeGrid(side, v, top-v, 7)), impl.OK, 0)
		}
	}
}

// wantSpan compares every two nodes that are one step apart.
func wantSpan(g impl.Grid) int64 {
	most := int64(0)
	for n := range g.Nodes {
		for m := range n {
			if !areOneStepApart(g.Side, n, m) {
				continue
			}
			for k := range 3 {
				most = max(most, g.Nodes[n][k]-g.Nodes[m][k], g.Nodes[m][k]-g.Nodes[n][k])
			}
		}
	}
	return most
}

func areOneStepApart(side int64, n int, m int) bool {
	a, b := placeAt(side, n), placeAt(side, m)
	steps := int64(0)
	for axis := range a {
		steps += max(a[axis]-b[axis], b[axis]-a[axis])
	}
	return steps == 1
}

func TestSpanOfIsExact(t *testing.T) {
	for _, g := range grids() {
		isInt(t, "SpanOf", impl.SpanOf(g), impl.OK, wantSpan(g))
	}
	for _, side := range sides() {
		for seed := range 60 {
			g := spreadGrid(side, seed, int64(5+seed*1000))
			isInt(t, "SpanOf", impl.SpanOf(g), impl.OK, wantSpan(g))
		}
	}
}

// The greatest difference lies along one axis, between two nodes, wherever these stand; where they are not one step apart it does not count.
func TestSpanOfTwoNodes(t *testing.T) {
	for _, side := range sides() {
		along := map[int]int{}
		for n := range nodeCount(side) {
			for m := range nodeCount(side) {
				if n == m {
					continue
				}
				g := likeGrid(side, 32767, 32767, 32767)
				k := (n + m) % 3
				g.Nodes[n][k], g.Nodes[m][k] = 0, top
				want := int64(32768)
				if areOneStepApart(side, n, m) {
					want = top
					along[max(n-m, m-n)]++
				}
				isInt(t, fmt.Sprintf("SpanOf side %d with nodes %d and %d", side, n, m), impl.SpanOf(g), impl.OK, want)
				// Levels that stand at other places of the nodes have nothing to do with each other.
				g.Nodes[m][k], g.Nodes[m][(k+1)%3] = 32767, top
				isInt(t, "SpanOf of two places", impl.SpanOf(g), impl.OK, 32768)
			}
		}
		if len(along) != 3 {
			t.Errorf("side %d: not along each axis: %v", side, along)
		}
	}
}

// A difference along one axis alone, at each step of it, up and down.
func TestSpanOfOneAxis(t *testing.T) {
	for _, side := range sides() {
		for axis := range 3 {
			for step := range side - 1 {
				for k := range 3 {
					for _, two := range [][2]int64{{0, 1}, {1, 0}, {0, top}, {top, 0}, {500, 7}} {
						g := gridOf(side, func(p []int64) []int64 {
							node := []int64{9, 9, 9}
							node[k] = two[0]
							if p[axis] > step {
								node[k] = two[1]
							}
							return node
						})
						isInt(t, fmt.Sprintf("SpanOf side %d along axis %d at step %d", side, axis, step), impl.SpanOf(g), impl.OK, max(two[0]-two[1], two[1]-two[0]))
					}
				}
			}
		}
	}
}

func sameNodes(a impl.Grid, b impl.Grid) bool {
	return a.Side == b.Side && slices.EqualFunc(a.Nodes, b.Nodes, slices.Equal[[]int64])
}

func gridsAndFaulty() []impl.Grid {
	list := grids()
	for _, c := range someFaultyGrids() {
		list = append(list, c.g)
	}
	return list
}

func TestSameGrids(t *testing.T) {
	for _, g := range gridsAndFaulty() {
		if !impl.SameGrids(g, g) || !impl.SameGrids(g, cloneGrid(g)) {
			t.Errorf("%v is not the same as itself", g)
		}
		for _, side := range []int64{g.Side + 1, g.Side - 1, -g.Side - 9, 2, 3, 4, 0} {
			other := impl.Grid{Side: side, Nodes: g.Nodes}
			if side != g.Side && (impl.SameGrids(g, other) || impl.SameGrids(other, g)) {
				t.Errorf("%v is the same with side %d", g, side)
			}
		}
		for n := range min(len(g.Nodes), 70) {
			for k := range g.Nodes[n] {
				other := impl.Grid{Side: g.Side, Nodes: slices.Clone(g.Nodes)}
				other.Nodes[n] = slices.Clone(g.Nodes[n])
				other.Nodes[n][k] ^= 1
				if impl.SameGrids(g, other) || impl.SameGrids(other, g) {
					t.Errorf("%v is the same with another level at node %d, %d", g, n, k)
				}
			}
		}
	}
	list := gridsAndFaulty()
	for i, a := range list {
		for j := i % 3; j < len(list); j += 3 {
			if b := list[j]; impl.SameGrids(a, b) != sameNodes(a, b) {
				t.Errorf("SameGrids of %d and %d = %v", i, j, !sameNodes(a, b))
			}
		}
	}
}

// Rule 2: an empty list and nil are the same value; but neither is the same as zeros, nor is a list that goes on.
func TestSameGridsOfEmptyLists(t *testing.T) {
	alikes := [][2]impl.Grid{
		{{}, {Nodes: [][]int64{}}},
		{{Side: 3}, {Side: 3, Nodes: [][]int64{}}},
		{{Side: 2, Nodes: [][]int64{nil}}, {Side: 2, Nodes: [][]int64{{}}}},
		{{Side: 2, Nodes: [][]int64{nil, {}, {1}}}, {Side: 2, Nodes: [][]int64{{}, nil, {1}}}},
	}
	for _, p := range alikes {
		if !impl.SameGrids(p[0], p[1]) || !impl.SameGrids(p[1], p[0]) {
			t.Errorf("%v and %v are not the same", p[0], p[1])
		}
	}
	zero := likeGrid(2, 0, 0, 0)
	others := []impl.Grid{
		{}, {Side: 2}, {Side: 2, Nodes: [][]int64{nil}}, {Side: 2, Nodes: make([][]int64, 8)}, {Side: 2, Nodes: zero.Nodes[:7]}, {Side: 2, Nodes: slices.Concat(zero.Nodes, zero.Nodes[:1])},
		withNode(zero, 7, 0, 0), withNode(zero, 7, 0, 0, 0, 0), withNode(zero, 0), withNode(zero, 7, 0, 0, 1), {Side: 3, Nodes: zero.Nodes}, {Nodes: zero.Nodes}, {Side: -2, Nodes: zero.Nodes},
	}
	for i, g := range others {
		for _, other := range append([]impl.Grid{zero}, others[:i]...) {
			if impl.SameGrids(g, other) || impl.SameGrids(other, g) {
				t.Errorf("%v and %v are the same", g, other)
			}
		}
	}
}

func roomyGrid(g impl.Grid) (impl.Grid, func() bool) {
	nodes, unchanged := roomyLists(g.Nodes)
	return impl.Grid{Side: g.Side, Nodes: nodes}, unchanged
}

// Promise 1: no argument is changed, whether there is a code or not, nor what lies behind it in its memory.
func TestGridsChangeNoArgument(t *testing.T) {
	lists, listsUnchanged := roomyLists([][]int64{{0, 1, 0}, {1, 1, 1}, {5, 600, 70000}, {top, 5, 600}, {600, top, 5}, {43690, 21845, 21845}, {1, 2}, {1, 2, 3, 4}, {1, -1, 0}, nil})
	for _, g := range gridsAndFaulty() {
		own, unchanged := roomyGrid(g)
		impl.GridFault(own)
		impl.SpanOf(own)
		impl.SameGrids(own, g)
		impl.SameGrids(g, own)
		for _, v := range lists {
			impl.EvalGrid(own, v)
			impl.NodeOf(own, v)
			impl.CellOf(own.Side, v)
		}
		if !unchanged() || !listsUnchanged() {
			t.Fatalf("%v or a list was changed", g)
		}
	}
}

// Promise 1: what is answered is new memory, each list for itself.
func TestGridsAnswerNewMemory(t *testing.T) {
	for _, side := range sides() {
		checkNewLists(t, "LineGrid", func() [][]int64 { return impl.LineGrid(side).Grid.Nodes })
		for _, colour := range append(colours(), []int64{top, top, top}, []int64{21845, 43690, 0}) {
			v, unchanged := roomyLists([][]int64{colour})
			checkNewLists(t, "CellOf", func() [][]int64 {
				got := impl.CellOf(side, v[0])
				return [][]int64{got.Cells, got.Rests}
			})
			if !unchanged() {
				t.Fatalf("CellOf shares memory with %v", colour)
			}
		}
	}
	for _, g := range grids() {
		own, unchanged := roomyGrid(g)
		colour, colourUnchanged := roomyLists(append(colours()[:12], []int64{top, 0, top}))
		places := gridOf(g.Side, slices.Clone[[]int64]).Nodes
		checkNewLists(t, "EvalGrid", func() [][]int64 {
			var all [][]int64
			for _, v := range colour {
				all = append(all, impl.EvalGrid(own, v).List)
			}
			return all
		})
		checkNewLists(t, "NodeOf", func() [][]int64 {
			var all [][]int64
			for _, place := range places {
				all = append(all, impl.NodeOf(own, place).List)
			}
			return all
		})
		if !unchanged() || !colourUnchanged() || !reflect.DeepEqual(places, gridOf(g.Side, slices.Clone[[]int64]).Nodes) {
			t.Fatalf("%v: an answer shares memory with an argument", g)
		}
	}
}

// Nodes of an argument may share memory, and so may a colour: what is told hangs on their numbers alone.
func TestGridsOfNodesThatShareMemory(t *testing.T) {
	shared := []int64{40000, 2, 30000, 60000, 5, 1, 0, 777, 100, 200}
	g := impl.Grid{Side: 2}
	for i := range 8 {
		g.Nodes = append(g.Nodes, shared[i:i+3])
	}
	apart, kept := cloneGrid(g), slices.Clone(shared)
	for i := range 8 {
		isList(t, "EvalGrid", impl.EvalGrid(g, shared[i:i+3]), wantGrid(apart, kept[i:i+3])...)
		isList(t, "NodeOf", impl.NodeOf(g, placeAt(2, i)), kept[i:i+3]...)
	}
	isInt(t, "SpanOf", impl.SpanOf(g), impl.OK, wantSpan(apart))
	same := []int64{7, 8, 9}
	like := impl.Grid{Side: 3, Nodes: slices.Repeat([][]int64{same}, 27)}
	isList(t, "EvalGrid of one node for all", impl.EvalGrid(like, same), 7, 8, 9)
	isInt(t, "SpanOf of one node for all", impl.SpanOf(like), impl.OK, 0)
	if !impl.SameGrids(g, apart) || !slices.Equal(shared, kept) || !slices.Equal(same, []int64{7, 8, 9}) {
		t.Errorf("%v is not the same as %v", g, apart)
	}
}

// Promise 1: the same arguments have the same answer, whatever was asked between.
func TestGridsAnswerTheSameAgain(t *testing.T) {
	type answers struct {
		fault          int64
		values, nodes  []impl.IntsResult
		cells          []impl.CellResult
		line           impl.GridResult
		span           impl.IntResult
		sameAsTheFirst bool
	}
	list := gridsAndFaulty()
	ask := func(g impl.Grid) answers {
		a := answers{fault: impl.GridFault(g), line: impl.LineGrid(g.Side), span: impl.SpanOf(g), sameAsTheFirst: impl.SameGrids(g, list[0])}
		for _, v := range [][]int64{{1, 0, 1}, {1, 2, 3}, {top, 0, 30000}, {500, 500, 70}, {1, 2}, {1, -2, 3}} {
			a.values = append(a.values, impl.EvalGrid(g, v))
			a.nodes = append(a.nodes, impl.NodeOf(g, v))
			a.cells = append(a.cells, impl.CellOf(g.Side, v))
		}
		return a
	}
	var first []answers
	for _, g := range list {
		first = append(first, ask(g))
	}
	for i, g := range slices.Backward(list) {
		own, _ := roomyGrid(g)
		if second := ask(own); !reflect.DeepEqual(first[i], second) {
			t.Fatalf("%v: %+v, then %+v", g, first[i], second)
		}
	}
}
