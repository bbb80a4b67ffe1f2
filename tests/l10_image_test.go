package tests

import (
	"fmt"
	"math"
	"slices"
	"testing"

	"loop.example/g00639/impl"
)

func image(wide int64, pixels ...[]int64) impl.Image {
	return impl.Image{Wide: wide, Pixels: pixels}
}

func cloneImage(m impl.Image) impl.Image {
	return impl.Image{Wide: m.Wide, Pixels: cloneLists(m.Pixels)}
}

// withPixel answers m with another pixel at one place.
func withPixel(m impl.Image, place int, pixel []int64) impl.Image {
	own := cloneImage(m)
	own.Pixels[place] = pixel
	return own
}

// imageOf has at each place what of tells of it.
func imageOf(wide int64, rows int64, of func(x int64, y int64) []int64) impl.Image {
	m := image(wide)
	for y := range rows {
		for x := range wide {
			m.Pixels = append(m.Pixels, of(x, y))
		}
	}
	return m
}

// placedImage has pixels that tell where they stand.
func placedImage(wide int64, rows int64) impl.Image {
	return imageOf(wide, rows, func(x, y int64) []int64 { return []int64{x, y, 1000*y + x} })
}

// spreadImage has pixels of all levels; every seed has others.
func spreadImage(wide int64, rows int64, seed int64) impl.Image {
	v := spread(int(3*(seed+wide*rows)), 0, top)[3*seed:]
	return imageOf(wide, rows, func(x, y int64) []int64 { return slices.Clone(v[3*(y*wide+x):][:3]) })
}

// brightImage has levels at the ends and next to them.
func brightImage(wide int64, rows int64) impl.Image {
	ends := []int64{top, 0, top - 1, 1}
	return imageOf(wide, rows, func(x, y int64) []int64 { return []int64{ends[x%4], ends[(x+y)%4], ends[(3*y+1)%4]} })
}

// rowsIn is how many whole rows there is room for.
func rowsIn(wide int64) int64 {
	return 32 / wide
}

// images have each width, and each number of rows that there can be.
func images() []impl.Image {
	var list []impl.Image
	for wide := range int64(9) {
		if wide == 0 {
			continue
		}
		list = append(list, impl.Image{Wide: wide, Pixels: [][]int64{}}, brightImage(wide, rowsIn(wide)))
		for rows := range rowsIn(wide) + 1 {
			list = append(list, placedImage(wide, rows), spreadImage(wide, rows, 7*wide+rows))
		}
	}
	return list
}

// fewImages are few enough to be asked much: of no pixel, of one, of one row, of one column, of all that there can be.
func fewImages() []impl.Image {
	return []impl.Image{
		image(1), image(8), image(1, []int64{5, 600, 7000}), spreadImage(8, 1, 3), spreadImage(1, 32, 5), placedImage(8, 4), placedImage(3, 10),
		spreadImage(3, 2, 11), spreadImage(2, 3, 13), brightImage(5, 6), spreadImage(4, 4, 17), brightImage(7, 4), placedImage(6, 5),
	}
}

func isSameImage(a impl.Image, b impl.Image) bool {
	return a.Wide == b.Wide && slices.EqualFunc(a.Pixels, b.Pixels, slices.Equal[[]int64])
}

// isImage compares both by itself, as SameImages is what is tested, too.
func isImage(t *testing.T, what string, got impl.ImageResult, want impl.Image) {
	t.Helper()
	if got.Code != impl.OK || !isSameImage(got.Image, want) {
		t.Errorf("%s = %+v, want %v", what, got, want)
	}
}

func isNoImage(t *testing.T, what string, got impl.ImageResult, code int64) {
	t.Helper()
	if got.Code != code || got.Image.Wide != 0 || len(got.Image.Pixels) != 0 {
		t.Errorf("%s = %+v, want the code %d alone", what, got, code)
	}
}

// wantMap is by the other formulas that the tests of chains have.
func wantMap(c impl.Chain, m impl.Image) impl.Image {
	want := image(m.Wide)
	for _, pixel := range m.Pixels {
		want.Pixels = append(want.Pixels, wantValue(c, pixel))
	}
	return want
}

type imageCase struct {
	what string
	m    impl.Image
	code int64
}

// noWides are just outside, 0, below 0, far away, and such as are inside in fewer bits.
func noWides() []int64 {
	var list []int64
	for _, v := range append(edges(), 9, 10, -2, -8, 16, 32, 33, 256+1, 256+8, 1<<16+2, 1<<32+1, 1<<32+8, -1<<32+1, math.MinInt64+8) {
		if !within(v, 1, 8) {
			list = append(list, v)
		}
	}
	return list
}

// badPixels have too few numbers, or too many, or one that is no level.
func badPixels() [][]int64 {
	return [][]int64{nil, {}, {5}, {1, 2}, {1, 2, 3, 4}, {-1, 0, 0}, {0, top + 1, 0}, {0, 0, math.MinInt64}, {-1, 2}}
}

// faultyWides have a width that is none, whatever pixels there are.
func faultyWides() []imageCase {
	var list []imageCase
	for _, wide := range noWides() {
		for _, pixels := range [][][]int64{nil, {{1, 2, 3}}, placedImage(8, 4).Pixels, placedImage(3, 11).Pixels, badPixels(), make([][]int64, 40)} {
			list = append(list, imageCase{fmt.Sprintf("%d wide, %d pixels", wide, len(pixels)), image(wide, pixels...), impl.ErrRange})
		}
	}
	return list
}

// faultyAreas have too many pixels, or rows that are not whole, whatever the pixels are.
func faultyAreas() []imageCase {
	var list []imageCase
	for wide := int64(1); wide <= 8; wide++ {
		counts := []int64{256, 256 + wide, 256 + 32, 840, 65536, 65536 + 8*wide}
		for n := range int64(81) {
			counts = append(counts, n)
		}
		for _, n := range counts {
			if n <= 32 && n%wide == 0 {
				continue
			}
			what := fmt.Sprintf("%d wide, %d pixels", wide, n)
			list = append(list, imageCase{what, image(wide, slices.Repeat([][]int64{{1, 2, 3}}, int(n))...), impl.ErrMany})
			if n < 100 {
				list = append(list, imageCase{what + ", no levels", image(wide, slices.Repeat([][]int64{{1, -1, 3}}, int(n))...), impl.ErrMany})
			}
		}
	}
	return list
}

// faultyPixels have each pixel that is none, at the first place, at the last one, and at one between.
func faultyPixels() []imageCase {
	var list []imageCase
	good := []impl.Image{placedImage(1, 1), placedImage(8, 4), placedImage(3, 5), placedImage(1, 32), placedImage(2, 2)}
	turn := 0
	for code, pixels := range colourCases() {
		for _, pixel := range pixels {
			m := good[turn%len(good)]
			for _, place := range []int{0, len(m.Pixels) / 2, len(m.Pixels) - 1} {
				list = append(list, imageCase{fmt.Sprintf("pixel %d is %v", place, pixel[:min(len(pixel), 9)]), withPixel(m, place, pixel), code})
			}
			turn++
		}
	}
	return list
}

// faultyPlacesOfPixels have one pixel that is none at each place, and another one at each place behind it: the first one is told.
func faultyPlacesOfPixels() []imageCase {
	var list []imageCase
	faults := map[int64][][]int64{impl.ErrMany: {{1, 2}, {1, 2, 3, 4}}, impl.ErrRange: {{0, top + 1, 0}, {-1, 0, 0}, {0, 0, -1}}}
	for _, m := range []impl.Image{placedImage(8, 4), placedImage(1, 5), placedImage(3, 3)} {
		for place := range m.Pixels {
			for code, pixels := range faults {
				for _, pixel := range pixels {
					bad := withPixel(m, place, pixel)
					list = append(list, imageCase{fmt.Sprintf("pixel %d is %v", place, pixel), bad, code})
					for behind := place + 1; behind < len(m.Pixels); behind += 3 {
						list = append(list,
							imageCase{fmt.Sprintf("pixel %d is %v, ahead of one of two numbers", place, pixel), withPixel(bad, behind, []int64{1, 2}), code},
							imageCase{fmt.Sprintf("pixel %d is %v, ahead of one of no level", place, pixel), withPixel(bad, behind, []int64{-1, 0, 0}), code})
					}
				}
			}
		}
	}
	return list
}

func faultyImages() []imageCase {
	return slices.Concat(faultyWides(), faultyAreas(), faultyPixels(), faultyPlacesOfPixels())
}

// fewFaultyImages are some of each code, with and without a second fault behind the first one.
func fewFaultyImages() []imageCase {
	return []imageCase{
		{"no image", impl.Image{}, impl.ErrRange},
		{"9 wide", image(9, slices.Repeat([][]int64{{1, 2, 3}}, 9)...), impl.ErrRange},
		{"-1 wide, no pixels", image(-1), impl.ErrRange},
		{"33 pixels", placedImage(1, 33), impl.ErrMany},
		{"33 pixels, 3 wide", placedImage(3, 11), impl.ErrMany},
		{"rows that are not whole", image(2, placedImage(1, 3).Pixels...), impl.ErrMany},
		{"a pixel of two", withPixel(placedImage(2, 2), 3, []int64{1, 2}), impl.ErrMany},
		{"a pixel of four", withPixel(placedImage(3, 2), 0, []int64{1, 2, 3, 4}), impl.ErrMany},
		{"a level below 0", withPixel(placedImage(8, 4), 31, []int64{0, 0, -1}), impl.ErrRange},
		{"a level above", withPixel(placedImage(4, 1), 1, []int64{top + 1, 0, 0}), impl.ErrRange},
	}
}

func TestImageConstants(t *testing.T) {
	if impl.MaxWide != 8 || impl.MaxPixels != 32 {
		t.Errorf("MaxWide, MaxPixels are %d, %d", impl.MaxWide, impl.MaxPixels)
	}
}

func TestImageFaultOfImages(t *testing.T) {
	for _, m := range images() {
		if code := impl.ImageFault(m); code != impl.OK {
			t.Errorf("ImageFault(%v) = %d", m, code)
		}
	}
}

func TestImageFault(t *testing.T) {
	for _, f := range append(faultyImages(), fewFaultyImages()...) {
		if code := impl.ImageFault(f.m); code != f.code {
			t.Errorf("%s: ImageFault = %d, want %d", f.what, code, f.code)
		}
	}
}

func TestMapImageCases(t *testing.T) {
	m := image(2, []int64{1, 2, 3}, []int64{4, 5, 6}, []int64{7, 8, 9}, []int64{0, 0, 0})
	isImage(t, "MapImage of swap", impl.MapImage(chain(swap()), m), image(2, []int64{2, 1, 2}, []int64{5, 4, 3}, []int64{8, 7, 5}, []int64{0, 0, 0}))
	isImage(t, "MapImage of down", impl.MapImage(chain(down()), m), image(2, []int64{65534, 65533, 65532}, []int64{65531, 65530, 65529}, []int64{65528, 65527, 65526}, []int64{top, top, top}))
	isImage(t, "MapImage of both", impl.MapImage(chain(swap(), down()), m), image(2, []int64{65533, 65534, 65533}, []int64{65530, 65531, 65532}, []int64{65527, 65528, 65530}, []int64{top, top, top}))
	for _, none := range []impl.Chain{{}, {Stages: []impl.Stage{}}} {
		for _, m := range images() {
			isImage(t, "MapImage of no stage", impl.MapImage(none, m), m)
		}
	}
}

// Each chain with some images, and each image with some chains.
func TestMapImage(t *testing.T) {
	all, few := images(), someChains()
	for i, c := range chains() {
		m := all[(7*i)%len(all)]
		isImage(t, fmt.Sprintf("MapImage(%v, %v)", c, m), impl.MapImage(c, m), wantMap(c, m))
	}
	for i, m := range all {
		for k := range 2 {
			c := few[(i+5*k)%len(few)]
			isImage(t, fmt.Sprintf("MapImage(%v, %v)", c, m), impl.MapImage(c, m), wantMap(c, m))
		}
	}
}

// Promise 11: each pixel that comes out is the EvalChain of the one that stood there.
func TestEachPixelIsDoneForItself(t *testing.T) {
	for i, c := range append(someChains(), chains()[60:100]...) {
		for k, m := range fewImages() {
			if i > 20 && (i+k)%4 != 0 {
				continue
			}
			got := impl.MapImage(c, m)
			if got.Code != impl.OK || got.Image.Wide != m.Wide || len(got.Image.Pixels) != len(m.Pixels) {
				t.Fatalf("MapImage(%v, %v) = %+v", c, m, got)
			}
			for place, pixel := range m.Pixels {
				x, y := int64(place)%m.Wide, int64(place)/m.Wide
				want := impl.EvalChain(c, pixel)
				isList(t, "EvalChain of PixelAt", impl.EvalChain(c, impl.PixelAt(m, x, y).List), want.List...)
				isList(t, "PixelAt of MapImage", impl.PixelAt(got.Image, x, y), want.List...)
				if !slices.Equal(got.Image.Pixels[place], want.List) {
					t.Fatalf("%v: pixel %d of %v is %v", c, place, m, got.Image.Pixels[place])
				}
			}
		}
	}
}

// Promise 11: the same pixels come out of each width that divides how many there are, and wherever they are moved to.
func TestEachPixelIsTheSameWhereverItStands(t *testing.T) {
	pixels := spreadImage(8, 3, 29).Pixels
	for _, c := range someChains() {
		want := wantMap(c, image(8, pixels...)).Pixels
		for _, wide := range []int64{1, 2, 3, 4, 6, 8} {
			for move := range pixels {
				m := image(wide, slices.Concat(pixels[move:], pixels[:move])...)
				isImage(t, "MapImage of moved pixels", impl.MapImage(c, m), image(wide, slices.Concat(want[move:], want[:move])...))
			}
		}
		for place, pixel := range pixels {
			alone := impl.MapImage(c, image(1, pixel))
			isImage(t, "MapImage of one pixel", alone, image(1, want[place]))
			isImage(t, "MapImage of like pixels", impl.MapImage(c, image(4, slices.Repeat([][]int64{pixel}, 32)...)), image(4, slices.Repeat([][]int64{want[place]}, 32)...))
			among := withPixel(brightImage(5, 6), place, pixel)
			isList(t, "a pixel among others", impl.PixelAt(impl.MapImage(c, among).Image, int64(place%5), int64(place/5)), want[place]...)
		}
	}
}

// Promise 11: where rows are cut, stacked or turned, it is the same ahead of a chain as behind it.
func TestRowsAheadOfAChainAndBehind(t *testing.T) {
	for i, c := range someChains() {
		for k, m := range fewImages() {
			if (i+k)%3 != 0 {
				continue
			}
			mapped := impl.MapImage(c, m).Image
			rows := int64(len(m.Pixels)) / m.Wide
			isImage(t, "MapImage of FlipImage", impl.MapImage(c, impl.FlipImage(m).Image), impl.FlipImage(mapped).Image)
			for cut := range rows + 1 {
				ahead, behind := impl.CropImage(m, 0, cut).Image, impl.CropImage(m, cut, rows-cut).Image
				isImage(t, "MapImage of CropImage", impl.MapImage(c, ahead), impl.CropImage(mapped, 0, cut).Image)
				isImage(t, "MapImage of CropImage", impl.MapImage(c, behind), impl.CropImage(mapped, cut, rows-cut).Image)
				isImage(t, "StackImages of MapImage", impl.StackImages(impl.MapImage(c, ahead).Image, impl.MapImage(c, behind).Image), mapped)
			}
		}
	}
}

// Promise 11: two chains one behind the other do with an image what the joined one does.
func TestMapImageOfJoinedChains(t *testing.T) {
	for i, a := range someChains() {
		for k, b := range someChains() {
			both := impl.JoinChains(a, b)
			if both.Code == impl.OK {
				m := fewImages()[(i+k)%13]
				isImage(t, "MapImage of what is joined", impl.MapImage(both.Chain, m), impl.MapImage(b, impl.MapImage(a, m).Image).Image)
			}
		}
	}
}

func TestCropImage(t *testing.T) {
	for _, m := range images() {
		rows := int64(len(m.Pixels)) / m.Wide
		for from := range rows + 1 {
			for count := range rows - from + 1 {
				want := image(m.Wide, m.Pixels[from*m.Wide:(from+count)*m.Wide]...)
				isImage(t, fmt.Sprintf("CropImage(%v, %d, %d)", m, from, count), impl.CropImage(m, from, count), want)
			}
		}
		isImage(t, "CropImage of all rows", impl.CropImage(m, 0, rows), m)
		isImage(t, "CropImage of no row", impl.CropImage(m, rows, 0), image(m.Wide))
	}
	m := placedImage(2, 4)
	isImage(t, "the rows 1 and 2", impl.CropImage(m, 1, 2), image(2, []int64{0, 1, 1000}, []int64{1, 1, 1001}, []int64{0, 2, 2000}, []int64{1, 2, 2001}))
}

// besideRows are just inside and outside of the rows, far outside, such as are inside in fewer bits, and such as leave int64 together.
func besideRows(rows int64) []int64 {
	list := append(edges(), 256, 1<<16+1, 1<<32, 1<<32+1, -1<<32, -1<<32+1, 1<<60, 1<<61, 1<<62, -1<<61, -1<<62)
	for v := int64(-2); v <= rows+2; v++ {
		list = append(list, v, math.MaxInt64-v-2, math.MinInt64+v+2)
	}
	return list
}

// The sum is asked only of two numbers that are small enough.
func TestCropImageOutside(t *testing.T) {
	found := map[int64]int{}
	for _, m := range fewImages() {
		rows := int64(len(m.Pixels)) / m.Wide
		for _, from := range besideRows(rows) {
			for _, count := range besideRows(rows) {
				what := fmt.Sprintf("CropImage(%v, %d, %d)", m, from, count)
				got := impl.CropImage(m, from, count)
				found[got.Code]++
				if within(from, 0, rows) && within(count, 0, rows) && from+count <= rows {
					isImage(t, what, got, image(m.Wide, m.Pixels[from*m.Wide:(from+count)*m.Wide]...))
				} else {
					isNoImage(t, what, got, impl.ErrRange)
				}
			}
		}
	}
	if found[impl.OK] < 100 || found[impl.ErrRange] < 1000 {
		t.Errorf("codes, so often: %v", found)
	}
}

// Named pairs that are outside by one, or by so much that both together come to something inside.
func TestCropImageOutsideByLittleOrMuch(t *testing.T) {
	m := placedImage(3, 4)
	for _, v := range [][2]int64{
		{-1, 0}, {-1, 1}, {-1, 4}, {-1, 5}, {0, -1}, {1, -1}, {4, -1}, {5, -1}, {5, 0}, {4, 1}, {0, 5}, {1, 4}, {3, 2}, {-1, -1},
		{math.MaxInt64, math.MaxInt64}, {math.MaxInt64, 1}, {1, math.MaxInt64}, {4, math.MaxInt64}, {math.MaxInt64, 0}, {0, math.MaxInt64},
		{math.MinInt64, math.MinInt64}, {math.MinInt64, math.MaxInt64}, {math.MaxInt64, math.MinInt64}, {math.MinInt64, 0}, {0, math.MinInt64},
		{1 << 62, 1 << 62}, {1 << 63 / 3, 1 << 63 / 3 * 2}, {-4, 8}, {8, -4}, {math.MaxInt64 - 3, 4}, {math.MaxInt64 - 3, 5}, {6, math.MaxInt64 - 3},
	} {
		isNoImage(t, fmt.Sprintf("CropImage of four rows from %d, %d of them", v[0], v[1]), impl.CropImage(m, v[0], v[1]), impl.ErrRange)
	}
}

// Promise 11: wherever rows are cut apart, stacked again they are what they were.
func TestRowsCutApartAndStackedAgain(t *testing.T) {
	for _, m := range images() {
		rows := int64(len(m.Pixels)) / m.Wide
		for cut := range rows + 1 {
			ahead, behind := impl.CropImage(m, 0, cut), impl.CropImage(m, cut, rows-cut)
			again := impl.StackImages(ahead.Image, behind.Image)
			isImage(t, fmt.Sprintf("%v, cut at row %d, stacked", m, cut), again, m)
			if !impl.SameImages(again.Image, m) || ahead.Image.Wide != m.Wide || behind.Image.Wide != m.Wide {
				t.Errorf("%v, cut at row %d: %+v and %+v", m, cut, ahead, behind)
			}
		}
		isImage(t, "no row ahead, stacked", impl.StackImages(impl.CropImage(m, 0, 0).Image, impl.CropImage(m, 0, rows).Image), m)
		isImage(t, "no row behind, stacked", impl.StackImages(impl.CropImage(m, 0, rows).Image, impl.CropImage(m, rows, 0).Image), m)
	}
}

// Promise 11: each row for itself, and three parts, whichever two of them are stacked first.
func TestRowsCutInManyPartsAndStackedAgain(t *testing.T) {
	for _, m := range images() {
		rows := int64(len(m.Pixels)) / m.Wide
		again := image(m.Wide)
		for y := range rows {
			again = impl.StackImages(again, impl.CropImage(m, y, 1).Image).Image
		}
		isImage(t, "each row for itself, stacked", impl.ImageResult{Image: again}, m)
		for first := range rows + 1 {
			second := (first + rows) / 2
			a, b, c := impl.CropImage(m, 0, first).Image, impl.CropImage(m, first, second-first).Image, impl.CropImage(m, second, rows-second).Image
			isImage(t, "the first two first", impl.StackImages(impl.StackImages(a, b).Image, c), m)
			isImage(t, "the last two first", impl.StackImages(a, impl.StackImages(b, c).Image), m)
		}
	}
}

// Each two numbers of rows of each width: as many as there is room for, and one row more.
func TestStackImages(t *testing.T) {
	for wide := int64(1); wide <= 8; wide++ {
		most := rowsIn(wide)
		for first := range most + 1 {
			for second := range most + 1 {
				a, b := placedImage(wide, first), spreadImage(wide, second, first)
				what := fmt.Sprintf("StackImages of %d and %d rows, %d wide", first, second, wide)
				if first+second > most {
					isNoImage(t, what, impl.StackImages(a, b), impl.ErrMany)
					continue
				}
				isImage(t, what, impl.StackImages(a, b), image(wide, slices.Concat(a.Pixels, b.Pixels)...))
				isImage(t, what+", the other one first", impl.StackImages(b, a), image(wide, slices.Concat(b.Pixels, a.Pixels)...))
			}
		}
	}
}

// The widths come ahead of how many pixels there are together: also where there are none.
func TestStackImagesOfOtherWidths(t *testing.T) {
	for a := int64(1); a <= 8; a++ {
		for b := int64(1); b <= 8; b++ {
			if a == b {
				continue
			}
			for _, first := range []int64{0, 1, rowsIn(a)} {
				for _, second := range []int64{0, 1, rowsIn(b)} {
					what := fmt.Sprintf("StackImages of %d rows, %d wide, and %d, %d wide", first, a, second, b)
					isNoImage(t, what, impl.StackImages(placedImage(a, first), placedImage(b, second)), impl.ErrState)
				}
			}
		}
	}
}

func TestFlipImage(t *testing.T) {
	m := placedImage(3, 2)
	isImage(t, "FlipImage", impl.FlipImage(m), image(3, []int64{0, 1, 1000}, []int64{1, 1, 1001}, []int64{2, 1, 1002}, []int64{0, 0, 0}, []int64{1, 0, 1}, []int64{2, 0, 2}))
	for _, m := range images() {
		rows := int64(len(m.Pixels)) / m.Wide
		flipped := impl.FlipImage(m)
		isImage(t, "FlipImage", flipped, imageOf(m.Wide, rows, func(x, y int64) []int64 { return m.Pixels[(rows-1-y)*m.Wide+x] }))
		isImage(t, "FlipImage twice", impl.FlipImage(flipped.Image), m)
		for y := range rows {
			isImage(t, "a row of FlipImage", impl.CropImage(flipped.Image, rows-1-y, 1), impl.CropImage(m, y, 1).Image)
		}
		for cut := range rows + 1 {
			ahead, behind := impl.FlipImage(impl.CropImage(m, 0, cut).Image).Image, impl.FlipImage(impl.CropImage(m, cut, rows-cut).Image).Image
			isImage(t, "FlipImage of two parts", impl.StackImages(behind, ahead), flipped.Image)
		}
	}
}

func TestPixelAt(t *testing.T) {
	for _, m := range images() {
		rows := int64(len(m.Pixels)) / m.Wide
		for x := int64(-2); x <= m.Wide+1; x++ {
			for y := int64(-2); y <= rows+1; y++ {
				what := fmt.Sprintf("PixelAt(%v, %d, %d)", m, x, y)
				got := impl.PixelAt(m, x, y)
				if within(x, 0, m.Wide-1) && within(y, 0, rows-1) {
					isList(t, what, got, m.Pixels[y*m.Wide+x]...)
				} else {
					isNoList(t, what, got, impl.ErrRange)
				}
			}
		}
	}
}

// Far outside: also where y times Wide and x together come to a place that there is.
func TestPixelAtFarOutside(t *testing.T) {
	for _, m := range fewImages() {
		rows := int64(len(m.Pixels)) / m.Wide
		for _, x := range append(besideRows(m.Wide), -m.Wide, m.Wide, 2*m.Wide) {
			for _, y := range append(besideRows(rows), -rows, 2*rows) {
				if !within(x, 0, m.Wide-1) || !within(y, 0, rows-1) {
					isNoList(t, fmt.Sprintf("PixelAt(%v, %d, %d)", m, x, y), impl.PixelAt(m, x, y), impl.ErrRange)
				}
			}
		}
	}
}

// An image without pixels is an image of its width, in every function.
func TestImagesWithoutPixels(t *testing.T) {
	for wide := int64(1); wide <= 8; wide++ {
		for _, m := range []impl.Image{{Wide: wide}, {Wide: wide, Pixels: [][]int64{}}} {
			if code := impl.ImageFault(m); code != impl.OK {
				t.Errorf("ImageFault(%v) = %d", m, code)
			}
			for _, c := range someChains() {
				isImage(t, "MapImage", impl.MapImage(c, m), m)
			}
			isImage(t, "CropImage", impl.CropImage(m, 0, 0), m)
			isImage(t, "FlipImage", impl.FlipImage(m), m)
			isImage(t, "StackImages of two", impl.StackImages(m, m), m)
			for _, rows := range []int64{1, rowsIn(wide)} {
				isImage(t, "StackImages, none ahead", impl.StackImages(m, placedImage(wide, rows)), placedImage(wide, rows))
				isImage(t, "StackImages, none behind", impl.StackImages(placedImage(wide, rows), m), placedImage(wide, rows))
			}
			for _, v := range [][2]int64{{0, 1}, {1, 0}, {1, 1}, {-1, 0}, {0, -1}, {-1, 1}, {1, -1}} {
				isNoImage(t, fmt.Sprintf("CropImage of no row, %v", v), impl.CropImage(m, v[0], v[1]), impl.ErrRange)
			}
			for _, x := range []int64{-1, 0, wide - 1, wide, math.MinInt64, math.MaxInt64} {
				for _, y := range []int64{-1, 0, 1, math.MinInt64, math.MaxInt64} {
					isNoList(t, fmt.Sprintf("PixelAt(%v, %d, %d)", m, x, y), impl.PixelAt(m, x, y), impl.ErrRange)
				}
			}
			isSameAs(t, m, image(wide), true)
			isSameAs(t, m, image(wide%8+1), false)
			isSameAs(t, m, image(wide, nil), false)
		}
	}
}

// Rule 6: the fault of a chain comes ahead of that of an image; nothing is told beside it.
func TestMapImageOfFaults(t *testing.T) {
	good, bad := fewImages(), fewFaultyImages()
	for i, f := range append(faultyChains(), faultyFolds()...) {
		isNoImage(t, f.what, impl.MapImage(f.c, good[i%len(good)]), f.code)
		isNoImage(t, f.what+", "+bad[i%len(bad)].what, impl.MapImage(f.c, bad[i%len(bad)].m), f.code)
	}
	for i, f := range faultyStages() {
		isNoImage(t, f.what, impl.MapImage(chain(f.s), good[i%len(good)]), f.code)
		isNoImage(t, f.what+", "+bad[i%len(bad)].what, impl.MapImage(chain(down(), f.s), bad[i%len(bad)].m), f.code)
	}
	for _, f := range fewFaultyChains() {
		for _, m := range good {
			isNoImage(t, f.what, impl.MapImage(f.c, m), f.code)
		}
		for _, m := range bad {
			isNoImage(t, f.what+", "+m.what, impl.MapImage(f.c, m.m), f.code)
		}
	}
	few := someChains()
	for i, f := range faultyImages() {
		isNoImage(t, "MapImage, "+f.what, impl.MapImage(few[i%len(few)], f.m), f.code)
	}
	for _, f := range bad {
		for _, c := range few {
			isNoImage(t, "MapImage, "+f.what, impl.MapImage(c, f.m), f.code)
		}
	}
}

// Rule 6: the fault of an image comes ahead of what is outside of it; nothing is told beside it.
func TestRowsAndPixelsOfFaultyImages(t *testing.T) {
	outside := [][2]int64{{0, 0}, {0, 1}, {1, 0}, {-1, 0}, {0, -1}, {32, 32}, {math.MaxInt64, math.MaxInt64}, {math.MinInt64, 0}}
	for i, f := range append(faultyImages(), fewFaultyImages()...) {
		isNoImage(t, "FlipImage, "+f.what, impl.FlipImage(f.m), f.code)
		for k, v := range outside {
			if (i+k)%4 == 0 {
				isNoImage(t, "CropImage, "+f.what, impl.CropImage(f.m, v[0], v[1]), f.code)
				isNoList(t, "PixelAt, "+f.what, impl.PixelAt(f.m, v[0], v[1]), f.code)
			}
		}
	}
	for _, f := range fewFaultyImages() {
		for _, v := range outside {
			isNoImage(t, "CropImage, "+f.what, impl.CropImage(f.m, v[0], v[1]), f.code)
			isNoList(t, "PixelAt, "+f.what, impl.PixelAt(f.m, v[0], v[1]), f.code)
		}
	}
}

// Rule 6: the fault of the one, then that of the other one, then the widths, then how many: nothing is told beside it.
func TestStackImagesOfFaults(t *testing.T) {
	good := fewImages()
	for i, f := range faultyImages() {
		isNoImage(t, "StackImages, ahead, "+f.what, impl.StackImages(f.m, good[i%len(good)]), f.code)
		isNoImage(t, "StackImages, behind, "+f.what, impl.StackImages(good[i%len(good)], f.m), f.code)
	}
	for _, f := range fewFaultyImages() {
		for _, m := range append(good, image(1), placedImage(2, 16), placedImage(3, 10), placedImage(8, 4)) {
			isNoImage(t, "StackImages, ahead, "+f.what, impl.StackImages(f.m, m), f.code)
			isNoImage(t, "StackImages, behind, "+f.what, impl.StackImages(m, f.m), f.code)
		}
		for _, other := range fewFaultyImages() {
			isNoImage(t, "StackImages, "+f.what+" ahead of "+other.what, impl.StackImages(f.m, other.m), f.code)
		}
	}
}

func isSameAs(t *testing.T, a impl.Image, b impl.Image, want bool) {
	t.Helper()
	if impl.SameImages(a, b) != want || impl.SameImages(b, a) != want {
		t.Errorf("SameImages(%v, %v) is not %v", a, b, want)
	}
}

func imagesAndFaulty() []impl.Image {
	list := append(fewImages(), images()[:40]...)
	all := faultyImages()
	for i := 0; i < len(all); i += 37 {
		if len(all[i].m.Pixels) < 100 {
			list = append(list, all[i].m)
		}
	}
	for _, f := range fewFaultyImages() {
		list = append(list, f.m)
	}
	return list
}

// Each image with itself, with each other one, and with such as differ in one thing alone, with a fault and without one.
func TestSameImages(t *testing.T) {
	list := imagesAndFaulty()
	for _, m := range list {
		isSameAs(t, m, m, true)
		isSameAs(t, m, cloneImage(m), true)
		for _, wide := range []int64{m.Wide + 1, m.Wide - 1, -m.Wide - 9, m.Wide ^ 1<<32} {
			isSameAs(t, m, image(wide, m.Pixels...), false)
		}
		isSameAs(t, m, image(m.Wide, slices.Concat(m.Pixels, [][]int64{{0, 0, 0}})...), false)
		isSameAs(t, m, image(m.Wide, slices.Concat(m.Pixels, [][]int64{nil})...), false)
		for place, pixel := range m.Pixels {
			isSameAs(t, m, withPixel(m, place, append(slices.Clone(pixel), 0)), false)
			for k := range pixel[:min(len(pixel), 9)] {
				other := withPixel(m, place, slices.Clone(pixel))
				other.Pixels[place][k] ^= 1
				isSameAs(t, m, other, false)
				isSameAs(t, m, withPixel(m, place, pixel[:k]), false)
			}
			isSameAs(t, m, image(m.Wide, slices.Delete(cloneImage(m).Pixels, place, place+1)...), false)
		}
	}
	for _, a := range list {
		for _, b := range list {
			isSameAs(t, a, b, isSameImage(a, b))
		}
	}
}

// Rule 2: an empty list and nil are the same value; but neither is the same as zeros, nor is a list of such lists.
func TestSameImagesOfEmptyLists(t *testing.T) {
	isSameAs(t, impl.Image{}, impl.Image{Pixels: [][]int64{}}, true)
	isSameAs(t, image(2, nil, []int64{}), image(2, []int64{}, nil), true)
	others := []impl.Image{{}, image(1), image(-1), image(1, nil), image(1, nil, nil), image(1, []int64{0}), image(1, []int64{0, 0, 0}), image(1, []int64{0, 0, 0}, nil), image(2, []int64{0, 0, 0}, []int64{0, 0, 0})}
	for i, a := range others {
		for k, b := range others {
			isSameAs(t, a, b, i == k)
		}
	}
	isSameAs(t, image(2, []int64{1, 2, 3}, []int64{4, 5, 6}), image(2, []int64{4, 5, 6}, []int64{1, 2, 3}), false)
	isSameAs(t, image(2, []int64{1, 2, 3}, []int64{4, 5, 6}), image(1, []int64{1, 2, 3}, []int64{4, 5, 6}), false)
	isSameAs(t, image(1, []int64{1, 2}, []int64{3}), image(1, []int64{1}, []int64{2, 3}), false)
}

// roomyImage answers m in memory that has room behind each of its lists, and whether all of that is still as it was.
func roomyImage(m impl.Image) (impl.Image, func() bool) {
	pixels, unchanged := roomyLists(m.Pixels)
	return impl.Image{Wide: m.Wide, Pixels: pixels}, unchanged
}

// imagePairs are some of rows from, and how many of them, or of x and y: inside and outside.
func imagePairs() [][2]int64 {
	return [][2]int64{{0, 0}, {0, 1}, {1, 1}, {1, 0}, {0, 3}, {2, 2}, {0, 4}, {0, 32}, {7, 3}, {-1, 2}, {3, -1}, {math.MaxInt64, 1}}
}

// askRows asks all that is told as an image but for MapImage.
func askRows(m impl.Image, other impl.Image) []impl.ImageResult {
	list := []impl.ImageResult{impl.FlipImage(m), impl.StackImages(m, other), impl.StackImages(other, m), impl.StackImages(m, m)}
	for _, v := range imagePairs() {
		list = append(list, impl.CropImage(m, v[0], v[1]))
	}
	return append(list, impl.CropImage(m, 0, int64(len(m.Pixels))/max(m.Wide, 1)))
}

func askPixels(m impl.Image) []impl.IntsResult {
	var list []impl.IntsResult
	for _, v := range imagePairs() {
		list = append(list, impl.PixelAt(m, v[0], v[1]))
	}
	return list
}

// Promise 1: no argument is changed, whether there is a code or not, nor what lies behind it in its memory.
func TestImagesChangeNoArgument(t *testing.T) {
	list := bakesAndFaulty()
	for i, m := range imagesAndFaulty() {
		own, unchanged := roomyImage(m)
		other, otherUnchanged := roomyImage(spreadImage(m.Wide&7+1, 2, 3))
		same, sameUnchanged := roomyImage(spreadImage(min(max(m.Wide, 1), 8), 1, 5))
		impl.ImageFault(own)
		impl.SameImages(own, m)
		impl.SameImages(m, own)
		askPixels(own)
		askRows(own, other)
		askRows(own, same)
		for k := range 12 {
			c, chainUnchanged := roomyChain(list[(12*i+k)%len(list)])
			impl.MapImage(c, own)
			if !chainUnchanged() {
				t.Fatalf("%v was changed", c)
			}
		}
		if !unchanged() || !otherUnchanged() || !sameUnchanged() {
			t.Fatalf("%v or an image was changed", m)
		}
	}
}

// Promise 1: what is answered is new memory, each pixel for itself; of no stage, of all rows, and with no row beside it, too.
func TestImagesAnswerNewMemory(t *testing.T) {
	for i, m := range imagesAndFaulty() {
		own, unchanged := roomyImage(m)
		empty, _ := roomyImage(image(m.Wide))
		for k, got := range append(askRows(own, empty), askRows(own, image(m.Wide, own.Pixels[:min(max(m.Wide, 0), int64(len(own.Pixels)))]...))...) {
			isNewMemory(t, fmt.Sprintf("image %d, answer %d", i, k), got, own, empty)
		}
		for _, got := range askPixels(own) {
			isNewMemory(t, "PixelAt", got, own)
		}
		few := append(fewBakeChains(), impl.Chain{}, impl.Chain{Stages: []impl.Stage{}}, chain(idleStages()...))
		c, chainUnchanged := roomyChain(few[i%len(few)])
		for _, c := range []impl.Chain{c, {}} {
			isNewMemory(t, "MapImage", impl.MapImage(c, own), own, c)
			checkNewLists(t, "MapImage", func() [][]int64 { return impl.MapImage(c, own).Image.Pixels })
		}
		checkNewLists(t, "FlipImage", func() [][]int64 { return impl.FlipImage(own).Image.Pixels })
		checkNewLists(t, "StackImages", func() [][]int64 { return impl.StackImages(own, empty).Image.Pixels })
		checkNewLists(t, "StackImages with itself", func() [][]int64 { return impl.StackImages(own, own).Image.Pixels })
		for _, v := range imagePairs() {
			checkNewLists(t, "CropImage", func() [][]int64 { return impl.CropImage(own, v[0], v[1]).Image.Pixels })
			checkNewLists(t, "PixelAt", func() [][]int64 { return [][]int64{impl.PixelAt(own, v[0], v[1]).List} })
		}
		if !unchanged() || !chainUnchanged() {
			t.Fatalf("%v: an answer shares memory with an argument", m)
		}
	}
}

// spoilImage changes all that can be reached from m.
func spoilImage(m impl.Image) {
	for i := range m.Pixels {
		fillInts(m.Pixels[i])
		m.Pixels[i] = nil
	}
}

// What was told stays as it is when what it was told of turns.
func TestImagesStayAsTheyAre(t *testing.T) {
	for i, m := range images() {
		rows := int64(len(m.Pixels)) / m.Wide
		own, c := cloneImage(m), cloneChain(someChains()[i%len(someChains())])
		mapped, left := impl.MapImage(c, own), impl.MapImage(impl.Chain{}, own)
		cropped, stacked, flipped := impl.CropImage(own, 0, rows), impl.StackImages(image(m.Wide), own), impl.FlipImage(own)
		want := impl.MapImage(cloneChain(c), cloneImage(m)).Image
		spoilImage(own)
		spoilChain(c)
		isImage(t, "MapImage behind a change", mapped, want)
		isImage(t, "MapImage of no stage behind a change", left, m)
		isImage(t, "CropImage behind a change", cropped, m)
		isImage(t, "StackImages behind a change", stacked, m)
		isImage(t, "FlipImage twice behind a change", impl.FlipImage(flipped.Image), m)
	}
}

// Pixels of an argument may share memory, with each other and with the chain: what is told hangs on the numbers alone.
func TestImagesOfPixelsThatShareMemory(t *testing.T) {
	numbers := []int64{0, 30000, 40000, 2, 60000}
	kept := slices.Clone(numbers)
	m := image(2, numbers[:3], numbers[1:4], numbers[2:], numbers[:3])
	apart := cloneImage(m)
	shared := chainIn(numbers)
	for n := range len(shared.Stages) + 1 {
		c := chain(shared.Stages[:n]...)
		got := impl.MapImage(c, m)
		isImage(t, "MapImage", got, wantMap(cloneChain(c), apart))
		isNewMemory(t, "MapImage", got, c, m)
	}
	for _, got := range askRows(m, m) {
		isNewMemory(t, "an image of pixels that share memory", got, m)
	}
	isImage(t, "StackImages", impl.StackImages(m, m), image(2, slices.Concat(apart.Pixels, apart.Pixels)...))
	isImage(t, "FlipImage", impl.FlipImage(m), image(2, apart.Pixels[2], apart.Pixels[3], apart.Pixels[0], apart.Pixels[1]))
	isImage(t, "CropImage", impl.CropImage(m, 1, 1), image(2, apart.Pixels[2:]...))
	isSameAs(t, m, apart, true)
	spoilImage(impl.MapImage(impl.Chain{}, m).Image)
	fillInts(impl.PixelAt(m, 1, 1).List)
	if !slices.Equal(numbers, kept) {
		t.Errorf("an argument was changed: %v", numbers)
	}
}

// Promise 1: the same arguments have the same answer, whatever was asked between.
func TestImagesAnswerTheSameAgain(t *testing.T) {
	type answers struct {
		fault  int64
		rows   []impl.ImageResult
		mapped []impl.ImageResult
		pixels []impl.IntsResult
		same   []bool
	}
	others := fewImages()
	ask := func(m impl.Image) answers {
		a := answers{fault: impl.ImageFault(m), pixels: askPixels(m)}
		for _, other := range others[4:8] {
			a.rows = append(a.rows, askRows(m, other)...)
			a.same = append(a.same, impl.SameImages(m, other), impl.SameImages(other, m))
		}
		for _, c := range append(fewBakeChains(), chain(impl.Stage{})) {
			a.mapped = append(a.mapped, impl.MapImage(c, m))
		}
		return a
	}
	isToldAgain(t, imagesAndFaulty(), roomyImage, ask)
}
