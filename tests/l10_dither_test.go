package tests

import (
	"math"
	"slices"
	"testing"

	"loop.example/pixelworks/impl"
)

// levelValues returns the values of all levels.
func levelValues(levels int) []int {
	var out []int
	for level := range levels {
		out = append(out, floorOf(255*level, levels-1))
	}
	return out
}

// nearestLevel returns the first level whose value is nearest to a number.
func nearestLevel(n int, values []int) int {
	var gaps []int
	for _, value := range values {
		gaps = append(gaps, max(value-n, n-value))
	}
	return slices.Index(gaps, slices.Min(gaps))
}

// badLevels returns numbers of levels that are not valid.
func badLevels() []int {
	return []int{-2, -1, 0, 1, 17, 18, 256, math.MaxInt, math.MinInt}
}

// grayPictures returns valid images with one plane.
func grayPictures() []impl.Image {
	var out []impl.Image
	for _, shape := range [][2]int{{1, 1}, {1, 2}, {2, 1}, {1, 16}, {16, 1}, {2, 2}, {3, 5}, {5, 3}, {4, 4}, {7, 16}, {16, 7}, {16, 16}} {
		m := picture(shape[0], shape[1], 1)
		out = append(out, m, smooth(shape[0], shape[1], 1))
	}
	return out
}

// checkLevels checks that an image has the shape of another one, and only values of levels.
func checkLevels(t *testing.T, what string, out impl.Image, ok bool, m impl.Image, levels int) {
	t.Helper()
	if !ok || out.Width != m.Width || out.Height != m.Height || out.Planes != 1 || len(out.Data) != len(m.Data) {
		t.Fatalf("%s of %d by %d with %d levels has a wrong shape", what, m.Width, m.Height, levels)
	}
	values := levelValues(levels)
	for i, n := range out.Data {
		if !slices.Contains(values, n) {
			t.Fatalf("%s with %d levels: number %d is %d", what, levels, i, n)
		}
	}
}

// Promise 48: LevelOf does not fall with the number, and the value of a level has this level.
func TestP48LevelsAreTheNearestOnes(t *testing.T) {
	for levels := 2; levels <= 16; levels++ {
		values := levelValues(levels)
		before := 0
		for n := -9999; n <= 9999; n++ {
			got := impl.LevelOf(n, levels)
			if got != nearestLevel(n, values) || got < before {
				t.Fatalf("LevelOf(%d, %d) = %d, not %d, behind %d", n, levels, got, nearestLevel(n, values), before)
			}
			before = got
		}
		for level, value := range values {
			if got := impl.LevelOf(value, levels); got != level {
				t.Errorf("LevelOf(%d, %d) = %d", value, levels, got)
			}
		}
	}
}

func TestP48LevelsOfKnownNumbers(t *testing.T) {
	for _, c := range []struct {
		n      int
		levels int
		want   int
	}{
		{127, 2, 0}, {128, 2, 1}, {-9999, 2, 0}, {9999, 2, 1}, {-9999, 16, 0}, {9999, 16, 15}, {0, 2, 0}, {255, 2, 1},
		// The values of 3 levels are 0, 127 and 255, with 191 in the middle of the last two.
		{63, 3, 0}, {64, 3, 1}, {190, 3, 1}, {191, 3, 1}, {192, 3, 2},
		// The values of 5 levels are 0, 63, 127, 191 and 255.
		{31, 5, 0}, {32, 5, 1}, {95, 5, 1}, {96, 5, 2}, {159, 5, 2}, {160, 5, 3}, {223, 5, 3}, {224, 5, 4},
		// The values of 7 levels are 0, 42, 85, 127, 170, 212 and 255.
		{21, 7, 0}, {22, 7, 1}, {106, 7, 2}, {107, 7, 3}, {191, 7, 4}, {192, 7, 5},
		{8, 16, 0}, {9, 16, 1}, {-1, 16, 0}, {256, 16, 15}, {-128, 2, 0},
	} {
		if got := impl.LevelOf(c.n, c.levels); got != c.want {
			t.Errorf("LevelOf(%d, %d) = %d, not %d", c.n, c.levels, got, c.want)
		}
	}
}

func TestP48LevelOfFails(t *testing.T) {
	for _, levels := range badLevels() {
		for _, n := range []int{-9999, -1, 0, 5, 255, 9999, 10000} {
			if got := impl.LevelOf(n, levels); got != -1 {
				t.Errorf("LevelOf(%d, %d) = %d", n, levels, got)
			}
		}
	}
	for levels := 2; levels <= 16; levels++ {
		for _, n := range []int{-10000, 10000, 99999, math.MaxInt, math.MinInt} {
			if got := impl.LevelOf(n, levels); got != -1 {
				t.Errorf("LevelOf(%d, %d) = %d", n, levels, got)
			}
		}
	}
}

// diffused returns the numbers of an image by error diffusion. There is a border around the numbers, so that every neighbour is there.
func diffused(m impl.Image, levels int) []int {
	wide := m.Width + 2
	field := make([]int, wide*(m.Height+1))
	place := func(x int, y int) int { return y*wide + x + 1 }
	eachPlace(m, func(x int, y int) { field[place(x, y)] = rawPixel(m, x, y)[0] })
	values := levelValues(levels)
	var out []int
	eachPlace(m, func(x int, y int) {
		at := place(x, y)
		value := values[nearestLevel(field[at], values)]
		lost := field[at] - value
		rest := lost
		for _, c := range [][2]int{{at + 1, 7}, {at + wide - 1, 3}, {at + wide, 5}} {
			field[c[0]] += floorOf(lost*c[1], 16)
			rest -= floorOf(lost*c[1], 16)
		}
		field[at+wide+1] += rest
		out = append(out, value)
	})
	return out
}

// Promise 49: all numbers of DiffuseImage are values of levels, and an image of such values is unchanged.
func TestP49DiffusedImagesHaveLevels(t *testing.T) {
	for _, m := range grayPictures() {
		for levels := 2; levels <= 16; levels++ {
			out, ok := impl.DiffuseImage(m, levels)
			checkLevels(t, "DiffuseImage", out, ok, m, levels)
			if want := diffused(m, levels); !slices.Equal(out.Data, want) {
				t.Fatalf("DiffuseImage of %d by %d with %d levels = %v, not %v", m.Width, m.Height, levels, out.Data, want)
			}
			if again, ok := impl.DiffuseImage(out, levels); !ok || !equal(again, out) {
				t.Fatalf("DiffuseImage again of %d by %d with %d levels", m.Width, m.Height, levels)
			}
		}
	}
}

func TestP49ImagesOfValuesAreUnchanged(t *testing.T) {
	for levels := 2; levels <= 16; levels++ {
		values := levelValues(levels)
		m := flat(16, 16, 1, 256)
		for i, n := range numbers(levels, 256, levels-1) {
			m.Data[i] = values[n]
		}
		if out, ok := impl.DiffuseImage(m, levels); !ok || !equal(out, m) {
			t.Errorf("DiffuseImage of values of %d levels", levels)
		}
	}
}

// The errors of these images are told in the comments behind them.
func TestP49DiffusedImagesOfKnownErrors(t *testing.T) {
	for _, c := range []struct {
		width  int
		data   []int
		levels int
		want   []int
	}{
		{1, []int{127}, 2, []int{0}},
		{1, []int{128}, 2, []int{255}},
		{1, []int{191}, 3, []int{127}},
		{3, []int{101, 100, 175}, 2, []int{0, 255, 0}}, // 101 and -111 to the right: 44 and -49
		{3, []int{101, 100, 176}, 2, []int{0, 255, 0}},
		{3, []int{101, 100, 177}, 2, []int{0, 255, 255}},
		{1, []int{100, 100, 166}, 2, []int{0, 255, 0}}, // 100 and -124 down: 31 and -39
		{1, []int{100, 100, 167}, 2, []int{0, 255, 255}},
		{2, []int{100, 0, 0, 89}, 2, []int{0, 0, 0, 0}}, // 43, 31 and 8; 8 and 13; 17
		{2, []int{100, 0, 0, 90}, 2, []int{0, 0, 0, 255}},
		{2, []int{255, 200, 137, 0}, 2, []int{255, 255, 0, 0}}, // -55 to the lower left: -11
		{2, []int{255, 200, 138, 0}, 2, []int{255, 255, 0, 0}},
		{2, []int{255, 200, 139, 0}, 2, []int{255, 255, 255, 0}},
		{2, []int{127, 0, 0, 0}, 2, []int{0, 0, 0, 0}},
	} {
		out, ok := impl.DiffuseImage(onePlane(c.width, c.data...), c.levels)
		if !ok || !equal(out, onePlane(c.width, c.want...)) {
			t.Errorf("DiffuseImage of %v with %d levels = %v, not %v", c.data, c.levels, out.Data, c.want)
		}
	}
}

// notDithered checks that DiffuseImage and OrderImage fail.
func notDithered(t *testing.T, m impl.Image, levels int) {
	t.Helper()
	if out, ok := impl.DiffuseImage(m, levels); ok || !isZero(out) {
		t.Errorf("DiffuseImage of %d by %d by %d with %d levels", m.Width, m.Height, m.Planes, levels)
	}
	if out, ok := impl.OrderImage(m, levels); ok || !isZero(out) {
		t.Errorf("OrderImage of %d by %d by %d with %d levels", m.Width, m.Height, m.Planes, levels)
	}
}

func TestDitheringFails(t *testing.T) {
	for _, levels := range badLevels() {
		notDithered(t, picture(1, 1, 1), levels)
		notDithered(t, picture(5, 3, 1), levels)
	}
	for levels := 2; levels <= 16; levels++ {
		for _, m := range badPictures() {
			notDithered(t, m, levels)
		}
		for planes := 2; planes <= 4; planes++ {
			notDithered(t, picture(3, 2, planes), levels)
			notDithered(t, picture(1, 1, planes), levels)
		}
	}
}

// thresholdAt returns the number of the ordered matrix for a place: each quarter of it, in the order 0 2 3 1, is the matrix of half the size.
func thresholdAt(x int, y int) int {
	small := [2][2]int{{0, 2}, {3, 1}}
	return 4*small[y%2][x%2] + small[y/2%2][x/2%2]
}

// orderedLevel returns the greatest level that is not greater than the quotient.
func orderedLevel(n int, x int, y int, levels int) int {
	level := 0
	for (level+1)*255*16 <= n*(levels-1)*16+255*thresholdAt(x, y) {
		level++
	}
	return level
}

// Promise 50: all numbers of OrderImage are values of levels, black and white are unchanged, and brighter numbers do not become darker.
func TestP50OrderedImagesHaveLevels(t *testing.T) {
	for _, m := range grayPictures() {
		for levels := 2; levels <= 16; levels++ {
			out, ok := impl.OrderImage(m, levels)
			checkLevels(t, "OrderImage", out, ok, m, levels)
			values := levelValues(levels)
			eachPlace(m, func(x int, y int) {
				n, got := rawPixel(m, x, y)[0], rawPixel(out, x, y)[0]
				if want := values[orderedLevel(n, x, y, levels)]; got != want || n == 0 && got != 0 || n == 255 && got != 255 {
					t.Fatalf("OrderImage with %d levels: %d at %d %d becomes %d, not %d", levels, n, x, y, got, want)
				}
			})
		}
	}
}

func TestP50BrighterNumbersDoNotBecomeDarker(t *testing.T) {
	for levels := 2; levels <= 16; levels++ {
		values := levelValues(levels)
		darker := make([]int, 256)
		for n := range 256 {
			out, ok := impl.OrderImage(impl.FillImage(16, 16, []int{n}), levels)
			if !ok || len(out.Data) != 256 {
				t.Fatalf("OrderImage of %d with %d levels", n, levels)
			}
			for i, got := range out.Data {
				if got < darker[i] || got != values[orderedLevel(n, i%16, i/16, levels)] {
					t.Fatalf("OrderImage with %d levels: %d at %d becomes %d, behind %d", levels, n, i, got, darker[i])
				}
			}
			darker = out.Data
		}
	}
}

func TestP50OrderedImagesOfKnownNumbers(t *testing.T) {
	matrix := []int{0, 8, 2, 10, 12, 4, 14, 6, 3, 11, 1, 9, 15, 7, 13, 5}
	for i, k := range matrix {
		// With 2 levels, a number is white from (16 - k) sixteenths of 255 on, rounded up.
		first := (255*(16-k) + 15) / 16
		for _, c := range [][2]int{{first - 1, 0}, {first, 255}} {
			m := with(flat(4, 4, 1, 16), i, c[0])
			if out, ok := impl.OrderImage(m, 2); !ok || !equal(out, with(flat(4, 4, 1, 16), i, c[1])) {
				t.Errorf("OrderImage of %d at number %d = %v", c[0], i, out.Data)
			}
		}
	}
	if out, ok := impl.OrderImage(onePlane(5, 128, 128, 128, 128, 128), 3); !ok || !slices.Equal(out.Data, []int{127, 127, 127, 127, 127}) {
		t.Errorf("OrderImage with 3 levels = %v", out.Data)
	}
	if out, ok := impl.OrderImage(onePlane(5, 200, 200, 200, 200, 200), 3); !ok || !slices.Equal(out.Data, []int{127, 255, 127, 255, 127}) {
		t.Errorf("OrderImage with 3 levels = %v", out.Data)
	}
}

// Promise 145: DiffuseImage and OrderImage of a black or white image are the image.
func TestP145BlackAndWhiteStay(t *testing.T) {
	for _, shape := range [][2]int{{1, 1}, {1, 16}, {16, 1}, {3, 2}, {16, 16}} {
		for levels := 2; levels <= 16; levels++ {
			for _, n := range []int{0, 255} {
				m := impl.FillImage(shape[0], shape[1], []int{n})
				if out, ok := impl.DiffuseImage(m, levels); !ok || !equal(out, m) {
					t.Errorf("DiffuseImage of %d with %d levels = %v", n, levels, out)
				}
				if out, ok := impl.OrderImage(m, levels); !ok || !equal(out, m) {
					t.Errorf("OrderImage of %d with %d levels = %v", n, levels, out)
				}
			}
		}
	}
}

func TestDitheringKeepsItsArguments(t *testing.T) {
	m := picture(5, 3, 1)
	m.Data = roomy(m.Data)
	keeps(t, "DiffuseImage", func() [][]int {
		out, _ := impl.DiffuseImage(m, 3)
		return [][]int{out.Data}
	}, m.Data)
	keeps(t, "OrderImage", func() [][]int {
		out, _ := impl.OrderImage(m, 3)
		return [][]int{out.Data}
	}, m.Data)
}
