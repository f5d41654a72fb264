package tests

import (
	"math"
	"slices"
	"testing"

	"loop.example/pixelworks/impl"
)

// colorList returns fixed colors with numbers in 0..top.
func colorList(seed int, count int, planes int, top int) [][]int {
	return clones(slices.Collect(slices.Chunk(numbers(seed, count*planes, top), planes)))
}

// differentColors returns colors of which no two are equal.
func differentColors(seed int, count int, planes int) [][]int {
	list := colorList(seed, count, planes, 255)
	for i := range list {
		list[i][0] = (i*11 + seed) % 256
	}
	return list
}

// equalLists reports whether two lists of lists are the same.
func equalLists(a [][]int, b [][]int) bool {
	return slices.EqualFunc(a, b, slices.Equal[[]int])
}

// hasColor reports whether a palette has a color.
func hasColor(list [][]int, pixel []int) bool {
	return slices.ContainsFunc(list, func(c []int) bool { return slices.Equal(c, pixel) })
}

// squares returns the sum of the squares of the differences of two colors.
func squares(a []int, b []int) int {
	sum := 0
	for i := range a {
		sum += (a[i] - b[i]) * (a[i] - b[i])
	}
	return sum
}

// firstNearest returns the index of the nearest color.
func firstNearest(list [][]int, pixel []int) int {
	var gaps []int
	for _, c := range list {
		gaps = append(gaps, squares(c, pixel))
	}
	return slices.Index(gaps, slices.Min(gaps))
}

// replaced returns a palette with one color replaced.
func replaced(list [][]int, i int, pixel []int) [][]int {
	out := clones(list)
	out[i] = pixel
	return out
}

// badPalettes returns palettes that are not empty and not valid for a number of planes.
func badPalettes(planes int) [][][]int {
	good := colorList(3, 3, planes, 255)
	out := [][][]int{colorList(4, 17, planes, 255), colorList(4, 100, planes, 255)}
	for i := range good {
		for _, pixel := range badPixels(planes) {
			out = append(out, replaced(good, i, pixel))
		}
	}
	for other := 1; other <= 5; other++ {
		if other != planes {
			out = append(out, colorList(5, 1, other, 255), colorList(5, 16, other, 255))
		}
	}
	return out
}

// colorful returns an image with so many different colors, each of them at least once.
func colorful(width int, height int, list [][]int) impl.Image {
	m := impl.Image{Width: width, Height: height, Planes: len(list[0])}
	for i := range width * height {
		at := i
		if i >= len(list) {
			at = (i * i) % len(list)
		}
		m.Data = append(m.Data, list[at]...)
	}
	return m
}

// paletteImages returns images with at most MaxColors colors.
func paletteImages() []impl.Image {
	var out []impl.Image
	for _, m := range pictures() {
		if m.Width*m.Height <= 16 {
			out = append(out, m)
		}
	}
	for planes := 1; planes <= 4; planes++ {
		out = append(out, colorful(16, 16, differentColors(planes, 16, planes)), colorful(5, 3, differentColors(planes, 2, planes)),
			colorful(16, 1, differentColors(planes, 16, planes)), colorful(3, 7, differentColors(planes, 15, planes)))
	}
	return out
}

// Promise 2: all pixels of FillImage are the given one, and its palette has one color.
func TestP2FilledImagesHaveOneColor(t *testing.T) {
	for _, shape := range [][2]int{{1, 1}, {3, 2}, {1, 16}, {16, 1}, {16, 16}} {
		for planes := 1; planes <= 4; planes++ {
			for _, pixel := range [][]int{make([]int, planes), numbers(planes, planes, 255), slices.Repeat([]int{255}, planes)} {
				m := impl.FillImage(shape[0], shape[1], pixel)
				eachPlace(m, func(x int, y int) {
					if !slices.Equal(impl.PixelAt(m, x, y), pixel) {
						t.Fatalf("FillImage with %v has another pixel at %d %d", pixel, x, y)
					}
				})
				if list, ok := impl.PaletteOf(m); !ok || !equalLists(list, [][]int{pixel}) {
					t.Errorf("PaletteOf FillImage with %v = %v", pixel, list)
				}
			}
		}
	}
}

// Promise 42: PaletteOf has the color of every pixel, and no color twice.
func TestP42PalettesHaveAllColorsOnce(t *testing.T) {
	for _, m := range paletteImages() {
		list, ok := impl.PaletteOf(m)
		var want [][]int
		eachPlace(m, func(x int, y int) {
			if !hasColor(want, rawPixel(m, x, y)) {
				want = append(want, rawPixel(m, x, y))
			}
		})
		if !ok || !equalLists(list, want) {
			t.Errorf("PaletteOf %d by %d by %d = %v, not %v", m.Width, m.Height, m.Planes, list, want)
		}
	}
}

func TestP42PaletteOfKnownImages(t *testing.T) {
	for _, c := range []struct {
		m    impl.Image
		want [][]int
	}{
		{onePlane(1, 9), [][]int{{9}}},
		{onePlane(3, 5, 0, 5, 0, 255, 5), [][]int{{5}, {0}, {255}}},
		{onePlane(2, 3, 2, 1, 0), [][]int{{3}, {2}, {1}, {0}}},
		{impl.Image{Width: 2, Height: 2, Planes: 2, Data: []int{1, 2, 2, 1, 1, 2, 1, 1}}, [][]int{{1, 2}, {2, 1}, {1, 1}}},
		{impl.Image{Width: 3, Height: 1, Planes: 4, Data: []int{1, 2, 3, 4, 1, 2, 3, 5, 1, 2, 3, 4}}, [][]int{{1, 2, 3, 4}, {1, 2, 3, 5}}},
	} {
		if list, ok := impl.PaletteOf(c.m); !ok || !equalLists(list, c.want) {
			t.Errorf("PaletteOf %v = %v, not %v", c.m, list, c.want)
		}
	}
}

func TestP42TooManyColors(t *testing.T) {
	for planes := 1; planes <= 4; planes++ {
		for _, count := range []int{17, 18, 20} {
			m := colorful(16, 2, differentColors(1, count, planes))
			if list, ok := impl.PaletteOf(m); ok || len(list) > 0 {
				t.Errorf("PaletteOf an image with %d colors = %v", count, list)
			}
		}
		last := colorful(16, 16, differentColors(1, 16, planes))
		last = with(last, len(last.Data)-1, 255-last.Data[len(last.Data)-1])
		last = with(last, len(last.Data)-planes, 254)
		if list, ok := impl.PaletteOf(last); ok || len(list) > 0 {
			t.Errorf("PaletteOf an image whose last pixel is color 17 = %v", list)
		}
	}
	for i, m := range badPictures() {
		if list, ok := impl.PaletteOf(m); ok || len(list) > 0 {
			t.Errorf("PaletteOf bad picture %d = %v", i, list)
		}
	}
}

// Promise 43: the sum of the squares of the differences from the pixel is least for NearestColor, and 0 for a color of the palette.
func TestP43NoColorIsNearer(t *testing.T) {
	for planes := 1; planes <= 4; planes++ {
		for _, count := range []int{1, 2, 7, 16} {
			for _, top := range []int{1, 9, 255} {
				list := colorList(count+top, count, planes, top)
				for _, pixel := range append(colorList(planes+7, 200, planes, 255), colorList(planes, 50, planes, top)...) {
					if got, want := impl.NearestColor(list, pixel), firstNearest(list, pixel); got != want {
						t.Fatalf("NearestColor(%v, %v) = %d, not %d", list, pixel, got, want)
					}
				}
				for _, pixel := range list {
					if got := impl.NearestColor(list, pixel); squares(list[got], pixel) != 0 {
						t.Fatalf("NearestColor(%v, %v) = %d", list, pixel, got)
					}
				}
			}
		}
	}
}

func TestP43NearestColorOfKnownPixels(t *testing.T) {
	for _, c := range []struct {
		list  [][]int
		pixel []int
		want  int
	}{
		{[][]int{{0}}, []int{255}, 0},
		{[][]int{{0}, {10}}, []int{5}, 0},
		{[][]int{{10}, {0}}, []int{5}, 0},
		{[][]int{{0}, {10}}, []int{6}, 1},
		{[][]int{{9}, {7}, {7}, {9}}, []int{7}, 1},
		{[][]int{{0, 0}, {3, 3}, {0, 4}}, []int{0, 0}, 0},
		{[][]int{{0, 5}, {4, 4}, {3, 4}, {5, 0}}, []int{0, 0}, 0},
		{[][]int{{4, 4}, {0, 5}, {5, 0}}, []int{0, 0}, 1},
		{[][]int{{0, 6}, {4, 4}}, []int{0, 0}, 1},
		{[][]int{{10, 10, 13}, {8, 8, 8}}, []int{10, 10, 10}, 0},
		{[][]int{{255, 255, 255, 255}, {0, 0, 0, 0}}, []int{0, 0, 255, 255}, 0},
		{[][]int{{255, 255, 255, 255}, {0, 0, 0, 0}}, []int{0, 0, 255, 254}, 1},
	} {
		if got := impl.NearestColor(c.list, c.pixel); got != c.want {
			t.Errorf("NearestColor(%v, %v) = %d, not %d", c.list, c.pixel, got, c.want)
		}
	}
}

func TestP43NearestColorFails(t *testing.T) {
	for planes := 1; planes <= 4; planes++ {
		pixel := numbers(planes, planes, 255)
		for _, list := range badPalettes(planes) {
			if got := impl.NearestColor(list, pixel); got != -1 {
				t.Errorf("NearestColor(%v, %v) = %d", list, pixel, got)
			}
		}
		for _, bad := range badPixels(planes) {
			if got := impl.NearestColor([][]int{pixel}, bad); got != -1 {
				t.Errorf("NearestColor(%v, %v) = %d", pixel, bad, got)
			}
		}
		if impl.NearestColor(nil, pixel) != -1 || impl.NearestColor([][]int{}, pixel) != -1 {
			t.Errorf("NearestColor of an empty palette and %v", pixel)
		}
	}
	five := make([]int, 5)
	if impl.NearestColor([][]int{{}}, nil) != -1 || impl.NearestColor([][]int{five}, five) != -1 || impl.NearestColor(nil, nil) != -1 {
		t.Error("NearestColor with 0 and 5 planes")
	}
}

// Promise 44: every number of IndexImage is NearestColor of its pixel.
func TestP44IndicesAreColors(t *testing.T) {
	for _, m := range pictures() {
		for _, count := range []int{1, 2, 5, 16} {
			for _, top := range []int{3, 255} {
				list := colorList(count, count, m.Planes, top)
				out, ok := impl.IndexImage(m, list)
				if !ok || out.Width != m.Width || out.Height != m.Height || out.Planes != 1 || !impl.ValidImage(out) {
					t.Fatalf("IndexImage of %d by %d by %d has a wrong shape", m.Width, m.Height, m.Planes)
				}
				eachPlace(m, func(x int, y int) {
					want := firstNearest(list, rawPixel(m, x, y))
					if got := rawPixel(out, x, y)[0]; got != want || got != impl.NearestColor(list, rawPixel(m, x, y)) {
						t.Fatalf("IndexImage at %d %d = %d, not %d", x, y, got, want)
					}
				})
			}
		}
	}
	m := impl.Image{Width: 2, Height: 2, Planes: 2, Data: []int{9, 9, 0, 1, 5, 5, 9, 8}}
	if out, ok := impl.IndexImage(m, [][]int{{10, 10}, {0, 0}, {10, 10}}); !ok || !equal(out, onePlane(2, 0, 1, 0, 0)) {
		t.Errorf("IndexImage = %v", out)
	}
}

func TestP44IndexImageFails(t *testing.T) {
	fails := func(m impl.Image, list [][]int) {
		if out, ok := impl.IndexImage(m, list); ok || !isZero(out) {
			t.Errorf("IndexImage of %d by %d by %d with %v = %v", m.Width, m.Height, m.Planes, list, out)
		}
	}
	for _, m := range pictures() {
		fails(m, nil)
		fails(m, [][]int{})
		for _, list := range badPalettes(m.Planes) {
			fails(m, list)
		}
	}
	for _, m := range badPictures() {
		for planes := range 6 {
			fails(m, [][]int{make([]int, planes)})
		}
	}
}

// Promise 45: IndexImage of ColorImage and ColorImage again is the same image.
func TestP45ColoredIndicesCanBeIndexed(t *testing.T) {
	for planes := 1; planes <= 4; planes++ {
		for _, count := range []int{1, 2, 16} {
			for _, top := range []int{1, 255} {
				list := colorList(count+planes, count, planes, top)
				for _, m := range []impl.Image{onePlane(1, count-1), onePlane(16, numbers(3, 256, count-1)...), onePlane(3, numbers(4, 15, count-1)...)} {
					checkColored(t, m, list, planes)
				}
			}
		}
	}
}

// checkColored checks that ColorImage has the colors of the indices, and that they can be indexed.
func checkColored(t *testing.T, m impl.Image, list [][]int, planes int) {
	t.Helper()
	out, ok := impl.ColorImage(m, list, planes)
	if !ok || out.Width != m.Width || out.Height != m.Height || out.Planes != planes || !impl.ValidImage(out) {
		t.Fatalf("ColorImage with %v has a wrong shape", list)
	}
	eachPlace(m, func(x int, y int) {
		if got, want := rawPixel(out, x, y), list[rawPixel(m, x, y)[0]]; !slices.Equal(got, want) {
			t.Fatalf("ColorImage with %v at %d %d = %v, not %v", list, x, y, got, want)
		}
	})
	indices, ok := impl.IndexImage(out, list)
	if !ok {
		t.Fatalf("IndexImage of ColorImage with %v", list)
	}
	if again, ok := impl.ColorImage(indices, list, planes); !ok || !equal(again, out) {
		t.Fatalf("ColorImage of IndexImage of ColorImage with %v", list)
	}
}

func TestP45ColorImageFails(t *testing.T) {
	fails := func(m impl.Image, list [][]int, planes int) {
		if out, ok := impl.ColorImage(m, list, planes); ok || !isZero(out) {
			t.Errorf("ColorImage of %v with %v and %d planes = %v", m, list, planes, out)
		}
	}
	m := onePlane(2, 0, 1, 2, 0)
	for planes := 1; planes <= 4; planes++ {
		list := colorList(8, 3, planes, 255)
		if _, ok := impl.ColorImage(m, list, planes); !ok {
			t.Errorf("ColorImage with %v", list)
		}
		fails(m, list[:2], planes)
		fails(m, nil, planes)
		fails(flat(1, 1, 1, 1), nil, planes)
		fails(with(m, 3, 3), list, planes)
		fails(with(m, 3, 255), colorList(8, 16, planes, 255), planes)
		fails(with(m, 3, 16), colorList(8, 16, planes, 255), planes)
		for _, other := range []int{-1, 0, 5, planes - 1, planes + 1, math.MaxInt, math.MinInt} {
			fails(m, list, other)
		}
		for _, bad := range badPalettes(planes) {
			fails(flat(1, 1, 1, 1), bad, planes)
		}
		for _, bad := range badPictures() {
			fails(bad, list, planes)
		}
	}
	for planes := 2; planes <= 4; planes++ {
		fails(flat(2, 2, planes, 4*planes), colorList(8, 3, planes, 255), planes)
		fails(flat(2, 2, planes, 4*planes), colorList(8, 3, 1, 255), 1)
	}
	fails(m, [][]int{{}, {}, {}}, 0)
	fails(m, colorList(8, 3, 5, 255), 5)
}

// widestOf returns the part and the plane with the greatest range, and the range.
func widestOf(parts [][][]int, planes int) (int, int, int) {
	at, inPlane, widest := 0, 0, 0
	for i, part := range parts {
		for plane := range planes {
			column := columnOf(part, plane)
			if wide := slices.Max(column) - slices.Min(column); wide > widest {
				at, inPlane, widest = i, plane, wide
			}
		}
	}
	return at, inPlane, widest
}

// columnOf returns the numbers of colors in a plane.
func columnOf(list [][]int, plane int) []int {
	var out []int
	for _, c := range list {
		out = append(out, c[plane])
	}
	return out
}

// sortedBy returns colors sorted by a plane: again and again, the first one with the least number is taken.
func sortedBy(list [][]int, plane int) [][]int {
	rest := clones(list)
	var out [][]int
	for len(rest) > 0 {
		column := columnOf(rest, plane)
		i := slices.Index(column, slices.Min(column))
		out = append(out, rest[i])
		rest = slices.Delete(rest, i, i+1)
	}
	return out
}

// reduced returns a palette with fewer colors.
func reduced(list [][]int, n int) [][]int {
	planes := len(list[0])
	parts := [][][]int{list}
	for len(parts) < n {
		at, plane, widest := widestOf(parts, planes)
		if widest == 0 {
			break
		}
		sorted := sortedBy(parts[at], plane)
		parts[at] = sorted[:len(sorted)/2]
		parts = append(parts, sorted[len(sorted)/2:])
	}
	var out [][]int
	for _, part := range parts {
		var mean []int
		for plane := range planes {
			sum := 0
			for _, n := range columnOf(part, plane) {
				sum += n
			}
			mean = append(mean, roundHalfUp(sum, len(part)))
		}
		out = append(out, mean)
	}
	return out
}

// Promise 46: ReducePalette has at most n colors, and each number is between the least and the greatest one of its plane.
func TestP46ReducedPalettesAreBetween(t *testing.T) {
	for planes := 1; planes <= 4; planes++ {
		for count := 1; count <= 16; count++ {
			for _, top := range []int{1, 4, 30, 255} {
				for n := 1; n <= 16; n++ {
					list := colorList(planes+count*7+n, count, planes, top)
					got := impl.ReducePalette(list, n)
					if len(got) == 0 || len(got) > n || !equalLists(got, reduced(list, n)) {
						t.Fatalf("ReducePalette(%v, %d) = %v, not %v", list, n, got, reduced(list, n))
					}
					checkBetween(t, list, got)
				}
			}
		}
	}
}

// checkBetween checks that colors are between others in each plane.
func checkBetween(t *testing.T, list [][]int, got [][]int) {
	t.Helper()
	for plane := range list[0] {
		before, after := columnOf(list, plane), columnOf(got, plane)
		if slices.Min(after) < slices.Min(before) || slices.Max(after) > slices.Max(before) {
			t.Fatalf("ReducePalette(%v) = %v, not between", list, got)
		}
	}
}

func TestP46ReducePaletteOfKnownColors(t *testing.T) {
	for _, c := range []struct {
		what string
		list [][]int
		n    int
		want [][]int
	}{
		{"one color", [][]int{{7, 8}}, 16, [][]int{{7, 8}}},
		{"equal colors", [][]int{{7}, {7}, {7}}, 3, [][]int{{7}}},
		{"a half", [][]int{{0}, {1}}, 1, [][]int{{1}}},
		{"less than a half", [][]int{{0}, {0}, {1}}, 1, [][]int{{0}}},
		{"more than a half", [][]int{{0}, {1}, {1}}, 1, [][]int{{1}}},
		{"the greatest half", [][]int{{254}, {255}}, 1, [][]int{{255}}},
		{"an odd number", [][]int{{0}, {10}, {20}}, 2, [][]int{{0}, {15}}},
		{"an odd number that is not sorted", [][]int{{20}, {0}, {10}, {90}, {30}}, 2, [][]int{{5}, {47}}},
		{"planes with equal ranges", [][]int{{0, 10}, {10, 0}, {5, 5}}, 2, [][]int{{0, 10}, {8, 3}}},
		{"the second plane", [][]int{{0, 11}, {10, 0}, {5, 5}}, 2, [][]int{{10, 0}, {3, 8}}},
		{"the fourth plane", [][]int{{0, 0, 0, 9}, {1, 1, 1, 0}}, 2, [][]int{{1, 1, 1, 0}, {0, 0, 0, 9}}},
		{"parts with equal ranges", [][]int{{0}, {10}, {100}, {110}}, 3, [][]int{{0}, {105}, {10}}},
		{"the second part", [][]int{{0}, {10}, {100}, {111}}, 3, [][]int{{5}, {100}, {111}}},
		{"equal numbers in order", [][]int{{9, 0}, {0, 1}, {9, 2}, {9, 3}}, 2, [][]int{{5, 1}, {9, 3}}},
		{"equal numbers in the order of the part", [][]int{{2, 0}, {1, 0}, {0, 50}, {200, 0}, {200, 0}, {200, 0}}, 3, [][]int{{1, 0}, {200, 0}, {1, 25}}},
		{"equal colors in two parts", [][]int{{5}, {5}, {5}, {6}}, 2, [][]int{{5}, {6}}},
		{"equal means", [][]int{{5}, {5}, {5}, {5}, {5}, {6}}, 2, [][]int{{5}, {5}}},
	} {
		if got := impl.ReducePalette(c.list, c.n); !equalLists(got, c.want) {
			t.Errorf("ReducePalette with %s = %v, not %v", c.what, got, c.want)
		}
	}
}

func TestP46ReducePaletteFails(t *testing.T) {
	for planes := 1; planes <= 4; planes++ {
		list := colorList(8, 3, planes, 255)
		for _, n := range []int{0, -1, 17, math.MaxInt, math.MinInt} {
			if got := impl.ReducePalette(list, n); len(got) > 0 {
				t.Errorf("ReducePalette(%v, %d) = %v", list, n, got)
			}
		}
		for _, i := range []int{0, 1, 2} {
			for _, bad := range badPixels(planes) {
				if got := impl.ReducePalette(replaced(list, i, bad), 2); len(got) > 0 {
					t.Errorf("ReducePalette(%v, 2) = %v", replaced(list, i, bad), got)
				}
			}
		}
		if got := impl.ReducePalette(colorList(8, 17, planes, 255), 16); len(got) > 0 {
			t.Errorf("ReducePalette of 17 colors = %v", got)
		}
		if got := impl.ReducePalette(colorList(8, 16, planes, 255), 16); len(got) != 16 {
			t.Errorf("ReducePalette of 16 colors = %v", got)
		}
	}
	for _, list := range [][][]int{nil, {}, {nil}, {{}, {}}, {make([]int, 5)}, {{1}, {1, 2}}, {{1, 2}, {1}}} {
		if got := impl.ReducePalette(list, 1); len(got) > 0 {
			t.Errorf("ReducePalette(%v, 1) = %v", list, got)
		}
	}
}

// Promise 47: ReducePalette with as many colors as the palette has, all different, has all of them.
func TestP47WithRoomForAllAllColorsStay(t *testing.T) {
	for planes := 1; planes <= 4; planes++ {
		for count := 1; count <= 16; count++ {
			list := differentColors(planes+count, count, planes)
			for n := count; n <= 16; n++ {
				got := impl.ReducePalette(list, n)
				if len(got) != count {
					t.Fatalf("ReducePalette(%v, %d) has %d colors", list, n, len(got))
				}
				for _, pixel := range list {
					if !hasColor(got, pixel) {
						t.Fatalf("ReducePalette(%v, %d) = %v", list, n, got)
					}
				}
			}
		}
	}
}

func TestPalettesKeepTheirArguments(t *testing.T) {
	m := colorful(5, 3, colorList(2, 5, 3, 255))
	m.Data = roomy(m.Data)
	indices := onePlane(2, roomy([]int{2, 0, 1, 2})...)
	list := colorList(6, 4, 3, 255)
	for i := range list {
		list[i] = roomy(list[i])
	}
	pixel := roomy([]int{1, 2, 3})
	all := append(slices.Clone(list), m.Data, indices.Data, pixel)
	paletteOf := func() [][]int {
		out, _ := impl.PaletteOf(m)
		return out
	}
	reduce := func() [][]int { return impl.ReducePalette(list, 3) }
	keeps(t, "PaletteOf", paletteOf, all...)
	keeps(t, "ReducePalette", reduce, all...)
	keeps(t, "ReducePalette to all", func() [][]int { return impl.ReducePalette(list, 16) }, all...)
	keeps(t, "NearestColor", func() [][]int { return [][]int{{impl.NearestColor(list, pixel)}} }, all...)
	keeps(t, "IndexImage", func() [][]int {
		out, _ := impl.IndexImage(m, list)
		return [][]int{out.Data}
	}, all...)
	keeps(t, "ColorImage", func() [][]int {
		out, _ := impl.ColorImage(indices, list, 3)
		return [][]int{out.Data}
	}, all...)
	apart(t, "PaletteOf", paletteOf())
	apart(t, "ReducePalette", reduce())
}

func TestPalettesKeepTheOrderOfColors(t *testing.T) {
	list := [][]int{{9}, {3}, {200}, {100}}
	impl.ReducePalette(list, 4)
	impl.NearestColor(list, []int{4})
	if !equalLists(list, [][]int{{9}, {3}, {200}, {100}}) {
		t.Errorf("the palette has become %v", list)
	}
}
