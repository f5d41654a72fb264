package tests

import (
	"math"
	"slices"
	"testing"

	"loop.example/pixelworks/impl"
)

// gapAt returns the sum of the squares of the differences between a part and the pixels of an image from a place on.
func gapAt(m impl.Image, part impl.Image, x int, y int) int {
	sum := 0
	eachPlace(part, func(column int, row int) {
		sum += squares(rawPixel(m, x+column, y+row), rawPixel(part, column, row))
	})
	return sum
}

// eachPartBox calls a function for the boxes of all places at which a part lies wholly on an image, row by row.
func eachPartBox(m impl.Image, part impl.Image, visit func(b impl.Box)) {
	for y := 0; y+part.Height <= m.Height; y++ {
		for x := 0; x+part.Width <= m.Width; x++ {
			visit(impl.Box{X: x, Y: y, Width: part.Width, Height: part.Height})
		}
	}
}

// finds checks FindImage, place by place, and CountImage, and returns both results.
func finds(t *testing.T, m impl.Image, part impl.Image) (impl.Box, int) {
	t.Helper()
	var want impl.Box
	least, count := math.MaxInt, 0
	eachPartBox(m, part, func(b impl.Box) {
		gap := gapAt(m, part, b.X, b.Y)
		if gap < least {
			want, least = b, gap
		}
		if gap == 0 {
			count++
		}
	})
	got, sum := impl.FindImage(m, part)
	if got != want || sum != least {
		t.Fatalf("FindImage of %v in %v = %v, %d, not %v, %d", part, m, got, sum, want, least)
	}
	if got := impl.CountImage(m, part); got != count {
		t.Fatalf("CountImage of %v in %v = %d, not %d", part, m, got, count)
	}
	return got, sum
}

// cropped returns CropImage, which must not fail.
func cropped(t *testing.T, m impl.Image, b impl.Box) impl.Image {
	t.Helper()
	part, ok := impl.CropImage(m, b)
	if !ok {
		t.Fatalf("CropImage of %d by %d with %v fails", m.Width, m.Height, b)
	}
	return part
}

// searchImages returns images with many different pixels, with few of them, and with only one color.
func searchImages() []impl.Image {
	out := pictures()
	for planes := 1; planes <= 4; planes++ {
		out = append(out, coarse(6, 5, planes, 1), coarse(16, 3, planes, 1), coarse(2, 9, planes, 2), coarse(1, 7, planes, 1), impl.FillImage(4, 3, numbers(planes, planes, 255)))
	}
	return append(out, coarse(16, 16, 1, 1), smooth(7, 6, 3), impl.FillImage(16, 16, []int{9}))
}

// partsFor returns images that are not wider and not higher than an image: parts of it, such with a change, and others.
func partsFor(t *testing.T, m impl.Image) []impl.Image {
	var out []impl.Image
	boxes := boxesOf(m)
	for i := 0; i < len(boxes); i += 1 + len(boxes)/40 {
		part := cropped(t, m, boxes[i])
		at := i * 7 % len(part.Data)
		out = append(out, part, with(part, at, (part.Data[at]+1+i%254)%256), impl.InvertImage(part))
	}
	for _, size := range [][2]int{{1, 1}, {2, 1}, {1, 2}, {2, 2}, {3, 2}, {m.Width, 1}, {1, m.Height}, {m.Width - 1, m.Height - 1}, {m.Width, m.Height}} {
		if size[0] < 1 || size[1] < 1 || size[0] > m.Width || size[1] > m.Height {
			continue
		}
		out = append(out, coarse(size[0], size[1], m.Planes, 1), sheetOf(5, size[0], size[1], m.Planes), flat(size[0], size[1], m.Planes, size[0]*size[1]*m.Planes))
	}
	return out
}

// Promise 131: GapOf CropImage of the box of FindImage and the part is the sum, and no other place has a smaller one.
func TestP131NoPartIsNearer(t *testing.T) {
	for _, m := range searchImages() {
		for _, part := range partsFor(t, m) {
			b, sum := finds(t, m, part)
			if got := impl.GapOf(cropped(t, m, b), part); got != sum {
				t.Fatalf("GapOf the part of FindImage of %v in %v is %d, not %d", part, m, got, sum)
			}
			eachPartBox(m, part, func(other impl.Box) {
				if got := impl.GapOf(cropped(t, m, other), part); got < sum {
					t.Fatalf("GapOf the part at %v of %v in %v is %d, less than %d", other, part, m, got, sum)
				}
			})
		}
	}
}

func TestP131KnownParts(t *testing.T) {
	at := func(x int, y int, width int, height int) impl.Box {
		return impl.Box{X: x, Y: y, Width: width, Height: height}
	}
	m := onePlane(4, 1, 2, 1, 2, 3, 4, 3, 9)
	two := impl.Image{Width: 3, Height: 1, Planes: 2, Data: []int{1, 9, 9, 1, 1, 1}}
	for _, c := range []struct {
		what string
		m    impl.Image
		part impl.Image
		want impl.Box
		sum  int
	}{
		{"exactly", m, onePlane(2, 1, 2, 3, 9), at(2, 0, 2, 2), 0},
		{"a near pixel", m, onePlane(1, 5), at(1, 1, 1, 1), 1},
		{"the whole image", m, m, at(0, 0, 4, 2), 0},
		{"one pixel in one", onePlane(1, 255), onePlane(1, 0), at(0, 0, 1, 1), 65025},
		{"black in white", impl.FillImage(16, 16, []int{255, 255, 255, 255}), impl.FillImage(16, 16, []int{0, 0, 0, 0}), at(0, 0, 16, 16), 256 * 4 * 65025},
		{"equally near in one row", onePlane(5, 0, 7, 3, 7, 7), onePlane(1, 7), at(1, 0, 1, 1), 0},
		{"equally near, less and more", onePlane(4, 0, 12, 8, 12), onePlane(1, 10), at(1, 0, 1, 1), 4},
		{"equally near in one column", onePlane(1, 0, 5, 0, 5), onePlane(1, 5), at(0, 1, 1, 1), 0},
		{"equally near, farther up to the right", onePlane(3, 0, 0, 5, 5, 0, 0), onePlane(1, 5), at(2, 0, 1, 1), 0},
		{"equally near in several rows and columns", onePlane(3, 0, 5, 5, 5, 5, 5, 5, 5, 5), onePlane(1, 5), at(1, 0, 1, 1), 0},
		{"nearer farther down", onePlane(2, 4, 6, 5, 5), onePlane(1, 5), at(0, 1, 1, 1), 0},
		{"nearer at the end", onePlane(3, 1, 1, 1, 1, 1, 2), onePlane(1, 3), at(2, 1, 1, 1), 1},
		{"everywhere", impl.FillImage(5, 4, []int{8}), impl.FillImage(2, 3, []int{8}), at(0, 0, 2, 3), 0},
		{"one great difference or several small ones", onePlane(6, 0, 0, 0, 0, 9, 9), onePlane(2, 3, 3), at(0, 0, 2, 1), 18},
		{"squares, not differences", onePlane(4, 0, 4, 2, 2), onePlane(2, 0, 0), at(2, 0, 2, 1), 8},
		{"parts that overlap", onePlane(5, 1, 2, 1, 2, 1), onePlane(3, 1, 2, 1), at(0, 0, 3, 1), 0},
		{"as wide as the image", onePlane(2, 1, 2, 3, 4, 5, 6), onePlane(2, 3, 5), at(0, 1, 2, 1), 1},
		{"as high as the image", onePlane(3, 1, 2, 3, 4, 5, 6), onePlane(1, 3, 7), at(2, 0, 1, 2), 1},
		{"all planes", two, impl.Image{Width: 1, Height: 1, Planes: 2, Data: []int{1, 1}}, at(2, 0, 1, 1), 0},
		{"planes in order", two, impl.Image{Width: 1, Height: 1, Planes: 2, Data: []int{9, 1}}, at(1, 0, 1, 1), 0},
		{"not across the end of a row", onePlane(3, 0, 0, 1, 2, 0, 0), onePlane(2, 1, 2), at(1, 0, 2, 1), 2},
	} {
		if got, sum := impl.FindImage(c.m, c.part); got != c.want || sum != c.sum {
			t.Errorf("FindImage, %s = %v, %d, not %v, %d", c.what, got, sum, c.want, c.sum)
		}
		finds(t, c.m, c.part)
	}
}

// eachBadPart calls a function for pairs of images of which the second one cannot be searched in the first one.
func eachBadPart(visit func(what string, m impl.Image, part impl.Image)) {
	for _, m := range pictures() {
		if m.Width < 16 {
			visit("a wider part", m, picture(m.Width+1, m.Height, m.Planes))
			visit("a wider, lower part", m, picture(m.Width+1, 1, m.Planes))
			visit("a much wider part", m, picture(16, 1, m.Planes))
		}
		if m.Height < 16 {
			visit("a higher part", m, picture(m.Width, m.Height+1, m.Planes))
			visit("a higher, narrower part", m, picture(1, m.Height+1, m.Planes))
			visit("a much higher part", m, picture(1, 16, m.Planes))
		}
		for planes := 1; planes <= 4; planes++ {
			if planes != m.Planes {
				visit("other planes", m, picture(m.Width, m.Height, planes))
				visit("a pixel with other planes", m, picture(1, 1, planes))
			}
		}
		for _, n := range []int{-1, 256, math.MaxInt, math.MinInt} {
			visit("a part with a wrong number", m, with(m, 0, n))
			visit("a wrong number", with(m, len(m.Data)-1, n), picture(1, 1, m.Planes))
			visit("wrong numbers", with(m, 0, n), with(m, 0, n))
		}
		for _, bad := range badPictures() {
			visit("a bad part", m, bad)
			visit("a part of a bad image", bad, m)
		}
	}
	for _, bad := range badPictures() {
		visit("a bad image in itself", bad, bad)
		visit("a pixel in a bad image", bad, picture(1, 1, 1))
		visit("a bad part of the largest image", picture(16, 16, 4), bad)
		visit("a part of a bad image with the same planes", bad, impl.Image{Width: 1, Height: 1, Planes: bad.Planes, Data: make([]int, min(max(bad.Planes, 0), 5))})
	}
}

func TestP131FindImageFails(t *testing.T) {
	eachBadPart(func(what string, m impl.Image, part impl.Image) {
		if got, sum := impl.FindImage(m, part); got != (impl.Box{}) || sum != -1 {
			t.Errorf("FindImage of %s = %v, %d", what, got, sum)
		}
	})
}

// Promise 132: FindImage of CropImage has the sum 0, and is not below or behind its place.
func TestP132PartsAreFound(t *testing.T) {
	for _, m := range searchImages() {
		boxes := boxesOf(m)
		for i := 0; i < len(boxes); i += 1 + len(boxes)/300 {
			b := boxes[i]
			got, sum := impl.FindImage(m, cropped(t, m, b))
			if sum != 0 || got.Width != b.Width || got.Height != b.Height || got.Y > b.Y || got.Y == b.Y && got.X > b.X {
				t.Fatalf("FindImage of the part at %v of %v = %v, %d", b, m, got, sum)
			}
			if !equal(cropped(t, m, got), cropped(t, m, b)) {
				t.Fatalf("FindImage of the part at %v of %v has other pixels", b, m)
			}
		}
	}
}

// Promise 133: CountImage is 0 exactly if FindImage has a sum greater than 0, and an image is once in itself.
func TestP133CopiesAreCounted(t *testing.T) {
	seen := [2]int{}
	for _, m := range searchImages() {
		if got := impl.CountImage(m, copied(m)); got != 1 {
			t.Fatalf("CountImage of %v in itself = %d", m, got)
		}
		for _, part := range partsFor(t, m) {
			count := impl.CountImage(m, part)
			_, sum := impl.FindImage(m, part)
			if count < 0 || (count == 0) != (sum > 0) {
				t.Fatalf("CountImage of %v in %v = %d, but the sum is %d", part, m, count, sum)
			}
			seen[min(count, 1)]++
		}
	}
	if seen[0] < 100 || seen[1] < 100 {
		t.Errorf("%d parts are there, and %d are not", seen[1], seen[0])
	}
}

func TestP133KnownCounts(t *testing.T) {
	m := onePlane(4, 1, 2, 1, 2, 3, 4, 3, 9)
	for _, c := range []struct {
		what string
		m    impl.Image
		part impl.Image
		want int
	}{
		{"a row that is there twice", m, onePlane(2, 1, 2), 2},
		{"a pixel that is not there", m, onePlane(1, 7), 0},
		{"a pixel", m, onePlane(1, 3), 2},
		{"not across the end of a row", m, onePlane(2, 2, 3), 0},
		{"a column", m, onePlane(1, 1, 3), 2},
		{"nearly there", m, onePlane(2, 1, 2, 3, 8), 0},
		{"a difference of 1", onePlane(2, 5, 6), onePlane(1, 4), 0},
		{"parts that overlap in a row", onePlane(5, 1, 2, 1, 2, 1), onePlane(3, 1, 2, 1), 2},
		{"equal pixels in a row", onePlane(5, 4, 4, 4, 4, 4), onePlane(3, 4, 4, 4), 3},
		{"equal pixels in a column", onePlane(1, 4, 4, 4, 4, 4), onePlane(1, 4, 4), 4},
		{"parts that overlap in both directions", impl.FillImage(16, 16, []int{1, 2}), impl.FillImage(2, 3, []int{1, 2}), 15 * 14},
		{"all pixels", impl.FillImage(16, 16, []int{7}), onePlane(1, 7), 256},
		{"checks", onePlane(3, 0, 1, 0, 1, 0, 1, 0, 1, 0), onePlane(2, 0, 1, 1, 0), 2},
		{"other planes of the same numbers", impl.Image{Width: 2, Height: 1, Planes: 2, Data: []int{1, 2, 2, 1}}, impl.Image{Width: 1, Height: 1, Planes: 2, Data: []int{2, 2}}, 0},
		{"one of two pixels", impl.Image{Width: 2, Height: 1, Planes: 2, Data: []int{1, 2, 2, 1}}, impl.Image{Width: 1, Height: 1, Planes: 2, Data: []int{2, 1}}, 1},
	} {
		if got := impl.CountImage(c.m, c.part); got != c.want {
			t.Errorf("CountImage, %s = %d, not %d", c.what, got, c.want)
		}
	}
}

func TestP133CountImageFails(t *testing.T) {
	eachBadPart(func(what string, m impl.Image, part impl.Image) {
		if got := impl.CountImage(m, part); got != -1 {
			t.Errorf("CountImage of %s = %d", what, got)
		}
	})
}

// repeated returns RepeatImage, and checks all of its pixels.
func repeated(t *testing.T, m impl.Image, width int, height int) impl.Image {
	t.Helper()
	got := impl.RepeatImage(m, width, height)
	if !hasShape(got, width, height, m.Planes) {
		t.Fatalf("RepeatImage of %d by %d to %d by %d has a wrong shape", m.Width, m.Height, width, height)
	}
	column := slices.Repeat([]int{0}, width) // of the image, for each column of the result
	for x := 1; x < width; x++ {
		column[x] = column[x-1] + 1
		if column[x] == m.Width {
			column[x] = 0
		}
	}
	row := 0
	for y := range height {
		for x := range width {
			if !slices.Equal(rawPixel(got, x, y), rawPixel(m, column[x], row)) {
				t.Fatalf("RepeatImage of %v to %d by %d = %v", m, width, height, got)
			}
		}
		row++
		if row == m.Height {
			row = 0
		}
	}
	return got
}

// eachSize calls a function for all sizes of images.
func eachSize(visit func(width int, height int)) {
	for width := 1; width <= 16; width++ {
		for height := 1; height <= 16; height++ {
			visit(width, height)
		}
	}
}

// Promise 134: RepeatImage to its own size is the image, and it is found in every repetition that is large enough.
func TestP134RepetitionsRepeat(t *testing.T) {
	for _, m := range searchImages() {
		if got := impl.RepeatImage(m, m.Width, m.Height); !equal(got, m) {
			t.Fatalf("RepeatImage of %v to its own size = %v", m, got)
		}
		eachSize(func(width int, height int) {
			got := repeated(t, m, width, height)
			if width < m.Width || height < m.Height {
				return
			}
			if b, sum := impl.FindImage(got, m); sum != 0 || b != (impl.Box{Width: m.Width, Height: m.Height}) {
				t.Fatalf("FindImage of %v repeated to %d by %d = %v, %d", m, width, height, b, sum)
			}
			if count, least := impl.CountImage(got, m), (width/m.Width)*(height/m.Height); count < least {
				t.Fatalf("CountImage of %v repeated to %d by %d = %d, less than %d", m, width, height, count, least)
			}
		})
	}
}

func TestP134KnownRepetitions(t *testing.T) {
	m := onePlane(3, 1, 2, 3, 4, 5, 6)
	for _, c := range []struct {
		width  int
		height int
		want   []int
	}{
		{1, 1, []int{1}}, {2, 1, []int{1, 2}}, {1, 2, []int{1, 4}}, {3, 2, []int{1, 2, 3, 4, 5, 6}},
		{4, 2, []int{1, 2, 3, 1, 4, 5, 6, 4}}, {3, 3, []int{1, 2, 3, 4, 5, 6, 1, 2, 3}},
		{7, 1, []int{1, 2, 3, 1, 2, 3, 1}}, {1, 5, []int{1, 4, 1, 4, 1}}, {6, 1, []int{1, 2, 3, 1, 2, 3}},
		{5, 4, []int{1, 2, 3, 1, 2, 4, 5, 6, 4, 5, 1, 2, 3, 1, 2, 4, 5, 6, 4, 5}},
	} {
		if got := repeated(t, m, c.width, c.height); !slices.Equal(got.Data, c.want) {
			t.Errorf("RepeatImage to %d by %d = %v, not %v", c.width, c.height, got.Data, c.want)
		}
	}
	colors := impl.Image{Width: 2, Height: 1, Planes: 3, Data: []int{1, 2, 3, 4, 5, 6}}
	if got := impl.RepeatImage(colors, 3, 2); !slices.Equal(got.Data, []int{1, 2, 3, 4, 5, 6, 1, 2, 3, 1, 2, 3, 4, 5, 6, 1, 2, 3}) {
		t.Errorf("RepeatImage of colors = %v", got)
	}
}

func TestP134RepeatImageFails(t *testing.T) {
	fails := func(m impl.Image, width int, height int) {
		t.Helper()
		if got := impl.RepeatImage(m, width, height); !isZero(got) {
			t.Errorf("RepeatImage of %d by %d by %d to %d by %d = %v", m.Width, m.Height, m.Planes, width, height, got)
		}
	}
	for _, m := range pictures() {
		for _, side := range badSides() {
			for _, fine := range []int{1, 5, 16} {
				fails(m, side, fine)
				fails(m, fine, side)
			}
			fails(m, side, side)
			fails(m, side, m.Height)
			fails(m, m.Width, side)
		}
		for _, n := range []int{-1, 256, math.MaxInt, math.MinInt} {
			fails(with(m, len(m.Data)-1, n), 1, 1) // also if the wrong number would not be repeated
			fails(with(m, 0, n), m.Width, m.Height)
		}
	}
	for _, bad := range badPictures() {
		fails(bad, 1, 1)
		fails(bad, 3, 2)
		fails(bad, 16, 16)
		fails(bad, bad.Width, bad.Height)
	}
}

// Promise 135: RepeatImage of a single pixel is FillImage.
func TestP135SinglePixelsFillImages(t *testing.T) {
	for planes := 1; planes <= 4; planes++ {
		for seed := range 5 {
			pixel := numbers(seed, planes, 255)
			m := impl.Image{Width: 1, Height: 1, Planes: planes, Data: pixel}
			eachSize(func(width int, height int) {
				got := impl.RepeatImage(m, width, height)
				if !equal(got, impl.FillImage(width, height, pixel)) || !slices.Equal(got.Data, slices.Repeat(pixel, width*height)) {
					t.Fatalf("RepeatImage of %v to %d by %d = %v", pixel, width, height, got)
				}
			})
		}
	}
}

func TestMatchingKeepsItsArguments(t *testing.T) {
	m, part := picture(5, 3, 2), sheetOf(1, 2, 2, 2)
	m.Data, part.Data = roomy(m.Data), roomy(part.Data)
	for _, size := range [][2]int{{5, 3}, {1, 1}, {4, 2}, {7, 8}, {16, 16}} {
		keeps(t, "RepeatImage", func() [][]int { return [][]int{impl.RepeatImage(m, size[0], size[1]).Data} }, m.Data)
	}
	keeps(t, "FindImage", func() [][]int {
		b, sum := impl.FindImage(m, part)
		return [][]int{{b.X, b.Y, b.Width, b.Height, sum}}
	}, m.Data, part.Data)
	keeps(t, "CountImage", func() [][]int { return [][]int{{impl.CountImage(m, part)}} }, m.Data, part.Data)
}
