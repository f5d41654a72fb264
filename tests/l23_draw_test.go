package tests

import (
	"math"
	"slices"
	"testing"

	"loop.example/pixelworks/impl"
)

// between returns how far two numbers are apart.
func between(a int, b int) int {
	return max(a-b, b-a)
}

// linePixels returns the pixels of a line, each place by a division of its own.
func linePixels(x0 int, y0 int, x1 int, y1 int) pixels {
	var p pixels
	p[y0][x0] = true
	n := max(between(x0, x1), between(y0, y1))
	for i := 1; i <= n; i++ {
		p[y0+roundHalfUp(i*(y1-y0), n)][x0+roundHalfUp(i*(x1-x0), n)] = true
	}
	return p
}

// eachLine calls a function for the ends of all lines.
func eachLine(visit func(x0 int, y0 int, x1 int, y1 int)) {
	eachCell(func(x0 int, y0 int) {
		eachCell(func(x1 int, y1 int) { visit(x0, y0, x1, y1) })
	})
}

// Promise 118: LineRegion has both ends, and as many pixels as the greater distance of columns or rows, plus 1.
func TestP118LinesJoinTheirEnds(t *testing.T) {
	eachLine(func(x0 int, y0 int, x1 int, y1 int) {
		got := impl.LineRegion(x0, y0, x1, y1)
		isRegion(t, "LineRegion", got, linePixels(x0, y0, x1, y1))
		if !impl.RegionHas(got, x0, y0) || !impl.RegionHas(got, x1, y1) {
			t.Fatalf("LineRegion(%d, %d, %d, %d) = %v does not have both ends", x0, y0, x1, y1, got)
		}
		if want := max(between(x0, x1), between(y0, y1)) + 1; impl.AreaOf(got) != want {
			t.Fatalf("LineRegion(%d, %d, %d, %d) = %v does not have %d pixels", x0, y0, x1, y1, got, want)
		}
	})
}

func TestP118KnownLines(t *testing.T) {
	for _, c := range []struct {
		what string
		ends [4]int
		want []impl.Run
	}{
		{"of one pixel", [4]int{3, 3, 3, 3}, shape("", "", "", "...#")},
		{"of the first pixel", [4]int{0, 0, 0, 0}, shape("#")},
		{"of the last pixel", [4]int{15, 15, 15, 15}, boxRuns(15, 15, 1, 1)},
		{"to the right", [4]int{1, 2, 4, 2}, shape("", "", ".####")},
		{"to the left", [4]int{4, 2, 1, 2}, shape("", "", ".####")},
		{"down", [4]int{2, 0, 2, 3}, shape("..#", "..#", "..#", "..#")},
		{"up", [4]int{2, 3, 2, 0}, shape("..#", "..#", "..#", "..#")},
		{"of the last row", [4]int{0, 15, 15, 15}, boxRuns(0, 15, 16, 1)},
		{"of the last column", [4]int{15, 15, 15, 0}, boxRuns(15, 0, 1, 16)},
		{"diagonal, to the right and down", [4]int{0, 0, 2, 2}, shape("#", ".#", "..#")},
		{"diagonal, to the right and up", [4]int{0, 2, 2, 0}, shape("..#", ".#", "#")},
		{"diagonal, to the left and down", [4]int{2, 0, 0, 2}, shape("..#", ".#", "#")},
		{"diagonal, to the left and up", [4]int{2, 2, 0, 0}, shape("#", ".#", "..#")},
		{"with halves, to the right and down", [4]int{0, 0, 4, 2}, shape("#", ".##", "...##")},
		{"with halves, to the right and up", [4]int{0, 2, 4, 0}, shape("....#", "..##", "##")},
		{"with halves, to the left and down", [4]int{4, 0, 0, 2}, shape("....#", "..##", "##")},
		{"with halves, to the left and up", [4]int{4, 2, 0, 0}, shape("#", ".##", "...##")},
		{"steep with halves, to the right and down", [4]int{0, 0, 2, 4}, shape("#", ".#", ".#", "..#", "..#")},
		{"steep with halves, to the right and up", [4]int{0, 4, 2, 0}, shape("..#", "..#", ".#", ".#", "#")},
		{"steep with halves, to the left and down", [4]int{2, 0, 0, 4}, shape("..#", "..#", ".#", ".#", "#")},
		{"steep with halves, to the left and up", [4]int{2, 4, 0, 0}, shape("#", ".#", ".#", "..#", "..#")},
		{"with a half below zero", [4]int{2, 1, 0, 0}, shape("#", ".##")},
		{"with a half below zero, at the border", [4]int{0, 1, 2, 0}, shape("..#", "##")},
		{"without halves", [4]int{0, 0, 5, 2}, shape("##", "..##", "....##")},
		{"without halves, backwards", [4]int{5, 2, 0, 0}, shape("##", "..##", "....##")},
		{"steep without halves", [4]int{2, 5, 0, 0}, shape("#", "#", ".#", ".#", "..#", "..#")},
		{"nearly flat", [4]int{0, 0, 7, 1}, shape("####", "....####")},
		{"nearly diagonal", [4]int{0, 0, 4, 3}, shape("#", ".#", "..##", "....#")},
		{"nearly upright", [4]int{14, 15, 15, 12}, combined(t, boxRuns(15, 12, 1, 2), boxRuns(14, 14, 1, 2), impl.RegionUnion)},
	} {
		e := c.ends
		if got := impl.LineRegion(e[0], e[1], e[2], e[3]); !slices.Equal(got, c.want) {
			t.Errorf("LineRegion %s = %v, not %v", c.what, got, c.want)
		}
	}
}

func TestP118LineRegionFails(t *testing.T) {
	for _, n := range []int{-1, 16, 17, -16, 1 << 32, math.MaxInt, math.MinInt} {
		for _, fine := range []int{0, 7, 15} {
			for at := range 4 {
				ends := [4]int{fine, fine, fine, fine}
				ends[at] = n
				noRuns(t, "LineRegion with an end off the grid", impl.LineRegion(ends[0], ends[1], ends[2], ends[3]))
			}
			noRuns(t, "LineRegion with both columns off the grid", impl.LineRegion(n, fine, n, fine))
			noRuns(t, "LineRegion with both rows off the grid", impl.LineRegion(fine, n, fine, n))
			noRuns(t, "LineRegion with the first end off the grid", impl.LineRegion(n, n, fine, fine))
			noRuns(t, "LineRegion with the last end off the grid", impl.LineRegion(fine, fine, n, n))
		}
		noRuns(t, "LineRegion off the grid", impl.LineRegion(n, n, n, n))
		noRuns(t, "LineRegion across the grid", impl.LineRegion(-1, n, 16, n))
	}
}

// Promise 119: LineRegion with columns and rows exchanged has the pixels with columns and rows exchanged.
func TestP119LinesCanBeTransposed(t *testing.T) {
	eachLine(func(x0 int, y0 int, x1 int, y1 int) {
		p := pixelsOf(impl.LineRegion(x0, y0, x1, y1))
		isRegion(t, "LineRegion with columns and rows exchanged", impl.LineRegion(y0, x0, y1, x1), pixelsWhere(func(x int, y int) bool { return p[x][y] }))
	})
}

// Promise 120: BoundsOf LineRegion has the distances of its columns and rows, plus 1, as width and height.
func TestP120LinesStayInTheirBox(t *testing.T) {
	eachLine(func(x0 int, y0 int, x1 int, y1 int) {
		want := impl.Box{X: min(x0, x1), Y: min(y0, y1), Width: between(x0, x1) + 1, Height: between(y0, y1) + 1}
		if got, ok := impl.BoundsOf(impl.LineRegion(x0, y0, x1, y1)); !ok || got != want {
			t.Fatalf("BoundsOf LineRegion(%d, %d, %d, %d) = %v, %v, not %v", x0, y0, x1, y1, got, ok, want)
		}
	})
}

// eachDisc calls a function for all discs.
func eachDisc(visit func(x int, y int, radius int)) {
	for radius := range 17 {
		eachCell(func(x int, y int) { visit(x, y, radius) })
	}
}

// discPixels returns the pixels of a disc.
func discPixels(x int, y int, radius int) pixels {
	return pixelsWhere(func(column int, row int) bool {
		return (column-x)*(column-x)+(row-y)*(row-y) <= radius*radius
	})
}

// Promise 121: DiscRegion has its center, is connected, and is part of the disc with a greater radius.
func TestP121DiscsGrow(t *testing.T) {
	eachDisc(func(x int, y int, radius int) {
		got := impl.DiscRegion(x, y, radius)
		isRegion(t, "DiscRegion", got, discPixels(x, y, radius))
		if !impl.RegionHas(got, x, y) || len(impl.PartsOf(got)) != 1 {
			t.Fatalf("DiscRegion(%d, %d, %d) = %v does not have its center, or is not connected", x, y, radius, got)
		}
		if radius > 0 {
			isPart(t, "DiscRegion", impl.DiscRegion(x, y, radius-1), got)
		}
	})
}

// stairs returns a region at the left border that has so many pixels in each row.
func stairs(widths ...int) []impl.Run {
	var out []impl.Run
	for y, width := range widths {
		out = append(out, impl.Run{Y: y, From: 0, To: width})
	}
	return out
}

func TestP121KnownDiscs(t *testing.T) {
	for _, c := range []struct {
		x      int
		y      int
		radius int
		want   []impl.Run
	}{
		{3, 2, 0, shape("", "", "...#")},
		{0, 0, 0, shape("#")},
		{15, 15, 0, boxRuns(15, 15, 1, 1)},
		{2, 2, 1, shape("", "..#", ".###", "..#")},
		{2, 2, 2, shape("..#", ".###", "#####", ".###", "..#")},
		{3, 3, 3, shape("...#", ".#####", ".#####", "#######", ".#####", ".#####", "...#")},
		{0, 0, 1, shape("##", "#")},
		{0, 0, 2, shape("###", "##", "#")},
		{0, 0, 5, stairs(6, 5, 5, 5, 4, 1)}, // 3 columns and 4 rows are just near enough
		{15, 0, 1, shape("..............##", "...............#")},
		{0, 15, 1, combined(t, boxRuns(0, 14, 1, 1), boxRuns(0, 15, 2, 1), impl.RegionUnion)},
		{15, 15, 1, combined(t, boxRuns(15, 14, 1, 1), boxRuns(14, 15, 2, 1), impl.RegionUnion)},
		{0, 0, 16, stairs(16, 16, 16, 16, 16, 16, 15, 15, 14, 14, 13, 12, 11, 10, 8, 6)},
		{0, 0, 15, stairs(16, 15, 15, 15, 15, 15, 14, 14, 13, 13, 12, 11, 10, 8, 6, 1)},
		{7, 7, 12, boxRuns(0, 0, 16, 16)},
		{8, 8, 16, boxRuns(0, 0, 16, 16)},
	} {
		if got := impl.DiscRegion(c.x, c.y, c.radius); !slices.Equal(got, c.want) {
			t.Errorf("DiscRegion(%d, %d, %d) = %v, not %v", c.x, c.y, c.radius, got, c.want)
		}
	}
}

func TestP121DiscRegionFails(t *testing.T) {
	for _, n := range []int{-1, 16, 17, -16, 1 << 32, math.MaxInt, math.MinInt} {
		for _, radius := range []int{-1, 0, 1, 5, 16, 17, math.MaxInt} {
			for _, fine := range []int{0, 7, 15} {
				noRuns(t, "DiscRegion with a column off the grid", impl.DiscRegion(n, fine, radius))
				noRuns(t, "DiscRegion with a row off the grid", impl.DiscRegion(fine, n, radius))
			}
			noRuns(t, "DiscRegion off the grid", impl.DiscRegion(n, n, radius))
		}
	}
	for _, radius := range []int{-1, -2, -16, 17, 18, 1 << 31, 1 << 32, math.MaxInt, math.MinInt} {
		eachCell(func(x int, y int) {
			noRuns(t, "DiscRegion with a wrong radius", impl.DiscRegion(x, y, radius))
		})
	}
}

// Promise 122: DiscRegion has the pixels of the row and the column of its center up to the radius behind it, and none behind them.
func TestP122DiscsReachTheirRadius(t *testing.T) {
	eachDisc(func(x int, y int, radius int) {
		p := pixelsOf(impl.DiscRegion(x, y, radius))
		for n := range 16 {
			if p[y][n] != (between(n, x) <= radius) || p[n][x] != (between(n, y) <= radius) {
				t.Fatalf("DiscRegion(%d, %d, %d) does not end at its radius", x, y, radius)
			}
		}
	})
}

// drawImages returns images that are less wide and less high than the grid, or as large.
func drawImages() []impl.Image {
	return append(pictures(), picture(15, 15, 2), picture(16, 15, 3), picture(15, 16, 1), smooth(16, 16, 3))
}

// masked returns an image with the pixels of runs, as far as they are on it, that a function tells.
func masked(m impl.Image, list []impl.Run, pixel func(x int, y int) []int) impl.Image {
	p := pixelsOf(list)
	return imageWhere(m.Width, m.Height, m.Planes, func(x int, y int) []int {
		if p[y][x] {
			return pixel(x, y)
		}
		return rawPixel(m, x, y)
	})
}

// fillRegion returns FillRegion, which must not fail, and checks all of its pixels.
func fillRegion(t *testing.T, m impl.Image, list []impl.Run, pixel []int) impl.Image {
	t.Helper()
	out, ok := impl.FillRegion(m, list, pixel)
	if !ok || !equal(out, masked(m, list, func(x int, y int) []int { return pixel })) {
		t.Fatalf("FillRegion of %d by %d by %d with %v in %v = %v, %v", m.Width, m.Height, m.Planes, list, pixel, out, ok)
	}
	return out
}

// offImage returns regions that have no pixel on an image.
func offImage(m impl.Image) [][]impl.Run {
	out := [][]impl.Run{nil, {}}
	for _, list := range regions() {
		p := pixelsOf(list)
		out = append(out, runsOf(pixelsWhere(func(x int, y int) bool { return p[y][x] && !isOn(m, x, y) })))
	}
	return out
}

// Promise 123: after FillRegion the pixels of the region are the given one, and all others are unchanged.
func TestP123FilledRegionsHaveOneColor(t *testing.T) {
	for _, m := range drawImages() {
		for _, pixel := range [][]int{{0, 0, 0, 0}, {255, 255, 255, 255}, {7, 255, 0, 128}} {
			pixel = pixel[:m.Planes]
			for _, list := range regions() {
				out := fillRegion(t, m, list, pixel)
				eachPlace(m, func(x int, y int) {
					want := rawPixel(m, x, y)
					if impl.RegionHas(list, x, y) {
						want = pixel
					}
					if got := rawPixel(out, x, y); !slices.Equal(got, want) {
						t.Fatalf("FillRegion of %d by %d with %v has %v at %d %d, not %v", m.Width, m.Height, list, got, x, y, want)
					}
				})
			}
			for _, list := range offImage(m) {
				if out := fillRegion(t, m, list, pixel); !equal(out, m) {
					t.Fatalf("FillRegion of %d by %d beside the image changes it", m.Width, m.Height)
				}
			}
			if out := fillRegion(t, m, boxRuns(0, 0, 16, 16), pixel); !equal(out, impl.FillImage(m.Width, m.Height, pixel)) {
				t.Fatalf("FillRegion of %d by %d with all pixels is not FillImage", m.Width, m.Height)
			}
		}
	}
}

func TestP123KnownFills(t *testing.T) {
	m := onePlane(3, 1, 2, 3, 4, 5, 6)
	for _, c := range []struct {
		list []impl.Run
		want []int
	}{
		{nil, []int{1, 2, 3, 4, 5, 6}},
		{shape("#"), []int{9, 2, 3, 4, 5, 6}},
		{shape("", "..#"), []int{1, 2, 3, 4, 5, 9}},
		{shape("#.#", ".#"), []int{9, 2, 9, 4, 9, 6}},
		{shape(".####", "##.####"), []int{1, 9, 9, 9, 9, 6}},
		{shape("...#", "...#", "###"), []int{1, 2, 3, 4, 5, 6}},
		{shape("..##.#", "", "###"), []int{1, 2, 9, 4, 5, 6}},
		{impl.LineRegion(0, 0, 2, 1), []int{9, 2, 3, 4, 9, 9}},
		{impl.DiscRegion(3, 0, 1), []int{1, 2, 9, 4, 5, 6}},
	} {
		if got := fillRegion(t, m, c.list, []int{9}); !slices.Equal(got.Data, c.want) {
			t.Errorf("FillRegion with %v = %v, not %v", c.list, got.Data, c.want)
		}
	}
}

// notFilled checks that FillRegion fails.
func notFilled(t *testing.T, what string, m impl.Image, list []impl.Run, pixel []int) {
	t.Helper()
	if out, ok := impl.FillRegion(m, list, pixel); ok || !isZero(out) {
		t.Errorf("FillRegion of %d by %d by %d with %s = %v, %v", m.Width, m.Height, m.Planes, what, out, ok)
	}
}

func TestP123FillRegionFails(t *testing.T) {
	for _, m := range drawImages() {
		for _, pixel := range badPixels(m.Planes) {
			for _, list := range [][]impl.Run{nil, boxRuns(0, 0, 1, 1), boxRuns(0, 0, 16, 16), boxRuns(15, 15, 1, 1)} {
				notFilled(t, "a wrong pixel", m, list, pixel)
			}
		}
		for _, list := range badRegions() {
			notFilled(t, "a wrong region", m, list, make([]int, m.Planes))
			notFilled(t, "a wrong region and a wrong pixel", m, list, nil)
		}
	}
	for _, bad := range badPictures() {
		for _, list := range [][]impl.Run{nil, boxRuns(0, 0, 1, 1), boxRuns(0, 0, 16, 16)} {
			for planes := range 6 {
				notFilled(t, "a bad image", bad, list, make([]int, planes))
			}
		}
	}
}

// maskImage returns MaskImage, which must not fail, and checks all of its pixels.
func maskImage(t *testing.T, a impl.Image, b impl.Image, list []impl.Run) impl.Image {
	t.Helper()
	out, ok := impl.MaskImage(a, b, list)
	if !ok || !equal(out, masked(a, list, func(x int, y int) []int { return rawPixel(b, x, y) })) {
		t.Fatalf("MaskImage of %d by %d by %d with %v = %v, %v", a.Width, a.Height, a.Planes, list, out, ok)
	}
	return out
}

// Promise 124: MaskImage has the pixels of the other image in the region, and is the other image for the region of all pixels.
func TestP124MasksChooseBetweenImages(t *testing.T) {
	for _, m := range drawImages() {
		for _, other := range []impl.Image{impl.InvertImage(m), sheetOf(5, m.Width, m.Height, m.Planes), copied(m)} {
			for _, list := range regions() {
				out := maskImage(t, m, other, list)
				eachPlace(m, func(x int, y int) {
					from := m
					if impl.RegionHas(list, x, y) {
						from = other
					}
					if got := rawPixel(out, x, y); !slices.Equal(got, rawPixel(from, x, y)) {
						t.Fatalf("MaskImage of %d by %d with %v has %v at %d %d", m.Width, m.Height, list, got, x, y)
					}
				})
			}
			for _, list := range offImage(m) {
				if out := maskImage(t, m, other, list); !equal(out, m) {
					t.Fatalf("MaskImage of %d by %d beside the image is not the image", m.Width, m.Height)
				}
			}
			for _, list := range [][]impl.Run{boxRuns(0, 0, 16, 16), boxRuns(0, 0, m.Width, m.Height)} {
				if out := maskImage(t, m, other, list); !equal(out, other) {
					t.Fatalf("MaskImage of %d by %d with all pixels is not the other image", m.Width, m.Height)
				}
			}
		}
	}
}

// notMasked checks that MaskImage fails.
func notMasked(t *testing.T, what string, a impl.Image, b impl.Image, list []impl.Run) {
	t.Helper()
	if out, ok := impl.MaskImage(a, b, list); ok || !isZero(out) {
		t.Errorf("MaskImage of %d by %d by %d with %s = %v, %v", a.Width, a.Height, a.Planes, what, out, ok)
	}
}

func TestP124MaskImageFails(t *testing.T) {
	eachOtherShape(func(what string, a impl.Image, b impl.Image) {
		for _, list := range [][]impl.Run{nil, boxRuns(0, 0, 1, 1), boxRuns(15, 15, 1, 1), boxRuns(0, 0, 16, 16)} {
			notMasked(t, what, a, b, list)
		}
	})
	for _, m := range drawImages() {
		for _, list := range badRegions() {
			notMasked(t, "a wrong region", m, impl.InvertImage(m), list)
			notMasked(t, "a wrong region and equal images", m, m, list)
		}
	}
}

// Promise 125: MaskImage with ChangedRegion is the other image.
func TestP125MasksOfChangesAreEnough(t *testing.T) {
	eachChange(func(a impl.Image, b impl.Image) {
		changed := impl.ChangedRegion(a, b)
		if out := maskImage(t, a, b, changed); !equal(out, b) {
			t.Fatalf("MaskImage of %d by %d with ChangedRegion is not the other image", a.Width, a.Height)
		}
		if out := maskImage(t, b, a, changed); !equal(out, a) {
			t.Fatalf("MaskImage of %d by %d back with ChangedRegion is not the image", a.Width, a.Height)
		}
	})
}

func TestDrawingsKeepTheirArguments(t *testing.T) {
	keepsRuns(t, "LineRegion and DiscRegion", func() [][]impl.Run {
		return [][]impl.Run{impl.LineRegion(1, 2, 9, 7), impl.LineRegion(3, 3, 3, 3), impl.DiscRegion(4, 5, 3), impl.DiscRegion(4, 5, 0)}
	})
	m, other, pixel := picture(5, 3, 2), sheetOf(2, 5, 3, 2), roomy([]int{7, 8})
	m.Data, other.Data = roomy(m.Data), roomy(other.Data)
	for _, list := range [][]impl.Run{nil, {}, shape("#.#", "####"), boxRuns(0, 0, 16, 16)} {
		list = roomyRuns(list)
		old := slices.Clone(list[:cap(list)])
		keeps(t, "FillRegion", func() [][]int {
			out, _ := impl.FillRegion(m, list, pixel)
			return [][]int{out.Data}
		}, m.Data, pixel)
		for _, b := range []impl.Image{other, m} {
			keeps(t, "MaskImage", func() [][]int {
				out, _ := impl.MaskImage(m, b, list)
				return [][]int{out.Data}
			}, m.Data, other.Data)
		}
		if !slices.Equal(list[:cap(list)], old) {
			t.Errorf("FillRegion or MaskImage changed its region: %v", list)
		}
	}
}
