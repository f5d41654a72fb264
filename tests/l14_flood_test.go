package tests

import (
	"math"
	"slices"
	"testing"

	"loop.example/pixelworks/impl"
)

// coarse returns an image with few different numbers, so that there are floods of many sizes.
func coarse(width int, height int, planes int, top int) impl.Image {
	return impl.Image{Width: width, Height: height, Planes: planes, Data: numbers(width*31+height*7+planes+top, width*height*planes, top)}
}

// floodImages returns images with floods of many sizes.
func floodImages() []impl.Image {
	out := []impl.Image{
		flat(16, 16, 1, 256), flat(5, 3, 4, 60), flat(1, 1, 1, 1),
		onePlane(3, 1, 0, 1, 0, 1, 0, 1, 0, 1),                                  // pixels that touch only at a corner
		onePlane(5, 0, 9, 0, 0, 0, 0, 9, 0, 9, 0, 0, 9, 0, 9, 0, 0, 0, 0, 9, 0), // a way around
		onePlane(6, 0, 1, 2, 3, 4, 5),
		onePlane(1, 5, 5, 9, 5),
		onePlane(4, 0, 255, 254, 1),
	}
	for planes := 1; planes <= 4; planes++ {
		out = append(out, picture(16, 16, planes), picture(7, 4, planes))
		for top := 1; top <= 2; top++ {
			out = append(out, coarse(16, 16, planes, top), coarse(16, 5, planes, top), coarse(3, 16, planes, top), coarse(4, 4, planes, top))
		}
	}
	return out
}

// tolerances returns valid tolerances.
func tolerances() []int {
	return []int{0, 1, 2, 60, 128, 254, 255}
}

// similarPixels returns the pixels of an image whose numbers differ by at most a tolerance from those of one of them.
func similarPixels(m impl.Image, x int, y int, tolerance int) pixels {
	first := rawPixel(m, x, y)
	return pixelsWhere(func(column int, row int) bool {
		if column >= m.Width || row >= m.Height {
			return false
		}
		for i, n := range rawPixel(m, column, row) {
			if max(n-first[i], first[i]-n) > tolerance {
				return false
			}
		}
		return true
	})
}

// Promise 71: FloodRegion has its first pixel, is connected, and all of its pixels differ from the first one by at most the tolerance.
func TestP71FloodsReachSimilarPixels(t *testing.T) {
	for _, m := range floodImages() {
		for _, tolerance := range tolerances() {
			eachPlace(m, func(x int, y int) {
				if x%3 > 0 && x < m.Width-1 || y%3 > 0 && y < m.Height-1 {
					return
				}
				got := impl.FloodRegion(m, x, y, tolerance)
				similar := similarPixels(m, x, y, tolerance)
				isRegion(t, "FloodRegion", got, reached(similar, x, y))
				if !impl.RegionHas(got, x, y) || len(impl.PartsOf(got)) != 1 {
					t.Fatalf("FloodRegion at %d %d with %d = %v", x, y, tolerance, got)
				}
			})
		}
	}
}

func TestP71KnownFloods(t *testing.T) {
	corners := onePlane(3, 1, 0, 1, 0, 1, 0, 1, 0, 1)
	steps := onePlane(6, 0, 1, 2, 3, 4, 5)
	planes := impl.Image{Width: 4, Height: 1, Planes: 2, Data: []int{10, 10, 10, 13, 13, 10, 14, 14}}
	around := onePlane(3, 5, 9, 5, 5, 9, 5, 5, 5, 5)
	for _, c := range []struct {
		what      string
		m         impl.Image
		x         int
		y         int
		tolerance int
		want      []impl.Run
	}{
		{"a corner", corners, 0, 0, 0, shape("#")},
		{"the middle", corners, 1, 1, 0, shape("", ".#")},
		{"a side", corners, 2, 1, 0, shape("", "..#")},
		{"all", corners, 2, 2, 1, shape("###", "###", "###")},
		{"the first pixel, not the neighbour", steps, 0, 0, 1, shape("##")},
		{"both sides", steps, 3, 0, 1, shape("..###")},
		{"both sides of more", steps, 3, 0, 2, shape(".#####")},
		{"the last pixel", steps, 5, 0, 2, shape("...###")},
		{"one plane of two", planes, 0, 0, 2, shape("#")},
		{"each plane", planes, 0, 0, 3, shape("###")},
		{"the greatest difference", planes, 0, 0, 4, shape("####")},
		{"a way around", around, 0, 0, 0, shape("#.#", "#.#", "###")},
		{"a way around from its end", around, 2, 0, 3, shape("#.#", "#.#", "###")},
		{"the wall", around, 1, 1, 3, shape(".#", ".#")},
		{"the greatest tolerance but one", onePlane(2, 0, 255), 0, 0, 254, shape("#")},
		{"the greatest tolerance", onePlane(2, 0, 255), 0, 0, 255, shape("##")},
		{"darker pixels", onePlane(3, 255, 0, 255), 2, 0, 254, shape("..#")},
	} {
		if got := impl.FloodRegion(c.m, c.x, c.y, c.tolerance); !slices.Equal(got, c.want) {
			t.Errorf("FloodRegion of %s = %v, not %v", c.what, got, c.want)
		}
	}
}

func TestP71FloodRegionFails(t *testing.T) {
	for _, m := range pictures() {
		for _, at := range [][2]int{{-1, 0}, {0, -1}, {m.Width, 0}, {0, m.Height}, {m.Width, m.Height}, {16, 0}, {0, 16}, {-1, -1},
			{math.MaxInt, 0}, {0, math.MaxInt}, {math.MinInt, 0}, {0, math.MinInt}, {m.Width, -1}} {
			noRuns(t, "FloodRegion outside the image", impl.FloodRegion(m, at[0], at[1], 0))
			noRuns(t, "FloodRegion outside the image", impl.FloodRegion(m, at[0], at[1], 255))
		}
		for _, tolerance := range []int{-1, 256, -255, 257, math.MaxInt, math.MinInt} {
			noRuns(t, "FloodRegion with a wrong tolerance", impl.FloodRegion(m, 0, 0, tolerance))
			noRuns(t, "FloodRegion with a wrong tolerance", impl.FloodRegion(m, m.Width-1, m.Height-1, tolerance))
		}
	}
	for _, m := range badPictures() {
		for _, tolerance := range []int{-1, 0, 255, 256} {
			noRuns(t, "FloodRegion of no image", impl.FloodRegion(m, 0, 0, tolerance))
		}
	}
}

// Promise 72: with the tolerance 0, FloodRegion from every pixel of a flood is the flood, and more tolerance reaches at least as many pixels.
func TestP72FloodsOfOneColorAreMutual(t *testing.T) {
	for _, m := range floodImages() {
		corners := [][2]int{{0, 0}, {m.Width - 1, 0}, {0, m.Height - 1}, {m.Width - 1, m.Height - 1}, {m.Width / 2, m.Height / 2}}
		for _, at := range corners {
			flood := impl.FloodRegion(m, at[0], at[1], 0)
			eachPlace(m, func(x int, y int) {
				if impl.RegionHas(flood, x, y) && !slices.Equal(impl.FloodRegion(m, x, y, 0), flood) {
					t.Fatalf("the flood from %d %d is not that from %v", x, y, at)
				}
			})
			for _, tolerance := range tolerances() {
				more := impl.FloodRegion(m, at[0], at[1], tolerance)
				if len(combined(t, flood, more, impl.RegionWithout)) > 0 {
					t.Fatalf("the flood from %v with the tolerance %d reaches less", at, tolerance)
				}
				flood = more
			}
			if len(flood) != m.Height || impl.AreaOf(flood) != m.Width*m.Height {
				t.Fatalf("the flood with the tolerance 255 = %v", flood)
			}
		}
	}
}

// Promise 73: the areas of PartsOf add up to that of the region, no two have common pixels, and each part is its only part.
func TestP73PartsMakeUpTheRegion(t *testing.T) {
	for _, list := range regions() {
		parts, want := impl.PartsOf(list), partsOf(pixelsOf(list))
		if len(parts) != len(want) {
			t.Fatalf("PartsOf(%v) has %d parts, not %d", list, len(parts), len(want))
		}
		area := 0
		var union []impl.Run
		for i, part := range parts {
			isRegion(t, "a part", part, want[i])
			if len(combined(t, union, part, impl.RegionCommon)) > 0 {
				t.Errorf("parts of %v have common pixels", list)
			}
			if again := impl.PartsOf(part); len(again) != 1 || !slices.Equal(again[0], part) {
				t.Errorf("PartsOf(%v) = %v", part, again)
			}
			area += impl.AreaOf(part)
			union = combined(t, union, part, impl.RegionUnion)
		}
		if area != impl.AreaOf(list) || !slices.Equal(union, list) {
			t.Errorf("PartsOf(%v) = %v", list, parts)
		}
	}
}

func TestP73KnownParts(t *testing.T) {
	for _, c := range []struct {
		what string
		list []impl.Run
		want [][]impl.Run
	}{
		{"no runs", nil, nil},
		{"one pixel", shape("#"), [][]impl.Run{shape("#")}},
		{"pixels that touch only at a corner", shape("#.#", ".#"), [][]impl.Run{shape("#"), shape("..#"), shape("", ".#")}},
		{"the other corner", shape(".#", "#.#"), [][]impl.Run{shape(".#"), shape("", "#"), shape("", "..#")}},
		{"a part in a ring", shape("###", "#.#", "###", "", ".#"), [][]impl.Run{shape("###", "#.#", "###"), shape("", "", "", "", ".#")}},
		{"a dot in a ring", shape("#####", "#...#", "#.#.#", "#...#", "#####"),
			[][]impl.Run{shape("#####", "#...#", "#...#", "#...#", "#####"), shape("", "", "..#")}},
		{"a ring that is closed at the end", shape(".#.#", ".#.#", ".###"), [][]impl.Run{shape(".#.#", ".#.#", ".###")}},
		{"first pixels in one row", shape("#.#.#", "..#", "###"), [][]impl.Run{shape("#"), shape("..#", "..#", "###"), shape("....#")}},
		{"a later run of an earlier part", shape("..#", "#.#.#", "#...#", "#####"), [][]impl.Run{shape("..#", "..#"), shape("", "#...#", "#...#", "#####")}},
		{"joined by a row below", shape("#.#.#.#", "#######"), [][]impl.Run{shape("#.#.#.#", "#######")}},
		{"joined from the right", shape("....#", "..#.#", "#.#.#", "#.###", "###"), [][]impl.Run{shape("....#", "..#.#", "#.#.#", "#.###", "###")}},
		{"rows with a gap", shape("##", "", "##"), [][]impl.Run{shape("##"), shape("", "", "##")}},
		{"the end of a row and the beginning of the next one", shape("..............##", "##"), [][]impl.Run{shape("..............##"), shape("", "##")}},
	} {
		got := impl.PartsOf(c.list)
		if !slices.EqualFunc(got, c.want, slices.Equal) {
			t.Errorf("PartsOf %s = %v, not %v", c.what, got, c.want)
		}
	}
}

func TestP73ManyParts(t *testing.T) {
	board := runsOf(pixelsWhere(func(x int, y int) bool { return (x+y)%2 == 0 }))
	parts := impl.PartsOf(board)
	if len(parts) != 128 {
		t.Fatalf("a chess board has %d parts", len(parts))
	}
	for i, part := range parts {
		if !slices.Equal(part, board[i:i+1]) {
			t.Errorf("part %d of a chess board = %v", i, part)
		}
	}
}

func TestP73OtherRunsHaveNoParts(t *testing.T) {
	for _, bad := range badRegions() {
		if parts := impl.PartsOf(bad); len(parts) > 0 {
			t.Errorf("PartsOf(%v) = %v", bad, parts)
		}
		noRuns(t, "EdgeOf no region", impl.EdgeOf(bad))
	}
}

// Promise 74: the grown region of a part of PartsOf has no pixels of another part.
func TestP74DifferentPartsDoNotTouch(t *testing.T) {
	for _, list := range regions() {
		parts := impl.PartsOf(list)
		for i, part := range parts {
			common := combined(t, impl.GrowRegion(part, 1), list, impl.RegionCommon)
			if !slices.Equal(common, part) {
				t.Errorf("part %d of %v touches another one: %v", i, list, common)
			}
		}
	}
}

// edgePixels returns the pixels with a neighbour that is not there.
func edgePixels(p pixels) pixels {
	return pixelsWhere(func(x int, y int) bool {
		return p[y][x] && !(p.has(x-1, y) && p.has(x+1, y) && p.has(x, y-1) && p.has(x, y+1))
	})
}

// Promise 75: EdgeOf has no pixel that the region does not have, is empty exactly if the region is, and what is left is ShrinkRegion by 1.
func TestP75EdgesBelongToRegions(t *testing.T) {
	for _, list := range regions() {
		edge := impl.EdgeOf(list)
		isRegion(t, "EdgeOf", edge, edgePixels(pixelsOf(list)))
		if len(combined(t, edge, list, impl.RegionWithout)) > 0 || (len(edge) == 0) != (len(list) == 0) {
			t.Errorf("EdgeOf(%v) = %v", list, edge)
		}
		if left := combined(t, list, edge, impl.RegionWithout); !slices.Equal(left, impl.ShrinkRegion(list, 1)) {
			t.Errorf("ShrinkRegion(%v, 1) is not %v", list, left)
		}
	}
}

func TestP75KnownEdges(t *testing.T) {
	for _, c := range []struct {
		what string
		list []impl.Run
		want []impl.Run
	}{
		{"no runs", nil, nil},
		{"one pixel", shape("", ".#"), shape("", ".#")},
		{"one row", shape("", ".#####"), shape("", ".#####")},
		{"one column", shape("#", "#", "#"), shape("#", "#", "#")},
		{"a box", shape("", ".###", ".###", ".###"), shape("", ".###", ".#.#", ".###")},
		{"a box at the border", shape("###", "###", "###"), shape("###", "#.#", "###")},
		{"a cross", shape("", "..#", ".###", "..#"), shape("", "..#", ".#.#", "..#")},
		{"a corner that is missing", shape("####", "####", "####", ".###"), shape("####", "#..#", "#..#", ".###")},
		{"a hole", shape("#####", "#####", "##.##", "#####", "#####"), shape("#####", "#.#.#", "##.##", "#.#.#", "#####")},
		{"all", boxRuns(0, 0, 16, 16), runsOf(pixelsWhere(func(x int, y int) bool { return x == 0 || y == 0 || x == 15 || y == 15 }))},
	} {
		if got := impl.EdgeOf(c.list); !slices.Equal(got, c.want) {
			t.Errorf("EdgeOf %s = %v, not %v", c.what, got, c.want)
		}
	}
}

// Promise 149: AreaOf EdgeOf a BoxRegion is its area less that of the box that is smaller by one pixel at each side.
func TestP149EdgesOfBoxesAreFrames(t *testing.T) {
	for width := 1; width <= 16; width++ {
		for height := 1; height <= 16; height++ {
			for _, x := range []int{0, (16 - width) / 2, 16 - width} {
				for _, y := range []int{0, (16 - height) / 2, 16 - height} {
					list, ok := impl.BoxRegion(impl.Box{X: x, Y: y, Width: width, Height: height})
					inner := max(width-2, 0) * max(height-2, 0)
					if got := impl.AreaOf(impl.EdgeOf(list)); !ok || got != width*height-inner {
						t.Errorf("the edge of the box %d by %d at %d %d has %d pixels", width, height, x, y, got)
					}
				}
			}
		}
	}
}

func TestFloodsKeepTheirArguments(t *testing.T) {
	m := coarse(9, 16, 2, 1)
	m.Data = roomy(m.Data)
	before := slices.Clone(m.Data[:cap(m.Data)])
	keepsRuns(t, "FloodRegion", func() [][]impl.Run { return [][]impl.Run{impl.FloodRegion(m, 4, 4, 0), impl.FloodRegion(m, 4, 4, 255)} })
	if !slices.Equal(m.Data[:cap(m.Data)], before) {
		t.Error("FloodRegion changed the image")
	}
	list := roomyRuns(scattered(9, 8))
	keepsRuns(t, "PartsOf", func() [][]impl.Run { return impl.PartsOf(list) }, list)
	ring := roomyRuns(shape("#####", "#...#", "#.#.#", "#...#", "#####"))
	keepsRuns(t, "PartsOf a ring", func() [][]impl.Run { return impl.PartsOf(ring) }, ring)
	box := roomyRuns(boxRuns(3, 3, 4, 4))
	keepsRuns(t, "PartsOf a single part", func() [][]impl.Run { return impl.PartsOf(box) }, box)
	keepsRuns(t, "EdgeOf", func() [][]impl.Run { return [][]impl.Run{impl.EdgeOf(list), impl.EdgeOf(box)} }, list, box)
}
