package tests

import (
	"math"
	"slices"
	"testing"

	"loop.example/pixelworks/impl"
)

// times returns the numbers of times for which most promises are checked.
func times() []int {
	return []int{0, 1, 2, 3, 7, 15, 16}
}

// isPart checks that a region has no pixel that another one does not have.
func isPart(t *testing.T, what string, part []impl.Run, list []impl.Run) {
	t.Helper()
	if more := combined(t, part, list, impl.RegionWithout); len(more) > 0 {
		t.Fatalf("%s: %v is not part of %v", what, part, list)
	}
}

// Promise 76: GrowRegion has the region, and growing once more is GrowRegion by 1 of it.
func TestP76RegionsGrowStepByStep(t *testing.T) {
	for _, list := range regions() {
		p := pixelsOf(list)
		before := list
		for n := 0; n <= 16; n++ {
			got := impl.GrowRegion(list, n)
			isRegion(t, "GrowRegion", got, near(p, n))
			isPart(t, "GrowRegion", list, got)
			if n == 0 && !slices.Equal(got, list) || n > 0 && !slices.Equal(got, impl.GrowRegion(before, 1)) {
				t.Fatalf("GrowRegion(%v, %d) = %v", list, n, got)
			}
			before = got
		}
	}
}

func TestP76KnownGrownRegions(t *testing.T) {
	corner := impl.GrowRegion(shape("#"), 16)
	for _, c := range []struct {
		what string
		list []impl.Run
		n    int
		want []impl.Run
	}{
		{"no runs", nil, 1, nil},
		{"no runs, often", []impl.Run{}, 16, nil},
		{"one pixel", shape("", ".#"), 1, shape(".#", "###", ".#")},
		{"one pixel, twice", shape("", "", "..#"), 2, shape("..#", ".###", "#####", ".###", "..#")},
		{"the upper left corner", shape("#"), 1, shape("##", "#")},
		{"the upper right corner", boxRuns(15, 0, 1, 1), 1, shape("..............##", "...............#")},
		{"the upper right corner and the left border", boxRuns(15, 1, 1, 1), 2,
			shape("..............##", ".............###", "..............##", "...............#")},
		{"the left border", shape("", "", "#"), 1, shape("", "#", "##", "#")},
		{"the lower left corner", boxRuns(0, 15, 1, 1), 1, combined(t, boxRuns(0, 14, 1, 2), boxRuns(1, 15, 1, 1), impl.RegionUnion)},
		{"the lower right corner", boxRuns(15, 15, 1, 1), 1, combined(t, boxRuns(15, 14, 1, 2), boxRuns(14, 15, 1, 1), impl.RegionUnion)},
		{"a gap", shape("#.#"), 1, shape("####", "#.#")},
		{"all", boxRuns(0, 0, 16, 16), 1, boxRuns(0, 0, 16, 16)},
		{"the corner, once more", corner, 14, boxRuns(0, 0, 16, 16)},
		{"the corner, not far enough", corner, 13, runsOf(pixelsWhere(func(x int, y int) bool { return x+y < 30 }))},
		{"a row", boxRuns(0, 0, 16, 1), 15, boxRuns(0, 0, 16, 16)},
	} {
		if got := impl.GrowRegion(c.list, c.n); !slices.Equal(got, c.want) {
			t.Errorf("GrowRegion of %s = %v, not %v", c.what, got, c.want)
		}
	}
}

// Promise 77: GrowRegion of the union of a region and its shifted image is the union of both grown regions.
func TestP77GrowingKeepsUnions(t *testing.T) {
	for _, list := range regions() {
		for _, by := range [][2]int{{0, 0}, {1, 0}, {0, -1}, {3, 2}, {-5, 4}, {16, 0}, {-15, -15}, {-1, 16}} {
			for _, n := range times() {
				moved := impl.ShiftRegion(list, by[0], by[1])
				got := impl.GrowRegion(combined(t, list, moved, impl.RegionUnion), n)
				want := combined(t, impl.GrowRegion(list, n), impl.GrowRegion(moved, n), impl.RegionUnion)
				if !slices.Equal(got, want) {
					t.Fatalf("GrowRegion by %d of the union of %v and what is moved by %v", n, list, by)
				}
			}
		}
	}
}

// Promise 78: GrowRegion of ShrinkRegion has no new pixels, and ShrinkRegion of GrowRegion has all old ones that do not lie at the edge of the grid. Growing n times meets the edge of the grid from as far as n pixels, and shrinking takes all of these away.
func TestP78ShrinkingAndGrowingGoAgainstEachOther(t *testing.T) {
	for _, list := range regions() {
		for _, n := range times() {
			isPart(t, "GrowRegion of ShrinkRegion", impl.GrowRegion(impl.ShrinkRegion(list, n), n), list)
			p := pixelsOf(list)
			inside := runsOf(pixelsWhere(func(x int, y int) bool { return p[y][x] && min(x, 15-x, y, 15-y) >= n }))
			isPart(t, "ShrinkRegion of GrowRegion", inside, impl.ShrinkRegion(impl.GrowRegion(list, n), n))
		}
	}
	if got := impl.ShrinkRegion(impl.GrowRegion(shape("#", ".#"), 1), 1); !slices.Equal(got, shape("", ".#")) {
		t.Errorf("ShrinkRegion of GrowRegion of the corner = %v", got)
	}
	ring, disc := shape("", ".###", ".#.#", ".###"), shape("", ".###", ".###", ".###")
	if got := impl.ShrinkRegion(impl.GrowRegion(ring, 1), 1); !slices.Equal(got, disc) {
		t.Errorf("ShrinkRegion of GrowRegion of a ring = %v", got)
	}
}

// Promise 79: ShrinkRegion once more is ShrinkRegion by 1, and what is left is part of the region.
func TestP79RegionsShrinkStepByStep(t *testing.T) {
	for _, list := range regions() {
		p := pixelsOf(list)
		before := list
		for n := 0; n <= 16; n++ {
			got := impl.ShrinkRegion(list, n)
			isRegion(t, "ShrinkRegion", got, deep(p, n))
			isPart(t, "ShrinkRegion", got, list)
			if n == 0 && !slices.Equal(got, list) || n > 0 && !slices.Equal(got, impl.ShrinkRegion(before, 1)) {
				t.Fatalf("ShrinkRegion(%v, %d) = %v", list, n, got)
			}
			before = got
		}
	}
}

func TestP79KnownShrunkRegions(t *testing.T) {
	for _, c := range []struct {
		what string
		list []impl.Run
		n    int
		want []impl.Run
	}{
		{"no runs", nil, 1, nil},
		{"one pixel", shape("", ".#"), 1, nil},
		{"one pixel, not at all", shape("", ".#"), 0, shape("", ".#")},
		{"two rows", shape("", ".#####", ".#####"), 1, nil},
		{"three rows", shape("", ".#####", ".#####", ".#####"), 1, shape("", "", "..###")},
		{"a cross", shape("", "..#", ".###", "..#"), 1, shape("", "", "..#")},
		{"a cross, twice", shape("", "..#", ".###", "..#"), 2, nil},
		{"all", boxRuns(0, 0, 16, 16), 1, boxRuns(1, 1, 14, 14)},
		{"all, 7 times", boxRuns(0, 0, 16, 16), 7, boxRuns(7, 7, 2, 2)},
		{"all, 8 times", boxRuns(0, 0, 16, 16), 8, nil},
		{"all, 16 times", boxRuns(0, 0, 16, 16), 16, nil},
		{"the left border", boxRuns(0, 3, 3, 4), 1, boxRuns(1, 4, 1, 2)},
		{"the right border", boxRuns(13, 3, 3, 4), 1, boxRuns(14, 4, 1, 2)},
		{"the upper border", boxRuns(3, 0, 4, 3), 1, boxRuns(4, 1, 2, 1)},
		{"the lower border", boxRuns(3, 13, 4, 3), 1, boxRuns(4, 14, 2, 1)},
	} {
		if got := impl.ShrinkRegion(c.list, c.n); !slices.Equal(got, c.want) {
			t.Errorf("ShrinkRegion of %s = %v, not %v", c.what, got, c.want)
		}
	}
}

// Promise 80: OpenRegion is part of the region, and OpenRegion of it is the same.
func TestP80OpeningTwiceChangesNothing(t *testing.T) {
	for _, list := range regions() {
		p := pixelsOf(list)
		for n := 0; n <= 16; n++ {
			got := impl.OpenRegion(list, n)
			isRegion(t, "OpenRegion", got, near(deep(p, n), n))
			isPart(t, "OpenRegion", got, list)
			if !slices.Equal(got, impl.OpenRegion(got, n)) || !slices.Equal(got, impl.GrowRegion(impl.ShrinkRegion(list, n), n)) {
				t.Fatalf("OpenRegion(%v, %d) = %v", list, n, got)
			}
		}
	}
}

func TestP80KnownOpenedRegions(t *testing.T) {
	for _, c := range []struct {
		what string
		list []impl.Run
		n    int
		want []impl.Run
	}{
		{"no runs", nil, 1, nil},
		{"one row", shape("", ".#####"), 1, nil},
		{"one row, not at all", shape("", ".#####"), 0, shape("", ".#####")},
		{"a box", shape("###", "###", "###"), 1, shape(".#", "###", ".#")},
		{"a cross with a tail", shape(".#", "######", ".#"), 1, shape(".#", "###", ".#")},
		{"all", boxRuns(0, 0, 16, 16), 1, runsOf(pixelsWhere(func(x int, y int) bool { return min(x, 15-x)+min(y, 15-y) > 0 }))},
		{"all, 8 times", boxRuns(0, 0, 16, 16), 8, nil},
	} {
		if got := impl.OpenRegion(c.list, c.n); !slices.Equal(got, c.want) {
			t.Errorf("OpenRegion of %s = %v, not %v", c.what, got, c.want)
		}
	}
}

func TestShapesFail(t *testing.T) {
	check := func(list []impl.Run, n int) {
		t.Helper()
		noRuns(t, "GrowRegion", impl.GrowRegion(list, n))
		noRuns(t, "ShrinkRegion", impl.ShrinkRegion(list, n))
		noRuns(t, "OpenRegion", impl.OpenRegion(list, n))
	}
	for _, list := range regions() {
		for _, n := range []int{-1, 17, -16, 18, math.MaxInt, math.MinInt} {
			check(list, n)
		}
	}
	for _, bad := range badRegions() {
		for n := -1; n <= 17; n++ {
			check(bad, n)
		}
	}
}

// movedPixels returns pixels moved by columns and rows, as far as they are on the grid.
func movedPixels(p pixels, x int, y int) pixels {
	return pixelsWhere(func(column int, row int) bool { return p.has(column-x, row-y) })
}

// Promise 81: ShiftRegion and back has no new pixels, and all of them if none has left the grid.
func TestP81ShiftsCanBeUndoneInside(t *testing.T) {
	for _, list := range regions() {
		p := pixelsOf(list)
		for x := -16; x <= 16; x++ {
			for y := -16; y <= 16; y++ {
				want := movedPixels(p, x, y)
				got := impl.ShiftRegion(list, x, y)
				isRegion(t, "ShiftRegion", got, want)
				back := impl.ShiftRegion(got, -x, -y)
				isPart(t, "ShiftRegion and back", back, list)
				if impl.AreaOf(got) == impl.AreaOf(list) && !slices.Equal(back, list) {
					t.Fatalf("ShiftRegion(%v, %d, %d) and back = %v", list, x, y, back)
				}
			}
		}
	}
}

func TestP81KnownShifts(t *testing.T) {
	list := shape("##.#", "....#")
	for _, c := range []struct {
		x    int
		y    int
		want []impl.Run
	}{
		{0, 0, list},
		{1, 0, shape(".##.#", ".....#")},
		{-1, 0, shape("#.#", "...#")},
		{-2, 1, shape("", ".#", "..#")},
		{0, -1, shape("....#")},
		{0, -2, nil},
		{-4, 0, shape("", "#")},
		{-5, 0, nil},
		{11, 0, shape("...........##.#", "...............#")},
		{12, 0, shape("............##.#")},
		{14, 0, shape("..............##")},
		{15, 0, shape("...............#")},
		{16, 0, nil},
		{-16, 0, nil},
		{0, 16, nil},
		{0, -16, nil},
		{16, -16, nil},
		{0, 15, combined(t, boxRuns(0, 15, 2, 1), boxRuns(3, 15, 1, 1), impl.RegionUnion)},
		{15, 15, boxRuns(15, 15, 1, 1)},
		{-3, -1, shape(".#")},
	} {
		if got := impl.ShiftRegion(list, c.x, c.y); !slices.Equal(got, c.want) {
			t.Errorf("ShiftRegion by %d %d = %v, not %v", c.x, c.y, got, c.want)
		}
	}
}

func TestP81ShiftRegionFails(t *testing.T) {
	for _, list := range regions() {
		for _, n := range []int{-17, 17, -18, 18, 32, -32, 64, math.MaxInt, math.MinInt} {
			for _, other := range []int{0, 1, -16, 16, n} {
				noRuns(t, "ShiftRegion too far", impl.ShiftRegion(list, n, other))
				noRuns(t, "ShiftRegion too far", impl.ShiftRegion(list, other, n))
			}
		}
	}
	for _, bad := range badRegions() {
		for _, n := range []int{-17, -16, -1, 0, 1, 16, 17} {
			noRuns(t, "ShiftRegion of no region", impl.ShiftRegion(bad, n, 0))
			noRuns(t, "ShiftRegion of no region", impl.ShiftRegion(bad, 0, n))
			noRuns(t, "ShiftRegion of no region", impl.ShiftRegion(bad, n, n))
		}
	}
}

// Promise 150: ShiftRegion of a region that stays on the grid has as many parts.
func TestP150ShiftsKeepShapes(t *testing.T) {
	lists := regions()
	for side := 1; side <= 12; side++ {
		lists = append(lists, smallScattered(side, side, 13-side), smallScattered(side+40, side, side))
	}
	for _, list := range lists {
		bounds, _ := impl.BoundsOf(list)
		parts := impl.PartsOf(list)
		for x := -bounds.X; x <= 16-bounds.X-bounds.Width; x++ {
			for y := -bounds.Y; y <= 16-bounds.Y-bounds.Height; y++ {
				checkShiftedParts(t, parts, impl.PartsOf(impl.ShiftRegion(list, x, y)), x, y)
			}
		}
	}
}

// checkShiftedParts checks that parts are others, moved by columns and rows.
func checkShiftedParts(t *testing.T, parts [][]impl.Run, moved [][]impl.Run, x int, y int) {
	t.Helper()
	if len(parts) != len(moved) {
		t.Fatalf("%d parts moved by %d %d are %d", len(parts), x, y, len(moved))
	}
	for i, part := range parts {
		isRegion(t, "a moved part", moved[i], movedPixels(pixelsOf(part), x, y))
	}
}

func TestShapesKeepTheirArguments(t *testing.T) {
	for _, list := range [][]impl.Run{scattered(4, 4), boxRuns(0, 0, 16, 16), boxRuns(2, 2, 9, 9)} {
		list = roomyRuns(list)
		keepsRuns(t, "GrowRegion", func() [][]impl.Run {
			return [][]impl.Run{impl.GrowRegion(list, 0), impl.GrowRegion(list, 1), impl.GrowRegion(list, 16)}
		}, list)
		keepsRuns(t, "ShrinkRegion and OpenRegion without a change", func() [][]impl.Run {
			return [][]impl.Run{impl.ShrinkRegion(list, 0), impl.OpenRegion(list, 0)}
		}, list)
		keepsRuns(t, "ShiftRegion", func() [][]impl.Run {
			return [][]impl.Run{impl.ShiftRegion(list, 0, 0), impl.ShiftRegion(list, 1, -2)}
		}, list)
	}
	box := roomyRuns(boxRuns(2, 2, 9, 9))
	keepsRuns(t, "ShrinkRegion and OpenRegion", func() [][]impl.Run {
		return [][]impl.Run{impl.ShrinkRegion(box, 2), impl.OpenRegion(box, 2)}
	}, box)
}
