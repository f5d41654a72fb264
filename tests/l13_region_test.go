package tests

import (
	"math"
	"slices"
	"testing"

	"loop.example/pixelworks/impl"
)

// kinds returns the rules of CombineRegions.
func kinds() []int {
	return []int{impl.RegionUnion, impl.RegionCommon, impl.RegionWithout, impl.RegionEither}
}

// ruled reports whether a pixel is in a combined region if it is in the first one or not, and in the second one or not.
func ruled(kind int, inA bool, inB bool) bool {
	count := 0
	if inA {
		count++
	}
	if inB {
		count += 2
	}
	return [][]bool{{false, true, true, true}, {false, false, false, true}, {false, true, false, false}, {false, true, true, false}}[kind][count]
}

// combined returns CombineRegions of regions, which must succeed.
func combined(t *testing.T, a []impl.Run, b []impl.Run, kind int) []impl.Run {
	t.Helper()
	list, ok := impl.CombineRegions(a, b, kind)
	if !ok {
		t.Fatalf("CombineRegions(%v, %v, %d) fails", a, b, kind)
	}
	return list
}

func TestRegionConstants(t *testing.T) {
	if !slices.Equal(kinds(), []int{0, 1, 2, 3}) {
		t.Errorf("the rules are %v", kinds())
	}
}

// Promise 63: CombineRegions of a region with itself by RegionUnion is the region, and fails for other runs.
func TestP63RegionsAreTheirOwnUnion(t *testing.T) {
	for _, list := range regions() {
		if !impl.ValidRegion(list) {
			t.Errorf("ValidRegion(%v) is false", list)
		}
		if got := combined(t, list, list, impl.RegionUnion); !slices.Equal(got, list) {
			t.Errorf("the union of %v with itself = %v", list, got)
		}
	}
}

func TestP63OtherRunsAreNoRegions(t *testing.T) {
	for _, bad := range badRegions() {
		if impl.ValidRegion(bad) {
			t.Errorf("ValidRegion(%v) is true", bad)
		}
		for kind := -1; kind <= 4; kind++ {
			notCombined(t, bad, bad, kind)
			for _, list := range [][]impl.Run{nil, boxRuns(0, 0, 16, 16), scattered(3, 8)} {
				notCombined(t, bad, list, kind)
				notCombined(t, list, bad, kind)
			}
		}
	}
}

// notCombined checks that CombineRegions fails.
func notCombined(t *testing.T, a []impl.Run, b []impl.Run, kind int) {
	t.Helper()
	if list, ok := impl.CombineRegions(a, b, kind); ok || len(list) > 0 {
		t.Errorf("CombineRegions(%v, %v, %d) = %v, %v", a, b, kind, list, ok)
	}
}

func TestP63OtherRulesFail(t *testing.T) {
	for _, kind := range []int{-1, 4, -4, 5, math.MaxInt, math.MinInt} {
		for _, list := range fewRegions() {
			notCombined(t, list, list, kind)
			notCombined(t, list, boxRuns(2, 3, 5, 4), kind)
		}
	}
}

func TestP63SingleRuns(t *testing.T) {
	for y := -2; y <= 18; y++ {
		for from := -2; from <= 18; from++ {
			for to := -3; to <= 19; to++ {
				want := y >= 0 && y <= 15 && from >= 0 && to > from && to <= 16
				if got := impl.ValidRegion([]impl.Run{{Y: y, From: from, To: to}}); got != want {
					t.Errorf("ValidRegion of row %d from %d to %d is %v", y, from, to, got)
				}
			}
		}
	}
}

// Two runs that are valid by themselves are a region exactly if they are the runs of their pixels.
func TestP63PairsOfRuns(t *testing.T) {
	var singles []impl.Run
	for _, y := range []int{0, 1, 15} {
		for from := range 16 {
			for to := from + 1; to <= 16; to++ {
				if from < 5 && to < 6 || from > 12 {
					singles = append(singles, impl.Run{Y: y, From: from, To: to})
				}
			}
		}
	}
	for _, a := range singles {
		for _, b := range singles {
			list := []impl.Run{a, b}
			want := slices.Equal(list, runsOf(pixelsOf(list)))
			if got := impl.ValidRegion(list); got != want {
				t.Errorf("ValidRegion(%v) is %v", list, got)
			}
		}
	}
}

// Promise 64: BoundsOf BoxRegion is the box, and AreaOf it the product of its sides.
func TestP64BoxesAreRegions(t *testing.T) {
	for x := -1; x <= 16; x++ {
		for y := -1; y <= 16; y++ {
			for width := -1; width <= 17; width++ {
				for height := -1; height <= 17; height++ {
					checkBox(t, impl.Box{X: x, Y: y, Width: width, Height: height})
				}
			}
		}
	}
}

// checkBox checks BoxRegion of a box that may be valid or not.
func checkBox(t *testing.T, b impl.Box) {
	t.Helper()
	list, ok := impl.BoxRegion(b)
	if b.X < 0 || b.Y < 0 || b.Width < 1 || b.Height < 1 || b.X+b.Width > 16 || b.Y+b.Height > 16 {
		if ok || len(list) > 0 {
			t.Fatalf("BoxRegion(%v) = %v, %v", b, list, ok)
		}
		return
	}
	if !ok || len(list) != b.Height || impl.AreaOf(list) != b.Width*b.Height {
		t.Fatalf("BoxRegion(%v) = %v, %v", b, list, ok)
	}
	for i, r := range list {
		if r != (impl.Run{Y: b.Y + i, From: b.X, To: b.X + b.Width}) {
			t.Fatalf("BoxRegion(%v) = %v", b, list)
		}
	}
	if bounds, ok := impl.BoundsOf(list); !ok || bounds != b {
		t.Fatalf("BoundsOf BoxRegion(%v) = %v, %v", b, bounds, ok)
	}
}

func TestP64BoxesThatOverflow(t *testing.T) {
	for _, n := range []int{math.MaxInt, math.MaxInt - 1, math.MinInt, math.MinInt + 1, math.MaxInt - 15, 1 << 32, 1 << 62} {
		for _, b := range []impl.Box{{X: n, Y: 0, Width: 1, Height: 1}, {X: 0, Y: n, Width: 1, Height: 1}, {X: 0, Y: 0, Width: n, Height: 1},
			{X: 0, Y: 0, Width: 1, Height: n}, {X: 15, Y: 15, Width: n, Height: n}, {X: n, Y: n, Width: n, Height: n},
			{X: n, Y: n, Width: 1, Height: 1}, {X: 1, Y: 1, Width: n, Height: 1}, {X: 1, Y: 1, Width: 1, Height: n}, {X: n, Y: 3, Width: n, Height: 3}} {
			if list, ok := impl.BoxRegion(b); ok || len(list) > 0 {
				t.Errorf("BoxRegion(%v) = %v, %v", b, list, ok)
			}
		}
	}
}

// Promise 65: RegionHas of CombineRegions is what the rule makes of RegionHas of both.
func TestP65RegionsAreSetsOfPixels(t *testing.T) {
	for _, a := range regions() {
		for _, b := range regions() {
			inA, inB := pixelsOf(a), pixelsOf(b)
			for _, kind := range kinds() {
				want := pixelsWhere(func(x int, y int) bool { return ruled(kind, inA[y][x], inB[y][x]) })
				isRegion(t, "CombineRegions", combined(t, a, b, kind), want)
			}
		}
	}
}

func TestP65RegionHasFollowsTheRule(t *testing.T) {
	for _, a := range fewRegions() {
		for _, b := range fewRegions() {
			for _, kind := range kinds() {
				list := combined(t, a, b, kind)
				eachCellAround(func(x int, y int) {
					if impl.RegionHas(list, x, y) != ruled(kind, impl.RegionHas(a, x, y), impl.RegionHas(b, x, y)) {
						t.Fatalf("RegionHas of CombineRegions(%v, %v, %d) at %d %d", a, b, kind, x, y)
					}
				})
			}
		}
	}
}

func TestP65KnownRegions(t *testing.T) {
	for _, c := range []struct {
		what string
		a    []impl.Run
		b    []impl.Run
		want [4][]impl.Run
	}{
		{"no regions", nil, nil, [4][]impl.Run{}},
		{"no first region", nil, shape("##"), [4][]impl.Run{shape("##"), nil, nil, shape("##")}},
		{"no second region", shape("##"), nil, [4][]impl.Run{shape("##"), nil, shape("##"), shape("##")}},
		{"equal regions", shape("##.#"), shape("##.#"), [4][]impl.Run{shape("##.#"), shape("##.#"), nil, nil}},
		{"nothing in common", shape("##", "#"), shape("...##", ".#"), [4][]impl.Run{shape("##.##", "##"), nil, shape("##", "#"), shape("##.##", "##")}},
		{"runs that touch", shape(".##"), shape("...##"), [4][]impl.Run{shape(".####"), nil, shape(".##"), shape(".####")}},
		{"runs that touch, exchanged", shape("...##"), shape(".##"), [4][]impl.Run{shape(".####"), nil, shape("...##"), shape(".####")}},
		{"a run between two", shape("#.#"), shape(".#"), [4][]impl.Run{shape("###"), nil, shape("#.#"), shape("###")}},
		{"one inside the other", shape("#####"), shape("..##"), [4][]impl.Run{shape("#####"), shape("..##"), shape("##..#"), shape("##..#")}},
		{"one inside the other, exchanged", shape("..##"), shape("#####"), [4][]impl.Run{shape("#####"), shape("..##"), nil, shape("##..#")}},
		{"equal beginnings", shape("##"), shape("####"), [4][]impl.Run{shape("####"), shape("##"), nil, shape("..##")}},
		{"equal ends", shape("####"), shape("..##"), [4][]impl.Run{shape("####"), shape("..##"), shape("##"), shape("##")}},
		{"several runs in one", shape("#.#.#"), shape("#####"), [4][]impl.Run{shape("#####"), shape("#.#.#"), nil, shape(".#.#")}},
		{"the end of a row and the beginning of the next one", shape("..............##"), shape("", "##"),
			[4][]impl.Run{shape("..............##", "##"), nil, shape("..............##"), shape("..............##", "##")}},
		{"whole rows", shape("################"), shape("################", "################"),
			[4][]impl.Run{shape("################", "################"), shape("################"), nil, shape("", "################")}},
	} {
		for _, kind := range kinds() {
			if got := combined(t, c.a, c.b, kind); !slices.Equal(got, c.want[kind]) {
				t.Errorf("CombineRegions by %d of %s = %v, not %v", kind, c.what, got, c.want[kind])
			}
		}
	}
}

// Promise 66: AreaOf the union and of the common part of two regions add up to both areas.
func TestP66AreasAddUp(t *testing.T) {
	for _, a := range regions() {
		for _, b := range regions() {
			both := impl.AreaOf(combined(t, a, b, impl.RegionUnion)) + impl.AreaOf(combined(t, a, b, impl.RegionCommon))
			if both != impl.AreaOf(a)+impl.AreaOf(b) {
				t.Errorf("the areas of %v and %v do not add up", a, b)
			}
		}
	}
}

// Promise 67: CombineRegions by RegionUnion, RegionCommon and RegionEither is the same in both orders, and RegionEither is the union without the common part.
func TestP67TheOrderMattersOnlyForDifferences(t *testing.T) {
	for _, a := range regions() {
		for _, b := range regions() {
			for _, kind := range []int{impl.RegionUnion, impl.RegionCommon, impl.RegionEither} {
				if !slices.Equal(combined(t, a, b, kind), combined(t, b, a, kind)) {
					t.Errorf("CombineRegions by %d of %v and %v differs in both orders", kind, a, b)
				}
			}
			union, common := combined(t, a, b, impl.RegionUnion), combined(t, a, b, impl.RegionCommon)
			if !slices.Equal(combined(t, a, b, impl.RegionEither), combined(t, union, common, impl.RegionWithout)) {
				t.Errorf("CombineRegions by RegionEither of %v and %v", a, b)
			}
		}
	}
	row, dot := shape("###"), shape(".#")
	if !slices.Equal(combined(t, row, dot, impl.RegionWithout), shape("#.#")) || len(combined(t, dot, row, impl.RegionWithout)) > 0 {
		t.Error("CombineRegions by RegionWithout in both orders")
	}
}

// Promise 68: AreaOf a region is the number of pixels for which RegionHas is true.
func TestP68AreasCountPixels(t *testing.T) {
	for _, list := range regions() {
		p := pixelsOf(list)
		count := 0
		eachCellAround(func(x int, y int) {
			got := impl.RegionHas(list, x, y)
			if got != p.has(x, y) {
				t.Fatalf("RegionHas(%v, %d, %d) is %v", list, x, y, got)
			}
			if got {
				count++
			}
		})
		if got := impl.AreaOf(list); got != count || got != p.count() {
			t.Errorf("AreaOf(%v) = %d, not %d", list, got, count)
		}
		for _, n := range []int{math.MaxInt, math.MinInt} {
			if impl.RegionHas(list, n, 0) || impl.RegionHas(list, 0, n) || impl.RegionHas(list, n, n) {
				t.Errorf("RegionHas(%v) at %d", list, n)
			}
		}
	}
}

func TestP68OtherRunsHaveNoPixels(t *testing.T) {
	for _, bad := range badRegions() {
		eachCellAround(func(x int, y int) {
			if impl.RegionHas(bad, x, y) {
				t.Fatalf("RegionHas(%v, %d, %d) is true", bad, x, y)
			}
		})
		for _, r := range bad {
			if impl.RegionHas(bad, r.From, r.Y) {
				t.Fatalf("RegionHas(%v, %d, %d) is true", bad, r.From, r.Y)
			}
		}
		if got := impl.AreaOf(bad); got != -1 {
			t.Errorf("AreaOf(%v) = %d", bad, got)
		}
	}
}

// Promise 69: AreaOf a region is 0 exactly if there are no runs, and at most that of its bounds.
func TestP69AreasAreSumsOfRuns(t *testing.T) {
	for _, list := range regions() {
		sum := 0
		for _, r := range list {
			sum += r.To - r.From
		}
		area := impl.AreaOf(list)
		bounds, ok := impl.BoundsOf(list)
		if area != sum || (area == 0) != (len(list) == 0) || ok != (area > 0) || area > bounds.Width*bounds.Height {
			t.Errorf("AreaOf(%v) = %d in %v", list, area, bounds)
		}
	}
	if impl.AreaOf(boxRuns(0, 0, 16, 16)) != 256 || impl.AreaOf(nil) != 0 || impl.AreaOf([]impl.Run{}) != 0 || impl.AreaOf(shape("##.###", "", "#")) != 6 {
		t.Error("AreaOf known regions")
	}
}

// Promise 70: the region of BoundsOf has the region, and each side of the box has one of its pixels.
func TestP70BoundsHaveAllPixelsAndNoMore(t *testing.T) {
	for _, list := range regions() {
		bounds, ok := impl.BoundsOf(list)
		if len(list) == 0 {
			if ok || bounds != (impl.Box{}) {
				t.Errorf("BoundsOf no runs = %v, %v", bounds, ok)
			}
			continue
		}
		box, inGrid := impl.BoxRegion(bounds)
		if !ok || !inGrid || len(combined(t, list, box, impl.RegionWithout)) > 0 {
			t.Fatalf("BoundsOf(%v) = %v, %v", list, bounds, ok)
		}
		p := pixelsOf(list)
		var left, right, top, bottom bool
		eachCell(func(x int, y int) {
			left = left || p[y][x] && x == bounds.X
			right = right || p[y][x] && x == bounds.X+bounds.Width-1
			top = top || p[y][x] && y == bounds.Y
			bottom = bottom || p[y][x] && y == bounds.Y+bounds.Height-1
		})
		if !left || !right || !top || !bottom {
			t.Errorf("BoundsOf(%v) = %v is too large", list, bounds)
		}
	}
}

func TestP70KnownBounds(t *testing.T) {
	for _, c := range []struct {
		list []impl.Run
		want impl.Box
	}{
		{boxRuns(0, 0, 16, 16), impl.Box{X: 0, Y: 0, Width: 16, Height: 16}},
		{boxRuns(15, 15, 1, 1), impl.Box{X: 15, Y: 15, Width: 1, Height: 1}},
		{shape("", "....##", "", "..#"), impl.Box{X: 2, Y: 1, Width: 4, Height: 3}},
		{shape("...#", ".....#", ".#"), impl.Box{X: 1, Y: 0, Width: 5, Height: 3}},
		{shape("#..............#"), impl.Box{X: 0, Y: 0, Width: 16, Height: 1}},
	} {
		if got, ok := impl.BoundsOf(c.list); !ok || got != c.want {
			t.Errorf("BoundsOf(%v) = %v, %v", c.list, got, ok)
		}
	}
	for _, bad := range badRegions() {
		if got, ok := impl.BoundsOf(bad); ok || got != (impl.Box{}) {
			t.Errorf("BoundsOf(%v) = %v, %v", bad, got, ok)
		}
	}
}

// Promise 148: the common part of a region and a union is the union of both common parts.
func TestP148SetsObeyTheirLaws(t *testing.T) {
	for _, a := range fewRegions() {
		for _, b := range fewRegions() {
			for _, c := range fewRegions() {
				left := combined(t, a, combined(t, b, c, impl.RegionUnion), impl.RegionCommon)
				right := combined(t, combined(t, a, b, impl.RegionCommon), combined(t, a, c, impl.RegionCommon), impl.RegionUnion)
				if !slices.Equal(left, right) {
					t.Fatalf("the common part of %v and the union of %v and %v", a, b, c)
				}
			}
		}
	}
}

func TestRegionsKeepTheirArguments(t *testing.T) {
	a, b := roomyRuns(scattered(5, 6)), roomyRuns(scattered(6, 10))
	for _, kind := range kinds() {
		keepsRuns(t, "CombineRegions", func() [][]impl.Run { return [][]impl.Run{combined(t, a, b, kind)} }, a, b)
	}
	keepsRuns(t, "CombineRegions with itself", func() [][]impl.Run { return [][]impl.Run{combined(t, a, a, impl.RegionUnion)} }, a)
	keepsRuns(t, "CombineRegions with no runs", func() [][]impl.Run {
		return [][]impl.Run{combined(t, a, nil, impl.RegionUnion), combined(t, nil, a, impl.RegionUnion), combined(t, a, nil, impl.RegionWithout)}
	}, a)
	keepsRuns(t, "BoxRegion", func() [][]impl.Run {
		list, _ := impl.BoxRegion(impl.Box{X: 2, Y: 3, Width: 5, Height: 7})
		return [][]impl.Run{list}
	})
	keepsRuns(t, "the functions without runs", func() [][]impl.Run {
		impl.ValidRegion(a)
		impl.RegionHas(a, 3, 3)
		impl.AreaOf(a)
		impl.BoundsOf(a)
		return nil
	}, a)
}
