package tests

import (
	"math"
	"slices"
	"testing"

	"loop.example/pixelworks/impl"
)

// rowPair is a row and the one before it.
type rowPair struct {
	list   []int
	before []int
}

// rowPairs returns pairs of rows of each length from 0 to 64, random, smooth and extreme ones.
func rowPairs() []rowPair {
	var out []rowPair
	for count := range 65 {
		list, before := numbers(count, count, 255), numbers(count+500, count, 255)
		smooth, slow := make([]int, count), make([]int, count)
		for i := range count {
			smooth[i] = 3 * i
			slow[i] = 2*i + before[i]%7
		}
		white := slices.Repeat([]int{255}, count)
		out = append(out, rowPair{list, before}, rowPair{smooth, slow}, rowPair{slow, smooth}, rowPair{list, list},
			rowPair{white, make([]int, count)}, rowPair{make([]int, count), white}, rowPair{white, white})
	}
	return out
}

// eachFilter calls a function for all pairs of rows, kinds and steps.
func eachFilter(visit func(kind int, p rowPair, step int)) {
	for _, p := range rowPairs() {
		for kind := impl.FilterNone; kind <= impl.FilterPaeth; kind++ {
			for step := 1; step <= 4; step++ {
				visit(kind, p, step)
			}
		}
	}
}

// nearest returns the first one of some numbers that is nearest to an aim.
func nearest(aim int, list ...int) int {
	away := func(n int) int { return max(n-aim, aim-n) }
	best := list[0]
	for _, n := range list[1:] {
		if away(n) < away(best) {
			best = n
		}
	}
	return best
}

// prediction returns what a filter predicts for number i of a row, as the document says it.
func prediction(kind int, list []int, before []int, step int, i int) int {
	left, up, corner := 0, before[i], 0
	if i-step >= 0 {
		left, corner = list[i-step], before[i-step]
	}
	switch kind {
	case 1:
		return left
	case 2:
		return up
	case 3:
		return (left + up) / 2
	case 4:
		return nearest(left+up-corner, left, up, corner)
	}
	return 0
}

// costOf returns the sum over a row, where each number n counts as the smaller one of n and 256 - n.
func costOf(row []int) int {
	sum := 0
	for _, n := range row {
		sum += min(n, 256-n)
	}
	return sum
}

func TestFiltersAreNumbered(t *testing.T) {
	if impl.FilterNone != 0 || impl.FilterLeft != 1 || impl.FilterUp != 2 || impl.FilterMean != 3 || impl.FilterPaeth != 4 {
		t.Error("the kinds of filters have other numbers")
	}
}

func TestFilterRow(t *testing.T) {
	eachFilter(func(kind int, p rowPair, step int) {
		out := impl.FilterRow(kind, p.list, p.before, step)
		if len(out) != len(p.list) {
			t.Fatalf("FilterRow(%d) of %d numbers has %d", kind, len(p.list), len(out))
		}
		for i, n := range p.list {
			if want := (n - prediction(kind, p.list, p.before, step, i) + 512) % 256; out[i] != want {
				t.Fatalf("FilterRow(%d, %v, %v, %d)[%d] = %d", kind, p.list, p.before, step, i, out[i])
			}
		}
	})
	for _, c := range []struct {
		kind   int
		list   []int
		before []int
		step   int
		want   []int
	}{
		{impl.FilterLeft, []int{1, 2, 0, 5, 9}, []int{0, 0, 0, 0, 0}, 2, []int{1, 2, 255, 3, 9}},
		{impl.FilterUp, []int{0, 5, 255}, []int{1, 250, 0}, 4, []int{255, 11, 255}},
		{impl.FilterMean, []int{3, 4, 0}, []int{5, 0, 255}, 1, []int{1, 3, 127}},
		{impl.FilterMean, []int{255, 255}, []int{255, 255}, 1, []int{128, 0}},
		{impl.FilterPaeth, []int{80, 0}, []int{100, 110}, 1, []int{236, 176}}, // the left one and the corner are equally near: left
		{impl.FilterPaeth, []int{110, 0}, []int{100, 80}, 1, []int{10, 176}},  // the upper one and the corner are equally near: up
		{impl.FilterPaeth, []int{10, 0}, []int{15, 20}, 1, []int{251, 241}},   // the corner is the nearest one
		{impl.FilterPaeth, []int{9, 9, 9}, []int{4, 6, 8}, 3, []int{5, 3, 1}}, // no earlier number: up
	} {
		if got := impl.FilterRow(c.kind, c.list, c.before, c.step); !slices.Equal(got, c.want) {
			t.Errorf("FilterRow(%d, %v, %v, %d) = %v", c.kind, c.list, c.before, c.step, got)
		}
	}
}

func TestFiltersFail(t *testing.T) {
	fails := func(what string, kind int, list []int, before []int, step int) {
		t.Helper()
		if len(impl.FilterRow(kind, list, before, step)) > 0 || len(impl.UnfilterRow(kind, list, before, step)) > 0 {
			t.Errorf("FilterRow or UnfilterRow with %s, kind %d, step %d", what, kind, step)
		}
	}
	worst := func(what string, list []int, before []int, step int) {
		t.Helper()
		for kind := impl.FilterNone; kind <= impl.FilterPaeth; kind++ {
			fails(what, kind, list, before, step)
		}
		if got := impl.BestFilter(list, before, step); got != -1 {
			t.Errorf("BestFilter with %s, step %d = %d", what, step, got)
		}
	}
	row := []int{1, 2, 3}
	for _, kind := range []int{-1, 5, math.MaxInt, math.MinInt} {
		fails("another kind", kind, row, row, 1)
		fails("another kind", kind, nil, nil, 1)
	}
	for _, step := range []int{0, -1, 5, math.MaxInt, math.MinInt} {
		worst("another step", row, row, step)
		worst("another step and no numbers", nil, nil, step)
	}
	for step := 1; step <= 4; step++ {
		worst("65 numbers", make([]int, 65), make([]int, 65), step)
		worst("65 numbers before", make([]int, 64), make([]int, 65), step)
		worst("65 numbers behind", make([]int, 65), make([]int, 64), step)
		worst("fewer numbers before", row, row[:2], step)
		worst("more numbers before", row[:2], row, step)
		worst("no numbers before", row, nil, step)
		worst("no numbers", nil, row, step)
		for _, n := range []int{-1, 256, math.MaxInt, math.MinInt} {
			for i := range 3 {
				bad := slices.Clone(row)
				bad[i] = n
				worst("a bad number", bad, row, step)
				worst("a bad number before", row, bad, step)
			}
		}
	}
}

// Promise 17: UnfilterRow of FilterRow is the row.
func TestP17FiltersCanBeUndone(t *testing.T) {
	eachFilter(func(kind int, p rowPair, step int) {
		filtered := impl.FilterRow(kind, p.list, p.before, step)
		if got := impl.UnfilterRow(kind, filtered, p.before, step); !slices.Equal(got, p.list) {
			t.Fatalf("UnfilterRow(%d, %v, %v, %d) = %v", kind, filtered, p.before, step, got)
		}
	})
}

// Promise 18: FilterRow of UnfilterRow is the filtered row.
func TestP18RowsCanBeFilteredAgain(t *testing.T) {
	eachFilter(func(kind int, p rowPair, step int) {
		row := impl.UnfilterRow(kind, p.list, p.before, step)
		if got := impl.FilterRow(kind, row, p.before, step); !slices.Equal(got, p.list) {
			t.Fatalf("FilterRow(%d, %v, %v, %d) = %v", kind, row, p.before, step, got)
		}
	})
}

// Promise 19: FilterRow with FilterUp of a row behind itself has zeros only, and FilterNone changes nothing.
func TestP19EqualRowsCostNothing(t *testing.T) {
	for _, p := range rowPairs() {
		for step := 1; step <= 4; step++ {
			if got := impl.FilterRow(impl.FilterUp, p.list, p.list, step); !slices.Equal(got, make([]int, len(p.list))) {
				t.Fatalf("FilterUp of a row behind itself = %v", got)
			}
			if got := impl.FilterRow(impl.FilterNone, p.list, p.before, step); !slices.Equal(got, p.list) {
				t.Fatalf("FilterNone of %v = %v", p.list, got)
			}
			if got := impl.UnfilterRow(impl.FilterNone, p.list, p.before, step); !slices.Equal(got, p.list) {
				t.Fatalf("FilterNone undone of %v = %v", p.list, got)
			}
		}
	}
}

// Promise 20: the sum over FilterRow with BestFilter, each number or 256 minus it, is least.
func TestP20NoFilterIsBetter(t *testing.T) {
	won := map[int]bool{}
	for _, p := range rowPairs() {
		for step := 1; step <= 4; step++ {
			best := impl.BestFilter(p.list, p.before, step)
			if best < 0 || best > 4 {
				t.Fatalf("BestFilter of %d numbers = %d", len(p.list), best)
			}
			least := costOf(impl.FilterRow(best, p.list, p.before, step))
			for kind := impl.FilterNone; kind <= impl.FilterPaeth; kind++ {
				cost := costOf(impl.FilterRow(kind, p.list, p.before, step))
				if cost < least || cost == least && kind < best {
					t.Fatalf("BestFilter(%v, %v, %d) = %d, but %d is better", p.list, p.before, step, best, kind)
				}
			}
			won[best] = true
		}
	}
	if len(won) != 5 {
		t.Errorf("only the filters %v are ever the best", won)
	}
}

func TestP20BestFilterOfKnownRows(t *testing.T) {
	for _, c := range []struct {
		list   []int
		before []int
		step   int
		want   int
	}{
		{nil, nil, 1, impl.FilterNone},
		{[]int{5}, []int{0}, 1, impl.FilterNone},
		{[]int{0, 0, 0}, []int{0, 0, 0}, 4, impl.FilterNone},
		{[]int{255}, []int{100}, 1, impl.FilterNone}, // 255 counts as 1
		{[]int{50, 50, 50}, []int{0, 200, 0}, 1, impl.FilterLeft},
		{[]int{50, 50, 50, 50}, []int{0, 0, 0, 0}, 2, impl.FilterLeft}, // as good as FilterPaeth
		{[]int{60, 7, 200}, []int{60, 7, 200}, 1, impl.FilterUp},       // as good as FilterPaeth
		{[]int{10, 20, 30}, []int{10, 10, 40}, 1, impl.FilterMean},
		{[]int{100, 110, 121}, []int{90, 100, 111}, 1, impl.FilterUp}, // as good as FilterPaeth
		{[]int{90, 90, 150}, []int{50, 50, 150}, 1, impl.FilterPaeth},
		{slices.Repeat([]int{128}, 64), slices.Repeat([]int{128}, 64), 4, impl.FilterUp},
	} {
		if got := impl.BestFilter(c.list, c.before, c.step); got != c.want {
			t.Errorf("BestFilter(%v, %v, %d) = %d, not %d", c.list, c.before, c.step, got, c.want)
		}
	}
}

func TestFiltersKeepTheirArguments(t *testing.T) {
	list, before := roomy(numbers(1, 9, 255)), roomy(numbers(2, 9, 255))
	for kind := impl.FilterNone; kind <= impl.FilterPaeth; kind++ {
		keeps(t, "FilterRow", func() [][]int { return [][]int{impl.FilterRow(kind, list, before, 2)} }, list, before)
		keeps(t, "UnfilterRow", func() [][]int { return [][]int{impl.UnfilterRow(kind, list, before, 2)} }, list, before)
	}
	keeps(t, "BestFilter", func() [][]int { return [][]int{{impl.BestFilter(list, before, 1)}} }, list, before)
}
