package tests

import (
	"slices"
	"testing"

	"loop.example/pixelworks/impl"
)

// pixels tells for each pixel of the grid, by its row and its column, whether it is in a region.
type pixels [16][16]bool

// has reports whether a pixel is there, also if it is not on the grid.
func (p *pixels) has(x int, y int) bool {
	return x >= 0 && x < 16 && y >= 0 && y < 16 && p[y][x]
}

// count returns the number of pixels.
func (p *pixels) count() int {
	count := 0
	eachCell(func(x int, y int) {
		if p[y][x] {
			count++
		}
	})
	return count
}

// eachCell calls a function for every pixel of the grid, row by row.
func eachCell(visit func(x int, y int)) {
	for y := range 16 {
		for x := range 16 {
			visit(x, y)
		}
	}
}

// eachCellAround calls a function for every pixel of the grid, and for many that are not on it.
func eachCellAround(visit func(x int, y int)) {
	for y := -2; y <= 17; y++ {
		for x := -2; x <= 17; x++ {
			visit(x, y)
		}
	}
}

// pixelsWhere returns the pixels that a function picks.
func pixelsWhere(picks func(x int, y int) bool) pixels {
	var p pixels
	eachCell(func(x int, y int) { p[y][x] = picks(x, y) })
	return p
}

// pixelsOf returns the pixels of runs that are on the grid.
func pixelsOf(list []impl.Run) pixels {
	var p pixels
	for _, r := range list {
		for x := r.From; x < r.To; x++ {
			p[r.Y][x] = true
		}
	}
	return p
}

// runsOf returns the runs of pixels: each one begins behind a pixel that is not there, and ends before one.
func runsOf(p pixels) []impl.Run {
	var list []impl.Run
	eachCell(func(x int, y int) {
		if !p.has(x, y) || p.has(x-1, y) {
			return
		}
		to := x
		for p.has(to, y) {
			to++
		}
		list = append(list, impl.Run{Y: y, From: x, To: to})
	})
	return list
}

// shape returns a region that is told by the rows of a picture, where each # is a pixel.
func shape(rows ...string) []impl.Run {
	var p pixels
	for y, row := range rows {
		for x := range len(row) {
			p[y][x] = row[x] == '#'
		}
	}
	return runsOf(p)
}

// boxRuns returns the runs of a box on the grid.
func boxRuns(x int, y int, width int, height int) []impl.Run {
	return runsOf(pixelsWhere(func(column int, row int) bool {
		return column >= x && column < x+width && row >= y && row < y+height
	}))
}

// scattered returns a region with about so many of 16 pixels.
func scattered(seed int, part int) []impl.Run {
	list := numbers(seed, 256, 15)
	return runsOf(pixelsWhere(func(x int, y int) bool { return list[y*16+x] < part }))
}

// smallScattered returns a region with about half of the pixels of a box.
func smallScattered(seed int, width int, height int) []impl.Run {
	p := pixelsOf(scattered(seed, 8))
	return runsOf(pixelsWhere(func(x int, y int) bool { return x < width && y < height && p[y][x] }))
}

// regions returns regions of many shapes.
func regions() [][]impl.Run {
	out := [][]impl.Run{
		nil, {}, boxRuns(0, 0, 16, 16), boxRuns(1, 1, 14, 14), boxRuns(2, 3, 5, 4), boxRuns(5, 5, 2, 2),
		boxRuns(0, 0, 1, 1), boxRuns(15, 0, 1, 1), boxRuns(0, 15, 1, 1), boxRuns(15, 15, 1, 1), boxRuns(7, 8, 1, 1),
		boxRuns(0, 0, 16, 1), boxRuns(0, 15, 16, 1), boxRuns(0, 0, 1, 16), boxRuns(15, 0, 1, 16), boxRuns(0, 7, 16, 1),
		boxRuns(11, 9, 5, 7), boxRuns(0, 9, 5, 7), boxRuns(0, 0, 16, 15), boxRuns(0, 0, 15, 16),
		runsOf(pixelsWhere(func(x int, y int) bool { return (x+y)%2 == 0 })),
		runsOf(pixelsWhere(func(x int, y int) bool { return x%2 == 1 })),
		runsOf(pixelsWhere(func(x int, y int) bool { return y%2 == 1 })),
		runsOf(pixelsWhere(func(x int, y int) bool { return x == y })),
		runsOf(pixelsWhere(func(x int, y int) bool { return x+y == 15 })),
		runsOf(pixelsWhere(func(x int, y int) bool { return x == 0 || y == 0 || x == 15 || y == 15 })),
		runsOf(pixelsWhere(func(x int, y int) bool { return max(x, 15-x, y, 15-y)%2 == 1 })),
		runsOf(pixelsWhere(func(x int, y int) bool { return x != 7 || y != 7 })),
		runsOf(pixelsWhere(func(x int, y int) bool { return (x-8)*(x-8)+(y-7)*(y-7) <= 30 })),
		shape("##.##.#..#......", ".#.#..#..#.....#", "#######.##......", "..........######"),
		shape("#.#.#", "#.#.#", "#.#.#", "#####"),
		shape("#####", "#...#", "#.#.#", "#...#", "#####"),
		shape("..#", ".#.", "#.."),
		shape("#..", ".#.", "..#"),
		shape("....#", "..#.#", "#.#.#", "#####"),
	}
	for part := 1; part < 16; part++ {
		out = append(out, scattered(part, part))
	}
	return out
}

// fewRegions returns some of the regions, for functions of several of them.
func fewRegions() [][]impl.Run {
	all := regions()
	out := [][]impl.Run{nil, all[2], all[3], all[6], all[9], all[11], all[13], all[20]}
	return append(out, scattered(21, 3), scattered(22, 8), scattered(23, 13), smallScattered(24, 5, 6))
}

// badRegions returns runs that are not those of a region.
func badRegions() [][]impl.Run {
	one := func(y int, from int, to int) []impl.Run { return []impl.Run{{Y: y, From: from, To: to}} }
	out := [][]impl.Run{
		one(-1, 0, 1), one(16, 0, 1), one(3, -1, 1), one(3, 16, 17), one(3, 16, 16), one(3, 15, 17), one(3, 0, 17),
		one(3, 5, 5), one(3, 5, 4), one(3, 0, 0), one(0, 0, -1), one(3, -2, -1), one(3, -1, 16),
		one(bigNumber, 0, 1), one(-bigNumber-1, 0, 1), one(3, bigNumber, bigNumber), one(3, bigNumber, -bigNumber-1),
		one(3, -bigNumber-1, bigNumber), one(3, 0, bigNumber), one(3, 5, -bigNumber-1), one(3, -bigNumber-1, 5),
		{{Y: 1, From: 1, To: 3}, {Y: 1, From: 3, To: 5}}, {{Y: 1, From: 1, To: 3}, {Y: 1, From: 2, To: 5}},
		{{Y: 1, From: 1, To: 3}, {Y: 1, From: 1, To: 3}}, {{Y: 1, From: 4, To: 6}, {Y: 1, From: 1, To: 3}},
		{{Y: 2, From: 1, To: 3}, {Y: 1, From: 1, To: 3}}, {{Y: 2, From: 1, To: 3}, {Y: 1, From: 4, To: 6}},
		{{Y: 1, From: 1, To: 9}, {Y: 1, From: 3, To: 5}}, {{Y: 1, From: 3, To: 5}, {Y: 1, From: 1, To: 9}},
		{{Y: 15, From: 0, To: 1}, {Y: 16, From: 0, To: 1}}, {{Y: -1, From: 0, To: 1}, {Y: 0, From: 0, To: 1}},
		{{Y: 1, From: 1, To: 1}, {Y: 1, From: 3, To: 5}}, {{Y: 1, From: 1, To: 2}, {Y: 1, From: 3, To: 3}},
	}
	for _, list := range [][]impl.Run{boxRuns(0, 0, 16, 16), scattered(31, 8)} {
		broken := slices.Clone(list)
		broken[len(broken)-1].To = 17
		out = append(out, broken, append(slices.Clone(list), list[len(list)-1]), append(slices.Clone(list[:1]), list...))
	}
	return out
}

// bigNumber is the greatest number.
const bigNumber = 1<<63 - 1

// isRegion checks that runs are those of pixels.
func isRegion(t *testing.T, what string, got []impl.Run, want pixels) {
	t.Helper()
	if list := runsOf(want); !slices.Equal(got, list) || !impl.ValidRegion(got) {
		t.Fatalf("%s = %v, not %v", what, got, list)
	}
}

// noRuns checks that there is no region.
func noRuns(t *testing.T, what string, got []impl.Run) {
	t.Helper()
	if len(got) > 0 {
		t.Errorf("%s = %v", what, got)
	}
}

// near returns the pixels at most n rows and columns, taken together, from one of some pixels.
func near(p pixels, n int) pixels {
	var out pixels
	eachCell(func(x int, y int) {
		if p[y][x] {
			eachWithin(x, y, n, func(column int, row int) {
				if column >= 0 && column < 16 && row >= 0 && row < 16 {
					out[row][column] = true
				}
			})
		}
	})
	return out
}

// deep returns the pixels from which no pixel at most n rows and columns, taken together, away is not there.
func deep(p pixels, n int) pixels {
	return pixelsWhere(func(x int, y int) bool {
		all := true
		eachWithin(x, y, n, func(column int, row int) { all = all && p.has(column, row) })
		return all
	})
}

// eachWithin calls a function for every pixel at most n rows and columns, taken together, from another one.
func eachWithin(x int, y int, n int, visit func(column int, row int)) {
	for down := -n; down <= n; down++ {
		left := n - max(down, -down)
		for right := -left; right <= left; right++ {
			visit(x+right, y+down)
		}
	}
}

// reached returns the pixels that can be reached from one of some pixels.
func reached(p pixels, x int, y int) pixels {
	var out pixels
	open := [][2]int{{x, y}}
	for len(open) > 0 {
		at := open[len(open)-1]
		open = open[:len(open)-1]
		if !p.has(at[0], at[1]) || out[at[1]][at[0]] {
			continue
		}
		out[at[1]][at[0]] = true
		open = append(open, [2]int{at[0] - 1, at[1]}, [2]int{at[0] + 1, at[1]}, [2]int{at[0], at[1] - 1}, [2]int{at[0], at[1] + 1})
	}
	return out
}

// partsOf returns the connected parts of pixels, in the order of their first pixels.
func partsOf(p pixels) []pixels {
	var out []pixels
	var known pixels
	eachCell(func(x int, y int) {
		if !p[y][x] || known[y][x] {
			return
		}
		part := reached(p, x, y)
		eachCell(func(column int, row int) { known[row][column] = known[row][column] || part[row][column] })
		out = append(out, part)
	})
	return out
}

// roomyRuns returns a copy of runs with spare capacity that a call must not use.
func roomyRuns(list []impl.Run) []impl.Run {
	out := slices.Grow(slices.Clone(list), 200)
	for i := len(list); i < cap(out); i++ {
		out[:cap(out)][i] = impl.Run{Y: spoiled - 1, From: spoiled - 1, To: spoiled - 1}
	}
	return out
}

// keepsRuns calls a function that returns runs, writes over all of their memory, and fails if that, or the call itself, has changed an argument, or a later call.
func keepsRuns(t *testing.T, what string, call func() [][]impl.Run, arguments ...[]impl.Run) {
	t.Helper()
	var old [][]impl.Run
	for _, list := range arguments {
		old = append(old, slices.Clone(list[:cap(list)]))
	}
	first, second := call(), call()
	for i, list := range first {
		if len(list) == 0 || !slices.Equal(list, second[i]) {
			t.Errorf("%s returned nothing to look at, or not the same again", what)
		}
	}
	for i, list := range first {
		for j := range list[:cap(list)] {
			list[:cap(list)][j] = impl.Run{Y: spoiled, From: i}
		}
	}
	for i, list := range first {
		for _, r := range list[:cap(list)] {
			if r.From != i {
				t.Fatalf("%s: two lists of a result share memory", what)
			}
		}
	}
	for i, list := range arguments {
		if !slices.Equal(list[:cap(list)], old[i]) {
			t.Errorf("%s changed or shares argument %d", what, i)
		}
	}
	for i, list := range call() {
		if !slices.Equal(list, second[i]) {
			t.Errorf("%s keeps memory of an earlier call", what)
		}
	}
}
