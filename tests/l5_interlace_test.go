package tests

import (
	"math"
	"slices"
	"testing"

	"loop.example/pixelworks/impl"
)

// passMap has the pass of each pixel, which repeats every eight columns and rows.
var passMap = [8]string{"05351535", "66666666", "45454545", "66666666", "25352535", "66666666", "45454545", "66666666"}

// passOf returns the pass of a pixel.
func passOf(x int, y int) int {
	return int(passMap[y%8][x%8] - '0')
}

// passNumbers returns the numbers of the pixels of a pass, read from Data.
func passNumbers(m impl.Image, pass int) []int {
	var out []int
	eachPlace(m, func(x int, y int) {
		if passOf(x, y) == pass {
			out = append(out, rawPixel(m, x, y)...)
		}
	})
	return out
}

// allPasses returns PassData of all passes.
func allPasses(m impl.Image) [][]int {
	var out [][]int
	for pass := range 7 {
		out = append(out, impl.PassData(m, pass))
	}
	return out
}

// steps returns how many numbers less than a side are first, or follow it at a distance.
func steps(side int, first int, distance int) int {
	count := 0
	for n := first; n < side; n += distance {
		count++
	}
	return count
}

// notJoined fails unless JoinPasses fails.
func notJoined(t *testing.T, what string, width int, height int, planes int, list [][]int) {
	t.Helper()
	if m, ok := impl.JoinPasses(width, height, planes, list); ok || !isZero(m) {
		t.Errorf("JoinPasses of %d by %d by %d with %s = %v, %v", width, height, planes, what, m, ok)
	}
}

// joins fails unless JoinPasses returns an image.
func joins(t *testing.T, m impl.Image, list [][]int) {
	t.Helper()
	if got, ok := impl.JoinPasses(m.Width, m.Height, m.Planes, list); !ok || !equal(got, m) {
		t.Fatalf("JoinPasses of %d by %d by %d = %v, %v", m.Width, m.Height, m.Planes, got, ok)
	}
}

func TestPassSize(t *testing.T) {
	columns, columnDistances := []int{0, 4, 0, 2, 0, 1, 0}, []int{8, 8, 4, 4, 2, 2, 1}
	rows, rowDistances := []int{0, 0, 4, 0, 2, 0, 1}, []int{8, 8, 8, 4, 4, 2, 2}
	for width := 1; width <= 16; width++ {
		for height := 1; height <= 16; height++ {
			for pass := range 7 {
				gotColumns, gotRows := impl.PassSize(width, height, pass)
				if gotColumns != steps(width, columns[pass], columnDistances[pass]) || gotRows != steps(height, rows[pass], rowDistances[pass]) {
					t.Errorf("PassSize(%d, %d, %d) = %d, %d", width, height, pass, gotColumns, gotRows)
				}
			}
		}
	}
	for _, c := range [][5]int{{1, 1, 1, 0, 1}, {4, 1, 1, 0, 1}, {5, 1, 1, 1, 1}, {1, 4, 2, 1, 0}, {1, 5, 2, 1, 1}, {2, 16, 3, 0, 4}, {1, 1, 6, 1, 0}, {16, 16, 6, 16, 8}} {
		if gotColumns, gotRows := impl.PassSize(c[0], c[1], c[2]); gotColumns != c[3] || gotRows != c[4] {
			t.Errorf("PassSize(%d, %d, %d) = %d, %d", c[0], c[1], c[2], gotColumns, gotRows)
		}
	}
}

func TestPassSizeFails(t *testing.T) {
	fails := func(width int, height int, pass int) {
		t.Helper()
		if columns, rows := impl.PassSize(width, height, pass); columns != -1 || rows != -1 {
			t.Errorf("PassSize(%d, %d, %d) = %d, %d", width, height, pass, columns, rows)
		}
	}
	for _, side := range []int{0, -1, 17, math.MaxInt, math.MinInt} {
		for pass := range 7 {
			fails(side, 1, pass)
			fails(16, side, pass)
			fails(side, side, pass)
		}
	}
	for _, pass := range []int{-1, 7, math.MaxInt, math.MinInt} {
		fails(3, 3, pass)
		fails(16, 16, pass)
		fails(0, 0, pass)
	}
}

// Promise 21: the products of PassSize of all passes add up to the number of pixels.
func TestP21PassesHaveAllPixels(t *testing.T) {
	for width := 1; width <= 16; width++ {
		for height := 1; height <= 16; height++ {
			sum := 0
			for pass := range 7 {
				columns, rows := impl.PassSize(width, height, pass)
				sum += columns * rows
			}
			if sum != width*height {
				t.Errorf("all passes of %d by %d have %d pixels", width, height, sum)
			}
		}
	}
}

// Promise 22: PassData has Planes numbers for each pixel of PassSize, and the first pass begins with the first pixel.
func TestP22PassesHaveTheirPixels(t *testing.T) {
	for _, m := range pictures() {
		for pass := range 7 {
			data := impl.PassData(m, pass)
			columns, rows := impl.PassSize(m.Width, m.Height, pass)
			if len(data) != columns*rows*m.Planes {
				t.Errorf("pass %d of %d by %d by %d has %d numbers", pass, m.Width, m.Height, m.Planes, len(data))
			}
			if !slices.Equal(data, passNumbers(m, pass)) {
				t.Errorf("pass %d of %d by %d by %d = %v", pass, m.Width, m.Height, m.Planes, data)
			}
		}
		if first := impl.PassData(m, 0); !slices.Equal(first[:m.Planes], impl.PixelAt(m, 0, 0)) {
			t.Errorf("the first pass begins with %v", first)
		}
	}
}

func TestP22PassDataFails(t *testing.T) {
	for i, m := range badPictures() {
		for pass := range 7 {
			if got := impl.PassData(m, pass); len(got) > 0 {
				t.Errorf("PassData of bad picture %d, pass %d = %v", i, pass, got)
			}
		}
	}
	for _, pass := range []int{-1, 7, math.MaxInt, math.MinInt} {
		if got := impl.PassData(picture(16, 16, 4), pass); len(got) > 0 {
			t.Errorf("PassData of pass %d = %v", pass, got)
		}
	}
}

// Promise 23: JoinPasses of all PassData is the image.
func TestP23PassesMakeUpTheImage(t *testing.T) {
	m := impl.Image{Width: 5, Height: 3, Planes: 1, Data: []int{1, 2, 3, 4, 5, 6, 7, 8, 9, 10, 11, 12, 13, 14, 15}}
	list := [][]int{{1}, {5}, {}, {3}, {11, 13, 15}, {2, 4, 12, 14}, {6, 7, 8, 9, 10}}
	for pass, want := range list {
		if got := impl.PassData(m, pass); !slices.Equal(got, want) {
			t.Errorf("PassData of pass %d = %v", pass, got)
		}
	}
	joins(t, m, list)
	joins(t, picture(1, 1, 1), [][]int{{0}, nil, nil, {}, nil, nil, {}})
	for _, m := range pictures() {
		joins(t, m, allPasses(m))
	}
}

func TestP23JoinPassesFails(t *testing.T) {
	for _, m := range pictures() {
		fails := func(what string, list [][]int) {
			t.Helper()
			notJoined(t, what, m.Width, m.Height, m.Planes, list)
		}
		list := allPasses(m)
		fails("no passes", nil)
		fails("six passes", list[:6])
		fails("the last six passes", list[1:])
		fails("eight passes", append(clones(list), nil))
		fails("eight passes, the first one empty", append([][]int{nil}, list...))
		for pass := range 7 {
			for _, n := range []int{0, -1, 256} {
				long := clones(list)
				long[pass] = append(long[pass], n)
				fails("one number more", long)
			}
			if len(list[pass]) == 0 {
				continue
			}
			short := clones(list)
			short[pass] = short[pass][1:]
			fails("one number less", short)
			for _, n := range []int{-1, 256, math.MaxInt, math.MinInt} {
				for _, i := range []int{0, len(list[pass]) / 2, len(list[pass]) - 1} {
					bad := clones(list)
					bad[pass][i] = n
					fails("a bad number", bad)
				}
			}
		}
	}
}

func TestP23JoinPassesOfOtherShapes(t *testing.T) {
	list := [][]int{{1}, {}, {}, {}, {}, {}, {}}
	for _, n := range []int{0, -1, 17, math.MaxInt, math.MinInt} {
		notJoined(t, "another width", n, 1, 1, list)
		notJoined(t, "another height", 1, n, 1, list)
		notJoined(t, "empty passes", n, n, n, make([][]int, 7))
	}
	for _, n := range []int{0, -1, 5, math.MaxInt, math.MinInt} {
		notJoined(t, "other planes", 1, 1, n, list)
		notJoined(t, "other planes and empty passes", 1, 1, n, make([][]int, 7))
	}
	notJoined(t, "five numbers", 1, 1, 5, [][]int{make([]int, 5), {}, {}, {}, {}, {}, {}})
	m := picture(4, 2, 2)
	notJoined(t, "half the planes", 4, 2, 1, allPasses(m))
	notJoined(t, "exchanged sides", 2, 4, 2, allPasses(m))
	notJoined(t, "a pass at another place", 3, 3, 1, [][]int{{1}, {3}, {}, {}, {7, 9}, {2, 8}, {4, 5, 6}})
}

// Promise 24: JoinPasses of PassData of every valid image is the image.
func TestP24ImagesPassThroughPasses(t *testing.T) {
	for width := 1; width <= 16; width++ {
		for height := 1; height <= 16; height++ {
			for planes := 1; planes <= 4; planes++ {
				m := picture(width, height, planes)
				joins(t, m, allPasses(m))
			}
		}
	}
}

func TestPassesKeepTheirArguments(t *testing.T) {
	m := picture(9, 5, 3)
	m.Data = roomy(m.Data)
	list := allPasses(m)
	for pass := range 7 {
		keeps(t, "PassData", func() [][]int { return [][]int{impl.PassData(m, pass)} }, m.Data)
		list[pass] = roomy(list[pass])
	}
	keeps(t, "JoinPasses", func() [][]int {
		out, _ := impl.JoinPasses(9, 5, 3, list)
		return [][]int{out.Data}
	}, list...)
}
