package tests

import (
	"math"
	"slices"
	"testing"

	"loop.example/pixelworks/impl"
)

// checkMoved checks that an image has the shape and, at the place that move tells, every pixel of another one.
func checkMoved(t *testing.T, what string, out impl.Image, m impl.Image, width int, height int, move func(x int, y int) (int, int)) {
	t.Helper()
	if out.Width != width || out.Height != height || out.Planes != m.Planes || len(out.Data) != len(m.Data) {
		t.Fatalf("%s of %d by %d has a wrong shape", what, m.Width, m.Height)
	}
	eachPlace(m, func(x int, y int) {
		column, row := move(x, y)
		if !slices.Equal(rawPixel(out, column, row), rawPixel(m, x, y)) {
			t.Fatalf("%s of %d by %d: pixel %d %d", what, m.Width, m.Height, x, y)
		}
	})
}

func TestTurnsOfOneImage(t *testing.T) {
	m := impl.Image{Width: 3, Height: 2, Planes: 2, Data: []int{1, 2, 3, 4, 5, 6, 7, 8, 9, 10, 11, 12}}
	for _, c := range []struct {
		what string
		got  impl.Image
		want impl.Image
	}{
		{"mirrored", impl.MirrorImage(m), impl.Image{Width: 3, Height: 2, Planes: 2, Data: []int{5, 6, 3, 4, 1, 2, 11, 12, 9, 10, 7, 8}}},
		{"not turned", impl.TurnImage(m, 0), m},
		{"turned by 1", impl.TurnImage(m, 1), impl.Image{Width: 2, Height: 3, Planes: 2, Data: []int{7, 8, 1, 2, 9, 10, 3, 4, 11, 12, 5, 6}}},
		{"turned by 2", impl.TurnImage(m, 2), impl.Image{Width: 3, Height: 2, Planes: 2, Data: []int{11, 12, 9, 10, 7, 8, 5, 6, 3, 4, 1, 2}}},
		{"turned by 3", impl.TurnImage(m, 3), impl.Image{Width: 2, Height: 3, Planes: 2, Data: []int{5, 6, 11, 12, 3, 4, 9, 10, 1, 2, 7, 8}}},
		{"transposed", impl.TransposeImage(m), impl.Image{Width: 2, Height: 3, Planes: 2, Data: []int{1, 2, 7, 8, 3, 4, 9, 10, 5, 6, 11, 12}}},
		{"inverted", impl.InvertImage(m), impl.Image{Width: 3, Height: 2, Planes: 2, Data: []int{254, 253, 252, 251, 250, 249, 248, 247, 246, 245, 244, 243}}},
	} {
		if !equal(c.got, c.want) {
			t.Errorf("%s: %v", c.what, c.got)
		}
	}
}

func TestTurnsFail(t *testing.T) {
	for i, m := range badPictures() {
		if !isZero(impl.MirrorImage(m)) || !isZero(impl.TransposeImage(m)) || !isZero(impl.InvertImage(m)) {
			t.Errorf("bad picture %d is mirrored, transposed or inverted", i)
		}
		for k := range 4 {
			if !isZero(impl.TurnImage(m, k)) {
				t.Errorf("bad picture %d is turned by %d", i, k)
			}
		}
	}
	for _, m := range pictures() {
		for _, k := range []int{-1, 4, 5, -4, math.MaxInt, math.MinInt} {
			if !isZero(impl.TurnImage(m, k)) {
				t.Errorf("TurnImage by %d", k)
			}
		}
	}
}

// Promise 8: MirrorImage twice is the image, and the first pixel of a row becomes the last one.
func TestP8MirrorsCanBeUndone(t *testing.T) {
	for _, m := range pictures() {
		mirrored := impl.MirrorImage(m)
		if !equal(impl.MirrorImage(mirrored), m) {
			t.Errorf("MirrorImage twice of %d by %d", m.Width, m.Height)
		}
		for y := range m.Height {
			if !slices.Equal(impl.PixelAt(mirrored, m.Width-1, y), impl.PixelAt(m, 0, y)) {
				t.Errorf("MirrorImage: first pixel of row %d", y)
			}
		}
	}
}

// Promise 9: TurnImage by k quarters and then by the other ones is the image, and two turns follow each other.
func TestP9FourQuartersAreAWholeTurn(t *testing.T) {
	for _, m := range pictures() {
		if !equal(impl.TurnImage(m, 0), m) {
			t.Errorf("TurnImage by 0 of %d by %d", m.Width, m.Height)
		}
		for k := range 4 {
			turned := impl.TurnImage(m, k)
			if !equal(impl.TurnImage(turned, (4-k)%4), m) {
				t.Errorf("TurnImage by %d and back of %d by %d", k, m.Width, m.Height)
			}
			for j := range 4 {
				if !equal(impl.TurnImage(turned, j), impl.TurnImage(m, (j+k)%4)) {
					t.Errorf("TurnImage by %d and by %d of %d by %d", k, j, m.Width, m.Height)
				}
			}
		}
		w, h := m.Width, m.Height
		checkMoved(t, "TurnImage by 1", impl.TurnImage(m, 1), m, h, w, func(x int, y int) (int, int) { return h - 1 - y, x })
		checkMoved(t, "TurnImage by 2", impl.TurnImage(m, 2), m, w, h, func(x int, y int) (int, int) { return w - 1 - x, h - 1 - y })
		checkMoved(t, "TurnImage by 3", impl.TurnImage(m, 3), m, h, w, func(x int, y int) (int, int) { return y, w - 1 - x })
	}
}

// Promise 10: a mirrored quarter turn is undone by a mirrored quarter turn.
func TestP10MirrorsTurnTurnsAround(t *testing.T) {
	for _, m := range pictures() {
		once := impl.MirrorImage(impl.TurnImage(m, 1))
		if !equal(impl.MirrorImage(impl.TurnImage(once, 1)), m) {
			t.Errorf("two mirrored quarter turns of %d by %d", m.Width, m.Height)
		}
		if !equal(impl.TurnImage(impl.MirrorImage(m), 1), impl.MirrorImage(impl.TurnImage(m, 3))) {
			t.Errorf("a turned mirror of %d by %d", m.Width, m.Height)
		}
	}
}

// Promise 11: TransposeImage twice is the image, and it is a mirrored quarter turn.
func TestP11ColumnsAndRowsCanBeExchangedBack(t *testing.T) {
	for _, m := range pictures() {
		transposed := impl.TransposeImage(m)
		checkMoved(t, "TransposeImage", transposed, m, m.Height, m.Width, func(x int, y int) (int, int) { return y, x })
		if !equal(impl.TransposeImage(transposed), m) {
			t.Errorf("TransposeImage twice of %d by %d", m.Width, m.Height)
		}
		if !equal(transposed, impl.MirrorImage(impl.TurnImage(m, 1))) {
			t.Errorf("TransposeImage of %d by %d is no mirrored quarter turn", m.Width, m.Height)
		}
	}
}

// Promise 12: InvertImage of InvertImage is the image, and all numbers add up to 255.
func TestP12InvertingTwiceChangesNothing(t *testing.T) {
	for _, m := range pictures() {
		inverted := impl.InvertImage(m)
		checkInverted(t, m, inverted)
		if !equal(impl.InvertImage(inverted), m) {
			t.Errorf("InvertImage twice of %d by %d", m.Width, m.Height)
		}
	}
	all := flat(16, 16, 1, 256)
	for n := range all.Data {
		all.Data[n] = n
	}
	checkInverted(t, all, impl.InvertImage(all))
}

// checkInverted checks that the numbers of two images add up to 255.
func checkInverted(t *testing.T, m impl.Image, inverted impl.Image) {
	t.Helper()
	if inverted.Width != m.Width || inverted.Height != m.Height || inverted.Planes != m.Planes || len(inverted.Data) != len(m.Data) {
		t.Fatalf("InvertImage of %d by %d has a wrong shape", m.Width, m.Height)
	}
	for i, n := range m.Data {
		if inverted.Data[i]+n != 255 {
			t.Fatalf("InvertImage makes %d of %d", inverted.Data[i], n)
		}
	}
}

// Promise 139: FillImage turned by a quarter is FillImage with width and height exchanged.
func TestP139OneColorHasNoDirection(t *testing.T) {
	for width := 1; width <= 16; width++ {
		for height := 1; height <= 16; height++ {
			for planes := 1; planes <= 4; planes++ {
				pixel := numbers(width*height, planes, 255)
				got := impl.TurnImage(impl.FillImage(width, height, pixel), 1)
				if !equal(got, impl.FillImage(height, width, pixel)) || isZero(got) {
					t.Fatalf("FillImage of %d by %d by %d turned", width, height, planes)
				}
			}
		}
	}
}

// Promise 140: PixelAt of MirrorImage in column Width - 1 - x is PixelAt of the image in column x.
func TestP140MirrorsExchangeColumns(t *testing.T) {
	for _, m := range pictures() {
		mirrored := impl.MirrorImage(m)
		eachPlace(m, func(x int, y int) {
			if !slices.Equal(impl.PixelAt(mirrored, m.Width-1-x, y), impl.PixelAt(m, x, y)) {
				t.Fatalf("MirrorImage of %d by %d: pixel %d %d", m.Width, m.Height, x, y)
			}
		})
		checkMoved(t, "MirrorImage", mirrored, m, m.Width, m.Height, func(x int, y int) (int, int) { return m.Width - 1 - x, y })
	}
}

func TestTurnsKeepTheirArguments(t *testing.T) {
	for _, m := range pictures() {
		m.Data = roomy(m.Data)
		keeps(t, "MirrorImage", func() [][]int { return [][]int{impl.MirrorImage(m).Data} }, m.Data)
		keeps(t, "TransposeImage", func() [][]int { return [][]int{impl.TransposeImage(m).Data} }, m.Data)
		keeps(t, "InvertImage", func() [][]int { return [][]int{impl.InvertImage(m).Data} }, m.Data)
		for k := range 4 {
			keeps(t, "TurnImage", func() [][]int { return [][]int{impl.TurnImage(m, k).Data} }, m.Data)
		}
	}
}
