package tests

import (
	"math"
	"slices"
	"testing"

	"loop.example/pixelworks/impl"
)

// boxesOf returns all boxes of an image, or those with corners near the
// border if there would be too many.
func boxesOf(m impl.Image) []impl.Box {
	near := func(n int, side int) bool { return side < 8 || n < 2 || n >= side-2 || n == side/2 }
	var out []impl.Box
	eachPlace(m, func(x int, y int) {
		for w := 1; x+w <= m.Width; w++ {
			for h := 1; y+h <= m.Height; h++ {
				if near(x, m.Width) && near(y, m.Height) && near(x+w, m.Width) && near(y+h, m.Height) {
					out = append(out, impl.Box{X: x, Y: y, Width: w, Height: h})
				}
			}
		}
	})
	return out
}

// badBoxes returns boxes that are not on an image.
func badBoxes(m impl.Image) []impl.Box {
	w, h := m.Width, m.Height
	return []impl.Box{
		{}, {X: 0, Y: 0, Width: w + 1, Height: h}, {X: 0, Y: 0, Width: w, Height: h + 1},
		{X: 1, Y: 0, Width: w, Height: 1}, {X: 0, Y: 1, Width: 1, Height: h},
		{X: w - 1, Y: h - 1, Width: 2, Height: 1}, {X: w - 1, Y: h - 1, Width: 1, Height: 2},
		{X: w, Y: 0, Width: 1, Height: 1}, {X: 0, Y: h, Width: 1, Height: 1},
		{X: w, Y: 0, Width: 0, Height: 1}, {X: 0, Y: h, Width: 1, Height: 0},
		{X: -1, Y: 0, Width: 1, Height: 1}, {X: 0, Y: -1, Width: 1, Height: 1}, {X: -1, Y: 0, Width: 2, Height: 1},
		{X: 0, Y: -1, Width: 1, Height: 2}, {X: 0, Y: 0, Width: 0, Height: 1}, {X: 0, Y: 0, Width: 1, Height: 0},
		{X: 0, Y: 0, Width: -1, Height: 1}, {X: 0, Y: 0, Width: 1, Height: -1}, {X: 0, Y: 0, Width: -1, Height: -1},
		{X: w - 1, Y: 0, Width: math.MaxInt, Height: 1}, {X: 0, Y: h - 1, Width: 1, Height: math.MaxInt},
		{X: math.MaxInt, Y: 0, Width: 1, Height: 1}, {X: math.MaxInt, Y: math.MaxInt, Width: math.MaxInt, Height: math.MaxInt},
		{X: math.MinInt, Y: 0, Width: math.MinInt, Height: 1}, {X: 0, Y: 0, Width: math.MinInt, Height: math.MinInt},
	}
}

// outside returns places that are not on an image.
func outside(m impl.Image) [][2]int {
	return [][2]int{
		{-1, 0}, {0, -1}, {m.Width, 0}, {0, m.Height}, {m.Width - 1, m.Height}, {m.Width, m.Height - 1},
		{-1, m.Height - 1}, {m.Width - 1, -1}, {-1, 1}, {m.Width, -1}, {math.MaxInt, 0}, {0, math.MaxInt},
		{math.MinInt, 0}, {0, math.MinInt}, {math.MaxInt, math.MaxInt}, {math.MinInt, math.MinInt},
	}
}

// badPixels returns lists that are no pixel of a number of planes.
func badPixels(planes int) [][]int {
	list := [][]int{nil, make([]int, planes-1), make([]int, planes+1), make([]int, 1000)}
	for i := range planes {
		for _, n := range []int{-1, 256, math.MaxInt, math.MinInt} {
			bad := make([]int, planes)
			bad[i] = n
			list = append(list, bad)
		}
	}
	return list
}

func TestValidImage(t *testing.T) {
	for width := -1; width <= 17; width++ {
		for height := -1; height <= 17; height++ {
			for planes := -1; planes <= 5; planes++ {
				count := max(width, 0) * max(height, 0) * max(planes, 0)
				want := width >= 1 && width <= 16 && height >= 1 && height <= 16 && planes >= 1 && planes <= 4
				if got := impl.ValidImage(flat(width, height, planes, count)); got != want {
					t.Fatalf("ValidImage of %d by %d by %d = %v", width, height, planes, got)
				}
			}
		}
	}
	for _, m := range pictures() {
		if !impl.ValidImage(m) {
			t.Errorf("ValidImage of %d by %d by %d", m.Width, m.Height, m.Planes)
		}
		for i := range m.Data {
			if impl.ValidImage(with(m, i, 256)) || impl.ValidImage(with(m, i, -1)) ||
				!impl.ValidImage(with(m, i, 255)) || !impl.ValidImage(with(m, i, 0)) {
				t.Fatalf("ValidImage does not look at number %d", i)
			}
		}
	}
	for i, m := range badPictures() {
		if impl.ValidImage(m) {
			t.Errorf("ValidImage accepts bad picture %d", i)
		}
	}
}

func TestFillImage(t *testing.T) {
	for width := 1; width <= 16; width++ {
		for height := 1; height <= 16; height++ {
			for planes := 1; planes <= 4; planes++ {
				pixel := numbers(width+height, planes, 255)
				m := impl.FillImage(width, height, pixel)
				if m.Width != width || m.Height != height || m.Planes != planes || !impl.ValidImage(m) {
					t.Fatalf("FillImage %d by %d by %d has a wrong shape", width, height, planes)
				}
				eachPlace(m, func(x int, y int) {
					if !slices.Equal(rawPixel(m, x, y), pixel) {
						t.Fatalf("FillImage has another pixel at %d %d", x, y)
					}
				})
			}
		}
	}
	if !equal(impl.FillImage(1, 2, []int{0, 255}), impl.Image{Width: 1, Height: 2, Planes: 2, Data: []int{0, 255, 0, 255}}) {
		t.Error("FillImage with the least and the greatest number")
	}
	for _, side := range []int{0, -1, 17, math.MaxInt, math.MinInt} {
		if !isZero(impl.FillImage(side, 1, []int{1})) || !isZero(impl.FillImage(1, side, []int{1})) || !isZero(impl.FillImage(side, side, []int{1})) {
			t.Errorf("FillImage with the side %d", side)
		}
	}
	for _, pixel := range [][]int{nil, {}, {1, 2, 3, 4, 5}, {256}, {-1}, {1, 2, 3, 256}, {1, -1, 3}, make([]int, 1000)} {
		if !isZero(impl.FillImage(2, 2, pixel)) {
			t.Errorf("FillImage with the pixel %v", pixel)
		}
	}
}

// Promise 3: PixelAt of SetPixel is the pixel, and setting it back yields the image again.
func TestP3SetPixelsCanBeRead(t *testing.T) {
	for _, m := range pictures() {
		eachPlace(m, func(x int, y int) {
			old := slices.Clone(rawPixel(m, x, y))
			pixel := make([]int, m.Planes)
			for i := range pixel {
				pixel[i] = (old[i] + 100 + i) % 256
			}
			set, ok := impl.SetPixel(m, x, y, pixel)
			if !ok || !slices.Equal(impl.PixelAt(set, x, y), pixel) {
				t.Fatalf("SetPixel at %d %d is not read", x, y)
			}
			eachPlace(m, func(column int, row int) {
				if (column != x || row != y) && !slices.Equal(rawPixel(set, column, row), rawPixel(m, column, row)) {
					t.Fatalf("SetPixel at %d %d changes %d %d", x, y, column, row)
				}
			})
			if back, ok := impl.SetPixel(set, x, y, old); !ok || !equal(back, m) {
				t.Fatalf("SetPixel at %d %d cannot be set back", x, y)
			}
		})
	}
}

func TestP3SetPixelFails(t *testing.T) {
	fails := func(what string, m impl.Image, x int, y int, pixel []int) {
		if out, ok := impl.SetPixel(m, x, y, pixel); ok || !isZero(out) {
			t.Errorf("SetPixel with %s at %d %d, pixel of %d", what, x, y, len(pixel))
		}
	}
	for _, m := range pictures() {
		for _, p := range outside(m) {
			fails("a place outside", m, p[0], p[1], make([]int, m.Planes))
		}
		for _, pixel := range badPixels(m.Planes) {
			fails("a bad pixel", m, 0, 0, pixel)
		}
	}
	for _, m := range badPictures() {
		for planes := range 6 {
			fails("a bad image", m, 0, 0, make([]int, planes))
		}
	}
}

// Promise 4: PixelAt are the Planes numbers of Data at the index of the pixel.
func TestP4PixelsAreWhereTheyAreSaidToBe(t *testing.T) {
	for _, m := range pictures() {
		eachPlace(m, func(x int, y int) {
			if got := impl.PixelAt(m, x, y); !slices.Equal(got, rawPixel(m, x, y)) {
				t.Fatalf("PixelAt %d %d = %v", x, y, got)
			}
		})
		for _, p := range outside(m) {
			if got := impl.PixelAt(m, p[0], p[1]); len(got) > 0 {
				t.Errorf("PixelAt %v outside = %v", p, got)
			}
		}
	}
	m := impl.Image{Width: 2, Height: 3, Planes: 2, Data: []int{1, 2, 3, 4, 5, 6, 7, 8, 9, 10, 11, 12}}
	if !slices.Equal(impl.PixelAt(m, 1, 0), []int{3, 4}) || !slices.Equal(impl.PixelAt(m, 0, 2), []int{9, 10}) {
		t.Error("PixelAt of an image with two planes")
	}
	for i, m := range badPictures() {
		if len(impl.PixelAt(m, 0, 0)) > 0 {
			t.Errorf("PixelAt of bad picture %d", i)
		}
	}
}

// Promise 5: PasteImage of CropImage at its place is the image, and all pixels are those of the image.
func TestP5PartsCanBePutBack(t *testing.T) {
	for _, m := range pictures() {
		for _, b := range boxesOf(m) {
			part, ok := impl.CropImage(m, b)
			if !ok || part.Width != b.Width || part.Height != b.Height || part.Planes != m.Planes || !impl.ValidImage(part) {
				t.Fatalf("CropImage %v has a wrong shape", b)
			}
			eachPlace(part, func(x int, y int) {
				if !slices.Equal(rawPixel(part, x, y), rawPixel(m, b.X+x, b.Y+y)) {
					t.Fatalf("CropImage %v at %d %d", b, x, y)
				}
			})
			if back, ok := impl.PasteImage(m, b.X, b.Y, part); !ok || !equal(back, m) {
				t.Fatalf("PasteImage of CropImage %v", b)
			}
			if back, ok := impl.PasteImage(impl.InvertImage(m), b.X, b.Y, part); !ok || !slices.Equal(rawPixel(back, b.X, b.Y), rawPixel(m, b.X, b.Y)) {
				t.Fatalf("PasteImage of CropImage %v on another image", b)
			}
		}
	}
}

func TestP5CropImageFails(t *testing.T) {
	for _, m := range pictures() {
		for _, b := range badBoxes(m) {
			if out, ok := impl.CropImage(m, b); ok || !isZero(out) {
				t.Errorf("CropImage of %d by %d with %v", m.Width, m.Height, b)
			}
		}
	}
	for i, m := range badPictures() {
		if out, ok := impl.CropImage(m, impl.Box{Width: 1, Height: 1}); ok || !isZero(out) {
			t.Errorf("CropImage of bad picture %d", i)
		}
	}
}

// Promise 6: CropImage of CropImage is CropImage with the places added.
func TestP6PartsOfPartsAreParts(t *testing.T) {
	for _, m := range []impl.Image{picture(4, 3, 1), picture(3, 5, 3), picture(16, 2, 2), picture(16, 16, 4)} {
		for _, outer := range boxesOf(m) {
			part, _ := impl.CropImage(m, outer)
			for _, inner := range boxesOf(part) {
				if max(m.Width, m.Height) == 16 && (inner.X+inner.Y+outer.X+outer.Width)%5 > 0 {
					continue
				}
				got, ok := impl.CropImage(part, inner)
				added := impl.Box{X: outer.X + inner.X, Y: outer.Y + inner.Y, Width: inner.Width, Height: inner.Height}
				want, fine := impl.CropImage(m, added)
				if !ok || !fine || !equal(got, want) {
					t.Fatalf("CropImage %v of CropImage %v", inner, outer)
				}
			}
		}
	}
}

// Promise 7: after PasteImage each pixel is that of the part if it lies there, and that of the image otherwise; pasting twice changes nothing.
func TestP7PastedImagesAreThere(t *testing.T) {
	shapes := [][2]int{{1, 1}, {3, 2}, {2, 5}, {16, 16}, {16, 1}}
	for _, below := range shapes {
		for _, above := range shapes {
			planes := 1 + (below[0]+above[1])%4
			m := picture(below[0], below[1], planes)
			part := impl.Image{Width: above[0], Height: above[1], Planes: planes, Data: numbers(9, above[0]*above[1]*planes, 255)}
			for x := -16; x <= 16; x++ {
				for y := -16; y <= 16; y++ {
					checkPasted(t, m, x, y, part)
				}
			}
		}
	}
}

// checkPasted checks all pixels of PasteImage.
func checkPasted(t *testing.T, m impl.Image, x int, y int, part impl.Image) {
	t.Helper()
	out, ok := impl.PasteImage(m, x, y, part)
	if !ok || out.Width != m.Width || out.Height != m.Height || out.Planes != m.Planes || len(out.Data) != len(m.Data) {
		t.Fatalf("PasteImage at %d %d has a wrong shape", x, y)
	}
	eachPlace(m, func(column int, row int) {
		want := rawPixel(m, column, row)
		if column >= x && column < x+part.Width && row >= y && row < y+part.Height {
			want = rawPixel(part, column-x, row-y)
		}
		if !slices.Equal(rawPixel(out, column, row), want) {
			t.Fatalf("PasteImage at %d %d: pixel %d %d", x, y, column, row)
		}
	})
	if again, ok := impl.PasteImage(out, x, y, part); !ok || !equal(again, out) {
		t.Fatalf("PasteImage twice at %d %d", x, y)
	}
}

func TestP7PasteImageFails(t *testing.T) {
	fails := func(what string, m impl.Image, x int, y int, part impl.Image) {
		if out, ok := impl.PasteImage(m, x, y, part); ok || !isZero(out) {
			t.Errorf("PasteImage with %s at %d %d", what, x, y)
		}
	}
	m := picture(3, 2, 2)
	for _, n := range []int{-17, 17, math.MaxInt, math.MinInt} {
		fails("a far column", m, n, 0, m)
		fails("a far row", m, 0, n, m)
		fails("a far place", m, n, n, m)
	}
	for planes := 1; planes <= 4; planes++ {
		if planes != m.Planes {
			fails("other planes", m, 0, 0, picture(3, 2, planes))
			fails("other planes outside", m, 16, 16, picture(1, 1, planes))
		}
	}
	for _, bad := range badPictures() {
		fails("a bad part", flat(1, 1, 1, 1), 0, 0, bad)
		fails("a bad image", bad, 0, 0, flat(1, 1, 1, 1))
		fails("two bad images", bad, 0, 0, bad)
	}
}

func TestImagesKeepTheirArguments(t *testing.T) {
	m, part := picture(5, 3, 2), picture(2, 2, 2)
	m.Data, part.Data = roomy(m.Data), roomy(part.Data)
	pixel := roomy([]int{7, 8})
	keeps(t, "FillImage", func() [][]int { return [][]int{impl.FillImage(2, 2, pixel).Data} }, pixel)
	keeps(t, "PixelAt", func() [][]int { return [][]int{impl.PixelAt(m, 1, 1)} }, m.Data)
	keeps(t, "SetPixel", func() [][]int {
		out, _ := impl.SetPixel(m, 4, 2, pixel)
		return [][]int{out.Data}
	}, m.Data, pixel)
	for _, b := range []impl.Box{{X: 1, Y: 1, Width: 2, Height: 2}, {Width: 5, Height: 3}} {
		keeps(t, "CropImage", func() [][]int {
			out, _ := impl.CropImage(m, b)
			return [][]int{out.Data}
		}, m.Data)
	}
	for _, x := range []int{-1, 0, 4, 16} {
		keeps(t, "PasteImage", func() [][]int {
			out, _ := impl.PasteImage(m, x, 0, part)
			return [][]int{out.Data}
		}, m.Data, part.Data)
	}
	keeps(t, "PasteImage on itself", func() [][]int {
		out, _ := impl.PasteImage(m, 0, 0, m)
		return [][]int{out.Data}
	}, m.Data)
}
