package tests

import (
	"math"
	"slices"
	"testing"

	"loop.example/pixelworks/impl"
)

// tileAt returns the number of the tile of a pixel.
func tileAt(m impl.Image, x int, y int) int {
	return y/4*((m.Width+3)/4) + x/4
}

// tileCount returns the number of tiles of an image.
func tileCount(m impl.Image) int {
	return tileAt(m, m.Width-1, m.Height-1) + 1
}

// allTiles returns the numbers of all tiles of an image.
func allTiles(m impl.Image) []int {
	var out []int
	for i := range tileCount(m) {
		out = append(out, i)
	}
	return out
}

// touched returns the numbers of the tiles in which a layer has pixels.
func touched(m impl.Image, l impl.Layer) []int {
	var out []int
	eachPlace(m, func(x int, y int) {
		if isOn(l.Image, x-l.X, y-l.Y) && !slices.Contains(out, tileAt(m, x, y)) {
			out = append(out, tileAt(m, x, y))
		}
	})
	slices.Sort(out)
	return out
}

// tileLists returns lists of tiles of an image.
func tileLists(m impl.Image) [][]int {
	all := allTiles(m)
	out := [][]int{nil, {}, all, {0}, {len(all) - 1}, all[1:], all[:len(all)-1]}
	for seed := range 6 {
		var list []int
		for i, n := range numbers(seed, len(all), 99) {
			if n < 15+14*seed {
				list = append(list, i)
			}
		}
		out = append(out, list)
	}
	return out
}

// eachShape calls a function for images of all widths and heights.
func eachShape(visit func(m impl.Image)) {
	for width := 1; width <= 16; width++ {
		for height := 1; height <= 16; height++ {
			visit(picture(width, height, 1+(width+height)%4))
		}
	}
}

// Promise 88: the areas of TileBoxes add up to that of the image, and no two of them have common pixels.
func TestP88TilesCoverTheImage(t *testing.T) {
	eachShape(func(m impl.Image) {
		boxes := impl.TileBoxes(m)
		if len(boxes) != tileCount(m) {
			t.Fatalf("%d by %d has %d tiles, not %d", m.Width, m.Height, len(boxes), tileCount(m))
		}
		found := make([]int, m.Width*m.Height)
		area := 0
		for i, b := range boxes {
			if b.X%4 > 0 || b.Y%4 > 0 || b.Width != min(4, m.Width-b.X) || b.Height != min(4, m.Height-b.Y) {
				t.Fatalf("tile %d of %d by %d is %v", i, m.Width, m.Height, b)
			}
			area += b.Width * b.Height
			eachPlace(m, func(x int, y int) {
				if x >= b.X && x < b.X+b.Width && y >= b.Y && y < b.Y+b.Height {
					found[y*m.Width+x]++
					if tileAt(m, x, y) != i {
						t.Fatalf("tile %d of %d by %d has the pixel %d %d", i, m.Width, m.Height, x, y)
					}
				}
			})
		}
		if area != m.Width*m.Height || slices.Min(found) != 1 || slices.Max(found) != 1 {
			t.Fatalf("the tiles of %d by %d do not cover it: %v", m.Width, m.Height, boxes)
		}
	})
}

func TestP88KnownTiles(t *testing.T) {
	for _, c := range []struct {
		width  int
		height int
		want   []impl.Box
	}{
		{1, 1, []impl.Box{{X: 0, Y: 0, Width: 1, Height: 1}}},
		{3, 4, []impl.Box{{X: 0, Y: 0, Width: 3, Height: 4}}},
		{4, 4, []impl.Box{{X: 0, Y: 0, Width: 4, Height: 4}}},
		{4, 5, []impl.Box{{X: 0, Y: 0, Width: 4, Height: 4}, {X: 0, Y: 4, Width: 4, Height: 1}}},
		{5, 4, []impl.Box{{X: 0, Y: 0, Width: 4, Height: 4}, {X: 4, Y: 0, Width: 1, Height: 4}}},
		{6, 5, []impl.Box{{X: 0, Y: 0, Width: 4, Height: 4}, {X: 4, Y: 0, Width: 2, Height: 4}, {X: 0, Y: 4, Width: 4, Height: 1}, {X: 4, Y: 4, Width: 2, Height: 1}}},
		{16, 1, []impl.Box{{X: 0, Y: 0, Width: 4, Height: 1}, {X: 4, Y: 0, Width: 4, Height: 1}, {X: 8, Y: 0, Width: 4, Height: 1}, {X: 12, Y: 0, Width: 4, Height: 1}}},
		{2, 15, []impl.Box{{X: 0, Y: 0, Width: 2, Height: 4}, {X: 0, Y: 4, Width: 2, Height: 4}, {X: 0, Y: 8, Width: 2, Height: 4}, {X: 0, Y: 12, Width: 2, Height: 3}}},
	} {
		if got := impl.TileBoxes(picture(c.width, c.height, 1)); !slices.Equal(got, c.want) {
			t.Errorf("TileBoxes of %d by %d = %v, not %v", c.width, c.height, got, c.want)
		}
	}
	largest := impl.TileBoxes(picture(16, 16, 4))
	if len(largest) != 16 || largest[15] != (impl.Box{X: 12, Y: 12, Width: 4, Height: 4}) || largest[6] != (impl.Box{X: 8, Y: 4, Width: 4, Height: 4}) {
		t.Errorf("TileBoxes of the largest image = %v", largest)
	}
	if impl.TileSide != 4 {
		t.Errorf("TileSide = %d", impl.TileSide)
	}
	for i, bad := range badPictures() {
		if got := impl.TileBoxes(bad); len(got) > 0 {
			t.Errorf("TileBoxes of bad picture %d = %v", i, got)
		}
	}
}

// Promise 89: CoverImage changes no pixel that is in none of DirtyTiles.
func TestP89CleanTilesAreUnchanged(t *testing.T) {
	for _, m := range grounds() {
		eachLayer(m, func(l impl.Layer) {
			dirty := impl.DirtyTiles(m, l)
			if want := touched(m, l); !slices.Equal(dirty, want) {
				t.Fatalf("DirtyTiles of %d by %d with %d by %d at %d %d = %v, not %v", m.Width, m.Height, l.Image.Width, l.Image.Height, l.X, l.Y, dirty, want)
			}
			out := coveredImage(t, m, l)
			eachPlace(m, func(x int, y int) {
				if !slices.Contains(dirty, tileAt(m, x, y)) && !slices.Equal(rawPixel(out, x, y), rawPixel(m, x, y)) {
					t.Fatalf("the pixel %d %d of a clean tile is changed by %v", x, y, l)
				}
			})
		})
	}
}

func TestP89KnownDirtyTiles(t *testing.T) {
	m := picture(10, 9, 2) // three columns and three rows of tiles
	for _, c := range []struct {
		x      int
		y      int
		width  int
		height int
		want   []int
	}{
		{0, 0, 1, 1, []int{0}},
		{3, 3, 1, 1, []int{0}},
		{4, 3, 1, 1, []int{1}},
		{3, 4, 1, 1, []int{3}},
		{3, 0, 2, 1, []int{0, 1}},
		{0, 3, 1, 2, []int{0, 3}},
		{3, 3, 2, 2, []int{0, 1, 3, 4}},
		{4, 4, 4, 4, []int{4}},
		{4, 4, 5, 4, []int{4, 5}},
		{4, 4, 4, 5, []int{4, 7}},
		{3, 4, 5, 4, []int{3, 4}},
		{4, 3, 4, 5, []int{1, 4}},
		{9, 8, 1, 1, []int{8}},
		{9, 8, 16, 16, []int{8}},
		{9, 0, 16, 16, []int{2, 5, 8}},
		{10, 0, 1, 16, nil},
		{0, 9, 16, 1, nil},
		{-1, 0, 1, 1, nil},
		{0, -1, 1, 1, nil},
		{-1, 0, 2, 1, []int{0}},
		{0, -1, 1, 2, []int{0}},
		{-4, -4, 5, 5, []int{0}},
		{-4, 0, 8, 1, []int{0}},
		{-4, 0, 9, 1, []int{0, 1}},
		{-16, -16, 16, 16, nil},
		{-16, 0, 16, 16, nil},
		{0, -16, 16, 16, nil},
		{16, 16, 16, 16, nil},
		{16, 0, 1, 1, nil},
		{-15, -15, 16, 16, []int{0}},
		{-15, 8, 16, 1, []int{6}},
		{0, 0, 16, 16, []int{0, 1, 2, 3, 4, 5, 6, 7, 8}},
		{-3, -3, 16, 16, []int{0, 1, 2, 3, 4, 5, 6, 7, 8}},
	} {
		l := impl.Layer{Image: sheetOf(1, c.width, c.height, 2), X: c.x, Y: c.y, Alpha: 255}
		clear := l
		clear.Alpha = 0
		// What the layer looks like does not matter, only where it has pixels.
		for _, one := range []impl.Layer{l, hiddenOf(l), clear} {
			if got := impl.DirtyTiles(m, one); !slices.Equal(got, c.want) {
				t.Errorf("DirtyTiles of %d by %d at %d %d = %v, not %v", c.width, c.height, c.x, c.y, got, c.want)
			}
		}
	}
}

func TestP89DirtyTilesFails(t *testing.T) {
	for planes := 1; planes <= 4; planes++ {
		for _, bad := range badLayers(planes) {
			for _, l := range []impl.Layer{bad, hiddenOf(bad)} {
				if got := impl.DirtyTiles(picture(7, 5, planes), l); len(got) > 0 {
					t.Errorf("DirtyTiles with a bad layer: %v = %v", l, got)
				}
			}
		}
	}
	for i, bad := range badPictures() {
		for _, image := range []impl.Image{picture(1, 1, 1), picture(16, 16, min(max(bad.Planes, 1), 4)), bad} {
			if got := impl.DirtyTiles(bad, impl.Layer{Image: image, Alpha: 255}); len(got) > 0 {
				t.Errorf("DirtyTiles of bad picture %d = %v", i, got)
			}
		}
	}
}

// redrawn returns RedrawTiles, which must not fail.
func redrawn(t *testing.T, shown impl.Image, ground impl.Image, list []impl.Layer, tiles []int) impl.Image {
	t.Helper()
	out, ok := impl.RedrawTiles(shown, ground, list, tiles)
	if !ok || !hasShape(out, ground.Width, ground.Height, ground.Planes) || !impl.ValidImage(out) {
		t.Fatalf("RedrawTiles of %d by %d with the tiles %v fails", ground.Width, ground.Height, tiles)
	}
	return out
}

// Promise 90: RedrawTiles of all tiles is FlattenLayers, and of no tiles it is the picture.
func TestP90RedrawnTilesAreThoseOfTheWholePicture(t *testing.T) {
	for _, ground := range grounds() {
		shown := impl.InvertImage(ground)
		for _, list := range stacks(ground) {
			flat := flattened(ground, list)
			if !equal(redrawn(t, shown, ground, list, allTiles(ground)), flattenedImage(t, ground, list)) {
				t.Fatalf("RedrawTiles of all tiles of %d by %d", ground.Width, ground.Height)
			}
			for _, none := range [][]int{nil, {}} {
				if !equal(redrawn(t, shown, ground, list, none), shown) {
					t.Fatalf("RedrawTiles of no tiles of %d by %d", ground.Width, ground.Height)
				}
			}
			for _, tiles := range tileLists(ground) {
				out := redrawn(t, shown, ground, list, tiles)
				eachPlace(ground, func(x int, y int) {
					want := rawPixel(shown, x, y)
					if slices.Contains(tiles, tileAt(ground, x, y)) {
						want = rawPixel(flat, x, y)
					}
					if !slices.Equal(rawPixel(out, x, y), want) {
						t.Fatalf("RedrawTiles of %v of %d by %d: pixel %d %d", tiles, ground.Width, ground.Height, x, y)
					}
				})
			}
		}
	}
}

func TestP90KnownTiles(t *testing.T) {
	ground := impl.FillImage(5, 5, []int{1})
	shown := impl.FillImage(5, 5, []int{2})
	l := impl.Layer{Image: impl.FillImage(2, 2, []int{7}), X: 3, Y: 3, Alpha: 255}
	for _, c := range []struct {
		tiles []int
		want  []int
	}{
		{nil, slices.Repeat([]int{2}, 25)},
		{[]int{0}, []int{1, 1, 1, 1, 2, 1, 1, 1, 1, 2, 1, 1, 1, 1, 2, 1, 1, 1, 7, 2, 2, 2, 2, 2, 2}},
		{[]int{1}, []int{2, 2, 2, 2, 1, 2, 2, 2, 2, 1, 2, 2, 2, 2, 1, 2, 2, 2, 2, 7, 2, 2, 2, 2, 2}},
		{[]int{2}, append(slices.Repeat([]int{2}, 20), 1, 1, 1, 7, 2)},
		{[]int{3}, append(slices.Repeat([]int{2}, 24), 7)},
		{[]int{1, 2}, []int{2, 2, 2, 2, 1, 2, 2, 2, 2, 1, 2, 2, 2, 2, 1, 2, 2, 2, 2, 7, 1, 1, 1, 7, 2}},
		{[]int{0, 1, 2, 3}, []int{1, 1, 1, 1, 1, 1, 1, 1, 1, 1, 1, 1, 1, 1, 1, 1, 1, 1, 7, 7, 1, 1, 1, 7, 7}},
	} {
		if got := redrawn(t, shown, ground, []impl.Layer{l}, c.tiles); !slices.Equal(got.Data, c.want) {
			t.Errorf("RedrawTiles of %v = %v, not %v", c.tiles, got.Data, c.want)
		}
	}
}

// notRedrawn checks that RedrawTiles fails.
func notRedrawn(t *testing.T, what string, shown impl.Image, ground impl.Image, list []impl.Layer, tiles []int) {
	t.Helper()
	if out, ok := impl.RedrawTiles(shown, ground, list, tiles); ok || !isZero(out) {
		t.Errorf("RedrawTiles with %s: %v", what, tiles)
	}
}

func TestP90TilesThatAreNotThere(t *testing.T) {
	for _, m := range grounds() {
		count := tileCount(m)
		list := stacks(m)[3]
		for _, tiles := range [][]int{
			{-1}, {count}, {-1, 0}, {0, 0}, {count - 1, count}, {count - 1, count - 1}, {1, 0}, {count - 1, 0}, {0, -1}, {0, count},
			{math.MaxInt}, {math.MinInt}, {0, math.MaxInt}, {math.MinInt, 0}, {0, math.MinInt}, {math.MaxInt, 0},
			append(allTiles(m), count), append(allTiles(m), count-1), append(allTiles(m), 0), append([]int{0}, allTiles(m)...), append([]int{-1}, allTiles(m)...),
			make([]int, 1000),
		} {
			notRedrawn(t, "bad tiles", m, m, list, tiles)
			notRedrawn(t, "bad tiles and no layers", m, m, nil, tiles)
		}
	}
	m := picture(9, 8, 1)
	for _, tiles := range [][]int{{0, 2, 1}, {0, 1, 1, 2}, {3, 2, 1, 0}, {2, 4, 3, 5}, {5, 6}, {0, 5, 5}} {
		notRedrawn(t, "tiles that do not ascend", m, m, nil, tiles)
	}
}

func TestP90RedrawTilesFails(t *testing.T) {
	ground := picture(4, 2, 2)
	for _, tiles := range [][]int{nil, {0}} {
		for _, shape := range [][3]int{{5, 2, 2}, {3, 2, 2}, {4, 1, 2}, {4, 3, 2}, {4, 2, 1}, {4, 2, 3}, {2, 4, 2}, {2, 2, 4}, {4, 4, 1}, {8, 2, 1}, {8, 1, 2}, {1, 1, 1}} {
			other := picture(shape[0], shape[1], shape[2])
			notRedrawn(t, "another picture", other, ground, nil, tiles)
			notRedrawn(t, "another ground", ground, other, nil, tiles)
		}
		for planes := 1; planes <= 4; planes++ {
			m := picture(4, 2, planes)
			for _, bad := range badLayers(planes) {
				for _, l := range []impl.Layer{bad, hiddenOf(bad)} {
					notRedrawn(t, "a bad layer", m, m, []impl.Layer{l}, tiles)
					notRedrawn(t, "a bad layer on another one", m, m, []impl.Layer{{Image: m, Alpha: 9}, l}, tiles)
				}
			}
			fine := impl.Layer{Image: m, Alpha: 9}
			redrawn(t, m, m, slices.Repeat([]impl.Layer{fine}, 6), tiles)
			notRedrawn(t, "too many layers", m, m, slices.Repeat([]impl.Layer{fine}, 7), tiles)
			notRedrawn(t, "too many hidden layers", m, m, slices.Repeat([]impl.Layer{hiddenOf(fine)}, 7), tiles)
		}
		for _, bad := range badPictures() {
			same := bad
			same.Data = make([]int, min(max(bad.Width*bad.Height*bad.Planes, 0), 4000))
			notRedrawn(t, "two bad pictures", bad, bad, nil, tiles)
			notRedrawn(t, "a bad picture", bad, same, nil, tiles)
			notRedrawn(t, "a bad ground", same, bad, nil, tiles)
			notRedrawn(t, "a bad picture of another shape", bad, ground, nil, tiles)
		}
	}
}

// Promise 91: if a picture is FlattenLayers without the last layer, RedrawTiles of its DirtyTiles is FlattenLayers of all.
func TestP91OnlyDirtyTilesNeedToBeRedrawn(t *testing.T) {
	for _, ground := range grounds() {
		for _, list := range stacks(ground) {
			if len(list) == 0 {
				continue
			}
			last := list[len(list)-1]
			shown := flattenedImage(t, ground, list[:len(list)-1])
			got := redrawn(t, shown, ground, list, impl.DirtyTiles(ground, last))
			if !equal(got, flattenedImage(t, ground, list)) {
				t.Fatalf("RedrawTiles of %v of %d by %d", impl.DirtyTiles(ground, last), ground.Width, ground.Height)
			}
		}
		eachLayer(ground, func(l impl.Layer) {
			got := redrawn(t, ground, ground, []impl.Layer{l}, impl.DirtyTiles(ground, l))
			if !equal(got, covered(ground, l)) {
				t.Fatalf("RedrawTiles with one layer at %d %d of %d by %d", l.X, l.Y, ground.Width, ground.Height)
			}
		})
	}
}

func TestTilesKeepTheirArguments(t *testing.T) {
	ground, shown := picture(13, 10, 2), sheetOf(5, 13, 10, 2)
	ground.Data, shown.Data = roomy(ground.Data), roomy(shown.Data)
	stack := []impl.Layer{{Image: sheetOf(1, 9, 9, 2), X: 3, Y: 2, Alpha: 255}, {Image: ground, Mode: impl.BlendScreen, Alpha: 90}, {Image: shown, Alpha: 80, Hidden: true}}
	list, memory := roomyLayers(stack)
	l := list[0]
	keeps(t, "DirtyTiles", func() [][]int { return [][]int{impl.DirtyTiles(ground, l)} }, ground.Data, l.Image.Data)
	for _, some := range [][]int{{}, {0}, {1, 4, 5}, allTiles(ground)} {
		tiles := roomy(some)
		for _, first := range []impl.Image{shown, ground} {
			keeps(t, "RedrawTiles", func() [][]int {
				out, _ := impl.RedrawTiles(first, ground, list, tiles)
				return [][]int{out.Data}
			}, append(memory, shown.Data, ground.Data, tiles)...)
		}
	}
	if !sameLayers(list, stack) {
		t.Errorf("RedrawTiles changed its layers")
	}
	boxes, again := impl.TileBoxes(ground), impl.TileBoxes(ground)
	for i := range boxes[:cap(boxes)] {
		boxes[:cap(boxes)][i] = impl.Box{X: spoiled}
	}
	if !slices.Equal(again, impl.TileBoxes(ground)) {
		t.Error("TileBoxes keeps memory of an earlier call")
	}
}
