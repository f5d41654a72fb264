package tests

import (
	"math"
	"slices"
	"testing"

	"loop.example/pixelworks/impl"
)

// onImage returns the pixels that are on an image.
func onImage(m impl.Image, p pixels) pixels {
	return pixelsWhere(func(x int, y int) bool { return isOn(m, x, y) && p[y][x] })
}

// changedAt returns an image that differs from another one exactly at some pixels, at each in one plane or in all of them.
func changedAt(m impl.Image, p pixels) impl.Image {
	out := copied(m)
	turn := 0
	eachPlace(m, func(x int, y int) {
		if !p[y][x] {
			return
		}
		pixel := rawPixel(out, x, y)
		for i := range pixel {
			if turn%5 == 4 || turn%m.Planes == i {
				pixel[i] = (pixel[i] + []int{1, 255, 128, 77}[turn%4]) % 256
			}
		}
		turn++
	})
	return out
}

// differing returns the pixels at which two images of the same shape differ.
func differing(a impl.Image, b impl.Image) pixels {
	return pixelsWhere(func(x int, y int) bool {
		return isOn(a, x, y) && !slices.Equal(rawPixel(a, x, y), rawPixel(b, x, y))
	})
}

// eachChange calls a function for pairs of images that differ in regions of many shapes.
func eachChange(visit func(a impl.Image, b impl.Image)) {
	for _, m := range pictures() {
		for _, list := range regions() {
			visit(m, changedAt(m, onImage(m, pixelsOf(list))))
		}
		visit(m, sheetOf(3, m.Width, m.Height, m.Planes))
		visit(m, impl.InvertImage(m))
	}
}

// eachOtherShape calls a function for pairs of images that cannot be compared.
func eachOtherShape(visit func(what string, a impl.Image, b impl.Image)) {
	m := picture(4, 2, 2)
	for _, s := range [][3]int{{5, 2, 2}, {3, 2, 2}, {4, 1, 2}, {4, 3, 2}, {4, 2, 1}, {4, 2, 3}, {2, 4, 2}, {2, 2, 4}, {4, 4, 1}, {8, 2, 1}, {8, 1, 2}, {1, 4, 4}, {1, 1, 1}, {16, 16, 4}} {
		visit("another shape before it", picture(s[0], s[1], s[2]), m)
		visit("another shape behind it", m, picture(s[0], s[1], s[2]))
	}
	for _, bad := range badPictures() {
		fine := bad
		fine.Data = make([]int, min(max(bad.Width*bad.Height*bad.Planes, 0), 4000))
		visit("two bad images", bad, bad)
		visit("a bad image behind it", fine, bad)
		visit("a bad image before it", bad, fine)
		visit("a bad image behind one of another shape", m, bad)
		visit("a bad image before one of another shape", bad, m)
	}
}

// diagonal returns the pixels from the upper left corner to the lower right one.
func diagonal() pixels {
	return pixelsWhere(func(x int, y int) bool { return x == y })
}

// Promise 98: RegionHas of ChangedRegion is true exactly for pixels that differ, and it is the same in both orders.
func TestP98ChangesAreWherePixelsDiffer(t *testing.T) {
	eachChange(func(a impl.Image, b impl.Image) {
		got := impl.ChangedRegion(a, b)
		isRegion(t, "ChangedRegion", got, differing(a, b))
		eachCellAround(func(x int, y int) {
			differs := isOn(a, x, y) && !slices.Equal(impl.PixelAt(a, x, y), impl.PixelAt(b, x, y))
			if impl.RegionHas(got, x, y) != differs {
				t.Fatalf("ChangedRegion of %d by %d by %d at %d %d: %v", a.Width, a.Height, a.Planes, x, y, got)
			}
		})
		if back := impl.ChangedRegion(b, a); !slices.Equal(back, got) {
			t.Fatalf("ChangedRegion in the other order = %v, not %v", back, got)
		}
		noRuns(t, "ChangedRegion of equal images", impl.ChangedRegion(a, copied(a)))
	})
}

func TestP98KnownChanges(t *testing.T) {
	a := impl.Image{Width: 3, Height: 3, Planes: 2, Data: make([]int, 18)}
	for _, c := range []struct {
		places []int // in Data
		want   []impl.Run
	}{
		{nil, nil},
		{[]int{0}, shape("#")},
		{[]int{1}, shape("#")},
		{[]int{0, 1}, shape("#")},
		{[]int{1, 2}, shape("##")},
		{[]int{0, 5}, shape("#.#")},
		{[]int{5, 6}, shape("..#", "#")},
		{[]int{17}, shape("", "", "..#")},
		{[]int{0, 8, 17}, shape("#", ".#", "..#")},
		{[]int{1, 3, 5, 6, 11, 12, 14, 16}, shape("###", "#.#", "###")},
	} {
		for _, n := range []int{1, 255} {
			b := a
			for _, at := range c.places {
				b = with(b, at, n)
			}
			if got := impl.ChangedRegion(a, b); !slices.Equal(got, c.want) {
				t.Errorf("ChangedRegion with changes at %v = %v, not %v", c.places, got, c.want)
			}
		}
	}
}

func TestP98SinglePixels(t *testing.T) {
	for _, m := range []impl.Image{picture(16, 16, 4), picture(5, 3, 3), picture(1, 1, 1), picture(7, 16, 2)} {
		for i, n := range m.Data {
			for _, other := range []int{(n + 1) % 256, (n + 255) % 256} {
				b := with(m, i, other)
				x, y := i/m.Planes%m.Width, i/m.Planes/m.Width
				want := []impl.Run{{Y: y, From: x, To: x + 1}}
				if got := impl.ChangedRegion(m, b); !slices.Equal(got, want) {
					t.Fatalf("ChangedRegion with one change = %v, not %v", got, want)
				}
				box := []impl.Box{{X: x, Y: y, Width: 1, Height: 1}}
				if got := impl.ChangedBoxes(m, b); !slices.Equal(got, box) {
					t.Fatalf("ChangedBoxes with one change = %v, not %v", got, box)
				}
			}
		}
	}
}

func TestP98ChangedRegionFails(t *testing.T) {
	eachOtherShape(func(what string, a impl.Image, b impl.Image) {
		noRuns(t, "ChangedRegion with "+what, impl.ChangedRegion(a, b))
	})
}

// boundsOf returns the smallest box of pixels, of which there is at least one.
func boundsOf(p pixels) impl.Box {
	left, top, right, bottom := 16, 16, -1, -1
	eachCell(func(x int, y int) {
		if p[y][x] {
			left, top, right, bottom = min(left, x), min(top, y), max(right, x), max(bottom, y)
		}
	})
	return impl.Box{X: left, Y: top, Width: right - left + 1, Height: bottom - top + 1}
}

// Promise 99: all pixels of ChangedRegion are in one of ChangedBoxes, and each box has a change.
func TestP99BoxesHaveAllChanges(t *testing.T) {
	eachChange(func(a impl.Image, b impl.Image) {
		boxes := impl.ChangedBoxes(a, b)
		var want []impl.Box
		for _, part := range partsOf(differing(a, b)) {
			want = append(want, boundsOf(part))
		}
		if !slices.Equal(boxes, want) {
			t.Fatalf("ChangedBoxes of %d by %d = %v, not %v", a.Width, a.Height, boxes, want)
		}
		region := impl.ChangedRegion(a, b)
		eachPlace(a, func(x int, y int) {
			isThere := slices.ContainsFunc(boxes, func(box impl.Box) bool { return inBox(box, x, y) })
			if impl.RegionHas(region, x, y) && !isThere {
				t.Fatalf("the change at %d %d is in none of %v", x, y, boxes)
			}
		})
		for _, box := range boxes {
			runs, ok := impl.BoxRegion(box)
			if !ok || impl.AreaOf(combined(t, runs, region, impl.RegionCommon)) < 1 {
				t.Fatalf("the box %v has no change", box)
			}
		}
		if got := impl.ChangedBoxes(a, copied(a)); len(got) > 0 {
			t.Fatalf("ChangedBoxes of equal images = %v", got)
		}
	})
}

func TestP99KnownBoxes(t *testing.T) {
	for _, c := range []struct {
		what   string
		region []impl.Run
		want   []impl.Box
	}{
		{"no change", nil, nil},
		{"one pixel", shape("", "", "...#"), []impl.Box{{X: 3, Y: 2, Width: 1, Height: 1}}},
		{"a row", shape("", ".####"), []impl.Box{{X: 1, Y: 1, Width: 4, Height: 1}}},
		{"a column", shape("..#", "..#", "..#"), []impl.Box{{X: 2, Y: 0, Width: 1, Height: 3}}},
		{"touching at a corner", shape("#.", ".#"), []impl.Box{{X: 0, Y: 0, Width: 1, Height: 1}, {X: 1, Y: 1, Width: 1, Height: 1}}},
		{"touching at the other corner", shape(".#", "#."), []impl.Box{{X: 1, Y: 0, Width: 1, Height: 1}, {X: 0, Y: 1, Width: 1, Height: 1}}},
		{"two parts in a row", shape("##.##"), []impl.Box{{X: 0, Y: 0, Width: 2, Height: 1}, {X: 3, Y: 0, Width: 2, Height: 1}}},
		{"by the first pixel, not the left side", shape("..#", "...", "#.."), []impl.Box{{X: 2, Y: 0, Width: 1, Height: 1}, {X: 0, Y: 2, Width: 1, Height: 1}}},
		{"by the first pixel, not the last one", shape("#.#", "#..", "#.#"),
			[]impl.Box{{X: 0, Y: 0, Width: 1, Height: 3}, {X: 2, Y: 0, Width: 1, Height: 1}, {X: 2, Y: 2, Width: 1, Height: 1}}},
		{"a part in the box of another one", shape("#####", "#...#", "#.#.#", "#...#", "#####"),
			[]impl.Box{{X: 0, Y: 0, Width: 5, Height: 5}, {X: 2, Y: 2, Width: 1, Height: 1}}},
		{"an inner part that comes first", shape("..#.#", "....#", "#####"),
			[]impl.Box{{X: 2, Y: 0, Width: 1, Height: 1}, {X: 0, Y: 0, Width: 5, Height: 3}}},
		{"boxes that overlap", shape("###.", "..#.", "#.##", "##..", ".###"),
			[]impl.Box{{X: 0, Y: 0, Width: 4, Height: 3}, {X: 0, Y: 2, Width: 4, Height: 3}}},
	} {
		for planes := 1; planes <= 4; planes++ {
			m := picture(6, 5, planes)
			if got := impl.ChangedBoxes(m, changedAt(m, pixelsOf(c.region))); !slices.Equal(got, c.want) {
				t.Errorf("ChangedBoxes of %s = %v, not %v", c.what, got, c.want)
			}
		}
	}
}

func TestP99ChangedBoxesFails(t *testing.T) {
	eachOtherShape(func(what string, a impl.Image, b impl.Image) {
		if got := impl.ChangedBoxes(a, b); len(got) > 0 {
			t.Errorf("ChangedBoxes with %s = %v", what, got)
		}
	})
}

// patched returns PatchImage, which must not fail, and checks each of its pixels.
func patched(t *testing.T, a impl.Image, b impl.Image, boxes []impl.Box) impl.Image {
	t.Helper()
	out, ok := impl.PatchImage(a, b, boxes)
	want := imageWhere(a.Width, a.Height, a.Planes, func(x int, y int) []int {
		if slices.ContainsFunc(boxes, func(box impl.Box) bool { return inBox(box, x, y) }) {
			return rawPixel(b, x, y)
		}
		return rawPixel(a, x, y)
	})
	if !ok || !equal(out, want) || !impl.ValidImage(out) {
		t.Fatalf("PatchImage of %d by %d with %v = %v, %v", a.Width, a.Height, boxes, out, ok)
	}
	return out
}

// Promise 100: PatchImage of ChangedBoxes is the other image.
func TestP100PatchesCarryAllChanges(t *testing.T) {
	eachChange(func(a impl.Image, b impl.Image) {
		if got := patched(t, a, b, impl.ChangedBoxes(a, b)); !equal(got, b) {
			t.Fatalf("PatchImage of %d by %d with ChangedBoxes is not the other image", a.Width, a.Height)
		}
		if got := patched(t, b, a, impl.ChangedBoxes(a, b)); !equal(got, a) {
			t.Fatalf("PatchImage of %d by %d back is not the image", a.Width, a.Height)
		}
	})
}

func TestP100TheMostBoxes(t *testing.T) {
	for planes := 1; planes <= 4; planes++ {
		m := picture(16, 16, planes)
		for odd := range 2 { // no image has more parts than those of a checkerboard
			b := changedAt(m, pixelsWhere(func(x int, y int) bool { return (x+y)%2 == odd }))
			boxes := impl.ChangedBoxes(m, b)
			if len(boxes) != 128 || impl.MaxBoxes != 128 {
				t.Fatalf("a checkerboard has %d boxes", len(boxes))
			}
			if got := patched(t, m, b, boxes); !equal(got, b) {
				t.Errorf("PatchImage of a checkerboard")
			}
		}
	}
}

// patchBoxes returns lists of boxes of an image.
func patchBoxes(m impl.Image) [][]impl.Box {
	all := boxesOf(m)
	whole := impl.Box{Width: m.Width, Height: m.Height}
	out := [][]impl.Box{nil, {}, {whole}, {whole, whole}, {all[0]}, {all[len(all)-1]}, {all[0], whole, all[0]}, all[:min(len(all), 128)]}
	for seed := range 30 {
		var list []impl.Box
		for _, n := range numbers(seed, seed%7+1, len(all)-1) {
			list = append(list, all[n])
		}
		out = append(out, list)
	}
	return out
}

// Promise 101: PatchImage of what PatchImage returns with the same boxes is the same.
func TestP101PatchesCanBeRepeated(t *testing.T) {
	for _, m := range pictures() {
		other := impl.InvertImage(m)
		for _, boxes := range patchBoxes(m) {
			once := patched(t, m, other, boxes)
			if twice := patched(t, once, other, boxes); !equal(twice, once) {
				t.Fatalf("PatchImage twice of %d by %d with %v", m.Width, m.Height, boxes)
			}
			if len(boxes) == 0 && !equal(once, m) {
				t.Fatalf("PatchImage of %d by %d without boxes is not the image", m.Width, m.Height)
			}
			if !equal(patched(t, m, m, boxes), m) {
				t.Fatalf("PatchImage of %d by %d with itself", m.Width, m.Height)
			}
		}
	}
}

func TestP101KnownPatches(t *testing.T) {
	a, b := onePlane(3, 1, 2, 3, 4, 5, 6), onePlane(3, 11, 12, 13, 14, 15, 16)
	for _, c := range []struct {
		boxes []impl.Box
		want  []int
	}{
		{nil, []int{1, 2, 3, 4, 5, 6}},
		{[]impl.Box{{X: 0, Y: 0, Width: 1, Height: 1}}, []int{11, 2, 3, 4, 5, 6}},
		{[]impl.Box{{X: 2, Y: 1, Width: 1, Height: 1}}, []int{1, 2, 3, 4, 5, 16}},
		{[]impl.Box{{X: 1, Y: 0, Width: 2, Height: 2}}, []int{1, 12, 13, 4, 15, 16}},
		{[]impl.Box{{X: 0, Y: 1, Width: 3, Height: 1}}, []int{1, 2, 3, 14, 15, 16}},
		{[]impl.Box{{X: 0, Y: 0, Width: 2, Height: 1}, {X: 1, Y: 0, Width: 1, Height: 2}}, []int{11, 12, 3, 4, 15, 6}},
		{[]impl.Box{{X: 2, Y: 0, Width: 1, Height: 1}, {X: 0, Y: 0, Width: 1, Height: 2}}, []int{11, 2, 13, 14, 5, 6}},
		{[]impl.Box{{X: 0, Y: 0, Width: 3, Height: 2}, {X: 1, Y: 1, Width: 1, Height: 1}}, []int{11, 12, 13, 14, 15, 16}},
	} {
		if got := patched(t, a, b, c.boxes); !equal(got, onePlane(3, c.want...)) {
			t.Errorf("PatchImage with %v = %v, not %v", c.boxes, got.Data, c.want)
		}
	}
}

// notPatched checks that PatchImage fails.
func notPatched(t *testing.T, what string, a impl.Image, b impl.Image, boxes []impl.Box) {
	t.Helper()
	if out, ok := impl.PatchImage(a, b, boxes); ok || !isZero(out) {
		t.Errorf("PatchImage with %s = %v, %v", what, out, ok)
	}
}

func TestP101BadBoxesFail(t *testing.T) {
	for _, m := range pictures() {
		other := impl.InvertImage(m)
		fine := impl.Box{Width: m.Width, Height: m.Height}
		for _, bad := range badBoxes(m) {
			notPatched(t, "a bad box", m, other, []impl.Box{bad})
			notPatched(t, "a bad box before others", m, other, []impl.Box{bad, fine, fine})
			notPatched(t, "a bad box between others", m, other, []impl.Box{fine, bad, fine})
			notPatched(t, "a bad box behind others", m, other, []impl.Box{fine, fine, bad})
			notPatched(t, "a bad box and equal images", m, m, []impl.Box{bad})
			notPatched(t, "the last one of 128 boxes", m, other, append(slices.Repeat([]impl.Box{fine}, 127), bad))
		}
		for _, box := range []impl.Box{fine, {Width: 1, Height: 1}} {
			patched(t, m, other, slices.Repeat([]impl.Box{box}, 127))
			patched(t, m, other, slices.Repeat([]impl.Box{box}, 128))
			notPatched(t, "129 boxes", m, other, slices.Repeat([]impl.Box{box}, 129))
			notPatched(t, "many boxes", m, other, slices.Repeat([]impl.Box{box}, 1000))
			notPatched(t, "129 boxes and equal images", m, m, slices.Repeat([]impl.Box{box}, 129))
		}
	}
}

func TestP101OtherImagesFail(t *testing.T) {
	eachOtherShape(func(what string, a impl.Image, b impl.Image) {
		for _, boxes := range [][]impl.Box{nil, {}, {{Width: 1, Height: 1}}, make([]impl.Box, 129)} {
			notPatched(t, what, a, b, boxes)
		}
	})
}

// Promise 102: GapOf is 0 exactly for equal images, the same in both orders, and that of both inverted images.
func TestP102EqualImagesHaveNoGap(t *testing.T) {
	eachChange(func(a impl.Image, b impl.Image) {
		got := impl.GapOf(a, b)
		if want := squares(a.Data, b.Data); got != want || (got == 0) != equal(a, b) {
			t.Fatalf("GapOf of %d by %d by %d = %d, not %d", a.Width, a.Height, a.Planes, got, want)
		}
		if impl.GapOf(b, a) != got || impl.GapOf(impl.InvertImage(a), impl.InvertImage(b)) != got {
			t.Fatalf("GapOf of %d by %d in the other order, or inverted, is not %d", a.Width, a.Height, got)
		}
		if impl.GapOf(a, copied(a)) != 0 {
			t.Fatalf("GapOf of equal images of %d by %d", a.Width, a.Height)
		}
	})
}

func TestP102KnownGaps(t *testing.T) {
	for _, c := range []struct {
		a    impl.Image
		b    impl.Image
		want int
	}{
		{onePlane(1, 7), onePlane(1, 7), 0},
		{onePlane(1, 7), onePlane(1, 8), 1},
		{onePlane(1, 7), onePlane(1, 4), 9},
		{onePlane(1, 0), onePlane(1, 255), 65025},
		{onePlane(3, 1, 2, 3), onePlane(3, 3, 2, 1), 8},
		{onePlane(1, 1, 2, 3), onePlane(1, 0, 4, 6), 14},
		{impl.FillImage(1, 1, []int{1, 2, 3, 4}), impl.FillImage(1, 1, []int{5, 4, 3, 2}), 24},
		{impl.FillImage(1, 1, []int{9, 9, 9, 9}), impl.FillImage(1, 1, []int{9, 9, 9, 10}), 1},
		{impl.FillImage(2, 3, []int{10, 0}), impl.FillImage(2, 3, []int{0, 1}), 606},
		{flat(16, 16, 4, 1024), impl.FillImage(16, 16, []int{255, 255, 255, 255}), 66585600},
		{flat(16, 16, 1, 256), impl.FillImage(16, 16, []int{255}), 16646400},
	} {
		if impl.GapOf(c.a, c.b) != c.want || impl.GapOf(c.b, c.a) != c.want {
			t.Errorf("GapOf of %v and %v = %d, not %d", c.a, c.b, impl.GapOf(c.a, c.b), c.want)
		}
	}
}

func TestP102GapOfFails(t *testing.T) {
	eachOtherShape(func(what string, a impl.Image, b impl.Image) {
		if got := impl.GapOf(a, b); got != -1 {
			t.Errorf("GapOf with %s = %d", what, got)
		}
	})
	m := picture(3, 2, 1)
	for _, n := range []int{-1, 256, math.MaxInt, math.MinInt} {
		if got := impl.GapOf(with(m, 4, n), with(m, 4, n)); got != -1 {
			t.Errorf("GapOf with the wrong number %d = %d", n, got)
		}
	}
}

func TestDifferencesKeepTheirArguments(t *testing.T) {
	a := picture(7, 6, 2)
	b := changedAt(a, onImage(a, diagonal()))
	a.Data, b.Data = roomy(a.Data), roomy(b.Data)
	oldA, oldB := slices.Clone(a.Data), slices.Clone(b.Data)
	keepsRuns(t, "ChangedRegion", func() [][]impl.Run { return [][]impl.Run{impl.ChangedRegion(a, b)} })
	boxes, again := impl.ChangedBoxes(a, b), impl.ChangedBoxes(a, b)
	for i := range boxes[:cap(boxes)] {
		boxes[:cap(boxes)][i] = impl.Box{X: spoiled}
	}
	if len(again) != 6 || !slices.Equal(again, impl.ChangedBoxes(a, b)) {
		t.Errorf("ChangedBoxes keeps memory of an earlier call: %v", again)
	}
	gap := impl.GapOf(a, b)
	if gap != impl.GapOf(a, b) || !slices.Equal(a.Data, oldA) || !slices.Equal(b.Data, oldB) {
		t.Errorf("GapOf, ChangedRegion or ChangedBoxes changed an argument")
	}
	for _, list := range [][]impl.Box{nil, {}, again, {{Width: 7, Height: 6}}} {
		old := slices.Clone(list)
		for _, other := range []impl.Image{b, a} {
			keeps(t, "PatchImage", func() [][]int {
				out, _ := impl.PatchImage(a, other, list)
				return [][]int{out.Data}
			}, a.Data, b.Data)
		}
		if !slices.Equal(list, old) {
			t.Errorf("PatchImage changed its boxes: %v", list)
		}
	}
}
