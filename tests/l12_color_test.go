package tests

import (
	"math"
	"slices"
	"testing"

	"loop.example/pixelworks/impl"
)

// lumaOf returns the luma and the differences of a pixel.
func lumaOf(red int, green int, blue int) [3]int {
	o := red - blue
	between := blue + floorOf(o, 2)
	g := green - between
	return [3]int{between + floorOf(g, 2), o, g}
}

// shades returns numbers in 0..255, even and odd ones, and all near the ends.
func shades() []int {
	out := []int{0, 1, 2, 3, 4, 126, 127, 128, 129, 251, 252, 253, 254, 255}
	for n := 7; n < 250; n += 9 {
		out = append(out, n)
	}
	return out
}

// eachColor calls a function for many pixels with red, green and blue.
func eachColor(visit func(red int, green int, blue int)) {
	for _, red := range shades() {
		for _, green := range shades() {
			for _, blue := range shades() {
				visit(red, green, blue)
			}
		}
	}
}

// Promise 57: FromLuma of ToLuma is the pixel.
func TestP57ColorsCanBeTransformedBack(t *testing.T) {
	eachColor(func(red int, green int, blue int) {
		pixel, want := []int{red, green, blue}, lumaOf(red, green, blue)
		got := impl.ToLuma(pixel)
		if !slices.Equal(got, want[:]) {
			t.Fatalf("ToLuma(%v) = %v, not %v", pixel, got, want)
		}
		if back, ok := impl.FromLuma(got); !ok || !slices.Equal(back, pixel) {
			t.Fatalf("FromLuma(%v) = %v, not %v", got, back, pixel)
		}
	})
}

func TestP57LumaOfKnownPixels(t *testing.T) {
	for _, c := range []struct {
		pixel []int
		want  []int
	}{
		{[]int{0, 0, 0}, []int{0, 0, 0}},
		{[]int{255, 255, 255}, []int{255, 0, 0}},
		{[]int{200, 100, 50}, []int{112, 150, -25}},
		{[]int{50, 100, 200}, []int{112, -150, -25}},
		{[]int{0, 0, 1}, []int{0, -1, 0}}, // the half of -1 is -1
		{[]int{1, 0, 0}, []int{0, 1, 0}},
		{[]int{0, 1, 0}, []int{0, 0, 1}},
		{[]int{1, 0, 1}, []int{0, 0, -1}},
		{[]int{0, 0, 3}, []int{0, -3, -1}},
		{[]int{0, 0, 255}, []int{63, -255, -127}},
		{[]int{255, 0, 0}, []int{63, 255, -127}},
		{[]int{0, 255, 0}, []int{127, 0, 255}},
		{[]int{255, 0, 255}, []int{127, 0, -255}},
	} {
		if got := impl.ToLuma(c.pixel); !slices.Equal(got, c.want) {
			t.Errorf("ToLuma(%v) = %v, not %v", c.pixel, got, c.want)
		}
		if got, ok := impl.FromLuma(c.want); !ok || !slices.Equal(got, c.pixel) {
			t.Errorf("FromLuma(%v) = %v, not %v", c.want, got, c.pixel)
		}
	}
}

func TestP57ToLumaFails(t *testing.T) {
	bad := append(badPixels(3), []int{1}, []int{1, 2}, []int{1, 2, 3, 4}, []int{256, 256, 256}, []int{-1, -1, -1})
	for _, pixel := range bad {
		if got := impl.ToLuma(pixel); len(got) > 0 {
			t.Errorf("ToLuma(%v) = %v", pixel, got)
		}
	}
}

// lumaSet has a bit for each list that is the luma of a pixel.
type lumaSet []uint64

// bitOf returns the place of a list, and whether its numbers are small enough for one.
func bitOf(list [3]int) (int, bool) {
	y, o, g := list[0], list[1]+255, list[2]+255
	if y < 0 || y > 255 || o < 0 || o > 510 || g < 0 || g > 510 {
		return 0, false
	}
	return (y*511+o)*511 + g, true
}

// allLumas returns the set of the lumas of all pixels.
func allLumas(t *testing.T) lumaSet {
	set := make(lumaSet, 256*511*511/64+1)
	for i := range 1 << 24 {
		red, green, blue := i>>16, i>>8&255, i&255
		// A shift rounds halves down as well, and there are many pixels.
		between := blue + (red-blue)>>1
		bit, ok := bitOf([3]int{between + (green-between)>>1, red - blue, green - between})
		if !ok {
			t.Fatalf("the luma of %d %d %d is out of bounds", red, green, blue)
		}
		set[bit/64] |= 1 << (bit % 64)
	}
	return set
}

// has reports whether a list is the luma of a pixel.
func (s lumaSet) has(list [3]int) bool {
	bit, ok := bitOf(list)
	return ok && s[bit/64]>>(bit%64)&1 == 1
}

// checkLuma checks FromLuma of a list, which may or may not be the luma of a pixel.
func checkLuma(t *testing.T, list [3]int, want bool) {
	t.Helper()
	pixel, ok := impl.FromLuma(list[:])
	if ok != want || !ok && len(pixel) > 0 {
		t.Fatalf("FromLuma(%v) = %v %v", list, pixel, ok)
	}
	if ok && !slices.Equal(impl.ToLuma(pixel), list[:]) {
		t.Fatalf("ToLuma of FromLuma(%v) is another list", list)
	}
}

// Promise 58: ToLuma of what FromLuma returns is the list.
func TestP58EveryPixelHasOneLuma(t *testing.T) {
	set := allLumas(t)
	for y := -2; y <= 257; y += 1 + (y+2)%4 {
		for o := -257; o <= 257; o += 1 + (o+257)%5 {
			for g := -257; g <= 257; g += 1 + (g+257)%6 {
				list := [3]int{y, o, g}
				checkLuma(t, list, set.has(list))
			}
		}
	}
	for _, y := range []int{-1, 0, 1, 63, 127, 128, 254, 255, 256} {
		for o := -256; o <= 256; o += 3 {
			for g := -256; g <= 256; g++ {
				list := [3]int{y, o, g}
				checkLuma(t, list, set.has(list))
			}
		}
	}
}

func TestP58FromLumaFails(t *testing.T) {
	for _, list := range [][]int{
		nil, {}, {1}, {1, 0}, {1, 0, 0, 0}, make([]int, 1000),
		{-1, 0, 0}, {256, 0, 0}, {0, 2, 0}, {0, 0, 2}, {0, -2, 0}, {255, 1, 0}, {255, 0, 1}, {255, 0, -1}, {0, 0, -2},
		{0, 256, 0}, {0, -256, 0}, {128, 0, 256}, {127, 0, -256}, {127, 255, 255}, {0, 1, 2},
	} {
		if got, ok := impl.FromLuma(list); ok || len(got) > 0 {
			t.Errorf("FromLuma(%v) = %v", list, got)
		}
	}
	far := []int{math.MinInt, math.MinInt + 1, -1 << 62, -1 << 32, -1, 0, 1, 255, 256, 1 << 32, 1 << 62, math.MaxInt - 1, math.MaxInt}
	for _, y := range far {
		for _, o := range far {
			for _, g := range far {
				if max(y, o, g) > 255 || min(y, o, g) < -255 {
					checkLuma(t, [3]int{y, o, g}, false)
				}
			}
		}
	}
}

// Promise 59: ToLuma of a pixel with three equal numbers is this number and two zeros.
func TestP59GrayHasNoDifferences(t *testing.T) {
	for n := range 256 {
		if got := impl.ToLuma([]int{n, n, n}); !slices.Equal(got, []int{n, 0, 0}) {
			t.Errorf("ToLuma of %d three times = %v", n, got)
		}
		if got, ok := impl.FromLuma([]int{n, 0, 0}); !ok || !slices.Equal(got, []int{n, n, n}) {
			t.Errorf("FromLuma of the gray %d = %v", n, got)
		}
	}
}

// grayOf returns the gray of a pixel.
func grayOf(pixel []int) int {
	return roundHalfUp(299*pixel[0]+587*pixel[1]+114*pixel[2], 1000)
}

// colorPictures returns valid images with three planes.
func colorPictures() []impl.Image {
	return []impl.Image{
		picture(1, 1, 3), picture(1, 7, 3), picture(7, 1, 3), picture(3, 2, 3), picture(16, 1, 3), picture(1, 16, 3), picture(5, 16, 3), picture(16, 16, 3),
		smooth(16, 16, 3), impl.FillImage(2, 2, []int{255, 255, 255}), impl.FillImage(2, 2, []int{0, 0, 0}),
	}
}

// Promise 60: every number of GrayImage is between the least and the greatest number of its pixel.
func TestP60GraysAreBetween(t *testing.T) {
	for _, m := range colorPictures() {
		out := impl.GrayImage(m)
		if !hasShape(out, m.Width, m.Height, 1) {
			t.Fatalf("GrayImage of %d by %d has a wrong shape", m.Width, m.Height)
		}
		eachPlace(m, func(x int, y int) {
			pixel, got := rawPixel(m, x, y), rawPixel(out, x, y)[0]
			if got != grayOf(pixel) || got < slices.Min(pixel) || got > slices.Max(pixel) {
				t.Fatalf("GrayImage of %v = %d, not %d", pixel, got, grayOf(pixel))
			}
		})
	}
	eachColor(func(red int, green int, blue int) {
		pixel := []int{red, green, blue}
		got := impl.GrayImage(impl.Image{Width: 1, Height: 1, Planes: 3, Data: pixel}).Data
		if !slices.Equal(got, []int{grayOf(pixel)}) || got[0] < slices.Min(pixel) || got[0] > slices.Max(pixel) {
			t.Fatalf("GrayImage of %v = %v, not %d", pixel, got, grayOf(pixel))
		}
	})
}

func TestP60GraysOfKnownPixels(t *testing.T) {
	for _, c := range []struct {
		pixel []int
		want  int
	}{
		{[]int{255, 0, 0}, 76}, {[]int{0, 255, 0}, 150}, {[]int{0, 0, 255}, 29}, {[]int{255, 255, 0}, 226}, {[]int{0, 255, 255}, 179},
		{[]int{200, 100, 50}, 124}, {[]int{1, 0, 0}, 0}, {[]int{0, 1, 0}, 1}, {[]int{1, 0, 1}, 0}, {[]int{1, 1, 0}, 1},
		{[]int{0, 2, 19}, 3}, // 3.34
		{[]int{10, 0, 5}, 4}, // 3.56
		{[]int{3, 1, 9}, 3},  // 2.51
		{[]int{1, 13, 5}, 9}, // 8.5
	} {
		if got := impl.GrayImage(impl.FillImage(1, 1, c.pixel)).Data; !slices.Equal(got, []int{c.want}) {
			t.Errorf("GrayImage of %v = %v, not %d", c.pixel, got, c.want)
		}
	}
}

func TestP60GrayImageFails(t *testing.T) {
	for i, m := range badPictures() {
		if !isZero(impl.GrayImage(m)) {
			t.Errorf("GrayImage of bad picture %d", i)
		}
	}
	for _, planes := range []int{1, 2, 4} {
		if !isZero(impl.GrayImage(picture(3, 2, planes))) || !isZero(impl.GrayImage(picture(3, 3, planes))) {
			t.Errorf("GrayImage of an image with %d planes", planes)
		}
	}
	if !isZero(impl.GrayImage(with(picture(3, 2, 3), 17, 256))) || !isZero(impl.GrayImage(with(picture(3, 2, 3), 0, -1))) {
		t.Error("GrayImage of an image with a number that is not valid")
	}
}

// Promise 146: GrayImage of MirrorImage is MirrorImage of GrayImage, and white stays 255.
func TestP146ColorsHaveNoDirection(t *testing.T) {
	for _, m := range colorPictures() {
		got := impl.GrayImage(impl.MirrorImage(m))
		if !hasShape(got, m.Width, m.Height, 1) || !equal(got, impl.MirrorImage(impl.GrayImage(m))) {
			t.Errorf("GrayImage of MirrorImage of %d by %d", m.Width, m.Height)
		}
		white := impl.GrayImage(impl.FillImage(m.Width, m.Height, []int{255, 255, 255}))
		if !equal(white, impl.FillImage(m.Width, m.Height, []int{255})) {
			t.Errorf("GrayImage of white = %v", white)
		}
	}
}

// Promise 61: MergePlanes of SplitPlanes is the image.
func TestP61PlanesMakeUpTheImage(t *testing.T) {
	for _, m := range scalePictures() {
		list := impl.SplitPlanes(m)
		if len(list) != m.Planes {
			t.Fatalf("SplitPlanes of %d planes has %d images", m.Planes, len(list))
		}
		for plane, one := range list {
			if !hasShape(one, m.Width, m.Height, 1) || !slices.Equal(one.Data, planeNumbers(m, plane)) {
				t.Fatalf("SplitPlanes: plane %d = %v", plane, one)
			}
		}
		if back, ok := impl.MergePlanes(list); !ok || !equal(back, m) {
			t.Fatalf("MergePlanes of SplitPlanes of %d by %d by %d", m.Width, m.Height, m.Planes)
		}
	}
	for i, m := range badPictures() {
		if list := impl.SplitPlanes(m); len(list) > 0 {
			t.Errorf("SplitPlanes of bad picture %d = %v", i, list)
		}
	}
}

// Promise 62: SplitPlanes of MergePlanes is the list.
func TestP62MergedPlanesCanBeSplit(t *testing.T) {
	for count := 1; count <= 4; count++ {
		for _, shape := range [][2]int{{1, 1}, {3, 2}, {1, 16}, {16, 1}, {16, 16}} {
			var list []impl.Image
			for i := range count {
				list = append(list, impl.Image{Width: shape[0], Height: shape[1], Planes: 1, Data: numbers(i+count, shape[0]*shape[1], 255)})
			}
			m, ok := impl.MergePlanes(list)
			if !ok || !hasShape(m, shape[0], shape[1], count) || !slices.EqualFunc(impl.SplitPlanes(m), list, equal) {
				t.Errorf("SplitPlanes of MergePlanes of %d images of %v", count, shape)
			}
		}
	}
}

// notMerged checks that MergePlanes fails.
func notMerged(t *testing.T, what string, list ...impl.Image) {
	t.Helper()
	if out, ok := impl.MergePlanes(list); ok || !isZero(out) {
		t.Errorf("MergePlanes of %s = %v", what, out)
	}
}

func TestP62MergePlanesFails(t *testing.T) {
	m := picture(3, 2, 1)
	notMerged(t, "no images")
	notMerged(t, "five images", m, m, m, m, m)
	notMerged(t, "many images", slices.Repeat([]impl.Image{m}, 100)...)
	for _, other := range []impl.Image{picture(3, 3, 1), picture(2, 2, 1), picture(2, 3, 1), picture(6, 1, 1), picture(1, 6, 1), picture(3, 2, 2), picture(3, 1, 2)} {
		notMerged(t, "another image at the end", m, other)
		notMerged(t, "another image at the beginning", other, m)
		notMerged(t, "another image behind two", m, m, other)
	}
	for planes := 2; planes <= 4; planes++ {
		notMerged(t, "one image with several planes", picture(3, 2, planes))
		notMerged(t, "two images with several planes", picture(3, 2, planes), picture(3, 2, planes))
	}
	for _, bad := range badPictures() {
		notMerged(t, "a bad picture", bad)
		notMerged(t, "two bad pictures", bad, bad)
		notMerged(t, "a bad picture behind a good one", flat(3, 2, 1, 6), bad)
		notMerged(t, "a bad picture before a good one", bad, flat(3, 2, 1, 6))
	}
}

// Promise 147: SplitPlanes of a turned image are the turned planes.
func TestP147PlanesTurnTogether(t *testing.T) {
	for _, m := range scalePictures() {
		for k := range 4 {
			var want []impl.Image
			for _, plane := range impl.SplitPlanes(m) {
				want = append(want, impl.TurnImage(plane, k))
			}
			if got := impl.SplitPlanes(impl.TurnImage(m, k)); len(got) != m.Planes || !slices.EqualFunc(got, want, equal) {
				t.Errorf("SplitPlanes of %d by %d by %d turned by %d", m.Width, m.Height, m.Planes, k)
			}
		}
	}
}

func TestColorsKeepTheirArguments(t *testing.T) {
	pixel, list := roomy([]int{200, 100, 50}), roomy([]int{112, 150, -25})
	m := picture(5, 3, 3)
	m.Data = roomy(m.Data)
	one, two := picture(3, 2, 1), picture(3, 2, 1)
	one.Data, two.Data = roomy(one.Data), roomy(two.Data)
	keeps(t, "ToLuma", func() [][]int { return [][]int{impl.ToLuma(pixel)} }, pixel)
	keeps(t, "FromLuma", func() [][]int {
		out, _ := impl.FromLuma(list)
		return [][]int{out}
	}, list)
	keeps(t, "GrayImage", func() [][]int { return [][]int{impl.GrayImage(m).Data} }, m.Data)
	for _, split := range []impl.Image{m, one} {
		planes := func() [][]int {
			var out [][]int
			for _, plane := range impl.SplitPlanes(split) {
				out = append(out, plane.Data)
			}
			return out
		}
		keeps(t, "SplitPlanes", planes, split.Data)
		apart(t, "SplitPlanes", planes())
	}
	for _, planes := range [][]impl.Image{{one}, {one, two}, {one, one}} {
		keeps(t, "MergePlanes", func() [][]int {
			out, _ := impl.MergePlanes(planes)
			return [][]int{out.Data}
		}, one.Data, two.Data)
	}
}
