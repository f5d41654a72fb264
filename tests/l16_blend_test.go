package tests

import (
	"math"
	"slices"
	"testing"

	"loop.example/pixelworks/impl"
)

// blends checks a call of BlendNumber.
func blends(t *testing.T, mode int, a int, b int, alpha int, want int) {
	t.Helper()
	if got := impl.BlendNumber(mode, a, b, alpha); got != want {
		t.Fatalf("BlendNumber(%d, %d, %d, %d) = %d, not %d", mode, a, b, alpha, got, want)
	}
}

// eachPair calls a function for all pairs of numbers.
func eachPair(visit func(a int, b int)) {
	for a := range 256 {
		for b := range 256 {
			visit(a, b)
		}
	}
}

// Promise 82: BlendNumber with the alpha 0 is the lower number, with 255 what the mode makes, and for BlendNormal it is between both.
func TestP82CoveredNumbersAreBetween(t *testing.T) {
	eachPair(func(a int, b int) {
		for _, mode := range modes() {
			blends(t, mode, a, b, 0, a)
			blends(t, mode, a, b, 255, mixed(mode, a, b))
			for _, alpha := range []int{1, 2, 63, 127, 128, 200, 254} {
				blends(t, mode, a, b, alpha, blended(mode, a, b, alpha))
			}
		}
		for alpha := range 256 {
			if got := impl.BlendNumber(impl.BlendNormal, a, b, alpha); got < min(a, b) || got > max(a, b) {
				t.Fatalf("BlendNumber(0, %d, %d, %d) = %d is not between", a, b, alpha, got)
			}
		}
	})
}

func TestP82KnownNumbers(t *testing.T) {
	for _, c := range []struct {
		mode  int
		a     int
		b     int
		alpha int
		want  int
	}{
		{impl.BlendNormal, 100, 200, 255, 200},
		{impl.BlendNormal, 100, 200, 128, 150}, // 150.2
		{impl.BlendNormal, 200, 100, 128, 150}, // 149.8
		{impl.BlendNormal, 0, 255, 77, 77},
		{impl.BlendNormal, 255, 0, 77, 178},
		{impl.BlendNormal, 0, 1, 127, 0}, // 0.498: no quotient lies halfway, because 255 is odd
		{impl.BlendNormal, 0, 1, 128, 1}, // 0.502
		{impl.BlendNormal, 1, 0, 127, 1},
		{impl.BlendNormal, 1, 0, 128, 0},
		{impl.BlendNormal, 254, 255, 127, 254},
		{impl.BlendNormal, 254, 255, 128, 255},
		{impl.BlendMultiply, 100, 200, 255, 78}, // 78.4
		{impl.BlendMultiply, 1, 127, 255, 0},
		{impl.BlendMultiply, 1, 128, 255, 1},
		{impl.BlendMultiply, 255, 91, 255, 91},
		{impl.BlendMultiply, 0, 255, 255, 0},
		{impl.BlendMultiply, 100, 200, 128, 89}, // 88.96
		{impl.BlendMultiply, 20, 6, 254, 0},     // 0.08 with the rounded 0, but 0.55 with the product as it is
		{impl.BlendMultiply, 2, 64, 127, 2},     // 1.50 with the rounded 1, but 1.25 with the product as it is
		{impl.BlendScreen, 100, 200, 255, 222},  // 255 minus 33.4
		{impl.BlendScreen, 254, 128, 255, 255},
		{impl.BlendScreen, 254, 127, 255, 254},
		{impl.BlendScreen, 0, 91, 255, 91},
		{impl.BlendScreen, 255, 0, 255, 255},
		{impl.BlendScreen, 100, 200, 128, 161}, // 161.2
		{impl.BlendDarker, 100, 200, 255, 100},
		{impl.BlendDarker, 200, 100, 255, 100},
		{impl.BlendDarker, 200, 100, 128, 150},
		{impl.BlendDarker, 100, 200, 128, 100},
		{impl.BlendLighter, 100, 200, 255, 200},
		{impl.BlendLighter, 200, 100, 255, 200},
		{impl.BlendLighter, 100, 200, 128, 150},
		{impl.BlendLighter, 200, 100, 128, 200},
	} {
		if got := impl.BlendNumber(c.mode, c.a, c.b, c.alpha); got != c.want {
			t.Errorf("BlendNumber(%d, %d, %d, %d) = %d, not %d", c.mode, c.a, c.b, c.alpha, got, c.want)
		}
	}
}

func TestP82BlendNumberFails(t *testing.T) {
	list := []int{-1, 0, 1, 127, 128, 254, 255, 256, 1 << 31, 1 << 32, -1 << 32, 1 << 56, 1 << 62, math.MaxInt, math.MinInt, math.MinInt + 1}
	isByte := func(n int) bool { return n >= 0 && n <= 255 }
	for _, a := range list {
		for _, b := range list {
			for _, alpha := range list {
				for _, mode := range modes() {
					want := -1
					if isByte(a) && isByte(b) && isByte(alpha) {
						want = blended(mode, a, b, alpha)
					}
					blends(t, mode, a, b, alpha, want)
				}
				for _, mode := range []int{-1, 5, 6, 256, 1 << 32, math.MaxInt, math.MinInt} {
					blends(t, mode, a, b, alpha, -1)
				}
			}
		}
	}
}

// Promise 83: with the alpha 255, BlendMultiply and BlendDarker are at most both numbers, and BlendScreen and BlendLighter at least both.
func TestP83ModesHaveTheirSides(t *testing.T) {
	eachPair(func(a int, b int) {
		for _, mode := range []int{impl.BlendMultiply, impl.BlendDarker} {
			if got := impl.BlendNumber(mode, a, b, 255); got < 0 || got > min(a, b) {
				t.Fatalf("BlendNumber(%d, %d, %d, 255) = %d", mode, a, b, got)
			}
		}
		for _, mode := range []int{impl.BlendScreen, impl.BlendLighter} {
			if got := impl.BlendNumber(mode, a, b, 255); got > 255 || got < max(a, b) {
				t.Fatalf("BlendNumber(%d, %d, %d, 255) = %d", mode, a, b, got)
			}
		}
	})
}

// Promise 84: BlendScreen of two numbers is 255 minus BlendMultiply of 255 minus each of them, with the alpha 255.
func TestP84ScreensAreInvertedProducts(t *testing.T) {
	eachPair(func(a int, b int) {
		blends(t, impl.BlendScreen, a, b, 255, 255-impl.BlendNumber(impl.BlendMultiply, 255-a, 255-b, 255))
		blends(t, impl.BlendScreen, a, b, 255, 255-roundHalfUp((255-a)*(255-b), 255))
	})
}

// Promise 151: BlendNumber with a greater alpha is not farther from what the mode makes.
func TestP151MoreAlphaCoversMore(t *testing.T) {
	for _, mode := range modes() {
		for _, a := range shades() {
			for _, b := range shades() {
				aim, before := impl.BlendNumber(mode, a, b, 255), 255
				for alpha := range 256 {
					gap := impl.BlendNumber(mode, a, b, alpha) - aim
					gap = max(gap, -gap)
					if gap > before {
						t.Fatalf("BlendNumber(%d, %d, %d, %d) is farther from %d than with less alpha", mode, a, b, alpha, aim)
					}
					before = gap
				}
			}
		}
	}
}

// Promise 85: CoverImage with BlendNormal and the alpha 255 is PasteImage, and with the alpha 0 it changes nothing.
func TestP85OpaqueLayersArePasted(t *testing.T) {
	for _, m := range grounds() {
		eachLayer(m, func(l impl.Layer) {
			if got := coveredImage(t, m, l); !equal(got, covered(m, l)) {
				t.Fatalf("CoverImage of %d by %d by %d with %v = %v", m.Width, m.Height, m.Planes, l, got)
			}
			clear := l
			clear.Alpha = 0
			if got := coveredImage(t, m, clear); !equal(got, m) {
				t.Fatalf("CoverImage with %v changes %d by %d", clear, m.Width, m.Height)
			}
			l.Mode, l.Alpha = impl.BlendNormal, 255
			want, ok := impl.PasteImage(m, l.X, l.Y, l.Image)
			if got := coveredImage(t, m, l); !ok || !equal(got, want) {
				t.Fatalf("CoverImage of %d by %d with the opaque %v is not pasted", m.Width, m.Height, l)
			}
		})
	}
}

func TestP85KnownCoveredImages(t *testing.T) {
	m := onePlane(3, 10, 20, 30, 40, 50, 60)
	part := onePlane(2, 1, 2, 3, 4)
	for _, c := range []struct {
		x    int
		y    int
		want []int
	}{
		{0, 0, []int{1, 2, 30, 3, 4, 60}},
		{1, 0, []int{10, 1, 2, 40, 3, 4}},
		{2, 0, []int{10, 20, 1, 40, 50, 3}},
		{3, 0, m.Data},
		{-1, 0, []int{2, 20, 30, 4, 50, 60}},
		{-2, 0, m.Data},
		{0, 1, []int{10, 20, 30, 1, 2, 60}},
		{0, 2, m.Data},
		{0, -1, []int{3, 4, 30, 40, 50, 60}},
		{0, -2, m.Data},
		{-1, -1, []int{4, 20, 30, 40, 50, 60}},
		{2, 1, []int{10, 20, 30, 40, 50, 1}},
		{2, -1, []int{10, 20, 3, 40, 50, 60}},
		{-1, 1, []int{10, 20, 30, 2, 50, 60}},
		{16, 16, m.Data},
		{-16, -16, m.Data},
		{16, 0, m.Data},
		{0, -16, m.Data},
	} {
		got := coveredImage(t, m, impl.Layer{Image: part, X: c.x, Y: c.y, Alpha: 255})
		if !slices.Equal(got.Data, c.want) {
			t.Errorf("CoverImage at %d %d = %v, not %v", c.x, c.y, got.Data, c.want)
		}
	}
	largest := impl.FillImage(16, 16, []int{9, 8})
	for _, at := range [][2]int{{15, 15}, {-15, -15}, {15, -15}, {-15, 15}} {
		got := coveredImage(t, impl.FillImage(16, 16, []int{1, 2}), impl.Layer{Image: largest, X: at[0], Y: at[1], Alpha: 255})
		want := slices.Repeat([]int{1, 2}, 256)
		corner := 2 * (max(at[1], 0)*16 + max(at[0], 0))
		want[corner], want[corner+1] = 9, 8
		if !slices.Equal(got.Data, want) {
			t.Errorf("CoverImage of a corner at %v = %v", at, got.Data)
		}
	}
}

// A layer is covered with, whether it is hidden or not: only FlattenLayers asks for that.
func TestP85HiddenLayersCoverAlone(t *testing.T) {
	m := picture(5, 3, 2)
	l := impl.Layer{Image: sheetOf(3, 4, 4, 2), X: 1, Y: -1, Mode: impl.BlendScreen, Alpha: 99}
	if got := coveredImage(t, m, hiddenOf(l)); !equal(got, covered(m, l)) || equal(got, m) {
		t.Errorf("CoverImage with a hidden layer = %v", got)
	}
}

// notCovered checks that CoverImage fails, and FlattenLayers with the layer at each place of a list, whether it is hidden or not.
func notCovered(t *testing.T, what string, m impl.Image, l impl.Layer) {
	t.Helper()
	fine := impl.Layer{Image: impl.FillImage(2, 2, make([]int, max(m.Planes, 0))), Alpha: 3}
	for _, one := range []impl.Layer{l, hiddenOf(l)} {
		if out, ok := impl.CoverImage(m, one); ok || !isZero(out) {
			t.Errorf("CoverImage with %s: %v", what, one)
		}
		for _, list := range [][]impl.Layer{{one}, {fine, one}, {one, fine}, {hiddenOf(fine), one}, {fine, fine, one, fine, fine, fine}} {
			notFlattened(t, what, m, list)
		}
	}
}

// notFlattened checks that FlattenLayers fails.
func notFlattened(t *testing.T, what string, m impl.Image, list []impl.Layer) {
	t.Helper()
	if out, ok := impl.FlattenLayers(m, list); ok || !isZero(out) {
		t.Errorf("FlattenLayers with %s: %v", what, list)
	}
}

func TestP85CoverImageFails(t *testing.T) {
	for planes := 1; planes <= 4; planes++ {
		for _, bad := range badLayers(planes) {
			notCovered(t, "a bad layer", picture(3, 2, planes), bad)
		}
	}
	for _, bad := range badPictures() {
		notCovered(t, "a bad image", bad, impl.Layer{Image: picture(1, 1, 1), Alpha: 255})
		notCovered(t, "two bad images", bad, impl.Layer{Image: bad, Alpha: 255})
		notCovered(t, "a bad image beside it", bad, impl.Layer{Image: picture(1, 1, min(max(bad.Planes, 1), 4)), X: 16})
		notFlattened(t, "a bad image and no layers", bad, nil)
	}
}

func TestP85LimitsOfLayers(t *testing.T) {
	m := picture(3, 2, 1)
	for _, n := range []int{-16, 0, 16} {
		for _, alpha := range []int{0, 1, 254, 255} {
			for _, mode := range modes() {
				l := impl.Layer{Image: sheetOf(1, 16, 16, 1), X: n, Y: -n, Mode: mode, Alpha: alpha}
				if got := coveredImage(t, m, l); !equal(got, covered(m, l)) {
					t.Errorf("CoverImage with mode %d and alpha %d at %d", mode, alpha, n)
				}
			}
		}
	}
}

// Promise 86: FlattenLayers is CoverImage of all layers that are not hidden, in order.
func TestP86LayersCoverOneAfterTheOther(t *testing.T) {
	for _, m := range grounds() {
		for _, list := range stacks(m) {
			want := m
			for _, l := range list {
				if !l.Hidden {
					want = coveredImage(t, want, l)
				}
			}
			if got := flattenedImage(t, m, list); !equal(got, want) || !equal(got, flattened(m, list)) {
				t.Fatalf("FlattenLayers of %d by %d with %v", m.Width, m.Height, list)
			}
		}
	}
}

func TestP86OrderOfLayersMatters(t *testing.T) {
	m := onePlane(3, 10, 20, 30)
	opaque := impl.Layer{Image: onePlane(2, 100, 200), X: 1, Alpha: 255}
	darker := impl.Layer{Image: onePlane(3, 50, 50, 50), Mode: impl.BlendDarker, Alpha: 255}
	half := impl.Layer{Image: onePlane(1, 255), X: 2, Mode: impl.BlendMultiply, Alpha: 128}
	for _, c := range []struct {
		list []impl.Layer
		want []int
	}{
		{nil, []int{10, 20, 30}},
		{[]impl.Layer{opaque, darker}, []int{10, 50, 50}},
		{[]impl.Layer{darker, opaque}, []int{10, 100, 200}},
		{[]impl.Layer{darker, hiddenOf(opaque)}, []int{10, 20, 30}},
		{[]impl.Layer{opaque, half, darker}, []int{10, 50, 50}},
		{[]impl.Layer{opaque, opaque}, []int{10, 100, 200}},
	} {
		if got := flattenedImage(t, m, c.list); !slices.Equal(got.Data, c.want) {
			t.Errorf("FlattenLayers with %v = %v, not %v", c.list, got.Data, c.want)
		}
	}
	// The same layer covers again: each time, a quarter is left of what is missing.
	faint := impl.Layer{Image: onePlane(1, 255), Alpha: 191}
	for count, want := range []int{0, 191, 239, 251, 254, 255, 255} {
		if got := flattenedImage(t, onePlane(1, 0), slices.Repeat([]impl.Layer{faint}, count)); got.Data[0] != want {
			t.Errorf("FlattenLayers with %d equal layers = %d, not %d", count, got.Data[0], want)
		}
	}
}

func TestP86NumberOfLayers(t *testing.T) {
	if impl.MaxLayers != 6 {
		t.Fatalf("MaxLayers = %d", impl.MaxLayers)
	}
	m := picture(4, 3, 2)
	for count := range 12 {
		for hidden := range count + 1 {
			var list []impl.Layer
			for i := range count {
				list = append(list, impl.Layer{Image: sheetOf(i, 3, 3, 2), X: i % 3, Mode: i % 5, Alpha: 40 + 30*(i%6), Hidden: i < hidden})
			}
			if count > 6 {
				notFlattened(t, "too many layers", m, list)
			} else if got := flattenedImage(t, m, list); !equal(got, flattened(m, list)) {
				t.Errorf("FlattenLayers with %d layers, %d of them hidden", count, hidden)
			}
		}
	}
	notFlattened(t, "very many layers", m, make([]impl.Layer, 1000))
}

// Promise 87: FlattenLayers without the hidden layers is the same, and with all hidden it is the image.
func TestP87HiddenLayersDoNotCount(t *testing.T) {
	for _, m := range grounds() {
		for _, list := range stacks(m) {
			var shown, hidden []impl.Layer
			for _, l := range list {
				if !l.Hidden {
					shown = append(shown, l)
				}
				hidden = append(hidden, hiddenOf(l))
			}
			if !equal(flattenedImage(t, m, list), flattenedImage(t, m, shown)) {
				t.Fatalf("FlattenLayers without the hidden layers of %v", list)
			}
			if !equal(flattenedImage(t, m, hidden), m) {
				t.Fatalf("FlattenLayers with hidden layers only: %v", hidden)
			}
		}
	}
}

func TestLayersKeepTheirArguments(t *testing.T) {
	m := picture(5, 3, 2)
	m.Data = roomy(m.Data)
	on := impl.Layer{Image: sheetOf(1, 2, 2, 2), X: 1, Alpha: 255}
	all := impl.Layer{Image: sheetOf(2, 5, 3, 2), Alpha: 255}
	beside := impl.Layer{Image: sheetOf(3, 5, 3, 2), X: -16, Alpha: 255}
	same := impl.Layer{Image: m, Mode: impl.BlendMultiply, Alpha: 255}
	for _, stack := range [][]impl.Layer{nil, {on}, {all}, {beside}, {on, hiddenOf(all), all}, {hiddenOf(on)}, {same, same}} {
		list, memory := roomyLayers(stack)
		keeps(t, "FlattenLayers", func() [][]int {
			out, _ := impl.FlattenLayers(m, list)
			return [][]int{out.Data}
		}, append(memory, m.Data)...)
		if !sameLayers(list, stack) {
			t.Errorf("FlattenLayers changed %v", stack)
		}
		for i := range list {
			keeps(t, "CoverImage", func() [][]int {
				out, _ := impl.CoverImage(m, list[i])
				return [][]int{out.Data}
			}, append(memory, m.Data)...)
		}
	}
	keeps(t, "CoverImage with itself", func() [][]int {
		out, _ := impl.CoverImage(m, impl.Layer{Image: m, X: 1, Alpha: 99})
		return [][]int{out.Data}
	}, m.Data)
}
