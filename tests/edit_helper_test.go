package tests

import (
	"math"
	"slices"
	"testing"

	"loop.example/pixelworks/impl"
)

// otherKind is a kind that no step has.
const otherKind = impl.StepFill + 1

// imageWhere returns an image whose pixels a function tells.
func imageWhere(width int, height int, planes int, pixel func(x int, y int) []int) impl.Image {
	out := impl.Image{Width: width, Height: height, Planes: planes}
	for y := range height {
		for x := range width {
			out.Data = append(out.Data, pixel(x, y)...)
		}
	}
	return out
}

// inBox reports whether a pixel is in a box that does not overflow.
func inBox(b impl.Box, x int, y int) bool {
	return x >= b.X && x < b.X+b.Width && y >= b.Y && y < b.Y+b.Height
}

// isBoxOn reports whether a box has pixels, all of them on an image.
func isBoxOn(m impl.Image, b impl.Box) bool {
	return b.X >= 0 && b.Y >= 0 && b.Width >= 1 && b.Height >= 1 &&
		b.Width <= 16 && b.Height <= 16 && b.X <= 16 && b.Y <= 16 && b.X+b.Width <= m.Width && b.Y+b.Height <= m.Height
}

// stepped returns the image that a step makes of a valid one, pixel by pixel, and whether there is one.
func stepped(m impl.Image, s impl.Step) (impl.Image, bool) {
	w, h := m.Width, m.Height
	switch s.Kind {
	case impl.StepMirror:
		return imageWhere(w, h, m.Planes, func(x int, y int) []int { return rawPixel(m, w-1-x, y) }), true
	case impl.StepTurn:
		return imageWhere(h, w, m.Planes, func(x int, y int) []int { return rawPixel(m, y, h-1-x) }), true
	case impl.StepInvert:
		out := copied(m)
		for i, n := range out.Data {
			out.Data[i] = 255 - n
		}
		return out, true
	case impl.StepCrop:
		if !isBoxOn(m, s.Box) {
			return impl.Image{}, false
		}
		return imageWhere(s.Box.Width, s.Box.Height, m.Planes, func(x int, y int) []int { return rawPixel(m, s.Box.X+x, s.Box.Y+y) }), true
	case impl.StepFill:
		if !isBoxOn(m, s.Box) || len(s.Pixel) != m.Planes || slices.Min(s.Pixel) < 0 || slices.Max(s.Pixel) > 255 {
			return impl.Image{}, false
		}
		return filled(m, s.Box, s.Pixel), true
	}
	return impl.Image{}, false
}

// filled returns an image whose pixels in a box are a given one.
func filled(m impl.Image, b impl.Box, pixel []int) impl.Image {
	return imageWhere(m.Width, m.Height, m.Planes, func(x int, y int) []int {
		if inBox(b, x, y) {
			return pixel
		}
		return rawPixel(m, x, y)
	})
}

// performed returns the image that steps make, and how many are performed.
func performed(m impl.Image, list []impl.Step) (impl.Image, int) {
	for i, s := range list {
		next, ok := stepped(m, s)
		if !ok {
			return m, i
		}
		m = next
	}
	return m, len(list)
}

// stepsOf returns steps of kinds without boxes and pixels.
func stepsOf(kinds ...int) []impl.Step {
	var out []impl.Step
	for _, kind := range kinds {
		out = append(out, impl.Step{Kind: kind})
	}
	return out
}

// strangeSteps returns steps of a kind with parts that are no boxes and pixels of any image.
func strangeSteps(kind int) []impl.Step {
	return []impl.Step{
		{Kind: kind},
		{Kind: kind, Box: impl.Box{X: -1, Y: 17, Width: 0, Height: -5}, Pixel: []int{-1, 256}},
		{Kind: kind, Box: impl.Box{X: math.MaxInt, Y: math.MinInt, Width: math.MaxInt, Height: math.MinInt}, Pixel: []int{math.MaxInt, math.MinInt}},
		{Kind: kind, Box: impl.Box{Width: 1, Height: 1}, Pixel: make([]int, 1000)},
		{Kind: kind, Box: impl.Box{X: 1, Y: 1, Width: 20, Height: 20}, Pixel: []int{1, 2, 3, 4, 5}},
	}
}

// someSteps returns fixed steps of all kinds that look like random ones; boxes and pixels fit most images with so many planes.
func someSteps(seed int, count int, planes int) []impl.Step {
	var out []impl.Step
	for i, kind := range numbers(seed, count, 4) {
		n := numbers(seed*31+i, 4+planes, 255)
		box := impl.Box{X: n[0] % 3, Y: n[1] % 3, Width: 1 + n[2]%5, Height: 1 + n[3]%5}
		if kind == impl.StepCrop { // so that not too little is left for the steps behind it
			box = impl.Box{X: n[0] % 2, Y: n[1] % 2, Width: 8 + n[2]%5, Height: 8 + n[3]%5}
		}
		out = append(out, impl.Step{Kind: kind, Box: box, Pixel: n[4:]})
	}
	return out
}

// numbered returns the steps with different boxes and pixels, which tell them apart.
func numbered(list []impl.Step) []impl.Step {
	out := slices.Clone(list)
	for i := range out {
		out[i].Box = impl.Box{X: i, Width: 1, Height: 1}
		out[i].Pixel = []int{10 + i}
	}
	return out
}

// sameSteps reports whether two lists have the same steps.
func sameSteps(a []impl.Step, b []impl.Step) bool {
	return slices.EqualFunc(a, b, func(x impl.Step, y impl.Step) bool {
		return x.Kind == y.Kind && x.Box == y.Box && slices.Equal(x.Pixel, y.Pixel)
	})
}

// cancelsAt reports whether the steps from a place on begin with some that cancel, and how many these are.
func cancelsAt(list []impl.Step, at int) (int, bool) {
	for kind, count := range []int{impl.StepMirror: 2, impl.StepTurn: 4, impl.StepInvert: 2} {
		if len(list)-at >= count && !slices.ContainsFunc(list[at:at+count], func(s impl.Step) bool { return s.Kind != kind }) {
			return count, true
		}
	}
	return 0, false
}

// simplified returns steps from which the first place that cancels is removed, again and again.
func simplified(list []impl.Step) []impl.Step {
	for at := range list {
		if count, ok := cancelsAt(list, at); ok {
			return simplified(slices.Concat(list[:at], list[at+count:]))
		}
	}
	return list
}

// simplifies checks that SimplifySteps returns the right steps, and returns them.
func simplifies(t *testing.T, list []impl.Step) []impl.Step {
	t.Helper()
	got := impl.SimplifySteps(list)
	if want := simplified(list); !sameSteps(got, want) {
		t.Fatalf("SimplifySteps of %v = %v, not %v", list, got, want)
	}
	return got
}

// runSteps returns RunSteps, which must be valid, and how many steps it performed.
func runSteps(t *testing.T, m impl.Image, list []impl.Step) (impl.Image, int) {
	t.Helper()
	out, count := impl.RunSteps(m, list)
	if !impl.ValidImage(out) || count < 0 || count > len(list) {
		t.Fatalf("RunSteps of %d by %d with %v = %v, %d", m.Width, m.Height, list, out, count)
	}
	return out, count
}

// eachKindList calls a function for all lists of some kinds with at most a number of them.
func eachKindList(kinds []int, most int, visit func(list []int)) {
	var extend func(list []int)
	extend = func(list []int) {
		visit(list)
		if len(list) == most {
			return
		}
		for _, kind := range kinds {
			extend(append(slices.Clone(list), kind))
		}
	}
	extend(nil)
}
