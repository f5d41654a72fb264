package tests

import (
	"math"
	"slices"
	"testing"

	"loop.example/pixelworks/impl"
)

// scalePictures returns valid images, among them those whose sides can be doubled.
func scalePictures() []impl.Image {
	out := pictures()
	for planes := 1; planes <= 4; planes++ {
		out = append(out, picture(8, 8, planes), picture(7, 5, planes), picture(1, 8, planes), picture(8, 1, planes), picture(3, 4, planes))
	}
	return out
}

// newSizes returns widths and heights of scaled images.
func newSizes() [][2]int {
	var out [][2]int
	for _, width := range []int{1, 2, 3, 5, 7, 8, 15, 16} {
		for _, height := range []int{1, 2, 3, 4, 9, 16} {
			out = append(out, [2]int{width, height})
		}
	}
	return out
}

// badSides returns widths and heights that are not valid.
func badSides() []int {
	return []int{-16, -1, 0, 17, 32, 1 << 32, math.MaxInt, math.MinInt}
}

// hasShape reports whether an image is valid and has a size and a number of planes.
func hasShape(m impl.Image, width int, height int, planes int) bool {
	return m.Width == width && m.Height == height && m.Planes == planes && impl.ValidImage(m)
}

// canDouble reports whether an image can be scaled to twice its size.
func canDouble(m impl.Image) bool {
	return m.Width <= 8 && m.Height <= 8
}

// checkNearest checks all pixels of ScaleNearest.
func checkNearest(t *testing.T, m impl.Image, width int, height int) {
	t.Helper()
	out := impl.ScaleNearest(m, width, height)
	if !hasShape(out, width, height, m.Planes) {
		t.Fatalf("ScaleNearest of %d by %d to %d by %d has a wrong shape", m.Width, m.Height, width, height)
	}
	eachPlace(out, func(x int, y int) {
		want := rawPixel(m, floorOf(x*m.Width, width), floorOf(y*m.Height, height))
		if !slices.Equal(rawPixel(out, x, y), want) {
			t.Fatalf("ScaleNearest of %d by %d to %d by %d: pixel %d %d", m.Width, m.Height, width, height, x, y)
		}
	})
}

// Promise 51: ScaleNearest to twice the width and height and back is the image, and to its own size it changes nothing.
func TestP51ScalingUpCanBeUndone(t *testing.T) {
	for _, m := range scalePictures() {
		if !equal(impl.ScaleNearest(m, m.Width, m.Height), m) {
			t.Errorf("ScaleNearest of %d by %d to its own size", m.Width, m.Height)
		}
		if canDouble(m) {
			double := impl.ScaleNearest(m, 2*m.Width, 2*m.Height)
			if !equal(impl.ScaleNearest(double, m.Width, m.Height), m) {
				t.Errorf("ScaleNearest of %d by %d to twice its size and back", m.Width, m.Height)
			}
		}
		for _, size := range newSizes() {
			checkNearest(t, m, size[0], size[1])
		}
	}
}

func TestP51ScaleNearestOfKnownImages(t *testing.T) {
	m := onePlane(3, 1, 2, 3, 4, 5, 6)
	for _, c := range []struct {
		width  int
		height int
		want   []int
	}{
		{2, 1, []int{1, 2}},
		{5, 1, []int{1, 1, 2, 2, 3}},
		{1, 3, []int{1, 1, 4}},
		{4, 3, []int{1, 1, 2, 3, 1, 1, 2, 3, 4, 4, 5, 6}},
	} {
		if got := impl.ScaleNearest(m, c.width, c.height); !slices.Equal(got.Data, c.want) {
			t.Errorf("ScaleNearest to %d by %d = %v, not %v", c.width, c.height, got.Data, c.want)
		}
	}
}

func TestScalingFails(t *testing.T) {
	fails := func(m impl.Image, width int, height int) {
		if !isZero(impl.ScaleNearest(m, width, height)) {
			t.Errorf("ScaleNearest of %d by %d to %d by %d", m.Width, m.Height, width, height)
		}
		if !isZero(impl.ScaleArea(m, width, height)) {
			t.Errorf("ScaleArea of %d by %d to %d by %d", m.Width, m.Height, width, height)
		}
	}
	for _, m := range scalePictures() {
		for _, side := range badSides() {
			fails(m, side, 1)
			fails(m, 1, side)
			fails(m, side, side)
		}
	}
	for _, m := range badPictures() {
		fails(m, 1, 1)
		fails(m, 16, 16)
		fails(m, m.Width, m.Height)
	}
}

// Promise 154: ScaleNearest of a transposed image is the transposed image of ScaleNearest.
func TestP154ScalingTurnsWithTheImage(t *testing.T) {
	for _, m := range scalePictures() {
		for _, size := range newSizes() {
			got := impl.ScaleNearest(impl.TransposeImage(m), size[1], size[0])
			if want := impl.TransposeImage(impl.ScaleNearest(m, size[0], size[1])); !equal(got, want) || isZero(got) {
				t.Fatalf("ScaleNearest of the transposed image of %d by %d to %v", m.Width, m.Height, size)
			}
		}
	}
}

// areaMeans returns the numbers of ScaleArea: both images are divided into the same small cells, so that each one covers whole cells.
func areaMeans(m impl.Image, width int, height int) []int {
	sums := make([]int, width*height*m.Planes)
	for row := range m.Height * height {
		for column := range m.Width * width {
			first := (row/m.Height*width + column/m.Width) * m.Planes
			for plane, n := range rawPixel(m, column/width, row/height) {
				sums[first+plane] += n
			}
		}
	}
	for i := range sums {
		sums[i] = roundHalfUp(sums[i], m.Width*m.Height)
	}
	return sums
}

// checkArea checks all numbers of ScaleArea.
func checkArea(t *testing.T, m impl.Image, width int, height int) {
	t.Helper()
	out := impl.ScaleArea(m, width, height)
	if !hasShape(out, width, height, m.Planes) {
		t.Fatalf("ScaleArea of %d by %d to %d by %d has a wrong shape", m.Width, m.Height, width, height)
	}
	if want := areaMeans(m, width, height); !slices.Equal(out.Data, want) {
		t.Fatalf("ScaleArea of %d by %d to %d by %d = %v, not %v", m.Width, m.Height, width, height, out.Data, want)
	}
	for plane := range m.Planes {
		before, after := planeNumbers(m, plane), planeNumbers(out, plane)
		if slices.Min(after) < slices.Min(before) || slices.Max(after) > slices.Max(before) {
			t.Fatalf("ScaleArea of %d by %d to %d by %d is not between", m.Width, m.Height, width, height)
		}
	}
}

// Promise 52: every number of ScaleArea is between the least and the greatest one of its plane, and scaling up by 2 and back is the image.
func TestP52MeansStayBetween(t *testing.T) {
	for _, m := range scalePictures() {
		for _, size := range newSizes() {
			checkArea(t, m, size[0], size[1])
		}
		if !equal(impl.ScaleArea(m, m.Width, m.Height), m) {
			t.Errorf("ScaleArea of %d by %d to its own size", m.Width, m.Height)
		}
		if canDouble(m) {
			double := impl.ScaleArea(m, 2*m.Width, 2*m.Height)
			if !equal(impl.ScaleArea(double, m.Width, m.Height), m) {
				t.Errorf("ScaleArea of %d by %d to twice its size and back", m.Width, m.Height)
			}
		}
	}
	for old := 1; old <= 16; old++ {
		for side := 1; side <= 16; side++ {
			checkArea(t, picture(old, 3, 2), side, 2)
			checkArea(t, picture(2, old, 1), 3, side)
		}
	}
}

func TestP52ScaleAreaOfKnownImages(t *testing.T) {
	for _, c := range []struct {
		m      impl.Image
		width  int
		height int
		want   []int
	}{
		{onePlane(2, 0, 1), 1, 1, []int{1}},
		{onePlane(2, 0, 0, 0, 1), 1, 1, []int{0}},
		{onePlane(2, 0, 0, 1, 1), 1, 1, []int{1}},
		{onePlane(2, 254, 255), 1, 1, []int{255}},
		{onePlane(3, 0, 90, 90), 2, 1, []int{30, 90}},
		{onePlane(1, 0, 90, 90), 1, 2, []int{30, 90}},
		{onePlane(3, 0, 60, 120), 2, 1, []int{20, 100}},
		{onePlane(2, 0, 100), 3, 1, []int{0, 50, 100}},
		{onePlane(3, 0, 1, 2), 4, 1, []int{0, 1, 1, 2}},
		{onePlane(5, 10, 20, 30, 40, 50), 2, 1, []int{18, 42}},
		{onePlane(3, 9, 0, 0, 0, 0, 0, 0, 0, 0), 2, 2, []int{4, 0, 0, 0}},
		{onePlane(3, 0, 0, 0, 0, 9, 0, 0, 0, 0), 2, 2, []int{1, 1, 1, 1}},
		{impl.Image{Width: 2, Height: 1, Planes: 3, Data: []int{0, 10, 255, 1, 20, 255}}, 1, 1, []int{1, 15, 255}},
	} {
		if out := impl.ScaleArea(c.m, c.width, c.height); !slices.Equal(out.Data, c.want) {
			t.Errorf("ScaleArea of %v to %d by %d = %v, not %v", c.m, c.width, c.height, out.Data, c.want)
		}
	}
}

// Promise 53: ScaleArea to twice the width and height is ScaleNearest to it.
func TestP53DoublingByAreasIsDoublingByPixels(t *testing.T) {
	for _, m := range scalePictures() {
		if !canDouble(m) {
			continue
		}
		got := impl.ScaleArea(m, 2*m.Width, 2*m.Height)
		if !hasShape(got, 2*m.Width, 2*m.Height, m.Planes) || !equal(got, impl.ScaleNearest(m, 2*m.Width, 2*m.Height)) {
			t.Errorf("ScaleArea of %d by %d to twice its size", m.Width, m.Height)
		}
	}
}

// kernelOf returns a kernel with a radius whose weights are told by their columns and rows, seen from the middle.
func kernelOf(radius int, divisor int, weight func(x int, y int) int) impl.Kernel {
	k := impl.Kernel{Radius: radius, Divisor: divisor}
	for y := -radius; y <= radius; y++ {
		for x := -radius; x <= radius; x++ {
			k.Weights = append(k.Weights, weight(x, y))
		}
	}
	return k
}

// single returns the kernel with the weight 1 in the middle.
func single(radius int) impl.Kernel {
	return kernelOf(radius, 1, func(x int, y int) int {
		if x == 0 && y == 0 {
			return 1
		}
		return 0
	})
}

// kernels returns valid kernels with each radius, with negative weights among them, and with sums that are too small and too great.
func kernels() []impl.Kernel {
	var out []impl.Kernel
	for radius := range 3 {
		out = append(out, single(radius))
		for _, divisor := range []int{1, 2, 9, 10, 100, 998, 999} {
			out = append(out,
				kernelOf(radius, divisor, func(x int, y int) int { return 99 }),
				kernelOf(radius, divisor, func(x int, y int) int { return -99 }),
				kernelOf(radius, divisor, func(x int, y int) int { return 5*x - 3*y + 1 }),
				kernelOf(radius, divisor, func(x int, y int) int { return (x+2)*(y+3) - 7 }),
				kernelOf(radius, divisor, func(x int, y int) int { return 9 - 2*x*x - y*y }))
		}
	}
	return out
}

// convolved returns the numbers of ConvolveImage, read from an image that is continued at all sides by its outermost pixels.
func convolved(m impl.Image, k impl.Kernel) []int {
	var columns, rows []int
	for i := -k.Radius; i < m.Width+k.Radius; i++ {
		columns = append(columns, max(0, min(i, m.Width-1)))
	}
	for i := -k.Radius; i < m.Height+k.Radius; i++ {
		rows = append(rows, max(0, min(i, m.Height-1)))
	}
	var out []int
	eachPlace(m, func(x int, y int) {
		for plane := range m.Planes {
			sum, i := 0, 0
			for _, row := range rows[y : y+2*k.Radius+1] {
				for _, column := range columns[x : x+2*k.Radius+1] {
					sum += k.Weights[i] * rawPixel(m, column, row)[plane]
					i++
				}
			}
			out = append(out, max(0, min(roundHalfUp(sum, k.Divisor), 255)))
		}
	})
	return out
}

func TestConvolveImage(t *testing.T) {
	for _, m := range scalePictures() {
		for _, k := range kernels() {
			out := impl.ConvolveImage(m, k)
			if !hasShape(out, m.Width, m.Height, m.Planes) {
				t.Fatalf("ConvolveImage of %d by %d has a wrong shape", m.Width, m.Height)
			}
			if want := convolved(m, k); !slices.Equal(out.Data, want) {
				t.Fatalf("ConvolveImage of %d by %d with %v = %v, not %v", m.Width, m.Height, k, out.Data, want)
			}
		}
	}
}

func TestConvolveImageOfKnownImages(t *testing.T) {
	square := onePlane(3, 1, 2, 3, 4, 5, 6, 7, 8, 9)
	for _, c := range []struct {
		what string
		m    impl.Image
		k    impl.Kernel
		want []int
	}{
		{"the pixel at the upper left", square, impl.Kernel{Radius: 1, Weights: []int{1, 0, 0, 0, 0, 0, 0, 0, 0}, Divisor: 1}, []int{1, 1, 2, 1, 1, 2, 4, 4, 5}},
		{"the pixel at the right", square, impl.Kernel{Radius: 1, Weights: []int{0, 0, 0, 0, 0, 1, 0, 0, 0}, Divisor: 1}, []int{2, 3, 3, 5, 6, 6, 8, 9, 9}},
		{"the pixel below", square, impl.Kernel{Radius: 1, Weights: []int{0, 0, 0, 0, 0, 0, 0, 1, 0}, Divisor: 1}, []int{4, 5, 6, 7, 8, 9, 7, 8, 9}},
		{"the sum of all", square, impl.Kernel{Radius: 1, Weights: []int{1, 1, 1, 1, 1, 1, 1, 1, 1}, Divisor: 1}, []int{21, 27, 33, 39, 45, 51, 57, 63, 69}},
		{"the radius 2", onePlane(3, 1, 2, 3), impl.Kernel{Radius: 2, Weights: slices.Concat(make([]int, 10), []int{1, 10, 0, 0, 50}, make([]int, 10)), Divisor: 1}, []int{161, 161, 171}},
		{"halves", onePlane(4, 0, 1, 2, 3), impl.Kernel{Weights: []int{1}, Divisor: 2}, []int{0, 1, 1, 2}},
		{"thirds", onePlane(6, 0, 1, 2, 3, 4, 5), impl.Kernel{Weights: []int{1}, Divisor: 3}, []int{0, 0, 1, 1, 1, 2}},
		{"what is too much", onePlane(3, 127, 128, 255), impl.Kernel{Weights: []int{2}, Divisor: 1}, []int{254, 255, 255}},
		{"what is just too much", onePlane(2, 255, 254), impl.Kernel{Weights: []int{99}, Divisor: 98}, []int{255, 255}},
		{"what is negative", onePlane(4, 0, 1, 2, 255), impl.Kernel{Weights: []int{-1}, Divisor: 2}, []int{0, 0, 0, 0}},
		{"differences", onePlane(4, 10, 0, 30, 31), impl.Kernel{Radius: 1, Weights: []int{0, 0, 0, -1, 0, 1, 0, 0, 0}, Divisor: 1}, []int{0, 20, 31, 1}},
		{"the greatest divisor", onePlane(3, 5, 6, 255), impl.Kernel{Weights: []int{99}, Divisor: 999}, []int{0, 1, 25}},
	} {
		if out := impl.ConvolveImage(c.m, c.k); !slices.Equal(out.Data, c.want) {
			t.Errorf("ConvolveImage with %s = %v, not %v", c.what, out.Data, c.want)
		}
	}
}

// badKernels returns kernels that are not valid.
func badKernels() []impl.Kernel {
	one := func(x int, y int) int { return 1 }
	out := []impl.Kernel{
		{}, {Weights: []int{1}}, {Divisor: 1}, {Weights: []int{1, 1}, Divisor: 1}, {Weights: []int{1}, Radius: 1, Divisor: 1},
		kernelOf(3, 1, one), {Radius: -1, Weights: []int{1}, Divisor: 1}, {Radius: -2, Weights: kernelOf(1, 1, one).Weights, Divisor: 1},
		{Radius: math.MaxInt, Weights: []int{1}, Divisor: 1}, {Radius: math.MinInt, Weights: []int{1}, Divisor: 1},
		{Radius: -1, Divisor: 1}, {Radius: 1 << 62, Weights: []int{1}, Divisor: 1},
	}
	for radius := range 3 {
		for _, divisor := range []int{-999, -1, 0, 1000, math.MaxInt, math.MinInt} {
			out = append(out, kernelOf(radius, divisor, one))
		}
		good := kernelOf(radius, 1, one)
		for _, weight := range []int{-100, 100, math.MaxInt, math.MinInt} {
			for _, i := range []int{0, len(good.Weights) / 2, len(good.Weights) - 1} {
				bad := impl.Kernel{Radius: radius, Weights: slices.Clone(good.Weights), Divisor: 1}
				bad.Weights[i] = weight
				out = append(out, bad)
			}
		}
		out = append(out, impl.Kernel{Radius: radius, Weights: good.Weights[1:], Divisor: 1}, impl.Kernel{Radius: radius, Weights: append(good.Weights, 1), Divisor: 1})
	}
	return out
}

func TestConvolveImageFails(t *testing.T) {
	for _, k := range badKernels() {
		for _, m := range []impl.Image{picture(1, 1, 1), picture(5, 3, 4), picture(16, 16, 1)} {
			if !isZero(impl.ConvolveImage(m, k)) {
				t.Errorf("ConvolveImage with the kernel %v", k)
			}
		}
	}
	for i, m := range badPictures() {
		for radius := range 3 {
			if !isZero(impl.ConvolveImage(m, single(radius))) {
				t.Errorf("ConvolveImage of bad picture %d", i)
			}
		}
	}
}

// Promise 54: ConvolveImage with the weight 1 and the divisor 1 is the image, and an image of one color stays of one color.
func TestP54TheKernelWithOneWeightChangesNothing(t *testing.T) {
	for _, m := range scalePictures() {
		for radius := range 3 {
			if !equal(impl.ConvolveImage(m, single(radius)), m) {
				t.Errorf("ConvolveImage of %d by %d with the weight 1", m.Width, m.Height)
			}
		}
		plain := impl.FillImage(m.Width, m.Height, rawPixel(m, m.Width/2, m.Height/2))
		for _, k := range kernels() {
			out := impl.ConvolveImage(plain, k)
			if list, ok := impl.PaletteOf(out); !ok || len(list) != 1 || !hasShape(out, m.Width, m.Height, m.Planes) {
				t.Fatalf("ConvolveImage of one color has the colors %v", list)
			}
		}
	}
}

// Promise 55: ConvolveImage of a turned image with equal weights is the turned image.
func TestP55SymmetricKernelsTurnWithTheImage(t *testing.T) {
	for _, m := range scalePictures() {
		for radius := range 3 {
			for _, weight := range []int{-99, -1, 0, 1, 2, 99} {
				for _, divisor := range []int{1, 9, 25, 999} {
					k := kernelOf(radius, divisor, func(x int, y int) int { return weight })
					checkTurned(t, m, k)
				}
			}
		}
	}
}

// checkTurned checks that an image may be turned or mirrored before or after ConvolveImage.
func checkTurned(t *testing.T, m impl.Image, k impl.Kernel) {
	t.Helper()
	out := impl.ConvolveImage(m, k)
	if !hasShape(out, m.Width, m.Height, m.Planes) {
		t.Fatalf("ConvolveImage of %d by %d has a wrong shape", m.Width, m.Height)
	}
	for quarters := range 4 {
		if !equal(impl.ConvolveImage(impl.TurnImage(m, quarters), k), impl.TurnImage(out, quarters)) {
			t.Fatalf("ConvolveImage of %d by %d turned by %d", m.Width, m.Height, quarters)
		}
	}
	if !equal(impl.ConvolveImage(impl.MirrorImage(m), k), impl.MirrorImage(out)) {
		t.Fatalf("ConvolveImage of %d by %d mirrored", m.Width, m.Height)
	}
}

func TestScalingKeepsItsArguments(t *testing.T) {
	m := picture(5, 3, 2)
	m.Data = roomy(m.Data)
	for _, size := range [][2]int{{5, 3}, {10, 6}, {2, 2}} {
		keeps(t, "ScaleNearest", func() [][]int { return [][]int{impl.ScaleNearest(m, size[0], size[1]).Data} }, m.Data)
		keeps(t, "ScaleArea", func() [][]int { return [][]int{impl.ScaleArea(m, size[0], size[1]).Data} }, m.Data)
	}
	for radius := range 3 {
		k := single(radius)
		k.Weights = roomy(k.Weights)
		keeps(t, "ConvolveImage", func() [][]int { return [][]int{impl.ConvolveImage(m, k).Data} }, m.Data, k.Weights)
	}
}
