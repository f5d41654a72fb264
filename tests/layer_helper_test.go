package tests

import (
	"math"
	"slices"
	"testing"

	"loop.example/pixelworks/impl"
)

// modes returns all modes.
func modes() []int {
	return []int{impl.BlendNormal, impl.BlendMultiply, impl.BlendScreen, impl.BlendDarker, impl.BlendLighter}
}

// mixed returns what a mode makes of a lower and an upper number.
func mixed(mode int, a int, b int) int {
	switch mode {
	case impl.BlendMultiply:
		return roundHalfUp(a*b, 255)
	case impl.BlendScreen:
		return 255 - roundHalfUp((255-a)*(255-b), 255)
	case impl.BlendDarker:
		return min(a, b)
	case impl.BlendLighter:
		return max(a, b)
	}
	return b
}

// blended returns a lower number that is covered by an upper one.
func blended(mode int, a int, b int, alpha int) int {
	return roundHalfUp(alpha*mixed(mode, a, b)+(255-alpha)*a, 255)
}

// copied returns an image with numbers of its own.
func copied(m impl.Image) impl.Image {
	m.Data = slices.Clone(m.Data)
	return m
}

// isOn reports whether a pixel is on an image.
func isOn(m impl.Image, x int, y int) bool {
	return x >= 0 && x < m.Width && y >= 0 && y < m.Height
}

// covered returns an image that is covered by a layer: each pixel of the layer that is on the image, one by one.
func covered(m impl.Image, l impl.Layer) impl.Image {
	out := copied(m)
	eachPlace(l.Image, func(column int, row int) {
		if !isOn(m, l.X+column, l.Y+row) {
			return
		}
		pixel, upper := rawPixel(out, l.X+column, l.Y+row), rawPixel(l.Image, column, row)
		for i := range pixel {
			pixel[i] = blended(l.Mode, pixel[i], upper[i], l.Alpha)
		}
	})
	return out
}

// flattened returns an image that is covered by the layers that are not hidden.
func flattened(m impl.Image, list []impl.Layer) impl.Image {
	out := m
	for _, l := range list {
		if !l.Hidden {
			out = covered(out, l)
		}
	}
	return out
}

// sheetOf returns an image whose numbers are not those of picture with the same shape.
func sheetOf(seed int, width int, height int, planes int) impl.Image {
	return impl.Image{Width: width, Height: height, Planes: planes, Data: numbers(seed+1000, width*height*planes, 255)}
}

// grounds returns images of one pixel, of a tile's side, one less and one more, of several tiles, and of the largest side.
func grounds() []impl.Image {
	return []impl.Image{
		picture(1, 1, 1), picture(1, 1, 4), picture(3, 3, 2), picture(4, 4, 1), picture(5, 5, 3), picture(4, 5, 1), picture(5, 3, 2),
		picture(6, 5, 1), picture(8, 9, 1), picture(16, 1, 1), picture(1, 16, 3), picture(13, 16, 2), picture(16, 16, 1), picture(16, 15, 4),
	}
}

// placesFor returns places at which a layer of a side lies wholly on, partly on, and beside an image of another side.
func placesFor(side int, above int) []int {
	var out []int
	for _, n := range []int{-16, -above - 1, -above, 1 - above, -1, 0, 1, 3, 4, side - above, side - above + 1, side - 1, side, side + 1, 16} {
		if n >= -16 && n <= 16 && !slices.Contains(out, n) {
			out = append(out, n)
		}
	}
	return out
}

// eachLayer calls a function for layers of several sizes at many places of an image, by turns of many modes and alphas.
func eachLayer(m impl.Image, visit func(l impl.Layer)) {
	alphas := []int{255, 128, 1, 254, 127, 77, 0}
	turn := 0
	for _, size := range [][2]int{{1, 1}, {2, 1}, {3, 5}, {4, 4}, {16, 2}, {16, 16}} {
		image := sheetOf(turn, size[0], size[1], m.Planes)
		for _, x := range placesFor(m.Width, size[0]) {
			for _, y := range placesFor(m.Height, size[1]) {
				visit(impl.Layer{Image: image, X: x, Y: y, Mode: turn % 5, Alpha: alphas[turn%7]})
				turn++
			}
		}
	}
}

// stacks returns lists of up to six layers for an image, some of them hidden.
func stacks(m impl.Image) [][]impl.Layer {
	var all []impl.Layer
	eachLayer(m, func(l impl.Layer) {
		l.Hidden = len(all)%3 == 2
		all = append(all, l)
	})
	out := [][]impl.Layer{nil, {}}
	for i := range 42 {
		var list []impl.Layer
		for j := range 1 + i%6 {
			list = append(list, all[(i*i*7+j*(i+11))%len(all)])
		}
		out = append(out, list)
	}
	return out
}

// badLayers returns layers that are not valid for images with so many planes.
func badLayers(planes int) []impl.Layer {
	fine := impl.Layer{Image: sheetOf(1, 2, 2, planes), Alpha: 200}
	var out []impl.Layer
	add := func(change func(l *impl.Layer)) {
		l := fine
		change(&l)
		out = append(out, l)
	}
	for _, n := range []int{-17, 17, -18, 18, 1 << 32, math.MaxInt, math.MinInt} {
		add(func(l *impl.Layer) { l.X = n })
		add(func(l *impl.Layer) { l.Y = n })
		add(func(l *impl.Layer) { l.X, l.Y = n, n })
	}
	for _, n := range []int{-1, 5, 6, 1 << 32, math.MaxInt, math.MinInt} {
		add(func(l *impl.Layer) { l.Mode = n })
	}
	for _, n := range []int{-1, 256, 1 << 32, math.MaxInt, math.MinInt} {
		add(func(l *impl.Layer) { l.Alpha = n })
	}
	for other := 1; other <= 4; other++ {
		if other != planes {
			add(func(l *impl.Layer) { l.Image = sheetOf(1, 2, 2, other) })
			add(func(l *impl.Layer) { l.Image, l.X, l.Alpha = sheetOf(1, 1, 1, other), 16, 0 })
		}
	}
	for _, bad := range badPictures() {
		add(func(l *impl.Layer) { l.Image = bad })
	}
	add(func(l *impl.Layer) { l.Image = with(l.Image, 0, 256) })
	add(func(l *impl.Layer) { l.Image, l.X = with(l.Image, 4*planes-1, -1), -16 })
	return out
}

// hiddenOf returns the layer, hidden.
func hiddenOf(l impl.Layer) impl.Layer {
	l.Hidden = true
	return l
}

// coveredImage returns CoverImage, which must not fail.
func coveredImage(t *testing.T, m impl.Image, l impl.Layer) impl.Image {
	t.Helper()
	out, ok := impl.CoverImage(m, l)
	if !ok || !hasShape(out, m.Width, m.Height, m.Planes) || !impl.ValidImage(out) {
		t.Fatalf("CoverImage of %d by %d with %v fails", m.Width, m.Height, l)
	}
	return out
}

// flattenedImage returns FlattenLayers, which must not fail.
func flattenedImage(t *testing.T, m impl.Image, list []impl.Layer) impl.Image {
	t.Helper()
	out, ok := impl.FlattenLayers(m, list)
	if !ok || !hasShape(out, m.Width, m.Height, m.Planes) || !impl.ValidImage(out) {
		t.Fatalf("FlattenLayers of %d by %d with %v fails", m.Width, m.Height, list)
	}
	return out
}

// roomyLayers returns layers whose images have spare capacity that a call must not use, and the memory of these.
func roomyLayers(list []impl.Layer) ([]impl.Layer, [][]int) {
	out := slices.Clone(list)
	var memory [][]int
	for i := range out {
		out[i].Image.Data = roomy(out[i].Image.Data)
		memory = append(memory, out[i].Image.Data)
	}
	return out, memory
}

// sameLayers reports whether two lists have the same layers.
func sameLayers(a []impl.Layer, b []impl.Layer) bool {
	return slices.EqualFunc(a, b, func(x impl.Layer, y impl.Layer) bool {
		return equal(x.Image, y.Image) && x.X == y.X && x.Y == y.Y && x.Mode == y.Mode && x.Alpha == y.Alpha && x.Hidden == y.Hidden
	})
}
